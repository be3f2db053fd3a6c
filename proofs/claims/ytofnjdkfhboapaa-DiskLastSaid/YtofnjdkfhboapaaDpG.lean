/-
  The program's own answers of layer 12: sectors with one more; written, Write.
-/
import Derived.Test.YtofnjdkfhboapaaDpD
import Derived.Test.YtofnjdkfhboapaaDpI
import Derived.Test.YtofnjdkfhboapaaDkG
namespace Go.Proofs.Ytofnjdkfhboapaa
open Go.RowKit
set_option linter.unusedVariables false
set_option linter.unusedSimpArgs false

/-- Nothing has turned but blocks from lo to below hi. -/
structure Mid (lo hi : Nat) (w w' : World) : Prop where
  os : w'.os = w.os
  tape : w'.tape = w.tape
  output : w'.output = w.output
  size : w.heap.size ≤ w'.heap.size
  block : ∀ k, k < w.heap.size → k < lo ∨ hi ≤ k → w'.heap[k]? = w.heap[k]?
theorem Mid.of {lo hi : Nat} {w w' : World} (h : Below w.heap.size w w') : Mid lo hi w w' := ⟨h.os, h.tape, h.output, h.size, fun k hk _ => h.block k hk⟩
theorem Mid.trans {lo hi : Nat} {a b c : World} (h : Mid lo hi a b) (k : Mid lo hi b c) : Mid lo hi a c :=
  ⟨k.os.trans h.os, k.tape.trans h.tape, k.output.trans h.output, Nat.le_trans h.size k.size, fun i hi hn => (k.block i (Nat.lt_of_lt_of_le hi h.size) hn).trans (h.block i hi hn)⟩
theorem Mid.below {lo hi : Nat} {w w' : World} (h : Mid lo hi w w') (hs : lo ≤ w.heap.size) : Below lo w w' := ⟨h.os, h.tape, h.output, h.size, fun k hk => h.block k (by omega) (.inl hk)⟩
theorem Mid.bk {lo hi : Nat} {w w' : World} (h : Mid lo hi w w') {b : Nat} {d : Dsk} {A : Option Addr} {n c : Nat} (hB : Bk w b d A n c) (hb : b < lo ∨ hi ≤ b) : Bk w' b d A n c := by
  have e := h.block b hB.lt hb
  refine ⟨fun j v hv => ?_, fun j hj => ?_⟩
  · rw [World.cell?_of_block (w := w) e]; exact hB.bx j v hv
  · rw [World.cell?_of_block (w := w) e, World.frozen?_of_block (w := w) e]; exact hB.th j hj
theorem Mid.one {lo hi g : Nat} {w w' : World} (hb : Below lo w w') (hh : ∀ k, k ≠ g → w'.heap[k]? = w.heap[k]?) (hg : lo ≤ g ∧ g < hi ∨ w.heap.size ≤ g) : Mid lo hi w w' :=
  ⟨hb.os, hb.tape, hb.output, hb.size, fun k hk h => hh k (by omega)⟩
theorem Mid.two {lo hi g : Nat} {w a b : World} (h : Below w.heap.size w a) (hb : Below lo a b) (hh : ∀ k, k ≠ g → b.heap[k]? = a.heap[k]?) (hg : w.heap.size ≤ g) : Mid lo hi w b :=
  ⟨hb.os.trans h.os, hb.tape.trans h.tape, hb.output.trans h.output, Nat.le_trans h.size hb.size, fun k hk _ => (hh k (by omega)).trans (h.block k hk)⟩
theorem row_cap {w : World} {base : Nat} {e : TypeId} {s : Nat} {A : Option Addr} {n c : Nat} {xs : List Value} (h : w.ownsRow base e s (.slice A n c) n xs) : n ≤ c ∧ c ≤ maxLen := by
  obtain ⟨h0, h1⟩ := h
  rcases h1 with ⟨hv, hn0⟩ | ⟨g, cap, cur, hv, hbg, hg, hnc, hcm, hcs, htk⟩
  · injection hv with h1 h2 h3
    exact ⟨by omega, by omega⟩
  · injection hv with h1 h2 h3
    subst h3
    exact ⟨hnc, hcm⟩
theorem row_mono {w : World} {base base' : Nat} {e : TypeId} {s k : Nat} {v : Value} {xs : List Value} (h : w.ownsRow base e s v k xs) (hb : base' ≤ base) : w.ownsRow base' e s v k xs := by
  obtain ⟨h0, h1⟩ := h
  refine ⟨h0, ?_⟩
  rcases h1 with h | ⟨g, cap, cur, hv, hbg, r⟩
  · exact .inl h
  · exact .inr ⟨g, cap, cur, hv, Nat.le_trans hb hbg, r⟩

theorem ins_get (xs : List Sx) (x : Sx) (i k : Nat) (hi : i ≤ xs.length) (hk : k < (xs.take i ++ x :: xs.drop i).length) :
    (∃ h : k < xs.length, k < i ∧ (xs.take i ++ x :: xs.drop i)[k] = xs[k]) ∨ (k = i ∧ (xs.take i ++ x :: xs.drop i)[k] = x) ∨ (∃ h : k - 1 < xs.length, i < k ∧ (xs.take i ++ x :: xs.drop i)[k] = xs[k - 1]) := by
  have hl : (xs.take i).length = i := by rw [List.length_take]; omega
  rcases Nat.lt_trichotomy k i with h | h | h
  · refine .inl ⟨by omega, h, ?_⟩
    rw [List.getElem_append_left (by omega), List.getElem_take]
  · subst h
    refine .inr (.inl ⟨rfl, ?_⟩)
    rw [List.getElem_append_right (by omega)]
    simp [hl]
  · have hk' : k < xs.length + 1 := by simp at hk; omega
    refine .inr (.inr ⟨by omega, h, ?_⟩)
    rw [List.getElem_append_right (by omega)]
    obtain ⟨p, rfl⟩ : ∃ p, k = i + (p + 1) := ⟨k - i - 1, by omega⟩
    simp [hl]
theorem apX_ins {xs : List Sx} (h : ApX xs) (x : Sx) (i : Nat) (hi : i ≤ xs.length) (hx : ∀ y ∈ xs, apX y x ∧ apX x y) : ApX (xs.take i ++ x :: xs.drop i) := by
  intro j k hj hk hne
  rcases ins_get xs x i j hi hj with ⟨j1, j2, e1⟩ | ⟨j2, e1⟩ | ⟨j1, j2, e1⟩ <;> rcases ins_get xs x i k hi hk with ⟨k1, k2, e2⟩ | ⟨k2, e2⟩ | ⟨k1, k2, e2⟩ <;> rw [e1, e2]
  · exact h _ _ j1 k1 hne
  · exact (hx _ (List.getElem_mem _)).1
  · exact h _ _ j1 k1 (by omega)
  · exact (hx _ (List.getElem_mem _)).2
  · omega
  · exact (hx _ (List.getElem_mem _)).2
  · exact h _ _ j1 k1 (by omega)
  · exact (hx _ (List.getElem_mem _)).1
  · exact h _ _ j1 k1 (by omega)
/-- A sector with bytes in a block of their own is put between. -/
theorem owT_ins {w : World} {base : Nat} {xs : List Sx} (h3 : ∀ x ∈ xs, Own w base 5 x.A x.c x.l) (h4 : ApX xs) (i : Nat) (hi : i ≤ xs.length) {A' : Option Addr} {c' : Nat} (a : Int) {V d : Nat} {y : List UInt8}
    (ho : Owns fk 2 w base 56 A' c' (xs.take i ++ ⟨a, some ⟨V, 0, none⟩, d, y⟩ :: xs.drop i)) (hy : Own w base 5 (some ⟨V, 0, none⟩) d y) (hV : ∀ x ∈ xs, ∀ b, x.A = some b → b.block < V) :
    OwT w base A' c' ((xs.map toS).take i ++ ⟨a, y⟩ :: (xs.map toS).drop i) := by
  refine ⟨_, ?_, ho, fun x hx => ?_, apX_ins h4 _ i hi fun x hx => ?_⟩
  · rw [List.map_append, List.map_cons, List.map_take, List.map_drop]; rfl
  · rcases List.mem_append.1 hx with hx | hx
    · exact h3 x (List.mem_of_mem_take hx)
    · rcases List.mem_cons.1 hx with rfl | hx
      · exact hy
      · exact h3 x (List.mem_of_mem_drop hx)
  · cases hA : x.A with
    | none => exact ⟨.inl hA, .inr (by rw [hA]; simp)⟩
    | some b =>
      have hb := hV x hx b hA
      have hne : some b ≠ some (⟨V, 0, none⟩ : Addr) := fun e => by injection e with e; rw [e] at hb; exact absurd hb (Nat.lt_irrefl _)
      exact ⟨.inr (by rw [hA]; exact hne), .inr (by rw [hA]; exact fun e => hne e.symm)⟩

/-- The call hands back sectors of its own. -/
def RetS (w0 w : World) (base : Nat) (L : List Sct) (e : Ending) (w' : World) : Prop := ∃ A' m c', e = .returned (.slice A' m c') ∧ Hid (L.length = m) ∧ OwT w' base A' c' L ∧ Mid base w0.heap.size w w'

theorem insert_any (g n i vb : Nat) (xs : List Sx) (x : Sx) (w : World) (hn : xs.length = n) (h5 : n ≤ 9000) (hi : i ≤ n)
    (hcs : ∀ j u, (flat fk xs)[j]? = some u → w.cell? ⟨g, 0 + j, none⟩ = some u) (hvs : ∀ j u, (fk x)[j]? = some u → w.cell? ⟨vb, 0 + j, none⟩ = some u) :
    Calls Try.prog 45 #[.slice (some ⟨g, 0, none⟩) n n, .int .i64 (i : Int), .slice (some ⟨vb, 0, none⟩) 1 1] w (RetIn w (n + 1) (xs.take i ++ x :: xs.drop i)) := by
  rcases Nat.lt_or_ge i n with h | h
  · exact insert_mid g n i vb xs x w hn h5 h hcs hvs
  · obtain rfl : i = n := by omega
    rw [List.take_of_length_le (by omega), List.drop_eq_nil_of_le (by omega)]
    exact insert_end g i vb xs x w hn h5 hcs hvs
theorem mid_get (l : List Sct) (x : Sct) (i : Nat) (hi : i ≤ l.length) (h : i < (l.take i ++ x :: l.drop i).length) : (l.take i ++ x :: l.drop i)[i] = x := by
  rw [List.getElem_append_right (by rw [List.length_take]; omega)]
  simp [Nat.min_eq_left hi]
theorem mid_set (l : List Sct) (x y : Sct) (i : Nat) (hi : i ≤ l.length) : (l.take i ++ x :: l.drop i).set i y = l.take i ++ y :: l.drop i := by
  rw [List.set_append_right _ _ (by rw [List.length_take]; omega), List.length_take, Nat.min_eq_left hi, Nat.sub_self, List.set_cons_zero]
set_option maxRecDepth 100000 in
set_option maxHeartbeats 1600000 in
theorem dwith_of (L : List Sct) (G n : Nat) (a : Int) (B : Option Addr) (q : Nat) (y : List UInt8) (base : Nat) (hn : Hid (L.length = n)) (h5 : n ≤ 6200) (hS : Hid (secsB L = true)) (h8 : Hid (∀ i (hi : i < L.length), L[i].b.length = 128)) (hy : Hid (y.length = 128)) (w0 w : World) (hb0 : Below w0.heap.size w0 w) (hbase : base ≤ w0.heap.size) (ho : OwT w0 base (some ⟨G, 0, none⟩) n L) (hs : Rd w B q y) :
    Calls Try.prog 39 #[.slice (some ⟨G, 0, none⟩) n n, .int .i64 a, .slice B 128 q] w (RetS w0 w base (withS L a y)) := by
  obtain ⟨i0, hi0, hz0, hz1, hz2⟩ := info_parts info_u8
  have HO := hid ho
  have HB := hid hs
  clear ho hs
  go_enter Try.func39, Try.ntmps39
  go_wp2_with fail
  refine (find_of L (some ⟨G, 0, none⟩) n n a hn (by omega) hS _ (HO.out.rd.keep hb0)).mono ?_
  rintro e w1 ⟨i, t, rfl, hP, hT, b1⟩
  have hb1 := hb0.trans (b1.mono hb0.size)
  cases t with
  | true =>
    obtain ⟨hi, he⟩ := hT.1 rfl
    have hW := withS_old hS.out hP hi he y
    have h128 := h8.out i hi
    obtain ⟨g, X, x, hX, hg0, hg1, hc, ho1, hup⟩ := (HO.out.keep hb1).upd i hi (by omega)
    injection hX with hX
    subst hX
    rw [h128] at hc
    have hin : (i : Int) < (n : Int) := by have := hn.out; omega
    have hgw : g < w0.heap.size := by
      obtain ⟨g', X', x', hX', hg0', hg1', hc', ho1', hup'⟩ := (HO.out).upd i hi (by omega)
      injection hX' with hX'
      subst hX'
      have := keep hb1 hc'
      rw [hc] at this
      injection this with this
      injection this with this
      injection this with this
      injection this with this
      omega
    have HE := hid he
    have HL := hid h128
    have HU := hid hup
    clear hT hP he hup h128
    go_wp2_with (refine wpList_copy_full rfl (.tmp 28) (.tmp 29) 30 rfl base 5 Try.underlying30 hi0 hz1 g 128 x x rfl _ HL.out ho1 B q y hy.out rfl (HB.out.keep b1) (by omega) ?_; intro w4 ow4 hh4 b4)
    go_ret
    refine ⟨some ⟨G, 0, none⟩, n, n, rfl, hid (by rw [hW, List.length_set, hn.out]), ?_, (Mid.of b1).trans (Mid.one b4 hh4 (.inl ⟨hg0, hgw⟩))⟩
    rw [hW, ← HE.out]
    exact HU.out w4 y (by rw [hy.out, HL.out]) ow4 hh4
  | false =>
    have hno : ∀ (hi : i < L.length), L[i].a ≠ a := fun hi he => by have := hT.2 ⟨hi, he⟩; cases this
    have hW := withS_new hS.out hP hno y
    have hil := hP.le
    obtain ⟨xs, h1, h2, h3, h4⟩ := HO.out.keep hb1
    have hxn : xs.length = n := by rw [← hn.out, ← h1, List.length_map]
    have hin : i ≤ n := by rw [← hn.out]; exact hil
    have hcs : ∀ j u, (flat fk xs)[j]? = some u → w1.cell? ⟨G, j, none⟩ = some u := fun j u hj => by
      have hp : 0 < xs.length := by
        rcases Nat.eq_zero_or_pos xs.length with h0 | h0
        · rw [List.eq_nil_of_length_eq_zero h0, flat] at hj; simp at hj
        · exact h0
      obtain ⟨g', hg', _, _, _, hc', _⟩ := row_at h2 hp
      injection hg' with hg'
      injection hg' with hg'
      rw [hg']; exact hc' j u hj
    have hV : ∀ x ∈ xs, ∀ b, x.A = some b → b.block < w1.heap.size := fun x hx b hb => by
      have hx := h3 x hx
      rw [hb] at hx
      obtain ⟨g', _, rfl, _, hs', _⟩ := row_some hx
      exact hs'
    have mk := make_128 w1
    have ow := Own.lit w1 (base := base) 5 (List.replicate 128 0) (Nat.le_trans hbase (Nat.le_trans hb0.size b1.size)) (by simp)
    have hbm := below1 w1 (.cells (u8s (List.replicate 128 0)).toArray 5)
    have hzq : (List.replicate 128 (0 : UInt8)).length = 128 := by simp
    generalize List.replicate 128 (0 : UInt8) = z at mk ow hbm hzq
    rw [hzq] at ow
    have hsz : (w1.alloc (.cells (u8s z).toArray 5)).heap.size = w1.heap.size + 1 := by simp [go_sem]
    have F1 := hid h1
    have F2 := hid h2
    have F3 := hid h3
    have F4 := hid h4
    have FC := hid hcs
    have FV := hid hV
    have FX := hid hxn
    have FW := hid hW
    have FI := hid hil
    have FO := hid ow
    have FQ := hid hzq
    clear hT hP hno hW hil h1 h2 h3 h4 hxn hcs hV ow hzq
    go_wp2_with fail
    have hb3 : Below w1.heap.size w1 ((w1.alloc (.cells (u8s z).toArray 5)).alloc (.cells #[.int .i64 a, .slice (some ⟨w1.heap.size, 0, none⟩) 128 128] 56)) := below_in hbm (below1 _ _)
    have hvs : ∀ j u, (fk ⟨a, some ⟨w1.heap.size, 0, none⟩, 128, z⟩)[j]? = some u → ((w1.alloc (.cells (u8s z).toArray 5)).alloc (.cells #[.int .i64 a, .slice (some ⟨w1.heap.size, 0, none⟩) 128 128] 56)).cell? ⟨w1.heap.size + 1, 0 + j, none⟩ = some u := fun j u hj => by
      have h := range_new (w1.alloc (.cells (u8s z).toArray 5)) #[.int .i64 a, .slice (some ⟨w1.heap.size, 0, none⟩) 128 128] 56 j u (by simpa [fk, FQ.out] using hj)
      rwa [hsz] at h
    have FO3 := FO.out.keep (below1 _ (.cells #[.int .i64 a, .slice (some ⟨w1.heap.size, 0, none⟩) 128 128] 56))
    have hs3 : w1.heap.size < ((w1.alloc (.cells (u8s z).toArray 5)).alloc (.cells #[.int .i64 a, .slice (some ⟨w1.heap.size, 0, none⟩) 128 128] 56)).heap.size := by simp [go_sem]
    generalize World.alloc (World.alloc w1 _) _ = w3 at hb3 hvs FO3 hs3 ⊢
    clear mk hbm hsz FO
    refine (insert_any G n i (w1.heap.size + 1) xs ⟨a, some ⟨w1.heap.size, 0, none⟩, 128, z⟩ w3 FX.out (by omega) hin (fun j u hj => by rw [Nat.zero_add]; exact keep hb3 (FC.out j u hj)) hvs).mono ?_
    rintro e w4 ⟨c4, rfl, ho4, b4⟩
    have hb4 := below_in hb3 b4
    have FO4 := FO3.keep b4
    have hin2 : (i : Int) < (n : Int) + 1 := by omega
    have hlx : i < (xs.take i ++ (⟨a, some ⟨w1.heap.size, 0, none⟩, 128, z⟩ : Sx) :: xs.drop i).length := by simp [FX.out]; omega
    have hcap := row_cap ho4
    have hcell : w4.cell? ⟨w3.heap.size, i * 2 + 1, none⟩ = some (.slice (some ⟨w1.heap.size, 0, none⟩) 128 128) := by
      obtain ⟨g', hg', _, _, _, hc', _⟩ := row_at ho4 (by omega)
      injection hg' with hg'
      injection hg' with hg'
      rw [hg']
      refine hc' _ _ ?_
      rw [flat_at fk_len _ i hlx 1 (by omega)]
      rcases ins_get xs ⟨a, some ⟨w1.heap.size, 0, none⟩, 128, z⟩ i i (by rw [FX.out]; exact hin) hlx with ⟨_, h, _⟩ | ⟨_, h⟩ | ⟨_, h, _⟩
      · omega
      · rw [h]; simp [fk, FQ.out]
      · omega
    have hc4 : (c4 : Int) ≤ 9223372036854775807 := by have := hcap.2; unfold maxLen at this; omega
    have hn4 : (n : Int) + 1 ≤ (c4 : Int) := by have := hcap.1; simp [FX.out] at this; omega
    have HH := hid ho4
    have HX := hid hlx
    clear hvs FO3 ho4 hlx hcap
    go_wp2_with (refine wpList_copy_full rfl (.tmp 28) (.tmp 29) 30 rfl base 5 Try.underlying30 hi0 hz1 w1.heap.size 128 128 128 rfl z FQ.out FO4 B q y hy.out rfl (HB.out.keep (below_in (below_in (Below.refl _ _) b1) hb4)) (by omega) ?_; intro w5 ow5 hh5 b5)
    go_ret
    have hbw : w.heap.size ≤ w1.heap.size := b1.size
    have hb01 := hb0.size
    refine ⟨some ⟨w3.heap.size, 0, none⟩, n + 1, c4, by simp, hid (by rw [FW.out]; have := FI.out; have := hn.out; simp; omega), ?_, Mid.two (below_in (below_in (Below.refl _ _) b1) hb4) b5 hh5 hbw⟩
    rw [FW.out, ← F1.out]
    · have ef : fk ⟨a, some ⟨w1.heap.size, 0, none⟩, 128, z⟩ = fk ⟨a, some ⟨w1.heap.size, 0, none⟩, 128, y⟩ := by simp [fk, FQ.out, hy.out]
      have h4 := HH.out
      unfold Owns at h4
      rw [flat_append, flat, ef] at h4
      refine owT_ins (fun x hx => row_else hh5 (own_monob ((F3.out x hx).keep hb4) (Nat.le_refl _)) fun b hb hbg => ?_) F4.out i (by rw [FX.out]; exact hin) a (A' := some ⟨w3.heap.size, 0, none⟩) (c' := c4) ?_ ow5 FV.out
      · have := FV.out x hx b hb
        omega
      · unfold Owns
        rw [flat_append, flat]
        refine row_else hh5 (A := some ⟨w3.heap.size, 0, none⟩) (row_mono (by simpa using h4) (by omega)) fun b hb hbg => ?_
        injection hb with hb
        subst hb
        simp only at hbg
        omega
end Go.Proofs.Ytofnjdkfhboapaa
