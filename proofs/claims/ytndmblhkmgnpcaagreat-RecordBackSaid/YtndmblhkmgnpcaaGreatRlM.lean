/-
  Slices of blocks cut; boxes while a region draws its order.
-/
import Derived.Test.YtndmblhkmgnpcaaGreatRlB
import Derived.Test.YtndmblhkmgnpcaaGreatRcQ
import Derived.Deep.RegionHeld
namespace Go.Proofs.YtndmblhkmgnpcaaGreat
open Go.RowKit
set_option linter.unusedVariables false
set_option linter.unusedSimpArgs false

/-- A slice of slices of the call's own, whose slices are those that lay there at w0. -/
def CpB (w0 w : World) (A : Option Addr) (c : Nat) (L : List (List UInt8)) : Prop :=
  ∃ xs : List Bx, xs.map (·.l) = L ∧ Owns fb 1 w w0.heap.size 51 A c xs ∧ (∀ x ∈ xs, Rd w0 x.A x.c x.l) ∧ Below w0.heap.size w0 w
theorem CpB.nil (w0 w : World) (hb : Below w0.heap.size w0 w) : CpB w0 w none 0 [] := ⟨[], rfl, Owns.nil w _ _, fun x hx => (by cases hx), hb⟩
theorem CpB.keep {w0 w w' : World} {A : Option Addr} {c : Nat} {L : List (List UInt8)} (h : CpB w0 w A c L) (hb : Below w.heap.size w w') : CpB w0 w' A c L := by
  obtain ⟨xs, h1, h2, h3, h4⟩ := h
  exact ⟨xs, h1, h2.keep hb, h3, below_in h4 hb⟩
theorem CpB.be {w0 w : World} {A : Option Addr} {c : Nat} {L : List (List UInt8)} (h : CpB w0 w A c L) : Below w0.heap.size w0 w := h.choose_spec.2.2.2
theorem CpB.rd {w0 w : World} {A : Option Addr} {c : Nat} {L : List (List UInt8)} (h : CpB w0 w A c L) : RdB w A c L := by
  obtain ⟨xs, h1, h2, h3, h4⟩ := h
  exact ⟨xs, h1, h2.rd fb_len, fun x hx => (h3 x hx).keep h4⟩
/-- What lies in a block of its own, and is no row of slices of bytes, stays. -/
def NoRow (w w' : World) : Prop := w.heap.size ≤ w'.heap.size ∧ ∀ (g : Nat) (cs : Array Value) (t : TypeId), w.heap[g]? = some (Obj.cells cs t (0, 0)) → t ≠ 51 → w'.heap[g]? = w.heap[g]?
theorem run_append_c {w0 w : World} {A : Option Addr} {c : Nat} {L : List (List UInt8)} (n : Nat) (hn : L.length = n) (hown : CpB w0 w A c L) {A1 : Option Addr} {c1 : Nat} {M : List (List UInt8)} (n1 : Nat) (hn1 : M.length = n1) (hr : RdB w0 A1 c1 M) (hlen : n + n1 ≤ 10000) :
    ∃ A' c' w', (Builtin.append_ #[45, 45] 45 #[.slice A n c, .slice A1 n1 c1]).run Tryz.prog w = .ok (.slice A' (n + n1) c') w' ∧ CpB w0 w' A' c' (L ++ M) ∧ NoRow w w' := by
  obtain ⟨xs, h1, h2, h3, h4⟩ := hown
  obtain ⟨ys, k1, k2, k3⟩ := hr
  obtain ⟨i0, hi0, hz0, hz1, hz2⟩ := info_parts info_Bs
  have e1 : n = xs.length := by rw [← hn, ← h1, List.length_map]
  have e2 : n1 = ys.length := by rw [← hn1, ← k1, List.length_map]
  subst e1 e2
  obtain ⟨A', c', w', hrun, m1, m2, m3⟩ := run_append_s (P := Tryz.prog) (ty := 45) fb_len (by omega) fb_one Tryz.underlying45 hi0 hz0 rfl hz1 hz2 (by omega) h2 (k2.keep h4) (by omega) h4.size
  refine ⟨A', c', w', hrun, ⟨xs ++ ys, by rw [List.map_append, h1, k1], m1, fun x hx => ?_, h4.trans m2⟩, m3.size, fun g cs t hg hne => m3.block g (Array.getElem?_eq_some_iff.1 hg).1 ?_⟩
  · rcases List.mem_append.1 hx with hx | hx
    · exact h3 x hx
    · exact k3 x hx
  · rcases h2.2 with ⟨hv, _⟩ | ⟨g', cap, cur, hv, _, hgb, _⟩
    · rw [hv]; simp [Value.ownBlock]
    · rw [hv]
      intro e'
      obtain rfl : g = g' := by simpa [Value.ownBlock] using e'
      rw [hg] at hgb
      simp at hgb
      exact hne hgb.2
theorem wpList_append_c {w0 w : World} {ops : Array Oper} {rest : List Oper} {o : Oper} {a : Act} {Q : Exit → Act → World → Prop} (hgd : o.guard = none) (x0 x : Operand)
    (ho : o.op = .call { callee := .builtin .append, args := #[x0, x], argTypes := #[45, 45] }) (hty : o.type = 45)
    (A : Option Addr) (n c : Nat) (L : List (List UInt8)) (hn : Hid (L.length = n)) (hs' : a.eval x0 = .slice A n c) (hown : CpB w0 w A c L)
    (A1 : Option Addr) (n1 c1 : Nat) (M : List (List UInt8)) (hn1 : Hid (M.length = n1)) (hx : a.eval x = .slice A1 n1 c1) (hr : RdB w0 A1 c1 M) (hlen : n + n1 ≤ 10000)
    (h : ∀ A' c' w', CpB w0 w' A' c' (L ++ M) → NoRow w w' → wpList Tryz.prog ops Q rest (a.put o.dst (.slice A' (n + n1) c')) w') : wpList Tryz.prog ops Q (o :: rest) a w := by
  refine wpList_plain hgd fun K hK => ?_
  obtain ⟨A', c', w', hrun, h2, h3⟩ := run_append_c n hn.out hown n1 hn1.out hr hlen
  unfold Oper.wp execOp
  simp only [ho, hty, resolve, invoke, builtin, Sem.run_bind, Sem.run_pure, Result.andThen_ok, List.map_toArray, List.map_cons, List.map_nil, hs', hx, hrun]
  exact hK _ _ (h A' c' w' h2 h3)
theorem step_append_c {w0 w : World} {ops : Array Oper} {o : Oper} {a : Act} {K : Act → World → Prop} {Q : Exit → Act → World → Prop} {E : Prop} (hgd : o.guard = none) (x0 x : Operand)
    (ho : o.op = .call { callee := .builtin .append, args := #[x0, x], argTypes := #[45, 45] }) (hty : o.type = 45)
    (A : Option Addr) (n c : Nat) (L : List (List UInt8)) (hn : Hid (L.length = n)) (hs' : a.eval x0 = .slice A n c) (hown : CpB w0 w A c L)
    (A1 : Option Addr) (n1 c1 : Nat) (M : List (List UInt8)) (hn1 : Hid (M.length = n1)) (hx : a.eval x = .slice A1 n1 c1) (hr : RdB w0 A1 c1 M) (hlen : n + n1 ≤ 10000)
    (h : ∀ A' c' w', CpB w0 w' A' c' (L ++ M) → NoRow w w' → K (a.put o.dst (.slice A' (n + n1) c')) w') :
    if Region.wanted o (yielded ops a.tmps) = true then Oper.wp Tryz.prog o a w K Q else E := by
  have hw : Region.wanted o (yielded ops a.tmps) = true := by simp [Region.wanted, hgd]
  rw [if_pos hw]
  obtain ⟨A', c', w', hrun, h2, h3⟩ := run_append_c n hn.out hown n1 hn1.out hr hlen
  unfold Oper.wp execOp
  simp only [ho, hty, resolve, invoke, builtin, Sem.run_bind, Sem.run_pure, Result.andThen_ok, List.map_toArray, List.map_cons, List.map_nil, hs', hx, hrun]
  exact h A' c' w' h2 h3
theorem flat_fb : ∀ xs : List Bx, flat fb xs = xs.map fun x => Value.slice x.A x.l.length x.c
  | [] => rfl
  | x :: xs => by rw [List.map_cons, ← flat_fb xs]; rfl
theorem CpB.at_ {w0 w : World} {A : Option Addr} {c : Nat} {L : List (List UInt8)} (h : CpB w0 w A c L) (hp : 0 < L.length) :
    ∃ g, A = some ⟨g, 0, none⟩ ∧ w0.heap.size ≤ g ∧ (∀ j (hj : j < L.length), ∃ X x, w.cell? ⟨g, j, none⟩ = some (.slice X L[j].length x) ∧ Rd w0 X x L[j]) ∧ (∀ j, w.frozen? ⟨g, j, none⟩ = false) ∧
      (∀ j X x l', Rd w0 X x l' → CpB w0 (w.setCell ⟨g, j, none⟩ (.slice X l'.length x)) A c (L.set j l')) := by
  obtain ⟨xs, h1, h2, h3, h4⟩ := h
  have hpx : 0 < xs.length := by rw [← h1, List.length_map] at hp; exact hp
  rcases h2.2 with ⟨hv, hn⟩ | ⟨g, cap, cur, hv, hbg, hg, hnc, hcm, hcs, htk⟩
  · omega
  · injection hv with e1 e2 e3
    subst e1
    refine ⟨g, rfl, hbg, fun j hj => ?_, fun j => frozen_of_row w g j cur 51 hg, fun j X x l' hl => ?_⟩
    · subst h1
      have hj' : j < xs.length := by rwa [List.length_map] at hj
      obtain ⟨b, o, hA, hc⟩ := (h2.rd fb_len).2.2 hpx
      cases hA
      have := hc j (.slice xs[j].A xs[j].l.length xs[j].c) (by rw [flat_fb]; simp [hj'])
      rw [Nat.zero_add] at this
      refine ⟨xs[j].A, xs[j].c, ?_, ?_⟩
      · simpa using this
      · simpa using h3 xs[j] (List.getElem_mem hj')
    · refine ⟨xs.set j ⟨X, x, l'⟩, by rw [List.map_set, h1], ?_, fun y hy => ?_, h4.setCell (p := ⟨g, j, none⟩) hbg _⟩
      · have hs := (World.ownsRow.stored (show w.ownsRow w0.heap.size 51 1 (.slice (some ⟨g, 0, none⟩) xs.length c) xs.length (flat fb xs) from h2) j (.slice X l'.length x)).1
        unfold Owns
        rw [List.length_set, flat_fb, List.map_set, ← flat_fb]
        exact hs
      · rcases List.mem_or_eq_of_mem_set hy with hy | rfl
        · exact h3 y hy
        · exact hl

set_option maxRecDepth 100000 in
set_option maxHeartbeats 6400000 in
theorem mixed_of (l x : List (List UInt8)) (r r1 : Rec) (s n s1 n1 : Int) (h : Ris l r s n) (h1 : Ris x r1 s1 n1) (hne : s ≠ s1 ∨ n ≠ n1) (m k : Nat) (hl : Hid (l.length = m)) (hx : Hid (x.length = m)) (hk : k < m) (h2 : 2 ≤ m) (A : Option Addr) (c : Nat) (B : Option Addr) (d : Nat) (w : World) (hr : RdB w A c l) (hs : RdB w B d x) :
    Calls Tryz.prog 27 #[.slice A m c, .slice B m d, .int .i64 (k : Int)] w fun e w' => e = .returned (.bool true) ∧ Below w.heap.size w w' := by
  have hd2 : (d : Int) ≤ 9223372036854775807 := by have := hs.cap; omega
  have hd1 : (m : Int) ≤ d := by have := hs.len; have := hx.out; omega
  have hm3 : m ≤ 3 := by have := h.pos; have := hl.out; omega
  have HN := hid (show ∀ xk, x[k]? = some xk → ∀ r' s' n', ¬ Ris (l.set k xk) r' s' n' from fun xk hxk r' s' n' => by
    have hlm := hl.out
    have hxm := hx.out
    have hkx : k < x.length := by omega
    have e : xk = x[k] := by rw [List.getElem?_eq_getElem hkx] at hxk; exact (Option.some.inj hxk).symm
    subst e
    have hj : ∃ j, j ≠ k ∧ j < m := ⟨if k = 0 then 1 else 0, by split <;> omega, by split <;> omega⟩
    obtain ⟨j, hjk, hjm⟩ := hj
    refine ris_mixed h h1 hne (j := j) (k := k) (by omega) hkx (by rw [List.length_set]; omega) (by rw [List.length_set]; omega) ?_ ?_
    · rw [List.getElem_set_ne (by omega)]
    · rw [List.getElem_set_self])
  have HR := hid hr
  have hkm : (k : Int) < (m : Int) := by omega
  have cp0 := CpB.nil w w (Below.refl _ _)
  go_enter Tryz.func27, Tryz.ntmps27
  obtain ⟨b, o, rfl, hcell⟩ := hs.at_ (by rw [hx.out]; omega)
  obtain ⟨X, xc, hX, hRX⟩ := hcell k (by rw [hx.out]; exact hk)
  obtain ⟨xk, hxk⟩ : ∃ xk, x[k]'(by rw [hx.out]; exact hk) = xk := ⟨_, rfl⟩
  have hxk' : x[k]? = some xk := by rw [List.getElem?_eq_getElem (by rw [hx.out]; exact hk), hxk]
  rw [hxk] at hX hRX
  obtain ⟨p, hp⟩ : ∃ p, xk.length = p := ⟨_, rfl⟩
  rw [hp] at hX
  have HNK := hid (HN.out xk hxk')
  have HP := hid hp
  have HRX := hid hRX
  clear hcell hxk hxk' HN hr hs h h1 hne hp hRX
  have one : True := trivial
  go_wp2_with (at_builtin; clear one; refine wpList_append_c rfl (.const (.slice none 0 0)) (.tmp 11) rfl rfl none 0 0 [] (hid rfl) rfl cp0 A m c l hl rfl HR.out (by omega) ?_; intro A1 c1 w1 cp1 nr; clear nr; rw [List.nil_append] at cp1; rw [Nat.zero_add]; obtain ⟨g, rfl, hgw, hgc, hgf, hgs⟩ := cp1.at_ (by rw [hl.out]; omega); obtain ⟨Y, yc, hY, -⟩ := hgc k (by rw [hl.out]; exact hk); have fk := hgf k; have hX1 := Go.Proofs.YtndmblhkmgnpcaaGreat.keep cp1.be hX; have hc12 : (c1 : Int) ≤ 9223372036854775807 := (by have := cp1.rd.cap; omega); have hc11 : (m : Int) ≤ c1 := (by have := cp1.rd.len; have := hl.out; omega))
  have cp2 := hgs k X xc xk HRX.out
  rw [HP.out] at cp2
  generalize World.setCell w1 _ _ = W at cp2 ⊢
  have HLS := hid (show (l.set k xk).length = m by rw [List.length_set, hl.out])
  clear hgs hgc hgf hY fk hX hX1 cp0 cp1
  refine (rec_get_of _ m c1 (l.set k xk) HLS (by omega) _ cp2.rd).mono ?_
  rintro e w3 ⟨r3, A3, k3, c3, s3, t3, i3, f3, j3, rfl, hg3, hk3, ho3, b3⟩
  obtain ⟨-, -, -, -, -, e3⟩ := got_not HNK.out hg3
  subst e3
  have hb := below_in cp2.be b3
  have R3 := rs_new w3 40 42
  clear hg3 hk3 ho3 HNK b3
  have one : True := trivial
  go_wp2_with (first
    | (clear one; (with_reducible refine at_store 40 (.tmp 8) (.tmp 28) ?_); refine wpList_store_r rfl (.tmp 8) (.tmp 28) rfl w3.heap.size rfl r3 A3 k3 c3 rfl R3.tr w3.heap.size (Nat.le_refl _) ?_; intro w4 bx4 tx4 b4 h4 z4; have td4 : ThereD w4 (w3.heap.size + 1) := there_other R3.td h4 (by omega))
    | ((with_reducible refine at_store 42 (.tmp 9) (.tmp 29) ?_); refine wpList_store_d rfl (.tmp 9) (.tmp 29) rfl (w3.heap.size + 1) rfl s3 t3 i3 f3 rfl td4 w3.heap.size (Nat.le_succ _) ?_; intro w5 bd5 td5 b5 h5 z5))
  go_ret
  exact ⟨rfl, below_in hb ((R3.be.trans b4).trans b5)⟩
end Go.Proofs.YtndmblhkmgnpcaaGreat

namespace Go.Proofs.YtndmblhkmgnpcaaGreat
open Go.RowKit
set_option linter.unusedVariables false
set_option linter.unusedSimpArgs false

theorem RdB.take {w : World} {A : Option Addr} {c : Nat} {L : List (List UInt8)} (h : RdB w A c L) (k : Nat) : RdB w A c (L.take k) := by
  obtain ⟨xs, h1, h2, h3⟩ := h
  refine ⟨xs.take k, by rw [List.map_take, h1], ⟨by have := h2.1; rw [List.length_take]; omega, h2.2.1, fun hp => ?_⟩, fun x hx => h3 x (List.mem_of_mem_take hx)⟩
  obtain ⟨b, o, hA, hc⟩ := h2.2.2 (by rw [List.length_take] at hp; omega)
  refine ⟨b, o, hA, fun j u hu => hc j u ?_⟩
  rw [flat_fb, List.map_take, List.getElem?_take] at hu
  rw [flat_fb]
  split at hu
  · exact hu
  · cases hu
/-- l[lo:] of blocks: a run equation, and the reading. -/
theorem cutB_from {w0 : World} {A : Option Addr} {n c : Nat} {L : List (List UInt8)} (hr : RdB w0 A c L) (hn : L.length = n) (z : Nat) (x : Int) (hx : x = (z : Int)) (hm : z ≤ n) :
    ∃ B, (∀ W : World, (Instr.slice 45 (.slice A n c) (some (.int .i64 x)) none none).run Tryz.prog W = .ok (.slice B (n - z) (c - z)) W) ∧ RdB w0 B (c - z) (L.drop z) := by
  have hc := hr.len
  subst hx
  obtain ⟨xs, h1, h2, h3⟩ := hr
  have hl : L.length = xs.length := by rw [← h1, List.length_map]
  refine ⟨if c = z then A else A.map (·.add (z * 1)), fun W => ?_, xs.drop z, by rw [List.map_drop, h1], ⟨by have := h2.1; rw [List.length_drop]; omega, by have := h2.2.1; unfold maxLen at *; omega, fun hp => ?_⟩, fun y hy => h3 y (List.mem_of_mem_drop hy)⟩
  · have he : Tryz.prog.elem 45 = 51 := by kernel_rfl
    rw [run_slice_l (P := Tryz.prog) (w := W) (t := 45) (a := A) (len := n) (cap := c) (ht := by rw [he]; exact Tryz.underlying45) (kl := .i64) (l := (z : Int)) (h0 := by omega) (h1 := by omega), he]
    have hs := Tryz.sizeOf51
    go_simp
  · rw [List.length_drop] at hp
    obtain ⟨b, o, rfl, hcl⟩ := h2.2.2 (by omega)
    refine ⟨b, o + z, ?_, fun j u hu => ?_⟩
    · have := h2.1
      rw [if_neg (by omega), Nat.mul_one]
      simp [Addr.add_lit]
    · rw [flat_fb, List.map_drop, List.getElem?_drop] at hu
      rw [Nat.add_assoc]
      exact hcl (z + j) u (by rw [flat_fb]; exact hu)
structure TrF (W V : World) (g : Nat) : Prop where
  th : ThereR V g
  ge : W.heap.size ≤ g
  lt : g < V.heap.size
  ty : ∃ cs, V.heap[g]? = some (.cells cs 40 (0, 0))
structure TdF (W V : World) (g : Nat) : Prop where
  th : ThereD V g
  ge : W.heap.size ≤ g
  lt : g < V.heap.size
  ty : ∃ cs, V.heap[g]? = some (.cells cs 42 (0, 0))
theorem there_blk {V V' : World} {g k : Nat} (h : V.there g 0 k) (e : V'.heap[g]? = V.heap[g]?) : V'.there g 0 k := fun j hj => by
  rw [World.cell?_of_block (w := V) e, World.frozen?_of_block (w := V) e]
  exact h j hj
theorem TrF.keep {W V V' : World} {g : Nat} (h : TrF W V g) (hb : Below V.heap.size V V') : TrF W V' g := by
  obtain ⟨cs, hc⟩ := h.ty
  exact ⟨h.th.keep hb, h.ge, Nat.lt_of_lt_of_le h.lt hb.size, cs, (hb.block g h.lt).trans hc⟩
theorem TdF.keep {W V V' : World} {g : Nat} (h : TdF W V g) (hb : Below V.heap.size V V') : TdF W V' g := by
  obtain ⟨cs, hc⟩ := h.ty
  exact ⟨h.th.keep hb, h.ge, Nat.lt_of_lt_of_le h.lt hb.size, cs, (hb.block g h.lt).trans hc⟩
theorem TrF.keepn {W V V' : World} {g : Nat} (h : TrF W V g) (hn : NoRow V V') : TrF W V' g := by
  obtain ⟨cs, hc⟩ := h.ty
  have e := hn.2 g cs _ hc (by decide)
  exact ⟨there_blk h.th e, h.ge, Nat.lt_of_lt_of_le h.lt hn.1, cs, e.trans hc⟩
theorem TdF.keepn {W V V' : World} {g : Nat} (h : TdF W V g) (hn : NoRow V V') : TdF W V' g := by
  obtain ⟨cs, hc⟩ := h.ty
  have e := hn.2 g cs _ hc (by decide)
  exact ⟨there_blk h.th e, h.ge, Nat.lt_of_lt_of_le h.lt hn.1, cs, e.trans hc⟩
theorem trf_new {W V : World} (s : Below W.heap.size W V) : TrF W (V.alloc (.cells (#[.int .u8 0, .int .i64 0, .int .u8 0, .int .u8 0, .int .u32 0, .int .u8 0, .int .i64 0, .int .u8 0, .int .u32 0, .int .u8 0, .int .i64 0, .int .i64 0, .int .u8 0, .int .u32 0, .int .u8 0, .int .i64 0, .int .u8 0, .int .u32 0, .slice none 0 0, .int .i64 0, .int .i64 0, .int .u8 0, .int .u32 0, .bool false]) 40)) V.heap.size := ⟨thereR_new V _ rfl _, s.size, by rw [size1]; omega, _, World.alloc_heap_new V _⟩
theorem tdf_new {W V : World} (s : Below W.heap.size W V) : TdF W (V.alloc (.cells (#[.int .i64 0, .int .i64 0, .int .i64 0, .int .i64 0]) 42)) V.heap.size := ⟨thereD_new V _ rfl _, s.size, by rw [size1]; omega, _, World.alloc_heap_new V _⟩
theorem TdF.put {W V : World} {g g' : Nat} {vs : List Value} (h : TdF W V g) (hne : g' ≠ g) : TdF W (World.setCells V g' 0 vs) g := ⟨there_other h.th (fun k hk => heap_setCells g' vs 0 V k hk) (Ne.symm hne), h.ge, by rw [size_setCells]; exact h.lt, h.ty.choose, (heap_setCells g' vs 0 V g (Ne.symm hne)).trans h.ty.choose_spec⟩
end Go.Proofs.YtndmblhkmgnpcaaGreat
