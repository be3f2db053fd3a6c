/-
  The document's own Get of layer 9: mathematics of its three ways.
-/
import Derived.Test.YtbhglgcnoidddaaOpRg
import Derived.Test.YtbhglgcnoidddaaOpE
import Derived.Test.YtbhglgcnoidddaaOpU
namespace Go.Proofs.Ytbhglgcnoidddaa
open Go.RowKit
set_option linter.unusedVariables false
set_option linter.unusedSimpArgs false

/-- What begins is of the one kind and number that the head tells. -/
def One (l : List UInt8) (H : Opd) (v : Int) (n : Nat) : Prop := ∀ o', Begins l o' → o'.kd = H.kd ∧ o'.fm = H.fm ∧ v = ((opb o').length : Int) ∧ v ≠ 0 ∧ ((opb o').length : Int) ≤ n
theorem one2 {l : List UInt8} {H : Opd} (hH : refHead l = H) (hk : ∀ o', Begins l o' → o'.kd = 2) : ∀ o', Begins l o' → o' = H := fun o' h => by
  rw [← hH]; exact (cuts h).non (hk o' h)
theorem one3 {l : List UInt8} {H : Opd} (hH : refHead l = H) (hk : ∀ o', Begins l o' → o'.kd = 3) {x y : Int} (hx : (vl ((l.drop 24).take 1) : Int) = x) (hy : (vl ((l.drop 25).take 4) : Int) = y) : ∀ o', Begins l o' → o' = { H with tl := x, tc := y } := fun o' h => by
  obtain ⟨h1, h2, h3⟩ := (cuts h).lab (hk o' h)
  rw [h3, ← h1, ← h2, hx, hy, hH]
theorem one1 {l : List UInt8} {H : Opd} (hH : refHead l = H) (hk : ∀ o', Begins l o' → o'.kd = 1) {m : Nat} (hm : 4 * H.fm.toNat = m) {x0 x1 x2 x3 : Int} (ha : gL ((l.drop 24).take 13) = x0 ∧ gC ((l.drop 24).take 13) = x1 ∧ gK ((l.drop 24).take 13) = x2 ∧ gN ((l.drop 24).take 13) = x3)
    {r : List Int} {j : Int} (hr : getV ((l.drop 37).take m) = r ∧ getE ((l.drop 37).take m) = j) : ∀ o', Begins l o' → j = 0 ∧ o' = { H with al := x0, ac := x1, ak := x2, an := x3, row := r } := fun o' h => by
  have k := cuts h
  obtain ⟨a1, a2, a3, a4⟩ := k.aft (hk o' h)
  obtain ⟨r1, r2, _, _⟩ := k.row (hk o' h)
  have e := k.ins (hk o' h)
  have hf : o'.fm = H.fm := by rw [← hH]; exact (congrArg Opd.fm k.head).symm
  rw [hf, hm] at r1
  have g := get_put r2
  have e2 : putV o'.row = wide o'.row := by simp [putV, r2]
  rw [e2, ← r1, hr.1, hr.2] at g
  refine ⟨g.1, ?_⟩
  rw [e, ← a1, ← a2, ← a3, ← a4, ha.1, ha.2.1, ha.2.2.1, ha.2.2.2, ← g.2.1, hH]
theorem five_bytes {l : List UInt8} (h : 29 ≤ l.length) : ((l.drop 24).take 5 ++ [0]).length = 6 ∧ gL ((l.drop 24).take 5 ++ [0]) = (vl ((l.drop 24).take 1) : Int) ∧ gC ((l.drop 24).take 5 ++ [0]) = (vl ((l.drop 25).take 4) : Int) ∧ gK ((l.drop 24).take 5 ++ [0]) = 0 := by
  have e : l.drop 25 = (l.drop 24).drop 1 := by rw [List.drop_drop]
  rw [e]
  have hl : 5 ≤ (l.drop 24).length := by rw [List.length_drop]; omega
  generalize l.drop 24 = q at hl
  match q, hl with
  | b0 :: b1 :: b2 :: b3 :: b4 :: r, hl => exact ⟨rfl, by simp [gL, vl], by simp [gC, vl], rfl⟩
theorem lab_r {l : List UInt8} : Lab ((vl ((l.drop 24).take 1) : Nat) : Int) ((vl ((l.drop 25).take 4) : Nat) : Int) := by
  have a := vl_r (l.drop 24) 1 (by omega)
  have c := vl_r (l.drop 25) 4 (by omega)
  simp only [Int.reducePow] at a c
  exact ⟨a.1, by omega, c.1, by omega⟩
theorem szO_cases {kd m v : Int} (h : szO kd m = v) (hv : v ≠ 0) : (1 ≤ m ∧ m ≤ 64) ∧ ((kd = 1 ∧ v = 37 + 4 * m) ∨ (kd = 2 ∧ v = 24) ∨ (kd = 3 ∧ v = 29)) := by
  unfold szO at h
  split at h
  · rename_i hm
    refine ⟨hm, ?_⟩
    split at h
    · rename_i hk; exact .inl ⟨hk, h.symm⟩
    · split at h
      · rename_i hk; exact .inr (.inl ⟨hk, h.symm⟩)
      · split at h
        · rename_i hk; exact .inr (.inr ⟨hk, h.symm⟩)
        · exact absurd h.symm hv
  · exact absurd h.symm hv
theorem getV_r (l : List UInt8) : In32 (getV l) := by
  by_cases h : getE l = 0
  · exact fun x hx => ok_range (chk_zero.1 (put_get h).1).2 x hx
  · have : getV l = [] := by
      by_cases h1 : 256 < l.length
      · exact (getE_many h1).2
      · by_cases h2 : l.length % 4 = 0 ∧ (rows l).all okN = true
        · exact absurd (getE_ok h1 h2.1 h2.2).1 h
        · exact (getE_bad h1 h2).2
    rw [this]
    exact In32.nil
theorem refget_of (r : List Int) (k : Nat) (j : Int) (A : Option Addr) (n c : Nat) (l : List UInt8) (hn : Hid (l.length = n)) (hx : Hid (getV l = r ∧ r.length = k ∧ getE l = j)) (w : World) (hr : Rd w A c l) :
    Calls Try.prog 36 #[.slice A n c] w fun e w' => ∃ A' c', e = .returned (.tuple #[.slice A' k c', .int .i64 j]) ∧ Ri w' A' c' r ∧ Below w.heap.size w w' := by
  obtain ⟨rfl, rfl, rfl⟩ := hx.out
  exact refget_any A n c l hn w hr
theorem field_lab (w : World) (l c k : Int) : (Instr.field 26 (.agg #[.int .u8 l, .int .u32 c, .int .u8 k]) 0).run Try.prog w = .ok (.agg #[.int .u8 l, .int .u32 c]) w := by
  simp [Instr.field, part, asAgg, go_sem]
/-- A row stays where a slice is written over a slice. -/
theorem ri_set {w : World} {A : Option Addr} {c : Nat} {r : List Int} (h : Ri w A c r) {g k : Nat} {B : Option Addr} {n d : Nat} (hg : w.cell? ⟨g, k, none⟩ = some (.slice B n d)) (v : Value) : Ri (w.setCell ⟨g, k, none⟩ v) A c r :=
  ⟨⟨h.1.1, h.1.2.1, fun hl => by
    obtain ⟨b', o', hA, hc⟩ := h.1.2.2 hl
    refine ⟨b', o', hA, fun j hj => ?_⟩
    have h1 := hc j hj
    by_cases hb : b' = g
    · subst hb
      by_cases ho : o' + j = k
      · subst ho
        rw [hg] at h1
        simp [i32s] at h1
      · rw [← h1]
        exact World.cell?_setCell_other _ _ _ _ (fun e => ho (by injection e with _ e2; exact e2.symm))
    · rw [World.cell?_of_block (w := w) (a := ⟨b', o' + j, none⟩) (Below.heap_setCell _ _ _ _ hb)]
      exact h1⟩, h.2⟩
theorem not_i32 {W : World} {b k : Nat} {x : Int} (h : BoxO W b zO none 0 0) (hk : k < 17) (hc : W.cell? ⟨b, k, none⟩ = some (.int .i32 x)) : False := by
  match k, hk, hc with
  | 0, _, hc => rw [h.c0] at hc; cases hc
  | 1, _, hc => rw [h.c1] at hc; cases hc
  | 2, _, hc => rw [h.c2] at hc; cases hc
  | 3, _, hc => rw [h.c3] at hc; cases hc
  | 4, _, hc => rw [h.c4] at hc; cases hc
  | 5, _, hc => rw [h.c5] at hc; cases hc
  | 6, _, hc => rw [h.c6] at hc; cases hc
  | 7, _, hc => rw [h.c7] at hc; cases hc
  | 8, _, hc => rw [h.c8] at hc; cases hc
  | 9, _, hc => rw [h.c9] at hc; cases hc
  | 10, _, hc => rw [h.c10] at hc; cases hc
  | 11, _, hc => rw [h.c11] at hc; cases hc
  | 12, _, hc => rw [h.c12] at hc; cases hc
  | 13, _, hc => rw [h.c13] at hc; cases hc
  | 14, _, hc => rw [h.c14] at hc; cases hc
  | 15, _, hc => rw [h.c15] at hc; cases hc
  | 16, _, hc => rw [h.c16] at hc; cases hc
  | k + 17, hk, _ => omega
/-- A row stays where an operation is written over a box of an operation. -/
theorem ri_res {w : World} {A : Option Addr} {c : Nat} {r : List Int} (h : Ri w A c r) {b : Nat} (hb : BoxO w b zO none 0 0) (vs : List Value) (hv : vs.length = 17) : Ri (w.setCells b 0 vs) A c r :=
  ⟨⟨h.1.1, h.1.2.1, fun hl => by
    obtain ⟨b', o', hA, hc⟩ := h.1.2.2 hl
    refine ⟨b', o', hA, fun j hj => ?_⟩
    have h1 := hc j hj
    by_cases he : b' = b
    · subst he
      by_cases ho : o' + j < 17
      · have h2 : (i32s r)[j] = .int .i32 (r[j]'(by simpa [i32s] using hj)) := by simp [i32s]
        rw [h2] at h1
        exact (not_i32 hb ho h1).elim
      · exact cell_out h1 (.inr (by omega))
    · rw [World.cell?_of_block (w := w) (a := ⟨b', o' + j, none⟩) (heap_setCells b vs 0 w b' he)]
      exact h1⟩, h.2⟩
/-- The result's box, as it was made. -/
structure Res9 (w0 W : World) : Prop where
  th : ThereO W w0.heap.size
  bz : BoxO W w0.heap.size zO none 0 0
theorem Res9.keep {w0 W W' : World} (h : Res9 w0 W) (hb : Below W.heap.size W W') : Res9 w0 W' := ⟨h.th.keep hb, h.bz.keep hb⟩
theorem Res9.sets {w0 W : World} (h : Res9 w0 W) {g : Nat} (hg : w0.heap.size ≠ g) (off : Nat) (vs : List Value) : Res9 w0 (W.setCells g off vs) := ⟨h.th.sets2 hg off vs, h.bz.other (fun k hk => heap_setCells g vs off W k hk) hg⟩
/-- The box that the first three ways end with: what it holds is the one operation that may begin there. -/
structure Fin9 (w0 w : World) (g : Nat) (l : List UInt8) (O : Opd) (A : Option Addr) (k c : Nat) : Prop where
  bx : BoxO w g O A k c
  len : O.row.length = k
  ri : Ri w A c O.row
  r : Opr O
  one : ∀ o', Begins l o' → o' = O
  be : Below w0.heap.size w0 w
  th : Res9 w0 w
  lt : w0.heap.size < g
theorem Fin9.keep {w0 w w' : World} {g : Nat} {l : List UInt8} {O : Opd} {A : Option Addr} {k c : Nat} (h : Fin9 w0 w g l O A k c) (hb : Below w.heap.size w w') : Fin9 w0 w' g l O A k c :=
  ⟨h.bx.keep hb, h.len, h.ri.keep hb, h.r, h.one, below_in h.be hb, h.th.keep hb, h.lt⟩
/-- The box behind the head. -/
def Head9 (X w : World) (O : Opd) (s : Value) : Prop := ∃ g, s = .pointer (some ⟨g, 0, none⟩) ∧ BoxO w g O none 0 0 ∧ ThereO w g ∧ X.heap.size ≤ g ∧ Below X.heap.size X w
end Go.Proofs.Ytbhglgcnoidddaa
