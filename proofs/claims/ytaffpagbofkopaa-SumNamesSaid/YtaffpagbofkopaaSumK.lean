/-
  What the statements of layer 3 share: how what comes in is opened; alive.
-/
import Derived.Test.YtaffpagbofkopaaSumB
import Derived.Test.YtaffpagbofkopaaLaw
import Derived.Laws.IdiomArrays
import Derived.BigQuiet
import Derived.Deep.RegionHeld
import Derived.Lib.SlBytesConst
namespace Go.Proofs.Ytaffpagbofkopaa
open Go.ChangeShapes Go.WideShapes Go.ChangeAt Go.RowKit Go.Joins
set_option linter.unusedVariables false

theorem own : ownKnob Try.prog.godebug = none := by kernel_rfl
theorem laidOut : laidOutB Try.prog = true := by kernel_rfl
theorem cells_u8 : Try.prog.cellsOf 5 = 1 := by kernel_rfl
theorem cells_three : Try.prog.cellsOf 29 = 3 := by kernel_rfl

theorem open_i64 {H : Type} {enc : TypeId × Value → H} {W : World} {base b0 : Nat} {spare : Nat → Bool} {held : Bool} {v : Value} {d : DataW H} {p : List MemPlace} {r : Reach}
    (hv : Value.okWide Try.prog W r b0 3 v) (h : DataW.Trod enc Try.prog W base spare held 3 v d p) : ∃ x : Int, v = .int .i64 x ∧ -9223372036854775808 ≤ x ∧ x < 9223372036854775808 := by
  obtain ⟨x, rfl, rfl, rfl, wx⟩ := open_int Try.underlying3 hv h
  have hb := bounds_i64 wx
  exact ⟨x, rfl, by omega, by omega⟩
theorem open_u32 {H : Type} {enc : TypeId × Value → H} {W : World} {base b0 : Nat} {spare : Nat → Bool} {held : Bool} {v : Value} {d : DataW H} {p : List MemPlace} {r : Reach}
    (hv : Value.okWide Try.prog W r b0 23 v) (h : DataW.Trod enc Try.prog W base spare held 23 v d p) : ∃ x : Nat, v = .int .u32 (x : Int) ∧ x < 4294967296 := by
  obtain ⟨x, rfl, rfl, rfl, wx⟩ := open_int Try.underlying23 hv h
  have hb := bounds_u32 wx
  exact ⟨x.toNat, by rw [Int.toNat_of_nonneg hb.1], by omega⟩
theorem open_bytes {H : Type} {enc : TypeId × Value → H} {W : World} {base b0 : Nat} {spare : Nat → Bool} {held : Bool} {v : Value} {d : DataW H} {p : List MemPlace} {r : Reach}
    (hv : Value.okWide Try.prog W r b0 26 v) (h : DataW.Trod enc Try.prog W base spare held 26 v d p) : ∃ (A : Option Addr) (n c : Nat) (l : List UInt8), v = .slice A n c ∧ Hid (l.length = n) ∧ Rd W A c l :=
  open_rd Try.underlying26 Try.underlying5 cells_u8 hv h
theorem open_three {H : Type} {enc : TypeId × Value → H} {W : World} {base b0 : Nat} {spare : Nat → Bool} {held : Bool} {v : Value} {d : DataW H} {p : List MemPlace} {r : Reach}
    (hv : Value.okWide Try.prog W r b0 29 v) (h : DataW.Trod enc Try.prog W base spare held 29 v d p) :
    ∃ d e f : UInt8, v = .agg #[.int .u8 (d.toNat : Int), .int .u8 (e.toNat : Int), .int .u8 (f.toNat : Int)] ∧ True := by
  simp only [Value.okWide, Try.underlying29] at hv
  obtain ⟨cs, rfl, hsz, _⟩ := hv
  obtain ⟨c0, c1, c2, rfl⟩ := array3 (hsz.trans cells_three)
  obtain ⟨fuel, hf⟩ := h
  obtain ⟨y0, y1, y2, n, hx, h0, h1, h2⟩ := trod_array3 Try.underlying29 cells_u8 hf
  obtain ⟨a, e0, rfl, wa⟩ := DataW.trod_int Try.underlying5 h0
  obtain ⟨b, e1, rfl, wb⟩ := DataW.trod_int Try.underlying5 h1
  obtain ⟨c, e2, rfl, wc⟩ := DataW.trod_int Try.underlying5 h2
  simp at e0 e1 e2
  subst e0 e1 e2
  have back : ∀ x : Int, (Lit.int .u8 x).wf = true → ∃ d : UInt8, (d.toNat : Int) = x := fun x hx => by
    have hb := bounds_u8 hx
    exact ⟨UInt8.ofNat x.toNat, by simp only [UInt8.toNat_ofNat']; omega⟩
  obtain ⟨d, rfl⟩ := back _ wa
  obtain ⟨e, rfl⟩ := back _ wb
  obtain ⟨f, rfl⟩ := back _ wc
  exact ⟨d, e, f, rfl, trivial⟩

theorem below_step {wo W w2 : World} (h : Below wo.heap.size wo W) (h2 : Below W.heap.size W w2) : Below wo.heap.size wo w2 := h.trans (h2.mono h.size)
/-- Bytes, what it answers read by its list. -/
theorem bytes_rd (z : Int) (l : List UInt8) (hz : Hid (∃ s : Nat, z = (s : Int) ∧ three s = l ∧ s < 4294967296)) (w : World) :
    Calls Try.prog 11 #[.int .u32 z] w fun e w' => ∃ A, e = .returned (.slice A 3 3) ∧ Rd w' A 3 l ∧ Below w.heap.size w w' := by
  obtain ⟨s, rfl, rfl, hs⟩ := hz.out
  refine (bytes_any s hs w).mono ?_
  rintro e w' ⟨rfl, rfl⟩
  exact ⟨_, rfl, lit_rd w (three s) (by rw [three_length]; omega), (Below.refl _ _).alloc (Nat.le_refl _) _⟩
theorem right_of (v : Bool) (A : Option Addr) (n c : Nat) (l : List UInt8) (hn : Hid (l.length = n)) (h5 : n ≤ 100000) (hv : Hid (rightB l = v)) (w : World) (hr : Rd w A c l) :
    Calls Try.prog 10 #[.slice A n c] w fun e w' => e = .returned (.bool v) ∧ Below w.heap.size w w' := by
  have e := hv.out
  subst e
  exact right_any A n c l hn h5 w hr

/-- []byte("..") of a constant: the literal's row bears a mark. -/
theorem conv_const (w : World) (C : Array Value) (n c : Nat) : (convert 26 26 (.slice (some ⟨w.heap.size, 0, none⟩) n c)).run Try.prog (w.alloc (.cells C 5)) = .ok (.slice (some ⟨w.heap.size, 0, none⟩) n c) (w.alloc (.cells C 5 (C.size, C.size + 1))) :=
  Lib.run_convert_bytes_const w 26 5 C n c Try.underlying26 Try.underlying5
theorem mark_rd (w : World) (l : List UInt8) (fr : Nat × Nat) (hl : l.length ≤ 1000) : Rd (w.alloc (.cells (u8s l).toArray 5 fr)) (some ⟨w.heap.size, 0, none⟩) l.length l := by
  refine ⟨Nat.le_refl _, by unfold maxLen; omega, fun hp => ⟨w.heap.size, 0, rfl, fun j hj => ?_⟩⟩
  rw [Nat.zero_add, cell_alloc_mark_at w _ _ fr _ j rfl]
  simp [u8s, List.getElem?_eq_getElem hj]

theorem known : sumOf [49, 50, 51, 52, 53, 54, 55, 56, 57] = 2215682 := by
  unfold sumOf
  rw [show sm first [49, 50, 51, 52, 53, 54, 55, 56, 57] = 2215682 from by decide +kernel]
  rfl

set_option maxHeartbeats 400000 in
theorem alive_any (w : World) :
    Calls Try.prog 8 #[] w fun e w' => e = .returned (.bool true) ∧ Below w.heap.size w w' := by
  have H1 := hid known
  have H2 : Hid (∃ s : Nat, (2215682 : Int) = (s : Int) ∧ three s = [33, 207, 2] ∧ s < 4294967296) := hid ⟨2215682, rfl, by decide, by decide⟩
  have hl := mark_rd w [49, 50, 51, 52, 53, 54, 55, 56, 57] (9, 10) (by simp)
  have kc := conv_const
  go_enter Try.func8, Try.ntmps8
  go_wp2_with fail
  refine (of_of 2215682 _ 9 9 [49, 50, 51, 52, 53, 54, 55, 56, 57] (hid rfl) H1 _ hl).mono ?_
  rintro e w1 ⟨rfl, rfl⟩
  go_wp2_with fail
  refine (bytes_rd 2215682 [33, 207, 2] H2 _).mono ?_
  rintro e w2 ⟨A, rfl, hr, hb⟩
  have hs := rd_string (n := 3) (hid rfl) hr
  go_wp2
  go_ret
  exact ⟨rfl, ((Below.refl _ _).alloc (Nat.le_refl _) _).trans (hb.mono (by simp))⟩
end Go.Proofs.Ytaffpagbofkopaa
