/-
  What the statements of layer 8 share: how what comes in is opened; the variable 'classes' as it was laid; class, none, alive.
-/
import Derived.Test.YthnjonabofabkaaDoorFrE
import Derived.Test.YthnjonabofabkaaDoorLaw
import Derived.Test.YthnjonabofabkaaDoorTie
import Derived.Test.YthnjonabofabkaaDoorCards
import Derived.ProofKit
import Derived.LaidMore
import Derived.Stop.Joined
import Derived.Lib.LaidTab
import Derived.SevenTiedAt
import Derived.Laws.IdiomArrays
import Derived.BigQuiet
import Derived.Deep.RegionHeld
import Derived.Lib.SlBytesConst
namespace Go.Proofs.YthnjonabofabkaaDoor
open Go.ChangeShapes Go.WideShapes Go.ChangeAt Go.RowKit Go.Joins
set_option linter.unusedVariables false

theorem own : ownKnob Tryd.prog.godebug = none := by kernel_rfl
theorem laidOut : laidOutB Tryd.prog = true := by kernel_rfl
theorem cells_u8 : Tryd.prog.cellsOf 5 = 1 := by kernel_rfl
theorem cells_three : Tryd.prog.cellsOf 37 = 3 := by kernel_rfl

theorem open_i64 {H : Type} {enc : TypeId × Value → H} {W : World} {base b0 : Nat} {spare : Nat → Bool} {held : Bool} {v : Value} {d : DataW H} {p : List MemPlace} {r : Reach}
    (hv : Value.okWide Tryd.prog W r b0 3 v) (h : DataW.Trod enc Tryd.prog W base spare held 3 v d p) : ∃ x : Int, v = .int .i64 x ∧ -9223372036854775808 ≤ x ∧ x < 9223372036854775808 := by
  obtain ⟨x, rfl, rfl, rfl, wx⟩ := open_int Tryd.underlying3 hv h
  have hb := bounds_i64 wx
  exact ⟨x, rfl, by omega, by omega⟩
theorem open_bytes {H : Type} {enc : TypeId × Value → H} {W : World} {base b0 : Nat} {spare : Nat → Bool} {held : Bool} {v : Value} {d : DataW H} {p : List MemPlace} {r : Reach}
    (hv : Value.okWide Tryd.prog W r b0 23 v) (h : DataW.Trod enc Tryd.prog W base spare held 23 v d p) : ∃ (A : Option Addr) (n c : Nat) (l : List UInt8), v = .slice A n c ∧ Hid (l.length = n) ∧ Rd W A c l :=
  open_rd Tryd.underlying23 Tryd.underlying5 cells_u8 hv h
theorem open_three {H : Type} {enc : TypeId × Value → H} {W : World} {base b0 : Nat} {spare : Nat → Bool} {held : Bool} {v : Value} {d : DataW H} {p : List MemPlace} {r : Reach}
    (hv : Value.okWide Tryd.prog W r b0 37 v) (h : DataW.Trod enc Tryd.prog W base spare held 37 v d p) :
    ∃ d e f : UInt8, v = .agg #[.int .u8 (d.toNat : Int), .int .u8 (e.toNat : Int), .int .u8 (f.toNat : Int)] ∧ True := by
  simp only [Value.okWide, Tryd.underlying37] at hv
  obtain ⟨cs, rfl, hsz, _⟩ := hv
  obtain ⟨c0, c1, c2, rfl⟩ := array3 (hsz.trans cells_three)
  obtain ⟨fuel, hf⟩ := h
  obtain ⟨y0, y1, y2, n, hx, h0, h1, h2⟩ := trod_array3 Tryd.underlying37 cells_u8 hf
  obtain ⟨a, e0, rfl, wa⟩ := DataW.trod_int Tryd.underlying5 h0
  obtain ⟨b, e1, rfl, wb⟩ := DataW.trod_int Tryd.underlying5 h1
  obtain ⟨c, e2, rfl, wc⟩ := DataW.trod_int Tryd.underlying5 h2
  simp at e0 e1 e2
  subst e0 e1 e2
  have back : ∀ x : Int, (Lit.int .u8 x).wf = true → ∃ d : UInt8, (d.toNat : Int) = x := fun x hx => by
    have hb := bounds_u8 hx
    exact ⟨UInt8.ofNat x.toNat, by simp only [UInt8.toNat_ofNat']; omega⟩
  obtain ⟨d, rfl⟩ := back _ wa
  obtain ⟨e, rfl⟩ := back _ wb
  obtain ⟨f, rfl⟩ := back _ wc
  exact ⟨d, e, f, rfl, trivial⟩


/-- The variables that the rows list. -/
def laidV : List (String × DataW Unit) := [("blindstamp/frame.classes", Rows.laid_blindstamp_frame_classes)]
theorem gClasses : Tryd.prog.globalNamed "blindstamp/frame.classes" = some 0 := by kernel_rfl
theorem tClasses : (Tryd.prog.globals[0]?).map (·.type) = some 44 := by kernel_rfl
/-- The door's own heap meets the condition. -/
theorem door_met (os : Os) (args : Array Value) : laidMetH Tryd.prog laidV ((World.doorLaid Tryd.prog 400 os).forCall (fun _ _ => 0) ⟨#[], args, []⟩).memory :=
  laidMetH_of_parts3 (fuel := 8) (laidMet_of_run' 8 (by kernel_rfl) (by kernel_rfl)) (by kernel_rfl) (by kernel_rfl)
/-- What the condition gives the walks. -/
theorem tab_of {W : World} (h : laidMetH Tryd.prog laidV W) : Tab W := by
  rw [MakeChecks.laidMetH_plain _ _ _ (by kernel_rfl)] at h
  have hT : Lib.TabIs Tryd.prog W "blindstamp/frame.classes" .i64 [64, 256, 1024] := Lib.tabIs_of_head gClasses tClasses Tryd.underlying44 Tryd.underlying3 (by kernel_rfl) (by kernel_rfl) h
  exact ⟨hT.cell gClasses 0 (by decide), hT.cell gClasses 1 (by decide), hT.cell gClasses 2 (by decide)⟩

/-- []byte("..") of a constant: the literal's row bears a mark. -/
theorem conv_const (w : World) (C : Array Value) (n c : Nat) : (convert 23 23 (.slice (some ⟨w.heap.size, 0, none⟩) n c)).run Tryd.prog (w.alloc (.cells C 5)) = .ok (.slice (some ⟨w.heap.size, 0, none⟩) n c) (w.alloc (.cells C 5 (C.size, C.size + 1))) :=
  Lib.run_convert_bytes_const w 23 5 C n c Tryd.underlying23 Tryd.underlying5
theorem mark_rd (w : World) (l : List UInt8) (fr : Nat × Nat) (hl : l.length ≤ 1000) : Rd (w.alloc (.cells (u8s l).toArray 5 fr)) (some ⟨w.heap.size, 0, none⟩) l.length l := by
  refine ⟨Nat.le_refl _, by unfold maxLen; omega, fun hp => ⟨w.heap.size, 0, rfl, fun j hj => ?_⟩⟩
  rw [Nat.zero_add, cell_alloc_mark_at w _ _ fr _ j rfl]
  simp [u8s, List.getElem?_eq_getElem hj]


theorem below_in {w W w2 : World} (h : Below w.heap.size w W) (h2 : Below W.heap.size W w2) : Below w.heap.size w w2 := h.trans (h2.mono h.size)

theorem class_yes (n v : Int) (h : Hid (clV n = v ∧ clE n = 0)) (w : World) (ht : Tab w) :
    Calls Tryd.prog 11 #[.int .i64 n, .int .i64 v] w fun e w' => e = .returned (.bool true) ∧ w = w' := by
  go_enter Tryd.func11, Tryd.ntmps11
  go_wp2_with fail
  refine (class_of n v 0 h _ ht).mono ?_
  rintro e w1 ⟨rfl, rfl⟩
  go_wp2
  go_ret
  exact ⟨rfl, rfl⟩

set_option maxHeartbeats 400000 in
theorem none_yes (A : Option Addr) (n c : Nat) (l : List UInt8) (hn : Hid (l.length = n)) (h : Hid (opP l = none)) (w : World) (hr : Rd w A c l) (ht : Tab w) :
    Calls Tryd.prog 12 #[.slice A n c] w fun e w' => e = .returned (.bool true) ∧ Below w.heap.size w w' := by
  have H := hid (op_no h.out)
  go_enter Tryd.func12, Tryd.ntmps12
  go_wp2_with fail
  refine (open_of [] 0 80 A n c l hn H _ hr ht).mono ?_
  rintro e w1 ⟨A1, c1, rfl, hown, hb⟩
  clear hown
  go_wp2
  go_ret
  exact ⟨rfl, hb⟩

theorem ab_len : cl 2 = 64 := by
  have e : enc 2 = [2] := enc_low (by omega)
  simp [cl, e]
theorem ab_seal : seB [97, 98] = fr [97, 98] ∧ (fr [97, 98]).length = 64 ∧ seE [97, 98] = 0 := by
  have h := se_yes (l := [97, 98]) (by simp)
  exact ⟨h.1, by rw [h.2.1]; exact ab_len, h.2.2⟩
theorem ab_four : (fr [97, 98]).take 4 = [181, 2, 97, 98] := by
  obtain ⟨t, ht⟩ := fr_form [97, 98]
  have e : enc 2 = [2] := enc_low (by omega)
  rw [ht]
  show (181 :: (enc 2 ++ ([97, 98] ++ t))).take 4 = _
  rw [e]
  rfl
theorem ab_open : opB (fr [97, 98]) = [97, 98] ∧ ([97, 98] : List UInt8).length = 2 ∧ opE (fr [97, 98]) = 0 := by
  have h := op_yes (opP_fr (l := [97, 98]) (by simp))
  exact ⟨h.1, rfl, h.2.2⟩

set_option maxHeartbeats 800000 in
theorem alive_any (w : World) (ht : Tab w) :
    Calls Tryd.prog 8 #[] w fun e w' => e = .returned (.bool true) ∧ Below w.heap.size w w' := by
  have H1 := hid ab_seal
  have H2 := hid ab_open
  have H4 := hid ab_four
  have H3 := hid ab_seal.2.1
  have hl := mark_rd w [97, 98] (2, 3) (by simp)
  have kc := conv_const
  generalize fr [97, 98] = F at H1 H2 H3 H4
  go_enter Tryd.func8, Tryd.ntmps8
  go_wp2_with fail
  have b0 := (Below.refl w.heap.size w).alloc (Nat.le_refl _) (.cells (u8s [97, 98]).toArray 5 (2, 3))
  refine (seal_of F 64 0 _ 2 2 [97, 98] (hid rfl) H1 _ hl (ht.keep b0)).mono ?_
  rintro e w1 ⟨A1, c1, rfl, hown1, b1⟩
  replace b1 := b0.trans (b1.mono b0.size)
  clear hl b0
  go_wp2_with fail
  refine (open_of [97, 98] 2 0 A1 64 c1 F H3 H2 _ hown1.rd (ht.keep b1)).mono ?_
  rintro e w2 ⟨A2, c2, rfl, hown2, b2⟩
  have r1 := hown1.rd.keep b2
  have hc1 : 64 ≤ c1 := by have := r1.len; rw [H3.out] at this; exact this
  have hc2 : c1 ≤ 9223372036854775807 := r1.cap
  have s2 := rd_string (n := 2) (hid rfl) hown2.rd
  have s1 := rd_string (n := 4) (hid rfl) (H4.out ▸ r1.take 4)
  clear hown1 hown2 r1
  go_wp2
  go_ret
  exact ⟨rfl, b1.trans (b2.mono b1.size)⟩
end Go.Proofs.YthnjonabofabkaaDoor
