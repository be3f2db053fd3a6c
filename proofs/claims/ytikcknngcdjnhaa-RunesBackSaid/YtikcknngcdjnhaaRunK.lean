/-
  What the statements of layer 4 share: how what comes in is opened; of, alive.
-/
import Derived.Test.YtikcknngcdjnhaaRunT
import Derived.Test.YtikcknngcdjnhaaRunI
import Derived.Test.YtikcknngcdjnhaaRunH
import Derived.Test.YtikcknngcdjnhaaRunP
import Derived.Test.YtikcknngcdjnhaaRunD
import Derived.Test.YtikcknngcdjnhaaRunQ
import Derived.Test.YtikcknngcdjnhaaLaw
import Derived.BigQuiet
import Derived.Deep.RegionHeld
import Derived.Deep.OwnRows
import Derived.Lib.SlBytesConst
namespace Go.Proofs.Ytikcknngcdjnhaa
open Go.ChangeShapes Go.WideShapes Go.ChangeAt Go.RowKit Go.Joins
set_option linter.unusedVariables false

theorem own : ownKnob Try.prog.godebug = none := by kernel_rfl
theorem laidOut : laidOutB Try.prog = true := by kernel_rfl
theorem cells_u8 : Try.prog.cellsOf 5 = 1 := by kernel_rfl
theorem cells_i32 : Try.prog.cellsOf 21 = 1 := by kernel_rfl
theorem cells_bool : Try.prog.cellsOf 4 = 1 := by kernel_rfl

theorem open_row {H : Type} {enc : TypeId × Value → H} {W : World} {base b0 : Nat} {spare : Nat → Bool} {held : Bool} {v : Value} {d : DataW H} {p : List MemPlace} {r : Reach}
    (hv : Value.okWide Try.prog W r b0 22 v) (h : DataW.Trod enc Try.prog W base spare held 22 v d p) : ∃ (A : Option Addr) (n c : Nat) (l : List Int), v = .slice A n c ∧ Hid (l.length = n) ∧ Ri W A c l :=
  open_ri Try.underlying22 Try.underlying21 cells_i32 hv h
theorem open_bools {H : Type} {enc : TypeId × Value → H} {W : World} {base b0 : Nat} {spare : Nat → Bool} {held : Bool} {v : Value} {d : DataW H} {p : List MemPlace} {r : Reach}
    (hv : Value.okWide Try.prog W r b0 28 v) (h : DataW.Trod enc Try.prog W base spare held 28 v d p) : ∃ (A : Option Addr) (n c : Nat) (l : List Bool), v = .slice A n c ∧ Hid (l.length = n) ∧ Rb W A c l :=
  open_rb Try.underlying28 Try.underlying4 cells_bool hv h
theorem open_bytes {H : Type} {enc : TypeId × Value → H} {W : World} {base b0 : Nat} {spare : Nat → Bool} {held : Bool} {v : Value} {d : DataW H} {p : List MemPlace} {r : Reach}
    (hv : Value.okWide Try.prog W r b0 26 v) (h : DataW.Trod enc Try.prog W base spare held 26 v d p) : ∃ (A : Option Addr) (n c : Nat) (l : List UInt8), v = .slice A n c ∧ Hid (l.length = n) ∧ Rd W A c l :=
  open_rd Try.underlying26 Try.underlying5 cells_u8 hv h
theorem open_text {H : Type} {enc : TypeId × Value → H} {W : World} {base b0 : Nat} {spare : Nat → Bool} {held : Bool} {v : Value} {d : DataW H} {p : List MemPlace} {r : Reach}
    (hv : Value.okWide Try.prog W r b0 9 v) (h : DataW.Trod enc Try.prog W base spare held 9 v d p) : ∃ (s : ByteArray), v = .string s ∧ s.size ≤ maxLen := by
  obtain ⟨s, rfl⟩ := okWide_string Try.underlying9 hv
  obtain ⟨fuel, hf⟩ := h
  obtain ⟨s', h, hx, hs⟩ := DataW.trod_string Try.underlying9 hf
  simp [Value.cells] at h
  subst h
  exact ⟨s, rfl, hs⟩

section
variable {H : Type} {enc : TypeId × Value → H} {P : Program} {w : World} {base : Nat} {spare : Nat → Bool} {held : Bool}
theorem trodAll_five {t0 t1 t2 t3 t4 : TypeId} {args : Array Value} {ds : List (DataW H)} {ps : List MemPlace} (h : DataW.TrodAll enc P w base spare held [t0, t1, t2, t3, t4] args.toList ds ps) :
    ∃ v0 v1 v2 v3 v4 d0 d1 d2 d3 d4 p0 p1 p2 p3 p4, args = #[v0, v1, v2, v3, v4] ∧ ds = [d0, d1, d2, d3, d4] ∧ ps = p0 ++ p1 ++ p2 ++ p3 ++ p4 ∧ DataW.Trod enc P w base spare held t0 v0 d0 p0 ∧ DataW.Trod enc P w base spare held t1 v1 d1 p1 ∧ DataW.Trod enc P w base spare held t2 v2 d2 p2 ∧ DataW.Trod enc P w base spare held t3 v3 d3 p3 ∧ DataW.Trod enc P w base spare held t4 v4 d4 p4 := by
  obtain ⟨v0, s0, d0, e0, p0, q0, h0, rfl, rfl, k0, r0⟩ := trodAll_cons h
  obtain ⟨v1, s1, d1, e1, p1, q1, h1, rfl, rfl, k1, r1⟩ := trodAll_cons r0
  obtain ⟨v2, s2, d2, e2, p2, q2, h2, rfl, rfl, k2, r2⟩ := trodAll_cons r1
  obtain ⟨v3, s3, d3, e3, p3, q3, h3, rfl, rfl, k3, r3⟩ := trodAll_cons r2
  obtain ⟨v4, s4, d4, e4, p4, q4, h4, rfl, rfl, k4, r4⟩ := trodAll_cons r3
  obtain ⟨rfl, rfl, rfl⟩ := trodAll_nil r4
  exact ⟨v0, v1, v2, v3, v4, d0, d1, d2, d3, d4, p0, p1, p2, p3, p4, by cases args; simp_all, rfl, by simp, k0, k1, k2, k3, k4⟩
end

theorem RetRow.at_ {w w' : World} {l V : List Int} {z y : Int} {k : Nat} {e : Ending} (h : RetRow w l z e w') (hq : Hid (l = V ∧ z = y ∧ V.length = k)) : ∃ A c, e = .returned (.tuple #[.slice A k c, .int .i64 y]) ∧ Ri w' A c V ∧ Below w.heap.size w w' := by
  obtain ⟨rfl, rfl, rfl⟩ := hq.out
  exact h
theorem RetRowOwn.at_ {w w' : World} {l V : List Int} {z y : Int} {k : Nat} {e : Ending} (h : RetRowOwn w l z e w') (hq : Hid (l = V ∧ z = y ∧ V.length = k)) : ∃ A c, e = .returned (.tuple #[.slice A k c, .int .i64 y]) ∧ OwnI w' w.heap.size 21 A c V ∧ Below w.heap.size w w' := by
  obtain ⟨rfl, rfl, rfl⟩ := hq.out
  exact h
theorem RetPut.at_ {w w' : World} {l V : List UInt8} {z y : Int} {k : Nat} {e : Ending} (h : RetPut w l z e w') (hq : Hid (l = V ∧ z = y ∧ V.length = k)) : ∃ A c, e = .returned (.tuple #[.slice A k c, .int .i64 y]) ∧ Rd w' A c V ∧ Below w.heap.size w w' := by
  obtain ⟨rfl, rfl, rfl⟩ := hq.out
  exact h
theorem RetText.at_ {w w' : World} {l V : List UInt8} {z y : Int} {e : Ending} (h : RetText w l z e w') (hq : Hid (l = V ∧ z = y)) : e = .returned (.tuple #[.string ⟨V.toArray⟩, .int .i64 y]) ∧ Below w.heap.size w w' := by
  obtain ⟨rfl, rfl⟩ := hq.out
  exact h

/-- []byte("..") of a constant: the literal's row bears a mark. -/
theorem conv_const (w : World) (C : Array Value) (n c : Nat) : (convert 26 26 (.slice (some ⟨w.heap.size, 0, none⟩) n c)).run Try.prog (w.alloc (.cells C 5)) = .ok (.slice (some ⟨w.heap.size, 0, none⟩) n c) (w.alloc (.cells C 5 (C.size, C.size + 1))) :=
  Lib.run_convert_bytes_const w 26 5 C n c Try.underlying26 Try.underlying5
theorem mark_rd (w : World) (l : List UInt8) (fr : Nat × Nat) (hl : l.length ≤ 1000) : Rd (w.alloc (.cells (u8s l).toArray 5 fr)) (some ⟨w.heap.size, 0, none⟩) l.length l := by
  refine ⟨Nat.le_refl _, by unfold maxLen; omega, fun hp => ⟨w.heap.size, 0, rfl, fun j hj => ?_⟩⟩
  rw [Nat.zero_add, cell_alloc_mark_at w _ _ fr _ j rfl]
  simp [u8s, List.getElem?_eq_getElem hj]

set_option maxHeartbeats 400000 in
/-- of, where it is so. -/
theorem law_of (s : ByteArray) (l : List UInt8) (hs : Hid (s.data.toList = l)) (h1 : s.size ≤ 10000) (A : Option Addr) (n c : Nat) (q : List Int) (hn : Hid (q.length = n)) (hq : Hid (ofV l = q ∧ ofE l = 0 ∧ q.length = n)) (w : World) (hr : Ri w A c q) :
    Calls Try.prog 28 #[.string s, .slice A n c] w fun e w' => e = .returned (.bool true) ∧ Below w.heap.size w w' := by
  have HS := hid (sameI_self q)
  go_enter Try.func28, Try.ntmps28
  go_wp2_with fail
  refine (of_any s l hs h1 _).mono ?_
  intro e w1 h
  obtain ⟨A1, c1, rfl, hr1, b1⟩ := h.at_ hq
  clear h
  go_wp2_with fail
  refine (same_of true A1 n c1 q hn A n c q hn HS w1 hr1 (hr.keep b1)).mono ?_
  rintro e w2 ⟨rfl, b2⟩
  go_wp2
  go_ret
  exact ⟨rfl, b1.trans (b2.mono b1.size)⟩

set_option maxRecDepth 100000 in
set_option maxHeartbeats 1000000 in
theorem alive_any (w : World) :
    Calls Try.prog 12 #[] w fun e w' => e = .returned (.bool true) ∧ Below w.heap.size w w' := by
  have H1 : Hid (putV [97, -1] = [0, 0, 0, 97, 255, 255, 255, 255] ∧ chk [97, -1] = 0 ∧ ([0, 0, 0, 97, 255, 255, 255, 255] : List UInt8).length = 8) := hid (by decide +kernel)
  have H2 : Hid (getV [0, 0, 0, 97, 255, 255, 255, 255] = [97, -1] ∧ getE [0, 0, 0, 97, 255, 255, 255, 255] = 0 ∧ ([97, -1] : List Int).length = 2) := hid (by decide +kernel)
  have H3 : Hid (ofV [97, 195, 169] = [97, 233] ∧ ofE [97, 195, 169] = 0 ∧ ([97, 233] : List Int).length = 2) := hid (by decide +kernel)
  have H4 : Hid (ofV [] = [] ∧ ofE [] = 0 ∧ ([] : List Int).length = 0) := hid (by decide +kernel)
  have H5 : Hid (sameI [97, -1] [97, -1] = true) := hid (by decide)
  have I2 : In32 [97, -1] := fun x hx => by simp at hx; omega
  have I3 : In32 [97, 233] := fun x hx => by simp at hx; omega
  have kc := conv_const
  go_enter Try.func12, Try.ntmps12
  go_wp2_with fail
  refine (put_any _ 2 2 [97, -1] (hid rfl) _ (lit_i w 21 [97, -1] I2 (by simp))).mono ?_
  intro e w1 h
  obtain ⟨A1, c1, rfl, hr1, b1⟩ := h.at_ H1
  clear h
  replace b1 := ((Below.refl _ _).alloc (Nat.le_refl _) _).trans (b1.mono (by simp))
  go_wp2_with fail
  refine (get_any _ 8 8 [0, 0, 0, 97, 255, 255, 255, 255] (hid rfl) _ (mark_rd w1 [0, 0, 0, 97, 255, 255, 255, 255] (8, 9) (by simp))).mono ?_
  intro e w2 h
  obtain ⟨A2, c2, rfl, hr2, b2⟩ := h.at_ H2
  clear h
  replace b2 := ((Below.refl _ w1).alloc (Nat.le_refl _) _).trans (b2.mono (by simp))
  replace hr1 := hr1.keep b2
  replace b1 := b1.trans (b2.mono b1.size)
  clear b2
  go_wp2_with fail
  refine (law_of _ [97, 195, 169] (hid rfl) (by decide) _ 2 2 [97, 233] (hid rfl) H3 _ (lit_i w2 21 [97, 233] I3 (by simp))).mono ?_
  rintro e w3 ⟨rfl, b3⟩
  replace b3 := ((Below.refl _ w2).alloc (Nat.le_refl _) _).trans (b3.mono (by simp))
  replace hr1 := hr1.keep b3
  replace hr2 := hr2.keep b3
  replace b1 := b1.trans (b3.mono b1.size)
  clear b3
  go_wp2_with fail
  refine (law_of _ [] (hid rfl) (by decide) none 0 0 [] (hid rfl) H4 _ (Ri.nil _)).mono ?_
  rintro e w4 ⟨rfl, b4⟩
  replace hr1 := hr1.keep b4
  replace hr2 := hr2.keep b4
  replace b1 := b1.trans (b4.mono b1.size)
  clear b4
  have hs := rd_string (n := 8) (hid rfl) hr1
  go_wp2_with fail
  refine (same_of true A2 2 c2 [97, -1] (hid rfl) _ 2 2 [97, -1] (hid rfl) H5 _ (hr2.alloc _) (lit_i w4 21 [97, -1] I2 (by simp))).mono ?_
  rintro e w5 ⟨rfl, b5⟩
  replace b5 := ((Below.refl _ w4).alloc (Nat.le_refl _) _).trans (b5.mono (by simp))
  go_wp2
  go_ret
  exact ⟨rfl, b1.trans (b5.mono b1.size)⟩
end Go.Proofs.Ytikcknngcdjnhaa
