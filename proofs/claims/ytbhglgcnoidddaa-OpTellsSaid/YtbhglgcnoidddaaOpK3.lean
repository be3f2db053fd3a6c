/-
  What stands behind an operation's span, by kinds: the closure of a raise.
-/
import Derived.Test.YtbhglgcnoidddaaOpK
namespace Go.Proofs.Ytbhglgcnoidddaa
open Go.RowKit
set_option linter.unusedVariables false
set_option linter.unusedSimpArgs false

set_option maxRecDepth 100000 in
set_option maxHeartbeats 1600000 in
theorem tails3_of (o : Opd) (g : Nat) (A : Option Addr) (n c : Nat) (hr : Opr o) (hk : o.kd = 3) (w : World) (bx : BoxO w g o A n c) :
    Calls Try.prog 62 #[.pointer (some ⟨g, 0, none⟩)] w fun e w' => ∃ A' c', e = .returned (.slice A' 5 c') ∧ Rd w' A' c' (tailO o) ∧ Below w.heap.size w w' := by
  obtain ⟨i0, hi0, hz0, hz1, hz2⟩ := info_parts info_u8
  obtain ⟨l0, l1, c0, c1⟩ := hr.lab
  have ht : tailO o = nB 1 o.tl ++ nB 4 o.tc := by rw [tailO, if_neg (by omega), if_pos hk]
  have HT := hid ht
  have HL := hid (show ((o.tl.toNat : Nat) : Int) = o.tl by omega)
  have HC := hid (show ((o.tc.toNat : Nat) : Int) = o.tc by omega)
  have hl1 : IntKind.i64.wrap o.tl = o.tl := by rw [IntKind.wrap_i64]; omega
  have hl2 : IntKind.i64.wrap o.tc = o.tc := by rw [IntKind.wrap_i64]; omega
  have hl9 : o.tl < 9223372036854775808 := by omega
  have hc9 : o.tc < 9223372036854775808 := by omega
  clear hr hk ht
  obtain ⟨s0, s1, s2, s3, s4, s5, s6, s7, s8, s9, s10, s11, s12, s13, s14, s15, s16⟩ := bx
  (have q0 := fun w' (h : Below w.heap.size w w') => keep h s0; have q1 := fun w' (h : Below w.heap.size w w') => keep h s1; have q2 := fun w' (h : Below w.heap.size w w') => keep h s2; have q3 := fun w' (h : Below w.heap.size w w') => keep h s3; have q4 := fun w' (h : Below w.heap.size w w') => keep h s4; have q5 := fun w' (h : Below w.heap.size w w') => keep h s5; have q6 := fun w' (h : Below w.heap.size w w') => keep h s6; have q7 := fun w' (h : Below w.heap.size w w') => keep h s7; have q8 := fun w' (h : Below w.heap.size w w') => keep h s8; have q9 := fun w' (h : Below w.heap.size w w') => keep h s9; have q10 := fun w' (h : Below w.heap.size w w') => keep h s10; have q11 := fun w' (h : Below w.heap.size w w') => keep h s11; have q12 := fun w' (h : Below w.heap.size w w') => keep h s12; have q13 := fun w' (h : Below w.heap.size w w') => keep h s13; have q14 := fun w' (h : Below w.heap.size w w') => keep h s14; have q15 := fun w' (h : Below w.heap.size w w') => keep h s15; have q16 := fun w' (h : Below w.heap.size w w') => keep h s16)
  clear q0 q1 q2 q3 q4 q5 q6 q7 q8 q9 q10 q11 q12 q13
  clear s0 s1 s2 s3 s4 s5 s6 s7 s8 s9 s10 s11 s12 s13 s14 s15 s16
  clear q16
  have S0 : Below w.heap.size w w.drew := (Below.refl _ _).drew
  go_enter Try.func62, Try.ntmps62
  go_wp2_with fail
  go_region_held_law (fun w' => Below w.heap.size w w') (with_reducible (first | assumption | exact S0 | exact below_step S0 hb1 | exact below_step S0 hb2 | exact below_step (below_step S0 hb1) hb2 | exact below_step (below_step S0 hb2) hb1 | exact (below_step (below_step S0 hb1) hb2).trans hb3 | exact (below_step (below_step S0 hb2) hb1).trans hb3))
    (first
      | (refine step_append_rd rfl (.tmp 6) (.tmp 11) _ (by rfl) w.heap.size 5 Try.underlying44 hi0 hz0 hz1 hz2 A1 1 1 (nB 1 o.tl) (hid (nB_length _ _)) (by rfl) ((ho1.mono (Nat.le_refl _)).keep hb2) A2 4 4 (nB 4 o.tc) (hid (nB_length _ _)) (by rfl) ho2.rd (by omega) (by exact Below.size (w := w) (by assumption)) ?_; intro A' c' w4 ho hb3)
      | (refine step_append_rd rfl (.tmp 6) (.tmp 11) _ (by rfl) w.heap.size 5 Try.underlying44 hi0 hz0 hz1 hz2 A1 1 1 (nB 1 o.tl) (hid (nB_length _ _)) (by rfl) (ho1.mono hb2.size) A2 4 4 (nB 4 o.tc) (hid (nB_length _ _)) (by rfl) (ho2.rd.keep hb1) (by omega) (by exact Below.size (w := w) (by assumption)) ?_; intro A' c' w4 ho hb3)
      | (go_simp; go_at_call 57; have tX := fun W => digitsL_of 1 1 o.tl o.tl.toNat HL l0 hl9 rfl (by omega) W; with_reducible refine (tX _).mono ?_; clear tX; rintro e w2 ⟨A1, rfl, ho1, hb1⟩)
      | (go_simp; go_at_call 57; have tX := fun W => digitsL_of 4 4 o.tc o.tc.toNat HC c0 hc9 rfl (by omega) W; with_reducible refine (tX _).mono ?_; clear tX; rintro e w3 ⟨A2, rfl, ho2, hb2⟩))
  all_goals
    have hB : Below w.heap.size w w4 := by assumption
    clear q14 q15 S0 ho1 ho2 hb1 hb2 hb3
    go_simp
    go_wp2
    go_ret
    exact ⟨A', c', rfl, by rw [HT.out]; exact ho.rd, hB⟩

end Go.Proofs.Ytbhglgcnoidddaa
