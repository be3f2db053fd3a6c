/-
  The program's Check.
-/
import Derived.Test.YtbhglgcnoidddaaOpB
import Derived.Test.YtbhglgcnoidddaaOpC
namespace Go.Proofs.Ytbhglgcnoidddaa
open Go.RowKit
set_option linter.unusedVariables false
set_option linter.unusedSimpArgs false

set_option maxHeartbeats 800000 in
theorem ocheck_of (j : Int) (o : Opd) (A : Option Addr) (n c : Nat) (hn : Hid (o.row.length = n)) (hj : Hid (er (mayO o) = j)) (w : World) (hr : Ri w A c o.row) :
    Calls Try.prog 13 #[.agg #[.int .u8 o.kd, .int .u8 o.l, .int .u32 o.c, .int .u8 o.k, .int .i64 o.s, .int .u8 o.fl, .int .u32 o.fc, .int .u8 o.fk, .int .i64 o.fn, .int .i64 o.fm, .int .u8 o.al, .int .u32 o.ac, .int .u8 o.ak, .int .i64 o.an, .int .u8 o.tl, .int .u32 o.tc, .slice A n c]] w fun e w' => e = .returned (.int .i64 j) ∧ Below w.heap.size w w' := by
  obtain ⟨u, hu⟩ : ∃ u, headB o = u := ⟨_, rfl⟩
  obtain ⟨v, hv⟩ : ∃ v, tailB o = v := ⟨_, rfl⟩
  have h := hj.out
  rw [mayO, hu, hv] at h
  have HJ := hid h
  have HU := hid hu
  have HV := hid hv
  clear h hu hv hj
  have bx := boxO_new w o A n c 35
  go_enter Try.func13, Try.ntmps13
  go_wp2_with (refine wpList_load_o rfl (.tmp 1) rfl _ rfl bx ?_)
  go_call headMay_of u o A n c HU _ as e w1 ⟨rfl, b1⟩
  replace bx := bx.keep b1
  replace b1 := past_alloc b1
  cases u
  · go_wp2
    go_ret
    exact ⟨ret_int (by rw [← HJ.out]; rfl), b1⟩
  · go_wp2_with (refine wpList_load_o rfl (.tmp 1) rfl _ rfl bx ?_)
    go_call tailMay_of v o A n c hn HV _ (hr.keep b1) as e w2 ⟨rfl, b2⟩
    replace b2 := below_in b1 b2
    cases v
    · go_wp2
      go_ret
      exact ⟨ret_int (by rw [← HJ.out]; rfl), b2⟩
    · go_wp2
      go_ret
      exact ⟨ret_int (by rw [← HJ.out]; rfl), b2⟩
end Go.Proofs.Ytbhglgcnoidddaa
