/-
  What the statements of layer 9 share: the chapter's handle, id and delete; alive.
-/
import Derived.Test.YtbhglgcnoidddaaOpO
import Derived.Test.YtbhglgcnoidddaaOpN
import Derived.Test.YtbhglgcnoidddaaOpE
import Derived.Test.YtbhglgcnoidddaaOpS
import Derived.Test.YtbhglgcnoidddaaLaw
import Derived.BigQuiet
namespace Go.Proofs.Ytbhglgcnoidddaa
open Go.RowKit
set_option linter.unusedVariables false
set_option linter.unusedSimpArgs false

theorem h_any (w : World) : Calls Try.prog 8 #[] w fun e w' => e = .returned (.agg #[.int .u8 1, .int .u32 1, .int .u8 2]) ∧ Below w.heap.size w w' := by
  go_enter Try.func8, Try.ntmps8
  go_wp2
  go_returns
  exact ⟨rfl, by go_grown⟩
set_option maxHeartbeats 800000 in
theorem nine_any (w : World) : Calls Try.prog 7 #[] w fun e w' => e = .returned (.agg #[.int .u8 1, .int .u32 1, .int .u8 2, .int .i64 9]) ∧ Below w.heap.size w w' := by
  have hi : (Try.prog.info? 28).map (·.size) = some 4 := by kernel_rfl
  have ht := there_new w #[.int .u8 0, .int .u32 0, .int .u8 0, .int .i64 0] 28 4 rfl
  go_enter Try.func7, Try.ntmps7
  go_wp2_with fail
  refine (h_any _).mono ?_
  rintro e w1 ⟨rfl, b1⟩
  have ht1 := there_keep ht b1
  replace b1 := past_alloc b1
  go_wp2_with (refine wpList_store_n rfl 28 _ Try.underlying28 rfl [.int .u8 1, .int .u32 1, .int .u8 2, .int .i64 9] hi (.tmp 0) (.tmp 2) rfl w.heap.size rfl rfl (by simp [Value.oneCell']) ht1 w.heap.size (Nat.le_refl _) ?_; intro w4 r4 _ b4 h4 z4; have u0 : w4.cell? ⟨w.heap.size, 0, none⟩ = _ := r4 0 _ rfl; have u1 : w4.cell? ⟨w.heap.size, 1, none⟩ = _ := r4 1 _ rfl; have u2 : w4.cell? ⟨w.heap.size, 2, none⟩ = _ := r4 2 _ rfl; have u3 : w4.cell? ⟨w.heap.size, 3, none⟩ = _ := r4 3 _ rfl)
  exact bodyPost_ret (v := .agg #[.int .u8 1, .int .u32 1, .int .u8 2, .int .i64 9]) (by simp [results, Try.results7, go_sem, u0, u1, u2, u3]) rfl ⟨rfl, b1.trans b4⟩

/-- The chapter's delete. -/
@[reducible] def cutO : Opd := ⟨2, 1, 1, 2, 1, 1, 1, 2, 9, 2, 0, 0, 0, 0, 0, 0, []⟩
theorem cutO_r : Opr cutO := by
  have hh : Han 1 1 2 := ⟨⟨by omega, by omega, by omega, by omega⟩, by omega, by omega⟩
  have hz : Han 0 0 0 := ⟨⟨by omega, by omega, by omega, by omega⟩, by omega, by omega⟩
  exact ⟨by decide, by decide, hh, by simp [In64], ⟨⟨hh, by simp [In64]⟩, by simp [In64]⟩, ⟨hz, by simp [In64]⟩, hz.lab, In32.nil⟩
set_option maxHeartbeats 800000 in
theorem cut_any (w : World) : Calls Try.prog 9 #[] w fun e w' => e = .returned (.agg #[.int .u8 2, .int .u8 1, .int .u32 1, .int .u8 2, .int .i64 1, .int .u8 1, .int .u32 1, .int .u8 2, .int .i64 9, .int .i64 2, .int .u8 0, .int .u32 0, .int .u8 0, .int .i64 0, .int .u8 0, .int .u32 0, .slice none 0 0]) ∧ Below w.heap.size w w' := by
  have th := thereO_new w #[.int .u8 0, .int .u8 0, .int .u32 0, .int .u8 0, .int .i64 0, .int .u8 0, .int .u32 0, .int .u8 0, .int .i64 0, .int .i64 0, .int .u8 0, .int .u32 0, .int .u8 0, .int .i64 0, .int .u8 0, .int .u32 0, .slice none 0 0] rfl 35
  go_enter Try.func9, Try.ntmps9
  go_wp2_with fail
  refine (h_any _).mono ?_
  rintro e w1 ⟨rfl, b1⟩
  have th1 := th.keep b1
  replace b1 := past_alloc b1
  go_wp2_with fail
  refine (nine_any _).mono ?_
  rintro e w2 ⟨rfl, b2⟩
  have th2 := th1.keep b2
  replace b2 := below_in b1 b2
  go_wp2_with (refine wpList_store_o rfl (.tmp 0) (.tmp 4) rfl w.heap.size rfl cutO none 0 0 rfl th2 w.heap.size (Nat.le_refl _) ?_; intro w4 bx4 th4 b4 hh4 sz4)
  exact bodyPost_ret (results_o rfl rfl bx4) rfl ⟨rfl, b2.trans b4⟩

def cutBytes : List UInt8 := [2, 1, 0, 0, 0, 1, 2, 0, 0, 1, 1, 0, 0, 0, 1, 2, 0, 0, 0, 0, 0, 0, 9, 2]
theorem cut_bytes : opb cutO = cutBytes ∧ mayO cutO = true ∧ (opb cutO).length = 24 := by decide +kernel
set_option maxHeartbeats 1600000 in
theorem alive_any (w : World) :
    Calls Try.prog 11 #[] w fun e w' => e = .returned (.bool true) ∧ Below w.heap.size w w' := by
  have HC := hid cut_bytes
  have HZ : Hid (szO 1 2 = 45) := hid (by decide)
  go_enter Try.func11, Try.ntmps11
  go_wp2_with fail
  refine (cut_any _).mono ?_
  rintro e w1 ⟨rfl, b1⟩
  go_wp2_with fail
  refine (oput_yes 24 cutO none 0 0 (hid rfl) cutO_r HC.out.2.1 (hid HC.out.2.2) _ (Ri.nil _)).mono ?_
  rintro e w2 ⟨A2, c2, rfl, hr2, b2⟩
  rw [HC.out.1] at hr2
  have y1 := rd_string (n := 24) (hid (show cutBytes.length = 24 from rfl)) hr2
  have hb := below_in b1 b2
  clear b1 b2 hr2
  unfold cutBytes at y1
  go_wp2_with (go_at_call 12; refine (size_of 45 1 2 HZ _).mono ?_; rintro e w3 ⟨rfl, rfl⟩)
  go_ret
  exact ⟨rfl, hb⟩
end Go.Proofs.Ytbhglgcnoidddaa
