/-
  What the statements of layer 10 share: is, alive.
-/
import Derived.Test.YtdhfnacdjjdijaaGreatMlT
import Derived.Test.YtdhfnacdjjdijaaGreatMlV
namespace Go.Proofs.YtdhfnacdjjdijaaGreat
open Go.RowKit
set_option linter.unusedVariables false
set_option linter.unusedSimpArgs false

set_option maxRecDepth 100000 in
set_option maxHeartbeats 800000 in
theorem is_of (L : Nat) (m : Mld) (A : Option Addr) (n c : Nat) (hn : Hid (m.ops.length = n)) (hmr : Mlr m) (hm : mayM m = true) (hl : Hid ((mlb m).length = L)) (w : World) (hr : RdO w A c m.ops) :
    Calls Tryz.prog 7 #[.agg #[.int .u8 m.kd, .int .i64 m.us, .int .i64 m.se, .int .i64 m.co, .int .i64 m.fr, .int .i64 m.tt, .int .u8 m.ak, .int .i64 m.t0, .int .i64 m.t1, .int .i64 m.t2, .int .i64 m.t3, .slice A n c], .string ⟨(mlb m).toArray⟩] w fun e w' => e = .returned (.bool true) ∧ Below w.heap.size w w' := by
  have bx := boxM_new w m A n c 27
  have hr1 := hr.alloc (.cells (#[.int .u8 m.kd, .int .i64 m.us, .int .i64 m.se, .int .i64 m.co, .int .i64 m.fr, .int .i64 m.tt, .int .u8 m.ak, .int .i64 m.t0, .int .i64 m.t1, .int .i64 m.t2, .int .i64 m.t3, .slice A n c]) 27)
  obtain ⟨l, hlb⟩ : ∃ l, mlb m = l := ⟨_, rfl⟩
  have HLB := hid hlb
  have HM := hid hm
  rw [hlb]
  clear hr hlb hm
  go_enter Tryz.func7, Tryz.ntmps7
  go_wp2_with (refine wpList_load_m rfl (.tmp 2) rfl w.heap.size rfl bx ?_)
  refine (mput_yes L m A n c hn hmr HM.out hl _ hr1).mono ?_
  rintro e w1 ⟨A1, c1, rfl, hr2, b1⟩
  have hb := past_alloc b1
  rw [HLB.out] at hr2
  have HN := hid (show l.length = L by rw [← HLB.out]; exact hl.out)
  have y1 := rd_string HN hr2
  clear bx b1 hr2
  go_wp2
  go_ret
  exact ⟨ret_bool (by simp), hb⟩

/-- Mail of numbers alone. -/
theorem flat_r (k us se co fr tt ak t0 t1 t2 t3 : Int) (h : (decide (0 ≤ k) && decide (k ≤ 255) && decide (0 ≤ ak) && decide (ak ≤ 255) && [us, se, co, fr, tt, t0, t1, t2, t3].all (fun x => decide (-9223372036854775808 ≤ x) && decide (x ≤ 9223372036854775807))) = true) : Mlr ⟨k, us, se, co, fr, tt, ak, t0, t1, t2, t3, []⟩ := by
  simp only [List.all_cons, List.all_nil, Bool.and_true, Bool.and_eq_true, decide_eq_true_eq] at h
  obtain ⟨⟨⟨⟨h1, h2⟩, h3⟩, h4⟩, i1, i2, i3, i4, i5, i6, i7, i8, i9⟩ := h
  exact ⟨h1, h2, i1, i2, i3, i4, i5, h3, h4, i6, i7, i8, i9, fun o ho => by cases ho⟩
@[reducible] def mOpen : Mld := ⟨1, 3, 0, 0, 0, 0, 0, 0, 0, 0, 0, []⟩
@[reducible] def mPull : Mld := ⟨3, 0, 0, 0, 258, 0, 0, 0, 0, 0, 0, []⟩
@[reducible] def mAns : Mld := ⟨7, 0, 1, 2, 0, 0, 0, 0, 0, 0, 0, []⟩
theorem open_facts : mlb mOpen = [1, 3] ∧ mayM mOpen = true ∧ (mlb mOpen).length = 2 := by decide +kernel
theorem pull_facts : mlb mPull = [3, 0, 1, 2] ∧ mayM mPull = true ∧ (mlb mPull).length = 4 := by decide +kernel
theorem ans_facts : mlb mAns = [7, 0, 0, 1, 0, 2] ∧ mayM mAns = true ∧ (mlb mAns).length = 6 := by decide +kernel
theorem is_lit (l : List UInt8) (L : Nat) (m : Mld) (h0 : m.ops = []) (hmr : Mlr m) (hf : mlb m = l ∧ mayM m = true ∧ (mlb m).length = L) (w : World) :
    Calls Tryz.prog 7 #[.agg #[.int .u8 m.kd, .int .i64 m.us, .int .i64 m.se, .int .i64 m.co, .int .i64 m.fr, .int .i64 m.tt, .int .u8 m.ak, .int .i64 m.t0, .int .i64 m.t1, .int .i64 m.t2, .int .i64 m.t3, .slice none 0 0], .string ⟨l.toArray⟩] w fun e w' => e = .returned (.bool true) ∧ Below w.heap.size w w' := by
  have := is_of L m none 0 0 (hid (by rw [h0]; rfl)) hmr hf.2.1 (hid hf.2.2) w (by rw [h0]; exact RdO.nil w)
  rwa [hf.1] at this

set_option maxRecDepth 100000 in
set_option maxHeartbeats 1600000 in
theorem alive_any (w : World) :
    Calls Tryz.prog 9 #[] w fun e w' => e = .returned (.bool true) ∧ Below w.heap.size w w' := by
  have F1 := hid open_facts
  have F2 := hid pull_facts
  have F3 := hid ans_facts
  go_enter Tryz.func9, Tryz.ntmps9
  go_wp2_with fail
  refine (is_lit [1, 3] 2 mOpen rfl (flat_r _ _ _ _ _ _ _ _ _ _ _ (by decide)) F1.out _).mono ?_
  rintro e w1 ⟨rfl, b1⟩
  go_wp2_with fail
  refine (is_lit [3, 0, 1, 2] 4 mPull rfl (flat_r _ _ _ _ _ _ _ _ _ _ _ (by decide)) F2.out _).mono ?_
  rintro e w2 ⟨rfl, b2⟩
  go_wp2_with fail
  refine (is_lit [7, 0, 0, 1, 0, 2] 6 mAns rfl (flat_r _ _ _ _ _ _ _ _ _ _ _ (by decide)) F3.out _).mono ?_
  rintro e w3 ⟨rfl, b3⟩
  have hb := below_in (below_in b1 b2) b3
  clear b1 b2 b3
  go_wp2
  go_ret
  exact ⟨rfl, hb⟩
end Go.Proofs.YtdhfnacdjjdijaaGreat
