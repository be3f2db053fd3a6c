import Derived.Test.YthjpiopnaaielaaRows
import Derived.Test.YthjpiopnaaielaaBase
namespace Go.Proofs.Ythjpiopnaaielaa
open Go.RowKit
set_option linter.unusedVariables false

def mn (x y : Int) : Int := if y < x then y else x
def mx (x y : Int) : Int := if x < y then y else x
def an (x y : Int) : Int := bits .and .u32 x y
def orr (x y : Int) : Int := bits .or .u32 x y

def sel (k x : Int) : Int := if k = 0 then x else 0
def ck (l : Int) : Int := if l ≤ 15 then 0 else 8
def ck2 (l l' : Int) : Int := if ck l = 0 then ck l' else ck l

set_option maxHeartbeats 400000 in
theorem lower_any (l c l' c' : Int) (w : World) :
    Calls Try.prog 25 #[.agg #[.int .u8 l, .int .u32 c], .agg #[.int .u8 l', .int .u32 c']] w fun e w' =>
      e = .returned (.agg #[.int .u8 (mn l l'), .int .u32 (an c c')]) ∧ Below w.heap.size w w' := by
  go_enter Try.func25, Try.ntmps25
  go_wp2
  all_goals (go_returns; exact ⟨by simp [mn, an, *] <;> omega, by go_grown⟩)

set_option maxHeartbeats 400000 in
theorem upper_any (l c l' c' : Int) (w : World) :
    Calls Try.prog 24 #[.agg #[.int .u8 l, .int .u32 c], .agg #[.int .u8 l', .int .u32 c']] w fun e w' =>
      e = .returned (.agg #[.int .u8 (mx l l'), .int .u32 (orr c c')]) ∧ Below w.heap.size w w' := by
  go_enter Try.func24, Try.ntmps24
  go_wp2
  all_goals (go_returns; exact ⟨by simp [mx, orr, *] <;> omega, by go_grown⟩)

set_option maxHeartbeats 400000 in
theorem check_any (l c : Int) (w : World) :
    Calls Try.prog 13 #[.agg #[.int .u8 l, .int .u32 c]] w fun e w' =>
      e = .returned (.int .i64 (ck l)) ∧ Below w.heap.size w w' := by
  go_enter Try.func13, Try.ntmps13
  go_wp2
  all_goals (go_returns; exact ⟨by simp [ck, *] <;> omega, by go_grown⟩)

theorem eql_label (w : World) (a b c d : Int) : (binOp .eql 24 (.agg #[.int .u8 a, .int .u32 b]) (.agg #[.int .u8 c, .int .u32 d])).run Try.prog w = .ok (.bool (a == c && b == d)) w := by
  have e1 : Try.prog.stoodInHeld 24 = false := by kernel_rfl
  by_cases h1 : a = c <;> by_cases h2 : b = d <;> simp [go_sem, e1, h1, h2]
theorem neq_label (w : World) (a b c d : Int) : (binOp .neq 24 (.agg #[.int .u8 a, .int .u32 b]) (.agg #[.int .u8 c, .int .u32 d])).run Try.prog w = .ok (.bool (!(a == c && b == d))) w := by
  have e1 : Try.prog.stoodInHeld 24 = false := by kernel_rfl
  by_cases h1 : a = c <;> by_cases h2 : b = d <;> simp [go_sem, e1, h1, h2]

def leqB (l c l' c' : Int) : Bool := mn l l' == l && an c c' == c

set_option maxHeartbeats 400000 in
theorem leq_any (l c l' c' : Int) (w : World) :
    Calls Try.prog 20 #[.agg #[.int .u8 l, .int .u32 c], .agg #[.int .u8 l', .int .u32 c']] w fun e w' =>
      e = .returned (.bool (leqB l c l' c')) ∧ Below w.heap.size w w' := by
  go_enter Try.func20, Try.ntmps20
  go_wp2
  generalize hW : (w.alloc _).alloc _ = W
  have hb : Below w.heap.size w W := by subst hW; go_grown
  have h1 := fun x : Past W => x.keeps (a := ⟨w.heap.size, 0, none⟩) (v := .int .u8 l) (by subst hW; simp)
  have h2 := fun x : Past W => x.keeps (a := ⟨w.heap.size, 1, none⟩) (v := .int .u32 c) (by subst hW; simp)
  have h3 := fun x : Past W => x.keeps (a := ⟨w.heap.size + 1, 0, none⟩) (v := .int .u8 l') (by subst hW; simp)
  have h4 := fun x : Past W => x.keeps (a := ⟨w.heap.size + 1, 1, none⟩) (v := .int .u32 c') (by subst hW; simp)
  clear hW
  have hE := eql_label
  refine wp_region_past (by kernel_rfl) (by kernel_rfl) ?_
  repeat (go_big_quiet_step (exact quiet_below (lower_any _ _ _ _ _)))
  refine wpQuiet_nil ?_
  rintro _ ⟨⟨w1, h⟩, rfl⟩
  clear h1 h2 h3 h4 hE
  go_wp2
  go_ret
  exact ⟨rfl, hb.trans (h.mono hb.size)⟩

set_option maxHeartbeats 400000 in
theorem checkBoth_any (l c l' c' : Int) (w : World) :
    Calls Try.prog 30 #[.agg #[.int .u8 l, .int .u32 c], .agg #[.int .u8 l', .int .u32 c']] w fun e w' =>
      e = .returned (.int .i64 (ck2 l l')) ∧ Below w.heap.size w w' := by
  go_enter Try.func30, Try.ntmps30
  go_wp2_with fail
  generalize hW : (w.alloc _).alloc _ = W
  have hb : Below w.heap.size w W := by subst hW; go_grown
  have h3 : W.cell? ⟨w.heap.size + 1, 0, none⟩ = some (.int .u8 l') := by subst hW; simp
  have h4 : W.cell? ⟨w.heap.size + 1, 1, none⟩ = some (.int .u32 c') := by subst hW; simp
  clear hW
  go_call check_any l c _ as e w1 ⟨rfl, hb1⟩
  replace h3 := keep hb1 h3
  replace h4 := keep hb1 h4
  by_cases hk : ck l = 0
  · have hk1 : (ck l != 0) = false := by simp [hk]
    have H := hid hk; clear hk
    go_wp2_with fail
    go_call check_any l' c' _ as e w2 ⟨rfl, hb2⟩
    go_wp2
    go_ret
    exact ⟨by simp [ck2, H.out], (hb.trans (hb1.mono hb.size)).trans (hb2.mono (Nat.le_trans hb.size hb1.size))⟩
  · have hk1 : (ck l != 0) = true := by simp [hk]
    go_wp2_with fail
    go_ret
    exact ⟨by simp [ck2, hk], hb.trans (hb1.mono hb.size)⟩

set_option maxHeartbeats 400000 in
theorem done_any (l c l' c' x y z : Int) (B pa pb pe pm : Nat) (w : World) (he : B ≤ pe) (hm : B ≤ pm) (hme : pm ≠ pe)
    (ha0 : w.cell? ⟨pa, 0, none⟩ = some (.int .u8 l)) (ha1 : w.cell? ⟨pa, 1, none⟩ = some (.int .u32 c))
    (hb0 : w.cell? ⟨pb, 0, none⟩ = some (.int .u8 l')) (hb1 : w.cell? ⟨pb, 1, none⟩ = some (.int .u32 c'))
    (hm0 : w.cell? ⟨pm, 0, none⟩ = some (.int .u8 x)) (hm1 : w.cell? ⟨pm, 1, none⟩ = some (.int .u32 y)) (he0 : w.cell? ⟨pe, 0, none⟩ = some (.int .i64 z))
    (fm0 : w.frozen? ⟨pm, 0, none⟩ = false) (fm1 : w.frozen? ⟨pm, 1, none⟩ = false) (fe0 : w.frozen? ⟨pe, 0, none⟩ = false) :
    CallsD Try.prog 29 #[.pointer (some ⟨pa, 0, none⟩), .pointer (some ⟨pb, 0, none⟩), .pointer (some ⟨pe, 0, none⟩), .pointer (some ⟨pm, 0, none⟩)] .returning w fun e u' w' =>
      u' = .returning ∧ e = .returned (.tuple #[]) ∧ Below B w w' ∧ w'.cell? ⟨pe, 0, none⟩ = some (.int .i64 (ck2 l l')) ∧
      w'.cell? ⟨pm, 0, none⟩ = some (.int .u8 (sel (ck2 l l') x)) ∧ w'.cell? ⟨pm, 1, none⟩ = some (.int .u32 (sel (ck2 l l') y)) := by
  have hB : B ≤ w.heap.size := Nat.le_trans he (Nat.le_of_lt (World.block_lt_of_cell? w _ he0))
  go_enter_d Try.func29, Try.ntmps29
  go_wp2_with fail
  go_call checkBoth_any l c l' c' _ as e w1 ⟨rfl, hw1⟩
  replace fm0 := keepz hw1 hm0 fm0
  replace fm1 := keepz hw1 hm1 fm1
  replace fe0 := keepz hw1 he0 fe0
  replace hm0 := keep hw1 hm0
  replace hm1 := keep hw1 hm1
  replace he0 := keep hw1 he0
  clear ha0 ha1 hb0 hb1
  have hme' : ¬ pe = pm := fun h => hme h.symm
  by_cases hk : ck2 l l' = 0
  · have hk1 : (ck2 l l' != 0) = false := by simp [hk]
    have H := hid hk; clear hk
    go_wp2
    go_end0
    exact ⟨rfl, (hw1.mono hB).setCell he _, by simp [go_sem, *], by simp [go_sem, *, sel, H.out], by simp [go_sem, *, sel, H.out]⟩
  · have hk1 : (ck2 l l' != 0) = true := by simp [hk]
    have H := hid hk; clear hk
    go_wp2
    go_end0
    exact ⟨rfl, (((hw1.mono hB).setCell he _).setCell hm _).setCell hm _, by simp [go_sem, *], by simp [go_sem, *, sel, H.out], by simp [go_sem, *, sel, H.out]⟩
end Go.Proofs.Ythjpiopnaaielaa
