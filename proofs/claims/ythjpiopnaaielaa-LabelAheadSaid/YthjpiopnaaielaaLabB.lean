import Derived.Test.YthjpiopnaaielaaLab
namespace Go.Proofs.Ythjpiopnaaielaa
open Go.RowKit
set_option linter.unusedVariables false

set_option maxHeartbeats 400000 in
theorem ofBoth_any (g : Nat) (l c l' c' x y : Int) (w : World) (hcf : ∀ args w, (callFunc g args).run Try.prog w = .ok (.enter g args) w)
    (hg : ∀ w, Calls Try.prog g #[.agg #[.int .u8 l, .int .u32 c], .agg #[.int .u8 l', .int .u32 c']] w fun e w' => e = .returned (.agg #[.int .u8 x, .int .u32 y]) ∧ Below w.heap.size w w') :
    Calls Try.prog 23 #[.agg #[.int .u8 l, .int .u32 c], .agg #[.int .u8 l', .int .u32 c'], .func (.func g) #[] #[]] w fun e w' =>
      e = .returned (.tuple #[.agg #[.int .u8 (sel (ck2 l l') x), .int .u32 (sel (ck2 l l') y)], .int .i64 (ck2 l l')]) ∧ Below w.heap.size w w' := by
  have Hg := hid hg
  clear hg
  go_enter_defers Try.func23, Try.ntmps23
  go_wp2_with fail
  clear hcf
  generalize hW : (((w.alloc _).alloc _).alloc _).alloc _ = W
  have hb : Below w.heap.size w W := by subst hW; go_grown
  have ha0 : W.cell? ⟨w.heap.size, 0, none⟩ = some (.int .u8 l) := by subst hW; simp [go_sem]
  have ha1 : W.cell? ⟨w.heap.size, 1, none⟩ = some (.int .u32 c) := by subst hW; simp [go_sem]
  have hb0 : W.cell? ⟨w.heap.size + 1, 0, none⟩ = some (.int .u8 l') := by subst hW; simp [go_sem]
  have hb1 : W.cell? ⟨w.heap.size + 1, 1, none⟩ = some (.int .u32 c') := by subst hW; simp [go_sem]
  have hm0 : W.cell? ⟨w.heap.size + 1 + 1, 0, none⟩ = some (.int .u8 0) := by subst hW; simp [go_sem]
  have hm1 : W.cell? ⟨w.heap.size + 1 + 1, 1, none⟩ = some (.int .u32 0) := by subst hW; simp [go_sem]
  have he0 : W.cell? ⟨w.heap.size + 1 + 1 + 1, 0, none⟩ = some (.int .i64 0) := by subst hW; simp [go_sem]
  have fm0 : W.frozen? ⟨w.heap.size + 1 + 1, 0, none⟩ = false := by subst hW; simp [go_sem]
  have fm1 : W.frozen? ⟨w.heap.size + 1 + 1, 1, none⟩ = false := by subst hW; simp [go_sem]
  have fe0 : W.frozen? ⟨w.heap.size + 1 + 1 + 1, 0, none⟩ = false := by subst hW; simp [go_sem]
  clear hW
  refine (Hg.out W).mono ?_
  rintro e w1 ⟨rfl, hw1⟩
  have hb' := hb.trans (hw1.mono hb.size)
  replace fm0 := keepz hw1 hm0 fm0
  replace fm1 := keepz hw1 hm1 fm1
  replace fe0 := keepz hw1 he0 fe0
  replace ha0 := keep hw1 ha0
  replace ha1 := keep hw1 ha1
  replace hb0 := keep hw1 hb0
  replace hb1 := keep hw1 hb1
  replace hm0 := keep hw1 hm0
  replace hm1 := keep hw1 hm1
  replace he0 := keep hw1 he0
  clear hw1 hb
  go_wp2_with fail
  refine leaves_cons (f := 29) (by simp) (by simp [go_sem]; rfl) ?_
  refine (done_any l c l' c' x y 0 w.heap.size w.heap.size (w.heap.size + 1) (w.heap.size + 1 + 1 + 1) (w.heap.size + 1 + 1) _ ?_ ?_ ?_ ?_ ?_ ?_ ?_ ?_ ?_ ?_ ?_ ?_ ?_).mono ?_
  · omega
  · omega
  · omega
  · simp [go_sem, *]
  · simp [go_sem, *]
  · simp [go_sem, *]
  · simp [go_sem, *]
  · simp [go_sem, *]
  · simp [go_sem, *]
  · simp [go_sem, *]
  · simp [go_sem, *]
  · simp [go_sem, *]
  · simp [go_sem, *]
  rintro e u' w2 ⟨rfl, rfl, hb2, k1, k2, k3⟩
  exact ⟨_, by simp [results, Try.results23, go_sem, k1, k2, k3], rfl, (((hb'.setCell (by simp; omega) _).setCell (by simp; omega) _).setCell (by simp; omega) _).trans hb2⟩

theorem enter_upper (args : Array Value) (w : World) : (callFunc 24 args).run Try.prog w = .ok (.enter 24 args) w := by simp [go_sem]
theorem enter_lower (args : Array Value) (w : World) : (callFunc 25 args).run Try.prog w = .ok (.enter 25 args) w := by simp [go_sem]

set_option maxHeartbeats 400000 in
theorem join_any (l c l' c' : Int) (w : World) :
    Calls Try.prog 8 #[.agg #[.int .u8 l, .int .u32 c], .agg #[.int .u8 l', .int .u32 c']] w fun e w' =>
      e = .returned (.tuple #[.agg #[.int .u8 (sel (ck2 l l') (mx l l')), .int .u32 (sel (ck2 l l') (orr c c'))], .int .i64 (ck2 l l')]) ∧ Below w.heap.size w w' := by
  go_enter Try.func8, Try.ntmps8
  go_wp2_with fail
  generalize hW : ((w.alloc _).alloc _).alloc _ = W
  have hb : Below w.heap.size w W := by subst hW; go_grown
  have hm0 : W.cell? ⟨w.heap.size + 1 + 1, 0, none⟩ = some (.int .u8 0) := by subst hW; simp [go_sem]
  have hm1 : W.cell? ⟨w.heap.size + 1 + 1, 1, none⟩ = some (.int .u32 0) := by subst hW; simp [go_sem]
  have fm0 : W.frozen? ⟨w.heap.size + 1 + 1, 0, none⟩ = false := by subst hW; simp [go_sem]
  have fm1 : W.frozen? ⟨w.heap.size + 1 + 1, 1, none⟩ = false := by subst hW; simp [go_sem]
  clear hW
  refine (ofBoth_any _ l c l' c' _ _ W enter_upper (fun w => upper_any l c l' c' w)).mono ?_
  rintro e w1 ⟨rfl, hw1⟩
  replace fm0 := keepz hw1 hm0 fm0
  replace fm1 := keepz hw1 hm1 fm1
  replace hm0 := keep hw1 hm0
  replace hm1 := keep hw1 hm1
  go_wp2
  exact bodyPost_ret (by simp [results, Try.results8, go_sem, hm0, hm1]) rfl ⟨rfl, ((hb.trans (hw1.mono hb.size)).setCell (by simp; omega) _).setCell (by simp; omega) _⟩

set_option maxHeartbeats 400000 in
theorem meet_any (l c l' c' : Int) (w : World) :
    Calls Try.prog 10 #[.agg #[.int .u8 l, .int .u32 c], .agg #[.int .u8 l', .int .u32 c']] w fun e w' =>
      e = .returned (.tuple #[.agg #[.int .u8 (sel (ck2 l l') (mn l l')), .int .u32 (sel (ck2 l l') (an c c'))], .int .i64 (ck2 l l')]) ∧ Below w.heap.size w w' := by
  go_enter Try.func10, Try.ntmps10
  go_wp2_with fail
  generalize hW : ((w.alloc _).alloc _).alloc _ = W
  have hb : Below w.heap.size w W := by subst hW; go_grown
  have hm0 : W.cell? ⟨w.heap.size + 1 + 1, 0, none⟩ = some (.int .u8 0) := by subst hW; simp [go_sem]
  have hm1 : W.cell? ⟨w.heap.size + 1 + 1, 1, none⟩ = some (.int .u32 0) := by subst hW; simp [go_sem]
  have fm0 : W.frozen? ⟨w.heap.size + 1 + 1, 0, none⟩ = false := by subst hW; simp [go_sem]
  have fm1 : W.frozen? ⟨w.heap.size + 1 + 1, 1, none⟩ = false := by subst hW; simp [go_sem]
  clear hW
  refine (ofBoth_any _ l c l' c' _ _ W enter_lower (fun w => lower_any l c l' c' w)).mono ?_
  rintro e w1 ⟨rfl, hw1⟩
  replace fm0 := keepz hw1 hm0 fm0
  replace fm1 := keepz hw1 hm1 fm1
  replace hm0 := keep hw1 hm0
  replace hm1 := keep hw1 hm1
  go_wp2
  exact bodyPost_ret (by simp [results, Try.results10, go_sem, hm0, hm1]) rfl ⟨rfl, ((hb.trans (hw1.mono hb.size)).setCell (by simp; omega) _).setCell (by simp; omega) _⟩

set_option maxHeartbeats 400000 in
theorem of_any (l c : Int) (w : World) :
    Calls Try.prog 9 #[.int .u8 l, .int .u32 c] w fun e w' =>
      e = .returned (.agg #[.int .u8 l, .int .u32 c]) ∧ Below w.heap.size w w' := by
  go_enter Try.func9, Try.ntmps9
  go_wp2
  go_returns
  exact ⟨rfl, by go_grown⟩

def aheadB (l c l' c' : Int) : Bool := if l = l' then decide (c < c') else decide (l < l')

set_option maxHeartbeats 400000 in
theorem ahead_any (l c l' c' : Int) (w : World) :
    Calls Try.prog 12 #[.agg #[.int .u8 l, .int .u32 c], .agg #[.int .u8 l', .int .u32 c']] w fun e w' =>
      e = .returned (.bool (aheadB l c l' c')) ∧ Below w.heap.size w w' := by
  by_cases h : l = l'
  · have h1 : (l == l') = true := by simp [h]
    have H := hid h; clear h
    go_enter Try.func12, Try.ntmps12
    go_wp2
    go_ret
    exact ⟨by simp [aheadB, H.out], by go_grown⟩
  · have h1 : (l == l') = false := by simp [h]
    go_enter Try.func12, Try.ntmps12
    go_wp2
    go_ret
    exact ⟨by simp [aheadB, h], by go_grown⟩

theorem least_any (w : World) : Calls Try.prog 18 #[] w fun e w' => e = .returned (.agg #[.int .u8 0, .int .u32 0]) ∧ Below w.heap.size w w' := by
  go_enter Try.func18, Try.ntmps18
  go_wp2
  go_returns
  exact ⟨rfl, by go_grown⟩
theorem greatest_any (w : World) : Calls Try.prog 16 #[] w fun e w' => e = .returned (.agg #[.int .u8 15, .int .u32 4294967295]) ∧ Below w.heap.size w w' := by
  go_enter Try.func16, Try.ntmps16
  go_wp2
  go_returns
  exact ⟨rfl, by go_grown⟩
end Go.Proofs.Ythjpiopnaaielaa
