import Derived.Test.YthjpiopnaaielaaLabB
namespace Go.Proofs.Ythjpiopnaaielaa
open Go.RowKit
set_option linter.unusedVariables false

theorem leq_of (l c l' c' : Int) (w : World) (b : Bool) (h : leqB l c l' c' = b) :
    Calls Try.prog 20 #[.agg #[.int .u8 l, .int .u32 c], .agg #[.int .u8 l', .int .u32 c']] w fun e w' =>
      e = .returned (.bool b) ∧ Below w.heap.size w w' := by subst h; exact leq_any l c l' c' w
theorem ahead_of (l c l' c' : Int) (w : World) (b : Bool) (h : aheadB l c l' c' = b) :
    Calls Try.prog 12 #[.agg #[.int .u8 l, .int .u32 c], .agg #[.int .u8 l', .int .u32 c']] w fun e w' =>
      e = .returned (.bool b) ∧ Below w.heap.size w w' := by subst h; exact ahead_any l c l' c' w
theorem join_of (l c l' c' l'' c'' k : Int) (w : World) (h1 : sel (ck2 l l') (mx l l') = l'') (h2 : sel (ck2 l l') (orr c c') = c'') (h3 : ck2 l l' = k) :
    Calls Try.prog 8 #[.agg #[.int .u8 l, .int .u32 c], .agg #[.int .u8 l', .int .u32 c']] w fun e w' =>
      e = .returned (.tuple #[.agg #[.int .u8 l'', .int .u32 c''], .int .i64 k]) ∧ Below w.heap.size w w' := by subst h1 h2 h3; exact join_any l c l' c' w
theorem meet_of (l c l' c' l'' c'' k : Int) (w : World) (h1 : sel (ck2 l l') (mn l l') = l'') (h2 : sel (ck2 l l') (an c c') = c'') (h3 : ck2 l l' = k) :
    Calls Try.prog 10 #[.agg #[.int .u8 l, .int .u32 c], .agg #[.int .u8 l', .int .u32 c']] w fun e w' =>
      e = .returned (.tuple #[.agg #[.int .u8 l'', .int .u32 c''], .int .i64 k]) ∧ Below w.heap.size w w' := by subst h1 h2 h3; exact meet_any l c l' c' w

set_option maxHeartbeats 1000000 in
theorem alive_any (w : World) :
    Calls Try.prog 11 #[] w fun e w' => e = .returned (.bool true) ∧ Below w.heap.size w w' := by
  go_enter Try.func11, Try.ntmps11
  go_wp2_with fail
  go_call of_any 1 1 _ as e w1 ⟨rfl, b1⟩
  go_wp2_with fail
  go_call of_any 0 2 _ as e w2 ⟨rfl, b2⟩
  go_wp2_with fail
  go_call join_of 1 1 0 2 1 3 0 _ (by decide) (by decide) (by decide) as e w3 ⟨rfl, b3⟩
  have z1 := b1.size
  have z2 := b2.size
  have z3 := b3.size
  have B3 := (b1.trans (b2.mono z1)).trans (b3.mono (by omega))
  clear b1 b2 b3
  go_wp2_with fail
  go_call of_any 1 1 _ as e w4 ⟨rfl, b4⟩
  go_wp2_with fail
  go_call of_any 0 3 _ as e w5 ⟨rfl, b5⟩
  go_wp2_with fail
  go_call meet_of 1 1 0 3 0 1 0 _ (by decide) (by decide) (by decide) as e w6 ⟨rfl, b6⟩
  have z4 := b4.size
  have z5 := b5.size
  have z6 := b6.size
  simp only [World.size_alloc] at z4
  have B6 : Below w.heap.size w w6 := (((B3.alloc (by omega) _).trans (b4.mono (by simp; omega))).trans (b5.mono (by omega))).trans (b6.mono (by omega))
  have k1 : w6.cell? ⟨w3.heap.size, 0, none⟩ = some (.int .u8 1) := keep b6 (keep b5 (keep b4 (by simp)))
  have k2 : w6.cell? ⟨w3.heap.size, 1, none⟩ = some (.int .u32 3) := keep b6 (keep b5 (keep b4 (by simp)))
  clear b4 b5 b6
  go_wp2_with fail
  generalize hW : w6.alloc _ = W
  have hb : Below w.heap.size w W := by subst hW; exact B6.alloc (by omega) _
  have h1 := fun x : Past W => x.keeps (a := ⟨w3.heap.size, 0, none⟩) (v := .int .u8 1) (by subst hW; rw [World.cell?_alloc_some _ _ _ (by rw [k1]; rfl)]; exact k1)
  have h2 := fun x : Past W => x.keeps (a := ⟨w3.heap.size, 1, none⟩) (v := .int .u32 3) (by subst hW; rw [World.cell?_alloc_some _ _ _ (by rw [k2]; rfl)]; exact k2)
  have h3 := fun x : Past W => x.keeps (a := ⟨w6.heap.size, 0, none⟩) (v := .int .u8 0) (by subst hW; simp)
  have h4 := fun x : Past W => x.keeps (a := ⟨w6.heap.size, 1, none⟩) (v := .int .u32 1) (by subst hW; simp)
  clear hW k1 k2 z1 z2 z3 z4 z5 z6 B3 B6
  have hE := eql_label
  refine wp_region_past (by kernel_rfl) (by kernel_rfl) ?_
  repeat (go_big_quiet_step (first | exact quiet_below (of_any _ _ _) | exact quiet_below (leq_of _ _ _ _ _ true (by decide)) | exact quiet_below (leq_of _ _ _ _ _ false (by decide))))
  refine wpQuiet_nil ?_
  rintro _ ⟨⟨w7, h⟩, rfl⟩
  clear h1 h2 h3 h4 hE
  go_wp2
  go_ret
  exact ⟨rfl, hb.trans (h.mono hb.size)⟩
end Go.Proofs.Ythjpiopnaaielaa
