/-
  The program's Put of layer 9, at every operation.
-/
import Derived.Test.YtndmblhkmgnpcaaGreatOI
import Derived.Test.YtndmblhkmgnpcaaGreatOD
import Derived.Deep.RegionHeld
import Derived.Deep.RegionHeldLaw
namespace Go.Proofs.YtndmblhkmgnpcaaGreat
open Go.RowKit
set_option linter.unusedVariables false
set_option linter.unusedSimpArgs false

theorem index_62 (W : World) (v0 : Value) (F1 F2 F3 : Fn) (a1 b1 a2 b2 a3 b3 : Array Value) :
    (Instr.index 156 (.agg #[v0, .func F1 a1 b1, .func F2 a2 b2, .func F3 a3 b3]) (.int .u8 1)).run Tryz.prog W = .ok (.func F1 a1 b1) W ∧
    (Instr.index 156 (.agg #[v0, .func F1 a1 b1, .func F2 a2 b2, .func F3 a3 b3]) (.int .u8 2)).run Tryz.prog W = .ok (.func F2 a2 b2) W ∧
    (Instr.index 156 (.agg #[v0, .func F1 a1 b1, .func F2 a2 b2, .func F3 a3 b3]) (.int .u8 3)).run Tryz.prog W = .ok (.func F3 a3 b3) W := by
  have h := Tryz.underlying156
  refine ⟨?_, ?_, ?_⟩ <;> simp [go_sem, Instr.index, run_underlying h, part, asAgg, asIntOf]
theorem index_74 (W : World) (v0 : Value) (F1 F2 F3 : Fn) (a1 b1 a2 b2 a3 b3 : Array Value) :
    (Instr.index 176 (.agg #[v0, .func F1 a1 b1, .func F2 a2 b2, .func F3 a3 b3]) (.int .u8 1)).run Tryz.prog W = .ok (.func F1 a1 b1) W ∧
    (Instr.index 176 (.agg #[v0, .func F1 a1 b1, .func F2 a2 b2, .func F3 a3 b3]) (.int .u8 2)).run Tryz.prog W = .ok (.func F2 a2 b2) W ∧
    (Instr.index 176 (.agg #[v0, .func F1 a1 b1, .func F2 a2 b2, .func F3 a3 b3]) (.int .u8 3)).run Tryz.prog W = .ok (.func F3 a3 b3) W := by
  have h := Tryz.underlying176
  refine ⟨?_, ?_, ?_⟩ <;> simp [go_sem, Instr.index, run_underlying h, part, asAgg, asIntOf]
end Go.Proofs.YtndmblhkmgnpcaaGreat

namespace Go.Proofs.YtndmblhkmgnpcaaGreat
open Go.RowKit
set_option linter.unusedVariables false
set_option linter.unusedSimpArgs false

set_option maxRecDepth 100000 in
set_option maxHeartbeats 3200000 in
theorem put1_of (m : Nat) (o : Opd) (A : Option Addr) (n c : Nat) (hn : Hid (o.row.length = n)) (hr : Opr o) (hm : mayO o = true) (hk : o.kd = 1) (hl : (tailO o).length = m) (w : World) (hri : Ri w A c o.row) :
    Calls Tryz.prog 82 #[.agg #[.int .u8 o.kd, .int .u8 o.l, .int .u32 o.c, .int .u8 o.k, .int .i64 o.s, .int .u8 o.fl, .int .u32 o.fc, .int .u8 o.fk, .int .i64 o.fn, .int .i64 o.fm, .int .u8 o.al, .int .u32 o.ac, .int .u8 o.ak, .int .i64 o.an, .int .u8 o.tl, .int .u32 o.tc, .slice A n c]] w fun e w' => ∃ A' c', e = .returned (.tuple #[.slice A' (24 + m) c', .int .i64 0]) ∧ Rd w' A' c' (opb o) ∧ Below w.heap.size w w' := by
  obtain ⟨i0, hi0, hz0, hz1, hz2⟩ := info_parts info_u8
  have HK := hid hk
  have HJ := hid (show er (mayO o) = 0 by rw [hm]; rfl)
  have hm5 : m ≤ 300 := by have := (opb_length hm).2.2.1; rw [opb, List.length_append, headO_length, hl] at this; omega
  have HL := hid hl
  clear hk hl
  have bx := boxO_new w o A n c 33
  go_enter Tryz.func82, Tryz.ntmps82
  go_wp2_with (refine wpList_load_o rfl (.tmp 1) rfl _ rfl bx ?_)
  refine (ocheck_of 0 o A n c hn HJ _ (hri.alloc _)).mono ?_
  rintro e W ⟨rfl, b1⟩
  replace bx := bx.keep b1
  have hb := past_alloc b1
  replace hri := hri.keep hb
  clear b1
  have q0 := fun w' (h : Below W.heap.size W w') => keep h bx.c0
  have S0 : Below W.heap.size W W.drew := (Below.refl _ _).drew
  go_wp2_with fail
  refine wp_region_held_drew (S := fun w' => Below W.heap.size W w') (by kernel_rfl) S0 (fun hHeld => ?_)
  refine wpAnyH_take (i := 0) (v := .agg #[.int .u8 o.kd, .int .u8 o.l, .int .u32 o.c, .int .u8 o.k, .int .i64 o.s, .int .u8 o.fl, .int .u32 o.fc, .int .u8 o.fk, .int .i64 o.fn, .int .i64 o.fm, .int .u8 o.al, .int .u32 o.ac, .int .u8 o.ak, .int .i64 o.an, .int .u8 o.tl, .int .u32 o.tc, .slice A n c]) rfl (by kernel_rfl) (by kernel_rfl) (by kernel_rfl) (fun _ _ _ h => h) (yields_load_o (by rfl) (.tmp 1) rfl _ rfl (fun w' h => bx.keep h)) hHeld ?_
  (try simp only [Act.put, List.setIfInBounds_toArray, List.set_cons_zero, List.set_cons_succ])
  refine wpAnyH_take (i := 2) (v := .agg #[.int .u8 o.kd, .int .u8 o.l, .int .u32 o.c, .int .u8 o.k, .int .i64 o.s, .int .u8 o.fl, .int .u32 o.fc, .int .u8 o.fk, .int .i64 o.fn, .int .i64 o.fm, .int .u8 o.al, .int .u32 o.ac, .int .u8 o.ak, .int .i64 o.an, .int .u8 o.tl, .int .u32 o.tc, .slice A n c]) rfl (by kernel_rfl) (by kernel_rfl) (by kernel_rfl) (fun _ _ _ h => h) (yields_load_o (by rfl) (.tmp 1) rfl _ rfl (fun w' h => bx.keep h)) hHeld ?_
  (try simp only [Act.put, List.setIfInBounds_toArray, List.set_cons_zero, List.set_cons_succ])
  refine wpAnyH_take (i := 4) (v := ?_) rfl (by kernel_rfl) (by kernel_rfl) (by kernel_rfl) (fun _ _ _ h => h) (Or.inl ⟨by rfl, ?_⟩) hHeld ?_
  rotate_left
  · intro w' hSw
    (try dsimp only at hSw)
    go_simp <;> with_reducible rfl
  (try simp only [Act.put, List.setIfInBounds_toArray, List.set_cons_zero, List.set_cons_succ])
  refine wpAnyH_take (i := 5) (v := ?_) rfl (by kernel_rfl) (by kernel_rfl) (by kernel_rfl) (fun _ _ _ h => h) (Or.inl ⟨by rfl, ?_⟩) hHeld ?_
  rotate_left
  · intro w' hSw
    (try dsimp only at hSw)
    go_simp <;> with_reducible rfl
  (try simp only [Act.put, List.setIfInBounds_toArray, List.set_cons_zero, List.set_cons_succ])
  refine wpAnyH_ready (rs := [1]) (by kernel_rfl) (by simp) ?_
  refine AllReadyH.cons rfl (fun K hK => ?_) AllReadyH.nil
  go_simp
  go_wp2_with (go_at_call 109; refine (head_of o A n c hr hm _).mono ?_; rintro e w2 ⟨A1, c1, rfl, ho1, hb1⟩)
  have hHeld2 := below_in (w := W) S0 hb1
  refine hK.out _ _ hHeld2 (fun _ => ?_)
  clear hK K
  refine wpAnyH_ready (rs := [3]) (by kernel_rfl) (by simp) ?_
  refine AllReadyH.cons rfl (fun K hK => ?_) AllReadyH.nil
  go_simp
  go_wp2_with (go_at_call 110; refine (tails_any o A n c _).mono ?_; rintro e w3 ⟨rfl, bg, hb2⟩)
  have hHeld3 := below_in (w := W) hHeld2 hb2
  refine hK.out _ _ hHeld3 (fun _ => ?_)
  clear hK K
  refine wpAnyH_take (i := 6) (v := .func (.func 139) #[] #[.pointer (some ⟨w2.heap.size, 0, none⟩)]) rfl (by kernel_rfl) (by kernel_rfl) (by kernel_rfl) (fun _ _ _ h => h) (Or.inl ⟨by rfl, ?_⟩) hHeld3 ?_
  · intro w' hSw
    have hk9 := HK.out
    have hix := index_62 w'
    go_simp
  (try simp only [Act.put, List.setIfInBounds_toArray, List.set_cons_zero, List.set_cons_succ])
  refine wpAnyH_ready (rs := [7]) (by kernel_rfl) (by simp) ?_
  refine AllReadyH.cons rfl (fun K hK => ?_) AllReadyH.nil
  go_simp
  go_wp2_with (go_at_call 139; refine (tails1_of m o _ A n c hn hr hm HK.out HL _ bg (hri.keep hHeld3)).mono ?_; rintro e w4 ⟨A2, c2, rfl, hr2, hb3⟩)
  have hHeld4 := below_in (w := W) hHeld3 hb3
  refine hK.out _ _ hHeld4 (fun _ => ?_)
  clear hK K
  refine wpAnyH_ready (rs := [8]) (by kernel_rfl) (by simp) ?_
  refine AllReadyH.cons rfl (fun K hK => ?_) AllReadyH.nil
  refine step_append_rd rfl (.tmp 11) (.tmp 17) _ (by rfl) W.heap.size 5 Tryz.underlying51 hi0 hz0 hz1 hz2 A1 24 c1 (headO o) (hid (headO_length _)) (by rfl) ((ho1.mono (Nat.le_refl _)).keep (hb2.trans (hb3.mono hb2.size))) A2 m c2 (tailO o) HL (by rfl) hr2 (by omega) (Below.size (w := W) hHeld4) ?_
  intro A3 c3 w5 ho5 hb5
  have hB5 := Below.trans hHeld4 hb5
  refine hK.out _ _ hB5 (fun hHeld9 => ?_)
  clear hK K
  refine wpAnyH_take (i := 9) (v := ?_) rfl (by kernel_rfl) (by kernel_rfl) (by kernel_rfl) (fun _ _ _ h => h) (Or.inl ⟨by rfl, ?_⟩) hHeld9 ?_
  rotate_left
  · intro w' hSw
    (try dsimp only at hSw)
    go_simp <;> with_reducible rfl
  (try simp only [Act.put, List.setIfInBounds_toArray, List.set_cons_zero, List.set_cons_succ])
  refine wpAnyH_take (i := 10) (v := ?_) rfl (by kernel_rfl) (by kernel_rfl) (by kernel_rfl) (fun _ _ _ h => h) (Or.inl ⟨by rfl, ?_⟩) hHeld9 ?_
  rotate_left
  · intro w' hSw
    (try dsimp only at hSw)
    go_simp <;> with_reducible rfl
  (try simp only [Act.put, List.setIfInBounds_toArray, List.set_cons_zero, List.set_cons_succ])
  refine wpAnyH_done (by kernel_rfl) ?_ _
  have hbb := below_in hb hB5
  have HO := hid ho5.rd
  clear hHeld hHeld2 hHeld3 hHeld4 hHeld9 hB5 hb5 ho5 q0
  go_simp
  go_wp2
  go_ret2
  exact ⟨A3, c3, rfl, HO.out, hbb⟩
end Go.Proofs.YtndmblhkmgnpcaaGreat

namespace Go.Proofs.YtndmblhkmgnpcaaGreat
open Go.RowKit
set_option linter.unusedVariables false
set_option linter.unusedSimpArgs false

theorem tails2_of (o : Opd) (hk : o.kd = 2) (w : World) :
    Calls Tryz.prog 142 #[] w fun e w' => ∃ A' c', e = .returned (.slice A' 0 c') ∧ Rd w' A' c' (tailO o) ∧ Below w.heap.size w w' := by
  refine (tails2_any w).mono ?_
  rintro e w' ⟨rfl, rfl⟩
  have e : tailO o = [] := by rw [tailO, if_neg (by omega), if_neg (by omega)]
  rw [e]
  exact ⟨none, 0, rfl, Rd.nil _, Below.refl _ _⟩

set_option maxRecDepth 100000 in
set_option maxHeartbeats 3200000 in
theorem put2_of (m : Nat) (o : Opd) (A : Option Addr) (n c : Nat) (hn : Hid (o.row.length = n)) (hr : Opr o) (hm : mayO o = true) (hk : o.kd = 2) (hl : (tailO o).length = m) (w : World) (hri : Ri w A c o.row) :
    Calls Tryz.prog 82 #[.agg #[.int .u8 o.kd, .int .u8 o.l, .int .u32 o.c, .int .u8 o.k, .int .i64 o.s, .int .u8 o.fl, .int .u32 o.fc, .int .u8 o.fk, .int .i64 o.fn, .int .i64 o.fm, .int .u8 o.al, .int .u32 o.ac, .int .u8 o.ak, .int .i64 o.an, .int .u8 o.tl, .int .u32 o.tc, .slice A n c]] w fun e w' => ∃ A' c', e = .returned (.tuple #[.slice A' (24 + m) c', .int .i64 0]) ∧ Rd w' A' c' (opb o) ∧ Below w.heap.size w w' := by
  obtain ⟨i0, hi0, hz0, hz1, hz2⟩ := info_parts info_u8
  have HK := hid hk
  have HJ := hid (show er (mayO o) = 0 by rw [hm]; rfl)
  have hm5 : m ≤ 300 := by have := (opb_length hm).2.2.1; rw [opb, List.length_append, headO_length, hl] at this; omega
  obtain rfl : m = 0 := by rw [← hl, tailO, if_neg (by omega), if_neg (by omega)]; rfl
  have HL := hid hl
  clear hk hl
  have bx := boxO_new w o A n c 33
  go_enter Tryz.func82, Tryz.ntmps82
  go_wp2_with (refine wpList_load_o rfl (.tmp 1) rfl _ rfl bx ?_)
  refine (ocheck_of 0 o A n c hn HJ _ (hri.alloc _)).mono ?_
  rintro e W ⟨rfl, b1⟩
  replace bx := bx.keep b1
  have hb := past_alloc b1
  replace hri := hri.keep hb
  clear b1
  have q0 := fun w' (h : Below W.heap.size W w') => keep h bx.c0
  have S0 : Below W.heap.size W W.drew := (Below.refl _ _).drew
  go_wp2_with fail
  refine wp_region_held_drew (S := fun w' => Below W.heap.size W w') (by kernel_rfl) S0 (fun hHeld => ?_)
  refine wpAnyH_take (i := 0) (v := .agg #[.int .u8 o.kd, .int .u8 o.l, .int .u32 o.c, .int .u8 o.k, .int .i64 o.s, .int .u8 o.fl, .int .u32 o.fc, .int .u8 o.fk, .int .i64 o.fn, .int .i64 o.fm, .int .u8 o.al, .int .u32 o.ac, .int .u8 o.ak, .int .i64 o.an, .int .u8 o.tl, .int .u32 o.tc, .slice A n c]) rfl (by kernel_rfl) (by kernel_rfl) (by kernel_rfl) (fun _ _ _ h => h) (yields_load_o (by rfl) (.tmp 1) rfl _ rfl (fun w' h => bx.keep h)) hHeld ?_
  (try simp only [Act.put, List.setIfInBounds_toArray, List.set_cons_zero, List.set_cons_succ])
  refine wpAnyH_take (i := 2) (v := .agg #[.int .u8 o.kd, .int .u8 o.l, .int .u32 o.c, .int .u8 o.k, .int .i64 o.s, .int .u8 o.fl, .int .u32 o.fc, .int .u8 o.fk, .int .i64 o.fn, .int .i64 o.fm, .int .u8 o.al, .int .u32 o.ac, .int .u8 o.ak, .int .i64 o.an, .int .u8 o.tl, .int .u32 o.tc, .slice A n c]) rfl (by kernel_rfl) (by kernel_rfl) (by kernel_rfl) (fun _ _ _ h => h) (yields_load_o (by rfl) (.tmp 1) rfl _ rfl (fun w' h => bx.keep h)) hHeld ?_
  (try simp only [Act.put, List.setIfInBounds_toArray, List.set_cons_zero, List.set_cons_succ])
  refine wpAnyH_take (i := 4) (v := ?_) rfl (by kernel_rfl) (by kernel_rfl) (by kernel_rfl) (fun _ _ _ h => h) (Or.inl ⟨by rfl, ?_⟩) hHeld ?_
  rotate_left
  · intro w' hSw
    (try dsimp only at hSw)
    go_simp <;> with_reducible rfl
  (try simp only [Act.put, List.setIfInBounds_toArray, List.set_cons_zero, List.set_cons_succ])
  refine wpAnyH_take (i := 5) (v := ?_) rfl (by kernel_rfl) (by kernel_rfl) (by kernel_rfl) (fun _ _ _ h => h) (Or.inl ⟨by rfl, ?_⟩) hHeld ?_
  rotate_left
  · intro w' hSw
    (try dsimp only at hSw)
    go_simp <;> with_reducible rfl
  (try simp only [Act.put, List.setIfInBounds_toArray, List.set_cons_zero, List.set_cons_succ])
  refine wpAnyH_ready (rs := [1]) (by kernel_rfl) (by simp) ?_
  refine AllReadyH.cons rfl (fun K hK => ?_) AllReadyH.nil
  go_simp
  go_wp2_with (go_at_call 109; refine (head_of o A n c hr hm _).mono ?_; rintro e w2 ⟨A1, c1, rfl, ho1, hb1⟩)
  have hHeld2 := below_in (w := W) S0 hb1
  refine hK.out _ _ hHeld2 (fun _ => ?_)
  clear hK K
  refine wpAnyH_ready (rs := [3]) (by kernel_rfl) (by simp) ?_
  refine AllReadyH.cons rfl (fun K hK => ?_) AllReadyH.nil
  go_simp
  go_wp2_with (go_at_call 110; refine (tails_any o A n c _).mono ?_; rintro e w3 ⟨rfl, bg, hb2⟩)
  have hHeld3 := below_in (w := W) hHeld2 hb2
  refine hK.out _ _ hHeld3 (fun _ => ?_)
  clear hK K
  refine wpAnyH_take (i := 6) (v := .func (.func 142) #[] #[]) rfl (by kernel_rfl) (by kernel_rfl) (by kernel_rfl) (fun _ _ _ h => h) (Or.inl ⟨by rfl, ?_⟩) hHeld3 ?_
  · intro w' hSw
    have hk9 := HK.out
    have hix := index_62 w'
    go_simp
  (try simp only [Act.put, List.setIfInBounds_toArray, List.set_cons_zero, List.set_cons_succ])
  refine wpAnyH_ready (rs := [7]) (by kernel_rfl) (by simp) ?_
  refine AllReadyH.cons rfl (fun K hK => ?_) AllReadyH.nil
  go_simp
  go_wp2_with (go_at_call 142; refine (tails2_of o HK.out _).mono ?_; rintro e w4 ⟨A2, c2, rfl, hr2, hb3⟩)
  have hHeld4 := below_in (w := W) hHeld3 hb3
  refine hK.out _ _ hHeld4 (fun _ => ?_)
  clear hK K
  refine wpAnyH_ready (rs := [8]) (by kernel_rfl) (by simp) ?_
  refine AllReadyH.cons rfl (fun K hK => ?_) AllReadyH.nil
  refine step_append_rd rfl (.tmp 11) (.tmp 17) _ (by rfl) W.heap.size 5 Tryz.underlying51 hi0 hz0 hz1 hz2 A1 24 c1 (headO o) (hid (headO_length _)) (by rfl) ((ho1.mono (Nat.le_refl _)).keep (hb2.trans (hb3.mono hb2.size))) A2 0 c2 (tailO o) HL (by rfl) hr2 (by omega) (Below.size (w := W) hHeld4) ?_
  intro A3 c3 w5 ho5 hb5
  have hB5 := Below.trans hHeld4 hb5
  refine hK.out _ _ hB5 (fun hHeld9 => ?_)
  clear hK K
  refine wpAnyH_take (i := 9) (v := ?_) rfl (by kernel_rfl) (by kernel_rfl) (by kernel_rfl) (fun _ _ _ h => h) (Or.inl ⟨by rfl, ?_⟩) hHeld9 ?_
  rotate_left
  · intro w' hSw
    (try dsimp only at hSw)
    go_simp <;> with_reducible rfl
  (try simp only [Act.put, List.setIfInBounds_toArray, List.set_cons_zero, List.set_cons_succ])
  refine wpAnyH_take (i := 10) (v := ?_) rfl (by kernel_rfl) (by kernel_rfl) (by kernel_rfl) (fun _ _ _ h => h) (Or.inl ⟨by rfl, ?_⟩) hHeld9 ?_
  rotate_left
  · intro w' hSw
    (try dsimp only at hSw)
    go_simp <;> with_reducible rfl
  (try simp only [Act.put, List.setIfInBounds_toArray, List.set_cons_zero, List.set_cons_succ])
  refine wpAnyH_done (by kernel_rfl) ?_ _
  have hbb := below_in hb hB5
  have HO := hid ho5.rd
  clear hHeld hHeld2 hHeld3 hHeld4 hHeld9 hB5 hb5 ho5 q0
  go_simp
  go_wp2
  go_ret2
  exact ⟨A3, c3, rfl, HO.out, hbb⟩
end Go.Proofs.YtndmblhkmgnpcaaGreat

namespace Go.Proofs.YtndmblhkmgnpcaaGreat
open Go.RowKit
set_option linter.unusedVariables false
set_option linter.unusedSimpArgs false

set_option maxRecDepth 100000 in
set_option maxHeartbeats 3200000 in
theorem put3_of (m : Nat) (o : Opd) (A : Option Addr) (n c : Nat) (hn : Hid (o.row.length = n)) (hr : Opr o) (hm : mayO o = true) (hk : o.kd = 3) (hl : (tailO o).length = m) (w : World) (hri : Ri w A c o.row) :
    Calls Tryz.prog 82 #[.agg #[.int .u8 o.kd, .int .u8 o.l, .int .u32 o.c, .int .u8 o.k, .int .i64 o.s, .int .u8 o.fl, .int .u32 o.fc, .int .u8 o.fk, .int .i64 o.fn, .int .i64 o.fm, .int .u8 o.al, .int .u32 o.ac, .int .u8 o.ak, .int .i64 o.an, .int .u8 o.tl, .int .u32 o.tc, .slice A n c]] w fun e w' => ∃ A' c', e = .returned (.tuple #[.slice A' (24 + m) c', .int .i64 0]) ∧ Rd w' A' c' (opb o) ∧ Below w.heap.size w w' := by
  obtain ⟨i0, hi0, hz0, hz1, hz2⟩ := info_parts info_u8
  have HK := hid hk
  have HJ := hid (show er (mayO o) = 0 by rw [hm]; rfl)
  have hm5 : m ≤ 300 := by have := (opb_length hm).2.2.1; rw [opb, List.length_append, headO_length, hl] at this; omega
  obtain rfl : m = 5 := by rw [← hl, tailO, if_neg (by omega), if_pos hk]; simp [nB_length]
  have HL := hid hl
  clear hk hl
  have bx := boxO_new w o A n c 33
  go_enter Tryz.func82, Tryz.ntmps82
  go_wp2_with (refine wpList_load_o rfl (.tmp 1) rfl _ rfl bx ?_)
  refine (ocheck_of 0 o A n c hn HJ _ (hri.alloc _)).mono ?_
  rintro e W ⟨rfl, b1⟩
  replace bx := bx.keep b1
  have hb := past_alloc b1
  replace hri := hri.keep hb
  clear b1
  have q0 := fun w' (h : Below W.heap.size W w') => keep h bx.c0
  have S0 : Below W.heap.size W W.drew := (Below.refl _ _).drew
  go_wp2_with fail
  refine wp_region_held_drew (S := fun w' => Below W.heap.size W w') (by kernel_rfl) S0 (fun hHeld => ?_)
  refine wpAnyH_take (i := 0) (v := .agg #[.int .u8 o.kd, .int .u8 o.l, .int .u32 o.c, .int .u8 o.k, .int .i64 o.s, .int .u8 o.fl, .int .u32 o.fc, .int .u8 o.fk, .int .i64 o.fn, .int .i64 o.fm, .int .u8 o.al, .int .u32 o.ac, .int .u8 o.ak, .int .i64 o.an, .int .u8 o.tl, .int .u32 o.tc, .slice A n c]) rfl (by kernel_rfl) (by kernel_rfl) (by kernel_rfl) (fun _ _ _ h => h) (yields_load_o (by rfl) (.tmp 1) rfl _ rfl (fun w' h => bx.keep h)) hHeld ?_
  (try simp only [Act.put, List.setIfInBounds_toArray, List.set_cons_zero, List.set_cons_succ])
  refine wpAnyH_take (i := 2) (v := .agg #[.int .u8 o.kd, .int .u8 o.l, .int .u32 o.c, .int .u8 o.k, .int .i64 o.s, .int .u8 o.fl, .int .u32 o.fc, .int .u8 o.fk, .int .i64 o.fn, .int .i64 o.fm, .int .u8 o.al, .int .u32 o.ac, .int .u8 o.ak, .int .i64 o.an, .int .u8 o.tl, .int .u32 o.tc, .slice A n c]) rfl (by kernel_rfl) (by kernel_rfl) (by kernel_rfl) (fun _ _ _ h => h) (yields_load_o (by rfl) (.tmp 1) rfl _ rfl (fun w' h => bx.keep h)) hHeld ?_
  (try simp only [Act.put, List.setIfInBounds_toArray, List.set_cons_zero, List.set_cons_succ])
  refine wpAnyH_take (i := 4) (v := ?_) rfl (by kernel_rfl) (by kernel_rfl) (by kernel_rfl) (fun _ _ _ h => h) (Or.inl ⟨by rfl, ?_⟩) hHeld ?_
  rotate_left
  · intro w' hSw
    (try dsimp only at hSw)
    go_simp <;> with_reducible rfl
  (try simp only [Act.put, List.setIfInBounds_toArray, List.set_cons_zero, List.set_cons_succ])
  refine wpAnyH_take (i := 5) (v := ?_) rfl (by kernel_rfl) (by kernel_rfl) (by kernel_rfl) (fun _ _ _ h => h) (Or.inl ⟨by rfl, ?_⟩) hHeld ?_
  rotate_left
  · intro w' hSw
    (try dsimp only at hSw)
    go_simp <;> with_reducible rfl
  (try simp only [Act.put, List.setIfInBounds_toArray, List.set_cons_zero, List.set_cons_succ])
  refine wpAnyH_ready (rs := [1]) (by kernel_rfl) (by simp) ?_
  refine AllReadyH.cons rfl (fun K hK => ?_) AllReadyH.nil
  go_simp
  go_wp2_with (go_at_call 109; refine (head_of o A n c hr hm _).mono ?_; rintro e w2 ⟨A1, c1, rfl, ho1, hb1⟩)
  have hHeld2 := below_in (w := W) S0 hb1
  refine hK.out _ _ hHeld2 (fun _ => ?_)
  clear hK K
  refine wpAnyH_ready (rs := [3]) (by kernel_rfl) (by simp) ?_
  refine AllReadyH.cons rfl (fun K hK => ?_) AllReadyH.nil
  go_simp
  go_wp2_with (go_at_call 110; refine (tails_any o A n c _).mono ?_; rintro e w3 ⟨rfl, bg, hb2⟩)
  have hHeld3 := below_in (w := W) hHeld2 hb2
  refine hK.out _ _ hHeld3 (fun _ => ?_)
  clear hK K
  refine wpAnyH_take (i := 6) (v := .func (.func 143) #[] #[.pointer (some ⟨w2.heap.size, 0, none⟩)]) rfl (by kernel_rfl) (by kernel_rfl) (by kernel_rfl) (fun _ _ _ h => h) (Or.inl ⟨by rfl, ?_⟩) hHeld3 ?_
  · intro w' hSw
    have hk9 := HK.out
    have hix := index_62 w'
    go_simp
  (try simp only [Act.put, List.setIfInBounds_toArray, List.set_cons_zero, List.set_cons_succ])
  refine wpAnyH_ready (rs := [7]) (by kernel_rfl) (by simp) ?_
  refine AllReadyH.cons rfl (fun K hK => ?_) AllReadyH.nil
  go_simp
  go_wp2_with (go_at_call 143; refine (tails3_of o _ A n c hr HK.out _ bg).mono ?_; rintro e w4 ⟨A2, c2, rfl, hr2, hb3⟩)
  have hHeld4 := below_in (w := W) hHeld3 hb3
  refine hK.out _ _ hHeld4 (fun _ => ?_)
  clear hK K
  refine wpAnyH_ready (rs := [8]) (by kernel_rfl) (by simp) ?_
  refine AllReadyH.cons rfl (fun K hK => ?_) AllReadyH.nil
  refine step_append_rd rfl (.tmp 11) (.tmp 17) _ (by rfl) W.heap.size 5 Tryz.underlying51 hi0 hz0 hz1 hz2 A1 24 c1 (headO o) (hid (headO_length _)) (by rfl) ((ho1.mono (Nat.le_refl _)).keep (hb2.trans (hb3.mono hb2.size))) A2 5 c2 (tailO o) HL (by rfl) hr2 (by omega) (Below.size (w := W) hHeld4) ?_
  intro A3 c3 w5 ho5 hb5
  have hB5 := Below.trans hHeld4 hb5
  refine hK.out _ _ hB5 (fun hHeld9 => ?_)
  clear hK K
  refine wpAnyH_take (i := 9) (v := ?_) rfl (by kernel_rfl) (by kernel_rfl) (by kernel_rfl) (fun _ _ _ h => h) (Or.inl ⟨by rfl, ?_⟩) hHeld9 ?_
  rotate_left
  · intro w' hSw
    (try dsimp only at hSw)
    go_simp <;> with_reducible rfl
  (try simp only [Act.put, List.setIfInBounds_toArray, List.set_cons_zero, List.set_cons_succ])
  refine wpAnyH_take (i := 10) (v := ?_) rfl (by kernel_rfl) (by kernel_rfl) (by kernel_rfl) (fun _ _ _ h => h) (Or.inl ⟨by rfl, ?_⟩) hHeld9 ?_
  rotate_left
  · intro w' hSw
    (try dsimp only at hSw)
    go_simp <;> with_reducible rfl
  (try simp only [Act.put, List.setIfInBounds_toArray, List.set_cons_zero, List.set_cons_succ])
  refine wpAnyH_done (by kernel_rfl) ?_ _
  have hbb := below_in hb hB5
  have HO := hid ho5.rd
  clear hHeld hHeld2 hHeld3 hHeld4 hHeld9 hB5 hb5 ho5 q0
  go_simp
  go_wp2
  go_ret2
  exact ⟨A3, c3, rfl, HO.out, hbb⟩
end Go.Proofs.YtndmblhkmgnpcaaGreat

namespace Go.Proofs.YtndmblhkmgnpcaaGreat
open Go.RowKit
set_option linter.unusedVariables false
set_option linter.unusedSimpArgs false

theorem oput_yes (m : Nat) (o : Opd) (A : Option Addr) (n c : Nat) (hn : Hid (o.row.length = n)) (hr : Opr o) (hm : mayO o = true) (hl : Hid ((opb o).length = m)) (w : World) (hri : Ri w A c o.row) :
    Calls Tryz.prog 82 #[.agg #[.int .u8 o.kd, .int .u8 o.l, .int .u32 o.c, .int .u8 o.k, .int .i64 o.s, .int .u8 o.fl, .int .u32 o.fc, .int .u8 o.fk, .int .i64 o.fn, .int .i64 o.fm, .int .u8 o.al, .int .u32 o.ac, .int .u8 o.ak, .int .i64 o.an, .int .u8 o.tl, .int .u32 o.tc, .slice A n c]] w fun e w' => ∃ A' c', e = .returned (.tuple #[.slice A' m c', .int .i64 0]) ∧ Rd w' A' c' (opb o) ∧ Below w.heap.size w w' := by
  have h := hl.out
  rw [opb, List.length_append, headO_length] at h
  subst h
  rcases (maid hm).kd with hk | hk | hk
  · exact put1_of _ o A n c hn hr hm hk rfl w hri
  · exact put2_of _ o A n c hn hr hm hk rfl w hri
  · exact put3_of _ o A n c hn hr hm hk rfl w hri

set_option maxRecDepth 100000 in
set_option maxHeartbeats 800000 in
theorem oput_no (o : Opd) (A : Option Addr) (n c : Nat) (hn : Hid (o.row.length = n)) (hm : Hid (mayO o = false)) (w : World) (hri : Ri w A c o.row) :
    Calls Tryz.prog 82 #[.agg #[.int .u8 o.kd, .int .u8 o.l, .int .u32 o.c, .int .u8 o.k, .int .i64 o.s, .int .u8 o.fl, .int .u32 o.fc, .int .u8 o.fk, .int .i64 o.fn, .int .i64 o.fm, .int .u8 o.al, .int .u32 o.ac, .int .u8 o.ak, .int .i64 o.an, .int .u8 o.tl, .int .u32 o.tc, .slice A n c]] w fun e w' => e = .returned (.tuple #[.slice none 0 0, .int .i64 8]) ∧ Below w.heap.size w w' := by
  have HJ := hid (show er (mayO o) = 8 by rw [hm.out]; rfl)
  have bx := boxO_new w o A n c 33
  go_enter Tryz.func82, Tryz.ntmps82
  go_wp2_with (refine wpList_load_o rfl (.tmp 1) rfl _ rfl bx ?_)
  refine (ocheck_of 8 o A n c hn HJ _ (hri.alloc _)).mono ?_
  rintro e W ⟨rfl, b1⟩
  have hb := past_alloc b1
  go_wp2
  go_ret2
  exact ⟨rfl, hb⟩

theorem oput_of (L : List UInt8) (m : Nat) (j : Int) (o : Opd) (A : Option Addr) (n c : Nat) (hn : Hid (o.row.length = n)) (hr : Opr o) (hL : Hid ((if mayO o = true then opb o else []) = L ∧ L.length = m ∧ er (mayO o) = j)) (w : World) (hri : Ri w A c o.row) :
    Calls Tryz.prog 82 #[.agg #[.int .u8 o.kd, .int .u8 o.l, .int .u32 o.c, .int .u8 o.k, .int .i64 o.s, .int .u8 o.fl, .int .u32 o.fc, .int .u8 o.fk, .int .i64 o.fn, .int .i64 o.fm, .int .u8 o.al, .int .u32 o.ac, .int .u8 o.ak, .int .i64 o.an, .int .u8 o.tl, .int .u32 o.tc, .slice A n c]] w fun e w' => ∃ A' c', e = .returned (.tuple #[.slice A' m c', .int .i64 j]) ∧ Rd w' A' c' L ∧ Below w.heap.size w w' := by
  obtain ⟨h1, h2, h3⟩ := hL.out
  cases hm : mayO o
  · rw [if_neg (by rw [hm]; simp)] at h1
    rw [hm] at h3
    subst h1 h2 h3
    refine (oput_no o A n c hn (hid hm) w hri).mono ?_
    rintro e w' ⟨rfl, b⟩
    exact ⟨none, 0, rfl, Rd.nil _, b⟩
  · rw [if_pos hm] at h1
    rw [hm] at h3
    subst h1 h3
    exact oput_yes m o A n c hn hr hm (hid h2) w hri
end Go.Proofs.YtndmblhkmgnpcaaGreat
