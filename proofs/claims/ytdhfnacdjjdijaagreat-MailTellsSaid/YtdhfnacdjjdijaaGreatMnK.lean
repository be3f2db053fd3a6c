/-
  The document's own Get of layer 10: put together.
-/
import Derived.Test.YtdhfnacdjjdijaaGreatMnKa
import Derived.Test.YtdhfnacdjjdijaaGreatMnKb
import Derived.Test.YtdhfnacdjjdijaaGreatMnKc
import Derived.Test.YtdhfnacdjjdijaaGreatMnKd
namespace Go.Proofs.YtdhfnacdjjdijaaGreat
open Go.RowKit
set_option linter.unusedVariables false
set_option linter.unusedSimpArgs false

set_option maxRecDepth 100000 in
set_option maxHeartbeats 12800000 in
theorem rmget_of (A : Option Addr) (n c : Nat) (l : List UInt8) (hn : Hid (l.length = n)) (w : World) (hr : Rd w A c l) :
    Calls Tryz.prog 17 #[.slice A n c] w (RetGR w l) := by
  have hc2 : (c : Int) ≤ 9223372036854775807 := by have := hr.cap; omega
  have hc1 : (n : Int) ≤ c := by have := hr.len; have := hn.out; omega
  by_cases h0 : n = 0
  · subst h0
    have hl : l = [] := List.eq_nil_of_length_eq_zero hn.out
    have HN := hid (show ∀ m', ¬ Mis l m' from fun m' h => by
      have h1 := h.eq
      have h2 := (szM_le h.may).2
      rw [← mlb_len, h1, hl] at h2
      simp at h2)
    have th0 := thereM_new w (#[.int .u8 0, .int .i64 0, .int .i64 0, .int .i64 0, .int .i64 0, .int .i64 0, .int .u8 0, .int .i64 0, .int .i64 0, .int .i64 0, .int .i64 0, .slice none 0 0]) rfl 27
    have hb0 : Below w.heap.size w (w.alloc (.cells (#[.int .u8 0, .int .i64 0, .int .i64 0, .int .i64 0, .int .i64 0, .int .i64 0, .int .u8 0, .int .i64 0, .int .i64 0, .int .i64 0, .int .i64 0, .slice none 0 0]) 27)) := (Below.refl _ _).alloc (Nat.le_refl _) _
    clear hr hl
    go_enter Tryz.func17, Tryz.ntmps17
    go_wp2_with (refine wpList_store_m rfl (.tmp 2) (.tmp 8) rfl w.heap.size rfl zM none 0 0 rfl th0 w.heap.size (Nat.le_refl _) ?_; intro w4 bx4 th4 b4 hh4 sz4)
    exact bodyPost_ret (results_m2 rfl rfl bx4) rfl ⟨zM, none, 0, 0, 90, rfl, .inr ⟨HN.out, rfl, rfl⟩, rfl, RdO.nil _, hb0.trans b4⟩
  have d0 : ((n : Int) == 0) = false := by simpa using (show ¬ (n : Int) = 0 by omega)
  have hl := hn.out
  obtain ⟨b, o, rfl, hcell⟩ := hr.at_ (by omega)
  have hc0 := hcell 0 (by omega)
  have hx0 : nu 1 l = ((l[0]'(by omega)).toNat : Int) := by
    have := vl_one (l := l) (k := 0) (by omega)
    rw [List.drop_zero] at this
    rw [nu, this]
  obtain ⟨x0, hx⟩ : ∃ x : Int, ((l[0]'(by omega)).toNat : Int) = x := ⟨_, rfl⟩
  rw [hx] at hc0 hx0
  have HX := hid hx0
  have HR := hid hr
  have hc0' : w.cell? ⟨b, o, none⟩ = some (.int .u8 x0) := by rw [Nat.add_zero] at hc0; exact hc0
  have hblt := World.block_lt_of_cell? _ _ hc0'
  have hn0 : (0 : Int) < (n : Int) := by omega
  clear hr hcell hx hx0 hl hc0
  have hk0 : 0 ≤ x0 ∧ x0 ≤ 255 := by have := nu_r 1 (by omega) l; rw [HX.out] at this; exact ⟨this.1, by have := this.2; omega⟩
  cases hk1 : isK x0
  · have HNO := hid (show ∀ m', ¬ Mis l m' from fun m' h => by
      have e := rdR_of h
      rw [rdR, rdM, HX.out, hk1] at e
      have h1 := h.may
      rw [← e] at h1
      cases h1)
    have hk2 : ¬ (x0 = 1 ∨ x0 = 2 ∨ x0 = 3 ∨ x0 = 4 ∨ x0 = 5 ∨ x0 = 6 ∨ x0 = 7 ∨ x0 = 8 ∨ x0 = 9 ∨ x0 = 10) := fun h => by rw [isK_iff.2 h] at hk1; cases hk1
    have HMO := hid (show mayM ⟨x0, 0, 0, 0, 0, 0, 0, 0, 0, 0, 0, []⟩ = false by rw [mayM, show isK (Mld.kd ⟨x0, 0, 0, 0, 0, 0, 0, 0, 0, 0, 0, []⟩) = false from hk1]; rfl)
    have hmr : Mlr ⟨x0, 0, 0, 0, 0, 0, 0, 0, 0, 0, 0, []⟩ := { zM_r with k0 := hk0.1, k1 := hk0.2 }
    have q1 : (x0 == 1) = false := by simpa using (show ¬ x0 = 1 by omega)
    have q2 : (x0 == 2) = false := by simpa using (show ¬ x0 = 2 by omega)
    have q3 : (x0 == 3) = false := by simpa using (show ¬ x0 = 3 by omega)
    have q4 : (x0 == 4) = false := by simpa using (show ¬ x0 = 4 by omega)
    have q5 : (x0 == 5) = false := by simpa using (show ¬ x0 = 5 by omega)
    have q6 : (x0 == 6) = false := by simpa using (show ¬ x0 = 6 by omega)
    have q7 : (x0 == 7) = false := by simpa using (show ¬ x0 = 7 by omega)
    have q8 : (x0 == 8) = false := by simpa using (show ¬ x0 = 8 by omega)
    have q9 : (x0 == 9) = false := by simpa using (show ¬ x0 = 9 by omega)
    have q10 : (x0 == 10) = false := by simpa using (show ¬ x0 = 10 by omega)
    clear hk1 hk2 hk0
    go_enter Tryz.func17, Tryz.ntmps17
    go_wp2_with fail
    have FX := hid (show BoxM ((w.alloc (.cells (#[.int .u8 0, .int .i64 0, .int .i64 0, .int .i64 0, .int .i64 0, .int .i64 0, .int .u8 0, .int .i64 0, .int .i64 0, .int .i64 0, .int .i64 0, .slice none 0 0]) 27)).alloc (.cells (#[.int .u8 x0, .int .i64 0, .int .i64 0, .int .i64 0, .int .i64 0, .int .i64 0, .int .u8 0, .int .i64 0, .int .i64 0, .int .i64 0, .int .i64 0, .slice none 0 0]) 27)) (w.heap.size + 1) ⟨x0, 0, 0, 0, 0, 0, 0, 0, 0, 0, 0, []⟩ none 0 0 ∧ ThereM ((w.alloc (.cells (#[.int .u8 0, .int .i64 0, .int .i64 0, .int .i64 0, .int .i64 0, .int .i64 0, .int .u8 0, .int .i64 0, .int .i64 0, .int .i64 0, .int .i64 0, .slice none 0 0]) 27)).alloc (.cells (#[.int .u8 x0, .int .i64 0, .int .i64 0, .int .i64 0, .int .i64 0, .int .i64 0, .int .u8 0, .int .i64 0, .int .i64 0, .int .i64 0, .int .i64 0, .slice none 0 0]) 27)) w.heap.size ∧ Below w.heap.size w ((w.alloc (.cells (#[.int .u8 0, .int .i64 0, .int .i64 0, .int .i64 0, .int .i64 0, .int .i64 0, .int .u8 0, .int .i64 0, .int .i64 0, .int .i64 0, .int .i64 0, .slice none 0 0]) 27)).alloc (.cells (#[.int .u8 x0, .int .i64 0, .int .i64 0, .int .i64 0, .int .i64 0, .int .i64 0, .int .u8 0, .int .i64 0, .int .i64 0, .int .i64 0, .int .i64 0, .slice none 0 0]) 27)) from ⟨boxM_two w _ ⟨x0, 0, 0, 0, 0, 0, 0, 0, 0, 0, 0, []⟩ none 0 0 _, there1 w _, below2 w _ _⟩)
    generalize World.alloc (World.alloc w _) _ = Z at FX ⊢
    refine wp_region_past (by kernel_rfl) (by kernel_rfl) ?_
    refine quiet_load_m (by rfl) (.tmp 4) rfl (w.heap.size + 1) rfl (BoxM.past FX.out.1) ?_
    (try simp only [Act.put, List.setIfInBounds_toArray, List.set_cons_zero, List.set_cons_succ])
    go_big_quiet_step (exact quiet_below (rmmay_of false ⟨x0, 0, 0, 0, 0, 0, 0, 0, 0, 0, 0, []⟩ none 0 0 (hid rfl) hmr HMO _ (RdO.nil _)))
    repeat (go_big_quiet_step (fail))
    refine wpQuiet_nil ?_
    intro _ hw'
    obtain ⟨x3, rfl⟩ := hw'
    have b9 := below_in (FX.out.2.2) x3.2
    have th9 := ThereM.keep (FX.out.2.1) x3.2
    clear FX
    generalize x3.1 = w3 at *
    go_wp2_with (refine wpList_store_m rfl (.tmp 2) (.tmp 92) rfl w.heap.size rfl zM none 0 0 rfl th9 w.heap.size (Nat.le_refl _) ?_; intro w4 bx4 th4 b4 hh4 sz4)
    exact bodyPost_ret (results_m2 rfl rfl bx4) rfl ⟨zM, none, 0, 0, 90, rfl, .inr ⟨HNO.out, rfl, rfl⟩, rfl, RdO.nil _, b9.trans b4⟩
  have hkk := isK_iff.1 hk1
  clear hk1 hk0
  rcases hkk with rfl | rfl | rfl | rfl | rfl | rfl | rfl | rfl | rfl | rfl
  · exact rget_1 b o n c l hn w h0 HR HX hc0'
  · exact rget_2 b o n c l hn w h0 HR HX hc0'
  · exact rget_3 b o n c l hn w h0 HR HX hc0'
  · exact rget_4 b o n c l hn w h0 HR HX hc0'
  · exact rget_5 b o n c l hn w h0 HR HX hc0'
  · exact rget_6 b o n c l hn w h0 HR HX hc0'
  · exact rget_7 b o n c l hn w h0 HR HX hc0'
  · exact rget_8 b o n c l hn w h0 HR HX hc0'
  · exact rget_9 b o n c l hn w h0 HR HX hc0'
  · exact rget_10 b o n c l hn w h0 HR HX hc0'
end Go.Proofs.YtdhfnacdjjdijaaGreat
