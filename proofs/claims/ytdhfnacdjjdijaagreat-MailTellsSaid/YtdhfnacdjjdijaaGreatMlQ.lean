/-
  Whether mail goes up; mail's bytes: the program's Up and Put of layer 10.
-/
import Derived.Test.YtdhfnacdjjdijaaGreatMlP
import Derived.Test.YtdhfnacdjjdijaaGreatOG
namespace Go.Proofs.YtdhfnacdjjdijaaGreat
open Go.RowKit
set_option linter.unusedVariables false
set_option linter.unusedSimpArgs false

theorem field_put (w : World) (f0 f1 f2 f3 : FuncId) : (Instr.field 63 (.agg #[.func (.func f0) #[] #[], .func (.func f1) #[] #[], .func (.func f2) #[] #[], .func (.func f3) #[] #[]]) 2).run Tryz.prog w = .ok (.func (.func f2) #[] #[]) w := by
  simp [Instr.field, part, asAgg, go_sem]

set_option maxRecDepth 100000 in
set_option maxHeartbeats 800000 in
theorem mup_of (q : Bool) (m : Mld) (A : Option Addr) (n c : Nat) (hn : Hid (m.ops.length = n)) (hq : Hid ((decide (m.kd ≤ 5) && mayM m) = q)) (w : World) (hr : RdO w A c m.ops) :
    Calls Tryz.prog 11 #[.agg #[.int .u8 m.kd, .int .i64 m.us, .int .i64 m.se, .int .i64 m.co, .int .i64 m.fr, .int .i64 m.tt, .int .u8 m.ak, .int .i64 m.t0, .int .i64 m.t1, .int .i64 m.t2, .int .i64 m.t3, .slice A n c]] w fun e w' => e = .returned (.bool q) ∧ Below w.heap.size w w' := by
  have bx := boxM_new w m A n c 27
  have hr1 := hr.alloc (.cells (#[.int .u8 m.kd, .int .i64 m.us, .int .i64 m.se, .int .i64 m.co, .int .i64 m.fr, .int .i64 m.tt, .int .u8 m.ak, .int .i64 m.t0, .int .i64 m.t1, .int .i64 m.t2, .int .i64 m.t3, .slice A n c]) 27)
  by_cases h : m.kd ≤ 5
  · have h5 : decide (m.kd ≤ 5) = true := decide_eq_true h
    obtain ⟨p, hp⟩ : ∃ p, mayM m = p := ⟨_, rfl⟩
    have HQ := hid (show p = q by rw [← hq.out, h5, ← hp]; rfl)
    have HJ := hid (show er (mayM m) = er p by rw [hp])
    clear hq hp hr h5
    go_enter Tryz.func11, Tryz.ntmps11
    go_wp2_with (refine wpList_load_m rfl (.tmp 1) rfl w.heap.size rfl bx ?_)
    refine (mcheck_of (er p) m A n c hn HJ _ hr1).mono ?_
    rintro e w1 ⟨rfl, b1⟩
    have hb := past_alloc b1
    clear bx b1
    cases p
    · go_wp2
      go_ret
      exact ⟨ret_bool HQ.out, hb⟩
    · go_wp2
      go_ret
      exact ⟨ret_bool HQ.out, hb⟩
  · have h5 : decide (m.kd ≤ 5) = false := decide_eq_false h
    have HQ := hid (show false = q by rw [← hq.out, h5]; rfl)
    clear hq hr hr1 bx
    go_enter Tryz.func11, Tryz.ntmps11
    go_wp2
    go_ret
    exact ⟨ret_bool HQ.out, by go_grown⟩

set_option maxRecDepth 100000 in
set_option maxHeartbeats 800000 in
theorem mput_no (m : Mld) (A : Option Addr) (n c : Nat) (hn : Hid (m.ops.length = n)) (hm : Hid (mayM m = false)) (w : World) (hr : RdO w A c m.ops) :
    Calls Tryz.prog 14 #[.agg #[.int .u8 m.kd, .int .i64 m.us, .int .i64 m.se, .int .i64 m.co, .int .i64 m.fr, .int .i64 m.tt, .int .u8 m.ak, .int .i64 m.t0, .int .i64 m.t1, .int .i64 m.t2, .int .i64 m.t3, .slice A n c]] w fun e w' => e = .returned (.tuple #[.slice none 0 0, .int .i64 8]) ∧ Below w.heap.size w w' := by
  have bx := boxM_new w m A n c 27
  have hr1 := hr.alloc (.cells (#[.int .u8 m.kd, .int .i64 m.us, .int .i64 m.se, .int .i64 m.co, .int .i64 m.fr, .int .i64 m.tt, .int .u8 m.ak, .int .i64 m.t0, .int .i64 m.t1, .int .i64 m.t2, .int .i64 m.t3, .slice A n c]) 27)
  have HJ := hid (show er (mayM m) = 8 by rw [hm.out]; rfl)
  clear hr hm
  go_enter Tryz.func14, Tryz.ntmps14
  go_wp2_with (refine wpList_load_m rfl (.tmp 1) rfl w.heap.size rfl bx ?_)
  refine (mcheck_of 8 m A n c hn HJ _ hr1).mono ?_
  rintro e w1 ⟨rfl, b1⟩
  have hb := past_alloc b1
  clear bx b1
  go_wp2
  go_ret2
  exact ⟨rfl, hb⟩

/-- The call hands back mail's bytes, and no error. -/
def RetPutM (w : World) (l : List UInt8) (L : Nat) (e : Ending) (w' : World) : Prop := ∃ A' c', e = .returned (.tuple #[.slice A' L c', .int .i64 0]) ∧ Rd w' A' c' l ∧ Below w.heap.size w w'
set_option maxRecDepth 100000 in
set_option maxHeartbeats 6400000 in
theorem mput_yes (L : Nat) (m : Mld) (A : Option Addr) (n c : Nat) (hn : Hid (m.ops.length = n)) (hmr : Mlr m) (hm : mayM m = true) (hl : Hid ((mlb m).length = L)) (w : World) (hr : RdO w A c m.ops) :
    Calls Tryz.prog 14 #[.agg #[.int .u8 m.kd, .int .i64 m.us, .int .i64 m.se, .int .i64 m.co, .int .i64 m.fr, .int .i64 m.tt, .int .u8 m.ak, .int .i64 m.t0, .int .i64 m.t1, .int .i64 m.t2, .int .i64 m.t3, .slice A n c]] w (RetPutM w (mlb m) L) := by
  obtain ⟨i0, hi0, hz0, hz1, hz2⟩ := info_parts info_u8
  obtain ⟨hk, hmk, -⟩ := mayM_parts hm
  obtain ⟨f0, f1, f2, f3, i, hf, HS⟩ := shp_all hk
  have hlk := fun (X : World) (g : Nat) (hg : X.heap[g]? = some (.map tabA 10)) => run_lookup_tab X g tabA 10 hg m.kd false _ hf
  simp only [if_neg (show ¬ (false = true) by decide)] at hlk
  have HL := hid hlk
  obtain ⟨K1, hK1⟩ : ∃ K1, (tailK m.kd m).length = K1 := ⟨_, rfl⟩
  have hLL : 1 + K1 = L := by rw [← hl.out, mlb, List.length_append, nB_length, hK1]
  have hL9 : K1 ≤ 1000 := by have h1 := (szM_le hm).1; have h2 := mlb_len m; have := hl.out; omega
  have HP := hid (fun w hw => HS.put K1 m A n c hn hmr.ops hmk (hid hK1) w hw)
  have HE2 := hid HS.e2
  have HF := hid (fun w => field_put w f0 f1 f2 f3)
  have HT := hid hK1
  have HM : Hid (mlb m = nB 1 m.kd ++ tailK m.kd m) := hid rfl
  have HLL := hid hLL
  have k0 := hmr.k0
  have k1 := hmr.k1
  have bx := boxM_new w m A n c 27
  have hr1 := hr.alloc (.cells (#[.int .u8 m.kd, .int .i64 m.us, .int .i64 m.se, .int .i64 m.co, .int .i64 m.fr, .int .i64 m.tt, .int .u8 m.ak, .int .i64 m.t0, .int .i64 m.t1, .int .i64 m.t2, .int .i64 m.t3, .slice A n c]) 27)
  have HJ := hid (show er (mayM m) = 0 by rw [hm]; rfl)
  clear hlk hf hK1 hLL hl hm hmk HS hr hk hmr
  go_enter Tryz.func14, Tryz.ntmps14
  go_wp2_with (refine wpList_load_m rfl (.tmp 1) rfl w.heap.size rfl bx ?_)
  refine (mcheck_of 0 m A n c hn HJ _ hr1).mono ?_
  rintro e W ⟨rfl, b1⟩
  have bxW := bx.keep b1
  have hrW := hr1.keep b1
  have hbW := past_alloc b1
  clear bx b1 hr1
  go_wp2_with fail
  have E2 := HE2.out
  have F2 := HF.out
  obtain ⟨s0, s1, s2, s3, s4, s5, s6, s7, s8, s9, s10, s11⟩ := bxW
  (have q0 := fun w' (h : Below W.heap.size W w') => keep h s0; have q1 := fun w' (h : Below W.heap.size W w') => keep h s1; have q2 := fun w' (h : Below W.heap.size W w') => keep h s2; have q3 := fun w' (h : Below W.heap.size W w') => keep h s3; have q4 := fun w' (h : Below W.heap.size W w') => keep h s4; have q5 := fun w' (h : Below W.heap.size W w') => keep h s5; have q6 := fun w' (h : Below W.heap.size W w') => keep h s6; have q7 := fun w' (h : Below W.heap.size W w') => keep h s7; have q8 := fun w' (h : Below W.heap.size W w') => keep h s8; have q9 := fun w' (h : Below W.heap.size W w') => keep h s9; have q10 := fun w' (h : Below W.heap.size W w') => keep h s10; have q11 := fun w' (h : Below W.heap.size W w') => keep h s11)
  clear s0 s1 s2 s3 s4 s5 s6 s7 s8 s9 s10 s11
  have S0 : Below W.heap.size W W.drew := (Below.refl _ _).drew
  have S1 : Below W.heap.size W (W.alloc (.cells #[.int .u8 m.kd] 5)).drew := ((Below.refl _ _).alloc (Nat.le_refl _) _).drew
  have o0 : Own (W.alloc (.cells #[.int .u8 m.kd] 5)).drew W.heap.size 5 (some ⟨W.heap.size, 0, none⟩) 1 (nB 1 m.kd) := own_kd W W.heap.size (Nat.le_refl _) m.kd k0 k1
  go_region_held_law (fun w' => Below W.heap.size W w') (with_reducible (first | assumption | exact S0 | exact S1 | exact below_al (by assumption) _))
    (first
      | (go_at_call 25; refine (shapes_any _).mono ?_; rintro e w1 ⟨g, rfl, hg, hlo, hhi, b1⟩; have cc1 := below_in (w := W) (by with_reducible first | exact S0 | exact S1) b1; have Y1 := HL.out w1 g hg; have Y2 := fun o => HL.out (w1.alloc o) g (by rw [(MapKept.heap_alloc w1 o).2 g hhi]; exact hg))
      | (refine step_append_rd rfl (.tmp 12) (.tmp 19) _ (by rfl) W.heap.size 5 Tryz.underlying32 hi0 hz0 hz1 hz2 (some ⟨W.heap.size, 0, none⟩) 1 1 (nB 1 m.kd) (hid (nB_length _ _)) (by rfl) ((o0.keep b1).keep b2) A2 K1 c2 (tailK m.kd m) HT (by rfl) hr2 (by omega) cc2.size ?_; intro A' c' w4 ho hb3; have hB4 := cc2.trans hb3)
      | (refine step_append_rd rfl (.tmp 12) (.tmp 19) _ (by rfl) W.heap.size 5 Tryz.underlying32 hi0 hz0 hz1 hz2 (some ⟨w1.heap.size, 0, none⟩) 1 1 (nB 1 m.kd) (hid (nB_length _ _)) (by rfl) ((own_kd w1 W.heap.size cc1.size m.kd k0 k1).keep b2) A2 K1 c2 (tailK m.kd m) HT (by rfl) hr2 (by omega) cc2.size ?_; intro A' c' w4 ho hb3; have hB4 := cc2.trans hb3)
      | (refine step_append_rd rfl (.tmp 12) (.tmp 19) _ (by rfl) W.heap.size 5 Tryz.underlying32 hi0 hz0 hz1 hz2 (some ⟨w2.heap.size, 0, none⟩) 1 1 (nB 1 m.kd) (hid (nB_length _ _)) (by rfl) (own_kd w2 W.heap.size cc2.size m.kd k0 k1) A2 K1 c2 (tailK m.kd m) HT (by rfl) (hr2.alloc _) (by omega) (below_al cc2 _).size ?_; intro A' c' w4 ho hb3; have hB4 := (below_al cc2 _).trans hb3)
      | (refine (HP.out _ (hrW.keep (by with_reducible first | exact cc1 | exact below_al cc1 _))).mono ?_; rintro e w2 ⟨A2, c2, rfl, hr2, b2⟩; have cc2 := below_in (w := W) (by with_reducible first | exact cc1 | exact below_al cc1 _) b2))
  all_goals
    have hB := below_in hbW hB4
    clear q0 q1 q2 q3 q4 q5 q6 q7 q8 q9 q10 q11 S0 S1 o0 cc1 cc2 b1 b2 hr2 hb3 hB4 Y1 Y2 hg hlo hhi E2 F2
    go_simp
    go_wp2
    go_ret2
    rw [HLL.out]
    exact ⟨A', c', rfl, by rw [HM.out]; exact ho.rd, hB⟩
end Go.Proofs.YtdhfnacdjjdijaaGreat
