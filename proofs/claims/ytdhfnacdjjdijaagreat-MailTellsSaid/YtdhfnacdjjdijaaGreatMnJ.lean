/-
  The document's own answer of layer 10: mail's bytes, and Put.
-/
import Derived.Test.YtdhfnacdjjdijaaGreatMnI
import Derived.Test.YtdhfnacdjjdijaaGreatMlQ
namespace Go.Proofs.YtdhfnacdjjdijaaGreat
open Go.RowKit
set_option linter.unusedVariables false
set_option linter.unusedSimpArgs false

theorem rmbytes_of (L : Nat) (m : Mld) (A : Option Addr) (n c : Nat) (hn : Hid (m.ops.length = n)) (hmr : Mlr m) (hm : mayM m = true) (hl : Hid ((mlb m).length = L)) (w : World) (hr : RdO w A c m.ops) :
    Calls Tryz.prog 29 #[.agg #[.int .u8 m.kd, .int .i64 m.us, .int .i64 m.se, .int .i64 m.co, .int .i64 m.fr, .int .i64 m.tt, .int .u8 m.ak, .int .i64 m.t0, .int .i64 m.t1, .int .i64 m.t2, .int .i64 m.t3, .slice A n c]] w (RetNew w (mlb m) L) := by
  obtain ⟨h1, h2, h3⟩ := mayM_parts hm
  have hro := hmr.ops
  clear hmr hm
  obtain ⟨k, us, se, co, fr, tt, ak, t0, t1, t2, t3, ops⟩ := m
  have hn' : ops.length = n := hn.out
  have hr' : RdO w A c ops := hr
  have hro' : ∀ o ∈ ops, Opr o := hro
  clear hn hr hro
  rcases isK_iff.1 h1 with h | h | h | h | h | h | h | h | h | h
  · obtain rfl : k = 1 := h
    have e : (⟨1, us, se, co, fr, tt, ak, t0, t1, t2, t3, ops⟩ : Mld) = ⟨1, us, 0, 0, 0, 0, 0, 0, 0, 0, 0, []⟩ := h3
    have g : (decide (0 ≤ us) && decide (us < 256)) = true := h2
    clear h1 h2 h3
    injection e with e0 e1 e2 e3 e4 e5 e6 e7 e8 e9 e10 e11
    clear e0 e1
    subst e2
    subst e3
    subst e4
    subst e5
    subst e6
    subst e7
    subst e8
    subst e9
    subst e10
    subst e11
    simp only [Bool.and_eq_true, decide_eq_true_eq] at g
    obtain rfl : n = 0 := hn'.symm
    have e : mlb ⟨1, us, 0, 0, 0, 0, 0, 0, 0, 0, 0, []⟩ = nB 1 1 ++ nB 1 us := by simp [mlb, tailK]
    have hL : L = 2 := by rw [← hl.out, e]; simp [nB_length]
    subst hL
    rw [e]
    exact rb_1 us g.1 g.2 A c w
  · obtain rfl : k = 2 := h
    have e : (⟨2, us, se, co, fr, tt, ak, t0, t1, t2, t3, ops⟩ : Mld) = ⟨2, 0, 0, 0, 0, 0, 0, 0, 0, 0, 0, ops⟩ := h3
    have g : (decide (ops.length = 1) && opsB ops && plH ops) = true := h2
    clear h1 h2 h3
    injection e with e0 e1 e2 e3 e4 e5 e6 e7 e8 e9 e10 e11
    clear e0 e11
    subst e1
    subst e2
    subst e3
    subst e4
    subst e5
    subst e6
    subst e7
    subst e8
    subst e9
    subst e10
    simp only [Bool.and_eq_true, decide_eq_true_eq] at g
    have e : mlb ⟨2, 0, 0, 0, 0, 0, 0, 0, 0, 0, 0, ops⟩ = nB 1 2 ++ opsb ops := by simp [mlb, tailK]
    have hL : L = 1 + (opsb ops).length := by rw [← hl.out, e]; simp [nB_length]
    subst hL
    rw [e]
    exact rb_2 ops A n c _ (hid hn') (by omega) hro' g.1.2 (hid rfl) w hr'
  · obtain rfl : k = 3 := h
    have e : (⟨3, us, se, co, fr, tt, ak, t0, t1, t2, t3, ops⟩ : Mld) = ⟨3, 0, 0, 0, fr, 0, 0, 0, 0, 0, 0, []⟩ := h3
    have g : (countB fr) = true := h2
    clear h1 h2 h3
    injection e with e0 e1 e2 e3 e4 e5 e6 e7 e8 e9 e10 e11
    clear e0 e4
    subst e1
    subst e2
    subst e3
    subst e5
    subst e6
    subst e7
    subst e8
    subst e9
    subst e10
    subst e11
    have g := countB_iff.1 g
    obtain rfl : n = 0 := hn'.symm
    have e : mlb ⟨3, 0, 0, 0, fr, 0, 0, 0, 0, 0, 0, []⟩ = nB 1 3 ++ nB 3 fr := by simp [mlb, tailK]
    have hL : L = 4 := by rw [← hl.out, e]; simp [nB_length]
    subst hL
    rw [e]
    exact rb_3 fr g.1 g.2 A c w
  · obtain rfl : k = 4 := h
    have e : (⟨4, us, se, co, fr, tt, ak, t0, t1, t2, t3, ops⟩ : Mld) = ⟨4, 0, 0, 0, 0, 0, ak, 0, 0, 0, 0, []⟩ := h3
    have g : (askB ak) = true := h2
    clear h1 h2 h3
    injection e with e0 e1 e2 e3 e4 e5 e6 e7 e8 e9 e10 e11
    clear e0 e6
    subst e1
    subst e2
    subst e3
    subst e4
    subst e5
    subst e7
    subst e8
    subst e9
    subst e10
    subst e11
    have g := askB_iff.1 g
    obtain rfl : n = 0 := hn'.symm
    have e : mlb ⟨4, 0, 0, 0, 0, 0, ak, 0, 0, 0, 0, []⟩ = nB 1 4 ++ nB 1 ak := by simp [mlb, tailK]
    have hL : L = 2 := by rw [← hl.out, e]; simp [nB_length]
    subst hL
    rw [e]
    exact rb_4 ak (by omega) (by omega) A c w
  · obtain rfl : k = 5 := h
    have e : (⟨5, us, se, co, fr, tt, ak, t0, t1, t2, t3, ops⟩ : Mld) = ⟨5, 0, 0, 0, 0, 0, 0, 0, 0, 0, 0, []⟩ := h3
    have g : (true) = true := h2
    clear h1 h2 h3
    injection e with e0 e1 e2 e3 e4 e5 e6 e7 e8 e9 e10 e11
    clear e0 
    subst e1
    subst e2
    subst e3
    subst e4
    subst e5
    subst e6
    subst e7
    subst e8
    subst e9
    subst e10
    subst e11
    obtain rfl : n = 0 := hn'.symm
    have e : mlb ⟨5, 0, 0, 0, 0, 0, 0, 0, 0, 0, 0, []⟩ = nB 1 5 := by simp [mlb, tailK]
    have hL : L = 1 := by rw [← hl.out, e]; simp [nB_length]
    subst hL
    rw [e]
    exact rb_5 A c w
  · obtain rfl : k = 6 := h
    have e : (⟨6, us, se, co, fr, tt, ak, t0, t1, t2, t3, ops⟩ : Mld) = ⟨6, 0, 0, co, 0, 0, 0, 0, 0, 0, 0, []⟩ := h3
    have g : (codeB co) = true := h2
    clear h1 h2 h3
    injection e with e0 e1 e2 e3 e4 e5 e6 e7 e8 e9 e10 e11
    clear e0 e3
    subst e1
    subst e2
    subst e4
    subst e5
    subst e6
    subst e7
    subst e8
    subst e9
    subst e10
    subst e11
    have g := codeB_iff.1 g
    obtain rfl : n = 0 := hn'.symm
    have e : mlb ⟨6, 0, 0, co, 0, 0, 0, 0, 0, 0, 0, []⟩ = nB 1 6 ++ nB 2 co := by simp [mlb, tailK]
    have hL : L = 3 := by rw [← hl.out, e]; simp [nB_length]
    subst hL
    rw [e]
    exact rb_6 co g.1 g.2 A c w
  · obtain rfl : k = 7 := h
    have e : (⟨7, us, se, co, fr, tt, ak, t0, t1, t2, t3, ops⟩ : Mld) = ⟨7, 0, se, co, 0, 0, 0, 0, 0, 0, 0, []⟩ := h3
    have g : (countB se && !(se == 0) && codeB co) = true := h2
    clear h1 h2 h3
    injection e with e0 e1 e2 e3 e4 e5 e6 e7 e8 e9 e10 e11
    clear e0 e2 e3
    subst e1
    subst e4
    subst e5
    subst e6
    subst e7
    subst e8
    subst e9
    subst e10
    subst e11
    simp only [Bool.and_eq_true] at g
    have g1 := countB_iff.1 g.1.1
    have g2 := codeB_iff.1 g.2
    obtain rfl : n = 0 := hn'.symm
    have e : mlb ⟨7, 0, se, co, 0, 0, 0, 0, 0, 0, 0, []⟩ = nB 1 7 ++ nB 3 se ++ nB 2 co := by simp [mlb, tailK]
    have hL : L = 6 := by rw [← hl.out, e]; simp [nB_length]
    subst hL
    rw [e]
    exact rb_7 se co g1.1 g1.2 g2.1 g2.2 A c w
  · obtain rfl : k = 8 := h
    have e : (⟨8, us, se, co, fr, tt, ak, t0, t1, t2, t3, ops⟩ : Mld) = ⟨8, 0, 0, 0, fr, tt, 0, 0, 0, 0, 0, ops⟩ := h3
    have g : (countB fr && countB tt && decide (ops.length ≤ 3) && opsB ops) = true := h2
    clear h1 h2 h3
    injection e with e0 e1 e2 e3 e4 e5 e6 e7 e8 e9 e10 e11
    clear e0 e4 e5 e11
    subst e1
    subst e2
    subst e3
    subst e6
    subst e7
    subst e8
    subst e9
    subst e10
    simp only [Bool.and_eq_true, decide_eq_true_eq] at g
    have g1 := countB_iff.1 g.1.1.1
    have g2 := countB_iff.1 g.1.1.2
    have e : mlb ⟨8, 0, 0, 0, fr, tt, 0, 0, 0, 0, 0, ops⟩ = nB 1 8 ++ nB 3 fr ++ nB 3 tt ++ nB 1 (n : Int) ++ opsb ops := by simp [mlb, tailK, hn']
    have hL : L = 8 + (opsb ops).length := by rw [← hl.out, e]; simp [nB_length]; omega
    subst hL
    rw [e]
    exact rb_8 fr tt g1.1 g1.2 g2.1 g2.2 ops A n c _ (hid hn') (by omega) hro' g.2 (hid rfl) w hr'
  · obtain rfl : k = 9 := h
    have e : (⟨9, us, se, co, fr, tt, ak, t0, t1, t2, t3, ops⟩ : Mld) = ⟨9, 0, 0, 0, 0, 0, ak, t0, t1, t2, t3, []⟩ := h3
    have g : (askB ak && (countB t0 && countB t1 && countB t2 && countB t3)) = true := h2
    clear h1 h2 h3
    injection e with e0 e1 e2 e3 e4 e5 e6 e7 e8 e9 e10 e11
    clear e0 e6 e7 e8 e9 e10
    subst e1
    subst e2
    subst e3
    subst e4
    subst e5
    subst e11
    simp only [Bool.and_eq_true] at g
    have g1 := askB_iff.1 g.1
    obtain rfl : n = 0 := hn'.symm
    have e : mlb ⟨9, 0, 0, 0, 0, 0, ak, t0, t1, t2, t3, []⟩ = nB 1 9 ++ nB 1 ak ++ nB 3 t0 ++ nB 3 t1 ++ nB 3 t2 ++ nB 3 t3 := by simp [mlb, tailK]
    have hL : L = 14 := by rw [← hl.out, e]; simp [nB_length]
    subst hL
    rw [e]
    exact rb_9 ak t0 t1 t2 t3 (by omega) (by omega) g.2.1.1.1 g.2.1.1.2 g.2.1.2 g.2.2 A c w
  · obtain rfl : k = 10 := h
    have e : (⟨10, us, se, co, fr, tt, ak, t0, t1, t2, t3, ops⟩ : Mld) = ⟨10, 0, 0, co, 0, 0, 0, 0, 0, 0, 0, []⟩ := h3
    have g : (codeB co) = true := h2
    clear h1 h2 h3
    injection e with e0 e1 e2 e3 e4 e5 e6 e7 e8 e9 e10 e11
    clear e0 e3
    subst e1
    subst e2
    subst e4
    subst e5
    subst e6
    subst e7
    subst e8
    subst e9
    subst e10
    subst e11
    have g := codeB_iff.1 g
    obtain rfl : n = 0 := hn'.symm
    have e : mlb ⟨10, 0, 0, co, 0, 0, 0, 0, 0, 0, 0, []⟩ = nB 1 10 ++ nB 2 co := by simp [mlb, tailK]
    have hL : L = 3 := by rw [← hl.out, e]; simp [nB_length]
    subst hL
    rw [e]
    exact rb_10 co g.1 g.2 A c w

set_option maxRecDepth 100000 in
set_option maxHeartbeats 1600000 in
theorem rmput_no (m : Mld) (A : Option Addr) (n c : Nat) (hn : Hid (m.ops.length = n)) (hmr : Mlr m) (hm : Hid (mayM m = false)) (w : World) (hr : RdO w A c m.ops) :
    Calls Tryz.prog 15 #[.agg #[.int .u8 m.kd, .int .i64 m.us, .int .i64 m.se, .int .i64 m.co, .int .i64 m.fr, .int .i64 m.tt, .int .u8 m.ak, .int .i64 m.t0, .int .i64 m.t1, .int .i64 m.t2, .int .i64 m.t3, .slice A n c]] w fun e w' => e = .returned (.tuple #[.slice none 0 0, .int .i64 8]) ∧ Below w.heap.size w w' := by
  have bx := boxM_new w m A n c 27
  have hr1 := hr.alloc (.cells (#[.int .u8 m.kd, .int .i64 m.us, .int .i64 m.se, .int .i64 m.co, .int .i64 m.fr, .int .i64 m.tt, .int .u8 m.ak, .int .i64 m.t0, .int .i64 m.t1, .int .i64 m.t2, .int .i64 m.t3, .slice A n c]) 27)
  clear hr
  go_enter Tryz.func15, Tryz.ntmps15
  go_wp2_with fail
  refine (rmmay_of false m A n c hn hmr hm _ hr1).mono ?_
  rintro e w1 ⟨rfl, b1⟩
  have hb := past_alloc b1
  clear bx b1 hr1
  go_wp2
  go_ret2
  exact ⟨rfl, hb⟩
set_option maxRecDepth 100000 in
set_option maxHeartbeats 1600000 in
theorem rmput_yes (L : Nat) (m : Mld) (A : Option Addr) (n c : Nat) (hn : Hid (m.ops.length = n)) (hmr : Mlr m) (hm : mayM m = true) (hl : Hid ((mlb m).length = L)) (w : World) (hr : RdO w A c m.ops) :
    Calls Tryz.prog 15 #[.agg #[.int .u8 m.kd, .int .i64 m.us, .int .i64 m.se, .int .i64 m.co, .int .i64 m.fr, .int .i64 m.tt, .int .u8 m.ak, .int .i64 m.t0, .int .i64 m.t1, .int .i64 m.t2, .int .i64 m.t3, .slice A n c]] w (RetPutM w (mlb m) L) := by
  have bx := boxM_new w m A n c 27
  have hr1 := hid (hr.alloc (.cells (#[.int .u8 m.kd, .int .i64 m.us, .int .i64 m.se, .int .i64 m.co, .int .i64 m.fr, .int .i64 m.tt, .int .u8 m.ak, .int .i64 m.t0, .int .i64 m.t1, .int .i64 m.t2, .int .i64 m.t3, .slice A n c]) 27))
  have HM := hid hm
  clear hr hm
  go_enter Tryz.func15, Tryz.ntmps15
  go_wp2_with fail
  refine (rmmay_of true m A n c hn hmr (hid HM.out) _ hr1.out).mono ?_
  rintro e w1 ⟨rfl, b1⟩
  have bx1 := bx.keep b1
  have hr2 := hid (hr1.out.keep b1)
  have hb := past_alloc b1
  clear bx b1 hr1
  go_wp2_with (refine wpList_load_m rfl (.tmp 1) rfl w.heap.size rfl bx1 ?_)
  refine (rmbytes_of L m A n c hn hmr HM.out hl _ hr2.out).mono ?_
  rintro e w3 ⟨A3, c3, rfl, hr3, b3⟩
  have hb3 := below_in hb b3
  clear bx1 b3 hr2
  go_wp2
  go_ret2
  exact ⟨A3, c3, rfl, hr3, hb3⟩
end Go.Proofs.YtdhfnacdjjdijaaGreat
