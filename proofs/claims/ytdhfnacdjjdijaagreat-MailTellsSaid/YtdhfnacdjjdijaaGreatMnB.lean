/-
  The document's own answer of layer 10: mail without what its kind has.
-/
import Derived.Test.YtdhfnacdjjdijaaGreatMlE
import Derived.Test.YtdhfnacdjjdijaaGreatOG
namespace Go.Proofs.YtdhfnacdjjdijaaGreat
open Go.RowKit
set_option linter.unusedVariables false
set_option linter.unusedSimpArgs false

theorem rcount_of (q : Bool) (n : Int) (hq : Hid (countB n = q)) (w : World) :
    Calls Tryz.prog 48 #[.int .i64 n] w fun e w' => e = .returned (.bool q) ∧ w = w' := by
  by_cases h : 0 ≤ n
  · have HQ := hid (show decide (n < 16777216) = q by rw [← hq.out, countB, decide_eq_true h]; rfl)
    clear hq
    go_enter Tryz.func48, Tryz.ntmps48
    go_wp2
    go_ret
    exact ⟨ret_bool HQ.out, rfl⟩
  · have HQ := hid (show false = q by rw [← hq.out, countB, decide_eq_false h]; rfl)
    clear hq
    go_enter Tryz.func48, Tryz.ntmps48
    go_wp2
    go_ret
    exact ⟨ret_bool HQ.out, rfl⟩

set_option maxRecDepth 100000 in
set_option maxHeartbeats 1600000 in
theorem rtold_of (q : Bool) (a b c d : Int) (hq : Hid ((countB a && countB b && countB c && countB d) = q)) (w : World) :
    Calls Tryz.prog 49 #[.agg #[.int .i64 a, .int .i64 b, .int .i64 c, .int .i64 d]] w fun e w' => e = .returned (.bool q) ∧ Below w.heap.size w w' := by
  have h := hq.out
  obtain ⟨q0, h0⟩ : ∃ q, countB a = q := ⟨_, rfl⟩
  obtain ⟨q1, h1⟩ : ∃ q, countB b = q := ⟨_, rfl⟩
  obtain ⟨q2, h2⟩ : ∃ q, countB c = q := ⟨_, rfl⟩
  obtain ⟨q3, h3⟩ : ∃ q, countB d = q := ⟨_, rfl⟩
  have HQ := hid (show (q0 && q1 && q2 && q3) = q by rw [← h0, ← h1, ← h2, ← h3]; exact h)
  have H0 := hid h0
  have H1 := hid h1
  have H2 := hid h2
  have H3 := hid h3
  clear h h0 h1 h2 h3 hq
  cases q0 <;> cases q1 <;> cases q2 <;> cases q3 <;> (
  go_enter Tryz.func49, Tryz.ntmps49
  go_wp2_with (go_at_call 48; refine (rcount_of _ _ (by assumption) _).mono ?_; rintro e w' ⟨rfl, rfl⟩)
  go_ret
  exact ⟨ret_bool HQ.out, by go_grown⟩)

theorem opsB_take {l : List Opd} {j : Nat} (hj : j < l.length) : opsB (l.take (j + 1)) = (opsB (l.take j) && mayO l[j]) := by
  rw [opsB, opsB, List.take_succ_eq_append_getElem hj, List.all_append]
  simp
theorem opsB_no {l : List Opd} {j : Nat} (hj : j < l.length) (h : mayO l[j] = false) : opsB l = false := by
  rw [opsB, List.all_eq_false]
  exact ⟨l[j], List.getElem_mem hj, by rw [h]; simp⟩

set_option maxRecDepth 100000 in
set_option maxHeartbeats 1600000 in
theorem rops_of (q : Bool) (A : Option Addr) (n c : Nat) (l : List Opd) (hn : Hid (l.length = n)) (hr0 : ∀ o ∈ l, Opr o) (hq : Hid (opsL l = q)) (w : World) (hr : RdO w A c l) :
    Calls Tryz.prog 50 #[.slice A n c, .int .i64 3] w fun e w' => e = .returned (.bool q) ∧ Below w.heap.size w w' := by
  have hc2 : (c : Int) ≤ 9223372036854775807 := by have := hr.cap; omega
  have hc1 : (n : Int) ≤ c := by have := hr.len; have := hn.out; omega
  by_cases h3 : n ≤ 3
  · have HQ := hid (show opsB l = q by rw [← hq.out, opsL, decide_eq_true (by rw [hn.out]; exact h3)]; rfl)
    have h32 : (n : Int) ≤ 3 := by omega
    have HR := hid hr
    have HR0 := hid hr0
    clear hq hr hr0
    go_enter Tryz.func50, Tryz.ntmps50
    go_wp2
    go_loopw [5] (fun i wr => ∃ (j : Nat), j ≤ n ∧ i = .int .i64 (j : Int) ∧ Hid (opsB (l.take j) = true) ∧ Below w.heap.size w wr) (fun i _ => n - (intOf i).toNat)
    case atStart => exact ⟨0, by omega, rfl, hid rfl, Below.refl _ _⟩
    case round =>
      obtain ⟨j, hj, rfl, hz, hb⟩ := hrel
      by_cases hlt : j < n
      · have hln := hn.out
        obtain ⟨b, o, rfl, hcell⟩ := (HR.out.keep hb).at_ (by omega)
        obtain ⟨B, d, hR, hRi⟩ := hcell j (by omega)
        have hs := opsB_take (l := l) (j := j) (by omega)
        have hno := opsB_no (l := l) (j := j) (by omega)
        have hop := HR0.out _ (List.getElem_mem (l := l) (n := j) (by omega))
        obtain ⟨u, hu⟩ : ∃ u, mayO (l[j]'(by omega)) = u := ⟨_, rfl⟩
        rw [hu] at hs hno
        generalize l[j]'(by omega) = y at hR hRi hop hu
        obtain ⟨k, hk⟩ : ∃ k, y.row.length = k := ⟨_, rfl⟩
        rw [hk] at hR
        have HK := hid hk
        have HU := hid hu
        have HS := hid hs
        have HNO := hid hno
        have hlt2 : (j : Int) < (n : Int) := by omega
        have hm0 : -9223372036854775808 ≤ y.fm := hop.spn.2.1
        clear hs hno hcell hln hk hu hop
        go_wp2_with (refine wpList_load_e rfl (.tmp 20) rfl b _ rfl hR ?_)
        refine (rmay_of u y B k d HK HU hm0 _ hRi).mono ?_
        rintro e w2 ⟨rfl, b2⟩
        have hb2 := below_in hb b2
        clear hR hRi hb b2
        cases u
        · have HX := hid (show false = q by rw [← HQ.out, HNO.out rfl])
          clear HNO HS
          go_wp2
          go_ret
          exact ⟨ret_bool HX.out, hb2⟩
        · have HX := hid (show opsB (l.take (j + 1)) = true by rw [HS.out, hz.out]; rfl)
          clear HNO HS
          go_wp2
          go_roundw
          case rel => exact ⟨j + 1, by omega, by go_num, HX, hb2⟩
          case measure => simp [intOf]; omega
      · have hlt2 : ¬ (j : Int) < (n : Int) := by omega
        have HX := hid (show true = q by rw [← HQ.out, ← hz.out, List.take_of_length_le (by rw [hn.out]; omega)])
        go_wp2
        go_ret
        exact ⟨ret_bool HX.out, hb⟩
  · have HQ := hid (show false = q by rw [← hq.out, opsL, decide_eq_false (by rw [hn.out]; exact h3)]; rfl)
    have h32 : ¬ (n : Int) ≤ 3 := by omega
    have h02 : (0 : Int) < (n : Int) := by omega
    clear hq hr hr0
    go_enter Tryz.func50, Tryz.ntmps50
    go_wp2
    go_loopw [5] (fun i wr => i = .int .i64 0 ∧ wr = w) (fun i _ => 0)
    case atStart => exact ⟨rfl, rfl⟩
    case round =>
      obtain ⟨rfl, rfl⟩ := hrel
      go_wp2
      go_ret
      exact ⟨ret_bool (by rw [decide_eq_false (Int.not_le.2 h32)]; exact HQ.out), Below.refl _ _⟩
end Go.Proofs.YtdhfnacdjjdijaaGreat

namespace Go.Proofs.YtdhfnacdjjdijaaGreat
open Go.RowKit
set_option linter.unusedVariables false
set_option linter.unusedSimpArgs false

/-- Mail comes back, its operations as they may be read. -/
def RetBare (w : World) (m : Mld) (e : Ending) (w' : World) : Prop := ∃ A n c, e = .returned (.agg #[.int .u8 m.kd, .int .i64 m.us, .int .i64 m.se, .int .i64 m.co, .int .i64 m.fr, .int .i64 m.tt, .int .u8 m.ak, .int .i64 m.t0, .int .i64 m.t1, .int .i64 m.t2, .int .i64 m.t3, .slice A n c]) ∧ Hid (m.ops.length = n) ∧ RdO w' A c m.ops ∧ Below w.heap.size w w'
theorem boxM_two (w : World) (o : Obj) (m : Mld) (A : Option Addr) (n c : Nat) (t : TypeId) : BoxM ((w.alloc o).alloc (.cells (#[.int .u8 m.kd, .int .i64 m.us, .int .i64 m.se, .int .i64 m.co, .int .i64 m.fr, .int .i64 m.tt, .int .u8 m.ak, .int .i64 m.t0, .int .i64 m.t1, .int .i64 m.t2, .int .i64 m.t3, .slice A n c]) t)) (w.heap.size + 1) m A n c := by
  have h := boxM_new (w.alloc o) m A n c t
  rwa [show (w.alloc o).heap.size = w.heap.size + 1 by simp [go_sem]] at h

set_option maxRecDepth 100000 in
set_option maxHeartbeats 1600000 in
theorem rbare_1 (us se co fr tt ak t0 t1 t2 t3 : Int) (A : Option Addr) (n c : Nat) (w : World) :
    Calls Tryz.prog 47 #[.agg (#[.int .u8 1, .int .i64 us, .int .i64 se, .int .i64 co, .int .i64 fr, .int .i64 tt, .int .u8 ak, .int .i64 t0, .int .i64 t1, .int .i64 t2, .int .i64 t3, .slice A n c])] w fun e w' => e = .returned (.agg #[.int .u8 1, .int .i64 0, .int .i64 se, .int .i64 co, .int .i64 fr, .int .i64 tt, .int .u8 ak, .int .i64 t0, .int .i64 t1, .int .i64 t2, .int .i64 t3, .slice A n c]) ∧ Below w.heap.size w w' := by
  go_enter Tryz.func47, Tryz.ntmps47
  go_wp2
  exact bodyPost_ret (results_m rfl rfl (boxM_two w _ ⟨1, 0, se, co, fr, tt, ak, t0, t1, t2, t3, []⟩ A n c _)) rfl ⟨rfl, by go_grown⟩
set_option maxRecDepth 100000 in
set_option maxHeartbeats 1600000 in
theorem rbare_2 (us se co fr tt ak t0 t1 t2 t3 : Int) (A : Option Addr) (n c : Nat) (w : World) :
    Calls Tryz.prog 47 #[.agg (#[.int .u8 2, .int .i64 us, .int .i64 se, .int .i64 co, .int .i64 fr, .int .i64 tt, .int .u8 ak, .int .i64 t0, .int .i64 t1, .int .i64 t2, .int .i64 t3, .slice A n c])] w fun e w' => e = .returned (.agg #[.int .u8 2, .int .i64 us, .int .i64 se, .int .i64 co, .int .i64 fr, .int .i64 tt, .int .u8 ak, .int .i64 t0, .int .i64 t1, .int .i64 t2, .int .i64 t3, .slice none 0 0]) ∧ Below w.heap.size w w' := by
  go_enter Tryz.func47, Tryz.ntmps47
  go_wp2
  exact bodyPost_ret (results_m rfl rfl (boxM_two w _ ⟨2, us, se, co, fr, tt, ak, t0, t1, t2, t3, []⟩ none 0 0 _)) rfl ⟨rfl, by go_grown⟩
set_option maxRecDepth 100000 in
set_option maxHeartbeats 1600000 in
theorem rbare_3 (us se co fr tt ak t0 t1 t2 t3 : Int) (A : Option Addr) (n c : Nat) (w : World) :
    Calls Tryz.prog 47 #[.agg (#[.int .u8 3, .int .i64 us, .int .i64 se, .int .i64 co, .int .i64 fr, .int .i64 tt, .int .u8 ak, .int .i64 t0, .int .i64 t1, .int .i64 t2, .int .i64 t3, .slice A n c])] w fun e w' => e = .returned (.agg #[.int .u8 3, .int .i64 us, .int .i64 se, .int .i64 co, .int .i64 0, .int .i64 tt, .int .u8 ak, .int .i64 t0, .int .i64 t1, .int .i64 t2, .int .i64 t3, .slice A n c]) ∧ Below w.heap.size w w' := by
  go_enter Tryz.func47, Tryz.ntmps47
  go_wp2
  exact bodyPost_ret (results_m rfl rfl (boxM_two w _ ⟨3, us, se, co, 0, tt, ak, t0, t1, t2, t3, []⟩ A n c _)) rfl ⟨rfl, by go_grown⟩
set_option maxRecDepth 100000 in
set_option maxHeartbeats 1600000 in
theorem rbare_4 (us se co fr tt ak t0 t1 t2 t3 : Int) (A : Option Addr) (n c : Nat) (w : World) :
    Calls Tryz.prog 47 #[.agg (#[.int .u8 4, .int .i64 us, .int .i64 se, .int .i64 co, .int .i64 fr, .int .i64 tt, .int .u8 ak, .int .i64 t0, .int .i64 t1, .int .i64 t2, .int .i64 t3, .slice A n c])] w fun e w' => e = .returned (.agg #[.int .u8 4, .int .i64 us, .int .i64 se, .int .i64 co, .int .i64 fr, .int .i64 tt, .int .u8 0, .int .i64 t0, .int .i64 t1, .int .i64 t2, .int .i64 t3, .slice A n c]) ∧ Below w.heap.size w w' := by
  go_enter Tryz.func47, Tryz.ntmps47
  go_wp2
  exact bodyPost_ret (results_m rfl rfl (boxM_two w _ ⟨4, us, se, co, fr, tt, 0, t0, t1, t2, t3, []⟩ A n c _)) rfl ⟨rfl, by go_grown⟩
set_option maxRecDepth 100000 in
set_option maxHeartbeats 1600000 in
theorem rbare_5 (us se co fr tt ak t0 t1 t2 t3 : Int) (A : Option Addr) (n c : Nat) (w : World) :
    Calls Tryz.prog 47 #[.agg (#[.int .u8 5, .int .i64 us, .int .i64 se, .int .i64 co, .int .i64 fr, .int .i64 tt, .int .u8 ak, .int .i64 t0, .int .i64 t1, .int .i64 t2, .int .i64 t3, .slice A n c])] w fun e w' => e = .returned (.agg #[.int .u8 5, .int .i64 us, .int .i64 se, .int .i64 co, .int .i64 fr, .int .i64 tt, .int .u8 ak, .int .i64 t0, .int .i64 t1, .int .i64 t2, .int .i64 t3, .slice A n c]) ∧ Below w.heap.size w w' := by
  go_enter Tryz.func47, Tryz.ntmps47
  go_wp2
  exact bodyPost_ret (results_m rfl rfl (boxM_two w _ ⟨5, us, se, co, fr, tt, ak, t0, t1, t2, t3, []⟩ A n c _)) rfl ⟨rfl, by go_grown⟩
set_option maxRecDepth 100000 in
set_option maxHeartbeats 1600000 in
theorem rbare_6 (us se co fr tt ak t0 t1 t2 t3 : Int) (A : Option Addr) (n c : Nat) (w : World) :
    Calls Tryz.prog 47 #[.agg (#[.int .u8 6, .int .i64 us, .int .i64 se, .int .i64 co, .int .i64 fr, .int .i64 tt, .int .u8 ak, .int .i64 t0, .int .i64 t1, .int .i64 t2, .int .i64 t3, .slice A n c])] w fun e w' => e = .returned (.agg #[.int .u8 6, .int .i64 us, .int .i64 se, .int .i64 0, .int .i64 fr, .int .i64 tt, .int .u8 ak, .int .i64 t0, .int .i64 t1, .int .i64 t2, .int .i64 t3, .slice A n c]) ∧ Below w.heap.size w w' := by
  go_enter Tryz.func47, Tryz.ntmps47
  go_wp2
  exact bodyPost_ret (results_m rfl rfl (boxM_two w _ ⟨6, us, se, 0, fr, tt, ak, t0, t1, t2, t3, []⟩ A n c _)) rfl ⟨rfl, by go_grown⟩
set_option maxRecDepth 100000 in
set_option maxHeartbeats 1600000 in
theorem rbare_7 (us se co fr tt ak t0 t1 t2 t3 : Int) (A : Option Addr) (n c : Nat) (w : World) :
    Calls Tryz.prog 47 #[.agg (#[.int .u8 7, .int .i64 us, .int .i64 se, .int .i64 co, .int .i64 fr, .int .i64 tt, .int .u8 ak, .int .i64 t0, .int .i64 t1, .int .i64 t2, .int .i64 t3, .slice A n c])] w fun e w' => e = .returned (.agg #[.int .u8 7, .int .i64 us, .int .i64 0, .int .i64 0, .int .i64 fr, .int .i64 tt, .int .u8 ak, .int .i64 t0, .int .i64 t1, .int .i64 t2, .int .i64 t3, .slice A n c]) ∧ Below w.heap.size w w' := by
  go_enter Tryz.func47, Tryz.ntmps47
  go_wp2
  exact bodyPost_ret (results_m rfl rfl (boxM_two w _ ⟨7, us, 0, 0, fr, tt, ak, t0, t1, t2, t3, []⟩ A n c _)) rfl ⟨rfl, by go_grown⟩
set_option maxRecDepth 100000 in
set_option maxHeartbeats 1600000 in
theorem rbare_8 (us se co fr tt ak t0 t1 t2 t3 : Int) (A : Option Addr) (n c : Nat) (w : World) :
    Calls Tryz.prog 47 #[.agg (#[.int .u8 8, .int .i64 us, .int .i64 se, .int .i64 co, .int .i64 fr, .int .i64 tt, .int .u8 ak, .int .i64 t0, .int .i64 t1, .int .i64 t2, .int .i64 t3, .slice A n c])] w fun e w' => e = .returned (.agg #[.int .u8 8, .int .i64 us, .int .i64 se, .int .i64 co, .int .i64 0, .int .i64 0, .int .u8 ak, .int .i64 t0, .int .i64 t1, .int .i64 t2, .int .i64 t3, .slice none 0 0]) ∧ Below w.heap.size w w' := by
  go_enter Tryz.func47, Tryz.ntmps47
  go_wp2
  exact bodyPost_ret (results_m rfl rfl (boxM_two w _ ⟨8, us, se, co, 0, 0, ak, t0, t1, t2, t3, []⟩ none 0 0 _)) rfl ⟨rfl, by go_grown⟩
set_option maxRecDepth 100000 in
set_option maxHeartbeats 1600000 in
theorem rbare_9 (us se co fr tt ak t0 t1 t2 t3 : Int) (A : Option Addr) (n c : Nat) (w : World) :
    Calls Tryz.prog 47 #[.agg (#[.int .u8 9, .int .i64 us, .int .i64 se, .int .i64 co, .int .i64 fr, .int .i64 tt, .int .u8 ak, .int .i64 t0, .int .i64 t1, .int .i64 t2, .int .i64 t3, .slice A n c])] w fun e w' => e = .returned (.agg #[.int .u8 9, .int .i64 us, .int .i64 se, .int .i64 co, .int .i64 fr, .int .i64 tt, .int .u8 0, .int .i64 0, .int .i64 0, .int .i64 0, .int .i64 0, .slice A n c]) ∧ Below w.heap.size w w' := by
  go_enter Tryz.func47, Tryz.ntmps47
  go_wp2
  exact bodyPost_ret (results_m rfl rfl (boxM_two w _ ⟨9, us, se, co, fr, tt, 0, 0, 0, 0, 0, []⟩ A n c _)) rfl ⟨rfl, by go_grown⟩
set_option maxRecDepth 100000 in
set_option maxHeartbeats 1600000 in
theorem rbare_10 (us se co fr tt ak t0 t1 t2 t3 : Int) (A : Option Addr) (n c : Nat) (w : World) :
    Calls Tryz.prog 47 #[.agg (#[.int .u8 10, .int .i64 us, .int .i64 se, .int .i64 co, .int .i64 fr, .int .i64 tt, .int .u8 ak, .int .i64 t0, .int .i64 t1, .int .i64 t2, .int .i64 t3, .slice A n c])] w fun e w' => e = .returned (.agg #[.int .u8 10, .int .i64 us, .int .i64 se, .int .i64 0, .int .i64 fr, .int .i64 tt, .int .u8 ak, .int .i64 t0, .int .i64 t1, .int .i64 t2, .int .i64 t3, .slice A n c]) ∧ Below w.heap.size w w' := by
  go_enter Tryz.func47, Tryz.ntmps47
  go_wp2
  exact bodyPost_ret (results_m rfl rfl (boxM_two w _ ⟨10, us, se, 0, fr, tt, ak, t0, t1, t2, t3, []⟩ A n c _)) rfl ⟨rfl, by go_grown⟩

theorem rbare_of (m : Mld) (hk : isK m.kd = true) (A : Option Addr) (n c : Nat) (hn : Hid (m.ops.length = n)) (w : World) (hr : RdO w A c m.ops) :
    Calls Tryz.prog 47 #[.agg #[.int .u8 m.kd, .int .i64 m.us, .int .i64 m.se, .int .i64 m.co, .int .i64 m.fr, .int .i64 m.tt, .int .u8 m.ak, .int .i64 m.t0, .int .i64 m.t1, .int .i64 m.t2, .int .i64 m.t3, .slice A n c]] w (RetBare w (bareM m)) := by
  obtain ⟨k, us, se, co, fr, tt, ak, t0, t1, t2, t3, ops⟩ := m
  have hn' : Hid (ops.length = n) := hn
  have hr' : RdO w A c ops := hr
  rcases isK_iff.1 hk with h | h | h | h | h | h | h | h | h | h
  · obtain rfl : k = 1 := h
    refine (rbare_1 us se co fr tt ak t0 t1 t2 t3 A n c w).mono ?_
    rintro e w' ⟨rfl, b⟩
    exact ⟨A, n, c, rfl, hn', hr'.keep b, b⟩
  · obtain rfl : k = 2 := h
    refine (rbare_2 us se co fr tt ak t0 t1 t2 t3 A n c w).mono ?_
    rintro e w' ⟨rfl, b⟩
    exact ⟨none, 0, 0, rfl, hid rfl, RdO.nil _, b⟩
  · obtain rfl : k = 3 := h
    refine (rbare_3 us se co fr tt ak t0 t1 t2 t3 A n c w).mono ?_
    rintro e w' ⟨rfl, b⟩
    exact ⟨A, n, c, rfl, hn', hr'.keep b, b⟩
  · obtain rfl : k = 4 := h
    refine (rbare_4 us se co fr tt ak t0 t1 t2 t3 A n c w).mono ?_
    rintro e w' ⟨rfl, b⟩
    exact ⟨A, n, c, rfl, hn', hr'.keep b, b⟩
  · obtain rfl : k = 5 := h
    refine (rbare_5 us se co fr tt ak t0 t1 t2 t3 A n c w).mono ?_
    rintro e w' ⟨rfl, b⟩
    exact ⟨A, n, c, rfl, hn', hr'.keep b, b⟩
  · obtain rfl : k = 6 := h
    refine (rbare_6 us se co fr tt ak t0 t1 t2 t3 A n c w).mono ?_
    rintro e w' ⟨rfl, b⟩
    exact ⟨A, n, c, rfl, hn', hr'.keep b, b⟩
  · obtain rfl : k = 7 := h
    refine (rbare_7 us se co fr tt ak t0 t1 t2 t3 A n c w).mono ?_
    rintro e w' ⟨rfl, b⟩
    exact ⟨A, n, c, rfl, hn', hr'.keep b, b⟩
  · obtain rfl : k = 8 := h
    refine (rbare_8 us se co fr tt ak t0 t1 t2 t3 A n c w).mono ?_
    rintro e w' ⟨rfl, b⟩
    exact ⟨none, 0, 0, rfl, hid rfl, RdO.nil _, b⟩
  · obtain rfl : k = 9 := h
    refine (rbare_9 us se co fr tt ak t0 t1 t2 t3 A n c w).mono ?_
    rintro e w' ⟨rfl, b⟩
    exact ⟨A, n, c, rfl, hn', hr'.keep b, b⟩
  · obtain rfl : k = 10 := h
    refine (rbare_10 us se co fr tt ak t0 t1 t2 t3 A n c w).mono ?_
    rintro e w' ⟨rfl, b⟩
    exact ⟨A, n, c, rfl, hn', hr'.keep b, b⟩
end Go.Proofs.YtdhfnacdjjdijaaGreat
