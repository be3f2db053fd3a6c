/-
  How many bytes; whether there is a blank: the program's and the document's own.
-/
import Derived.Test.YtbhglgcnoidddaaOpA
namespace Go.Proofs.Ytbhglgcnoidddaa
open Go.RowKit
set_option linter.unusedVariables false
set_option linter.unusedSimpArgs false

set_option maxHeartbeats 800000 in
theorem size_of (v kd m : Int) (hv : Hid (szO kd m = v)) (w : World) :
    Calls Try.prog 12 #[.int .u8 kd, .int .i64 m] w fun e w' => e = .returned (.int .i64 v) ∧ w = w' := by
  have h := hv.out
  clear hv
  by_cases m1 : m < 1
  · have d1 : decide (m < 1) = true := decide_eq_true m1
    rw [szO, if_neg (by omega)] at h
    have H := hid h
    clear h m1
    go_enter Try.func12, Try.ntmps12
    go_wp2
    go_ret
    exact ⟨ret_int H.out, rfl⟩
  · have d1 : decide (m < 1) = false := decide_eq_false m1
    by_cases m2 : 64 < m
    · have d2 : decide (64 < m) = true := decide_eq_true m2
      rw [szO, if_neg (by omega)] at h
      have H := hid h
      clear h m1 m2
      go_enter Try.func12, Try.ntmps12
      go_wp2
      go_ret
      exact ⟨ret_int H.out, rfl⟩
    · have d2 : decide (64 < m) = false := decide_eq_false m2
      rw [szO, if_pos (by omega)] at h
      have M1 : 1 ≤ m := by omega
      have M2 : m ≤ 64 := by omega
      clear m1 m2
      by_cases k1 : kd = 1
      · have e1 : (kd == 1) = true := by simpa using k1
        rw [if_pos k1] at h
        have H := hid h
        clear h k1
        go_enter Try.func12, Try.ntmps12
        go_wp2
        go_ret
        exact ⟨ret_int H.out, rfl⟩
      · have e1 : (kd == 1) = false := by simpa using k1
        rw [if_neg k1] at h
        by_cases k2 : kd = 2
        · have e2 : (kd == 2) = true := by simpa using k2
          rw [if_pos k2] at h
          have H := hid h
          clear h k1 k2
          go_enter Try.func12, Try.ntmps12
          go_wp2
          go_ret
          exact ⟨ret_int H.out, rfl⟩
        · have e2 : (kd == 2) = false := by simpa using k2
          rw [if_neg k2] at h
          by_cases k3 : kd = 3
          · have e3 : (kd == 3) = true := by simpa using k3
            rw [if_pos k3] at h
            have H := hid h
            clear h k1 k2 k3
            go_enter Try.func12, Try.ntmps12
            go_wp2
            go_ret
            exact ⟨ret_int H.out, rfl⟩
          · have e3 : (kd == 3) = false := by simpa using k3
            rw [if_neg k3] at h
            have H := hid h
            clear h k1 k2 k3
            go_enter Try.func12, Try.ntmps12
            go_wp2
            go_ret
            exact ⟨ret_int H.out, rfl⟩

set_option maxHeartbeats 800000 in
theorem rsize_of (v kd m : Int) (hv : Hid (szO kd m = v)) (w : World) :
    Calls Try.prog 23 #[.int .u8 kd, .int .i64 m] w fun e w' => e = .returned (.int .i64 v) ∧ w = w' := by
  have h := hv.out
  clear hv
  by_cases m1 : m < 1
  · have d1 : decide (m < 1) = true := decide_eq_true m1
    rw [szO, if_neg (by omega)] at h
    have H := hid h
    clear h m1
    go_enter Try.func23, Try.ntmps23
    go_wp2
    go_ret
    exact ⟨ret_int H.out, rfl⟩
  · have d1 : decide (m < 1) = false := decide_eq_false m1
    by_cases m2 : 64 < m
    · have d2 : decide (64 < m) = true := decide_eq_true m2
      rw [szO, if_neg (by omega)] at h
      have H := hid h
      clear h m1 m2
      go_enter Try.func23, Try.ntmps23
      go_wp2
      go_ret
      exact ⟨ret_int H.out, rfl⟩
    · have d2 : decide (64 < m) = false := decide_eq_false m2
      rw [szO, if_pos (by omega)] at h
      have M1 : 1 ≤ m := by omega
      have M2 : m ≤ 64 := by omega
      clear m1 m2
      by_cases k1 : kd = 1
      · have e1 : (kd == 1) = true := by simpa using k1
        rw [if_pos k1] at h
        have H := hid h
        clear h k1
        go_enter Try.func23, Try.ntmps23
        go_wp2
        go_ret
        exact ⟨ret_int H.out, rfl⟩
      · have e1 : (kd == 1) = false := by simpa using k1
        rw [if_neg k1] at h
        by_cases k2 : kd = 2
        · have e2 : (kd == 2) = true := by simpa using k2
          rw [if_pos k2] at h
          have H := hid h
          clear h k1 k2
          go_enter Try.func23, Try.ntmps23
          go_wp2
          go_ret
          exact ⟨ret_int H.out, rfl⟩
        · have e2 : (kd == 2) = false := by simpa using k2
          rw [if_neg k2] at h
          by_cases k3 : kd = 3
          · have e3 : (kd == 3) = true := by simpa using k3
            rw [if_pos k3] at h
            have H := hid h
            clear h k1 k2 k3
            go_enter Try.func23, Try.ntmps23
            go_wp2
            go_ret
            exact ⟨ret_int H.out, rfl⟩
          · have e3 : (kd == 3) = false := by simpa using k3
            rw [if_neg k3] at h
            have H := hid h
            clear h k1 k2 k3
            go_enter Try.func23, Try.ntmps23
            go_wp2
            go_ret
            exact ⟨ret_int H.out, rfl⟩

/-- No blank. -/
def plB (l : List Int) : Bool := l.all fun x => !(x == -1)
/-- Where the first blank stands. -/
def ixB (l : List Int) : Int := match l.findIdx? (fun x => x == -1) with | some i => (i : Int) | none => -1
theorem ixB_none {l : List Int} (h : plB l = true) : ixB l = -1 := by
  have : l.findIdx? (fun x => x == -1) = none := by
    rw [List.findIdx?_eq_none_iff]
    intro x hx
    simpa using List.all_eq_true.1 h x hx
  simp [ixB, this]
theorem ixB_at {l : List Int} {j : Nat} (hj : j < l.length) (h1 : plB (l.take j) = true) (h2 : l[j] = -1) : ixB l = (j : Int) ∧ plB l = false := by
  have : l.findIdx? (fun x => x == -1) = some j := by
    rw [List.findIdx?_eq_some_iff_getElem]
    refine ⟨hj, by simp [h2], fun i hi => ?_⟩
    have : (!(l[i] == -1)) = true := by
      refine List.all_eq_true.1 h1 _ ?_
      rw [List.mem_iff_getElem]
      exact ⟨i, by rw [List.length_take]; omega, by simp⟩
    simpa using this
  refine ⟨by simp [ixB, this], ?_⟩
  rw [Bool.eq_false_iff]
  intro hh
  have := List.all_eq_true.1 hh _ (List.getElem_mem hj)
  rw [h2] at this
  cases this
theorem ixB_dec (l : List Int) : decide (0 ≤ ixB l) = !plB l := by
  unfold ixB
  match h : l.findIdx? (fun x => x == -1) with
  | none =>
    rw [List.findIdx?_eq_none_iff] at h
    have : plB l = true := List.all_eq_true.2 fun x hx => by simpa using h x hx
    simp [this]
  | some i =>
    rw [List.findIdx?_eq_some_iff_getElem] at h
    obtain ⟨hi, h1, _⟩ := h
    have : plB l = false := by
      rw [Bool.eq_false_iff]
      intro hh
      have h2 := List.all_eq_true.1 hh _ (List.getElem_mem hi)
      rw [h1] at h2
      cases h2
    simp [this]
theorem plB_take {l : List Int} {j : Nat} (hj : j < l.length) : plB (l.take (j + 1)) = (plB (l.take j) && !(l[j] == -1)) := by
  rw [List.take_succ_eq_append_getElem hj, plB, List.all_append]
  simp [plB]

set_option maxHeartbeats 400000 in
theorem ix_any (A : Option Addr) (n c : Nat) (l : List Int) (hn : Hid (l.length = n)) (w : World) (hr : Ri w A c l) :
    Calls Try.prog 53 #[.slice A n c, .int .i32 (-1)] w fun e w' => e = .returned (.int .i64 (ixB l)) ∧ w = w' := by
  have hc2 : (c : Int) ≤ 9223372036854775807 := by have := hr.cap; omega
  have hc1 : (n : Int) ≤ c := by have := hr.len; have := hn.out; omega
  have HR := hid hr
  clear hr
  go_enter Try.func53, Try.ntmps53
  go_wp2
  go_loop [5, 8] (fun x i => ∃ j : Nat, j ≤ n ∧ i = .int .i64 (j : Int) ∧ Hid (plB (l.take j) = true)) (fun _ i => n - (intOf i).toNat)
  case atStart => exact ⟨0, by omega, rfl, hid rfl⟩
  case round =>
    obtain ⟨j, hj, rfl, hz⟩ := hrel
    by_cases hlt : j < n
    · have hl := hn.out
      obtain ⟨b, o, rfl, hcell⟩ := HR.out.at_ (by omega)
      have h1 := hcell j (by omega)
      have hs := plB_take (l := l) (j := j) (by omega)
      have hat := ixB_at (l := l) (j := j) (by omega) hz.out
      generalize l[j]'(by omega) = d at h1 hs hat
      have hlt2 : (j : Int) < (n : Int) := by omega
      have HS := hid hs
      have HA := hid hat
      clear hs hcell hl hat
      by_cases hd : d = -1
      · have hd2 : (-1 == d) = true := by subst hd; rfl
        have HD := hid hd
        clear hd
        go_wp2
        go_ret
        exact ⟨ret_int (HA.out HD.out).1.symm, rfl⟩
      · have hd2 : (-1 == d) = false := by simp; omega
        have HD := hid (show (d == -1) = false by simpa using hd)
        clear hd
        go_wp2
        go_round
        case rel => exact ⟨j + 1, by omega, by go_num, hid (by rw [HS.out, hz.out, HD.out]; rfl)⟩
        case measure => simp [intOf]; omega
    · have ej : l.take j = l := List.take_of_length_le (by have := hn.out; omega)
      have hlt2 : ¬ (j : Int) < (n : Int) := by omega
      have HE := hid ej
      clear ej
      go_wp2
      go_ret
      exact ⟨ret_int (ixB_none (by rw [← HE.out]; exact hz.out)).symm, rfl⟩

set_option maxHeartbeats 400000 in
theorem has_any (A : Option Addr) (n c : Nat) (l : List Int) (hn : Hid (l.length = n)) (w : World) (hr : Ri w A c l) :
    Calls Try.prog 29 #[.slice A n c, .int .i32 (-1)] w fun e w' => e = .returned (.bool (!plB l)) ∧ w = w' := by
  go_enter Try.func29, Try.ntmps29
  go_wp2_with (go_at_call 53; refine (ix_any A n c l hn _ hr).mono ?_; rintro e w' ⟨rfl, rfl⟩)
  go_ret
  exact ⟨ret_bool (ixB_dec l), rfl⟩

set_option maxHeartbeats 400000 in
theorem plain_of (q : Bool) (o : Opd) (A : Option Addr) (n c : Nat) (hn : Hid (o.row.length = n)) (hq : Hid (plB o.row = q)) (w : World) (hr : Ri w A c o.row) :
    Calls Try.prog 14 #[.agg #[.int .u8 o.kd, .int .u8 o.l, .int .u32 o.c, .int .u8 o.k, .int .i64 o.s, .int .u8 o.fl, .int .u32 o.fc, .int .u8 o.fk, .int .i64 o.fn, .int .i64 o.fm, .int .u8 o.al, .int .u32 o.ac, .int .u8 o.ak, .int .i64 o.an, .int .u8 o.tl, .int .u32 o.tc, .slice A n c]] w fun e w' => e = .returned (.bool q) ∧ Below w.heap.size w w' := by
  go_enter Try.func14, Try.ntmps14
  go_wp2_with fail
  go_call has_any A n c o.row hn _ (hr.alloc _) as e w1 ⟨rfl, rfl⟩
  go_wp2
  go_ret
  exact ⟨ret_bool (by rw [← hq.out]), by go_grown⟩

set_option maxHeartbeats 400000 in
theorem rplain_of (q : Bool) (o : Opd) (A : Option Addr) (n c : Nat) (hn : Hid (o.row.length = n)) (hq : Hid (plB o.row = q)) (w : World) (hr : Ri w A c o.row) :
    Calls Try.prog 22 #[.agg #[.int .u8 o.kd, .int .u8 o.l, .int .u32 o.c, .int .u8 o.k, .int .i64 o.s, .int .u8 o.fl, .int .u32 o.fc, .int .u8 o.fk, .int .i64 o.fn, .int .i64 o.fm, .int .u8 o.al, .int .u32 o.ac, .int .u8 o.ak, .int .i64 o.an, .int .u8 o.tl, .int .u32 o.tc, .slice A n c]] w fun e w' => e = .returned (.bool q) ∧ Below w.heap.size w w' := by
  have hc2 : (c : Int) ≤ 9223372036854775807 := by have := hr.cap; omega
  have hc1 : (n : Int) ≤ c := by have := hr.len; have := hn.out; omega
  go_enter Try.func22, Try.ntmps22
  go_wp2_with fail
  generalize hW : w.alloc _ = W
  have hbW : Below w.heap.size w W := by subst hW; go_grown
  have s16 := (show BoxO W w.heap.size o A n c by subst hW; exact boxO_new w o A n c 35).c16
  have HR := hid (hr.keep hbW)
  clear hr hW
  go_wp2
  go_loop [3] (fun i => ∃ j : Nat, j ≤ n ∧ i = .int .i64 (j : Int) ∧ Hid (plB (o.row.take j) = true)) (fun i => n - (intOf i).toNat)
  case atStart => exact ⟨0, by omega, rfl, hid rfl⟩
  case round =>
    obtain ⟨j, hj, rfl, hz⟩ := hrel
    by_cases hlt : j < n
    · have hl := hn.out
      obtain ⟨b, u, rfl, hcell⟩ := HR.out.at_ (by omega)
      have h1 := hcell j (by omega)
      have hs := plB_take (l := o.row) (j := j) (by omega)
      have hat := ixB_at (l := o.row) (j := j) (by omega) hz.out
      generalize o.row[j]'(by omega) = d at h1 hs hat
      have hlt2 : (j : Int) < (n : Int) := by omega
      have HS := hid hs
      have HA := hid hat
      clear hs hcell hl hat
      by_cases hd : d = -1
      · have hd2 : (d == -1) = true := by subst hd; rfl
        have HD := hid hd
        clear hd
        go_wp2
        go_ret
        exact ⟨ret_bool (by rw [← hq.out, (HA.out HD.out).2]), hbW⟩
      · have hd2 : (d == -1) = false := by simpa using hd
        clear hd
        have HD := hid hd2
        go_wp2
        go_round
        case rel => exact ⟨j + 1, by omega, by go_num, hid (by rw [HS.out, hz.out, HD.out]; rfl)⟩
        case measure => simp [intOf]; omega
    · have ej : o.row.take j = o.row := List.take_of_length_le (by have := hn.out; omega)
      have hlt2 : ¬ (j : Int) < (n : Int) := by omega
      have HE := hid ej
      clear ej
      go_wp2
      go_ret
      exact ⟨ret_bool (by rw [← hq.out, ← HE.out, hz.out]), hbW⟩
end Go.Proofs.Ytbhglgcnoidddaa
