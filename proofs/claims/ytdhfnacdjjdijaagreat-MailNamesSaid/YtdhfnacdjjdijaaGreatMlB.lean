/-
  Operations of mail: whether all of them may be; counts likewise.
-/
import Derived.Test.YtdhfnacdjjdijaaGreatMlA
import Derived.Test.YtdhfnacdjjdijaaGreatON
namespace Go.Proofs.YtdhfnacdjjdijaaGreat
open Go.RowKit
set_option linter.unusedVariables false
set_option linter.unusedSimpArgs false

/-- Where the first one stands that may not be. -/
def idxP {α : Type} (p : α → Bool) (l : List α) : Int := match l.findIdx? (fun n => !p n) with | some i => (i : Int) | none => -1
section
variable {α : Type} {p : α → Bool}
theorem idxP_none {l : List α} (h : l.all p = true) : idxP p l = -1 := by
  have : l.findIdx? (fun n => !p n) = none := by
    rw [List.findIdx?_eq_none_iff]
    intro x hx
    simp [List.all_eq_true.1 h x hx]
  simp [idxP, this]
theorem idxP_at {l : List α} {j : Nat} (hj : j < l.length) (h1 : (l.take j).all p = true) (h2 : p l[j] = false) : idxP p l = (j : Int) ∧ l.all p = false := by
  have : l.findIdx? (fun n => !p n) = some j := by
    rw [List.findIdx?_eq_some_iff_getElem]
    refine ⟨hj, by simp [h2], fun i hi => ?_⟩
    have : p l[i] = true := by
      refine List.all_eq_true.1 h1 _ ?_
      rw [List.mem_iff_getElem]
      exact ⟨i, by rw [List.length_take]; omega, by simp⟩
    simp [this]
  refine ⟨by simp [idxP, this], ?_⟩
  rw [Bool.eq_false_iff]
  intro hh
  rw [List.all_eq_true.1 hh _ (List.getElem_mem hj)] at h2
  cases h2
theorem idxP_dec (l : List α) : decide (0 ≤ idxP p l) = !(l.all p) := by
  cases h : l.all p
  · have h' : ∃ x ∈ l, p x = false := by
      have := Bool.eq_false_iff.1 h
      rw [ne_eq, List.all_eq_true] at this
      simpa using this
    match hf : l.findIdx? (fun n => !p n) with
    | some i => simp [idxP, hf]
    | none =>
      rw [List.findIdx?_eq_none_iff] at hf
      obtain ⟨x, hx, hpx⟩ := h'
      have := hf x hx
      rw [hpx] at this
      cases this
  · rw [idxP_none h]; rfl
theorem all_take {l : List α} {j : Nat} (hj : j < l.length) : (l.take (j + 1)).all p = ((l.take j).all p && p l[j]) := by
  rw [List.take_succ_eq_append_getElem hj, List.all_append]
  simp
end

set_option maxHeartbeats 400000 in
theorem opsMay1_of (q : Bool) (o : Opd) (A : Option Addr) (n c : Nat) (hn : Hid (o.row.length = n)) (hq : Hid (mayO o = q)) (w : World) (hr : Ri w A c o.row) :
    Calls Tryz.prog 118 #[.agg #[.int .u8 o.kd, .int .u8 o.l, .int .u32 o.c, .int .u8 o.k, .int .i64 o.s, .int .u8 o.fl, .int .u32 o.fc, .int .u8 o.fk, .int .i64 o.fn, .int .i64 o.fm, .int .u8 o.al, .int .u32 o.ac, .int .u8 o.ak, .int .i64 o.an, .int .u8 o.tl, .int .u32 o.tc, .slice A n c]] w fun e w' => e = .returned (.bool (!q)) ∧ Below w.heap.size w w' := by
  have bx := boxO_new w o A n c 58
  cases q
  · have HJ := hid (show er (mayO o) = 8 by rw [hq.out]; rfl)
    go_enter Tryz.func118, Tryz.ntmps118
    go_wp2_with (refine wpList_load_o rfl (.tmp 1) rfl _ rfl bx ?_)
    refine (ocheck_of 8 o A n c hn HJ _ (hr.alloc _)).mono ?_
    rintro e W ⟨rfl, b1⟩
    have hb := past_alloc b1
    go_wp2
    go_ret
    exact ⟨rfl, hb⟩
  · have HJ := hid (show er (mayO o) = 0 by rw [hq.out]; rfl)
    go_enter Tryz.func118, Tryz.ntmps118
    go_wp2_with (refine wpList_load_o rfl (.tmp 1) rfl _ rfl bx ?_)
    refine (ocheck_of 0 o A n c hn HJ _ (hr.alloc _)).mono ?_
    rintro e W ⟨rfl, b1⟩
    have hb := past_alloc b1
    go_wp2
    go_ret
    exact ⟨rfl, hb⟩

set_option maxHeartbeats 800000 in
theorem indexO_any (A : Option Addr) (n c : Nat) (l : List Opd) (hn : Hid (l.length = n)) (w : World) (hr : RdO w A c l) :
    Calls Tryz.prog 135 #[.slice A n c, .func (.func 118) #[] #[]] w fun e w' => e = .returned (.int .i64 (idxP mayO l)) ∧ Below w.heap.size w w' := by
  have hc2 : (c : Int) ≤ 9223372036854775807 := by have := hr.cap; omega
  have hc1 : (n : Int) ≤ c := by have := hr.len; have := hn.out; omega
  go_enter Tryz.func135, Tryz.ntmps135
  go_wp2
  go_loopw [5, 8] (fun x i wr => ∃ j : Nat, j ≤ n ∧ i = .int .i64 (j : Int) ∧ Hid ((l.take j).all mayO = true) ∧ Below w.heap.size w wr) (fun _ i _ => n - (intOf i).toNat)
  case atStart => exact ⟨0, by omega, rfl, hid rfl, Below.refl _ _⟩
  case round =>
    obtain ⟨j, hj, rfl, hz, hb⟩ := hrel
    by_cases hlt : j < n
    · have hl := hn.out
      obtain ⟨b, o, rfl, hcell⟩ := (hr.keep hb).at_ (by omega)
      obtain ⟨B, d, hR, hRi⟩ := hcell j (by omega)
      have hs := all_take (p := mayO) (l := l) (j := j) (by omega)
      have hat := idxP_at (p := mayO) (l := l) (j := j) (by omega) hz.out
      generalize l[j]'(by omega) = y at hR hRi hs hat
      obtain ⟨k, hk⟩ : ∃ k, y.row.length = k := ⟨_, rfl⟩
      rw [hk] at hR
      have HK := hid hk
      have hlt2 : (j : Int) < (n : Int) := by omega
      have HS := hid hs
      have HA := hid hat
      clear hs hcell hl hat hk
      cases hd : mayO y
      · have HD := hid hd
        clear hd
        go_wp2_with (refine wpList_load_e rfl (.tmp 14) rfl b _ rfl hR ?_)
        refine (opsMay1_of false y B k d HK HD _ hRi).mono ?_
        rintro e w1 ⟨rfl, b1⟩
        have hb1 := below_in hb b1
        go_wp2
        go_ret
        exact ⟨ret_int (HA.out HD.out).1.symm, hb1⟩
      · have HD := hid hd
        clear hd
        go_wp2_with (refine wpList_load_e rfl (.tmp 14) rfl b _ rfl hR ?_)
        refine (opsMay1_of true y B k d HK HD _ hRi).mono ?_
        rintro e w1 ⟨rfl, b1⟩
        have hb1 := below_in hb b1
        go_wp2
        go_roundw
        case rel => exact ⟨j + 1, by omega, by go_num, hid (by rw [HS.out, hz.out, HD.out]; rfl), hb1⟩
        case measure => simp [intOf]; omega
    · have ej : l.take j = l := List.take_of_length_le (by have := hn.out; omega)
      have hlt2 : ¬ (j : Int) < (n : Int) := by omega
      have HE := hid ej
      clear ej
      go_wp2
      go_ret
      exact ⟨ret_int (idxP_none (by rw [← HE.out]; exact hz.out)).symm, hb⟩

theorem containsO_any (A : Option Addr) (n c : Nat) (l : List Opd) (hn : Hid (l.length = n)) (w : World) (hr : RdO w A c l) :
    Calls Tryz.prog 120 #[.slice A n c, .func (.func 118) #[] #[]] w fun e w' => e = .returned (.bool (decide (0 ≤ idxP mayO l))) ∧ Below w.heap.size w w' := by
  go_enter Tryz.func120, Tryz.ntmps120
  go_wp2_with fail
  refine (indexO_any A n c l hn _ hr).mono ?_
  rintro e w1 ⟨rfl, b1⟩
  go_wp2
  go_ret
  exact ⟨rfl, b1⟩
theorem opsMay_of (q : Bool) (A : Option Addr) (n c : Nat) (l : List Opd) (hn : Hid (l.length = n)) (hq : Hid (opsB l = q)) (w : World) (hr : RdO w A c l) :
    Calls Tryz.prog 67 #[.slice A n c] w fun e w' => e = .returned (.bool q) ∧ Below w.heap.size w w' := by
  have HQ := hid (show decide (0 ≤ idxP mayO l) = !q by rw [idxP_dec, ← hq.out, opsB])
  go_enter Tryz.func67, Tryz.ntmps67
  go_wp2_with fail
  refine (containsO_any A n c l hn _ hr).mono ?_
  rw [HQ.out]
  rintro e w1 ⟨rfl, b1⟩
  go_wp2
  go_ret
  exact ⟨ret_bool (by simp), b1⟩

/-! ### Counts -/
theorem told21_of (q : Bool) (n : Int) (hq : Hid (countB n = q)) (w : World) :
    Calls Tryz.prog 104 #[.int .i64 n] w fun e w' => e = .returned (.bool (!q)) ∧ w = w' := by
  go_enter Tryz.func104, Tryz.ntmps104
  go_wp2_with (go_at_call 75; refine (countMay_of q n hq _).mono ?_; rintro e w' ⟨rfl, rfl⟩)
  go_ret
  exact ⟨rfl, rfl⟩
set_option maxHeartbeats 800000 in
theorem indexN_any (b o n c : Nat) (l : List Int) (hn : Hid (l.length = n)) (hc1 : (n : Int) ≤ c) (hc2 : (c : Int) ≤ 9223372036854775807) (w : World) (hr : ∀ j (h : j < l.length), w.cell? ⟨b, o + j, none⟩ = some (.int .i64 l[j])) :
    Calls Tryz.prog 125 #[.slice (some ⟨b, o, none⟩) n c, .func (.func 104) #[] #[]] w fun e w' => e = .returned (.int .i64 (idxP countB l)) ∧ w = w' := by
  have HR := hid hr
  clear hr
  go_enter Tryz.func125, Tryz.ntmps125
  go_wp2
  go_loop [5, 8] (fun x i => ∃ j : Nat, j ≤ n ∧ i = .int .i64 (j : Int) ∧ Hid ((l.take j).all countB = true)) (fun _ i => n - (intOf i).toNat)
  case atStart => exact ⟨0, by omega, rfl, hid rfl⟩
  case round =>
    obtain ⟨j, hj, rfl, hz⟩ := hrel
    by_cases hlt : j < n
    · have hl := hn.out
      have h1 := HR.out j (by omega)
      have hs := all_take (p := countB) (l := l) (j := j) (by omega)
      have hat := idxP_at (p := countB) (l := l) (j := j) (by omega) hz.out
      generalize l[j]'(by omega) = d at h1 hs hat
      have hlt2 : (j : Int) < (n : Int) := by omega
      have HS := hid hs
      have HA := hid hat
      clear hs hl hat
      cases hd : countB d
      · have HD := hid hd
        clear hd
        go_wp2_with (go_at_call 104; refine (told21_of false d HD _).mono ?_; rintro e w' ⟨rfl, rfl⟩)
        go_ret
        exact ⟨ret_int (HA.out HD.out).1.symm, rfl⟩
      · have HD := hid hd
        clear hd
        go_wp2_with (go_at_call 104; refine (told21_of true d HD _).mono ?_; rintro e w' ⟨rfl, rfl⟩)
        go_round
        case rel => exact ⟨j + 1, by omega, by go_num, hid (by rw [HS.out, hz.out, HD.out]; rfl)⟩
        case measure => simp [intOf]; omega
    · have ej : l.take j = l := List.take_of_length_le (by have := hn.out; omega)
      have hlt2 : ¬ (j : Int) < (n : Int) := by omega
      have HE := hid ej
      clear ej
      go_wp2
      go_ret
      exact ⟨ret_int (idxP_none (by rw [← HE.out]; exact hz.out)).symm, rfl⟩
theorem containsN_of (q : Bool) (b o n c : Nat) (l : List Int) (hn : Hid (l.length = n)) (hq : Hid (l.all countB = q)) (hc1 : (n : Int) ≤ c) (hc2 : (c : Int) ≤ 9223372036854775807) (w : World) (hr : ∀ j (h : j < l.length), w.cell? ⟨b, o + j, none⟩ = some (.int .i64 l[j])) :
    Calls Tryz.prog 105 #[.slice (some ⟨b, o, none⟩) n c, .func (.func 104) #[] #[]] w fun e w' => e = .returned (.bool (!q)) ∧ w = w' := by
  have HQ := hid (show decide (0 ≤ idxP countB l) = !q by rw [idxP_dec, hq.out])
  have HR := hid hr
  clear hr
  go_enter Tryz.func105, Tryz.ntmps105
  go_wp2_with (go_at_call 125; refine (indexN_any b o n c l hn hc1 hc2 _ HR.out).mono ?_; rintro e w' ⟨rfl, rfl⟩)
  go_ret
  exact ⟨ret_bool HQ.out, rfl⟩
end Go.Proofs.YtdhfnacdjjdijaaGreat
