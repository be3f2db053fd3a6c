/-
  The contracts of the functions of layer 4 that only read: Is, ValidRune, wrong, IndexFunc, ContainsFunc, Check (both), head, six.
-/
import Derived.Test.YtbhglgcnoidddaaRows
import Derived.Test.YtbhglgcnoidddaaRow
import Derived.Test.YtbhglgcnoidddaaRunM
import Derived.Outline
import Derived.LoopTactic
import Derived.WalkMore
import Derived.BigQuiet
import Derived.Deep.RegionHeld
namespace Go.Proofs.Ytbhglgcnoidddaa
open Go.RowKit
set_option linter.unusedVariables false

theorem ret_int {k : IntKind} {a b : Int} (h : a = b) : Ending.returned (.int k a) = .returned (.int k b) := by rw [h]
theorem ret_bool {a b : Bool} (h : a = b) : Ending.returned (.bool a) = .returned (.bool b) := by rw [h]
theorem info_u8 : (Try.prog.info? 5).map (fun i => (i.zero, i.size, i.bytes)) = some (some (.int .u8 0), 1, 1) := by kernel_rfl
theorem info_i32 : (Try.prog.info? 21).map (fun i => (i.zero, i.size, i.bytes)) = some (some (.int .i32 0), 1, 4) := by kernel_rfl
theorem rd_string {w : World} {A : Option Addr} {n c : Nat} {l : List UInt8} (hn : Hid (l.length = n)) (h : Rd w A c l) : (convert 44 9 (.slice A n c)).run Try.prog w = .ok (.string ⟨l.toArray⟩) w := by
  have e := hn.out
  subst e
  exact h.str _ _ 5 Try.underlying44 Try.underlying5 Try.underlying9
theorem lit_rd (w : World) (l : List UInt8) (hl : l.length ≤ 1000) : Rd (w.alloc (.cells (u8s l).toArray 5)) (some ⟨w.heap.size, 0, none⟩) l.length l := (Own.lit w 5 l (Nat.le_refl _) hl).rd

/-- The document's Is. -/
theorem is_any (n : Int) (w : World) : Calls Try.prog 72 #[.int .i64 n] w fun e w' => e = .returned (.bool (isR n)) ∧ w = w' := by
  by_cases h0 : 0 ≤ n
  · by_cases h1 : n ≤ 1114111
    · by_cases h2 : n < 55296
      · have H := hid (show isR n = true by simp [isR]; omega)
        go_enter Try.func72, Try.ntmps72
        go_wp2
        go_ret
        exact ⟨ret_bool H.out.symm, rfl⟩
      · by_cases h3 : 57343 < n
        · have H := hid (show isR n = true by simp [isR]; omega)
          go_enter Try.func72, Try.ntmps72
          go_wp2
          go_ret
          exact ⟨ret_bool H.out.symm, rfl⟩
        · have H := hid (show isR n = false by simp [isR]; omega)
          go_enter Try.func72, Try.ntmps72
          go_wp2
          go_ret
          exact ⟨ret_bool H.out.symm, rfl⟩
    · have H := hid (show isR n = false by simp [isR]; omega)
      have h2 : ¬ n < 55296 := by omega
      have h3 : 57343 < n := by omega
      go_enter Try.func72, Try.ntmps72
      go_wp2
      go_ret
      exact ⟨ret_bool H.out.symm, rfl⟩
  · have H := hid (show isR n = false by simp [isR]; omega)
    have h2 : n < 55296 := by omega
    go_enter Try.func72, Try.ntmps72
    go_wp2
    go_ret
    exact ⟨ret_bool H.out.symm, rfl⟩

/-- utf8.ValidRune. -/
theorem valid_any (n : Int) (w : World) : Calls Try.prog 95 #[.int .i32 n] w fun e w' => e = .returned (.bool (isR n)) ∧ w = w' := by
  by_cases h0 : 0 ≤ n
  · by_cases h1 : n ≤ 1114111
    · by_cases h2 : n < 55296
      · have H := hid (show isR n = true by simp [isR]; omega)
        go_enter Try.func95, Try.ntmps95
        go_wp2
        go_ret
        exact ⟨ret_bool H.out.symm, rfl⟩
      · by_cases h3 : 57343 < n
        · have H := hid (show isR n = true by simp [isR]; omega)
          go_enter Try.func95, Try.ntmps95
          go_wp2
          go_ret
          exact ⟨ret_bool H.out.symm, rfl⟩
        · have H := hid (show isR n = false by simp [isR]; omega)
          go_enter Try.func95, Try.ntmps95
          go_wp2
          go_ret
          exact ⟨ret_bool H.out.symm, rfl⟩
    · have H := hid (show isR n = false by simp [isR]; omega)
      have h2 : ¬ n < 55296 := by omega
      have h3 : 57343 < n := by omega
      go_enter Try.func95, Try.ntmps95
      go_wp2
      go_ret
      exact ⟨ret_bool H.out.symm, rfl⟩
  · have H := hid (show isR n = false by simp [isR]; omega)
    have h3 : ¬ 57343 < n := by omega
    go_enter Try.func95, Try.ntmps95
    go_wp2
    go_ret
    exact ⟨ret_bool H.out.symm, rfl⟩

theorem wrong_any (n : Int) (w : World) : Calls Try.prog 91 #[.int .i32 n] w fun e w' => e = .returned (.bool (!okN n)) ∧ w = w' := by
  by_cases h : n = -1
  · subst h
    have H := hid (show okN (-1) = true by decide)
    go_enter Try.func91, Try.ntmps91
    go_wp2
    go_ret
    exact ⟨ret_bool (by rw [H.out]; rfl), rfl⟩
  · have h2 : (n != -1) = true := by simpa using h
    have H := hid (show okN n = isR n by simp [okN, h])
    clear h
    go_enter Try.func91, Try.ntmps91
    go_wp2_with (go_at_call 95; refine (valid_any _ _).mono ?_; rintro e w' ⟨rfl, rfl⟩)
    go_ret
    exact ⟨ret_bool (by rw [H.out]), rfl⟩

/-- Where the first one stands that is wrong. -/
def idxI (l : List Int) : Int := match l.findIdx? (fun n => !okN n) with | some i => (i : Int) | none => -1
theorem idxI_none {l : List Int} (h : l.all okN = true) : idxI l = -1 := by
  have : l.findIdx? (fun n => !okN n) = none := by
    rw [List.findIdx?_eq_none_iff]
    intro x hx
    simp [List.all_eq_true.1 h x hx]
  simp [idxI, this]
theorem idxI_at {l : List Int} {j : Nat} (hj : j < l.length) (h1 : (l.take j).all okN = true) (h2 : okN l[j] = false) : idxI l = (j : Int) ∧ l.all okN = false := by
  have : l.findIdx? (fun n => !okN n) = some j := by
    rw [List.findIdx?_eq_some_iff_getElem]
    refine ⟨hj, by simp [h2], fun i hi => ?_⟩
    have : okN l[i] = true := by
      refine List.all_eq_true.1 h1 _ ?_
      rw [List.mem_iff_getElem]
      exact ⟨i, by rw [List.length_take]; omega, by simp⟩
    simp [this]
  refine ⟨by simp [idxI, this], ?_⟩
  rw [Bool.eq_false_iff]
  intro hh
  rw [List.all_eq_true.1 hh _ (List.getElem_mem hj)] at h2
  cases h2

set_option maxHeartbeats 400000 in
theorem index_any (A : Option Addr) (n c : Nat) (l : List Int) (hn : Hid (l.length = n)) (w : World) (hr : Ri w A c l) :
    Calls Try.prog 94 #[.slice A n c, .func (.func 91) #[] #[]] w fun e w' => e = .returned (.int .i64 (idxI l)) ∧ w = w' := by
  have hc2 : (c : Int) ≤ 9223372036854775807 := by have := hr.cap; omega
  have hc1 : (n : Int) ≤ c := by have := hr.len; have := hn.out; omega
  have HR := hid hr
  clear hr
  go_enter Try.func94, Try.ntmps94
  go_wp2
  go_loop [5, 8] (fun x i => ∃ j : Nat, j ≤ n ∧ i = .int .i64 (j : Int) ∧ Hid ((l.take j).all okN = true)) (fun _ i => n - (intOf i).toNat)
  case atStart => exact ⟨0, by omega, rfl, hid rfl⟩
  case round =>
    obtain ⟨j, hj, rfl, hz⟩ := hrel
    by_cases hlt : j < n
    · have hl := hn.out
      obtain ⟨b, o, rfl, hcell⟩ := HR.out.at_ (by omega)
      have h1 := hcell j (by omega)
      have hs : (l.take (j + 1)).all okN = ((l.take j).all okN && okN (l[j]'(by omega))) := by
        rw [List.take_succ_eq_append_getElem (by omega), List.all_append]
        simp
      have hat := idxI_at (l := l) (j := j) (by omega) hz.out
      generalize l[j]'(by omega) = d at h1 hs hat
      have hlt2 : (j : Int) < (n : Int) := by omega
      have HS := hid hs
      have HA := hid hat
      clear hs hcell hl hat
      cases hd : okN d
      · have HD := hid hd
        go_wp2_with (go_at_call 91; refine (wrong_any _ _).mono ?_; rintro e w' ⟨rfl, rfl⟩)
        go_ret
        exact ⟨ret_int (HA.out HD.out).1.symm, rfl⟩
      · have HD := hid hd
        go_wp2_with (go_at_call 91; refine (wrong_any _ _).mono ?_; rintro e w' ⟨rfl, rfl⟩)
        go_round
        case rel => exact ⟨j + 1, by omega, by go_num, hid (by rw [HS.out, hz.out, HD.out]; rfl)⟩
        case measure => simp [intOf]; omega
    · have ej : l.take j = l := List.take_of_length_le (by have := hn.out; omega)
      have hlt2 : ¬ (j : Int) < (n : Int) := by omega
      have HE := hid ej
      clear ej
      go_wp2
      go_ret
      exact ⟨ret_int (idxI_none (by rw [← HE.out]; exact hz.out)).symm, rfl⟩

theorem contains_any (A : Option Addr) (n c : Nat) (l : List Int) (hn : Hid (l.length = n)) (w : World) (hr : Ri w A c l) :
    Calls Try.prog 90 #[.slice A n c, .func (.func 91) #[] #[]] w fun e w' => e = .returned (.bool (decide (0 ≤ idxI l))) ∧ w = w' := by
  go_enter Try.func90, Try.ntmps90
  go_wp2_with (go_at_call 94; refine (index_any A n c l hn _ hr).mono ?_; rintro e w' ⟨rfl, rfl⟩)
  go_ret
  exact ⟨rfl, rfl⟩
theorem idx_dec (l : List Int) : decide (0 ≤ idxI l) = !(l.all okN) := by
  unfold idxI
  match h : l.findIdx? (fun n => !okN n) with
  | none =>
    rw [List.findIdx?_eq_none_iff] at h
    have : l.all okN = true := List.all_eq_true.2 fun x hx => by simpa using h x hx
    simp [this]
  | some i =>
    rw [List.findIdx?_eq_some_iff_getElem] at h
    obtain ⟨hi, h1, _⟩ := h
    have : l.all okN = false := by
      rw [Bool.eq_false_iff]
      intro hh
      rw [List.all_eq_true.1 hh _ (List.getElem_mem hi)] at h1
      cases h1
    simp [this]

set_option maxHeartbeats 400000 in
theorem check_of (z : Int) (A : Option Addr) (n c : Nat) (l : List Int) (hn : Hid (l.length = n)) (hz : Hid (chk l = z)) (w : World) (hr : Ri w A c l) :
    Calls Try.prog 82 #[.slice A n c] w fun e w' => e = .returned (.int .i64 z) ∧ w = w' := by
  by_cases hb : 64 < n
  · have hb2 : (64 : Int) < n := by omega
    have H := hid (show z = 4 by rw [← hz.out]; exact chk_many (by rw [hn.out]; exact hb))
    go_enter Try.func82, Try.ntmps82
    go_wp2
    go_ret
    exact ⟨ret_int H.out.symm, rfl⟩
  · have hb2 : ¬ (64 : Int) < n := by omega
    have hb3 : ¬ 64 < l.length := by rw [hn.out]; exact hb
    have hi := idx_dec l
    cases h : l.all okN
    · have H := hid (show z = 8 by rw [← hz.out]; exact chk_bad hb3 h)
      rw [h] at hi
      clear h hb hb3
      go_enter Try.func82, Try.ntmps82
      go_wp2_with (go_at_call 90; refine (contains_any A n c l hn _ hr).mono ?_; rintro e w' ⟨rfl, rfl⟩)
      go_ret
      exact ⟨ret_int H.out.symm, rfl⟩
    · have H := hid (show z = 0 by rw [← hz.out]; exact chk_ok hb3 h)
      rw [h] at hi
      clear h hb hb3
      go_enter Try.func82, Try.ntmps82
      go_wp2_with (go_at_call 90; refine (contains_any A n c l hn _ hr).mono ?_; rintro e w' ⟨rfl, rfl⟩)
      go_ret
      exact ⟨ret_int H.out.symm, rfl⟩
end Go.Proofs.Ytbhglgcnoidddaa
