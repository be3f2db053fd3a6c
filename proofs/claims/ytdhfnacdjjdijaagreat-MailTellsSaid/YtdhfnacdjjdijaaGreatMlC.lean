/-
  Operations of mail: their bytes; two rows of them compared; mail compared.
-/
import Derived.Test.YtdhfnacdjjdijaaGreatMlA
import Derived.Test.YtdhfnacdjjdijaaGreatON
namespace Go.Proofs.YtdhfnacdjjdijaaGreat
open Go.RowKit
set_option linter.unusedVariables false
set_option linter.unusedSimpArgs false

/-- Where the first one stands that may not be. -/
def idxP {α : Type} (p : α → Bool) (l : List α) : Int := match l.findIdx? (fun n => !p n) with | some i => (i : Int) | none => -1
section
variable {α : Type} {p : α → Bool}
theorem idxP_none {l : List α} (h : l.all p = true) : idxP p l = -1 := by
  have : l.findIdx? (fun n => !p n) = none := by
    rw [List.findIdx?_eq_none_iff]
    intro x hx
    simp [List.all_eq_true.1 h x hx]
  simp [idxP, this]
theorem idxP_at {l : List α} {j : Nat} (hj : j < l.length) (h1 : (l.take j).all p = true) (h2 : p l[j] = false) : idxP p l = (j : Int) ∧ l.all p = false := by
  have : l.findIdx? (fun n => !p n) = some j := by
    rw [List.findIdx?_eq_some_iff_getElem]
    refine ⟨hj, by simp [h2], fun i hi => ?_⟩
    have : p l[i] = true := by
      refine List.all_eq_true.1 h1 _ ?_
      rw [List.mem_iff_getElem]
      exact ⟨i, by rw [List.length_take]; omega, by simp⟩
    simp [this]
  refine ⟨by simp [idxP, this], ?_⟩
  rw [Bool.eq_false_iff]
  intro hh
  rw [List.all_eq_true.1 hh _ (List.getElem_mem hj)] at h2
  cases h2
theorem idxP_dec (l : List α) : decide (0 ≤ idxP p l) = !(l.all p) := by
  cases h : l.all p
  · have h' : ∃ x ∈ l, p x = false := by
      have := Bool.eq_false_iff.1 h
      rw [ne_eq, List.all_eq_true] at this
      simpa using this
    match hf : l.findIdx? (fun n => !p n) with
    | some i => simp [idxP, hf]
    | none =>
      rw [List.findIdx?_eq_none_iff] at hf
      obtain ⟨x, hx, hpx⟩ := h'
      have := hf x hx
      rw [hpx] at this
      cases this
  · rw [idxP_none h]; rfl
theorem all_take {l : List α} {j : Nat} (hj : j < l.length) : (l.take (j + 1)).all p = ((l.take j).all p && p l[j]) := by
  rw [List.take_succ_eq_append_getElem hj, List.all_append]
  simp
end

set_option maxHeartbeats 400000 in
theorem opsMay1_of (q : Bool) (o : Opd) (A : Option Addr) (n c : Nat) (hn : Hid (o.row.length = n)) (hq : Hid (mayO o = q)) (w : World) (hr : Ri w A c o.row) :
    Calls Tryz.prog 118 #[.agg #[.int .u8 o.kd, .int .u8 o.l, .int .u32 o.c, .int .u8 o.k, .int .i64 o.s, .int .u8 o.fl, .int .u32 o.fc, .int .u8 o.fk, .int .i64 o.fn, .int .i64 o.fm, .int .u8 o.al, .int .u32 o.ac, .int .u8 o.ak, .int .i64 o.an, .int .u8 o.tl, .int .u32 o.tc, .slice A n c]] w fun e w' => e = .returned (.bool (!q)) ∧ Below w.heap.size w w' := by
  have bx := boxO_new w o A n c 58
  cases q
  · have HJ := hid (show er (mayO o) = 8 by rw [hq.out]; rfl)
    go_enter Tryz.func118, Tryz.ntmps118
    go_wp2_with (refine wpList_load_o rfl (.tmp 1) rfl _ rfl bx ?_)
    refine (ocheck_of 8 o A n c hn HJ _ (hr.alloc _)).mono ?_
    rintro e W ⟨rfl, b1⟩
    have hb := past_alloc b1
    go_wp2
    go_ret
    exact ⟨rfl, hb⟩
  · have HJ := hid (show er (mayO o) = 0 by rw [hq.out]; rfl)
    go_enter Tryz.func118, Tryz.ntmps118
    go_wp2_with (refine wpList_load_o rfl (.tmp 1) rfl _ rfl bx ?_)
    refine (ocheck_of 0 o A n c hn HJ _ (hr.alloc _)).mono ?_
    rintro e W ⟨rfl, b1⟩
    have hb := past_alloc b1
    go_wp2
    go_ret
    exact ⟨rfl, hb⟩

set_option maxHeartbeats 800000 in
theorem indexO_any (A : Option Addr) (n c : Nat) (l : List Opd) (hn : Hid (l.length = n)) (w : World) (hr : RdO w A c l) :
    Calls Tryz.prog 135 #[.slice A n c, .func (.func 118) #[] #[]] w fun e w' => e = .returned (.int .i64 (idxP mayO l)) ∧ Below w.heap.size w w' := by
  have hc2 : (c : Int) ≤ 9223372036854775807 := by have := hr.cap; omega
  have hc1 : (n : Int) ≤ c := by have := hr.len; have := hn.out; omega
  go_enter Tryz.func135, Tryz.ntmps135
  go_wp2
  go_loopw [5, 8] (fun x i wr => ∃ j : Nat, j ≤ n ∧ i = .int .i64 (j : Int) ∧ Hid ((l.take j).all mayO = true) ∧ Below w.heap.size w wr) (fun _ i _ => n - (intOf i).toNat)
  case atStart => exact ⟨0, by omega, rfl, hid rfl, Below.refl _ _⟩
  case round =>
    obtain ⟨j, hj, rfl, hz, hb⟩ := hrel
    by_cases hlt : j < n
    · have hl := hn.out
      obtain ⟨b, o, rfl, hcell⟩ := (hr.keep hb).at_ (by omega)
      obtain ⟨B, d, hR, hRi⟩ := hcell j (by omega)
      have hs := all_take (p := mayO) (l := l) (j := j) (by omega)
      have hat := idxP_at (p := mayO) (l := l) (j := j) (by omega) hz.out
      generalize l[j]'(by omega) = y at hR hRi hs hat
      obtain ⟨k, hk⟩ : ∃ k, y.row.length = k := ⟨_, rfl⟩
      rw [hk] at hR
      have HK := hid hk
      have hlt2 : (j : Int) < (n : Int) := by omega
      have HS := hid hs
      have HA := hid hat
      clear hs hcell hl hat hk
      cases hd : mayO y
      · have HD := hid hd
        clear hd
        go_wp2_with (refine wpList_load_e rfl (.tmp 14) rfl b _ rfl hR ?_)
        refine (opsMay1_of false y B k d HK HD _ hRi).mono ?_
        rintro e w1 ⟨rfl, b1⟩
        have hb1 := below_in hb b1
        go_wp2
        go_ret
        exact ⟨ret_int (HA.out HD.out).1.symm, hb1⟩
      · have HD := hid hd
        clear hd
        go_wp2_with (refine wpList_load_e rfl (.tmp 14) rfl b _ rfl hR ?_)
        refine (opsMay1_of true y B k d HK HD _ hRi).mono ?_
        rintro e w1 ⟨rfl, b1⟩
        have hb1 := below_in hb b1
        go_wp2
        go_roundw
        case rel => exact ⟨j + 1, by omega, by go_num, hid (by rw [HS.out, hz.out, HD.out]; rfl), hb1⟩
        case measure => simp [intOf]; omega
    · have ej : l.take j = l := List.take_of_length_le (by have := hn.out; omega)
      have hlt2 : ¬ (j : Int) < (n : Int) := by omega
      have HE := hid ej
      clear ej
      go_wp2
      go_ret
      exact ⟨ret_int (idxP_none (by rw [← HE.out]; exact hz.out)).symm, hb⟩

theorem containsO_any (A : Option Addr) (n c : Nat) (l : List Opd) (hn : Hid (l.length = n)) (w : World) (hr : RdO w A c l) :
    Calls Tryz.prog 120 #[.slice A n c, .func (.func 118) #[] #[]] w fun e w' => e = .returned (.bool (decide (0 ≤ idxP mayO l))) ∧ Below w.heap.size w w' := by
  go_enter Tryz.func120, Tryz.ntmps120
  go_wp2_with fail
  refine (indexO_any A n c l hn _ hr).mono ?_
  rintro e w1 ⟨rfl, b1⟩
  go_wp2
  go_ret
  exact ⟨rfl, b1⟩
theorem opsMay_of (q : Bool) (A : Option Addr) (n c : Nat) (l : List Opd) (hn : Hid (l.length = n)) (hq : Hid (opsB l = q)) (w : World) (hr : RdO w A c l) :
    Calls Tryz.prog 67 #[.slice A n c] w fun e w' => e = .returned (.bool q) ∧ Below w.heap.size w w' := by
  have HQ := hid (show decide (0 ≤ idxP mayO l) = !q by rw [idxP_dec, ← hq.out, opsB])
  go_enter Tryz.func67, Tryz.ntmps67
  go_wp2_with fail
  refine (containsO_any A n c l hn _ hr).mono ?_
  rw [HQ.out]
  rintro e w1 ⟨rfl, b1⟩
  go_wp2
  go_ret
  exact ⟨ret_bool (by simp), b1⟩

/-! ### Counts -/
theorem told21_of (q : Bool) (n : Int) (hq : Hid (countB n = q)) (w : World) :
    Calls Tryz.prog 104 #[.int .i64 n] w fun e w' => e = .returned (.bool (!q)) ∧ w = w' := by
  go_enter Tryz.func104, Tryz.ntmps104
  go_wp2_with (go_at_call 75; refine (countMay_of q n hq _).mono ?_; rintro e w' ⟨rfl, rfl⟩)
  go_ret
  exact ⟨rfl, rfl⟩
set_option maxHeartbeats 800000 in
theorem indexN_any (b o n c : Nat) (l : List Int) (hn : Hid (l.length = n)) (hc1 : (n : Int) ≤ c) (hc2 : (c : Int) ≤ 9223372036854775807) (w : World) (hr : ∀ j (h : j < l.length), w.cell? ⟨b, o + j, none⟩ = some (.int .i64 l[j])) :
    Calls Tryz.prog 125 #[.slice (some ⟨b, o, none⟩) n c, .func (.func 104) #[] #[]] w fun e w' => e = .returned (.int .i64 (idxP countB l)) ∧ w = w' := by
  have HR := hid hr
  clear hr
  go_enter Tryz.func125, Tryz.ntmps125
  go_wp2
  go_loop [5, 8] (fun x i => ∃ j : Nat, j ≤ n ∧ i = .int .i64 (j : Int) ∧ Hid ((l.take j).all countB = true)) (fun _ i => n - (intOf i).toNat)
  case atStart => exact ⟨0, by omega, rfl, hid rfl⟩
  case round =>
    obtain ⟨j, hj, rfl, hz⟩ := hrel
    by_cases hlt : j < n
    · have hl := hn.out
      have h1 := HR.out j (by omega)
      have hs := all_take (p := countB) (l := l) (j := j) (by omega)
      have hat := idxP_at (p := countB) (l := l) (j := j) (by omega) hz.out
      generalize l[j]'(by omega) = d at h1 hs hat
      have hlt2 : (j : Int) < (n : Int) := by omega
      have HS := hid hs
      have HA := hid hat
      clear hs hl hat
      cases hd : countB d
      · have HD := hid hd
        clear hd
        go_wp2_with (go_at_call 104; refine (told21_of false d HD _).mono ?_; rintro e w' ⟨rfl, rfl⟩)
        go_ret
        exact ⟨ret_int (HA.out HD.out).1.symm, rfl⟩
      · have HD := hid hd
        clear hd
        go_wp2_with (go_at_call 104; refine (told21_of true d HD _).mono ?_; rintro e w' ⟨rfl, rfl⟩)
        go_round
        case rel => exact ⟨j + 1, by omega, by go_num, hid (by rw [HS.out, hz.out, HD.out]; rfl)⟩
        case measure => simp [intOf]; omega
    · have ej : l.take j = l := List.take_of_length_le (by have := hn.out; omega)
      have hlt2 : ¬ (j : Int) < (n : Int) := by omega
      have HE := hid ej
      clear ej
      go_wp2
      go_ret
      exact ⟨ret_int (idxP_none (by rw [← HE.out]; exact hz.out)).symm, rfl⟩
theorem containsN_of (q : Bool) (b o n c : Nat) (l : List Int) (hn : Hid (l.length = n)) (hq : Hid (l.all countB = q)) (hc1 : (n : Int) ≤ c) (hc2 : (c : Int) ≤ 9223372036854775807) (w : World) (hr : ∀ j (h : j < l.length), w.cell? ⟨b, o + j, none⟩ = some (.int .i64 l[j])) :
    Calls Tryz.prog 105 #[.slice (some ⟨b, o, none⟩) n c, .func (.func 104) #[] #[]] w fun e w' => e = .returned (.bool (!q)) ∧ w = w' := by
  have HQ := hid (show decide (0 ≤ idxP countB l) = !q by rw [idxP_dec, hq.out])
  have HR := hid hr
  clear hr
  go_enter Tryz.func105, Tryz.ntmps105
  go_wp2_with (go_at_call 125; refine (indexN_any b o n c l hn hc1 hc2 _ HR.out).mono ?_; rintro e w' ⟨rfl, rfl⟩)
  go_ret
  exact ⟨ret_bool HQ.out, rfl⟩
end Go.Proofs.YtdhfnacdjjdijaaGreat

namespace Go.Proofs.YtdhfnacdjjdijaaGreat
open Go.RowKit
set_option linter.unusedVariables false
set_option linter.unusedSimpArgs false

set_option maxRecDepth 100000 in
set_option maxHeartbeats 1600000 in
theorem opsBytes_of (m : Nat) (A : Option Addr) (n c : Nat) (l : List Opd) (hn : Hid (l.length = n)) (h3 : n ≤ 3) (hr0 : ∀ o ∈ l, Opr o) (hm : opsB l = true) (hl : Hid ((opsb l).length = m)) (w : World) (hr : RdO w A c l) :
    Calls Tryz.prog 70 #[.slice A n c] w fun e w' => ∃ A' c', e = .returned (.slice A' m c') ∧ Own w' w.heap.size 5 A' c' (opsb l) ∧ Below w.heap.size w w' := by
  obtain ⟨i0, hi0, hz0, hz1, hz2⟩ := info_parts info_u8
  have hc2 : (c : Int) ≤ 9223372036854775807 := by have := hr.cap; omega
  have hc1 : (n : Int) ≤ c := by have := hr.len; have := hn.out; omega
  have HM := hid hm
  have HR0 := hid hr0
  have HR := hid hr
  clear hm hr0 hr
  go_enter Tryz.func70, Tryz.ntmps70
  go_wp2
  go_loopw [3, 5, 6, 7, 10] (fun v _ _ _ i wr => ∃ (j : Nat) (A' : Option Addr) (c' k : Nat), j ≤ n ∧ i = .int .i64 (j : Int) ∧ v = .slice A' k c' ∧ Hid ((opsb (l.take j)).length = k) ∧ Own wr w.heap.size 5 A' c' (opsb (l.take j)) ∧ Below w.heap.size w wr) (fun _ _ _ _ i _ => n - (intOf i).toNat)
  case atStart => exact ⟨0, none, 0, 0, by omega, rfl, rfl, hid rfl, Own.nil _ _ _, Below.refl _ _⟩
  case round =>
    obtain ⟨j, A', c', k, hj, rfl, rfl, hk, ho, hb⟩ := hrel
    by_cases hlt : j < n
    · have hln := hn.out
      have hk9 : k ≤ 900 := by
        have h1 : opsB (l.take j) = true := by
          rw [opsB, List.all_eq_true]
          exact fun x hx => List.all_eq_true.1 HM.out x (List.mem_of_mem_take hx)
        have := opsb_le h1
        have h2 : (l.take j).length ≤ j := List.length_take_le _ _
        have := hk.out
        omega
      obtain ⟨b, o, rfl, hcell⟩ := (HR.out.keep hb).at_ (by omega)
      obtain ⟨B, d, hR, hRi⟩ := hcell j (by omega)
      have hs := opsb_take l j (by omega)
      have hmj := opsB_at HM.out (j := j) (by omega)
      have hrj := HR0.out _ (List.getElem_mem (l := l) (n := j) (by omega))
      generalize l[j]'(by omega) = y at hR hRi hs hmj hrj
      obtain ⟨q, hq⟩ : ∃ q, y.row.length = q := ⟨_, rfl⟩
      obtain ⟨p, hp⟩ : ∃ p, (opb y).length = p := ⟨_, rfl⟩
      have hp9 : p ≤ 293 := by rw [← hp]; exact (opb_length hmj).2.2.1
      rw [hq] at hR
      have HK := hid hq
      have HP := hid hp
      have HS := hid hs
      have hlt2 : (j : Int) < (n : Int) := by omega
      have HMJ := hid hmj
      have th := thereO_new wr #[.int .u8 0, .int .u8 0, .int .u32 0, .int .u8 0, .int .i64 0, .int .u8 0, .int .u32 0, .int .u8 0, .int .i64 0, .int .i64 0, .int .u8 0, .int .u32 0, .int .u8 0, .int .i64 0, .int .u8 0, .int .u32 0, .slice none 0 0] rfl 58
      clear hs hcell hln hq hp hmj
      go_wp2_with (first
        | (refine wpList_load_e rfl (.tmp 12) rfl b _ rfl hR ?_)
        | (refine wpList_store_o rfl (.tmp 5) (.tmp 13) rfl wr.heap.size rfl y B q d rfl th wr.heap.size (Nat.le_refl _) ?_; intro w2 bx2 th2 b2 hh2 sz2)
        | (refine wpList_load_o rfl (.tmp 5) rfl _ rfl bx2 ?_))
      have b02 : Below wr.heap.size wr w2 := ((Below.refl _ _).alloc (Nat.le_refl _) _).trans b2
      refine (oput_yes p y B q d HK hrj HMJ.out HP _ (hRi.keep b02)).mono ?_
      rintro e w3 ⟨A3, c3, rfl, hr3, b3⟩
      have b03 := below_in b02 b3
      have ho3 := ho.keep b03
      have hb3 := below_in hb b03
      have hsz := hb3.size
      clear th th2 bx2 b2 hh2 sz2 b02 b3 hR hRi ho
      go_wp2_with (at_builtin; refine wpList_append_rd rfl (.tmp 19) (.tmp 20) _ rfl w.heap.size 5 Tryz.underlying32 hi0 hz0 hz1 hz2 A' k c' (opsb (l.take j)) hk rfl ho3 A3 p c3 (opb y) HP rfl hr3 (by omega) hsz ?_; intro A4 c4 w4 ho4 b4)
      go_roundw
      case rel => exact ⟨j + 1, A4, c4, k + p, by omega, by go_num, rfl, hid (by rw [HS.out, List.length_append, hk.out, HP.out]), by rw [HS.out]; exact ho4, hb3.trans b4⟩
      case measure => simp [intOf]; omega
    · have ej : l.take j = l := List.take_of_length_le (by have := hn.out; omega)
      have hlt2 : ¬ (j : Int) < (n : Int) := by omega
      rw [ej] at hk ho
      have ek : k = m := hk.out.symm.trans hl.out
      subst ek
      clear ej
      go_wp2
      go_ret
      exact ⟨A', c', rfl, ho, hb⟩

set_option maxRecDepth 100000 in
set_option maxHeartbeats 1600000 in
theorem equalO_of (q : Bool) (A : Option Addr) (n c : Nat) (l : List Opd) (hn : Hid (l.length = n)) (B : Option Addr) (m d : Nat) (l2 : List Opd) (hm : Hid (l2.length = m)) (hq : Hid (sameOs l l2 = q)) (w : World) (hr : RdO w A c l) (hs : RdO w B d l2) :
    Calls Tryz.prog 36 #[.slice A n c, .slice B m d, .func (.func 37) #[] #[]] w fun e w' => e = .returned (.bool q) ∧ Below w.heap.size w w' := by
  have hc2 : (c : Int) ≤ 9223372036854775807 := by have := hr.cap; omega
  have hc1 : (n : Int) ≤ c := by have := hr.len; have := hn.out; omega
  have hd2 : (d : Int) ≤ 9223372036854775807 := by have := hs.cap; omega
  have hd1 : (m : Int) ≤ d := by have := hs.len; have := hm.out; omega
  by_cases hnm : n = m
  · subst hnm
    have HR := hid hr
    have HT := hid hs
    clear hr hs
    go_enter Tryz.func36, Tryz.ntmps36
    go_wp2
    go_loopw [7, 8, 9, 17] (fun _ _ _ i wr => ∃ (j : Nat), j ≤ n ∧ i = .int .i64 (j : Int) ∧ Hid (∀ i (h1 : i < l.length) (h2 : i < l2.length), i < j → sameO l[i] l2[i] = true) ∧ Below w.heap.size w wr) (fun _ _ _ i _ => n - (intOf i).toNat)
    case atStart => exact ⟨0, by omega, rfl, hid (fun i _ _ h => absurd h (by omega)), Below.refl _ _⟩
    case round =>
      obtain ⟨j, hj, rfl, hz, hb⟩ := hrel
      by_cases hlt : j < n
      · have hln := hn.out
        have hlm := hm.out
        obtain ⟨b, o, rfl, hcell⟩ := (HR.out.keep hb).at_ (by omega)
        obtain ⟨b', o', rfl, hcell'⟩ := (HT.out.keep hb).at_ (by omega)
        obtain ⟨X, x, hR, hRi⟩ := hcell j (by omega)
        obtain ⟨Y, y, hS, hSi⟩ := hcell' j (by omega)
        have hat : ∀ h1 : j < l.length, ∀ h2 : j < l2.length, sameO l[j] l2[j] = false → sameOs l l2 = false := fun h1 h2 h => sameOs_at h1 h2 h
        have hz' := fun v (hv : ∀ (h1 : j < l.length) (h2 : j < l2.length), sameO l[j] l2[j] = v) => hv (by omega) (by omega)
        obtain ⟨v, hv⟩ : ∃ v, sameO (l[j]'(by omega)) (l2[j]'(by omega)) = v := ⟨_, rfl⟩
        have HAT := hid (fun (h : v = false) => hat (by omega) (by omega) (by rw [hv, h]))
        have HZ := hid (fun (h : v = true) => (show ∀ i (h1 : i < l.length) (h2 : i < l2.length), i < j + 1 → sameO l[i] l2[i] = true from fun i h1 h2 hi => by
          by_cases e : i = j
          · subst e; rw [hv, h]
          · exact hz.out i h1 h2 (by omega)))
        generalize l[j]'(by omega) = p at hR hRi hv
        generalize l2[j]'(by omega) = r at hS hSi hv
        obtain ⟨k, hk⟩ : ∃ k, p.row.length = k := ⟨_, rfl⟩
        obtain ⟨k', hk'⟩ : ∃ k, r.row.length = k := ⟨_, rfl⟩
        rw [hk] at hR
        rw [hk'] at hS
        have HK := hid hk
        have HK' := hid hk'
        have HV := hid hv
        have hlt2 : (j : Int) < (n : Int) := by omega
        have th := thereO_new wr #[.int .u8 0, .int .u8 0, .int .u32 0, .int .u8 0, .int .i64 0, .int .u8 0, .int .u32 0, .int .u8 0, .int .i64 0, .int .i64 0, .int .u8 0, .int .u32 0, .int .u8 0, .int .i64 0, .int .u8 0, .int .u32 0, .slice none 0 0] rfl 58
        clear hat hz' hcell hcell' hln hlm hk hk' hv
        have one : True := trivial
        go_wp2_with (first
          | (refine wpList_load_e rfl (.tmp 20) rfl b _ rfl hR ?_)
          | (clear one; refine wpList_store_o rfl (.tmp 8) (.tmp 21) rfl wr.heap.size rfl p X k x rfl th wr.heap.size (Nat.le_refl _) ?_; intro w2 bx2 th2 b2 hh2 sz2; clear sz2 hh2; have b02 : Below wr.heap.size wr w2 := ((Below.refl _ _).alloc (Nat.le_refl _) _).trans b2; have hS2 := range_keep hS b02; have th3 := thereO_new w2 #[.int .u8 0, .int .u8 0, .int .u32 0, .int .u8 0, .int .i64 0, .int .u8 0, .int .u32 0, .int .u8 0, .int .i64 0, .int .i64 0, .int .u8 0, .int .u32 0, .int .u8 0, .int .i64 0, .int .u8 0, .int .u32 0, .slice none 0 0] rfl 58; have bx3 := bx2.keep (past_alloc (o := .cells #[.int .u8 0, .int .u8 0, .int .u32 0, .int .u8 0, .int .i64 0, .int .u8 0, .int .u32 0, .int .u8 0, .int .i64 0, .int .i64 0, .int .u8 0, .int .u32 0, .int .u8 0, .int .i64 0, .int .u8 0, .int .u32 0, .slice none 0 0] 58) (Below.refl _ _)))
          | (refine wpList_load_e rfl (.tmp 24) rfl b' _ rfl hS2 ?_)
          | (refine wpList_store_o rfl (.tmp 9) (.tmp 25) rfl w2.heap.size rfl r Y k' y rfl th3 w2.heap.size (Nat.le_refl _) ?_; intro w4 bx4 th4 b4 hh4 sz4; clear sz4 hh4; have b24 : Below w2.heap.size w2 w4 := ((Below.refl _ _).alloc (Nat.le_refl _) _).trans b4; have bx5 := bx2.keep b24)
          | (refine wpList_load_o rfl (.tmp 8) rfl _ rfl bx5 ?_)
          | (refine wpList_load_o rfl (.tmp 9) rfl _ rfl bx4 ?_))
        have b04 := below_in b02 b24
        refine (osame_of v p X k x HK r Y k' y HK' HV _ (hRi.keep b04) (hSi.keep b04)).mono ?_
        rintro e w5 ⟨rfl, b5⟩
        have hb5 := below_in hb (below_in b04 b5)
        clear th th2 th3 th4 bx2 bx3 bx4 bx5 b2 b4 b5 b02 b24 b04 hR hS hS2 hRi hSi
        cases v
        · have HX := hid (show false = q by rw [← hq.out, HAT.out rfl])
          clear HAT HZ
          go_wp2
          go_ret
          exact ⟨ret_bool HX.out, hb5⟩
        · have HX := hid (HZ.out rfl)
          clear HAT HZ
          go_wp2
          go_roundw
          case rel => exact ⟨j + 1, by omega, by go_num, HX, hb5⟩
          case measure => simp [intOf]; omega
      · have hlt2 : ¬ (j : Int) < (n : Int) := by omega
        have HE := hid (show sameOs l l2 = true from sameOs_all (by rw [hn.out, hm.out]) fun i h1 h2 => hz.out i h1 h2 (by have := hn.out; omega))
        go_wp2
        go_ret
        exact ⟨ret_bool (by rw [← hq.out, HE.out]), hb⟩
  · have h1 : ((n : Int) != (m : Int)) = true := by simpa using (show ¬ (n : Int) = m by omega)
    have HQ := hid (show q = false by rw [← hq.out]; exact sameOs_len (by rw [hn.out, hm.out]; exact hnm))
    clear hnm hq hr hs
    go_enter Tryz.func36, Tryz.ntmps36
    go_wp2
    go_ret
    exact ⟨ret_bool HQ.out.symm, Below.refl _ _⟩
end Go.Proofs.YtdhfnacdjjdijaaGreat
