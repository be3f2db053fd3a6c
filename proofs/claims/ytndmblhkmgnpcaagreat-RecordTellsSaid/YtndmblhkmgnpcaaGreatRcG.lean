/-
  The document's own answers of layer 11: the bytes behind blocks' heads; blocks compared; blocks that are more than statements go through.
-/
import Derived.Test.YtndmblhkmgnpcaaGreatRcF
namespace Go.Proofs.YtndmblhkmgnpcaaGreat
open Go.RowKit
set_option linter.unusedVariables false
set_option linter.unusedSimpArgs false

def textB (L : List (List UInt8)) : List UInt8 := if (L.all fun x => x.length == 128) = true then textOf L else []
theorem textB_bad {L : List (List UInt8)} {j : Nat} (hj : j < L.length) (h : L[j].length ≠ 128) : textB L = [] := by
  rw [textB, if_neg]
  intro ha
  rw [List.all_eq_true] at ha
  have := ha L[j] (List.getElem_mem hj)
  simp at this
  exact h this
theorem textB_all {L : List (List UInt8)} (h : ∀ i (hi : i < L.length), L[i].length = 128) : textB L = textOf L := by
  rw [textB, if_pos]
  rw [List.all_eq_true]
  intro x hx
  obtain ⟨i, hi, rfl⟩ := List.getElem_of_mem hx
  simpa using h i hi
theorem textOf_step (L : List (List UInt8)) (j : Nat) (hj : j < L.length) : textOf (L.take (j + 1)) = textOf (L.take j) ++ L[j].drop 9 := by
  rw [List.take_succ_eq_append_getElem hj, textOf, List.map_append, List.flatten_append]
  simp [textOf]
theorem textOf_le : ∀ (L : List (List UInt8)), (∀ i (hi : i < L.length), L[i].length = 128) → (textOf L).length = L.length * 119
  | [], _ => rfl
  | x :: L, h => by
    have h0 := h 0 (by simp)
    have h1 := textOf_le L fun i hi => h (i + 1) (by simpa using hi)
    simp only [textOf, List.map_cons, List.flatten_cons, List.length_append, List.length_drop, List.length_cons] at *
    simp only [List.getElem_cons_zero] at h0
    rw [h1, h0]
    omega

set_option maxRecDepth 100000 in
set_option maxHeartbeats 3200000 in
theorem rtext_of (m : Nat) (L : List (List UInt8)) (A : Option Addr) (n c : Nat) (hn : Hid (L.length = n)) (h5 : n ≤ 500) (hm : Hid ((textB L).length = m)) (w : World) (hr : RdB w A c L) :
    Calls Tryz.prog 46 #[.slice A n c] w fun e w' => ∃ A' c', e = .returned (.slice A' m c') ∧ Own w' w.heap.size 5 A' c' (textB L) ∧ Below w.heap.size w w' := by
  obtain ⟨i0, hi0, hz0, hz1, hz2⟩ := info_parts info_u8
  have hc2 : (c : Int) ≤ 9223372036854775807 := by have := hr.cap; omega
  have hc1 : (n : Int) ≤ c := by have := hr.len; have := hn.out; omega
  have HR := hid hr
  clear hr
  go_enter Tryz.func46, Tryz.ntmps46
  go_wp2
  go_loopw [3, 4] (fun v i wr => ∃ (j : Nat) (A' : Option Addr) (n' c' : Nat), j ≤ n ∧ v = .slice A' n' c' ∧ i = .int .i64 (j : Int) ∧ Hid ((textOf (L.take j)).length = n') ∧ Hid (∀ i (hi : i < L.length), i < j → L[i].length = 128) ∧ n' = j * 119 ∧ Own wr w.heap.size 5 A' c' (textOf (L.take j)) ∧ Below w.heap.size w wr) (fun _ i _ => n - (intOf i).toNat)
  case atStart => exact ⟨0, none, 0, 0, by omega, rfl, rfl, hid rfl, hid (fun i _ h => absurd h (by omega)), rfl, Own.nil _ _ _, Below.refl _ _⟩
  case round =>
    obtain ⟨j, A', n', c', hj, rfl, rfl, hnn, hall, hn9, ho, hb⟩ := hrel
    by_cases hjn : j < n
    · have hlt2 : (j : Int) < (n : Int) := by omega
      have hjl : j < L.length := by rw [hn.out]; exact hjn
      obtain ⟨b, o, rfl, hcell⟩ := (HR.out.keep hb).at_ (by omega)
      obtain ⟨B, d, hc, hB⟩ := hcell j hjl
      have hst := textOf_step L j hjl
      have hbad := fun h => textB_bad (L := L) (j := j) hjl h
      obtain ⟨la, hla⟩ : ∃ l, L[j] = l := ⟨_, rfl⟩
      rw [hla] at hc hB hst hbad
      obtain ⟨p, hp⟩ : ∃ p, la.length = p := ⟨_, rfl⟩
      rw [hp] at hc hbad
      by_cases h8 : p = 128
      · subst h8
        obtain ⟨D, hrun, hD⟩ := cut_from hB hp 9 119 9 rfl rfl
        have HST := hid hst
        have HALL := hid (show ∀ i (hi : i < L.length), i < j + 1 → L[i].length = 128 from fun i hi h => by
          rcases Nat.lt_or_ge i j with h1 | h1
          · exact hall.out i hi h1
          · obtain rfl : i = j := by omega
            rw [hla]; exact hp)
        have HL9 := hid (show (la.drop 9).length = 119 by rw [List.length_drop, hp])
        have hn2 := hid (show (textOf (L.take (j + 1))).length = n' + 119 by rw [hst, List.length_append, hnn.out, HL9.out])
        clear hcell hall hp hB hbad hst hla hjl
        go_wp2_with (at_builtin; refine wpList_append_rd rfl (.tmp 17) (.tmp 22) _ rfl w.heap.size 5 Tryz.underlying51 hi0 hz0 hz1 hz2 A' n' c' (textOf (L.take j)) hnn rfl ho D 119 (d - 9) (la.drop 9) HL9 rfl hD (by omega) hb.size ?_; intro A2 c2 w2 ho2 b2)
        rw [← HST.out] at ho2
        have hb2 := hb.trans b2
        clear ho hb b2 hrun hD hc
        go_roundw
        case rel => exact ⟨j + 1, A2, n' + 119, c2, by omega, by rw [hn9], by go_num, hn2, HALL, by omega, ho2, hb2⟩
        case measure => simp [intOf]; omega
      · have d1 : ((p : Int) == 128) = false := by simpa using (show ¬ (p : Int) = 128 by omega)
        have HE := hid (hbad h8)
        have hm0 := hm.out
        rw [HE.out] at hm0
        simp only [List.length_nil] at hm0
        subst hm0
        clear hcell hall hp hB hbad hst hla hjl
        go_wp2
        go_ret
        exact ⟨none, 0, rfl, by rw [HE.out]; exact Own.nil _ _ _, hb⟩
    · have hlt2 : ¬ (j : Int) < (n : Int) := by omega
      have ej : j = n := by omega
      subst ej
      have HE := hid (show textB L = textOf (L.take j) by rw [textB_all (fun i hi => hall.out i hi (by have := hn.out; omega)), List.take_of_length_le (by have := hn.out; omega)])
      have e : n' = m := by rw [← hnn.out, ← HE.out]; exact hm.out
      subst e
      clear hall
      go_wp2
      go_ret
      exact ⟨A', c', rfl, by rw [HE.out]; exact ho, hb⟩

theorem lists_ne {a b : List (List UInt8)} {j : Nat} (ha : j < a.length) (hb : j < b.length) (h : (a[j] == b[j]) = false) : (a == b) = false := by
  rw [beq_eq_false_iff_ne]
  rintro rfl
  simp at h
set_option maxRecDepth 100000 in
set_option maxHeartbeats 3200000 in
theorem rsameb_of (v : Bool) (a : List (List UInt8)) (A : Option Addr) (n c : Nat) (hn : Hid (a.length = n)) (b : List (List UInt8)) (B : Option Addr) (m d : Nat) (hm : Hid (b.length = m)) (hv : Hid ((a == b) = v)) (w : World) (hr : RdB w A c a) (hs : RdB w B d b) :
    Calls Tryz.prog 48 #[.slice A n c, .slice B m d] w fun e w' => e = .returned (.bool v) ∧ Below w.heap.size w w' := by
  have hc2 : (c : Int) ≤ 9223372036854775807 := by have := hr.cap; omega
  have hc1 : (n : Int) ≤ c := by have := hr.len; have := hn.out; omega
  have hd2 : (d : Int) ≤ 9223372036854775807 := by have := hs.cap; omega
  have hd1 : (m : Int) ≤ d := by have := hs.len; have := hm.out; omega
  have HR := hid hr
  have HS := hid hs
  clear hr hs
  by_cases hnm : n = m
  · subst hnm
    go_enter Tryz.func48, Tryz.ntmps48
    go_wp2
    go_loopw [5] (fun i wr => ∃ (j : Nat), j ≤ n ∧ i = .int .i64 (j : Int) ∧ Hid (∀ i (h1 : i < a.length) (h2 : i < b.length), i < j → a[i] = b[i]) ∧ Below w.heap.size w wr) (fun i _ => n - (intOf i).toNat)
    case atStart => exact ⟨0, by omega, rfl, hid (fun i _ _ h => absurd h (by omega)), Below.refl _ _⟩
    case round =>
      obtain ⟨j, hj, rfl, hz, hb⟩ := hrel
      by_cases hlt : j < n
      · have hlt2 : (j : Int) < (n : Int) := by omega
        have hln := hn.out
        have hlm := hm.out
        obtain ⟨b1, o1, rfl, hcell⟩ := (HR.out.keep hb).at_ (by omega)
        obtain ⟨b2, o2, rfl, hcell'⟩ := (HS.out.keep hb).at_ (by omega)
        obtain ⟨X, x, hX, hRX⟩ := hcell j (by omega)
        obtain ⟨Y, y, hY, hRY⟩ := hcell' j (by omega)
        obtain ⟨la, hla⟩ : ∃ l, a[j]'(by omega) = l := ⟨_, rfl⟩
        obtain ⟨lb, hlb⟩ : ∃ l, b[j]'(by omega) = l := ⟨_, rfl⟩
        rw [hla] at hX hRX
        rw [hlb] at hY hRY
        obtain ⟨p, hp⟩ : ∃ p, la.length = p := ⟨_, rfl⟩
        obtain ⟨q, hq⟩ : ∃ q, lb.length = q := ⟨_, rfl⟩
        rw [hp] at hX
        rw [hq] at hY
        have HP := hid hp
        have HQ := hid hq
        obtain ⟨u, hu⟩ : ∃ u, (la == lb) = u := ⟨_, rfl⟩
        have HAT := hid (fun (h : u = false) => lists_ne (a := a) (b := b) (j := j) (by omega) (by omega) (by rw [hla, hlb, hu, h]))
        have HZ := hid (fun (h : u = true) => (show ∀ i (h1 : i < a.length) (h2 : i < b.length), i < j + 1 → a[i] = b[i] from fun i h1 h2 hi => by
          rcases Nat.lt_or_ge i j with h3 | h3
          · exact hz.out i h1 h2 h3
          · obtain rfl : i = j := by omega
            rw [hla, hlb]
            rw [h] at hu
            exact eq_of_beq hu))
        have y4 := fun x : Past wr => rd_string HP (hRX.keep x.2)
        have y5 := fun x : Past wr => rd_string HQ (hRY.keep x.2)
        have q4 := Past.all hX
        have q5 := Past.all hY
        clear hcell hcell' hz hp hq hla hlb hln hlm hRX hRY
        go_wp2_with fail
        refine wp_region_past (by kernel_rfl) (by kernel_rfl) ?_
        repeat (go_big_quiet_step (fail))
        refine wpQuiet_nil ?_
        intro _ hw'
        obtain ⟨x3, rfl⟩ := hw'
        have b9 := below_in hb x3.2
        clear y4 y5 q4 q5 hX hY hb
        generalize x3.1 = w3 at *
        cases u
        · have hE : v = false := by rw [← hv.out]; exact HAT.out rfl
          subst hE
          clear HAT HZ hv
          go_wp2
          go_ret
          exact ⟨rfl, b9⟩
        · have HZ2 := hid (HZ.out rfl)
          clear HAT HZ
          go_wp2_with fail
          go_roundw
          case rel => exact ⟨j + 1, by omega, by go_num, HZ2, b9⟩
          case measure => simp [intOf]; omega
      · have hlt2 : ¬ (j : Int) < (n : Int) := by omega
        have hE : (a == b) = true := by
          have e : a = b := List.ext_getElem (by rw [hn.out, hm.out]) fun i h1 h2 => hz.out i h1 h2 (by have := hn.out; omega)
          rw [e]; simp
        go_wp2
        go_ret
        exact ⟨ret_bool (by rw [← hv.out]; exact hE.symm), hb⟩
  · have d1 : ((n : Int) == (m : Int)) = false := by simpa using (show ¬ (n : Int) = (m : Int) by omega)
    have hE : (a == b) = false := by
      rw [beq_eq_false_iff_ne]
      rintro rfl
      exact hnm (by rw [← hn.out, ← hm.out])
    go_enter Tryz.func48, Tryz.ntmps48
    go_wp2
    go_ret
    exact ⟨ret_bool (by rw [← hv.out]; exact hE.symm), Below.refl _ _⟩
end Go.Proofs.YtndmblhkmgnpcaaGreat
