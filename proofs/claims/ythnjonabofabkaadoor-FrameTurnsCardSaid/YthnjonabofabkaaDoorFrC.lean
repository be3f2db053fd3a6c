/-
  The contracts of frame.told and bytes.Clone.
-/
import Derived.Test.YthnjonabofabkaaDoorFrB
namespace Go.Proofs.YthnjonabofabkaaDoor
open Go.RowKit
set_option linter.unusedVariables false

/-- What is cut off a slice at its front, wherever the walk says that it lies. -/
theorem Rd.behind {w : World} {b o c : Nat} {l : List UInt8} (h : Rd w (some ⟨b, o, none⟩) c l) (k : Nat) (hk : k ≤ l.length) {A : Option Addr} (hA : k ≠ c → A = some ⟨b, o + k, none⟩) : Rd w A (c - k) (l.drop k) := by
  by_cases h1 : k < l.length
  · rw [hA (by have := h.1; omega)]
    exact h.drop k h1
  · have e : l.drop k = [] := List.drop_eq_nil_of_le (by omega)
    rw [e]
    exact ⟨by simp, by have := h.2.1; unfold maxLen at *; omega, fun hp => absurd hp (by simp)⟩

set_option maxHeartbeats 800000 in
theorem told_yes (A : Option Addr) (n c : Nat) (l m : List UInt8) (k : Nat) (hn : Hid (l.length = n)) (hm : Hid (toP l = some m ∧ m.length = k)) (w : World) (hr : Rd w A c l) :
    Calls Tryd.prog 22 #[.slice A n c] w fun e w' => ∃ A' c', e = .returned (.tuple #[.slice A' k c', .bool true]) ∧ Rd w A' c' m ∧ w = w' := by
  have hc2 : (c : Int) ≤ 9223372036854775807 := by have := hr.cap; omega
  have hc1 : (n : Int) ≤ c := by have := hr.len; have := hn.out; omega
  match l with
  | [] => exact absurd hm.out.1 (by simp [toP])
  | x :: r =>
    obtain ⟨b, o, rfl, hcell⟩ := hr.at_ (by simp)
    obtain ⟨hm1, hm2⟩ := hm.out
    obtain ⟨q, s, hg⟩ : ∃ q s, getP r = some (q, s) := by
      match h : getP r with
      | none => simp [toP, h] at hm1
      | some (q, s) => exact ⟨q, s, rfl⟩
    obtain ⟨hq, hs, hsr, htk⟩ := getP_some hg
    have hnl : r.length + 1 = n := hn.out
    simp only [toP, hg] at hm1
    split at hm1
    · cases hm1
    · rename_i hlen
      injection hm1 with hm1
      rw [List.length_drop] at hlen
      have hk : k = q := by rw [← hm2, ← hm1, List.length_take, List.length_drop]; omega
      subst hk
      have he := enc_bounds hq
      have HG := hid (getP_of hg)
      have hr1 := hr.behind 1 (by simp) (A := some ⟨b, o + 1, none⟩) (fun _ => rfl)
      simp only [List.drop_succ_cons, List.drop_zero] at hr1
      have HR1 := hid hnl
      have hn2 : (2 : Int) ≤ n := by omega
      clear hn hm hcell
      go_enter Tryd.func22, Tryd.ntmps22
      have HN := hid (show r.length = n - 1 by omega)
      have hs2 : 1 + (s : Int) ≤ n := by omega
      have hks : (k : Int) ≤ (n : Int) - (1 + (s : Int)) := by omega
      have hs1 : (1 : Int) ≤ s := by omega
      have HCC : Hid (m = (r.drop s).take k ∧ m.length = k ∧ s ≤ r.length) := hid ⟨hm1.symm, hm2, hsr⟩
      clear hnl hg hq hs htk hlen he hm1 hm2 hsr
      go_wp2_with fail
      refine (get_of k s 0 _ (n - 1) (c - 1) r HN HG _ hr1).mono ?_
      rintro e w' ⟨rfl, rfl⟩
      have hrs := hr.behind (1 + s) (by have := HR1.out; simp; omega) (A := if 1 + s = c then none else some ⟨b, o + (1 + s), none⟩) (fun h => if_neg h)
      rw [show (x :: r).drop (1 + s) = r.drop s by rw [Nat.add_comm]; rfl] at hrs
      have hrm := hrs.take k
      rw [← HCC.out.1] at hrm
      clear hrs
      by_cases hcs : 1 + s = c
      · have hk0 : k = 0 := by omega
        subst hk0
        have hm0 : m = [] := List.eq_nil_of_length_eq_zero HCC.out.2.1
        subst hm0
        clear hrm hks
        go_wp2_with fail
        go_ret2
        exact ⟨_, _, rfl, ⟨by simp, by unfold maxLen; omega, fun hp => absurd hp (by simp)⟩, rfl⟩
      · rw [if_neg hcs] at hrm
        have HRM := hid hrm
        clear hrm
        go_wp2_with fail
        go_ret2
        exact ⟨_, _, rfl, HRM.out, rfl⟩

set_option maxHeartbeats 800000 in
theorem told_no (A : Option Addr) (n c : Nat) (l : List UInt8) (hn : Hid (l.length = n)) (hm : Hid (toP l = none)) (w : World) (hr : Rd w A c l) :
    Calls Tryd.prog 22 #[.slice A n c] w fun e w' => e = .returned (.tuple #[.slice none 0 0, .bool false]) ∧ w = w' := by
  have hc2 : (c : Int) ≤ 9223372036854775807 := by have := hr.cap; omega
  have hc1 : (n : Int) ≤ c := by have := hr.len; have := hn.out; omega
  match l with
  | [] =>
    have e := hn.out
    simp at e
    subst e
    clear hr hn hm
    go_enter Tryd.func22, Tryd.ntmps22
    go_wp2
    go_ret2
    exact ⟨rfl, rfl⟩
  | x :: r =>
    obtain ⟨b, o, rfl, hcell⟩ := hr.at_ (by simp)
    have hnl : r.length + 1 = n := hn.out
    have HN := hid (show r.length = n - 1 by omega)
    have hn1 : (1 : Int) ≤ n := by omega
    have hnz : ((n : Int) == 0) = false := by simp; omega
    have hr1 := hr.behind 1 (by simp) (A := if 1 = c then some ⟨b, o, none⟩ else some ⟨b, o + 1, none⟩) (fun h => if_neg (fun e => h e))
    simp only [List.drop_succ_cons, List.drop_zero] at hr1
    match hg : getP r with
    | none =>
      have HG := hid (getP_none hg)
      clear hg hm hn hcell hnl
      by_cases hc : 1 = c
      · rw [if_pos hc] at hr1
        have hn3 : n = 1 := by omega
        subst hc hn3
        go_enter Tryd.func22, Tryd.ntmps22
        go_wp2_with fail
        refine (get_of 0 0 8 (some ⟨b, o, none⟩) 0 0 r HN HG _ hr1).mono ?_
        rintro e w' ⟨rfl, rfl⟩
        go_wp2
        go_ret2
        exact ⟨rfl, rfl⟩
      · rw [if_neg hc] at hr1
        go_enter Tryd.func22, Tryd.ntmps22
        go_wp2_with fail
        refine (get_of 0 0 8 _ (n - 1) (c - 1) r HN HG _ hr1).mono ?_
        rintro e w' ⟨rfl, rfl⟩
        go_wp2
        go_ret2
        exact ⟨rfl, rfl⟩
    | some (k, s) =>
      obtain ⟨hq, hs, hsr, htk⟩ := getP_some hg
      have he := enc_bounds hq
      have hlen : r.length - s < k := by
        have := hm.out
        simp only [toP, hg] at this
        split at this
        · rename_i h
          rw [List.length_drop] at h
          exact h
        · cases this
      have HG := hid (getP_of hg)
      rw [if_neg (by omega)] at hr1
      have hs2 : 1 + (s : Int) ≤ n := by omega
      have hks : n - (1 + s) < k := by omega
      have hs1 : (1 : Int) ≤ s := by omega
      have hn2 : (2 : Int) ≤ n := by omega
      clear hg hm hn hcell hnl hq hs hsr htk he hlen
      go_enter Tryd.func22, Tryd.ntmps22
      go_wp2_with fail
      refine (get_of k s 0 _ (n - 1) (c - 1) r HN HG _ hr1).mono ?_
      rintro e w' ⟨rfl, rfl⟩
      clear HG HN hr1 hr
      by_cases hcs : 1 + s = c
      · have hks2 : n - c < k := by omega
        go_wp2_with fail
        go_ret2
        exact ⟨rfl, rfl⟩
      · go_wp2_with fail
        go_ret2
        exact ⟨rfl, rfl⟩

/-- The call hands back a slice of bytes that it made, and a number. -/
def RetOwn (w : World) (l : List UInt8) (k : Nat) (j : Int) (e : Ending) (w' : World) : Prop := ∃ A c, e = .returned (.tuple #[.slice A k c, .int .i64 j]) ∧ Own w' w.heap.size 5 A c l ∧ Below w.heap.size w w'

set_option maxHeartbeats 400000 in
theorem clone_any (A : Option Addr) (n c : Nat) (l : List UInt8) (hn : Hid (l.length = n)) (hlen : n ≤ 10000) (w : World) (hr : Rd w A c l) :
    Calls Tryd.prog 24 #[.slice A n c] w fun e w' => ∃ A' c', e = .returned (.slice A' n c') ∧ Own w' w.heap.size 5 A' c' l ∧ Below w.heap.size w w' := by
  obtain ⟨i0, hi0, hz0, hz1, hz2⟩ := info_parts info_u8
  have hnil : ∀ W : World, (binOp .eql 23 (.slice A n c) (.slice none 0 0)).run Tryd.prog W = .ok (.bool A.isNone) W := fun W => Lib.run_eql_slice_nil W _ _ A n c 0 0 Tryd.underlying23
  match A with
  | none =>
    have hl : l = [] := by
      rcases Nat.eq_zero_or_pos l.length with h0 | h0
      · exact List.eq_nil_of_length_eq_zero h0
      · obtain ⟨b, o, hA, _⟩ := hr.2.2 h0
        cases hA
    subst hl
    have e := hn.out
    simp at e
    subst e
    clear hr hn
    go_enter Tryd.func24, Tryd.ntmps24
    go_wp2
    go_ret
    exact ⟨none, 0, rfl, Own.nil _ _ _, Below.refl _ _⟩
  | some a =>
    go_enter Tryd.func24, Tryd.ntmps24
    go_wp2_with (at_builtin; refine wpList_append_rd rfl (.tmp 5) (.tmp 6) _ rfl w.heap.size 5 Tryd.underlying23 hi0 hz0 hz1 hz2 (some ⟨w.heap.size, 0, none⟩) 0 0 [] (hid rfl) rfl (Own.lit w 5 [] (Nat.le_refl _) (by simp)) (some a) n c l hn rfl (hr.alloc _) (by omega) (by simp) ?_; intro A' c' w1 hown hb)
    go_ret
    exact ⟨A', c', rfl, hown, ((Below.refl _ _).alloc (Nat.le_refl _) _).trans hb⟩
end Go.Proofs.YthnjonabofabkaaDoor
