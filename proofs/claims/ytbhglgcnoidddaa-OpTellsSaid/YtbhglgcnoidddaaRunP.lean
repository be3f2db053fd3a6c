/-
  The contracts of Put (both) and of the reference's Wide.
-/
import Derived.Test.YtbhglgcnoidddaaRunB
import Derived.Laws.MakeOwn
namespace Go.Proofs.Ytbhglgcnoidddaa
open Go.RowKit
set_option linter.unusedVariables false

theorem all_at {l : List Int} (h : l.all okN = true) {j : Nat} (hj : j < l.length) : l[j] = -1 ∨ (0 ≤ l[j] ∧ l[j] ≤ 1114111) := by
  have := (okN_iff _).1 (List.all_eq_true.1 h _ (List.getElem_mem hj))
  omega
theorem wide_take (l : List Int) (j : Nat) (h : j < l.length) : wide (l.take (j + 1)) = wide (l.take j) ++ four l[j] := by
  rw [List.take_succ_eq_append_getElem h, wide_snoc]
theorem u8s_four (n : Int) : u8s (four n) = [.int .u8 (n % 4294967296 / 16777216), .int .u8 (n % 4294967296 / 65536 % 256), .int .u8 (n % 4294967296 / 256 % 256), .int .u8 (n % 4294967296 % 256)] := by
  have h0 : 0 ≤ n % 4294967296 := by omega
  have h1 : n % 4294967296 < 4294967296 := by omega
  unfold four
  generalize n % 4294967296 = m at *
  have k (y : Int) (a : 0 ≤ y) (b : y < 256) : ((UInt8.ofNat y.toNat).toNat : Int) = y := by
    rw [UInt8.toNat_ofNat']
    omega
  simp only [u8s, List.map_cons, List.map_nil]
  rw [k _ (by omega) (by omega), k _ (by omega) (by omega), k _ (by omega) (by omega), k _ (by omega) (by omega)]

theorem four_neg : (u8s (four (-1))).toArray = #[.int .u8 255, .int .u8 255, .int .u8 255, .int .u8 255] := by rw [u8s_four]; rfl
theorem four_pos {x : Int} (h0 : 0 ≤ x) (h1 : x ≤ 1114111) : (u8s (four x)).toArray = #[.int .u8 (x / 16777216), .int .u8 (x / 65536 % 256), .int .u8 (x / 256 % 256), .int .u8 (x % 256)] := by
  have e : x % 4294967296 = x := by omega
  rw [u8s_four, e]
theorem four_pos2 {x : Int} (h0 : 0 ≤ x) (h1 : x ≤ 1114111) : (u8s (four x)).toArray = #[.int .u8 (x / 16777216), .int .u8 (x / 65536), .int .u8 (x / 256 % 256), .int .u8 (x % 256)] := by
  have e : x / 65536 % 256 = x / 65536 := by omega
  rw [four_pos h0 h1, e]
theorem lit_four (w : World) (n : Int) (L : Array Value) (h : Hid ((u8s (four n)).toArray = L)) : Rd (w.alloc (.cells L 5)) (some ⟨w.heap.size, 0, none⟩) 4 (four n) := by
  rw [← h.out]
  exact lit_rd w (four n) (by rw [four_length]; omega)

set_option maxRecDepth 100000 in
set_option maxHeartbeats 1000000 in
theorem wide_any (A : Option Addr) (n c : Nat) (l : List Int) (hn : Hid (l.length = n)) (h5 : n ≤ 1000) (hok : Hid (l.all okN = true)) (w : World) (hr : Ri w A c l) :
    Calls Try.prog 71 #[.slice A n c] w (RetRd w (wide l)) := by
  obtain ⟨i0, hi0, hz0, hz1, hz2⟩ := info_parts info_u8
  have hc2 : (c : Int) ≤ 9223372036854775807 := by have := hr.cap; omega
  have hc1 : (n : Int) ≤ c := by have := hr.len; have := hn.out; omega
  have HR := hid hr
  clear hr
  go_enter Try.func71, Try.ntmps71
  go_wp2
  go_loopw [3, 4, 5] (fun b i x wr => ∃ (j k : Nat) (B : Option Addr) (d : Nat), j ≤ n ∧ i = .int .i64 (j : Int) ∧ b = .slice B k d ∧ Hid (k = 4 * j) ∧ Hid ((wide (l.take j)).length = k) ∧ Own wr w.heap.size 5 B d (wide (l.take j)) ∧ Below w.heap.size w wr) (fun _ i _ _ => n - (intOf i).toNat)
  case atStart => exact ⟨0, 0, none, 0, by omega, rfl, rfl, hid rfl, hid rfl, Own.nil _ _ _, Below.refl _ _⟩
  case round =>
    obtain ⟨j, k, B, d, hj, rfl, rfl, hk, hw, hown, hb⟩ := hrel
    have hk4 : k ≤ 4000 := by have := hk.out; omega
    by_cases hlt : j < n
    · have hl := hn.out
      obtain ⟨b, o, rfl, hcell⟩ := HR.out.at_ (by omega)
      have h1 := keep hb (hcell j (by omega))
      have hv := all_at hok.out (j := j) (by omega)
      have hs := wide_take l j (by omega)
      generalize l[j]'(by omega) = x at h1 hv hs
      have hlt2 : (j : Int) < (n : Int) := by omega
      have HS := hid hs
      have HK := hid (show (wide (l.take (j + 1))).length = k + 4 by rw [hs, List.length_append, hw.out]; rfl)
      have HQ := hid (show k + 4 = 4 * (j + 1) by have := hk.out; omega)
      clear hs hcell hl
      rcases hv with rfl | ⟨hx0, hx1⟩
      · have HU := hid four_neg
        go_wp2_with (at_builtin; refine wpList_append_rd rfl (.tmp 19) (.tmp 34) _ rfl w.heap.size 5 Try.underlying44 hi0 hz0 hz1 hz2 B k d (wide (l.take j)) hw rfl (hown.keep ((Below.refl _ _).alloc (Nat.le_refl _) _)) (some ⟨wr.heap.size, 0, none⟩) 4 4 (four (-1)) (hid rfl) rfl (lit_four wr (-1) _ HU) (by omega) (Nat.le_trans hb.size (by simp)) ?_; intro B' d' w1 hown1 hb1)
        go_roundw
        case rel => exact ⟨j + 1, k + 4, B', d', by omega, by go_num, rfl, HQ, HK, by rw [HS.out]; exact hown1, (hb.alloc hb.size _).trans hb1⟩
        case measure => simp [intOf]; omega
      · have hx3 : ¬ x < 0 := by omega
        have HU := hid (four_pos hx0 hx1)
        go_wp2_with (at_builtin; refine wpList_append_rd rfl (.tmp 19) (.tmp 34) _ rfl w.heap.size 5 Try.underlying44 hi0 hz0 hz1 hz2 B k d (wide (l.take j)) hw rfl (hown.keep ((Below.refl _ _).alloc (Nat.le_refl _) _)) (some ⟨wr.heap.size, 0, none⟩) 4 4 (four x) (hid rfl) rfl (lit_four wr x _ HU) (by omega) (Nat.le_trans hb.size (by simp)) ?_; intro B' d' w1 hown1 hb1)
        go_roundw
        case rel => exact ⟨j + 1, k + 4, B', d', by omega, by go_num, rfl, HQ, HK, by rw [HS.out]; exact hown1, (hb.alloc hb.size _).trans hb1⟩
        case measure => simp [intOf]; omega
    · have ej : l.take j = l := List.take_of_length_le (by have := hn.out; omega)
      have hlt2 : ¬ (j : Int) < (n : Int) := by omega
      have HE := hid ej
      clear ej
      go_wp2
      go_ret
      refine ⟨B, d, ?_, by rw [← HE.out]; exact hown.rd, hb⟩
      rw [← HE.out, hw.out]
      rfl

theorem put_no {l : List Int} {z : Int} (h : chk l = z) (hz : z ≠ 0) : putV l = [] := by rw [putV, if_neg (by rw [h]; exact hz)]

set_option maxRecDepth 100000 in
set_option maxHeartbeats 1000000 in
theorem rput_any (A : Option Addr) (n c : Nat) (l : List Int) (hn : Hid (l.length = n)) (w : World) (hr : Ri w A c l) :
    Calls Try.prog 59 #[.slice A n c] w (RetPut w (putV l) (chk l)) := by
  obtain ⟨i0, hi0, hz0, hz1, hz2⟩ := info_parts info_u8
  obtain ⟨z, hz⟩ : ∃ z, chk l = z := ⟨_, rfl⟩
  have HZ := hid hz
  by_cases h0 : z = 0
  · obtain ⟨h1, h2⟩ := chk_zero.1 (hz.trans h0)
    have HV := hid (show wide l = putV l by rw [putV, if_pos (hz.trans h0)])
    have HO := hid h2
    have h3 : n ≤ 64 := by rw [← hn.out]; omega
    have h4 : (n : Int) ≤ 64 := by omega
    have hc2 : (c : Int) ≤ 9223372036854775807 := by have := hr.cap; omega
    have hc1 : (n : Int) ≤ c := by have := hr.len; have := hn.out; omega
    have HR := hid hr
    subst h0
    clear hz h1 h2
    go_enter Try.func59, Try.ntmps59
    go_wp2_with fail
    refine (check_of 0 A n c l hn HZ _ hr).mono ?_
    rintro e w' ⟨rfl, rfl⟩
    obtain ⟨w1, hrun, hown0, hgr⟩ := run_make_own (P := Try.prog) w w.heap.size 44 5 i0 (.int .u8 0) 1 Try.underlying44 hi0 hz0 hz1 .i64 .i64 (4 * n) (by rw [hz2]; omega) (by unfold maxLen; omega) (Nat.le_refl _)
    have hcast : ((4 * n : Nat) : Int) = 4 * (n : Int) := by omega
    rw [hcast] at hrun
    have hb0 : Below w.heap.size w w1 := (Below.refl _ _).grown hgr (Nat.le_refl _) (fun k hk => by cases hk)
    have hown1 : Own w1 w.heap.size 5 (some ⟨w.heap.size, 0, none⟩) (4 * n) [] := hown0
    generalize 4 * n = d0 at hrun hown1
    clear hr hcast hown0 hgr
    go_wp2
    go_loopw [5, 7, 19] (fun b x i wr => ∃ (j k : Nat) (B : Option Addr) (d : Nat), j ≤ n ∧ i = .int .i64 (j : Int) ∧ b = .slice B k d ∧ Hid (k = 4 * j) ∧ Hid ((wide (l.take j)).length = k) ∧ Own wr w.heap.size 5 B d (wide (l.take j)) ∧ Below w.heap.size w wr) (fun _ _ i _ => n - (intOf i).toNat)
    case atStart => exact ⟨0, 0, _, _, by omega, rfl, rfl, hid rfl, hid rfl, hown1, hb0⟩
    case round =>
      obtain ⟨j, k, B, d, hj, rfl, rfl, hk, hw, hown, hb⟩ := hrel
      have hk4 : k ≤ 4000 := by have := hk.out; omega
      by_cases hlt : j < n
      · have hl := hn.out
        obtain ⟨b, o, rfl, hcell⟩ := HR.out.at_ (by omega)
        have h1 := keep hb (hcell j (by omega))
        have hv := all_at HO.out (j := j) (by omega)
        have hs := wide_take l j (by omega)
        generalize l[j]'(by omega) = x at h1 hv hs
        have hlt2 : (j : Int) < (n : Int) := by omega
        have HS := hid hs
        have HK := hid (show (wide (l.take (j + 1))).length = k + 4 by rw [hs, List.length_append, hw.out]; rfl)
        have HQ := hid (show k + 4 = 4 * (j + 1) by have := hk.out; omega)
        clear hs hcell hl hown1 hb0 hrun
        rcases hv with rfl | ⟨hx0, hx1⟩
        · have HU := hid four_neg
          go_wp2_with (at_builtin; refine wpList_append_rd rfl (.tmp 23) (.tmp 35) _ rfl w.heap.size 5 Try.underlying44 hi0 hz0 hz1 hz2 B k d (wide (l.take j)) hw rfl (hown.keep ((Below.refl _ _).alloc (Nat.le_refl _) _)) (some ⟨wr.heap.size, 0, none⟩) 4 4 (four (-1)) (hid rfl) rfl (lit_four wr (-1) _ HU) (by omega) (Nat.le_trans hb.size (by simp)) ?_; intro B' d' w2 hown2 hb1)
          go_roundw
          case rel => exact ⟨j + 1, k + 4, B', d', by omega, by go_num, rfl, HQ, HK, by rw [HS.out]; exact hown2, (hb.alloc hb.size _).trans hb1⟩
          case measure => simp [intOf]; omega
        · have hx3 : ¬ x < 0 := by omega
          have HU := hid (four_pos2 hx0 hx1)
          go_wp2_with (at_builtin; refine wpList_append_rd rfl (.tmp 23) (.tmp 35) _ rfl w.heap.size 5 Try.underlying44 hi0 hz0 hz1 hz2 B k d (wide (l.take j)) hw rfl (hown.keep ((Below.refl _ _).alloc (Nat.le_refl _) _)) (some ⟨wr.heap.size, 0, none⟩) 4 4 (four (x)) (hid rfl) rfl (lit_four wr (x) _ HU) (by omega) (Nat.le_trans hb.size (by simp)) ?_; intro B' d' w2 hown2 hb1)
          go_roundw
          case rel => exact ⟨j + 1, k + 4, B', d', by omega, by go_num, rfl, HQ, HK, by rw [HS.out]; exact hown2, (hb.alloc hb.size _).trans hb1⟩
          case measure => simp [intOf]; omega
      · have ej : l.take j = l := List.take_of_length_le (by have := hn.out; omega)
        have hlt2 : ¬ (j : Int) < (n : Int) := by omega
        have HE := hid ej
        clear ej hown1 hb0 hrun
        go_wp2
        go_ret2
        exact ret_put (hid ⟨by rw [HE.out, HV.out], HZ.out.symm, by rw [← hw.out]⟩) hown.rd hb
  · have HV := hid (put_no hz h0)
    have hz2 : (z != 0) = true := by simpa using h0
    clear hz h0
    go_enter Try.func59, Try.ntmps59
    go_wp2_with (go_at_call 82; refine (check_of z A n c l hn HZ _ hr).mono ?_; rintro e w' ⟨rfl, rfl⟩)
    go_ret2
    exact ret_put_nil (hid ⟨HZ.out.symm, HV.out⟩) (Below.refl _ _)
end Go.Proofs.Ytbhglgcnoidddaa
