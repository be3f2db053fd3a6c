/-
  The contracts of the reference's first and Of.
-/
import Derived.Test.YtikcknngcdjnhaaRunB
namespace Go.Proofs.Ytikcknngcdjnhaa
open Go.RowKit
set_option linter.unusedVariables false

def fN (l : List UInt8) : Int := match fst l with | some (n, _) => n | none => 0
def fS (l : List UInt8) : Int := match fst l with | some (_, k) => (k : Int) | none => 0
theorem f_none {l : List UInt8} (h : fst l = none) : fN l = 0 ∧ fS l = 0 := by simp [fN, fS, h]
theorem f_some {l : List UInt8} {n : Int} {k : Nat} (h : fst l = some (n, k)) : fN l = n ∧ fS l = (k : Int) := by simp [fN, fS, h]

theorem head_of (c k n : Nat) (h : Hid (hd c = (k, n))) (hc : c < 256) (w : World) :
    Calls Try.prog 42 #[.int .i64 (c : Int)] w fun e w' => e = .returned (.tuple #[.int .i64 (k : Int), .int .i64 (n : Int)]) ∧ w = w' := by
  have := head_any c hc w
  rw [h.out] at this
  exact this
theorem hd_range (c : Nat) (hc : c < 256) {k n : Nat} (h : hd c = (k, n)) : k ≤ 4 ∧ n < 128 := by
  unfold hd at h
  split at h
  · simp at h; omega
  · split at h
    · simp at h; omega
    · split at h
      · simp at h; omega
      · split at h
        · simp at h; omega
        · simp at h; omega
theorem fold_lt (l : List UInt8) (n : Nat) (hn : n < 128) : ∀ j, fold l n j < 128 * 64 ^ j
  | 0 => by simp [fold]; exact hn
  | j + 1 => by
    have := fold_lt l n hn j
    rw [fold, Nat.pow_succ]
    omega
theorem fold_small (l : List UInt8) (n j : Nat) (hn : n < 128) (hj : j ≤ 3) : fold l n j < 33554432 := by
  have := fold_lt l n hn j
  have h2 : 64 ^ j ≤ 64 ^ 3 := Nat.pow_le_pow_right (by decide) hj
  omega
theorem g_at (s : ByteArray) (l : List UInt8) (h : s.data.toList = l) (i : Nat) (hi : i < s.size) : g l i = (s[i]'hi).toNat := by
  subst h
  unfold g
  rw [List.getD_eq_getElem?_getD, List.getElem?_eq_getElem (by simpa using hi)]
  rfl
theorem rf_none {l : List UInt8} {k n : Nat} (h0 : l ≠ []) (h : hd (g l 0) = (k, n)) (hk : k = 0 ∨ l.length < k) : fst l = none := by
  rw [← rfst_eq l h0]
  simp only [rfst, h]
  rw [if_pos hk]
theorem rf_bad {l : List UInt8} {k n : Nat} (h0 : l ≠ []) (h : hd (g l 0) = (k, n)) (hm : ¬ (isR (fold l n (k - 1) : Nat) = true ∧ bts (fold l n (k - 1) : Nat) = l.take k)) : fst l = none := by
  rw [← rfst_eq l h0]
  simp only [rfst, h]
  rw [if_neg hm]
  simp
theorem rf_good {l : List UInt8} {k n : Nat} (h0 : l ≠ []) (h : hd (g l 0) = (k, n)) (hk : k ≠ 0 ∧ k ≤ l.length) (hm : isR (fold l n (k - 1) : Nat) = true ∧ bts (fold l n (k - 1) : Nat) = l.take k) : fst l = some (((fold l n (k - 1) : Nat) : Int), k) := by
  rw [← rfst_eq l h0]
  simp only [rfst, h]
  rw [if_neg (by omega), if_pos hm]

theorem below_step {wo W w2 : World} (h : Below wo.heap.size wo W) (h2 : Below W.heap.size W w2) : Below wo.heap.size wo w2 := h.trans (h2.mono h.size)
theorem refbytes_of (n : Int) (b : List UInt8) (k : Nat) (h : Hid (bts n = b ∧ b.length = k ∧ isR n = true)) (w : World) :
    Calls Try.prog 35 #[.int .i64 n] w fun e w' => ∃ A c, e = .returned (.slice A k c) ∧ Rd w' A c b ∧ Below w.heap.size w w' := by
  obtain ⟨rfl, rfl, hr⟩ := h.out
  exact refbytes_any n hr w

theorem toList_take (s : ByteArray) (l : List UInt8) (h : s.data.toList = l) (k : Nat) : (s.extract 0 k).toList = l.take k := by
  have e : s.extract 0 k = ⟨(l.take k).toArray⟩ := by
    subst h
    apply ByteArray.ext
    rw [ByteArray.data_extract]
    apply Array.ext'
    simp
  rw [e, ByteArray.toList_mk]
theorem data_drop (s : ByteArray) (l : List UInt8) (h : s.data.toList = l) (k m : Nat) (hm : m = s.size) : (s.extract k m).data.toList = l.drop k := by
  subst h hm
  rw [ByteArray.data_extract, Array.toList_extract]
  rw [List.extract_eq_take_drop]
  exact List.take_of_length_le (by rw [List.length_drop]; simp)

set_option maxRecDepth 100000 in
set_option maxHeartbeats 800000 in
theorem first_any (s : ByteArray) (l : List UInt8) (hs : Hid (s.data.toList = l)) (h0 : 0 < s.size) (h1 : s.size ≤ 100000) (w : World) :
    Calls Try.prog 31 #[.string s] w fun e w' => e = .returned (.tuple #[.int .i64 (fN l), .int .i64 (fS l)]) ∧ Below w.heap.size w w' := by
  have hlen : l.length = s.size := by rw [← hs.out]; simp
  have hne : l ≠ [] := by rintro rfl; simp at hlen; omega
  have hg := g_at s l hs.out 0 h0
  have hb0 : ((s[0]'h0).toNat : Int) ≤ 255 := by have := (s[0]'h0).toNat_lt; omega
  obtain ⟨k, n, hk⟩ : ∃ k n, hd (s[0]'h0).toNat = (k, n) := ⟨_, _, rfl⟩
  obtain ⟨hk4, hn⟩ := hd_range _ (s[0]'h0).toNat_lt hk
  have hk2 := hk
  rw [← hg] at hk2
  have HK := hid hk
  have HK2 := hid hk2
  have HL := hid hlen
  have HN := hid hne
  have n128 : (n : Int) < 128 := by omega
  clear hk hk2 hg hlen hne
  have hq : (s.size : Int) ≤ 100000 := by omega
  go_enter Try.func31, Try.ntmps31
  go_wp2_with fail
  refine (head_of _ k n HK (s[0]'h0).toNat_lt _).mono ?_
  rintro e w' ⟨rfl, rfl⟩
  by_cases hk0 : k = 0
  · have H := hid (f_none (rf_none HN.out HK2.out (Or.inl hk0)))
    subst hk0
    clear HK HK2
    go_wp2
    go_ret2
    exact ⟨by rw [H.out.1, H.out.2]; rfl, Below.refl _ _⟩
  have t0 : ((k : Int) == 0) = false := by simp; omega
  by_cases hkl : s.size < k
  · have H := hid (f_none (rf_none HN.out HK2.out (Or.inr (by rw [HL.out]; exact hkl))))
    have t1 : (s.size : Int) < (k : Int) := by omega
    go_wp2
    go_ret2
    exact ⟨by rw [H.out.1, H.out.2]; rfl, Below.refl _ _⟩
  have t1 : ¬ (s.size : Int) < (k : Int) := by omega
  go_wp2
  go_loop [5, 6] (fun x i => ∃ j : Nat, 1 ≤ j ∧ j ≤ k ∧ i = .int .i64 (j : Int) ∧ ∃ z : Int, Hid (z = (fold l n (j - 1) : Nat)) ∧ 0 ≤ z ∧ z < 33554432 ∧ x = .int .i64 z) (fun _ i => k - (intOf i).toNat)
  case atStart => exact ⟨1, by omega, by omega, rfl, _, hid (by simp [fold]), by omega, by omega, rfl⟩
  case round =>
    obtain ⟨j, hj1, hj, rfl, z, hz, hz0, hz1, rfl⟩ := hrel
    by_cases hlt : j < k
    · have hlt2 : (j : Int) < (k : Int) := by omega
      have hjs : j < s.size := by omega
      have hb : ((s[j]'hjs).toNat : Int) ≤ 255 := by have := (s[j]'hjs).toNat_lt; omega
      have hf : 64 * z + ((s[j]'hjs).toNat : Int) % 64 = (fold l n (j + 1 - 1) : Nat) := by
        obtain ⟨i, rfl⟩ : ∃ i, j = i + 1 := ⟨j - 1, by omega⟩
        have e := hz.out
        simp only [Nat.add_sub_cancel] at e ⊢
        rw [fold, g_at s l hs.out (i + 1) hjs, e]
        omega
      have hf2 := fold_small l n (j + 1 - 1) hn (by omega)
      have HF := hid hf
      have hf3 : 64 * z + ((s[j]'hjs).toNat : Int) % 64 < 33554432 := by omega
      clear hf hf2
      go_wp2
      go_round
      case rel => exact ⟨j + 1, by omega, by omega, by go_num, _, HF, by omega, hf3, rfl⟩
      case measure => simp [intOf]; omega
    · have hlt2 : ¬ (j : Int) < (k : Int) := by omega
      obtain rfl : j = k := by omega
      cases hR : isR z
      · have H := hid (f_none (rf_bad HN.out HK2.out (by rintro ⟨hx, _⟩; rw [← hz.out, hR] at hx; cases hx)))
        go_wp2_with fail
        refine wp_region_past (by kernel_rfl) (by kernel_rfl) ?_
        repeat (go_big_quiet_step ((go_at_call 33; exact quiet_same (is_any z _))))
        refine wpQuiet_nil ?_
        rintro _ ⟨⟨w7, hx⟩, rfl⟩
        go_wp2
        go_ret2
        exact ⟨by rw [H.out.1, H.out.2]; rfl, hx⟩
      · obtain ⟨b, m, hb, hm⟩ : ∃ (b : List UInt8) (m : Nat), bts z = b ∧ b.length = m := ⟨_, _, rfl, rfl⟩
        have HB := hid (show bts z = b ∧ b.length = m ∧ isR z = true from ⟨hb, hm, hR⟩)
        have HM := hid hm
        clear hb hm
        go_wp2_with fail
        go_region_held (fun w' => Below w.heap.size w w') (first | assumption | exact (Below.refl _ _).drew | exact below_step (by assumption) hb1) (first | (go_at_call 33; refine (is_any z _).mono ?_; rintro e w1 ⟨rfl, rfl⟩) | (go_at_call 35; refine (refbytes_of z b m HB _).mono ?_; rintro e w2 ⟨A1, c1, rfl, hr1, hb1⟩; have s1 := rd_string HM hr1))
        have hh : Below w.heap.size w w2 := by assumption
        have HT := hid (toList_take s l hs.out j)
        clear hr1 hb1 s1
        generalize hq : (b == (s.extract 0 j).toList) = q
        cases q
        · have H := hid (f_none (rf_bad HN.out HK2.out (by
            rintro ⟨_, hx⟩
            rw [HT.out, ← hx, ← hz.out, HB.out.1] at hq
            simp at hq)))
          clear hq
          go_wp2
          go_ret2
          exact ⟨by rw [H.out.1, H.out.2]; rfl, hh⟩
        · have H := hid (f_some (rf_good HN.out HK2.out ⟨hk0, by rw [HL.out]; omega⟩ ⟨by rw [← hz.out]; exact hR, by
            rw [← hz.out, HB.out.1, ← HT.out]
            simpa using hq⟩))
          clear hq
          go_wp2
          go_ret2
          exact ⟨by rw [H.out.1, H.out.2, ← hz.out]; rfl, hh⟩
end Go.Proofs.Ytikcknngcdjnhaa
