/-
  The program's digits; slices.Grow at nil and slices.Concat at bytes.
-/
import Derived.Test.YtbhglgcnoidddaaOpA
import Derived.Test.YtbhglgcnoidddaaFrZ
import Derived.Lib.AppendZeros
namespace Go.Proofs.Ytbhglgcnoidddaa
open Go.RowKit
set_option linter.unusedVariables false
set_option linter.unusedSimpArgs false

def fill (n k : Nat) : Nat → Array Value
  | 0 => madeCells #[.int .u8 0] k
  | j + 1 => (fill n k j).setIfInBounds j (.int .u8 ((n : Int) / 2 ^ (8 * (k - 1 - j)) % 256))
theorem fill_size (n k : Nat) : ∀ j, (fill n k j).size = k
  | 0 => by simp [fill, size_madeCells]
  | j + 1 => by simp [fill, fill_size n k j]
theorem fill_at {n k j : Nat} (h : j < k) : ∃ v, (fill n k j)[j]? = some v := ⟨_, Array.getElem?_eq_getElem (by rw [fill_size]; exact h)⟩
theorem fill_get (n k : Nat) : ∀ j i, i < j → i < k → (fill n k j)[i]? = some (.int .u8 ((n : Int) / 2 ^ (8 * (k - 1 - i)) % 256))
  | j + 1, i, h, hk => by
    rw [fill, Array.getElem?_setIfInBounds]
    by_cases e : j = i
    · subst e; simp [fill_size, hk]
    · rw [if_neg e]; exact fill_get n k j i (by omega) hk
theorem dg_get : ∀ (k n i : Nat) (h : i < (dg k n).length), ((dg k n)[i].toNat : Int) = (n : Int) / 2 ^ (8 * (k - 1 - i)) % 256
  | 0, n, i, h => by simp [dg] at h
  | k + 1, n, i, h => by
    have hl := dg_length k (n / 256)
    simp only [dg, List.getElem_append]
    rw [dg_length] at h
    by_cases hi : i < (dg k (n / 256)).length
    · rw [dif_pos hi, dg_get k (n / 256) i hi]
      have e : 8 * (k + 1 - 1 - i) = 8 + 8 * (k - 1 - i) := by omega
      rw [e, Int.pow_add, Int.natCast_ediv, Int.ediv_ediv_of_nonneg (by decide)]
      rfl
    · rw [dif_neg hi]
      have e : i = k := by omega
      subst e
      simp
theorem fill_done (n k : Nat) : fill n k k = (u8s (dg k n)).toArray := by
  apply Array.ext_getElem?
  intro i
  by_cases hi : i < k
  · rw [fill_get n k k i hi hi]
    have hd : i < (dg k n).length := by rw [dg_length]; exact hi
    simp [u8s, List.getElem?_eq_getElem hd, dg_get k n i hd]
  · rw [Array.getElem?_eq_none (by rw [fill_size]; omega), Array.getElem?_eq_none (by simp [u8s, dg_length]; omega)]

set_option maxRecDepth 100000 in
set_option maxHeartbeats 800000 in
theorem digits_of (x : Nat) (z : Int) (k : Nat) (v : Int) (hz : Hid ((x : Int) = z)) (z0 : 0 ≤ z) (z1 : z < 9223372036854775808) (hv : Hid (v = (k : Int))) (hk : k ≤ 7) (w : World) :
    Calls Try.prog 57 #[.int .i64 z, .int .i64 v] w fun e w' => e = .returned (.slice (some ⟨w.heap.size, 0, none⟩) k k) ∧ w' = w.alloc (.cells (u8s (dg k x)).toArray 5) := by
  obtain ⟨i0, hi0, hz0, hz1, hz2⟩ := info_parts info_u8
  have hv7 : v ≤ 7 := by rw [hv.out]; omega
  have hmk := fun W : World => run_make (P := Try.prog) W 44 5 i0 _ Try.underlying44 hi0 hz0 .i64 .i64 (k : Int) (k : Int) (by omega) (by omega) (by rw [hz2]; omega) (by omega)
  obtain rfl := hv.out
  go_enter Try.func57, Try.ntmps57
  go_wp2
  clear hmk hi0 hz0 hz1 hz2
  go_loopw [6, 11] (fun u i wr => ∃ j : Nat, j ≤ k ∧ i = .int .i64 (j : Int) ∧ wr = w.alloc (.cells (fill x k j) 5)) (fun _ i _ => k - (intOf i).toNat)
  case atStart => exact ⟨0, Nat.zero_le _, rfl, rfl⟩
  case round =>
    obtain ⟨j, hj, rfl, rfl⟩ := hrel
    by_cases hlt : j < k
    · obtain ⟨v0, hv0⟩ := fill_at (n := x) hlt
      obtain ⟨y, hy⟩ : ∃ y : Int, (k : Int) - 1 - (j : Int) = y := ⟨_, rfl⟩
      have hy0 : 0 ≤ y := by omega
      have hy1 : y ≤ 6 := by omega
      have HS := hid (show z / 2 ^ (8 * y).toNat % 256 = (x : Int) / 2 ^ (8 * (k - 1 - j)) % 256 by rw [hz.out, show (8 * y).toNat = 8 * (k - 1 - j) by omega])
      go_wp2
      go_roundw
      case rel => exact ⟨j + 1, by omega, by go_num, by rw [fill, ← HS.out]⟩
      case measure => simp [intOf]; omega
    · have hf := hid (fill_done x k)
      have ej : j = k := by omega
      subst ej
      go_wp2
      go_ret
      exact ⟨rfl, by rw [hf.out]⟩

set_option maxRecDepth 100000 in
set_option maxHeartbeats 800000 in
theorem grow_of (k : Nat) (z : Int) (hz : Hid ((k : Int) = z)) (h0 : 0 < k) (hk : k ≤ 10000) (w : World) :
    Calls Try.prog 85 #[.slice none 0 0, .int .i64 z] w fun e w' => ∃ g c, e = .returned (.slice (some ⟨g, 0, none⟩) 0 c) ∧ Own w' w.heap.size 5 (some ⟨g, 0, none⟩) c [] ∧ Below w.heap.size w w' := by
  obtain ⟨i0, hi0, hz0, hz1, hz2⟩ := info_parts info_u8
  have hr := Lib.run_append_nil_zeros (P := Try.prog) w 44 3 44 5 i0 _ .i64 .i64 Try.underlying44 Try.underlying3 hi0 hz0 k h0 (by omega) (by omega) (by rw [hz2]; omega)
  rw [hz.out] at hr
  have hge := grownCap_ge w k 0 5
  have hcm : grownCap w k 0 5 ≤ maxLen := grownCap_le_maxLen w _ _ _ (by unfold maxLen; omega)
  have hown : Own (w.drew.alloc (.cells (Builtin.zeroCells (Value.int .u8 0).cells k ++ Builtin.zeroCells (Value.int .u8 0).cells (grownCap w k 0 5 - k)) 5)) w.heap.size 5 (some ⟨w.heap.size, 0, none⟩) (grownCap w k 0 5) [] :=
    ⟨by simp [u8s], .inr ⟨w.heap.size, grownCap w k 0 5, _, by simp, Nat.le_refl _, heap_alloc_new w.drew _, Nat.zero_le _, hcm, by
      simp only [Value.cells, zero_cells, Array.size_append, List.size_toArray, u8s_length, List.length_replicate, Nat.mul_one]
      omega, by simp [u8s]⟩⟩
  have hB : Below w.heap.size w (w.drew.alloc (.cells (Builtin.zeroCells (Value.int .u8 0).cells k ++ Builtin.zeroCells (Value.int .u8 0).cells (grownCap w k 0 5 - k)) 5)) := ((Below.refl _ w).drew).alloc (Nat.le_refl _) _
  have HC := hid hcm
  have hc9 : (grownCap w k 0 5 : Int) ≤ 9223372036854775807 := by unfold maxLen at hcm; omega
  have z0 : 0 < z := by rw [← hz.out]; omega
  have z1 : z ≤ 10000 := by rw [← hz.out]; omega
  clear hcm
  generalize grownCap w k 0 5 = cap at *
  generalize w.drew.alloc _ = W at *
  have HR := hid hr
  clear hr
  go_enter Try.func85, Try.ntmps85
  go_wp2_with (at_builtin; refine Lib.wpList_append_run _ rfl (.tmp 20) (.tmp 21) 44 3 rfl (.slice none 0 0) (.int .i64 z) rfl rfl _ _ HR.out ?_)
  go_ret
  exact ⟨_, _, rfl, hown, hB⟩

/-- Slices of bytes that lie side by side in a row. -/
def Parts (w : World) (g : Nat) (ls : List (List UInt8)) : Prop := ∀ j (h : j < ls.length), ∃ A c, w.cell? ⟨g, j, none⟩ = some (.slice A (ls[j]).length c) ∧ Rd w A c ls[j]
theorem flat_take {ls : List (List UInt8)} {j : Nat} (h : j < ls.length) : (ls.take (j + 1)).flatten = (ls.take j).flatten ++ ls[j] := by
  rw [List.take_succ_eq_append_getElem h, List.flatten_append]
  simp
theorem flat_le (ls : List (List UInt8)) (j : Nat) : (ls.take j).flatten.length ≤ ls.flatten.length := by
  have := congrArg (fun l => l.flatten.length) (List.take_append_drop j ls)
  simp only [List.flatten_append, List.length_append] at this
  omega

set_option maxRecDepth 100000 in
set_option maxHeartbeats 1600000 in
theorem concat_of (g m k : Nat) (ls : List (List UInt8)) (L : List UInt8) (hm : Hid (ls.length = m)) (hL : Hid (ls.flatten = L ∧ L.length = k)) (h0 : 0 < k) (h5 : k ≤ 1000) (hm5 : m ≤ 100) (w : World) (hp : Parts w g ls) :
    Calls Try.prog 56 #[.slice (some ⟨g, 0, none⟩) m m] w fun e w' => ∃ A c, e = .returned (.slice A k c) ∧ Own w' w.heap.size 5 A c L ∧ Below w.heap.size w w' := by
  obtain ⟨i0, hi0, hz0, hz1, hz2⟩ := info_parts info_u8
  have HP := hid hp
  have HF := hid (flat_le ls)
  clear hp
  go_enter Try.func56, Try.ntmps56
  go_wp2
  go_loop [3, 5, 11] (fun s x i => ∃ (j : Nat) (y : Int), j ≤ m ∧ i = .int .i64 (j : Int) ∧ s = .int .i64 y ∧ Hid (((ls.take j).flatten.length : Int) = y) ∧ 0 ≤ y ∧ y ≤ 1000) (fun _ _ i => m - (intOf i).toNat)
  case atStart => exact ⟨0, 0, by omega, rfl, rfl, hid (by simp), by omega, by omega⟩
  case round =>
    obtain ⟨j, y, hj, rfl, rfl, hy, y0, y1⟩ := hrel
    by_cases hlt : j < m
    · have hl := hm.out
      obtain ⟨A, c, h1, h2⟩ := HP.out j (by omega)
      rw [show (⟨g, j, none⟩ : Addr) = ⟨g, 0 + j, none⟩ by simp] at h1
      have hs := flat_take (ls := ls) (j := j) (by omega)
      have hle := HF.out (j + 1)
      rw [hs, List.length_append] at hle
      generalize ls[j]'(by omega) = l at h1 h2 hs hle
      obtain ⟨q, hq⟩ : ∃ q, l.length = q := ⟨_, rfl⟩
      rw [hq] at h1 hle
      have hx := h2.cap
      have hx2 := h2.len
      have hyq : y + (q : Int) ≤ 1000 := by have := hy.out; have := hL.out; rw [hL.out.1] at hle; omega
      have HS := hid (show (((ls.take (j + 1)).flatten.length : Nat) : Int) = y + (q : Int) by rw [hs, List.length_append, hq]; have := hy.out; omega)
      have hlt2 : (j : Int) < (m : Int) := by omega
      have h1' : w.cell? ⟨g, j, none⟩ = some (.slice A q c) := by simpa using h1
      clear hl hle hs h2 h1 hx hx2 hq
      go_wp2
      go_round
      case rel => exact ⟨j + 1, y + (q : Int), by omega, by go_num, rfl, HS, by omega, by omega⟩
      case measure => simp [intOf]; omega
    · have hlt2 : ¬ (j : Int) < (m : Int) := by omega
      have ej : ls.take j = ls := List.take_of_length_le (by have := hm.out; omega)
      have hyk : (k : Int) = y := by have := hy.out; rw [ej, hL.out.1, hL.out.2] at this; exact this
      have HY := hid hyk
      have HFL := hid hL.out.1
      clear ej hyk hy
      go_wp2_with fail
      refine (grow_of k y HY h0 (by omega) _).mono ?_
      rintro e w1 ⟨g1, c1, rfl, ho1, b1⟩
      go_wp2
      go_loopw [6, 8, 27] (fun b x i wr => ∃ (j q : Nat) (B : Option Addr) (d : Nat), j ≤ m ∧ i = .int .i64 (j : Int) ∧ b = .slice B q d ∧ Hid ((ls.take j).flatten.length = q) ∧ q ≤ 1000 ∧ Own wr w.heap.size 5 B d (ls.take j).flatten ∧ Below w.heap.size w wr) (fun _ _ i _ => m - (intOf i).toNat)
      case atStart => exact ⟨0, 0, some ⟨g1, 0, none⟩, c1, by omega, rfl, rfl, hid (by simp), by omega, by simpa using ho1, b1⟩
      case round =>
        obtain ⟨j, q, B, d, hj, rfl, rfl, hq, hq5, ho, hb⟩ := hrel
        by_cases hlt : j < m
        · have hl := hm.out
          obtain ⟨A, c, h1, h2⟩ := HP.out j (by omega)
          have hs := flat_take (ls := ls) (j := j) (by omega)
          have hle := HF.out (j + 1)
          rw [hs, List.length_append] at hle
          generalize ls[j]'(by omega) = l at h1 h2 hs hle
          obtain ⟨p, hp⟩ : ∃ p, l.length = p := ⟨_, rfl⟩
          rw [hp] at h1 hle
          replace h1 := keep hb h1
          replace h2 := h2.keep hb
          have hpq : q + p ≤ 1000 := by have := hq.out; have := hL.out; rw [hL.out.1] at hle; omega
          have HS := hid hs
          have HP2 := hid hp
          have hlt2 : (j : Int) < (m : Int) := by omega
          clear hl hle hs hp
          go_wp2_with (at_builtin; refine wpList_append_rd rfl (.tmp 31) (.tmp 32) _ rfl w.heap.size 5 Try.underlying44 hi0 hz0 hz1 hz2 B q d _ hq rfl ho A p c l HP2 rfl h2 (by omega) hb.size ?_; intro B' d' w2 ho2 b2)
          go_roundw
          case rel => exact ⟨j + 1, q + p, B', d', by omega, by go_num, rfl, hid (by rw [HS.out, List.length_append, hq.out, HP2.out]), hpq, by rw [HS.out]; exact ho2, hb.trans b2⟩
          case measure => simp [intOf]; omega
        · have hlt2 : ¬ (j : Int) < (m : Int) := by omega
          have ej : ls.take j = ls := List.take_of_length_le (by have := hm.out; omega)
          have HE := hid (show (ls.take j).flatten = L ∧ q = k by rw [ej]; refine ⟨HFL.out, ?_⟩; have := hq.out; rw [ej, HFL.out, hL.out.2] at this; exact this.symm)
          rw [HE.out.1] at ho
          obtain rfl := HE.out.2
          clear ej
          go_wp2
          go_ret
          exact ⟨B, d, rfl, ho, hb⟩
end Go.Proofs.Ytbhglgcnoidddaa
