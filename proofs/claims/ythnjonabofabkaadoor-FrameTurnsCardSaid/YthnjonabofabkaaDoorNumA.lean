/-
  The contracts of the small functions of num: told, following, value, digits.
-/
import Derived.Test.YthnjonabofabkaaDoorRows
import Derived.Test.YthnjonabofabkaaDoorMem
import Derived.Test.YthnjonabofabkaaDoorNumM
import Derived.Outline
import Derived.LoopTactic
import Derived.WalkMore
import Derived.Deep.LoopGhost
namespace Go.Proofs.YthnjonabofabkaaDoor
open Go.RowKit
set_option linter.unusedVariables false

theorem ret_int {k : IntKind} {a b : Int} (h : a = b) : Ending.returned (.int k a) = .returned (.int k b) := by rw [h]

set_option maxHeartbeats 400000 in
theorem told_any (b : UInt8) (w : World) :
    Calls Tryd.prog 35 #[.int .u8 (b.toNat : Int)] w fun e w' => e = .returned (.int .i64 (told b : Int)) ∧ w = w' := by
  have hb := b.toNat_lt
  have H := hid hb
  have h1 : (b.toNat : Int) ≤ 255 := by omega
  clear hb
  by_cases h : b.toNat ≤ 247
  · have e1 : (told b : Int) = 1 := by simp [told, h]
    have H1 := hid e1
    clear e1
    go_enter Tryd.func35, Tryd.ntmps35
    go_wp2
    go_ret
    exact ⟨ret_int H1.out.symm, rfl⟩
  · have e1 : (told b : Int) = b.toNat - 246 := by simp [told, h]; omega
    have H1 := hid e1
    clear e1
    go_enter Tryd.func35, Tryd.ntmps35
    go_wp2
    go_ret
    exact ⟨ret_int (by rw [H1.out]; omega), rfl⟩

set_option maxHeartbeats 400000 in
theorem following_any (n : Nat) (hn : n < 72057594037927936) (w : World) :
    Calls Tryd.prog 30 #[.int .i64 (n : Int)] w fun e w' => e = .returned (.int .i64 (bl n : Int)) ∧ w = w' := by
  have hn' : (n : Int) < 72057594037927936 := by omega
  have hbl : bl n ≤ 100 := by
    have := bl_le 8 n (by omega)
    omega
  clear hn
  go_enter Tryd.func30, Tryd.ntmps30
  go_wp2
  go_step3
  go_wp2
  go_step3
  go_wp2
  go_loopg [3, 4] n (fun g m r wr => ∃ k : Nat, g ≤ n ∧ m = .int .i64 (k : Int) ∧ r = .int .u64 (g : Int) ∧ k + bl g = bl n ∧ wr = w)
  case atStart => exact ⟨0, Nat.le_refl _, rfl, rfl, by omega, rfl⟩
  case round =>
    obtain ⟨k, hg, rfl, rfl, hk, rfl⟩ := hrel
    have hk100 : (k : Int) ≤ 100 := by omega
    by_cases h0 : gk = 0
    · subst h0
      rw [bl_zero] at hk
      have H := hid hk
      clear hk
      go_wp2
      rw [Exit.noGoto_ret]
      go_ret
      exact ⟨ret_int (by have := H.out; omega), rfl⟩
    · have hb := bl_succ (show 0 < gk by omega)
      have H := hid hb
      have hm : 0 < gk := by omega
      have H2 := hid hk
      have ht : ((gk : Int) == 0) = false := by simp; omega
      clear hb hk h0 hbl
      go_wp2
      go_roundg (gk / 256)
      case measure => omega
      case rel => exact ⟨k + 1, by omega, by go_num, by go_num, by have := H.out; have := H2.out; omega, rfl⟩

/-- What the loop of 'value' comes to, run over or not. -/
def vs (l : List UInt8) : Int := l.foldl (fun a d => bits .or .i64 (wrap64 (a * 256)) (d.toNat : Int)) 0
theorem vs_snoc (l : List UInt8) (d : UInt8) : vs (l ++ [d]) = bits .or .i64 (wrap64 (vs l * 256)) (d.toNat : Int) := by simp [vs]
def rvI : List UInt8 → Int
  | [b] => b.toNat
  | l => vs l.tail

set_option maxHeartbeats 400000 in
theorem value_any (b o c : Nat) (x : UInt8) (l : List UInt8) (n : Nat) (w : World) (hn : Hid ((x :: l).length = n)) (h8 : n ≤ 9) (hc : (n : Int) ≤ (c : Int)) (hc2 : (c : Int) ≤ 9223372036854775807)
    (hcell : ∀ j (h : j < (x :: l).length), w.cell? ⟨b, o + j, none⟩ = some (.int .u8 ((x :: l)[j].toNat : Int))) :
    Calls Tryd.prog 36 #[.slice (some ⟨b, o, none⟩) n c] w fun e w' => e = .returned (.int .i64 (rvI (x :: l))) ∧ w = w' := by
  match l with
  | [] =>
    have e := hn.out
    simp at e
    subst e
    have h0 := hcell 0 (by simp)
    simp only [Nat.add_zero, List.getElem_cons_zero] at h0
    have H := hid (show rvI [x] = x.toNat from rfl)
    have hx := x.toNat_lt
    have hx1 : (x.toNat : Int) ≤ 255 := by omega
    clear hn hcell hx
    go_enter Tryd.func36, Tryd.ntmps36
    go_wp2
    go_ret
    exact ⟨ret_int (by rw [H.out]), rfl⟩
  | y :: l =>
    have e := hn.out
    have H := hid (show rvI (x :: y :: l) = vs (y :: l) from rfl)
    have hn2 : (2 : Int) ≤ n := by simp at e; omega
    have hn1 : ((n : Int) == 1) = false := by simp; omega
    have hcs : ∀ j, j + 1 < n → ∃ d : UInt8, (y :: l).take (j + 1) = (y :: l).take j ++ [d] ∧ w.cell? ⟨b, o + 1 + j, none⟩ = some (.int .u8 (d.toNat : Int)) ∧ (d.toNat : Int) ≤ 255 := by
      intro j hj
      have h1 := hcell (j + 1) (by omega)
      have h2 : j < (y :: l).length := by simp at e ⊢; omega
      refine ⟨(y :: l)[j], List.take_succ_eq_append_getElem h2, ?_, by have := ((y :: l)[j]).toNat_lt; omega⟩
      rw [show o + 1 + j = o + (j + 1) by omega, h1]; rfl
    have HC := hid hcs
    have HL := hid (show (y :: l).length = n - 1 by simp at e ⊢; omega)
    clear e hcell hcs
    go_enter Tryd.func36, Tryd.ntmps36
    go_wp2
    go_loop [3, 16] (fun v i => ∃ j : Nat, j + 1 ≤ n ∧ i = .int .i64 (j : Int) ∧ v = .int .i64 (vs ((y :: l).take j))) (fun _ i => n - (intOf i).toNat)
    case atStart => exact ⟨0, by omega, rfl, rfl⟩
    case round =>
      obtain ⟨j, hj, rfl, rfl⟩ := hrel
      by_cases hlt : j + 1 < n
      · obtain ⟨d, hd, hcell, hd2⟩ := HC.out j hlt
        have HD := hid (vs_snoc ((y :: l).take j) d)
        rw [← hd] at HD
        have hlt2 : (j : Int) < ↑(n - 1) := by omega
        clear hd
        go_wp2
        go_round
        case rel => exact ⟨j + 1, by omega, by go_num, by rw [HD.out]⟩
        case measure => simp [intOf]; omega
      · have hlt2 : ¬ (j : Int) < ↑(n - 1) := by omega
        have ht : (y :: l).take j = y :: l := List.take_of_length_le (by have := HL.out; omega)
        have HT := hid ht
        clear ht
        go_wp2
        go_ret
        exact ⟨ret_int (by rw [H.out, HT.out]), rfl⟩

theorem or_add (a d : Nat) (ha : a * 256 < 9223372036854775808) (hd : d < 256) : bits .or .i64 (wrap64 ((a : Int) * 256)) (d : Int) = ((a * 256 + d : Nat) : Int) := by
  have e1 : wrap64 ((a : Int) * 256) = ((a * 256 : Nat) : Int) := by unfold wrap64; omega
  have e2 : a * 256 ||| d = a * 256 + d := by
    have := Nat.shiftLeft_add_eq_or_of_lt (show d < 2 ^ 8 by omega) a
    rw [Nat.shiftLeft_eq] at this
    exact this.symm
  have ofs : ∀ x : Nat, x < 9223372036854775808 → (BitVec.ofInt 64 (x : Int)).toNat = x := by
    intro x hx
    rw [BitVec.ofInt_natCast, BitVec.toNat_ofNat]
    exact Nat.mod_eq_of_lt (by omega)
  rw [e1]
  show IntKind.i64.wrap ((BitVec.ofInt 64 ((a * 256 : Nat) : Int) ||| BitVec.ofInt 64 (d : Int)).toNat : Int) = _
  rw [BitVec.toNat_or, ofs _ (by omega), ofs _ (by omega), e2, IntKind.wrap_i64]
  omega
theorem vs_vl : ∀ (r : List UInt8), r.length ≤ 7 → vs r.reverse = (vl r.reverse : Nat)
  | [], _ => rfl
  | d :: r, h => by
    have ih := vs_vl r (by simp at h; omega)
    have hl := vl_lt r.reverse
    have h6 : 256 ^ r.reverse.length ≤ 256 ^ 6 := Nat.pow_le_pow_right (by decide) (by simp at h ⊢; omega)
    rw [List.reverse_cons, vs_snoc, vl_snoc, ih]
    exact or_add _ _ (by omega) d.toNat_lt
theorem rvI_rv {l : List UInt8} (h : l.length ≤ 8) : rvI l = rv l := by
  match l with
  | [] => rfl
  | [b] => rfl
  | b :: c :: l =>
    have := vs_vl (c :: l).reverse (by simp at h ⊢; omega)
    rw [List.reverse_reverse] at this
    exact this

def fill (n k : Nat) : Nat → Array Value
  | 0 => madeCells #[.int .u8 0] k
  | j + 1 => (fill n k j).setIfInBounds j (.int .u8 ((n : Int) / 2 ^ (8 * (k - 1 - j)) % 256))
theorem fill_size (n k : Nat) : ∀ j, (fill n k j).size = k
  | 0 => by simp [fill, size_madeCells]
  | j + 1 => by simp [fill, fill_size n k j]
theorem fill_at {n k j : Nat} (h : j < k) : ∃ v, (fill n k j)[j]? = some v := ⟨_, Array.getElem?_eq_getElem (by rw [fill_size]; exact h)⟩
theorem fill_get (n k : Nat) : ∀ j i, i < j → i < k → (fill n k j)[i]? = some (.int .u8 ((n : Int) / 2 ^ (8 * (k - 1 - i)) % 256))
  | j + 1, i, h, hk => by
    rw [fill, Array.getElem?_setIfInBounds]
    by_cases e : j = i
    · subst e; simp [fill_size, hk]
    · rw [if_neg e]; exact fill_get n k j i (by omega) hk
theorem dg_get : ∀ (k n i : Nat) (h : i < (dg k n).length), ((dg k n)[i].toNat : Int) = (n : Int) / 2 ^ (8 * (k - 1 - i)) % 256
  | 0, n, i, h => by simp [dg] at h
  | k + 1, n, i, h => by
    have hl := dg_length k (n / 256)
    simp only [dg, List.getElem_append]
    rw [dg_length] at h
    by_cases hi : i < (dg k (n / 256)).length
    · rw [dif_pos hi, dg_get k (n / 256) i hi]
      have e : 8 * (k + 1 - 1 - i) = 8 + 8 * (k - 1 - i) := by omega
      rw [e, Int.pow_add, Int.natCast_ediv, Int.ediv_ediv_of_nonneg (by decide)]
      rfl
    · rw [dif_neg hi]
      have e : i = k := by omega
      subst e
      simp
theorem fill_done (n k : Nat) : fill n k k = (u8s (dg k n)).toArray := by
  apply Array.ext_getElem?
  intro i
  by_cases hi : i < k
  · rw [fill_get n k k i hi hi]
    have hd : i < (dg k n).length := by rw [dg_length]; exact hi
    simp [u8s, List.getElem?_eq_getElem hd, dg_get k n i hd]
  · rw [Array.getElem?_eq_none (by rw [fill_size]; omega), Array.getElem?_eq_none (by simp [u8s, dg_length]; omega)]

set_option maxHeartbeats 400000 in
theorem digits_any (n k : Nat) (hn : n < 72057594037927936) (hk : k ≤ 8) (w : World) :
    Calls Tryd.prog 28 #[.int .i64 (n : Int), .int .i64 (k : Int)] w fun e w' => e = .returned (.slice (some ⟨w.heap.size, 0, none⟩) k k) ∧ w' = w.alloc (.cells (u8s (dg k n)).toArray 5) := by
  obtain ⟨i0, hi0, hz0, hz1, hz2⟩ := info_parts (show (Tryd.prog.info? 5).map (fun i => (i.zero, i.size, i.bytes)) = some (some (.int .u8 0), 1, 1) by kernel_rfl)
  have hmk := fun W : World => run_make (P := Tryd.prog) W 23 5 i0 _ Tryd.underlying23 hi0 hz0 .i64 .i64 (k : Int) (k : Int) (by omega) (by omega) (by rw [hz2]; omega) (by omega)
  go_enter Tryd.func28, Tryd.ntmps28
  go_wp2
  clear hmk hi0 hz0 hz1 hz2
  go_loopw [11] (fun i wr => ∃ j : Nat, j ≤ k ∧ i = .int .i64 (j : Int) ∧ wr = w.alloc (.cells (fill n k j) 5)) (fun i _ => k - (intOf i).toNat)
  case atStart => exact ⟨0, Nat.zero_le _, rfl, rfl⟩
  case round =>
    obtain ⟨j, hj, rfl, rfl⟩ := hrel
    by_cases hlt : j < k
    · obtain ⟨v0, hv0⟩ := fill_at (n := n) hlt
      go_wp2
      go_roundw
      case rel => exact ⟨j + 1, by omega, by go_num, rfl⟩
      case measure => simp [intOf]; omega
    · have hf := hid (fill_done n k)
      have ej : j = k := by omega
      subst ej
      go_wp2
      go_ret
      exact ⟨rfl, by rw [hf.out]⟩
end Go.Proofs.YthnjonabofabkaaDoor
