/-
  The contracts of what Check gathers: counts, clearances, users, quotas.
-/
import Derived.Test.YtbigppdaoakkfaaPoW
import Derived.BigRegion
import Derived.Deep.RegionHeld
namespace Go.Proofs.Ytbigppdaoakkfaa
open Go.RowKit
set_option linter.unusedVariables false
set_option linter.unusedSimpArgs false

theorem count_any (n m : Int) (w : World) :
    Calls Try.prog 40 #[.int .i64 n, .int .i64 m] w fun e w' => e = .returned (.int .i64 (er (inR n m))) ∧ w = w' := by
  by_cases h : n < 0
  · have h1 : decide (n < 0) = true := by simpa using h
    have H := hid (show er (inR n m) = 8 by simp [er, inR]; omega)
    clear h
    go_enter Try.func40, Try.ntmps40
    go_wp2
    go_ret
    exact ⟨ret_int H.out.symm, rfl⟩
  · have h1 : decide (n < 0) = false := by simpa using h
    by_cases g : m < n
    · have h2 : decide (m < n) = true := by simpa using g
      have H := hid (show er (inR n m) = 8 by simp [er, inR]; omega)
      clear h g
      go_enter Try.func40, Try.ntmps40
      go_wp2
      go_ret
      exact ⟨ret_int H.out.symm, rfl⟩
    · have h2 : decide (m < n) = false := by simpa using g
      have H := hid (show er (inR n m) = 0 by rw [er, inR, if_pos (by simp; omega)])
      clear h g
      go_enter Try.func40, Try.ntmps40
      go_wp2
      go_ret
      exact ⟨ret_int H.out.symm, rfl⟩

theorem gath_drop {l : List Int} {j : Nat} (h : j < l.length) : gath (l.drop j) = if l[j] = 0 then gath (l.drop (j + 1)) else l[j] := by
  rw [List.drop_eq_getElem_cons h, gath]

set_option maxHeartbeats 400000 in
theorem gather_rd (z : Int) (A : Option Addr) (n c : Nat) (l : List Int) (hn : Hid (l.length = n)) (hz : Hid (gath l = z)) (w : World) (hr : RdE w A c l) :
    Calls Try.prog 37 #[.slice A n c] w fun e w' => e = .returned (.int .i64 z) ∧ w = w' := by
  have hc2 : (c : Int) ≤ 9223372036854775807 := by have := hr.cap; omega
  have hc1 : (n : Int) ≤ c := by have := hr.len; have := hn.out; omega
  have HR := hid hr
  clear hr
  go_enter Try.func37, Try.ntmps37
  go_wp2
  go_loop [4, 7] (fun x i => ∃ j : Nat, j ≤ n ∧ i = .int .i64 (j : Int) ∧ Hid (gath (l.drop j) = z)) (fun _ i => n - (intOf i).toNat)
  case atStart => exact ⟨0, by omega, rfl, hid (by simpa using hz.out)⟩
  case round =>
    obtain ⟨j, hj, rfl, hy⟩ := hrel
    by_cases hlt : j < n
    · have hl := hn.out
      obtain ⟨b, o, rfl, hcell⟩ := HR.out.at_ (by omega)
      have h1 := hcell j (by omega)
      have hs := gath_drop (l := l) (j := j) (by omega)
      generalize l[j]'(by omega) = d at h1 hs
      have hlt2 : (j : Int) < (n : Int) := by omega
      have HS := hid hs
      clear hs hcell hl
      by_cases hd : d = 0
      · subst hd
        go_wp2
        go_round
        case rel => exact ⟨j + 1, by omega, by go_num, hid (by rw [← hy.out, HS.out, if_pos rfl])⟩
        case measure => simp [intOf]; omega
      · have hd2 : (d != 0) = true := by simpa using hd
        have HD := hid hd
        clear hd
        go_wp2
        go_ret
        exact ⟨ret_int (by rw [← hy.out, HS.out, if_neg HD.out]), rfl⟩
    · have ej : gath (l.drop j) = 0 := by rw [List.drop_of_length_le (by have := hn.out; omega)]; rfl
      have hlt2 : ¬ (j : Int) < (n : Int) := by omega
      have HE := hid ej
      clear ej
      go_wp2
      go_ret
      exact ⟨ret_int (by rw [← hy.out, HE.out]), rfl⟩

/-- Of two, four, five that have just been laid side by side. -/
theorem gather2 (a b : Int) (w : World) :
    Calls Try.prog 37 #[.slice (some ⟨w.heap.size, 0, none⟩) 2 2] (w.alloc (.cells #[.int .i64 a, .int .i64 b] 26)) fun e w' => e = .returned (.int .i64 (gath [a, b])) ∧ w.alloc (.cells #[.int .i64 a, .int .i64 b] 26) = w' :=
  gather_rd (gath [a, b]) _ 2 2 [a, b] (hid rfl) (hid rfl) _ (lit_e w [a, b] (by simp))
theorem gather4 (a b c d : Int) (w : World) :
    Calls Try.prog 37 #[.slice (some ⟨w.heap.size, 0, none⟩) 4 4] (w.alloc (.cells #[.int .i64 a, .int .i64 b, .int .i64 c, .int .i64 d] 26)) fun e w' => e = .returned (.int .i64 (gath [a, b, c, d])) ∧ w.alloc (.cells #[.int .i64 a, .int .i64 b, .int .i64 c, .int .i64 d] 26) = w' :=
  gather_rd (gath [a, b, c, d]) _ 4 4 [a, b, c, d] (hid rfl) (hid rfl) _ (lit_e w [a, b, c, d] (by simp))
theorem gather5 (a b c d f : Int) (w : World) :
    Calls Try.prog 37 #[.slice (some ⟨w.heap.size, 0, none⟩) 5 5] (w.alloc (.cells #[.int .i64 a, .int .i64 b, .int .i64 c, .int .i64 d, .int .i64 f] 26)) fun e w' => e = .returned (.int .i64 (gath [a, b, c, d, f])) ∧ w.alloc (.cells #[.int .i64 a, .int .i64 b, .int .i64 c, .int .i64 d, .int .i64 f] 26) = w' :=
  gather_rd (gath [a, b, c, d, f]) _ 5 5 [a, b, c, d, f] (hid rfl) (hid rfl) _ (lit_e w [a, b, c, d, f] (by simp))

def sameC (l c : Int) (b : Bool) (l' c' : Int) (b' : Bool) : Bool := l == l' && c == c' && b == b'
def sameQ (l c o p k l' c' o' p' k' : Int) : Bool := l == l' && c == c' && o == o' && p == p' && k == k'
theorem stoodC : Try.prog.stoodInHeld 34 = false := by kernel_rfl
theorem stoodQ : Try.prog.stoodInHeld 67 = false := by kernel_rfl
theorem eql_clear (w : World) (a b a' b' : Int) (c c' : Bool) : (binOp .eql 34 (.agg #[.int .u8 a, .int .u32 b, .bool c]) (.agg #[.int .u8 a', .int .u32 b', .bool c'])).run Try.prog w = .ok (.bool (sameC a b c a' b' c')) w := by
  have e1 := stoodC
  unfold sameC
  by_cases h1 : a = a' <;> by_cases h2 : b = b' <;> cases c <;> cases c' <;> simp [go_sem, e1, h1, h2]
theorem neq_clear (w : World) (a b a' b' : Int) (c c' : Bool) : (binOp .neq 34 (.agg #[.int .u8 a, .int .u32 b, .bool c]) (.agg #[.int .u8 a', .int .u32 b', .bool c'])).run Try.prog w = .ok (.bool (!sameC a b c a' b' c')) w := by
  have e1 := stoodC
  unfold sameC
  by_cases h1 : a = a' <;> by_cases h2 : b = b' <;> cases c <;> cases c' <;> simp [go_sem, e1, h1, h2]
set_option maxHeartbeats 400000 in
theorem eql_quota (w : World) (a b c d m a' b' c' d' m' : Int) : (binOp .eql 67 (.agg #[.int .u8 a, .int .u32 b, .int .i64 c, .int .i64 d, .int .i64 m]) (.agg #[.int .u8 a', .int .u32 b', .int .i64 c', .int .i64 d', .int .i64 m'])).run Try.prog w = .ok (.bool (sameQ a b c d m a' b' c' d' m')) w := by
  have e1 := stoodQ
  unfold sameQ
  by_cases h1 : a = a' <;> by_cases h2 : b = b' <;> by_cases h3 : c = c' <;> by_cases h4 : d = d' <;> by_cases h5 : m = m' <;> simp [go_sem, e1, h1, h2, h3, h4, h5]
set_option maxHeartbeats 400000 in
theorem neq_quota (w : World) (a b c d m a' b' c' d' m' : Int) : (binOp .neq 67 (.agg #[.int .u8 a, .int .u32 b, .int .i64 c, .int .i64 d, .int .i64 m]) (.agg #[.int .u8 a', .int .u32 b', .int .i64 c', .int .i64 d', .int .i64 m'])).run Try.prog w = .ok (.bool (!sameQ a b c d m a' b' c' d' m')) w := by
  have e1 := stoodQ
  unfold sameQ
  by_cases h1 : a = a' <;> by_cases h2 : b = b' <;> by_cases h3 : c = c' <;> by_cases h4 : d = d' <;> by_cases h5 : m = m' <;> simp [go_sem, e1, h1, h2, h3, h4, h5]

set_option maxHeartbeats 400000 in
theorem clear_any (l c : Int) (b : Bool) (w : World) :
    Calls Try.prog 54 #[.agg #[.int .u8 l, .int .u32 c, .bool b]] w fun e w' => e = .returned (.int .i64 (er (clearB ⟨l, c, b⟩))) ∧ Below w.heap.size w w' := by
  have hE := neq_clear
  cases b
  · cases h : sameL l c 0 0
    · have h1 : sameC l c false 0 0 false = false := by simpa [sameC, sameL] using h
      have H := hid (show er (clearB ⟨l, c, false⟩) = 8 by simp [clearB, h, er])
      clear h
      go_enter Try.func54, Try.ntmps54
      go_wp2
      go_ret
      exact ⟨ret_int H.out.symm, by go_grown⟩
    · have h1 : sameC l c false 0 0 false = true := by simpa [sameC, sameL] using h
      have H := hid (show er (clearB ⟨l, c, false⟩) = er (mayL l) by simp [clearB, h])
      clear h
      go_enter Try.func54, Try.ntmps54
      go_wp2_with fail
      go_call check_any l c _ as e w1 ⟨rfl, b1⟩
      go_wp2
      go_ret
      exact ⟨ret_int H.out.symm, past_alloc b1⟩
  · have H := hid (show er (clearB ⟨l, c, true⟩) = er (mayL l) by simp [clearB])
    go_enter Try.func54, Try.ntmps54
    go_wp2_with fail
    go_call check_any l c _ as e w1 ⟨rfl, b1⟩
    go_wp2
    go_ret
    exact ⟨ret_int H.out.symm, past_alloc b1⟩
end Go.Proofs.Ytbigppdaoakkfaa
