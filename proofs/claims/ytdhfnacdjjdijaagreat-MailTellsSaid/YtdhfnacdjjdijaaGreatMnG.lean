/-
  The document's own answer of layer 10: a number out of some bytes.
-/
import Derived.Test.YtdhfnacdjjdijaaGreatMlA
namespace Go.Proofs.YtdhfnacdjjdijaaGreat
open Go.RowKit
set_option linter.unusedVariables false
set_option linter.unusedSimpArgs false

set_option maxRecDepth 100000 in
set_option maxHeartbeats 1600000 in
theorem rnum_of (k f : Nat) (u v z : Int) (A : Option Addr) (n c : Nat) (l : List UInt8) (hu : u = (f : Int)) (hv : v = (k : Int)) (hk : k ≤ 4) (hf : f ≤ 20) (hn : Hid (l.length = n)) (hz : Hid (nu k (l.drop f) = z)) (w : World) (hr : Rd w A c l) :
    Calls Tryz.prog 32 #[.slice A n c, .int .i64 u, .int .i64 v] w fun e w' => e = .returned (.int .i64 z) ∧ w = w' := by
  have hc2 : (c : Int) ≤ 9223372036854775807 := by have := hr.cap; omega
  have hc1 : (n : Int) ≤ c := by have := hr.len; have := hn.out; omega
  subst hu hv
  have HR := hid hr
  clear hr
  go_enter Tryz.func32, Tryz.ntmps32
  go_wp2
  go_loop [7, 8] (fun v i => ∃ (j : Nat) (i1 y : Int), j ≤ k ∧ i1 = (f : Int) + (j : Int) ∧ i = .int .i64 i1 ∧ v = .int .i64 y ∧ Hid ((vl ((l.drop f).take j) : Int) = y)) (fun _ i => f + k - (intOf i).toNat)
  case atStart => exact ⟨0, f, 0, by omega, by omega, rfl, rfl, hid rfl⟩
  case round =>
    obtain ⟨j, i1, y, hj, hi1, rfl, rfl, hy⟩ := hrel
    by_cases hjk : j < k
    · have hlt2 : i1 < (f : Int) + (k : Int) := by omega
      by_cases hin : f + j < n
      · have hl := hn.out
        have hin2 : i1 < (n : Int) := by omega
        obtain ⟨b, o, rfl, hcell⟩ := HR.out.at_ (by omega)
        have h1 := hcell (f + j) (by omega)
        have hs := vl_take (l := l.drop f) (j := j) (by rw [List.length_drop]; omega)
        have hsm := vl_small (l.drop f) (show j ≤ 6 by omega)
        have he : (l.drop f)[j]'(by rw [List.length_drop]; omega) = l[f + j]'(by omega) := by rw [List.getElem_drop]
        rw [he] at hs
        generalize l[f + j]'(by omega) = d at h1 hs
        have hi0 : 0 ≤ i1 := by omega
        have hd := d.toNat_lt
        have hd2 : (d.toNat : Int) ≤ 255 := by omega
        have y0 : 0 ≤ y := by rw [← hy.out]; omega
        have y1 : y < 281474976710656 := by have := hy.out; simp at hsm; omega
        have HS := hid (show (vl ((l.drop f).take (j + 1)) : Int) = 256 * y + d.toNat by rw [hs]; have := hy.out; omega)
        clear hs hsm hd hcell hl he
        go_wp2
        go_round
        case rel => exact ⟨j + 1, i1 + 1, _, by omega, by omega, by go_num, rfl, HS⟩
        case measure => simp [intOf]; omega
      · have hin2 : ¬ i1 < (n : Int) := by omega
        have HE := hid (show (l.drop f).take j = (l.drop f).take k by
          have hl := hn.out
          rw [List.take_of_length_le (by rw [List.length_drop]; omega), List.take_of_length_le (by rw [List.length_drop]; omega)])
        go_wp2
        go_ret
        exact ⟨ret_int (by rw [← hz.out, ← hy.out, HE.out]; rfl), rfl⟩
    · have ej : j = k := by omega
      have hlt2 : ¬ i1 < (f : Int) + (k : Int) := by omega
      subst ej
      go_wp2
      go_ret
      exact ⟨ret_int (by rw [← hz.out, ← hy.out]; rfl), rfl⟩
end Go.Proofs.YtdhfnacdjjdijaaGreat
