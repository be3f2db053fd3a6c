/-
  The document's own handle and id of layer 9: what bytes tell, whatever they are.
-/
import Derived.Test.YtbhglgcnoidddaaOpS
import Derived.Test.YtbhglgcnoidddaaOpR
import Derived.BigRegion
namespace Go.Proofs.Ytbhglgcnoidddaa
open Go.RowKit
set_option linter.unusedVariables false
set_option linter.unusedSimpArgs false

theorem g_take {l : List UInt8} (h : l.length = 13) : gL (l.take 6) = gL l ∧ gC (l.take 6) = gC l ∧ gK (l.take 6) = gK l ∧ (l.take 6).length = 6 := by
  match l, h with
  | b0 :: b1 :: b2 :: b3 :: b4 :: b5 :: r, h => exact ⟨rfl, rfl, rfl, rfl⟩

theorem cells_drop {w : World} {b o : Nat} {l : List UInt8} (hcell : ∀ j (h : j < l.length), w.cell? ⟨b, o + j, none⟩ = some (.int .u8 (l[j].toNat : Int))) (k : Nat) {j : Nat} (hj : j < (l.drop k).length) : w.cell? ⟨b, o + (k + j), none⟩ = some (.int .u8 ((l.drop k)[j].toNat : Int)) := by
  rw [List.length_drop] at hj
  rw [hcell (k + j) (by omega)]
  simp

set_option maxRecDepth 100000 in
set_option maxHeartbeats 1600000 in
theorem rhan_of (x0 x1 x5 : Int) (A : Option Addr) (c : Nat) (l : List UInt8) (hn : Hid (l.length = 6)) (hx : Hid (gL l = x0 ∧ gC l = x1 ∧ gK l = x5)) (w : World) (hr : Rd w A c l) :
    Calls Try.prog 34 #[.slice A 6 c] w fun e w' => e = .returned (.agg #[.int .u8 x0, .int .u32 x1, .int .u8 x5]) ∧ Below w.heap.size w w' := by
  have hc1 : (6 : Int) ≤ c := by have := hr.len; have := hn.out; omega
  have hc2 : (c : Int) ≤ 9223372036854775807 := by have := hr.cap; omega
  have hln := hn.out
  obtain ⟨b, o, rfl, hcell⟩ := hr.at_ (by rw [hn.out]; omega)
  have p0 : w.cell? ⟨b, o, none⟩ = some (.int .u8 x0) := by
    have := hcell 0 (by omega)
    rw [← hx.out.1, gL, List.getD_eq_getElem?_getD, List.getElem?_eq_getElem (by omega), Option.getD_some]
    simpa using this
  have p5 : w.cell? ⟨b, o + 5, none⟩ = some (.int .u8 x5) := by
    have := hcell 5 (by omega)
    rw [← hx.out.2.2, gK, List.getD_eq_getElem?_getD, List.getElem?_eq_getElem (by omega), Option.getD_some]
    exact this
  have hz1 := gC_range l
  obtain ⟨L, hL⟩ : ∃ L, (l.drop 1).take 4 = L := ⟨_, rfl⟩
  have HL := hid (show L.length = 4 by rw [← hL, List.length_take, List.length_drop, hln]; omega)
  have HZ := hid (show (vl L : Int) = x1 by rw [← hL]; exact hx.out.2.1)
  have z0 : 0 ≤ x1 := by rw [← hx.out.2.1]; exact hz1.1
  have z1 : x1 < 4294967296 := by rw [← hx.out.2.1]; exact hz1.2
  have hC0 : ∀ j (hj : j < L.length), w.cell? ⟨b, o + (1 + j), none⟩ = some (.int .u8 (L[j].toNat : Int)) := by
    intro j hj
    subst hL
    rw [List.length_take] at hj
    rw [cells_drop hcell 1 (j := j) (by omega)]
    simp
  have HC0 := hid hC0
  clear hx hcell hn hln hr hz1 hL hC0
  go_enter Try.func34, Try.ntmps34
  go_wp2_with fail
  generalize hW : w.alloc _ = W
  have hbw : Below w.heap.size w W := by subst hW; go_grown
  (have t0 : W.cell? ⟨w.heap.size, 0, none⟩ = some (.int .u8 0) := ((by subst hW; simp [go_sem])); have t1 : W.cell? ⟨w.heap.size, 1, none⟩ = some (.int .u32 0) := ((by subst hW; simp [go_sem])); have t2 : W.cell? ⟨w.heap.size, 2, none⟩ = some (.int .u8 0) := ((by subst hW; simp [go_sem])))
  (have f0 : W.frozen? ⟨w.heap.size, 0, none⟩ = false := ((by subst hW; simp [go_sem])); have f1 : W.frozen? ⟨w.heap.size, 1, none⟩ = false := ((by subst hW; simp [go_sem])); have f2 : W.frozen? ⟨w.heap.size, 2, none⟩ = false := ((by subst hW; simp [go_sem])))
  replace p0 := keep hbw p0
  replace p5 := keep hbw p5
  have HC := hid (fun j hj => keep hbw (HC0.out j hj))
  clear hW HC0
  go_wp2
  go_loop [3, 4] (fun v i => ∃ (j : Nat) (y : Int), j ≤ 4 ∧ i = .int .i64 (((1 + j : Nat) : Nat) : Int) ∧ v = .int .i64 y ∧ Hid ((vl (L.take j) : Int) = y)) (fun _ i => 5 - (intOf i).toNat)
  case atStart => exact ⟨0, 0, by omega, rfl, rfl, hid rfl⟩
  case round =>
    obtain ⟨j, y, hj, rfl, rfl, hy⟩ := hrel
    by_cases hlt : j < 4
    · have h1 := HC.out j (by rw [HL.out]; exact hlt)
      have hs := vl_take (l := L) (j := j) (by rw [HL.out]; exact hlt)
      have hsm := vl_small L (show j ≤ 3 by omega)
      generalize L[j]'(by rw [HL.out]; exact hlt) = d at h1 hs
      have hd := d.toNat_lt
      have hd2 : (d.toNat : Int) ≤ 255 := by omega
      have y0 : 0 ≤ y := by rw [← hy.out]; omega
      have y1 : y < 16777216 := by have := hy.out; simp at hsm; omega
      have HS := hid (show ((vl (L.take (j + 1)) : Nat) : Int) = 256 * y + d.toNat by rw [hs]; have := hy.out; omega)
      have hlt2 : (((1 + j : Nat) : Nat) : Int) < 5 := by omega
      have hlt3 : (((1 + j : Nat) : Nat) : Int) < c := by omega
      clear hs hsm hd
      go_wp2
      go_round
      case rel => exact ⟨j + 1, _, by omega, by go_num, rfl, HS⟩
      case measure => simp [intOf]; omega
    · have ej : L.take j = L := List.take_of_length_le (by have := HL.out; omega)
      have hlt2 : ¬ (((1 + j : Nat) : Nat) : Int) < 5 := by omega
      have hyz : y = x1 := by rw [← hy.out, ej, HZ.out]
      subst hyz
      clear ej hy hj hlt
      go_wp2_with fail
      go_region
      all_goals
        go_wp2
        exact bodyPost_ret (v := .agg #[.int .u8 x0, .int .u32 y, .int .u8 x5]) (by simp [results, Try.results34, go_sem, t0, t1, t2]) rfl ⟨rfl, set3 hbw.drew (Nat.le_refl _) _ _ _⟩

set_option maxRecDepth 100000 in
set_option maxHeartbeats 1600000 in
theorem rid9_of (x0 x1 x5 x6 : Int) (A : Option Addr) (c : Nat) (l : List UInt8) (hn : Hid (l.length = 13)) (hx : Hid (gL l = x0 ∧ gC l = x1 ∧ gK l = x5 ∧ gN l = x6)) (w : World) (hr : Rd w A c l) :
    Calls Try.prog 35 #[.slice A 13 c] w fun e w' => e = .returned (.agg #[.int .u8 x0, .int .u32 x1, .int .u8 x5, .int .i64 x6]) ∧ Below w.heap.size w w' := by
  have hc1 : (13 : Int) ≤ c := by have := hr.len; have := hn.out; omega
  have hc2 : (c : Int) ≤ 9223372036854775807 := by have := hr.cap; omega
  have hln := hn.out
  obtain ⟨b, o, rfl, hcell⟩ := hr.at_ (by rw [hn.out]; omega)
  have hg := g_take hln
  have HT := hid (show (l.take 6).length = 6 from hg.2.2.2)
  have HG := hid (show gL (l.take 6) = x0 ∧ gC (l.take 6) = x1 ∧ gK (l.take 6) = x5 from ⟨hg.1.trans hx.out.1, hg.2.1.trans hx.out.2.1, hg.2.2.1.trans hx.out.2.2.1⟩)
  have hz1 := gN_range l (by omega)
  obtain ⟨L, hL⟩ : ∃ L, l.drop 6 = L := ⟨_, rfl⟩
  have HL := hid (show L.length = 7 by rw [← hL, List.length_drop, hln])
  have HZ := hid (show (vl L : Int) = x6 by rw [← hL]; exact hx.out.2.2.2)
  have hC0 : ∀ j (hj : j < L.length), w.cell? ⟨b, o + (6 + j), none⟩ = some (.int .u8 (L[j].toNat : Int)) := by
    intro j hj
    subst hL
    exact cells_drop hcell 6 hj
  have HC0 := hid hC0
  have HR0 := hid (hr.take 6)
  have ht := there_new w #[.int .u8 0, .int .u32 0, .int .u8 0, .int .i64 0] 28 4 rfl
  have hi : (Try.prog.info? 28).map (·.size) = some 4 := by kernel_rfl
  clear hx hcell hn hln hr hz1 hL hC0 hg
  go_enter Try.func35, Try.ntmps35
  go_wp2_with fail
  generalize hW : w.alloc _ = W
  rw [hW] at ht
  have hbw : Below w.heap.size w W := by subst hW; go_grown
  have HC := hid (fun j hj => keep hbw (HC0.out j hj))
  have HR := hid (HR0.out.keep hbw)
  clear hW HC0 HR0
  go_wp2
  go_loop [3, 4] (fun v i => ∃ (j : Nat) (y : Int), j ≤ 7 ∧ i = .int .i64 (((6 + j : Nat) : Nat) : Int) ∧ v = .int .i64 y ∧ Hid ((vl (L.take j) : Int) = y)) (fun _ i => 13 - (intOf i).toNat)
  case atStart => exact ⟨0, 0, by omega, rfl, rfl, hid rfl⟩
  case round =>
    obtain ⟨j, y, hj, rfl, rfl, hy⟩ := hrel
    by_cases hlt : j < 7
    · have h1 := HC.out j (by rw [HL.out]; exact hlt)
      have hs := vl_take (l := L) (j := j) (by rw [HL.out]; exact hlt)
      have hsm := vl_small L (show j ≤ 6 by omega)
      generalize L[j]'(by rw [HL.out]; exact hlt) = d at h1 hs
      have hd := d.toNat_lt
      have hd2 : (d.toNat : Int) ≤ 255 := by omega
      have y0 : 0 ≤ y := by rw [← hy.out]; omega
      have y1 : y < 281474976710656 := by have := hy.out; simp at hsm; omega
      have HS := hid (show ((vl (L.take (j + 1)) : Nat) : Int) = 256 * y + d.toNat by rw [hs]; have := hy.out; omega)
      have hlt2 : (((6 + j : Nat) : Nat) : Int) < 13 := by omega
      have hlt3 : (((6 + j : Nat) : Nat) : Int) < c := by omega
      clear hs hsm hd
      go_wp2
      go_round
      case rel => exact ⟨j + 1, _, by omega, by go_num, rfl, HS⟩
      case measure => simp [intOf]; omega
    · have ej : L.take j = L := List.take_of_length_le (by have := HL.out; omega)
      have hlt2 : ¬ (((6 + j : Nat) : Nat) : Int) < 13 := by omega
      have hyz : y = x6 := by rw [← hy.out, ej, HZ.out]
      subst hyz
      clear ej hy hj hlt
      go_wp2_with fail
      refine (rhan_of x0 x1 x5 (some ⟨b, o, none⟩) c (l.take 6) HT HG _ HR.out).mono ?_
      rintro e w1 ⟨rfl, b1⟩
      have ht1 := there_keep ht b1
      have hb1 := below_in hbw b1
      go_wp2_with (refine wpList_store_n rfl 28 _ Try.underlying28 rfl [.int .u8 x0, .int .u32 x1, .int .u8 x5, .int .i64 y] hi (.tmp 2) (.tmp 21) rfl w.heap.size rfl rfl (by simp [Value.oneCell']) ht1 w.heap.size (Nat.le_refl _) ?_; intro w4 r4 _ b4 h4 z4; have u0 : w4.cell? ⟨w.heap.size, 0, none⟩ = _ := r4 0 _ rfl; have u1 : w4.cell? ⟨w.heap.size, 1, none⟩ = _ := r4 1 _ rfl; have u2 : w4.cell? ⟨w.heap.size, 2, none⟩ = _ := r4 2 _ rfl; have u3 : w4.cell? ⟨w.heap.size, 3, none⟩ = _ := r4 3 _ rfl)
      exact bodyPost_ret (v := .agg #[.int .u8 x0, .int .u32 x1, .int .u8 x5, .int .i64 y]) (by simp [results, Try.results35, go_sem, u0, u1, u2, u3]) rfl ⟨rfl, hb1.trans b4⟩
end Go.Proofs.Ytbhglgcnoidddaa
