/-
  The contracts of the functions that read: value, get, GetHandle, Get.
-/
import Derived.Test.YtbhglgcnoidddaaIdP
import Derived.BigRegion
import Derived.Deep.RegionHeld
namespace Go.Proofs.Ytbhglgcnoidddaa
open Go.RowKit
set_option linter.unusedVariables false
set_option linter.unusedSimpArgs false

theorem Rd.drop {w : World} {b o : Nat} {c : Nat} {l : List UInt8} (h : Rd w (some ⟨b, o, none⟩) c l) (k : Nat) (hk : k < l.length) : Rd w (some ⟨b, o + k, none⟩) (c - k) (l.drop k) := by
  refine ⟨by have := h.1; rw [List.length_drop]; omega, by have := h.2.1; unfold maxLen at *; omega, fun _ => ⟨b, o + k, rfl, fun j hj => ?_⟩⟩
  obtain ⟨b1, o1, hA, hc⟩ := h.2.2 (by omega)
  injection hA with hA
  injection hA with h1 h2 h3
  subst h1 h2
  rw [List.length_drop] at hj
  rw [show o + k + j = o + (k + j) by omega, hc (k + j) (by omega)]
  simp
theorem Rd.empty {w : World} {A : Option Addr} {c : Nat} (hc : c ≤ maxLen) : Rd w A c [] := ⟨by simp, hc, fun h => absurd h (by simp)⟩

theorem or_add (z : Int) (d : UInt8) (z0 : 0 ≤ z) (z1 : z * 256 < 9223372036854775808) : bits .or .i64 (z * 256) (d.toNat : Int) = z * 256 + d.toNat := by
  obtain ⟨a, rfl⟩ : ∃ a : Nat, z = a := ⟨z.toNat, by omega⟩
  have hd := d.toNat_lt
  have e2 : a * 256 ||| d.toNat = a * 256 + d.toNat := by
    have := Nat.shiftLeft_add_eq_or_of_lt (show d.toNat < 2 ^ 8 by omega) a
    rw [Nat.shiftLeft_eq] at this
    exact this.symm
  have ofs : ∀ x : Nat, x < 9223372036854775808 → (BitVec.ofInt 64 (x : Int)).toNat = x := by
    intro x hx
    rw [BitVec.ofInt_natCast, BitVec.toNat_ofNat]
    exact Nat.mod_eq_of_lt (by omega)
  rw [show (a : Int) * 256 = ((a * 256 : Nat) : Int) by omega]
  show IntKind.i64.wrap ((BitVec.ofInt 64 ((a * 256 : Nat) : Int) ||| BitVec.ofInt 64 (d.toNat : Int)).toNat : Int) = _
  rw [BitVec.toNat_or, ofs _ (by omega), ofs _ (by omega), e2, IntKind.wrap_i64]
  omega
theorem vl_take {l : List UInt8} {j : Nat} (h : j < l.length) : vl (l.take (j + 1)) = vl (l.take j) * 256 + l[j].toNat := by
  rw [List.take_succ_eq_append_getElem h, vl_snoc]
theorem vl_small (l : List UInt8) {j m : Nat} (hj : j ≤ m) : vl (l.take j) < 256 ^ m := by
  have h := vl_lt (l.take j)
  have h2 : 256 ^ (l.take j).length ≤ 256 ^ m := Nat.pow_le_pow_right (by decide) (by rw [List.length_take]; omega)
  omega

set_option maxRecDepth 100000 in
set_option maxHeartbeats 800000 in
theorem value_of (z : Int) (A : Option Addr) (n c : Nat) (l : List UInt8) (hn : Hid (l.length = n)) (hz : Hid ((vl l : Int) = z)) (h7 : n ≤ 7) (w : World) (hr : Rd w A c l) :
    Calls Try.prog 92 #[.slice A n c] w fun e w' => e = .returned (.int .i64 z) ∧ w = w' := by
  have hc2 : (c : Int) ≤ 9223372036854775807 := by have := hr.cap; omega
  have hc1 : (n : Int) ≤ c := by have := hr.len; have := hn.out; omega
  have HR := hid hr
  clear hr
  go_enter Try.func92, Try.ntmps92
  go_wp2
  go_loop [3, 8] (fun v i => ∃ (j : Nat) (y : Int), j ≤ n ∧ i = .int .i64 (j : Int) ∧ v = .int .i64 y ∧ Hid ((vl (l.take j) : Int) = y)) (fun _ i => n - (intOf i).toNat)
  case atStart => exact ⟨0, 0, by omega, rfl, rfl, hid rfl⟩
  case round =>
    obtain ⟨j, y, hj, rfl, rfl, hy⟩ := hrel
    by_cases hlt : j < n
    · have hl := hn.out
      obtain ⟨b, o, rfl, hcell⟩ := HR.out.at_ (by omega)
      have h1 := hcell j (by omega)
      have hs := vl_take (l := l) (j := j) (by omega)
      have hsm := vl_small l (show j ≤ 6 by omega)
      generalize l[j]'(by omega) = d at h1 hs
      have hd := d.toNat_lt
      have hd2 : (d.toNat : Int) ≤ 255 := by omega
      have y0 : 0 ≤ y := by rw [← hy.out]; omega
      have y1 : y < 281474976710656 := by have := hy.out; simp at hsm; omega
      have ho := or_add y d y0 (by omega)
      have HS := hid (show ((vl (l.take (j + 1)) : Nat) : Int) = y * 256 + d.toNat by rw [hs]; have := hy.out; omega)
      have hlt2 : (j : Int) < (n : Int) := by omega
      clear hs hsm hd hcell hl
      go_wp2
      go_round
      case rel => exact ⟨j + 1, _, by omega, by go_num, rfl, HS⟩
      case measure => simp [intOf]; omega
    · have ej : l.take j = l := List.take_of_length_le (by have := hn.out; omega)
      have hlt2 : ¬ (j : Int) < (n : Int) := by omega
      have HE := hid ej
      clear ej
      go_wp2
      go_ret
      exact ⟨ret_int (by rw [← hz.out, ← hy.out, HE.out]), rfl⟩

/-- What bytes tell: a label's level and categories, a number, a counter. -/
def gL (l : List UInt8) : Int := ((l.getD 0 0).toNat : Int)
def gC (l : List UInt8) : Int := (vl ((l.drop 1).take 4) : Int)
def gK (l : List UInt8) : Int := ((l.getD 5 0).toNat : Int)
def gN (l : List UInt8) : Int := (vl (l.drop 6) : Int)
theorem gC_range (l : List UInt8) : 0 ≤ gC l ∧ gC l < 4294967296 := by
  have h := vl_lt ((l.drop 1).take 4)
  have h2 : 256 ^ ((l.drop 1).take 4).length ≤ 256 ^ 4 := Nat.pow_le_pow_right (by decide) (by rw [List.length_take]; omega)
  simp only [Nat.reducePow] at h2
  unfold gC
  omega
theorem gL_range (l : List UInt8) : 0 ≤ gL l ∧ gL l ≤ 255 := by
  have := (l.getD 0 0).toNat_lt
  unfold gL
  omega
theorem gK_range (l : List UInt8) : 0 ≤ gK l ∧ gK l ≤ 255 := by
  have := (l.getD 5 0).toNat_lt
  unfold gK
  omega
theorem gN_range (l : List UInt8) (h : l.length ≤ 13) : 0 ≤ gN l ∧ gN l < 72057594037927936 := by
  have h1 := vl_lt (l.drop 6)
  have h2 : 256 ^ (l.drop 6).length ≤ 256 ^ 7 := Nat.pow_le_pow_right (by decide) (by rw [List.length_drop]; omega)
  simp only [Nat.reducePow] at h2
  unfold gN
  omega
theorem g_six {l : List UInt8} (h : l.length = 6) : gN l = 0 := by
  unfold gN
  rw [List.drop_eq_nil_of_le (by omega)]
  rfl

set_option maxRecDepth 100000 in
set_option maxHeartbeats 1600000 in
theorem get_of (x0 x1 x5 x6 : Int) (A : Option Addr) (n c : Nat) (l : List UInt8) (hn : Hid (l.length = n)) (hx : Hid (gL l = x0 ∧ gC l = x1 ∧ gK l = x5 ∧ gN l = x6)) (h6 : n = 6 ∨ n = 13) (w : World) (hr : Rd w A c l) :
    Calls Try.prog 87 #[.slice A n c] w fun e w' => e = .returned (.agg #[.int .u8 x0, .int .u32 x1, .int .u8 x5, .int .i64 x6]) ∧ Below w.heap.size w w' := by
  have hc2 : (c : Int) ≤ 9223372036854775807 := by have := hr.cap; omega
  have hc1 : (n : Int) ≤ c := by have := hr.len; have := hn.out; omega
  have hl := hn.out
  obtain ⟨b, o, rfl, hcell⟩ := hr.at_ (by omega)
  have e0 : w.cell? ⟨b, o, none⟩ = some (.int .u8 x0) := by
    have := hcell 0 (by omega)
    rw [Nat.add_zero] at this
    rw [this, ← hx.out.1, gL, List.getD_eq_getElem?_getD, List.getElem?_eq_getElem (by omega)]
    rfl
  have e5 : w.cell? ⟨b, o + 5, none⟩ = some (.int .u8 x5) := by
    rw [hcell 5 (by omega), ← hx.out.2.2.1, gK, List.getD_eq_getElem?_getD, List.getElem?_eq_getElem (by omega)]
    rfl
  have HT := hid (show ((l.drop 1).take 4).length = 4 by rw [List.length_take, List.length_drop]; omega)
  have HR4 := hid ((hr.drop 1 (by omega)).take 4)
  have x10 : 0 ≤ x1 := by have := gC_range l; have := hx.out; omega
  have x11 : x1 < 4294967296 := by have := gC_range l; have := hx.out; omega
  have HX1 : Hid ((vl ((l.drop 1).take 4) : Int) = x1) := hid hx.out.2.1
  have HX6 : Hid ((vl (l.drop 6) : Int) = x6) := hid hx.out.2.2.2
  have HL6 := hid (show (l.drop 6).length = n - 6 by rw [List.length_drop]; omega)
  have HR6 : Hid (Rd w (some ⟨b, o + 6, none⟩) (c - 6) (l.drop 6)) := hid (by
    rcases h6 with rfl | rfl
    · rw [List.drop_eq_nil_of_le (by omega)]
      exact Rd.empty (by have := hr.2.1; unfold maxLen at *; omega)
    · exact hr.drop 6 (by omega))
  replace e0 : ∀ o1 o2, ((w.alloc o1).alloc o2).cell? ⟨b, o, none⟩ = some (.int .u8 x0) := fun o1 o2 => keepa (keepa e0 _) _
  replace e5 : ∀ o1 o2, ((w.alloc o1).alloc o2).cell? ⟨b, o + 5, none⟩ = some (.int .u8 x5) := fun o1 o2 => keepa (keepa e5 _) _
  clear hcell hl hr hx
  rcases h6 with rfl | rfl
  · have e6 : l.drop 6 = [] := List.drop_eq_nil_of_le (by rw [hn.out]; omega)
    rw [e6] at HX6
    have hc3 : c ≤ maxLen := by unfold maxLen; omega
    clear HL6 HR6 e6
    by_cases h6 : c = 6
    · subst h6
      go_enter Try.func87, Try.ntmps87
      go_wp2_with fail
      refine (value_of x1 _ 4 _ _ HT HX1 (by omega) _ ((HR4.out.alloc _).alloc _)).mono ?_
      rintro e w1 ⟨rfl, rfl⟩
      go_wp2_with fail
      refine (value_of x6 _ 0 _ [] (hid rfl) HX6 (by omega) _ (Rd.empty (by omega))).mono ?_
      rintro e w1 ⟨rfl, rfl⟩
      go_wp2
      go_returns
      exact ⟨rfl, by go_grown⟩
    · go_enter Try.func87, Try.ntmps87
      go_wp2_with fail
      refine (value_of x1 _ 4 _ _ HT HX1 (by omega) _ ((HR4.out.alloc _).alloc _)).mono ?_
      rintro e w1 ⟨rfl, rfl⟩
      go_wp2_with fail
      refine (value_of x6 _ 0 _ [] (hid rfl) HX6 (by omega) _ (Rd.empty (by omega))).mono ?_
      rintro e w1 ⟨rfl, rfl⟩
      go_wp2
      go_returns
      exact ⟨rfl, by go_grown⟩
  · go_enter Try.func87, Try.ntmps87
    go_wp2_with fail
    refine (value_of x1 _ 4 _ _ HT HX1 (by omega) _ ((HR4.out.alloc _).alloc _)).mono ?_
    rintro e w1 ⟨rfl, rfl⟩
    go_wp2_with fail
    refine (value_of x6 _ 7 _ _ HL6 HX6 (by omega) _ ((HR6.out.alloc _).alloc _)).mono ?_
    rintro e w1 ⟨rfl, rfl⟩
    go_wp2
    go_returns
    exact ⟨rfl, by go_grown⟩

def okH (l : List UInt8) : Bool := decide (l.length = 6) && mayH (gL l) (gK l)
def okI (l : List UInt8) : Bool := decide (l.length = 13) && mayI (gL l) (gK l) (gN l)

set_option maxHeartbeats 1600000 in
theorem getHandle_of (q : Bool) (x0 x1 x5 : Int) (A : Option Addr) (n c : Nat) (l : List UInt8) (hn : Hid (l.length = n)) (hx : Hid (okH l = q ∧ pick q (gL l) = x0 ∧ pick q (gC l) = x1 ∧ pick q (gK l) = x5)) (w : World) (hr : Rd w A c l) :
    Calls Try.prog 74 #[.slice A n c] w fun e w' => e = .returned (.tuple #[.agg #[.int .u8 x0, .int .u32 x1, .int .u8 x5], .int .i64 (er q)]) ∧ Below w.heap.size w w' := by
  by_cases h6 : n = 6
  · obtain ⟨y0, y1, y5, y6, hy⟩ : ∃ y0 y1 y5 y6, gL l = y0 ∧ gC l = y1 ∧ gK l = y5 ∧ gN l = y6 := ⟨_, _, _, _, rfl, rfl, rfl, rfl⟩
    have HY := hid hy
    have hq : mayH y0 y5 = q := by
      have := hx.out.1
      rw [okH, hn.out, h6, hy.1, hy.2.2.1] at this
      simpa using this
    have HX : Hid (pick q y0 = x0 ∧ pick q y1 = x1 ∧ pick q y5 = x5) := hid (by
      have := hx.out.2
      rwa [hy.1, hy.2.1, hy.2.2.1] at this)
    subst h6
    clear hy hx
    cases q
    · obtain ⟨rfl, rfl, rfl⟩ := HX.out
      have HQ := hid hq
      clear hq HX
      go_enter Try.func74, Try.ntmps74
      go_wp2_with fail
      refine (get_of y0 y1 y5 y6 A 6 c l hn HY (.inl rfl) _ (hr.alloc _)).mono ?_
      rintro e w1 ⟨rfl, b1⟩
      have hb : Below w.heap.size w w1 := below_in (by go_grown) b1
      (have t0 : w1.cell? ⟨w.heap.size, 0, none⟩ = some (.int .u8 0) := (keep b1 (by simp)); have t1 : w1.cell? ⟨w.heap.size, 1, none⟩ = some (.int .u32 0) := (keep b1 (by simp)); have t2 : w1.cell? ⟨w.heap.size, 2, none⟩ = some (.int .u8 0) := (keep b1 (by simp)))
      (have f0 : w1.frozen? ⟨w.heap.size, 0, none⟩ = false := (keepz b1 (v := .int .u8 0) (by simp) (by simp [go_sem])); have f1 : w1.frozen? ⟨w.heap.size, 1, none⟩ = false := (keepz b1 (v := .int .u32 0) (by simp) (by simp [go_sem])); have f2 : w1.frozen? ⟨w.heap.size, 2, none⟩ = false := (keepz b1 (v := .int .u8 0) (by simp) (by simp [go_sem])))
      clear b1
      go_wp2_with fail
      refine (checkHandle_any y0 y1 y5 _).mono ?_
      rw [HQ.out]
      rintro e w2 ⟨rfl, b2⟩
      replace b2 := past_alloc b2
      replace hb := below_in hb b2
      (replace f0 := keepz b2 t0 f0; replace f1 := keepz b2 t1 f1; replace f2 := keepz b2 t2 f2)
      (replace t0 := keep b2 t0; replace t1 := keep b2 t1; replace t2 := keep b2 t2)
      clear b2
      go_wp2
      exact bodyPost_ret (v := .tuple #[.agg #[.int .u8 0, .int .u32 0, .int .u8 0], .int .i64 (er false)]) (by simp [results, Try.results74, go_sem, t0, t1, t2]) rfl ⟨rfl, set3 hb (Nat.le_refl _) _ _ _⟩
    · obtain ⟨rfl, rfl, rfl⟩ := HX.out
      have HQ := hid hq
      clear hq HX
      go_enter Try.func74, Try.ntmps74
      go_wp2_with fail
      refine (get_of y0 y1 y5 y6 A 6 c l hn HY (.inl rfl) _ (hr.alloc _)).mono ?_
      rintro e w1 ⟨rfl, b1⟩
      have hb : Below w.heap.size w w1 := below_in (by go_grown) b1
      (have t0 : w1.cell? ⟨w.heap.size, 0, none⟩ = some (.int .u8 0) := (keep b1 (by simp)); have t1 : w1.cell? ⟨w.heap.size, 1, none⟩ = some (.int .u32 0) := (keep b1 (by simp)); have t2 : w1.cell? ⟨w.heap.size, 2, none⟩ = some (.int .u8 0) := (keep b1 (by simp)))
      (have f0 : w1.frozen? ⟨w.heap.size, 0, none⟩ = false := (keepz b1 (v := .int .u8 0) (by simp) (by simp [go_sem])); have f1 : w1.frozen? ⟨w.heap.size, 1, none⟩ = false := (keepz b1 (v := .int .u32 0) (by simp) (by simp [go_sem])); have f2 : w1.frozen? ⟨w.heap.size, 2, none⟩ = false := (keepz b1 (v := .int .u8 0) (by simp) (by simp [go_sem])))
      clear b1
      go_wp2_with fail
      refine (checkHandle_any y0 y1 y5 _).mono ?_
      rw [HQ.out]
      rintro e w2 ⟨rfl, b2⟩
      (have s0 : w2.cell? ⟨w1.heap.size, 0, none⟩ = some (.int .u8 y0) := (keep b2 (by simp)); have s1 : w2.cell? ⟨w1.heap.size, 1, none⟩ = some (.int .u32 y1) := (keep b2 (by simp)); have s2 : w2.cell? ⟨w1.heap.size, 2, none⟩ = some (.int .u8 y5) := (keep b2 (by simp)); have s3 : w2.cell? ⟨w1.heap.size, 3, none⟩ = some (.int .i64 y6) := (keep b2 (by simp)))
      replace b2 := past_alloc b2
      replace hb := below_in hb b2
      (replace f0 := keepz b2 t0 f0; replace f1 := keepz b2 t1 f1; replace f2 := keepz b2 t2 f2)
      (replace t0 := keep b2 t0; replace t1 := keep b2 t1; replace t2 := keep b2 t2)
      clear b2
      go_wp2
      exact bodyPost_ret (v := .tuple #[.agg #[.int .u8 y0, .int .u32 y1, .int .u8 y5], .int .i64 (er true)]) (by simp [results, Try.results74, go_sem, er, t0, t1, t2]) rfl ⟨rfl, set3 hb (Nat.le_refl _) _ _ _⟩
  · have hq : q = false := by
      have := hx.out.1
      rw [okH, hn.out] at this
      simpa [h6] using this.symm
    subst hq
    obtain ⟨_, rfl, rfl, rfl⟩ := hx.out
    have h6' : ((n : Int) != 6) = true := by simp; omega
    clear h6 hx
    go_enter Try.func74, Try.ntmps74
    go_wp2
    go_returns
    exact ⟨rfl, by go_grown⟩

set_option maxHeartbeats 1600000 in
theorem get_id (q : Bool) (x0 x1 x5 x6 : Int) (A : Option Addr) (n c : Nat) (l : List UInt8) (hn : Hid (l.length = n)) (hx : Hid (okI l = q ∧ pick q (gL l) = x0 ∧ pick q (gC l) = x1 ∧ pick q (gK l) = x5 ∧ pick q (gN l) = x6)) (w : World) (hr : Rd w A c l) :
    Calls Try.prog 75 #[.slice A n c] w fun e w' => e = .returned (.tuple #[.agg #[.int .u8 x0, .int .u32 x1, .int .u8 x5, .int .i64 x6], .int .i64 (er q)]) ∧ Below w.heap.size w w' := by
  by_cases h6 : n = 13
  · obtain ⟨y0, y1, y5, y6, hy⟩ : ∃ y0 y1 y5 y6, gL l = y0 ∧ gC l = y1 ∧ gK l = y5 ∧ gN l = y6 := ⟨_, _, _, _, rfl, rfl, rfl, rfl⟩
    have HY := hid hy
    have hq : mayI y0 y5 y6 = q := by
      have := hx.out.1
      rw [okI, hn.out, h6, hy.1, hy.2.2.1, hy.2.2.2] at this
      simpa using this
    have HX : Hid (pick q y0 = x0 ∧ pick q y1 = x1 ∧ pick q y5 = x5 ∧ pick q y6 = x6) := hid (by
      have := hx.out.2
      rwa [hy.1, hy.2.1, hy.2.2.1, hy.2.2.2] at this)
    subst h6
    clear hy hx
    cases q
    · obtain ⟨rfl, rfl, rfl, rfl⟩ := HX.out
      have HQ := hid hq
      clear hq HX
      go_enter Try.func75, Try.ntmps75
      go_wp2_with fail
      refine (get_of y0 y1 y5 y6 A 13 c l hn HY (.inr rfl) _ (hr.alloc _)).mono ?_
      rintro e w1 ⟨rfl, b1⟩
      have hb : Below w.heap.size w w1 := below_in (by go_grown) b1
      (have t0 : w1.cell? ⟨w.heap.size, 0, none⟩ = some (.int .u8 0) := (keep b1 (by simp)); have t1 : w1.cell? ⟨w.heap.size, 1, none⟩ = some (.int .u32 0) := (keep b1 (by simp)); have t2 : w1.cell? ⟨w.heap.size, 2, none⟩ = some (.int .u8 0) := (keep b1 (by simp)); have t3 : w1.cell? ⟨w.heap.size, 3, none⟩ = some (.int .i64 0) := (keep b1 (by simp)))
      (have f0 : w1.frozen? ⟨w.heap.size, 0, none⟩ = false := (keepz b1 (v := .int .u8 0) (by simp) (by simp [go_sem])); have f1 : w1.frozen? ⟨w.heap.size, 1, none⟩ = false := (keepz b1 (v := .int .u32 0) (by simp) (by simp [go_sem])); have f2 : w1.frozen? ⟨w.heap.size, 2, none⟩ = false := (keepz b1 (v := .int .u8 0) (by simp) (by simp [go_sem])); have f3 : w1.frozen? ⟨w.heap.size, 3, none⟩ = false := (keepz b1 (v := .int .i64 0) (by simp) (by simp [go_sem])))
      clear b1
      go_wp2_with fail
      refine (check_id y0 y1 y5 y6 _).mono ?_
      rw [HQ.out]
      rintro e w2 ⟨rfl, b2⟩
      replace b2 := past_alloc2 b2
      replace hb := below_in hb b2
      (replace f0 := keepz b2 t0 f0; replace f1 := keepz b2 t1 f1; replace f2 := keepz b2 t2 f2; replace f3 := keepz b2 t3 f3)
      (replace t0 := keep b2 t0; replace t1 := keep b2 t1; replace t2 := keep b2 t2; replace t3 := keep b2 t3)
      clear b2
      go_wp2
      exact bodyPost_ret (v := .tuple #[.agg #[.int .u8 0, .int .u32 0, .int .u8 0, .int .i64 0], .int .i64 (er false)]) (by simp [results, Try.results75, go_sem, t0, t1, t2, t3]) rfl ⟨rfl, set4 hb (Nat.le_refl _) _ _ _ _⟩
    · obtain ⟨rfl, rfl, rfl, rfl⟩ := HX.out
      have HQ := hid hq
      clear hq HX
      go_enter Try.func75, Try.ntmps75
      go_wp2_with fail
      refine (get_of y0 y1 y5 y6 A 13 c l hn HY (.inr rfl) _ (hr.alloc _)).mono ?_
      rintro e w1 ⟨rfl, b1⟩
      have hb : Below w.heap.size w w1 := below_in (by go_grown) b1
      (have t0 : w1.cell? ⟨w.heap.size, 0, none⟩ = some (.int .u8 0) := (keep b1 (by simp)); have t1 : w1.cell? ⟨w.heap.size, 1, none⟩ = some (.int .u32 0) := (keep b1 (by simp)); have t2 : w1.cell? ⟨w.heap.size, 2, none⟩ = some (.int .u8 0) := (keep b1 (by simp)); have t3 : w1.cell? ⟨w.heap.size, 3, none⟩ = some (.int .i64 0) := (keep b1 (by simp)))
      (have f0 : w1.frozen? ⟨w.heap.size, 0, none⟩ = false := (keepz b1 (v := .int .u8 0) (by simp) (by simp [go_sem])); have f1 : w1.frozen? ⟨w.heap.size, 1, none⟩ = false := (keepz b1 (v := .int .u32 0) (by simp) (by simp [go_sem])); have f2 : w1.frozen? ⟨w.heap.size, 2, none⟩ = false := (keepz b1 (v := .int .u8 0) (by simp) (by simp [go_sem])); have f3 : w1.frozen? ⟨w.heap.size, 3, none⟩ = false := (keepz b1 (v := .int .i64 0) (by simp) (by simp [go_sem])))
      clear b1
      go_wp2_with fail
      refine (check_id y0 y1 y5 y6 _).mono ?_
      rw [HQ.out]
      rintro e w2 ⟨rfl, b2⟩
      (have s0 : w2.cell? ⟨w1.heap.size + 1, 0, none⟩ = some (.int .u8 y0) := (keep b2 (by simp)); have s1 : w2.cell? ⟨w1.heap.size + 1, 1, none⟩ = some (.int .u32 y1) := (keep b2 (by simp)); have s2 : w2.cell? ⟨w1.heap.size + 1, 2, none⟩ = some (.int .u8 y5) := (keep b2 (by simp)); have s3 : w2.cell? ⟨w1.heap.size + 1, 3, none⟩ = some (.int .i64 y6) := (keep b2 (by simp)))
      replace b2 := past_alloc2 b2
      replace hb := below_in hb b2
      (replace f0 := keepz b2 t0 f0; replace f1 := keepz b2 t1 f1; replace f2 := keepz b2 t2 f2; replace f3 := keepz b2 t3 f3)
      (replace t0 := keep b2 t0; replace t1 := keep b2 t1; replace t2 := keep b2 t2; replace t3 := keep b2 t3)
      clear b2
      go_wp2
      exact bodyPost_ret (v := .tuple #[.agg #[.int .u8 y0, .int .u32 y1, .int .u8 y5, .int .i64 y6], .int .i64 (er true)]) (by simp [results, Try.results75, go_sem, er, t0, t1, t2, t3]) rfl ⟨rfl, set4 hb (Nat.le_refl _) _ _ _ _⟩
  · have hq : q = false := by
      have := hx.out.1
      rw [okI, hn.out] at this
      simpa [h6] using this.symm
    subst hq
    obtain ⟨_, rfl, rfl, rfl, rfl⟩ := hx.out
    have h6' : ((n : Int) != 13) = true := by simp; omega
    clear h6 hx
    go_enter Try.func75, Try.ntmps75
    go_wp2
    go_returns
    exact ⟨rfl, by go_grown⟩
end Go.Proofs.Ytbhglgcnoidddaa
