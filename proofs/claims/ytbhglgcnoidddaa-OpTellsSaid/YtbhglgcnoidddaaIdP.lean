/-
  The contracts of the functions that write: put, handleBytes, PutHandle, Put.
-/
import Derived.Test.YtbhglgcnoidddaaIdE
import Derived.Test.YtbhglgcnoidddaaRunA
import Derived.Test.YtbhglgcnoidddaaIdM
import Derived.Test.YtbhglgcnoidddaaMem
import Derived.Outline
import Derived.LoopTactic
import Derived.WalkMore
import Derived.Deep.LoopGhost
namespace Go.Proofs.Ytbhglgcnoidddaa
open Go.RowKit
set_option linter.unusedVariables false

/-- The numbers of a label are of their kinds. -/
structure Lab (l c : Int) : Prop where
  l0 : 0 ≤ l
  l1 : l ≤ 255
  c0 : 0 ≤ c
  c1 : c ≤ 4294967295

def pick (b : Bool) (x : Int) : Int := if b then x else 0
theorem pick_true (x : Int) : pick true x = x := rfl
theorem pick_false (x : Int) : pick false x = 0 := rfl
theorem lit_one (w : World) (v : Int) (b : UInt8) (h : Hid (v = (b.toNat : Int))) : Rd (w.alloc (.cells #[.int .u8 v] 5)) (some ⟨w.heap.size, 0, none⟩) 1 [b] := by
  rw [h.out]
  exact lit_rd w [b] (by simp)
theorem own_one (w : World) (base g : Nat) (hg : w.heap.size = g) (hb : base ≤ g) (v : Int) (b : UInt8) (h : Hid (v = (b.toNat : Int))) : Own (w.alloc (.cells #[.int .u8 v] 5)) base 5 (some ⟨g, 0, none⟩) 1 [b] := by
  subst hg
  rw [h.out]
  exact Own.lit w _ [b] hb (by simp)
theorem Own.mono {w : World} {base base' : Nat} {e : TypeId} {A : Option Addr} {c : Nat} {l : List UInt8} (h : Own w base e A c l) (hb : base' ≤ base) : Own w base' e A c l := by
  obtain ⟨h0, h1⟩ := h
  refine ⟨h0, ?_⟩
  rcases h1 with h | ⟨g, cap, cur, hv, hbg, r⟩
  · exact .inl h
  · exact .inr ⟨g, cap, cur, hv, Nat.le_trans hb hbg, r⟩

theorem shr_nat (x : Nat) (z : Int) (hz : (x : Int) = z) (y : Int) (j : Nat) (hy : y = j) : z / 2 ^ (8 * y).toNat % 256 = ((UInt8.ofNat (x / 256 ^ j % 256)).toNat : Int) := by
  subst hz hy
  have e : (256 : Nat) ^ j = 2 ^ (8 * j) := by rw [Nat.pow_mul]
  rw [show (8 * (j : Int)).toNat = 8 * j by omega, ofNat_toNat (Nat.mod_lt _ (by decide)), e, Int.natCast_emod, Int.natCast_ediv, Int.natCast_pow]
  rfl

set_option maxRecDepth 100000 in
set_option maxHeartbeats 800000 in
theorem put_any (base : Nat) (A : Option Addr) (n c : Nat) (l : List UInt8) (hn : Hid (l.length = n)) (x : Nat) (z : Int) (hz : Hid ((x : Int) = z)) (z0 : 0 ≤ z) (z1 : z < 9223372036854775808) (k : Nat) (v : Int) (hv : Hid (v = (k : Int))) (w : World) (hn5 : n ≤ 1000) (hk5 : k ≤ 7)
    (hown : Own w base 5 A c l) (hbase : base ≤ w.heap.size) :
    Calls Try.prog 84 #[.slice A n c, .int .i64 z, .int .i64 v] w fun e w' => ∃ A' c', e = .returned (.slice A' (n + k) c') ∧ Own w' base 5 A' c' (l ++ dg k x) ∧ Below base w w' := by
  obtain ⟨i0, hi0, hz0, hz1, hz2⟩ := info_parts info_u8
  have hk7 : v ≤ 7 := by rw [hv.out]; omega
  have hk0 : 0 ≤ v := by rw [hv.out]; omega
  go_enter Try.func84, Try.ntmps84
  go_wp2
  go_loopw [0, 7] (fun b i wr => ∃ (j m : Nat) (B : Option Addr) (d : Nat) (y : Int), j ≤ k ∧ Hid (y = (k : Int) - 1 - j) ∧ -1 ≤ y ∧ y ≤ 6 ∧ i = .int .i64 y ∧ b = .slice B m d ∧ Hid (m = n + j) ∧ Hid ((l ++ dg j (x / 256 ^ (k - j))).length = m) ∧ Own wr base 5 B d (l ++ dg j (x / 256 ^ (k - j))) ∧ Below base w wr) (fun _ i _ => (intOf i + 1).toNat)
  case atStart => exact ⟨0, n, A, c, v - 1, by omega, hid (by rw [hv.out]; omega), by omega, by omega, rfl, rfl, hid rfl, hid (by simp [dg, hn.out]), by simpa [dg] using hown, Below.refl _ _⟩
  case round =>
    obtain ⟨j, m, B, d, y, hj, hy, hy0, hy1, rfl, rfl, hm, hw, ho, hb⟩ := hrel
    have hm2 : m ≤ 2000 := by have := hm.out; omega
    by_cases hlt : 0 ≤ y
    · have hjk : j < k := by have := hy.out; omega
      have HB := hid (shr_nat x z hz.out y (k - (j + 1)) (by rw [hy.out]; omega))
      have HU := hid (dg_up x k j hjk)
      have HM := hid (show m + 1 = n + (j + 1) by rw [hm.out]; omega)
      have HY := hid (show y - 1 = (k : Int) - 1 - ((j + 1 : Nat) : Int) by rw [hy.out]; omega)
      have HL := hid (show (l ++ dg (j + 1) (x / 256 ^ (k - (j + 1)))).length = m + 1 by rw [List.length_append, hn.out, dg_length, hm.out]; omega)
      generalize hU : UInt8.ofNat (x / 256 ^ (k - (j + 1)) % 256) = u at HB HU
      generalize hQ : z / 2 ^ (8 * y).toNat % 256 = q at HB
      have Hu := hid hU
      clear hU
      go_wp2_with (at_builtin; refine wpList_append_rd rfl (.tmp 14) (.tmp 20) _ rfl base 5 Try.underlying44 hi0 hz0 hz1 hz2 B m d (l ++ dg j (x / 256 ^ (k - j))) hw rfl (ho.keep ((Below.refl _ _).alloc (Nat.le_refl _) _)) (some ⟨wr.heap.size, 0, none⟩) 1 1 [u] (hid rfl) rfl (lit_one wr _ u HB) (by omega) (Nat.le_trans (Nat.le_trans hbase hb.size) (by simp)) ?_; intro B' d' w1 hown1 hb1)
      go_roundw
      case rel => exact ⟨j + 1, m + 1, B', d', y - 1, by omega, HY, by omega, by omega, rfl, rfl, HM, HL, by rw [HU.out, ← List.append_assoc]; exact hown1, (hb.alloc (Nat.le_trans hbase hb.size) _).trans hb1⟩
      case measure => simp [intOf]; omega
    · have hjk : j = k := by have := hy.out; omega
      have HK := hid hjk
      clear hjk
      go_wp2
      go_ret
      have e1 := hm.out
      have e2 := HK.out
      subst e1 e2
      rw [Nat.sub_self, Nat.pow_zero, Nat.div_one] at ho
      exact ⟨B, d, rfl, ho, hb⟩

/-- A handle that may be put: its numbers. -/
structure Hn (l c k : Int) (a b d : Nat) : Prop where
  la : (a : Int) = l
  cb : (b : Int) = c
  kd : (d : Int) = k
  a1 : a < 256
  b1 : b < 4294967296
  d1 : d < 256
theorem hn_of {l c k : Int} (h : Lab l c) (k0 : 0 ≤ k) (k1 : k ≤ 255) : Hn l c k l.toNat c.toNat k.toNat := by
  obtain ⟨g1, g2, g3, g4⟩ := h
  exact ⟨by omega, by omega, by omega, by omega, by omega, by omega⟩
theorem Hn.l_eq {l c k : Int} {a b d : Nat} (h : Hn l c k a b d) : l = ((UInt8.ofNat a).toNat : Int) := by rw [ofNat_toNat h.a1, h.la]
theorem Hn.k_eq {l c k : Int} {a b d : Nat} (h : Hn l c k a b d) : k = ((UInt8.ofNat d).toNat : Int) := by rw [ofNat_toNat h.d1, h.kd]

set_option maxRecDepth 100000 in
set_option maxHeartbeats 800000 in
theorem handleBytes_any (l c k : Int) (a b d : Nat) (h : Hid (Hn l c k a b d)) (w : World) :
    Calls Try.prog 83 #[.agg #[.int .u8 l, .int .u32 c, .int .u8 k]] w fun e w' => ∃ A' c', e = .returned (.slice A' 6 c') ∧ Own w' w.heap.size 5 A' c' (hby a b d) ∧ Below w.heap.size w w' := by
  obtain ⟨i0, hi0, hz0, hz1, hz2⟩ := info_parts info_u8
  have c0 : 0 ≤ c := by have := h.out.cb; omega
  have c1 : c < 9223372036854775808 := by have := h.out.cb; have := h.out.b1; omega
  have HL := hid h.out.l_eq
  have HK := hid h.out.k_eq
  have HC := hid h.out.cb
  go_enter Try.func83, Try.ntmps83
  go_wp2_with fail
  refine (put_any (w.heap.size + 1) _ 1 1 [UInt8.ofNat a] (hid rfl) b c HC c0 c1 4 4 (hid rfl) _ (by omega) (by omega) (own_one _ _ _ (by simp) (by omega) l _ HL) (by simp)).mono ?_
  rintro e w1 ⟨A1, c2, rfl, ho, hb⟩
  have hbo : Below w.heap.size w w1 := (show Below w.heap.size w _ by go_grown).trans (hb.mono (by omega))
  have k2 : w1.cell? ⟨w.heap.size, 2, none⟩ = some (.int .u8 k) := by rw [hb.cell (p := ⟨w.heap.size, 2, none⟩) (by simp)]; simp
  have z := hbo.size
  clear hb
  go_wp2_with (at_builtin; refine wpList_append_rd rfl (.tmp 13) (.tmp 16) _ rfl w.heap.size 5 Try.underlying44 hi0 hz0 hz1 hz2 A1 5 c2 ([UInt8.ofNat a] ++ dg 4 b) (hid (by simp [dg_length])) rfl ((ho.mono (by omega)).keep ((Below.refl _ _).alloc (Nat.le_refl _) _)) (some ⟨w1.heap.size, 0, none⟩) 1 1 [UInt8.ofNat d] (hid rfl) rfl (lit_one w1 _ _ HK) (by omega) (by simp; omega) ?_; intro A' c' w2 ho2 hb2)
  go_ret
  exact ⟨A', c', rfl, ho2, (hbo.alloc z _).trans hb2⟩

set_option maxHeartbeats 800000 in
theorem putHandle_of (L : List UInt8) (m : Nat) (j : Int) (l c k : Int) (a b d : Nat) (h : Hid (Hn l c k a b d)) (hL : Hid ((if mayH l k = true then hby a b d else []) = L ∧ L.length = m ∧ er (mayH l k) = j)) (w : World) :
    Calls Try.prog 54 #[.agg #[.int .u8 l, .int .u32 c, .int .u8 k]] w fun e w' => ∃ A' c', e = .returned (.tuple #[.slice A' m c', .int .i64 j]) ∧ Rd w' A' c' L ∧ Below w.heap.size w w' := by
  go_enter Try.func54, Try.ntmps54
  cases hq : mayH l k
  · obtain ⟨h1, h2, h3⟩ := hL.out
    rw [if_neg (by simp [hq])] at h1
    rw [hq] at h3
    subst h1 h2 h3
    have HQ := hid hq
    clear hq hL
    go_wp2_with fail
    refine (checkHandle_any l c k _).mono ?_
    rw [HQ.out]
    rintro e w1 ⟨rfl, b1⟩
    go_wp2_with fail
    go_ret2
    exact ⟨none, 0, rfl, Rd.nil _, below_in (by go_grown) b1⟩
  · obtain ⟨h1, h2, h3⟩ := hL.out
    rw [if_pos hq] at h1
    rw [hq] at h3
    rw [← h1, hby_length] at h2
    subst h1 h2 h3
    have HQ := hid hq
    clear hq hL
    go_wp2_with fail
    refine (checkHandle_any l c k _).mono ?_
    rw [HQ.out]
    rintro e w1 ⟨rfl, b1⟩
    have hb : Below w.heap.size w w1 := below_in (by go_grown) b1
    (have x0 : w1.cell? ⟨w.heap.size, 0, none⟩ = some (.int .u8 l) := (keep b1 (by simp)); have x1 : w1.cell? ⟨w.heap.size, 1, none⟩ = some (.int .u32 c) := (keep b1 (by simp)); have x2 : w1.cell? ⟨w.heap.size, 2, none⟩ = some (.int .u8 k) := (keep b1 (by simp)))
    clear b1
    go_wp2_with fail
    refine (handleBytes_any l c k a b d h _).mono ?_
    rintro e w2 ⟨A1, c1, rfl, ho, b1⟩
    go_wp2
    go_ret2
    exact ⟨A1, c1, rfl, ho.rd, below_in hb b1⟩

theorem below_step {wo W w2 : World} (h : Below wo.heap.size wo W) (h2 : Below W.heap.size W w2) : Below wo.heap.size wo w2 := h.trans (h2.mono h.size)

set_option maxHeartbeats 1600000 in
theorem putId_of (L : List UInt8) (m : Nat) (j : Int) (l c k n : Int) (a b d : Nat) (h : Hid (Hn l c k a b d)) (hL : Hid ((if mayI l k n = true then iby a b d n.toNat else []) = L ∧ L.length = m ∧ er (mayI l k n) = j)) (w : World) :
    Calls Try.prog 55 #[.agg #[.int .u8 l, .int .u32 c, .int .u8 k, .int .i64 n]] w fun e w' => ∃ A' c', e = .returned (.tuple #[.slice A' m c', .int .i64 j]) ∧ Rd w' A' c' L ∧ Below w.heap.size w w' := by
  go_enter Try.func55, Try.ntmps55
  cases hq : mayI l k n
  · obtain ⟨h1, h2, h3⟩ := hL.out
    rw [if_neg (by simp [hq])] at h1
    rw [hq] at h3
    subst h1 h2 h3
    have HQ := hid hq
    clear hq hL
    go_wp2_with fail
    refine (check_id l c k n _).mono ?_
    rw [HQ.out]
    rintro e w1 ⟨rfl, b1⟩
    go_wp2_with fail
    go_ret2
    exact ⟨none, 0, rfl, Rd.nil _, below_in (by go_grown) b1⟩
  · obtain ⟨h1, h2, h3⟩ := hL.out
    rw [if_pos hq] at h1
    rw [hq] at h3
    rw [← h1, iby_length] at h2
    subst h1 h2 h3
    have hn : 1 ≤ n ∧ n ≤ 1099511627776 := by simp [mayI] at hq; omega
    have n0 : 0 ≤ n := by omega
    have n1 : n < 9223372036854775808 := by omega
    have HN := hid (show ((n.toNat : Nat) : Int) = n by omega)
    have HQ := hid hq
    clear hq hL hn
    go_wp2_with fail
    refine (check_id l c k n _).mono ?_
    rw [HQ.out]
    rintro e w1 ⟨rfl, b1⟩
    have hb : Below w.heap.size w w1 := below_in (by go_grown) b1
    (have x0 : w1.cell? ⟨w.heap.size, 0, none⟩ = some (.int .u8 l) := (keep b1 (by simp)); have x1 : w1.cell? ⟨w.heap.size, 1, none⟩ = some (.int .u32 c) := (keep b1 (by simp)); have x2 : w1.cell? ⟨w.heap.size, 2, none⟩ = some (.int .u8 k) := (keep b1 (by simp)); have x3 : w1.cell? ⟨w.heap.size, 3, none⟩ = some (.int .i64 n) := (keep b1 (by simp)))
    clear b1
    go_wp2_with fail
    (have y0 := fun w' (h : Below w1.heap.size w1 w') => keep h x0; have y1 := fun w' (h : Below w1.heap.size w1 w') => keep h x1; have y2 := fun w' (h : Below w1.heap.size w1 w') => keep h x2; have y3 := fun w' (h : Below w1.heap.size w1 w') => keep h x3)
    clear x0 x1 x2 x3
    go_region_held (fun w' => Below w1.heap.size w1 w') (first | assumption | exact (Below.refl _ _).drew | exact Below.trans (w := w1) (by assumption) hb2 | exact (below_step (wo := w1) (W := w1.drew) (Below.refl _ _).drew hb1).trans hb2 | exact below_step (by assumption) hb1) (first | (go_at_call 83; refine (handleBytes_any l c k a b d h _).mono ?_; rintro e w2 ⟨A1, c1, rfl, ho, hb1⟩) | (go_at_call 84; refine (put_any w1.heap.size A1 6 c1 (hby a b d) (hid (hby_length _ _ _)) n.toNat n HN n0 n1 7 7 (hid rfl) _ (by omega) (by omega) (ho.mono (by first | exact Nat.le_refl _ | exact Below.size (by assumption))) (by exact Below.size (w := w1) (by assumption))).mono ?_; rintro e w3 ⟨A2, c2, rfl, ho2, hb2⟩))
    have hB : Below w1.heap.size w1 w3 := by assumption
    go_wp2
    go_ret2
    exact ⟨A2, c2, rfl, ho2.rd, below_in hb hB⟩
end Go.Proofs.Ytbhglgcnoidddaa
