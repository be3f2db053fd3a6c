/-
  What stage 7 takes from layer 5: handles checked and written (put, handleBytes, PutHandle).
-/
import Derived.Test.YtbigppdaoakkfaaPoM
import Derived.Test.YtbigppdaoakkfaaGrM
import Derived.Test.YtbigppdaoakkfaaMem
import Derived.Outline
import Derived.LoopTactic
import Derived.WalkMore
import Derived.Deep.LoopGhost
namespace Go.Proofs.Ytbigppdaoakkfaa
open Go.RowKit
set_option linter.unusedVariables false
set_option linter.unusedSimpArgs false

def mayH (l k : Int) : Bool := mayL l && decide (k < 8)
def pick (b : Bool) (x : Int) : Int := if b then x else 0
theorem pick_true (x : Int) : pick true x = x := rfl
theorem pick_false (x : Int) : pick false x = 0 := rfl
set_option maxHeartbeats 400000 in
theorem checkHandle_any (l c k : Int) (w : World) :
    Calls Try.prog 44 #[.agg #[.int .u8 l, .int .u32 c, .int .u8 k]] w fun e w' =>
      e = .returned (.int .i64 (er (mayH l k))) ∧ Below w.heap.size w w' := by
  go_enter Try.func44, Try.ntmps44
  by_cases h : k < 8
  · have h1 : decide (8 ≤ k) = false := by simp; omega
    have H := hid h; clear h
    go_wp2_with fail
    go_call check_any l c _ as e w1 ⟨rfl, b1⟩
    go_wp2
    go_ret
    exact ⟨by simp [mayH, H.out], (show Below w.heap.size w _ by go_grown).trans (b1.mono (by simp))⟩
  · have h1 : decide (8 ≤ k) = true := by simp; omega
    go_wp2_with fail
    go_ret
    exact ⟨by simp [mayH, er, h], by go_grown⟩

theorem info_u8 : (Try.prog.info? 5).map (fun i => (i.zero, i.size, i.bytes)) = some (some (.int .u8 0), 1, 1) := by kernel_rfl
theorem rd_string {w : World} {A : Option Addr} {n c : Nat} {l : List UInt8} (hn : Hid (l.length = n)) (h : Rd w A c l) : (convert 38 9 (.slice A n c)).run Try.prog w = .ok (.string ⟨l.toArray⟩) w := by
  have e := hn.out
  subst e
  exact h.str _ _ 5 Try.underlying38 Try.underlying5 Try.underlying9
theorem lit_rd (w : World) (l : List UInt8) (hl : l.length ≤ 1000) : Rd (w.alloc (.cells (u8s l).toArray 5)) (some ⟨w.heap.size, 0, none⟩) l.length l := (Own.lit w 5 l (Nat.le_refl _) hl).rd



theorem lit_byte (w : World) (v : Int) (b : UInt8) (h : Hid (v = (b.toNat : Int))) : Rd (w.alloc (.cells #[.int .u8 v] 5)) (some ⟨w.heap.size, 0, none⟩) 1 [b] := by
  rw [h.out]
  exact lit_rd w [b] (by simp)
theorem own_one (w : World) (base g : Nat) (hg : w.heap.size = g) (hb : base ≤ g) (v : Int) (b : UInt8) (h : Hid (v = (b.toNat : Int))) : Own (w.alloc (.cells #[.int .u8 v] 5)) base 5 (some ⟨g, 0, none⟩) 1 [b] := by
  subst hg
  rw [h.out]
  exact Own.lit w _ [b] hb (by simp)
theorem Own.mono {w : World} {base base' : Nat} {e : TypeId} {A : Option Addr} {c : Nat} {l : List UInt8} (h : Own w base e A c l) (hb : base' ≤ base) : Own w base' e A c l := by
  obtain ⟨h0, h1⟩ := h
  refine ⟨h0, ?_⟩
  rcases h1 with h | ⟨g, cap, cur, hv, hbg, r⟩
  · exact .inl h
  · exact .inr ⟨g, cap, cur, hv, Nat.le_trans hb hbg, r⟩

theorem shr_nat (x : Nat) (z : Int) (hz : (x : Int) = z) (y : Int) (j : Nat) (hy : y = j) : z / 2 ^ (8 * y).toNat % 256 = ((UInt8.ofNat (x / 256 ^ j % 256)).toNat : Int) := by
  subst hz hy
  have e : (256 : Nat) ^ j = 2 ^ (8 * j) := by rw [Nat.pow_mul]
  rw [show (8 * (j : Int)).toNat = 8 * j by omega, ofNat_toNat (Nat.mod_lt _ (by decide)), e, Int.natCast_emod, Int.natCast_ediv, Int.natCast_pow]
  rfl

set_option maxRecDepth 100000 in
set_option maxHeartbeats 800000 in
theorem put_any (base : Nat) (A : Option Addr) (n c : Nat) (l : List UInt8) (hn : Hid (l.length = n)) (x : Nat) (z : Int) (hz : Hid ((x : Int) = z)) (z0 : 0 ≤ z) (z1 : z < 9223372036854775808) (k : Nat) (v : Int) (hv : Hid (v = (k : Int))) (w : World) (hn5 : n ≤ 1000) (hk5 : k ≤ 7)
    (hown : Own w base 5 A c l) (hbase : base ≤ w.heap.size) :
    Calls Try.prog 58 #[.slice A n c, .int .i64 z, .int .i64 v] w fun e w' => ∃ A' c', e = .returned (.slice A' (n + k) c') ∧ Own w' base 5 A' c' (l ++ dg k x) ∧ Below base w w' := by
  obtain ⟨i0, hi0, hz0, hz1, hz2⟩ := info_parts info_u8
  have hk7 : v ≤ 7 := by rw [hv.out]; omega
  have hk0 : 0 ≤ v := by rw [hv.out]; omega
  go_enter Try.func58, Try.ntmps58
  go_wp2
  go_loopw [0, 7] (fun b i wr => ∃ (j m : Nat) (B : Option Addr) (d : Nat) (y : Int), j ≤ k ∧ Hid (y = (k : Int) - 1 - j) ∧ -1 ≤ y ∧ y ≤ 6 ∧ i = .int .i64 y ∧ b = .slice B m d ∧ Hid (m = n + j) ∧ Hid ((l ++ dg j (x / 256 ^ (k - j))).length = m) ∧ Own wr base 5 B d (l ++ dg j (x / 256 ^ (k - j))) ∧ Below base w wr) (fun _ i _ => (intOf i + 1).toNat)
  case atStart => exact ⟨0, n, A, c, v - 1, by omega, hid (by rw [hv.out]; omega), by omega, by omega, rfl, rfl, hid rfl, hid (by simp [dg, hn.out]), by simpa [dg] using hown, Below.refl _ _⟩
  case round =>
    obtain ⟨j, m, B, d, y, hj, hy, hy0, hy1, rfl, rfl, hm, hw, ho, hb⟩ := hrel
    have hm2 : m ≤ 2000 := by have := hm.out; omega
    by_cases hlt : 0 ≤ y
    · have hjk : j < k := by have := hy.out; omega
      have HB := hid (shr_nat x z hz.out y (k - (j + 1)) (by rw [hy.out]; omega))
      have HU := hid (dg_up x k j hjk)
      have HM := hid (show m + 1 = n + (j + 1) by rw [hm.out]; omega)
      have HY := hid (show y - 1 = (k : Int) - 1 - ((j + 1 : Nat) : Int) by rw [hy.out]; omega)
      have HL := hid (show (l ++ dg (j + 1) (x / 256 ^ (k - (j + 1)))).length = m + 1 by rw [List.length_append, hn.out, dg_length, hm.out]; omega)
      generalize hU : UInt8.ofNat (x / 256 ^ (k - (j + 1)) % 256) = u at HB HU
      generalize hQ : z / 2 ^ (8 * y).toNat % 256 = q at HB
      have Hu := hid hU
      clear hU
      go_wp2_with (at_builtin; refine wpList_append_rd rfl (.tmp 14) (.tmp 20) _ rfl base 5 Try.underlying38 hi0 hz0 hz1 hz2 B m d (l ++ dg j (x / 256 ^ (k - j))) hw rfl (ho.keep ((Below.refl _ _).alloc (Nat.le_refl _) _)) (some ⟨wr.heap.size, 0, none⟩) 1 1 [u] (hid rfl) rfl (lit_byte wr _ u HB) (by omega) (Nat.le_trans (Nat.le_trans hbase hb.size) (by simp)) ?_; intro B' d' w1 hown1 hb1)
      go_roundw
      case rel => exact ⟨j + 1, m + 1, B', d', y - 1, by omega, HY, by omega, by omega, rfl, rfl, HM, HL, by rw [HU.out, ← List.append_assoc]; exact hown1, (hb.alloc (Nat.le_trans hbase hb.size) _).trans hb1⟩
      case measure => simp [intOf]; omega
    · have hjk : j = k := by have := hy.out; omega
      have HK := hid hjk
      clear hjk
      go_wp2
      go_ret
      have e1 := hm.out
      have e2 := HK.out
      subst e1 e2
      rw [Nat.sub_self, Nat.pow_zero, Nat.div_one] at ho
      exact ⟨B, d, rfl, ho, hb⟩

/-- A handle that may be put: its numbers. -/
structure Hn (l c k : Int) (a b d : Nat) : Prop where
  la : (a : Int) = l
  cb : (b : Int) = c
  kd : (d : Int) = k
  a1 : a < 256
  b1 : b < 4294967296
  d1 : d < 256
theorem hn_of {l c k : Int} (h : Lab l c) (k0 : 0 ≤ k) (k1 : k ≤ 255) : Hn l c k l.toNat c.toNat k.toNat := by
  obtain ⟨g1, g2, g3, g4⟩ := h
  exact ⟨by omega, by omega, by omega, by omega, by omega, by omega⟩
theorem Hn.l_eq {l c k : Int} {a b d : Nat} (h : Hn l c k a b d) : l = ((UInt8.ofNat a).toNat : Int) := by rw [ofNat_toNat h.a1, h.la]
theorem Hn.k_eq {l c k : Int} {a b d : Nat} (h : Hn l c k a b d) : k = ((UInt8.ofNat d).toNat : Int) := by rw [ofNat_toNat h.d1, h.kd]

set_option maxRecDepth 100000 in
set_option maxHeartbeats 800000 in
theorem handleBytes_any (l c k : Int) (a b d : Nat) (h : Hid (Hn l c k a b d)) (w : World) :
    Calls Try.prog 45 #[.agg #[.int .u8 l, .int .u32 c, .int .u8 k]] w fun e w' => ∃ A' c', e = .returned (.slice A' 6 c') ∧ Own w' w.heap.size 5 A' c' (hby a b d) ∧ Below w.heap.size w w' := by
  obtain ⟨i0, hi0, hz0, hz1, hz2⟩ := info_parts info_u8
  have c0 : 0 ≤ c := by have := h.out.cb; omega
  have c1 : c < 9223372036854775808 := by have := h.out.cb; have := h.out.b1; omega
  have HL := hid h.out.l_eq
  have HK := hid h.out.k_eq
  have HC := hid h.out.cb
  go_enter Try.func45, Try.ntmps45
  go_wp2_with fail
  refine (put_any (w.heap.size + 1) _ 1 1 [UInt8.ofNat a] (hid rfl) b c HC c0 c1 4 4 (hid rfl) _ (by omega) (by omega) (own_one _ _ _ (by simp) (by omega) l _ HL) (by simp)).mono ?_
  rintro e w1 ⟨A1, c2, rfl, ho, hb⟩
  have hbo : Below w.heap.size w w1 := (show Below w.heap.size w _ by go_grown).trans (hb.mono (by omega))
  have k2 : w1.cell? ⟨w.heap.size, 2, none⟩ = some (.int .u8 k) := by rw [hb.cell (p := ⟨w.heap.size, 2, none⟩) (by simp)]; simp
  have z := hbo.size
  clear hb
  go_wp2_with (at_builtin; refine wpList_append_rd rfl (.tmp 13) (.tmp 16) _ rfl w.heap.size 5 Try.underlying38 hi0 hz0 hz1 hz2 A1 5 c2 ([UInt8.ofNat a] ++ dg 4 b) (hid (by simp [dg_length])) rfl ((ho.mono (by omega)).keep ((Below.refl _ _).alloc (Nat.le_refl _) _)) (some ⟨w1.heap.size, 0, none⟩) 1 1 [UInt8.ofNat d] (hid rfl) rfl (lit_byte w1 _ _ HK) (by omega) (by simp; omega) ?_; intro A' c' w2 ho2 hb2)
  go_ret
  exact ⟨A', c', rfl, ho2, (hbo.alloc z _).trans hb2⟩

set_option maxHeartbeats 800000 in
theorem putHandle_of (L : List UInt8) (m : Nat) (j : Int) (l c k : Int) (a b d : Nat) (h : Hid (Hn l c k a b d)) (hL : Hid ((if mayH l k = true then hby a b d else []) = L ∧ L.length = m ∧ er (mayH l k) = j)) (w : World) :
    Calls Try.prog 28 #[.agg #[.int .u8 l, .int .u32 c, .int .u8 k]] w fun e w' => ∃ A' c', e = .returned (.tuple #[.slice A' m c', .int .i64 j]) ∧ Rd w' A' c' L ∧ Below w.heap.size w w' := by
  go_enter Try.func28, Try.ntmps28
  cases hq : mayH l k
  · obtain ⟨h1, h2, h3⟩ := hL.out
    rw [if_neg (by simp [hq])] at h1
    rw [hq] at h3
    subst h1 h2 h3
    have HQ := hid hq
    clear hq hL
    go_wp2_with fail
    refine (checkHandle_any l c k _).mono ?_
    rw [HQ.out]
    rintro e w1 ⟨rfl, b1⟩
    go_wp2_with fail
    go_ret2
    exact ⟨none, 0, rfl, Rd.nil _, below_in (by go_grown) b1⟩
  · obtain ⟨h1, h2, h3⟩ := hL.out
    rw [if_pos hq] at h1
    rw [hq] at h3
    rw [← h1, hby_length] at h2
    subst h1 h2 h3
    have HQ := hid hq
    clear hq hL
    go_wp2_with fail
    refine (checkHandle_any l c k _).mono ?_
    rw [HQ.out]
    rintro e w1 ⟨rfl, b1⟩
    have hb : Below w.heap.size w w1 := below_in (by go_grown) b1
    (have x0 : w1.cell? ⟨w.heap.size, 0, none⟩ = some (.int .u8 l) := (keep b1 (by simp)); have x1 : w1.cell? ⟨w.heap.size, 1, none⟩ = some (.int .u32 c) := (keep b1 (by simp)); have x2 : w1.cell? ⟨w.heap.size, 2, none⟩ = some (.int .u8 k) := (keep b1 (by simp)))
    clear b1
    go_wp2_with fail
    refine (handleBytes_any l c k a b d h _).mono ?_
    rintro e w2 ⟨A1, c1, rfl, ho, b1⟩
    go_wp2
    go_ret2
    exact ⟨A1, c1, rfl, ho.rd, below_in hb b1⟩

end Go.Proofs.Ytbigppdaoakkfaa
