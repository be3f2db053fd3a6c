/-
  The contracts of the reference's Bytes, PutHandle and Put.
-/
import Derived.Test.YtndmblhkmgnpcaaGreatIA
import Derived.Deep.RegionHeldLaw
namespace Go.Proofs.YtndmblhkmgnpcaaGreat
open Go.RowKit
set_option linter.unusedVariables false

theorem dg_cons : ∀ (k n : Nat), dg (k + 1) n = UInt8.ofNat (n / 256 ^ k % 256) :: dg k n
  | 0, n => by simp [dg]
  | k + 1, n => by
    rw [dg, dg_cons k (n / 256), dg, List.cons_append, Nat.div_div_eq_div_mul]
    congr 3
    rw [Nat.pow_succ, Nat.mul_comm]

set_option maxRecDepth 100000 in
set_option maxHeartbeats 800000 in
theorem wide_of (x : Nat) (z v : Int) (k : Nat) (hz : Hid ((x : Int) = z)) (z0 : 0 ≤ z) (z1 : z < 9223372036854775808) (hv : Hid (v = (k : Int))) (hk : k ≤ 7) (w : World) :
    Calls Tryz.prog 125 #[.int .i64 z, .int .i64 v] w fun e w' => ∃ A' c', e = .returned (.slice A' k c') ∧ Rd w' A' c' (dg k x) ∧ Below w.heap.size w w' := by
  obtain ⟨i0, hi0, hz0, hz1, hz2⟩ := info_parts info_u8
  have hv7 : v ≤ 7 := by rw [hv.out]; omega
  go_enter Tryz.func125, Tryz.ntmps125
  go_wp2
  go_loopw [0, 5, 6] (fun y b i wr => ∃ (j : Nat) (A : Option Addr) (c : Nat) (u : Int), j ≤ k ∧ i = .int .i64 (j : Int) ∧ b = .slice A j c ∧ y = .int .i64 u ∧ Hid (((x / 256 ^ j : Nat) : Int) = u) ∧ 0 ≤ u ∧ u < 9223372036854775808 ∧ Rd wr A c (dg j x) ∧ Below w.heap.size w wr) (fun _ _ i _ => k - (intOf i).toNat)
  case atStart => exact ⟨0, none, 0, z, by omega, rfl, rfl, rfl, hid (by have := hz.out; simpa using this), z0, z1, Rd.nil _, Below.refl _ _⟩
  case round =>
    obtain ⟨j, A, c, u, hj, rfl, rfl, rfl, hu, u0, u1, hr, hb⟩ := hrel
    by_cases hlt : j < k
    · have hlt2 : (j : Int) < v := by rw [hv.out]; omega
      have HX := hid (show u % 256 = ((UInt8.ofNat (x / 256 ^ j % 256)).toNat : Int) by rw [ofNat_toNat (Nat.mod_lt _ (by decide)), ← hu.out]; omega)
      have HU := hid (show ((x / 256 ^ (j + 1) : Nat) : Int) = u / 256 by rw [Nat.pow_succ, ← Nat.div_div_eq_div_mul, ← hu.out]; omega)
      have HD := hid (dg_cons j x)
      have HL := hid (dg_length j x)
      generalize UInt8.ofNat (x / 256 ^ j % 256) = d at HX HD
      go_wp2_with (at_builtin; refine wpList_append_rd rfl (.tmp 15) (.tmp 16) _ rfl wr.heap.size 5 Tryz.underlying51 hi0 hz0 hz1 hz2 (some ⟨wr.heap.size, 0, none⟩) 1 1 [d] (hid rfl) rfl (own_one wr _ _ rfl (Nat.le_refl _) _ _ HX) A j c (dg j x) HL rfl (hr.alloc _) (by omega) (by simp) ?_; intro A' c' w1 hown hb1)
      go_roundw
      case rel => exact ⟨j + 1, A', c', u / 256, by omega, by go_num, by rw [Nat.add_comm 1 j], rfl, HU, by omega, by omega, by rw [HD.out]; exact hown.rd, (hb.alloc hb.size _).trans (hb1.mono hb.size)⟩
      case measure => simp [intOf]; omega
    · have hlt2 : ¬ (j : Int) < v := by rw [hv.out]; omega
      obtain rfl : j = k := by omega
      go_wp2
      go_ret
      exact ⟨A, c, rfl, hr, hb⟩

/-- append, at a step of a region that draws. -/
theorem step_append_rd {P : Program} {ops : Array Oper} {w : World} {o : Oper} {a : Act} {K : Act → World → Prop} {Q : Exit → Act → World → Prop} {E : Prop} (hgd : o.guard = none) (s x : Operand) (t : TypeId)
    (ho : o.op = .call { callee := .builtin .append, args := #[s, x], argTypes := #[t, t] })
    (base : Nat) (e : TypeId) {i : TypeInfo} (ht : P.underlying t = some (.slice e)) (hi : P.info? e = some i) (hz : i.zero = some (.int .u8 0)) (hsize : i.size = 1) (hby : i.bytes = 1)
    (A : Option Addr) (n c : Nat) (l : List UInt8) (hn : Hid (l.length = n)) (hs : a.eval s = .slice A n c) (hown : Own w base e A c l)
    (A1 : Option Addr) (n1 c1 : Nat) (m : List UInt8) (hn1 : Hid (m.length = n1)) (hx : a.eval x = .slice A1 n1 c1) (hr : Rd w A1 c1 m) (hlen : n + n1 ≤ 100000) (hbase : base ≤ w.heap.size)
    (h : ∀ A' c' w', Own w' base e A' c' (l ++ m) → Below base w w' → K (a.put o.dst (.slice A' (n + n1) c')) w') :
    if Region.wanted o (yielded ops a.tmps) = true then Oper.wp P o a w K Q else E := by
  have hw : Region.wanted o (yielded ops a.tmps) = true := by simp [Region.wanted, hgd]
  rw [if_pos hw]
  have hn' := hn.out
  have hn1' := hn1.out
  subst hn' hn1'
  obtain ⟨A', c', w', hr, h2, h3⟩ := run_append_rd (P := P) (ty := o.type) ht hi hz hsize hby hown hr hlen hbase
  unfold Oper.wp execOp
  simp only [ho, resolve, invoke, builtin, Sem.run_bind, Sem.run_pure, Result.andThen_ok, List.map_toArray, List.map_cons, List.map_nil, hs, hx, hr]
  exact h A' c' w' h2 h3

set_option maxRecDepth 100000 in
set_option maxHeartbeats 1600000 in
theorem named_any (l c k : Int) (a b d : Nat) (h : Hid (Hn l c k a b d)) (w : World) :
    Calls Tryz.prog 97 #[.agg #[.int .u8 l, .int .u32 c, .int .u8 k]] w fun e w' => ∃ A' c', e = .returned (.slice A' 6 c') ∧ Own w' w.heap.size 5 A' c' (hby a b d) ∧ Below w.heap.size w w' := by
  obtain ⟨i0, hi0, hz0, hz1, hz2⟩ := info_parts info_u8
  have c0 : 0 ≤ c := by have := h.out.cb; omega
  have c1 : c < 9223372036854775808 := by have := h.out.cb; have := h.out.b1; omega
  have HL := hid h.out.l_eq
  have HK := hid h.out.k_eq
  have HC := hid h.out.cb
  have hwc : IntKind.i64.wrap c = c := by rw [IntKind.wrap_i64]; omega
  go_enter Tryz.func97, Tryz.ntmps97
  go_wp2_with fail
  generalize hW : w.alloc _ = W
  have hbW : Below w.heap.size w W := by subst hW; go_grown
  (have s0 : W.cell? ⟨w.heap.size, 0, none⟩ = some (.int .u8 l) := ((by subst hW; simp [go_sem])); have s1 : W.cell? ⟨w.heap.size, 1, none⟩ = some (.int .u32 c) := ((by subst hW; simp [go_sem])); have s2 : W.cell? ⟨w.heap.size, 2, none⟩ = some (.int .u8 k) := ((by subst hW; simp [go_sem])))
  clear hW
  (have q0 := fun w' (h : Below W.heap.size W w') => keep h s0; have q1 := fun w' (h : Below W.heap.size W w') => keep h s1; have q2 := fun w' (h : Below W.heap.size W w') => keep h s2)
  have S0 : Below W.heap.size W W.drew := (Below.refl _ _).drew
  have S1 : ∀ o, Below W.heap.size W (W.alloc o).drew := fun o => ((Below.refl _ W).alloc (Nat.le_refl _) o).drew
  have O1 : Own (W.alloc (.cells #[.int .u8 l] 5)).drew W.heap.size 5 (some ⟨W.heap.size, 0, none⟩) 1 [UInt8.ofNat a] := own_one W W.heap.size W.heap.size rfl (Nat.le_refl _) l _ HL
  go_region_held_law (fun w' => Below W.heap.size W w') (with_reducible (first | assumption | exact S1 _ | exact below_step S0 hb1 | exact below_step (S1 _) hb1 | exact (below_step S0 hb1).alloc (below_step S0 hb1).size _ | exact (below_step (S1 _) hb1).trans hb3 | exact ((below_step S0 hb1).alloc (below_step S0 hb1).size _).trans hb3))
    (first
      | (refine step_append_rd rfl (.tmp 7) (.tmp 12) _ (by rfl) W.heap.size 5 Tryz.underlying51 hi0 hz0 hz1 hz2 (some ⟨W.heap.size, 0, none⟩) 1 1 [UInt8.ofNat a] (hid rfl) (by rfl) (O1.keep hb1) A1 4 c2 (dg 4 b) (hid (dg_length _ _)) (by rfl) hr1 (by omega) (by exact Below.size (w := W) (by assumption)) ?_; intro A' c' w3 ho hb3)
      | (refine step_append_rd rfl (.tmp 7) (.tmp 12) _ (by rfl) W.heap.size 5 Tryz.underlying51 hi0 hz0 hz1 hz2 (some ⟨w2.heap.size, 0, none⟩) 1 1 [UInt8.ofNat a] (hid rfl) (by rfl) (own_one w2 W.heap.size w2.heap.size rfl hb1.size l _ HL) A1 4 c2 (dg 4 b) (hid (dg_length _ _)) (by rfl) (hr1.alloc _) (by omega) (by exact Below.size (w := W) (by assumption)) ?_; intro A' c' w3 ho hb3)
      | (go_simp; go_at_call 125; refine (wide_of b c 4 4 HC c0 c1 (hid rfl) (by omega) _).mono ?_; rintro e w2 ⟨A1, c2, rfl, hr1, hb1⟩))
  all_goals
    have hB : Below W.heap.size W w3 := by assumption
    have k2 := q2 w3 hB
    have hz := hB.size
    have hb := below_in hbW hB
    clear q0 q1 q2 s0 s1 s2 S0 S1 O1 hr1 hb1 hb3
    go_simp
    go_wp2_with (at_builtin; refine wpList_append_rd rfl (.tmp 14) (.tmp 17) _ rfl w.heap.size 5 Tryz.underlying51 hi0 hz0 hz1 hz2 A' 5 c' ([UInt8.ofNat a] ++ dg 4 b) (hid (by simp [dg_length])) rfl ((ho.mono hbW.size).keep ((Below.refl _ _).alloc (Nat.le_refl _) _)) (some ⟨w3.heap.size, 0, none⟩) 1 1 [UInt8.ofNat d] (hid rfl) rfl (lit_one w3 _ _ HK) (by omega) (by have := hb.size; simp; omega) ?_; intro A9 c9 w9 ho9 hb9)
    go_ret
    exact ⟨A9, c9, rfl, ho9, (hb.alloc hb.size _).trans hb9⟩
end Go.Proofs.YtndmblhkmgnpcaaGreat

namespace Go.Proofs.YtndmblhkmgnpcaaGreat
open Go.RowKit
set_option linter.unusedVariables false

set_option maxRecDepth 100000 in
set_option maxHeartbeats 1600000 in
theorem bytes_any (l c k n : Int) (a b d : Nat) (h : Hid (Hn l c k a b d)) (n0 : 0 ≤ n) (n1 : n < 9223372036854775808) (w : World) :
    Calls Tryz.prog 126 #[.agg #[.int .u8 l, .int .u32 c, .int .u8 k, .int .i64 n]] w fun e w' => ∃ A' c', e = .returned (.slice A' 13 c') ∧ Rd w' A' c' (iby a b d n.toNat) ∧ Below w.heap.size w w' := by
  obtain ⟨i0, hi0, hz0, hz1, hz2⟩ := info_parts info_u8
  have HN := hid (show ((n.toNat : Nat) : Int) = n by omega)
  go_enter Tryz.func126, Tryz.ntmps126
  go_wp2_with fail
  generalize hW : w.alloc _ = W
  have hbW : Below w.heap.size w W := by subst hW; go_grown
  (have s0 : W.cell? ⟨w.heap.size, 0, none⟩ = some (.int .u8 l) := ((by subst hW; simp [go_sem])); have s1 : W.cell? ⟨w.heap.size, 1, none⟩ = some (.int .u32 c) := ((by subst hW; simp [go_sem])); have s2 : W.cell? ⟨w.heap.size, 2, none⟩ = some (.int .u8 k) := ((by subst hW; simp [go_sem])); have s3 : W.cell? ⟨w.heap.size, 3, none⟩ = some (.int .i64 n) := ((by subst hW; simp [go_sem])))
  clear hW
  (have q0 := fun w' (h : Below W.heap.size W w') => keep h s0; have q1 := fun w' (h : Below W.heap.size W w') => keep h s1; have q2 := fun w' (h : Below W.heap.size W w') => keep h s2; have q3 := fun w' (h : Below W.heap.size W w') => keep h s3)
  have S0 : Below W.heap.size W W.drew := (Below.refl _ _).drew
  go_region_held_law (fun w' => Below W.heap.size W w') (with_reducible (first | assumption | exact S0 | exact below_step S0 hb1 | exact below_step S0 hb2 | exact below_step (below_step S0 hb1) hb2 | exact below_step (below_step S0 hb2) hb1 | exact (below_step (below_step S0 hb1) hb2).trans hb3 | exact (below_step (below_step S0 hb2) hb1).trans hb3))
    (first
      | (refine step_append_rd rfl (.tmp 5) (.tmp 8) _ (by rfl) W.heap.size 5 Tryz.underlying51 hi0 hz0 hz1 hz2 A1 6 c1 (hby a b d) (hid (hby_length _ _ _)) (by rfl) ((ho1.mono (Nat.le_refl _)).keep hb2) A2 7 c2 (dg 7 n.toNat) (hid (dg_length _ _)) (by rfl) hr2 (by omega) (by exact Below.size (w := W) (by assumption)) ?_; intro A' c' w4 ho hb3)
      | (refine step_append_rd rfl (.tmp 5) (.tmp 8) _ (by rfl) W.heap.size 5 Tryz.underlying51 hi0 hz0 hz1 hz2 A1 6 c1 (hby a b d) (hid (hby_length _ _ _)) (by rfl) (ho1.mono hb2.size) A2 7 c2 (dg 7 n.toNat) (hid (dg_length _ _)) (by rfl) (hr2.keep hb1) (by omega) (by exact Below.size (w := W) (by assumption)) ?_; intro A' c' w4 ho hb3)
      | (go_simp; go_at_call 125; refine (wide_of n.toNat n 7 7 HN n0 n1 (hid rfl) (by omega) _).mono ?_; rintro e w3 ⟨A2, c2, rfl, hr2, hb2⟩)
      | (go_simp; go_at_call 97; refine (named_any l c k a b d h _).mono ?_; rintro e w2 ⟨A1, c1, rfl, ho1, hb1⟩))
  all_goals
    have hB : Below W.heap.size W w4 := by assumption
    have hb := below_in hbW hB
    clear q0 q1 q2 q3 s0 s1 s2 s3 S0 ho1 hr2 hb1 hb2 hb3
    go_simp
    go_wp2
    go_ret
    exact ⟨A', c', rfl, ho.rd, hb⟩
end Go.Proofs.YtndmblhkmgnpcaaGreat
