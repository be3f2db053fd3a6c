/-
  The contract of the reference's All: a span's ids, one behind the other.
-/
import Derived.Test.YtpmpngdejikhhaaIdS
import Derived.Test.YtpmpngdejikhhaaMem
import Derived.Deep.AppendLies
import Derived.LoopTactic
import Derived.WalkMore
import Derived.Outline
namespace Go.Proofs.Ytpmpngdejikhhaa
open Go.RowKit
set_option linter.unusedVariables false
set_option linter.unusedSimpArgs false

/-- The cells of the first j ids of a span. -/
def idc (l c k n : Int) : Nat → List Value
  | 0 => []
  | j + 1 => idc l c k n j ++ [.int .u8 l, .int .u32 c, .int .u8 k, .int .i64 (n + (j : Int))]
theorem idc_length (l c k n : Int) : ∀ j, (idc l c k n j).length = j * 4
  | 0 => rfl
  | j + 1 => by rw [idc, List.length_append, idc_length l c k n j]; simp; omega
theorem idc_at (l c k n : Int) : ∀ (m i : Nat), i < m → (idc l c k n m)[i * 4]? = some (.int .u8 l) ∧ (idc l c k n m)[i * 4 + 1]? = some (.int .u32 c) ∧ (idc l c k n m)[i * 4 + 2]? = some (.int .u8 k) ∧ (idc l c k n m)[i * 4 + 3]? = some (.int .i64 (n + (i : Int)))
  | m + 1, i, h => by
    rw [idc]
    have hl := idc_length l c k n m
    by_cases e : i = m
    · subst e
      refine ⟨?_, ?_, ?_, ?_⟩
      · rw [List.getElem?_append_right (by omega), hl, Nat.sub_self]; rfl
      · rw [List.getElem?_append_right (by omega), hl, show i * 4 + 1 - i * 4 = 1 by omega]; rfl
      · rw [List.getElem?_append_right (by omega), hl, show i * 4 + 2 - i * 4 = 2 by omega]; rfl
      · rw [List.getElem?_append_right (by omega), hl, show i * 4 + 3 - i * 4 = 3 by omega]; rfl
    · obtain ⟨h0, h1, h2, h3⟩ := idc_at l c k n m i (by omega)
      refine ⟨?_, ?_, ?_, ?_⟩
      · rw [List.getElem?_append_left (by omega)]; exact h0
      · rw [List.getElem?_append_left (by omega)]; exact h1
      · rw [List.getElem?_append_left (by omega)]; exact h2
      · rw [List.getElem?_append_left (by omega)]; exact h3

theorem info_id : (Try.prog.info? 28).map (fun i => (i.zero, i.size, i.bytes)) = some (some (.agg #[.int .u8 0, .int .u32 0, .int .u8 0, .int .i64 0]), 4, 24) := by kernel_rfl

/-- m ids lie from a block's beginning on. -/
def Rids (w : World) (g cap : Nat) (l c k n : Int) (m : Nat) : Prop :=
  m ≤ cap ∧ cap ≤ 9223372036854775807 ∧ ∀ i, i < m → w.cell? ⟨g, i * 4, none⟩ = some (.int .u8 l) ∧ w.cell? ⟨g, i * 4 + 1, none⟩ = some (.int .u32 c) ∧ w.cell? ⟨g, i * 4 + 2, none⟩ = some (.int .u8 k) ∧ w.cell? ⟨g, i * 4 + 3, none⟩ = some (.int .i64 (n + (i : Int)))
theorem Rids.keep {w w' : World} (b : Below w.heap.size w w') {g cap : Nat} {l c k n : Int} {m : Nat} (h : Rids w g cap l c k n m) : Rids w' g cap l c k n m :=
  ⟨h.1, h.2.1, fun i hi => ⟨Go.Proofs.Ytpmpngdejikhhaa.keep b (h.2.2 i hi).1, Go.Proofs.Ytpmpngdejikhhaa.keep b (h.2.2 i hi).2.1, Go.Proofs.Ytpmpngdejikhhaa.keep b (h.2.2 i hi).2.2.1, Go.Proofs.Ytpmpngdejikhhaa.keep b (h.2.2 i hi).2.2.2⟩⟩

theorem rids_of {w : World} {base : Nat} {v : Value} {l c k n : Int} {m : Nat} (hm : 1 ≤ m) (h : w.ownsRow base 28 4 v m (idc l c k n m)) : ∃ g cap, v = .slice (some ⟨g, 0, none⟩) m cap ∧ base ≤ g ∧ Rids w g cap l c k n m := by
  obtain ⟨h0, h1⟩ := h
  rcases h1 with ⟨hv, hn⟩ | ⟨g, cap, cur, hv, hbg, hg, hnc, hcm, hcs, htk⟩
  · omega
  · refine ⟨g, cap, hv, hbg, hnc, by unfold maxLen at hcm; omega, fun i hi => ?_⟩
    have key : ∀ o u, (idc l c k n m)[o]? = some u → w.cell? ⟨g, o, none⟩ = some u := by
      intro o u hu
      rw [cell_of_row w g o cur 28 (0, 0) hg]
      rw [← htk, List.getElem?_take] at hu
      split at hu
      · rw [← Array.getElem?_toList]; exact hu
      · cases hu
    obtain ⟨k0, k1, k2, k3⟩ := idc_at l c k n m i hi
    exact ⟨key _ _ k0, key _ _ k1, key _ _ k2, key _ _ k3⟩

theorem ownsRow_keep {w w' : World} {base : Nat} {e : TypeId} {size : Nat} {v : Value} {n : Nat} {xs : List Value} (h : w.ownsRow base e size v n xs) (hb : Below w.heap.size w w') : w'.ownsRow base e size v n xs := by
  obtain ⟨h0, h1⟩ := h
  refine ⟨h0, ?_⟩
  rcases h1 with h | ⟨g, cap, cur, hv, hbg, hg, r⟩
  · exact .inl h
  · have hlt : g < w.heap.size := by
      rcases Nat.lt_or_ge g w.heap.size with h' | h'
      · exact h'
      · rw [Array.getElem?_eq_none h'] at hg; cases hg
    exact .inr ⟨g, cap, cur, hv, hbg, by rw [hb.block g hlt]; exact hg, r⟩

set_option maxRecDepth 100000 in
set_option maxHeartbeats 1600000 in
theorem all_of (l c k n m : Int) (M : Nat) (hM : Hid ((M : Int) = m)) (h : mayS l k n m = true) (w : World) :
    Calls Try.prog 38 #[.agg #[.int .u8 l, .int .u32 c, .int .u8 k, .int .i64 n, .int .i64 m]] w fun e w' => ∃ g cap, e = .returned (.slice (some ⟨g, 0, none⟩) M cap) ∧ w.heap.size ≤ g ∧ Rids w' g cap l c k n M ∧ Below w.heap.size w w' := by
  obtain ⟨i0, hi0, hz0, hz1, hz2⟩ := info_parts info_id
  obtain ⟨r1, r2, r3, r4, r5⟩ := mayS_range h
  have hm1 : 1 ≤ M := by have := hM.out; omega
  have hm64 : M ≤ 64 := by have := hM.out; omega
  clear h r5
  go_enter Try.func38, Try.ntmps38
  go_wp2
  go_loopw [3, 4] (fun v i wr => ∃ (j : Nat), j ≤ M ∧ i = .int .i64 (j : Int) ∧ wr.ownsRow (w.heap.size + 1) 28 4 v j (idc l c k n j) ∧ Below (w.heap.size + 1) (w.alloc (.cells #[.int .u8 l, .int .u32 c, .int .u8 k, .int .i64 n, .int .i64 m] 31)) wr) (fun _ i _ => M - (intOf i).toNat)
  case atStart => exact ⟨0, by omega, rfl, World.ownsRow_nil _ _ _ _, Below.refl _ _⟩
  case round =>
    obtain ⟨j, hj, rfl, hown, hb⟩ := hrel
    by_cases hlt : j < M
    · have hlt2 : (j : Int) < m := by have := hM.out; omega
      have s0 : wr.cell? ⟨w.heap.size, 0, none⟩ = some (.int .u8 l) := by rw [hb.cell (p := ⟨w.heap.size, 0, none⟩) (by show w.heap.size < _; omega)]; simp [go_sem]
      have s1 : wr.cell? ⟨w.heap.size, 1, none⟩ = some (.int .u32 c) := by rw [hb.cell (p := ⟨w.heap.size, 1, none⟩) (by show w.heap.size < _; omega)]; simp [go_sem]
      have s2 : wr.cell? ⟨w.heap.size, 2, none⟩ = some (.int .u8 k) := by rw [hb.cell (p := ⟨w.heap.size, 2, none⟩) (by show w.heap.size < _; omega)]; simp [go_sem]
      have s3 : wr.cell? ⟨w.heap.size, 3, none⟩ = some (.int .i64 n) := by rw [hb.cell (p := ⟨w.heap.size, 3, none⟩) (by show w.heap.size < _; omega)]; simp [go_sem]
      have s4 : wr.cell? ⟨w.heap.size, 4, none⟩ = some (.int .i64 m) := by rw [hb.cell (p := ⟨w.heap.size, 4, none⟩) (by show w.heap.size < _; omega)]; simp [go_sem]
      obtain ⟨x, hx⟩ : ∃ x, n + (j : Int) = x := ⟨_, rfl⟩
      have x0 : -9223372036854775808 ≤ x := by omega
      have x1 : x ≤ 9223372036854775807 := by have := hM.out; omega
      have HX := hid (show idc l c k n (j + 1) = idc l c k n j ++ [.int .u8 l, .int .u32 c, .int .u8 k, .int .i64 x] by rw [idc, hx])
      have hz := hb.size
      simp only [World.size_alloc] at hz
      have ho2 := ownsRow_keep hown ((Below.refl _ wr).alloc (Nat.le_refl _) (.cells #[.int .u8 l, .int .u32 c, .int .u8 k, .int .i64 x] 28))
      go_wp2_with (at_builtin; refine wpList_append_lies _ rfl (.tmp 11) (.tmp 21) _ rfl (w.heap.size + 1) 28 i0 (.agg #[.int .u8 0, .int .u32 0, .int .u8 0, .int .i64 0]) 4 24 Try.underlying75 hi0 hz0 hz1 hz2 rfl (by omega) u3 j (idc l c k n j) rfl ho2 ⟨wr.heap.size, 0, none⟩ 1 1 [.int .u8 l, .int .u32 c, .int .u8 k, .int .i64 x] rfl rfl (World.news_of_block (heap_alloc_new wr _)) (fun u hu => by simp at hu; rcases hu with rfl | rfl | rfl | rfl <;> rfl) (by omega) (by unfold maxLen; omega) (by omega) (by simp; omega) (wr.heap.size + 1) (by simp) ?_; intro g cap w1 hown1 hgrow hat hlt1)
      go_roundw
      case rel => exact ⟨j + 1, by omega, by go_num, by rw [HX.out]; exact hown1, (hb.alloc hz _).grown hgrow (by simp; omega) (fun k hk => (hown.lt k hk).1)⟩
      case measure => simp [intOf]; omega
    · have hlt2 : ¬ (j : Int) < m := by have := hM.out; omega
      have s4 : wr.cell? ⟨w.heap.size, 4, none⟩ = some (.int .i64 m) := by rw [hb.cell (p := ⟨w.heap.size, 4, none⟩) (by show w.heap.size < _; omega)]; simp [go_sem]
      obtain rfl : j = M := by omega
      obtain ⟨g, cap, rfl, hgg, hrd⟩ := rids_of hm1 hown
      go_wp2
      go_ret
      exact ⟨g, cap, rfl, by omega, hrd, (show Below w.heap.size w _ from (Below.refl _ w).alloc (Nat.le_refl _) _).trans (hb.mono (by omega))⟩

set_option maxRecDepth 100000 in
set_option maxHeartbeats 1600000 in
theorem rAt_of (q : Bool) (j x0 x1 x2 x3 : Int) (l c k n m p : Int) (hm0 : -9223372036854775808 ≤ m) (hx : Hid (atB l k n m p = q ∧ atE l k n m p = j ∧ pick q l = x0 ∧ pick q c = x1 ∧ pick q k = x2 ∧ pick q (n + p) = x3)) (w : World) :
    Calls Try.prog 20 #[.agg #[.int .u8 l, .int .u32 c, .int .u8 k, .int .i64 n, .int .i64 m], .int .i64 p] w fun e w' => e = .returned (.tuple #[.agg #[.int .u8 x0, .int .u32 x1, .int .u8 x2, .int .i64 x3], .int .i64 j]) ∧ Below w.heap.size w w' := by
  go_enter Try.func20, Try.ntmps20
  go_wp2_with fail
  refine (maySpan_any l c k n m hm0 _).mono ?_
  rintro e w1 ⟨rfl, b1⟩
  have hb : Below w.heap.size w w1 := below_in (by go_grown) b1
  (have s0 : w1.cell? ⟨w.heap.size, 0, none⟩ = some (.int .u8 l) := (keep b1 (by simp)); have s1 : w1.cell? ⟨w.heap.size, 1, none⟩ = some (.int .u32 c) := (keep b1 (by simp)); have s2 : w1.cell? ⟨w.heap.size, 2, none⟩ = some (.int .u8 k) := (keep b1 (by simp)); have s3 : w1.cell? ⟨w.heap.size, 3, none⟩ = some (.int .i64 n) := (keep b1 (by simp)); have s4 : w1.cell? ⟨w.heap.size, 4, none⟩ = some (.int .i64 m) := (keep b1 (by simp)))
  (have t0 : w1.cell? ⟨w.heap.size + 1, 0, none⟩ = some (.int .u8 0) := (keep b1 (by simp)); have t1 : w1.cell? ⟨w.heap.size + 1, 1, none⟩ = some (.int .u32 0) := (keep b1 (by simp)); have t2 : w1.cell? ⟨w.heap.size + 1, 2, none⟩ = some (.int .u8 0) := (keep b1 (by simp)); have t3 : w1.cell? ⟨w.heap.size + 1, 3, none⟩ = some (.int .i64 0) := (keep b1 (by simp)))
  (have f0 : w1.frozen? ⟨w.heap.size + 1, 0, none⟩ = false := (keepz b1 (v := .int .u8 0) (by simp) (by simp [go_sem])); have f1 : w1.frozen? ⟨w.heap.size + 1, 1, none⟩ = false := (keepz b1 (v := .int .u32 0) (by simp) (by simp [go_sem])); have f2 : w1.frozen? ⟨w.heap.size + 1, 2, none⟩ = false := (keepz b1 (v := .int .u8 0) (by simp) (by simp [go_sem])); have f3 : w1.frozen? ⟨w.heap.size + 1, 3, none⟩ = false := (keepz b1 (v := .int .i64 0) (by simp) (by simp [go_sem])))
  clear b1
  cases hq : mayS l k n m
  · have hx1 := hx.out
    rw [(at_bad p hq).1, (at_bad p hq).2] at hx1
    obtain ⟨rfl, rfl, rfl, rfl, rfl, rfl⟩ := hx1
    clear hx hq
    go_wp2
    exact bodyPost_ret (v := .tuple #[.agg #[.int .u8 0, .int .u32 0, .int .u8 0, .int .i64 0], .int .i64 8]) (by simp [results, Try.results20, go_sem, t0, t1, t2, t3]) rfl ⟨rfl, set4 hb (by omega) _ _ _ _⟩
  · obtain ⟨r1, r2, r3, r4, r5⟩ := mayS_range hq
    by_cases hp0 : p < 0
    · have hx1 := hx.out
      rw [(at_arg hq (.inl hp0)).1, (at_arg hq (.inl hp0)).2] at hx1
      obtain ⟨rfl, rfl, rfl, rfl, rfl, rfl⟩ := hx1
      have hd : decide (p < 0) = true := by simp; omega
      clear hx hq
      go_wp2
      exact bodyPost_ret (v := .tuple #[.agg #[.int .u8 0, .int .u32 0, .int .u8 0, .int .i64 0], .int .i64 2]) (by simp [results, Try.results20, go_sem, t0, t1, t2, t3]) rfl ⟨rfl, set4 hb (by omega) _ _ _ _⟩
    · have hd : decide (p < 0) = false := by simp; omega
      by_cases hpm : m ≤ p
      · have hx1 := hx.out
        rw [(at_arg hq (.inr hpm)).1, (at_arg hq (.inr hpm)).2] at hx1
        obtain ⟨rfl, rfl, rfl, rfl, rfl, rfl⟩ := hx1
        have hd2 : decide (m ≤ p) = true := by simp; omega
        clear hx hq
        go_wp2
        exact bodyPost_ret (v := .tuple #[.agg #[.int .u8 0, .int .u32 0, .int .u8 0, .int .i64 0], .int .i64 2]) (by simp [results, Try.results20, go_sem, t0, t1, t2, t3]) rfl ⟨rfl, set4 hb (by omega) _ _ _ _⟩
      · have hx1 := hx.out
        rw [(at_good hq (p := p) (by omega)).1, (at_good hq (p := p) (by omega)).2] at hx1
        have hd2 : decide (m ≤ p) = false := by simp; omega
        have HX := hx1.2.2.2.2.2
        obtain ⟨rfl, rfl, rfl, rfl, rfl, _⟩ := hx1
        simp only [pick_true] at HX
        obtain ⟨M, hM⟩ : ∃ M : Nat, (M : Int) = m := ⟨m.toNat, by omega⟩
        obtain ⟨P, rfl⟩ : ∃ P : Nat, p = (P : Int) := ⟨p.toNat, by omega⟩
        have HM := hid hM
        have hPM : (P : Int) < (M : Int) := by omega
        have HP := hid (show P < M by omega)
        have HQ := hid hq
        clear hx hq hp0 hpm
        go_wp2_with fail
        refine (all_of l c k n m M HM HQ.out _).mono ?_
        rintro e w2 ⟨g, cap, rfl, hgg, hr, b2⟩
        obtain ⟨y0, y1, y2, y3⟩ := hr.2.2 P HP.out
        rw [HX] at y3
        have hc1 : (M : Int) ≤ (cap : Int) := by have := hr.1; omega
        have hc2 : (cap : Int) ≤ 9223372036854775807 := by have := hr.2.1; omega
        replace hb := below_in hb b2
        (replace f0 := keepz b2 t0 f0; replace f1 := keepz b2 t1 f1; replace f2 := keepz b2 t2 f2; replace f3 := keepz b2 t3 f3)
        (replace t0 := keep b2 t0; replace t1 := keep b2 t1; replace t2 := keep b2 t2; replace t3 := keep b2 t3)
        clear b2 hr s0 s1 s2 s3 s4
        go_wp2
        exact bodyPost_ret (v := .tuple #[.agg #[.int .u8 l, .int .u32 c, .int .u8 k, .int .i64 x3], .int .i64 0]) (by simp [results, Try.results20, go_sem, t0, t1, t2, t3]) rfl ⟨rfl, set4 hb (by omega) _ _ _ _⟩
end Go.Proofs.Ytpmpngdejikhhaa
