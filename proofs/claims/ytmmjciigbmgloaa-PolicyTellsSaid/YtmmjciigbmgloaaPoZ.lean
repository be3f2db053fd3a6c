/-
  Policies are checked, counted, asked, compared and copied as the document says; they stay, and what is answered is new memory: the statement PolicyTells. Conditions: the statement's own (at most 100 users and quotas).
-/
import Derived.Test.YtmmjciigbmgloaaPoV
import Derived.Test.YtmmjciigbmgloaaPoU
import Derived.Test.YtmmjciigbmgloaaPoO
import Derived.Test.YtmmjciigbmgloaaPoJ
import Derived.BigRegion
namespace Go.Proofs.Ytmmjciigbmgloaa
open Go.ChangeShapes Go.WideShapes Go.ChangeAt Go.RowKit Go.Joins
set_option linter.unusedVariables false
set_option linter.unusedSimpArgs false

theorem allS_refl {α : Type} {f : α → α → Bool} {z : α} (hf : ∀ x, f x x = true) (us : List α) : ∀ j, allS f z us us j = true
  | 0 => rfl
  | j + 1 => by rw [allS, allS_refl hf us j, hf]; rfl
theorem sameP_refl (us : List Cl) (qs : List Qt) (g : Int) : sameP us qs g us qs g = true := by
  rw [sameP, sameUs, sameQs, allS_refl (fun x => by simp [sameCl, sameC]) us, allS_refl (fun x => by simp [sameQt, sameQ]) qs]
  simp
theorem sameQ_refl (a b c d e : Int) : sameQ a b c d e a b c d e = true := by simp [sameQ]

/-- What the box of a policy holds. -/
structure Box (w : World) (T : Nat) (A : Option Addr) (n c : Nat) (B : Option Addr) (m d : Nat) (g : Int) : Prop where
  c0 : w.cell? ⟨T, 0, none⟩ = some (.slice A n c)
  c1 : w.cell? ⟨T, 1, none⟩ = some (.slice B m d)
  c2 : w.cell? ⟨T, 2, none⟩ = some (.int .i64 g)
theorem Box.keep {w w' : World} (hb : Below w.heap.size w w') {T : Nat} {A : Option Addr} {n c : Nat} {B : Option Addr} {m d : Nat} {g : Int} (h : Box w T A n c B m d g) : Box w' T A n c B m d g :=
  ⟨Go.Proofs.Ytmmjciigbmgloaa.keep hb h.c0, Go.Proofs.Ytmmjciigbmgloaa.keep hb h.c1, Go.Proofs.Ytmmjciigbmgloaa.keep hb h.c2⟩
theorem Box.far {w : World} {T : Nat} {A : Option Addr} {n c : Nat} {B : Option Addr} {m d : Nat} {g : Int} (h : Box w T A n c B m d g) {b : Nat} (hb : b ≠ T) (j : Nat) (u : Value) : Box (w.setCell ⟨b, j, none⟩ u) T A n c B m d g :=
  ⟨by rw [World.cell?_setCell_far _ _ _ _ hb]; exact h.c0, by rw [World.cell?_setCell_far _ _ _ _ hb]; exact h.c1, by rw [World.cell?_setCell_far _ _ _ _ hb]; exact h.c2⟩

theorem Box.drew {w : World} {T : Nat} {A : Option Addr} {n c : Nat} {B : Option Addr} {m d : Nat} {g : Int} (h : Box w T A n c B m d g) : Box w.drew T A n c B m d g := ⟨h.c0, h.c1, h.c2⟩
/-- A row of the call's own, and where it lies. -/
theorem row_at {w : World} {base : Nat} {e : TypeId} {s : Nat} {A : Option Addr} {n c : Nat} {xs : List Value} (h : w.ownsRow base e s (.slice A n c) n xs) (hn : 0 < n) :
    ∃ g, A = some ⟨g, 0, none⟩ ∧ base ≤ g ∧ g < w.heap.size ∧ (∃ cur, w.heap[g]? = some (.cells cur e (0, 0))) ∧ (∀ j u, xs[j]? = some u → w.cell? ⟨g, j, none⟩ = some u) ∧ (∀ j, w.frozen? ⟨g, j, none⟩ = false) := by
  obtain ⟨h0, h1⟩ := h
  rcases h1 with ⟨hv, hn0⟩ | ⟨g, cap, cur, hv, hbg, hg, hnc, hcm, hcs, htk⟩
  · omega
  · injection hv with h1 h2 h3
    subst h1 h3
    refine ⟨g, rfl, hbg, ?_, ⟨cur, hg⟩, fun j u hu => ?_, fun j => frozen_of_row w g j cur e hg⟩
    · rcases Nat.lt_or_ge g w.heap.size with h' | h'
      · exact h'
      · rw [Array.getElem?_eq_none h'] at hg; cases hg
    · rw [cell_of_row w g j cur e (0, 0) hg]
      rw [← htk, List.getElem?_take] at hu
      split at hu
      · rw [← Array.getElem?_toList]; exact hu
      · cases hu
theorem rows_apart {w : World} {base e e' s' g : Nat} {cur : Array Value} {B : Option Addr} {m d : Nat} {ys : List Value} (h1 : w.heap[g]? = some (.cells cur e (0, 0))) (he : e ≠ e') (h : w.ownsRow base e' s' (.slice B m d) m ys) : (Value.slice B m d).ownBlock ≠ some g := by
  rcases h.2 with ⟨hv, _⟩ | ⟨g', cap, cur', hv, _, hg, _⟩
  · rw [hv]; intro hh; cases hh
  · rw [hv]
    intro hh
    have e1 : g' = g := by simpa [Value.ownBlock] using hh
    subst e1
    rw [h1] at hg
    injection hg with hg
    injection hg with _ hg
    exact he hg
theorem row_cap {w : World} {base : Nat} {e : TypeId} {s : Nat} {A : Option Addr} {n c : Nat} {xs : List Value} (h : w.ownsRow base e s (.slice A n c) n xs) : n ≤ c ∧ c ≤ 9223372036854775807 := by
  obtain ⟨h0, h1⟩ := h
  rcases h1 with ⟨hv, hn0⟩ | ⟨g, cap, cur, hv, hbg, hg, hnc, hcm, hcs, htk⟩
  · injection hv with h1 h2 h3; omega
  · injection hv with h1 h2 h3
    subst h3
    exact ⟨hnc, hcm⟩

set_option maxRecDepth 100000 in
set_option maxHeartbeats 4000000 in
theorem ptells_walk (A : Option Addr) (n c : Nat) (B : Option Addr) (m d : Nat) (g : Int) (us : List Cl) (qs : List Qt) (A1 : Option Addr) (n1 c1 : Nat) (B1 : Option Addr) (m1 d1 : Nat) (g1 : Int) (vs : List Cl) (rs : List Qt) (u l0 l1 : Int) (hu : In64 u) (hl : Lab l0 l1) (w : World) (hp : Pol w A n c B m d g us qs) (hp1 : Pol w A1 n1 c1 B1 m1 d1 g1 vs rs) :
    Calls Try.prog 4 #[.agg #[.slice A n c, .slice B m d, .int .i64 g], .agg #[.slice A1 n1 c1, .slice B1 m1 d1, .int .i64 g1], .int .i64 u, .agg #[.int .u8 l0, .int .u32 l1]] w fun e w' => e = .returned (.bool true) ∧ Below w.heap.size w w' := by
  have hE := eql_quota
  generalize hG : decide (100 < n ∨ 100 < m) = G
  generalize hG1 : decide (100 < n1 ∨ 100 < m1) = G1
  generalize hR : rightB us qs g = R
  generalize hZ : (if rightB us qs g = true then g + smB qs m else 0) = Z
  generalize hK : er (askB us qs g l0) = K
  generalize hV : (askB us qs g l0 && opensB us u l0 l1) = V
  generalize hY : quotaV us qs g l0 l1 = Y
  obtain ⟨y0, y1, y2, y3, y4⟩ := Y
  generalize hS : sameP us qs g vs rs g1 = S
  have HG := hid hG
  have HG1 := hid hG1
  have HR := hid hR
  have HZ := hid (show (if rightB us qs g = true then g + smB qs m else 0) = Z ∧ er (rightB us qs g) = er R from ⟨hZ, by rw [hR]⟩)
  have HM := hid (show (askB us qs g l0 && opensB us u l0 l1) = V ∧ er (askB us qs g l0) = K from ⟨hV, hK⟩)
  have HQ := hid (show quotaV us qs g l0 l1 = ⟨y0, y1, y2, y3, y4⟩ ∧ er (askB us qs g l0) = K from ⟨hY, hK⟩)
  have HC := hid (show er (rightB us qs g) = er R by rw [hR])
  have HS := hid hS
  have HT := hid (sameP_refl us qs g)
  have HP := hid hp
  have HP1 := hid hp1
  have HL := hid hl
  clear hG hG1 hR hZ hK hV hY hS hp hp1 hu hl
  go_enter Try.func4, Try.ntmps4
  go_wp2_with fail
  refine (great_of G A n c B m d g HG _).mono ?_
  rintro e w1 ⟨rfl, b1⟩
  (have s0 : w1.cell? ⟨w.heap.size, 0, none⟩ = some (.slice A n c) := (keep b1 (by simp [go_sem])); have s1 : w1.cell? ⟨w.heap.size, 1, none⟩ = some (.slice B m d) := (keep b1 (by simp [go_sem])); have s2 : w1.cell? ⟨w.heap.size, 2, none⟩ = some (.int .i64 g) := (keep b1 (by simp [go_sem])))
  (have t0 : w1.cell? ⟨w.heap.size + 1, 0, none⟩ = some (.slice A1 n1 c1) := (keep b1 (by simp [go_sem])); have t1 : w1.cell? ⟨w.heap.size + 1, 1, none⟩ = some (.slice B1 m1 d1) := (keep b1 (by simp [go_sem])); have t2 : w1.cell? ⟨w.heap.size + 1, 2, none⟩ = some (.int .i64 g1) := (keep b1 (by simp [go_sem])))
  (have v0 : w1.cell? ⟨w.heap.size + 1 + 1, 0, none⟩ = some (.int .u8 l0) := (keep b1 (by simp [go_sem])); have v1 : w1.cell? ⟨w.heap.size + 1 + 1, 1, none⟩ = some (.int .u32 l1) := (keep b1 (by simp [go_sem])))
  have hb := past_alloc3 b1
  clear b1
  cases G
  case true =>
    go_wp2
    go_ret
    exact ⟨rfl, hb⟩
  go_wp2_with fail
  refine (great_of G1 A1 n1 c1 B1 m1 d1 g1 HG1 _).mono ?_
  rintro e w2 ⟨rfl, b2⟩
  (replace s0 := keep b2 s0; replace s1 := keep b2 s1; replace s2 := keep b2 s2)
  (replace t0 := keep b2 t0; replace t1 := keep b2 t1; replace t2 := keep b2 t2)
  (replace v0 := keep b2 v0; replace v1 := keep b2 v1)
  replace hb := below_in hb b2
  clear b2
  cases G1
  case true =>
    go_wp2
    go_ret
    exact ⟨rfl, hb⟩
  have hnm : n ≤ 100 ∧ m ≤ 100 := by have := of_decide_eq_false HG.out; omega
  clear HG HG1
  go_wp2_with fail
  refine (rTwin_of A n c B m d g us qs (by omega) (by omega) _ (HP.out.keep hb)).mono ?_
  rintro e w3 ⟨A', c', B', d', rfl, hoc, hoq, b3⟩
  (replace s0 := keep b3 s0; replace s1 := keep b3 s1; replace s2 := keep b3 s2)
  (replace t0 := keep b3 t0; replace t1 := keep b3 t1; replace t2 := keep b3 t2)
  (replace v0 := keep b3 v0; replace v1 := keep b3 v1)
  replace hb := below_in hb b3
  clear b3
  have HO : Pol w3 A' n c' B' m d' g us qs := ⟨HP.out.hn, HP.out.hm, hoc.rd, hoq.rd, HP.out.hg⟩
  clear hoc hoq
  go_wp2_with fail
  refine (blocks_tells Z (er R) A' n c' B' m d' g us qs HZ _ (HO.keep (by go_grown))).mono ?_
  rintro e w4 ⟨rfl, b4⟩
  have O : Box w4 w3.heap.size A' n c' B' m d' g := ⟨keep b4 (by simp [go_sem]), keep b4 (by simp [go_sem]), keep b4 (by simp [go_sem])⟩
  replace b4 := past_alloc b4
  (replace s0 := keep b4 s0; replace s1 := keep b4 s1; replace s2 := keep b4 s2)
  (replace t0 := keep b4 t0; replace t1 := keep b4 t1; replace t2 := keep b4 t2)
  (replace v0 := keep b4 v0; replace v1 := keep b4 v1)
  replace HO := HO.keep b4
  replace hb := below_in hb b4
  clear b4
  go_wp2_with fail
  refine (rBlocks_of Z (er R) A n c B m d g us qs HZ _ (HP.out.keep hb)).mono ?_
  rintro e w5 ⟨rfl, b5⟩
  (replace s0 := keep b5 s0; replace s1 := keep b5 s1; replace s2 := keep b5 s2)
  (replace t0 := keep b5 t0; replace t1 := keep b5 t1; replace t2 := keep b5 t2)
  (replace v0 := keep b5 v0; replace v1 := keep b5 v1)
  replace HO := HO.keep b5
  replace O := O.keep b5
  replace hb := below_in hb b5
  clear b5
  obtain ⟨o0, o1, o2⟩ := O
  go_wp2_with fail
  refine (may_of V K A' n c' B' m d' g us qs u l0 l1 HM _ HO).mono ?_
  rintro e w6 ⟨rfl, b6⟩
  (replace s0 := keep b6 s0; replace s1 := keep b6 s1; replace s2 := keep b6 s2)
  (replace t0 := keep b6 t0; replace t1 := keep b6 t1; replace t2 := keep b6 t2)
  (replace v0 := keep b6 v0; replace v1 := keep b6 v1)
  (replace o0 := keep b6 o0; replace o1 := keep b6 o1; replace o2 := keep b6 o2)
  replace HO := HO.keep b6
  replace hb := below_in hb b6
  clear b6
  go_wp2_with fail
  refine (rMay'_of V K A n c B m d g us qs u l0 l1 HL.out HM _ (HP.out.keep hb)).mono ?_
  rintro e w7 ⟨rfl, b7⟩
  (replace s0 := keep b7 s0; replace s1 := keep b7 s1; replace s2 := keep b7 s2)
  (replace t0 := keep b7 t0; replace t1 := keep b7 t1; replace t2 := keep b7 t2)
  (replace v0 := keep b7 v0; replace v1 := keep b7 v1)
  (replace o0 := keep b7 o0; replace o1 := keep b7 o1; replace o2 := keep b7 o2)
  replace HO := HO.keep b7
  replace hb := below_in hb b7
  clear b7
  go_wp2_with fail
  refine (quota_of y0 y1 y2 y3 y4 K A' n c' B' m d' g us qs l0 l1 HQ _ HO).mono ?_
  rintro e w8 ⟨rfl, b8⟩
  (replace s0 := keep b8 s0; replace s1 := keep b8 s1; replace s2 := keep b8 s2)
  (replace t0 := keep b8 t0; replace t1 := keep b8 t1; replace t2 := keep b8 t2)
  (replace v0 := keep b8 v0; replace v1 := keep b8 v1)
  (replace o0 := keep b8 o0; replace o1 := keep b8 o1; replace o2 := keep b8 o2)
  replace HO := HO.keep b8
  replace hb := below_in hb b8
  clear b8
  (replace s0 := fun o => keepa s0 o; replace s1 := fun o => keepa s1 o; replace s2 := fun o => keepa s2 o)
  (replace v0 := fun o => keepa v0 o; replace v1 := fun o => keepa v1 o)
  go_wp2_with fail
  refine (rQuota_of y0 y1 y2 y3 y4 K A n c B m d g us qs l0 l1 HQ _ (HP.out.keep (hb.alloc hb.size _))).mono ?_
  rintro e w9 ⟨rfl, b9⟩
  (have x0 : w9.cell? ⟨w8.heap.size, 0, none⟩ = some (.int .u8 y0) := (keep b9 (by simp [go_sem])); have x1 : w9.cell? ⟨w8.heap.size, 1, none⟩ = some (.int .u32 y1) := (keep b9 (by simp [go_sem])); have x2 : w9.cell? ⟨w8.heap.size, 2, none⟩ = some (.int .i64 y2) := (keep b9 (by simp [go_sem])); have x3 : w9.cell? ⟨w8.heap.size, 3, none⟩ = some (.int .i64 y3) := (keep b9 (by simp [go_sem])); have x4 : w9.cell? ⟨w8.heap.size, 4, none⟩ = some (.int .i64 y4) := (keep b9 (by simp [go_sem])))
  (replace s0 := keep b9 (s0 _); replace s1 := keep b9 (s1 _); replace s2 := keep b9 (s2 _))
  replace b9 := past_alloc b9
  (replace t0 := keep b9 t0; replace t1 := keep b9 t1; replace t2 := keep b9 t2)
  (replace o0 := keep b9 o0; replace o1 := keep b9 o1; replace o2 := keep b9 o2)
  replace HO := HO.keep b9
  replace hb := below_in hb b9
  clear b9 v0 v1
  have HO9 := hid HO
  have hb9 := hb
  have HS9 := hid (show _ ∧ _ ∧ _ from ⟨s0, s1, s2⟩)
  have HC9 := hid (show _ ∧ _ ∧ _ from ⟨o0, o1, o2⟩)
  (have p0 := o0; have p1 := o1; have p2 := o2)
  (replace p0 := fun o => keepa p0 o; replace p1 := fun o => keepa p1 o; replace p2 := fun o => keepa p2 o)
  go_wp2_with fail
  refine (twin_of A' n c' B' m d' g us qs (by omega) (by omega) _ (HO.keep ((Below.refl _ _).alloc (Nat.le_refl _) _))).mono ?_
  rintro e wT ⟨A2, c2, B2, d2, rfl, ho2, hq2, b10⟩
  simp only [World.size_alloc] at ho2 hq2
  (have r0 : wT.cell? ⟨w9.heap.size, 0, none⟩ = some (.int .u8 y0) := (keep b10 (by simp [go_sem])); have r1 : wT.cell? ⟨w9.heap.size, 1, none⟩ = some (.int .u32 y1) := (keep b10 (by simp [go_sem])); have r2 : wT.cell? ⟨w9.heap.size, 2, none⟩ = some (.int .i64 y2) := (keep b10 (by simp [go_sem])); have r3 : wT.cell? ⟨w9.heap.size, 3, none⟩ = some (.int .i64 y3) := (keep b10 (by simp [go_sem])); have r4 : wT.cell? ⟨w9.heap.size, 4, none⟩ = some (.int .i64 y4) := (keep b10 (by simp [go_sem])))
  replace b10 := past_alloc b10
  (replace s0 := keep b10 s0; replace s1 := keep b10 s1; replace s2 := keep b10 s2)
  (replace t0 := keep b10 t0; replace t1 := keep b10 t1; replace t2 := keep b10 t2)
  (replace o0 := keep b10 o0; replace o1 := keep b10 o1; replace o2 := keep b10 o2)
  (replace x0 := keep b10 x0; replace x1 := keep b10 x1; replace x2 := keep b10 x2; replace x3 := keep b10 x3; replace x4 := keep b10 x4)
  replace HO := HO.keep b10
  replace hb := below_in hb b10
  have h9 := b10
  have hzT : w9.heap.size + 1 ≤ wT.heap.size := World.block_lt_of_cell? wT _ r0
  clear b10 p0 p1 p2
  go_wp2_with fail
  generalize hW : wT.alloc _ = W
  have hbW : Below wT.heap.size wT W := by rw [← hW]; go_grown
  (have z0 : W.cell? ⟨wT.heap.size, 0, none⟩ = some (.slice A2 n c2) := ((by rw [← hW]; simp [go_sem])); have z1 : W.cell? ⟨wT.heap.size, 1, none⟩ = some (.slice B2 m d2) := ((by rw [← hW]; simp [go_sem])); have z2 : W.cell? ⟨wT.heap.size, 2, none⟩ = some (.int .i64 g) := ((by rw [← hW]; simp [go_sem])))
  clear hW
  (replace s0 := keep hbW s0; replace s1 := keep hbW s1; replace s2 := keep hbW s2)
  (replace t0 := keep hbW t0; replace t1 := keep hbW t1; replace t2 := keep hbW t2)
  (replace o0 := keep hbW o0; replace o1 := keep hbW o1; replace o2 := keep hbW o2)
  (replace x0 := keep hbW x0; replace x1 := keep hbW x1; replace x2 := keep hbW x2; replace x3 := keep hbW x3; replace x4 := keep hbW x4)
  (replace r0 := keep hbW r0; replace r1 := keep hbW r1; replace r2 := keep hbW r2; replace r3 := keep hbW r3; replace r4 := keep hbW r4)
  have hTA := ho2.1.lt
  have hTB := hq2.1.lt
  replace ho2 := ho2.keep hbW
  replace hq2 := hq2.keep hbW
  replace HO := HO.keep hbW
  replace hb := below_in hb hbW
  replace h9 := below_in h9 hbW
  clear hbW
  have PT : Pol W A2 n c2 B2 m d2 g us qs := ⟨HP.out.hn, HP.out.hm, ho2.rd, hq2.rd, HP.out.hg⟩
  have hY := sameQ_refl y0 y1 y2 y3 y4
  (have fa0 := Past.all s0; have fa1 := Past.all s1; have fa2 := Past.all s2)
  (have fb0 := Past.all t0; have fb1 := Past.all t1; have fb2 := Past.all t2)
  (have fc0 := Past.all o0; have fc1 := Past.all o1; have fc2 := Past.all o2)
  (have fd0 := Past.all x0; have fd1 := Past.all x1; have fd2 := Past.all x2; have fd3 := Past.all x3; have fd4 := Past.all x4)
  (have fe0 := Past.all r0; have fe1 := Past.all r1; have fe2 := Past.all r2; have fe3 := Past.all r3; have fe4 := Past.all r4)
  (have fg0 := Past.all z0; have fg1 := Past.all z1; have fg2 := Past.all z2)
  refine wp_region_past (by kernel_rfl) (by kernel_rfl) ?_
  repeat (go_big_quiet_step (fail))
  go_big_quiet_step (exact quiet_below (check_of R A' n c' B' m d' g us qs HR _ (HO.keep (Subtype.property _))))
  repeat (go_big_quiet_step (fail))
  go_big_quiet_step (exact quiet_below (rCheck_of (er R) A n c B m d g us qs HC _ (HP.out.keep (below_in hb (Subtype.property _)))))
  repeat (go_big_quiet_step (fail))
  go_big_quiet_step (exact quiet_below (same_of S A' n c' B' m d' g us qs A1 n1 c1 B1 m1 d1 g1 vs rs HS _ (HO.keep (Subtype.property _)) (HP1.out.keep (below_in hb (Subtype.property _)))))
  repeat (go_big_quiet_step (fail))
  go_big_quiet_step (exact quiet_below (rSame_of S A n c B m d g us qs A1 n1 c1 B1 m1 d1 g1 vs rs HS _ (HP.out.keep (below_in hb (Subtype.property _))) (HP1.out.keep (below_in hb (Subtype.property _)))))
  repeat (go_big_quiet_step (fail))
  go_big_quiet_step (exact quiet_below (same_of true A' n c' B' m d' g us qs A n c B m d g us qs HT _ (HO.keep (Subtype.property _)) (HP.out.keep (below_in hb (Subtype.property _)))))
  repeat (go_big_quiet_step (fail))
  go_big_quiet_step (exact quiet_below (rSame_of true A2 n c2 B2 m d2 g us qs A n c B m d g us qs HT _ (PT.keep (Subtype.property _)) (HP.out.keep (below_in hb (Subtype.property _)))))
  repeat (go_big_quiet_step (fail))
  refine wpQuiet_nil ?_
  rintro wl ⟨⟨_, hx⟩, rfl⟩
  (replace z0 := keep hx z0; replace z1 := keep hx z1; replace z2 := keep hx z2)
  replace ho2 := ho2.keep hx
  replace hq2 := hq2.keep hx
  replace h9 := below_in h9 hx
  clear hx hb HO fa0 fa1 fa2 fb0 fb1 fb2 fc0 fc1 fc2 fd0 fd1 fd2 fd3 fd4 fe0 fe1 fe2 fe3 fe4 fg0 fg1 fg2 s0 s1 s2 t0 t1 t2 o0 o1 o2 x0 x1 x2 x3 x4 r0 r1 r2 r3 r4 PT hY
  have X := (show Box wl wT.heap.size A2 n c2 B2 m d2 g from ⟨z0, z1, z2⟩)
  have hra := ho2.1
  unfold Owns at hra
  rw [HP.out.hn] at hra
  have hrb := hq2.1
  unfold Owns at hrb
  rw [HP.out.hm] at hrb
  rw [HP.out.hn] at hTA
  rw [HP.out.hm] at hTB
  obtain ⟨ea1, ea2⟩ := row_cap hra
  obtain ⟨eb1, eb2⟩ := row_cap hrb
  have ia1 : (n : Int) ≤ (c2 : Int) := by omega
  have ia2 : (c2 : Int) ≤ 9223372036854775807 := by omega
  have ib1 : (m : Int) ≤ (d2 : Int) := by omega
  have ib2 : (d2 : Int) ≤ 9223372036854775807 := by omega
  have hbool : Hid (∀ k, k < n → ∃ b, (flat Cl.cs us)[k * 3 + 2]? = some (.bool b)) := hid fun k hk => by
    have := HP.out.hn
    exact ⟨(us[k]'(by omega)).ok, by rw [flat_at Cl.cs_length us k (by omega) 2 (by omega)]; rfl⟩
  have HA := hid hTA
  have HB := hid hTB
  clear ho2 hq2 z0 z1 z2 hTA hTB ea1 ea2 eb1 eb2
  go_wp2_with fail
  go_loopw [24] (fun i wr => ∃ (j : Nat) (xs : List Value), j ≤ n ∧ i = .int .i64 (j : Int) ∧ wr.ownsRow (w9.heap.size + 1) 39 3 (.slice A2 n c2) n xs ∧ Hid (∀ k, k < n → ∃ b, xs[k * 3 + 2]? = some (.bool b)) ∧ wr.ownsRow (w9.heap.size + 1) 26 5 (.slice B2 m d2) m (flat Qt.cs qs) ∧ Box wr wT.heap.size A2 n c2 B2 m d2 g ∧ Below (w9.heap.size + 1) wl wr) (fun i _ => n - (intOf i).toNat)
  case atStart => exact ⟨0, flat Cl.cs us, by omega, rfl, hra, hbool, hrb, X, Below.refl _ _⟩
  case round =>
    clear hra hbool hrb X
    obtain ⟨j, xs, hj, rfl, hra, hbool, hrb, ⟨z0, z1, z2⟩, hbr⟩ := hrel
    by_cases hlt : j < n
    · obtain ⟨ga, rfl, hga, hgs, ⟨cur, hcur⟩, hcell, hfz⟩ := row_at hra (by omega)
      obtain ⟨b, hbv⟩ := hbool.out j hlt
      have k0 := hcell _ _ hbv
      have f0 := hfz (j * 3 + 2)
      have hgT : ga ≠ wT.heap.size := Nat.ne_of_lt (HA.out ga rfl).2
      have hlt2 : (j : Int) < (n : Int) := by omega
      have HRA := hid hra
      have HRB := hid hrb
      have HCU := hid hcur
      clear hra hrb hcell hfz hcur
      go_wp2_with fail
      go_region
      generalize hwd : (wr.setCell _ _).drew = wd
      have n1' : wd.ownsRow (w9.heap.size + 1) 39 3 (.slice (some ⟨ga, 0, none⟩) n c2) n (xs.set (j * 3 + 2) (.bool !b)) := by rw [← hwd]; exact (World.ownsRow.stored HRA.out (j * 3 + 2) _).1
      have n2' : wd.ownsRow (w9.heap.size + 1) 26 5 (.slice B2 m d2) m (flat Qt.cs qs) := by rw [← hwd]; exact ownsRow_setCell_other HRB.out (rows_apart HCU.out (by decide) HRB.out) _
      have n3' : Box wd wT.heap.size (some ⟨ga, 0, none⟩) n c2 B2 m d2 g := by rw [← hwd]; exact (Box.far (w := wr) ⟨z0, z1, z2⟩ hgT _ _).drew
      have n4' : Below (w9.heap.size + 1) wl wd := by rw [← hwd]; exact (hbr.setCell hga _).drew
      have n5' : ∀ k, k < n → ∃ x, (xs.set (j * 3 + 2) (.bool !b))[k * 3 + 2]? = some (.bool x) := fun k hk => by
        by_cases e : k = j
        · subst e
          exact ⟨!b, by rw [List.getElem?_set_self (List.getElem?_eq_some_iff.1 hbv).1]⟩
        · obtain ⟨b', hb'⟩ := hbool.out k hk
          exact ⟨b', by rw [List.getElem?_set_ne (by omega)]; exact hb'⟩
      have N5 := hid n5'
      clear hwd HRA HRB HCU k0 f0 z0 z1 z2 hbv n5' hbr
      go_wp2
      go_roundw
      case rel => exact ⟨j + 1, _, by omega, by go_num, n1', N5, n2', n3', n4'⟩
      case measure => simp [intOf]; omega
    · obtain rfl : j = n := by omega
      clear hra hbool hj hlt
      go_wp2_with fail
      go_loopw [25] (fun i wr => ∃ (k : Nat) (ys : List Value), k ≤ m ∧ i = .int .i64 (k : Int) ∧ wr.ownsRow (w9.heap.size + 1) 26 5 (.slice B2 m d2) m ys ∧ Box wr wT.heap.size A2 j c2 B2 m d2 g ∧ Below (w9.heap.size + 1) wl wr) (fun i _ => m - (intOf i).toNat)
      case atStart => exact ⟨0, flat Qt.cs qs, by omega, rfl, hrb, ⟨z0, z1, z2⟩, hbr⟩
      case round =>
        clear hrb z0 z1 z2 hbr
        obtain ⟨k, ys, hk, rfl, hrb, ⟨z0, z1, z2⟩, hbr⟩ := hrel
        by_cases hlt : k < m
        · obtain ⟨gb, rfl, hgb, hgs, -, hcell, hfz⟩ := row_at hrb (by omega)
          have hyl := hrb.1
          have k0 := hcell (k * 5 + 3) _ (List.getElem?_eq_getElem (by omega))
          have f0 := hfz (k * 5 + 3)
          generalize ys[k * 5 + 3]'_ = yv at k0
          have hgT : gb ≠ wT.heap.size := Nat.ne_of_lt (HB.out gb rfl).2
          have hlt2 : (k : Int) < (m : Int) := by omega
          have HRB := hid hrb
          clear hrb hcell hfz hyl
          go_wp2_with fail
          exact ⟨⟨k + 1, _, by omega, by go_num, (World.ownsRow.stored HRB.out (k * 5 + 3) _).1, Box.far (w := wr) ⟨z0, z1, z2⟩ hgT _ _, hbr.setCell hgb _⟩, by simp [intOf]; omega⟩
        · obtain rfl : k = m := by omega
          have hfin : Below w9.heap.size w9 wr := h9.trans (hbr.mono (by omega))
          obtain ⟨s0, s1, s2⟩ := HS9.out
          obtain ⟨o0, o1, o2⟩ := HC9.out
          (replace s0 := keep hfin s0; replace s1 := keep hfin s1; replace s2 := keep hfin s2)
          (replace o0 := keep hfin o0; replace o1 := keep hfin o1; replace o2 := keep hfin o2)
          have hbw := below_in hb9 hfin
          clear hrb hlt hk
          go_wp2_with fail
          refine (rSame_of true A' j c' B' k d' g us qs A j c B k d g us qs HT _ (HO9.out.keep hfin) (HP.out.keep hbw)).mono ?_
          rintro e wz ⟨rfl, bz⟩
          replace hbw := below_in hbw bz
          go_wp2
          go_ret
          exact ⟨rfl, hbw⟩

set_option maxRecDepth 100000 in
theorem ptells_lifted (os : Os) (started : os.Started) (H : Type) (enc : TypeId × Value → H) :
    ReturnsInHanded {} Try.checked os 4 .any (Rows.policyTellsSpec.pre6 enc Try.prog Try.f4 Rows.policyTellsRow.domain false) (Rows.policyTellsSpec.post enc Try.prog Try.f4 false true false false) := by
  refine returnsInHanded_of_change (C := Try.checked) own started (by kernel_rfl) Try.func4
    (ChangeSpec.witness6 (enc := enc) (C := Try.checked) false ⟨#[], #[.agg #[.slice none 0 0, .slice none 0 0, .int .i64 0], .agg #[.slice none 0 0, .slice none 0 0, .int .i64 0], .int .i64 0, .agg #[.int .u8 0, .int .u32 0]], []⟩ 8 (by kernel_rfl) (by kernel_rfl) (by kernel_rfl) (by kernel_rfl)) ?_
  intro W base args ds gs before hval0 hW _ _
  have hval : ∀ (j : Nat) t v, Try.f4.params[j]? = some t → args[j]? = some v → Value.okWide Try.prog W .any base t v := hval0
  have hW' := hW
  obtain ⟨p, q, hA0, hV, rfl, _, _⟩ := hW
  have hA : DataW.TrodAll enc Try.prog W 0 (fun _ => true) true Try.f4.params.toList args.toList ds p := hA0
  rw [Try.params4] at hA hval
  obtain ⟨v0, v1, v2, v3, d0, d1, d2, d3, p0, p1, p2, p3, rfl, rfl, rfl, h0, h1, h2, h3⟩ := trodAll_four hA
  obtain ⟨rfl, rfl⟩ := trodVars_none hV
  obtain ⟨A, n, c, B, m, d, g, us, qs, rfl, hr⟩ := open_policy (hval 0 _ v0 rfl rfl) h0
  obtain ⟨A1, n1, c1, B1, m1, d1, g1, vs, rs, rfl, hs⟩ := open_policy (hval 1 _ v1 rfl rfl) h1
  obtain ⟨u, rfl, hu⟩ := open_i64 (hval 2 _ v2 rfl rfl) h2
  obtain ⟨l0, l1, rfl, hl⟩ := open_label (hval 3 _ v3 rfl rfl) h3
  refine (ptells_walk A n c B m d g us qs A1 n1 c1 B1 m1 d1 g1 vs rs u l0 l1 hu hl W hr hs).mono fun e W' ⟨he, hg⟩ => ?_
  subst he
  exact ⟨_, rfl, law_post laidOut (by kernel_rfl) rfl Try.underlying4 rfl rfl hW' hg⟩

theorem ptells_holds : Rows.PolicyTellsSaid :=
  OpenClaim.holds_of_wide 4 Try.f4 rfl rfl rfl rfl rfl rfl rfl ⟨rfl, rfl, rfl, rfl, rfl⟩ rfl rfl rfl rfl rfl (by kernel_rfl) Try.func4 (by kernel_rfl)
    (of_decide_eq_true (by kernel_rfl)) (by unfold Func.isWrapper; rw [if_neg (of_decide_eq_false (by kernel_rfl))]; exact ⟨rfl, rfl⟩)
    (fun os started H enc _ => ptells_lifted os started H enc)
#print axioms ptells_holds
end Go.Proofs.Ytmmjciigbmgloaa
