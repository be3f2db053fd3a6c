/-
  The limits and errors have their numbers, and the chapter's examples are so: the statement PolicyNames. Conditions: none.
-/
import Derived.Test.YtmmjciigbmgloaaPoV
import Derived.Test.YtmmjciigbmgloaaPoC
import Derived.Deep.RegionLaw
import Derived.Deep.RegionLawGrows
namespace Go.Proofs.Ytmmjciigbmgloaa
open Go.ChangeShapes Go.WideShapes Go.ChangeAt Go.RowKit Go.Joins
set_option linter.unusedVariables false
set_option linter.unusedSimpArgs false

/-- Several orders that leave one frame: the rest is walked once. -/
theorem then_cut {P : Program} {c : Code} {a : Act} {w : World} {K : Act → World → Prop} {Q : Exit → Act → World → Prop} {F : Option Addr → Nat → Act} {G : Option Addr → Nat → World → Prop}
    (h : c.wp P (Exit.then (fun a' w' => ∃ E d, a' = F E d ∧ G E d w') Q) a w) (hk : ∀ E d w', G E d w' → K (F E d) w') : c.wp P (Exit.then K Q) a w :=
  Code.wp_mono (fun e a' w' h' => by
    cases e with
    | normal => obtain ⟨E, d, rfl, hG⟩ := h'; exact hk E d w' hG
    | _ => exact h') h

/-- append onto a slice of structs that has no room: new memory. -/
theorem step_append_full {α : Type} {f : α → List Value} {s : Nat} {P : Program} {w : World} {ops : Array Oper} {o : Oper} {a : Act} {K : Act → World → Prop} {Q : Exit → Act → World → Prop} {X : Prop} (hgd : o.guard = none) (x0 x : Operand) (t : TypeId)
    (ho : o.op = .call { callee := .builtin .append, args := #[x0, x], argTypes := #[t, t] })
    (e : TypeId) {i : TypeInfo} {z : Value} {by_ : Nat} (hs : ∀ x, (f x).length = s) (hs0 : 0 < s) (h1 : ∀ x, ∀ u ∈ f x, u.oneCell' = true) (ht : P.underlying t = some (.slice e)) (hi : P.info? e = some i) (hz : i.zero = some z) (hzs : z.cells.size = s) (hsize : i.size = s) (hby : i.bytes = by_) (hb8 : by_ ≤ 100)
    (A : Option Addr) (n c : Nat) (l : List α) (hn : Hid (l.length = n)) (hs' : a.eval x0 = .slice A n n) (hp : 0 < n) (hown : Rds f w A n l)
    (A1 : Option Addr) (n1 c1 : Nat) (m : List α) (hn1 : Hid (m.length = n1)) (hx : a.eval x = .slice A1 n1 c1) (hp1 : 0 < n1) (hr : Rds f w A1 c1 m) (hlen : n + n1 ≤ 10000)
    (h : ∀ A' c' w', Owns f s w' w.heap.size e A' c' (l ++ m) → Below w.heap.size w w' → K (a.put o.dst (.slice A' (n + n1) c')) w') :
    if Region.wanted o (yielded ops a.tmps) = true then Oper.wp P o a w K Q else X := by
  have e1 := hn.out
  have e2 := hn1.out
  obtain ⟨b, off, rfl, hc⟩ := hown.2.2 (by omega)
  obtain ⟨b1, o1, rfl, hc1⟩ := hr.2.2 (by omega)
  have hbb : (n + n1) * by_ ≤ 140737488355328 := Nat.le_trans (Nat.mul_le_mul hlen hb8) (by omega)
  refine step_append_grows hgd x0 x t ho e i z s by_ ht hi hz hsize hby hzs hs0 (some ⟨b, off, none⟩) n n (flat f l) hs' (by simp) (by rw [flat_length hs, e1]) ?_ ⟨b1, o1, none⟩ n1 c1 (flat f m) hx (by rw [flat_length hs, e2]) ?_ (flat_one h1 m) (by omega) (by unfold maxLen; omega) hbb ?_
  · intro a0 ha0 j u hj
    injection ha0 with ha0
    subst ha0
    rw [Addr.add_lit]
    exact hc j u hj
  · intro j u hj
    rw [Addr.add_lit]
    exact hc1 j u hj
  · intro v' w' hown' hg
    have hb : Below w.heap.size w w' := (Below.refl _ _).grown hg (Nat.le_refl _) (fun k hk => by cases hk)
    rw [← flat_append] at hown'
    obtain ⟨A', c', hv⟩ : ∃ A' c', v' = .slice A' (n + n1) c' := by
      rcases hown'.2 with ⟨hv, hn⟩ | ⟨g, cap, cur, hv, _⟩
      · exact ⟨none, 0, by rw [hv, hn]⟩
      · exact ⟨_, _, hv⟩
    subst hv
    refine h A' c' w' ?_ hb
    have ho : Owns f s w' w.heap.size e A' c' (l ++ m) := by
      unfold Owns
      rw [List.length_append, e1, e2]
      exact hown'
    exact ho

/-- What the box of a policy holds. -/
structure Box (w : World) (T : Nat) (A : Option Addr) (n c : Nat) (B : Option Addr) (m d : Nat) (g : Int) : Prop where
  c0 : w.cell? ⟨T, 0, none⟩ = some (.slice A n c)
  c1 : w.cell? ⟨T, 1, none⟩ = some (.slice B m d)
  c2 : w.cell? ⟨T, 2, none⟩ = some (.int .i64 g)
theorem Box.keep {w w' : World} (hb : Below w.heap.size w w') {T : Nat} {A : Option Addr} {n c : Nat} {B : Option Addr} {m d : Nat} {g : Int} (h : Box w T A n c B m d g) : Box w' T A n c B m d g :=
  ⟨Go.Proofs.Ytmmjciigbmgloaa.keep hb h.c0, Go.Proofs.Ytmmjciigbmgloaa.keep hb h.c1, Go.Proofs.Ytmmjciigbmgloaa.keep hb h.c2⟩

def qsT : List Qt := [⟨1, 1, 2, 3, 9⟩, ⟨1, 1, 2, 3, 9⟩]
def qsG : List Qt := [⟨0, 0, 0, 256, 0⟩, ⟨0, 1, 0, 256, 0⟩, ⟨0, 2, 1, 0, 0⟩]
def qsM : List Qt := [⟨0, 0, 0, 0, 4096⟩, ⟨0, 1, 0, 0, 4096⟩, ⟨0, 2, 0, 0, 1⟩]
def usO : List Cl := [⟨2, 3, true⟩, ⟨1, 0, false⟩]
theorem qsG_typed : ∀ x ∈ qsG, x.typed := fun x hx => by
  simp only [qsG, List.mem_cons, List.not_mem_nil, or_false] at hx
  rcases hx with rfl | rfl | rfl <;> exact ⟨⟨by decide, by decide, by decide, by decide⟩, ⟨by decide, by decide⟩, ⟨by decide, by decide⟩, ⟨by decide, by decide⟩⟩
theorem qsM_typed : ∀ x ∈ qsM, x.typed := fun x hx => by
  simp only [qsM, List.mem_cons, List.not_mem_nil, or_false] at hx
  rcases hx with rfl | rfl | rfl <;> exact ⟨⟨by decide, by decide, by decide, by decide⟩, ⟨by decide, by decide⟩, ⟨by decide, by decide⟩, ⟨by decide, by decide⟩⟩
theorem qsT_typed : ∀ x ∈ qsT, x.typed := fun x hx => by
  simp only [qsT, List.mem_cons, List.not_mem_nil, or_false] at hx
  rcases hx with rfl | rfl <;> exact ⟨⟨by decide, by decide, by decide, by decide⟩, ⟨by decide, by decide⟩, ⟨by decide, by decide⟩, ⟨by decide, by decide⟩⟩
theorem usO_typed : ∀ x ∈ usO, x.typed := fun x hx => by
  simp only [usO, List.mem_cons, List.not_mem_nil, or_false] at hx
  rcases hx with rfl | rfl <;> exact ⟨by decide, by decide, by decide, by decide⟩
theorem lit_one (w : World) (x0 x1 x2 x3 x4 : Int) : Rds Qt.cs (w.alloc (.cells #[.int .u8 x0, .int .u32 x1, .int .i64 x2, .int .i64 x3, .int .i64 x4] 26)) (some ⟨w.heap.size, 0, none⟩) 1 [⟨x0, x1, x2, x3, x4⟩] :=
  (Owns.lit Qt.cs_length (by omega) w (base := 0) 26 [⟨x0, x1, x2, x3, x4⟩] (Nat.zero_le _) (by simp)).rd Qt.cs_length
theorem far_set {w w' : World} {a : Addr} {v v' : Value} {o : Nat} (h : w'.cell? a = some v) (h3 : w.cell? a = some v') (x : Value) : (w'.setCell ⟨w.heap.size, o, none⟩ x).cell? a = some v := by
  rw [World.cell?_setCell_far _ _ _ _ (Nat.ne_of_gt (World.block_lt_of_cell? w a h3))]; exact h

/-- The policy of which one user is turned. -/
def OddS (B : Nat) (V : World) (O g h : Nat) (w' : World) : Prop := Below B V w' ∧ Box w' O (some ⟨g, 0, none⟩) 2 2 (some ⟨h, 0, none⟩) 1 1 4
theorem OddS.keep {B : Nat} {V : World} {O g h : Nat} {w1 w2 : World} (hB : B ≤ V.heap.size) (hS : OddS B V O g h w1) (b : Below w1.heap.size w1 w2) : OddS B V O g h w2 :=
  ⟨hS.1.trans (b.mono (Nat.le_trans hB hS.1.size)), hS.2.keep b⟩
theorem OddS.set {B : Nat} {V : World} {O g h : Nat} {w1 : World} (hB : B ≤ g) (hO : g ≠ O) (j : Nat) (u : Value) (hS : OddS B V O g h w1) : OddS B V O g h (w1.setCell ⟨g, j, none⟩ u) :=
  ⟨hS.1.setCell hB _, ⟨by rw [World.cell?_setCell_far _ _ _ _ hO]; exact hS.2.c0, by rw [World.cell?_setCell_far _ _ _ _ hO]; exact hS.2.c1, by rw [World.cell?_setCell_far _ _ _ _ hO]; exact hS.2.c2⟩⟩
theorem Rds.far {α : Type} {f : α → List Value} {w : World} {h c : Nat} {l : List α} (hr : Rds f w (some ⟨h, 0, none⟩) c l) {g : Nat} (hg : g ≠ h) (j : Nat) (u : Value) : Rds f (w.setCell ⟨g, j, none⟩ u) (some ⟨h, 0, none⟩) c l := by
  refine ⟨hr.1, hr.2.1, fun hp => ?_⟩
  obtain ⟨b, o, hA, hc⟩ := hr.2.2 hp
  injection hA with hA
  injection hA with h1 h2
  subst h1 h2
  exact ⟨h, 0, rfl, fun k v hv => by rw [World.cell?_setCell_far _ _ _ _ hg]; exact hc k v hv⟩

set_option maxRecDepth 100000 in
set_option maxHeartbeats 4000000 in
theorem pnames_walk (w : World) :
    Calls Try.prog 3 #[] w fun e w' => e = .returned (.bool true) ∧ Below w.heap.size w w' := by
  obtain ⟨j0, hj0, hy0, hy1, hy2⟩ := info_parts info_Q
  have H1 : Hid (quotaV us2 qs2 4 1 2 = ⟨1, 2, 0, 0, 0⟩ ∧ er (askB us2 qs2 4 1) = 0) := hid ⟨qt_eq (by decide +kernel), by decide +kernel⟩
  have H2 : Hid ((askB us2 qs2 4 16 && opensB us2 0 16 0) = false ∧ er (askB us2 qs2 4 16) = 8) := hid (by decide +kernel)
  have KT : Hid (rightB us2 qsT 4 = false) := hid (by decide +kernel)
  have KG : Hid (rightB us2 qsG 4 = false) := hid (by decide +kernel)
  have KM : Hid (rightB us2 qsM 4 = false) := hid (by decide +kernel)
  have KO : Hid (rightB usO qs2 4 = false) := hid (by decide +kernel)
  have KZ : Hid (rightB [] [] 0 = true) := hid (by decide +kernel)
  have hE := eql_quota
  have z1 : sameQ 1 2 0 0 0 1 2 0 0 0 = true := by decide
  go_enter Try.func3, Try.ntmps3
  go_wp2_with fail
  refine (two_any _).mono ?_
  rintro e w1 ⟨g0, h0, hg, hh, hgh, rfl, hc, hq, hb⟩
  go_wp2_with fail
  go_call of_any 1 2 _ as e w2 ⟨rfl, b2⟩
  replace hc := hc.keep b2
  replace hq := hq.keep b2
  replace hb := below_in hb b2
  clear b2
  go_wp2_with fail
  refine (quota_of 1 2 0 0 0 0 _ _ _ _ _ _ _ us2 qs2 1 2 H1 _ (pol_two hc hq)).mono ?_
  rintro e w3 ⟨rfl, b3⟩
  replace hb := below_in hb b3
  clear b3 hc hq hg hh hgh H1
  go_wp2_with fail
  refine (two_any _).mono ?_
  rintro e w4 ⟨g, h, hg, hh, hgh, rfl, hc, hq, b4⟩
  (have s0 : w4.cell? ⟨w3.heap.size, 0, none⟩ = some (.int .u8 1) := (keep b4 (by simp [go_sem])); have s1 : w4.cell? ⟨w3.heap.size, 1, none⟩ = some (.int .u32 2) := (keep b4 (by simp [go_sem])); have s2 : w4.cell? ⟨w3.heap.size, 2, none⟩ = some (.int .i64 0) := (keep b4 (by simp [go_sem])); have s3 : w4.cell? ⟨w3.heap.size, 3, none⟩ = some (.int .i64 0) := (keep b4 (by simp [go_sem])); have s4 : w4.cell? ⟨w3.heap.size, 4, none⟩ = some (.int .i64 0) := (keep b4 (by simp [go_sem])))
  replace hb := below_in hb (past_alloc b4)
  clear b4
  go_wp2_with fail
  generalize hW : w4.alloc _ = W
  have hbW : Below w4.heap.size w4 W := by rw [← hW]; go_grown
  have hrq := hq.rd.keep hbW
  (have p0 : W.cell? ⟨w4.heap.size, 0, none⟩ = some (.slice (some ⟨g, 0, none⟩) 2 2) := ((by rw [← hW]; simp [go_sem])); have p1 : W.cell? ⟨w4.heap.size, 1, none⟩ = some (.slice (some ⟨h, 0, none⟩) 1 1) := ((by rw [← hW]; simp [go_sem])); have p2 : W.cell? ⟨w4.heap.size, 2, none⟩ = some (.int .i64 4) := ((by rw [← hW]; simp [go_sem])))
  have f1 : W.frozen? ⟨w4.heap.size, 1, none⟩ = false := by rw [← hW]; simp [go_sem]
  obtain ⟨b, o, hA, hcell⟩ := hrq.at_ (by decide)
  injection hA with hA
  injection hA with hA1 hA2
  subst hA1 hA2
  obtain ⟨k0, k1, k2, k3, k4, -⟩ := hcell 0 (by decide)
  simp only [Nat.zero_mul, Nat.zero_add] at k0 k1 k2 k3 k4
  replace k0 : W.cell? ⟨h, 0, none⟩ = some (.int .u8 1) := k0
  replace k1 : W.cell? ⟨h, 1, none⟩ = some (.int .u32 1) := k1
  replace k2 : W.cell? ⟨h, 2, none⟩ = some (.int .i64 2) := k2
  replace k3 : W.cell? ⟨h, 3, none⟩ = some (.int .i64 3) := k3
  replace k4 : W.cell? ⟨h, 4, none⟩ = some (.int .i64 9) := k4
  have hzW : w4.heap.size + 1 = W.heap.size := by rw [← hW]; simp
  clear hcell hW
  have p1a := fun o => keepa p1 o
  apply then_cut (G := fun E d w' => Rds Qt.cs w' E d qsT ∧ Box w' w4.heap.size (some ⟨g, 0, none⟩) 2 2 E 2 d 4 ∧ Below w4.heap.size w4 w')
  · go_region_law (refine step_append_full rfl (.tmp 17) (.tmp 22) _ (by rfl) 26 Qt.cs_length (by omega) Qt.cs_one Try.underlying31 hj0 hy0 rfl hy1 hy2 (by omega) (some ⟨h, 0, none⟩) 1 1 qs2 (hid rfl) (by rfl) (by omega) (hrq.1.keep (by first | exact ((Below.refl _ _).drew).alloc (Nat.le_refl _) _ | exact ((Below.refl _ _).alloc (Nat.le_refl _) _).drew)) (some ⟨W.heap.size, 0, none⟩) 1 1 [⟨1, 1, 2, 3, 9⟩] (hid rfl) (by rfl) (by omega) (by first | exact lit_one W.drew _ _ _ _ _ | exact lit_one W _ _ _ _ _) (by omega) ?_; intro E' e' wz ho' hb'; have y0 := keep hb' (keepa p0 _); have y1 := keep hb' (p1a _); have y2 := keep hb' (keepa p2 _); have y3 := keepz hb' (p1a _) (keepfa p1 f1 _))
    all_goals
      generalize hwc : wz.setCell _ _ = wc
      have hbc : Below w4.heap.size w4 wc := by rw [← hwc]; exact ((hbW.trans ((show Below W.heap.size W _ from by first | exact ((Below.refl _ _).alloc (Nat.le_refl _) _).drew | exact ((Below.refl _ _).drew).alloc (Nat.le_refl _) _).mono hbW.size)).trans (hb'.mono (by simp; exact Nat.le_trans hbW.size (Nat.le_succ _)))).setCell (by show w4.heap.size ≤ w4.heap.size; omega) _
      have hbx : Box wc w4.heap.size (some ⟨g, 0, none⟩) 2 2 E' 2 e' 4 := by rw [← hwc]; exact ⟨by simp [go_sem, y0, y1], by simp [go_sem, y1], by simp [go_sem, y2, y1]⟩
      have hrc : Rds Qt.cs wc E' e' qsT := by rw [← hwc]; exact (ho'.set (by show w4.heap.size < _; simp; omega) _).rd Qt.cs_length
      exact ⟨E', e', rfl, hrc, hbx, hbc⟩
  · intro E d wt hG
    obtain ⟨hrt, hbt, hb4⟩ := hG
    (try dsimp only)
    have PT : Pol wt (some ⟨g, 0, none⟩) 2 2 E 2 d 4 us2 qsT := ⟨rfl, rfl, hc.rd.keep hb4, ⟨hrt, qsT_typed⟩, by decide, by decide⟩
    have XT := hbt
    (replace s0 := keep hb4 s0; replace s1 := keep hb4 s1; replace s2 := keep hb4 s2; replace s3 := keep hb4 s3; replace s4 := keep hb4 s4)
    replace hb := below_in hb hb4
    clear hrt hbt hb4 hc hq hg hh hgh hbW hrq p0 p1 p2 f1 k0 k1 k2 k3 k4 hzW p1a
    go_wp2_with fail
    refine (two_any _).mono ?_
    rintro e xG ⟨gG, hG, -, -, -, rfl, hcG, -, b6⟩
    (replace s0 := keep b6 s0; replace s1 := keep b6 s1; replace s2 := keep b6 s2; replace s3 := keep b6 s3; replace s4 := keep b6 s4)
    replace XT := XT.keep b6
    replace PT := PT.keep b6
    replace hb := below_in hb b6
    clear b6
    go_wp2_with fail
    go_call of_any 0 0 _ as e w7 ⟨rfl, b7⟩
    (have q0 : w7.cell? ⟨xG.heap.size, 0, none⟩ = some (.slice (some ⟨gG, 0, none⟩) 2 2) := (keep b7 (by simp [go_sem])); have q1 : w7.cell? ⟨xG.heap.size, 1, none⟩ = some (.slice (some ⟨hG, 0, none⟩) 1 1) := (keep b7 (by simp [go_sem])); have q2 : w7.cell? ⟨xG.heap.size, 2, none⟩ = some (.int .i64 4) := (keep b7 (by simp [go_sem])))
    have f1 : w7.frozen? ⟨xG.heap.size, 1, none⟩ = false := keepz b7 (v := .slice (some ⟨hG, 0, none⟩) 1 1) (by simp [go_sem]) (by simp [go_sem])
    replace b7 := past_alloc b7
    go_wp2_with fail
    go_call of_any 0 1 _ as e w8 ⟨rfl, b8⟩
    replace f1 := keepz b8 q1 f1
    (replace q0 := keep b8 q0; replace q1 := keep b8 q1; replace q2 := keep b8 q2)
    replace b7 := below_in b7 b8
    go_wp2_with fail
    go_call of_any 0 2 _ as e w9 ⟨rfl, b9⟩
    replace f1 := keepz b9 q1 f1
    (replace q0 := keep b9 q0; replace q1 := keep b9 q1; replace q2 := keep b9 q2)
    have hzq := World.block_lt_of_cell? w9 _ q1
    replace hzq : xG.heap.size < w9.heap.size := hzq
    replace b7 := below_in b7 b9
    clear b8 b9
    have hqG := lit_q (w9.setCell ⟨xG.heap.size, 1, none⟩ (.slice (some ⟨w9.heap.size, 0, none⟩) 3 3)) qsG (by decide) qsG_typed
    rw [show (w9.setCell ⟨xG.heap.size, 1, none⟩ (.slice (some ⟨w9.heap.size, 0, none⟩) 3 3)).heap.size = w9.heap.size by simp] at hqG
    have Q0 := q0
    have Q1 := q1
    have Q2 := q2
    replace f1 := fun o => keepfa q1 f1 o
    (replace q0 := fun o => keepa q0 o; replace q1 := fun o => keepa q1 o; replace q2 := fun o => keepa q2 o)
    go_wp2_with fail
    generalize hwc : World.alloc (w9.setCell _ _) _ = yG
    have hbG : Below xG.heap.size xG yG := by rw [← hwc]; exact (b7.setCell (by show xG.heap.size ≤ xG.heap.size; omega) _).alloc (by simp; omega) _
    have XG : Box yG xG.heap.size (some ⟨gG, 0, none⟩) 2 2 (some ⟨w9.heap.size, 0, none⟩) 3 3 4 := by rw [← hwc]; exact ⟨keepa (by simp [go_sem, Q0, Q1]) _, keepa (by simp [go_sem, Q1]) _, keepa (by simp [go_sem, Q2, Q1]) _⟩
    have PG : Pol yG (some ⟨gG, 0, none⟩) 2 2 (some ⟨w9.heap.size, 0, none⟩) 3 3 4 us2 qsG := ⟨rfl, rfl, hcG.rd.keep hbG, (show OwnQ yG w9.heap.size _ _ _ from hwc ▸ hqG).rd, by decide, by decide⟩
    (replace s0 := keep hbG s0; replace s1 := keep hbG s1; replace s2 := keep hbG s2; replace s3 := keep hbG s3; replace s4 := keep hbG s4)
    replace XT := XT.keep hbG
    replace PT := PT.keep hbG
    replace hb := below_in hb hbG
    clear hwc q0 q1 q2 Q0 Q1 Q2 f1 hqG hcG hbG b7
    try clear hzq
    go_wp2_with fail
    refine (two_any _).mono ?_
    rintro e xM ⟨gM, hM, -, -, -, rfl, hcM, -, b6⟩
    (replace s0 := keep b6 s0; replace s1 := keep b6 s1; replace s2 := keep b6 s2; replace s3 := keep b6 s3; replace s4 := keep b6 s4)
    replace XT := XT.keep b6
    replace PT := PT.keep b6
    replace XG := XG.keep b6
    replace PG := PG.keep b6
    replace hb := below_in hb b6
    clear b6
    go_wp2_with fail
    go_call of_any 0 0 _ as e w7 ⟨rfl, b7⟩
    (have q0 : w7.cell? ⟨xM.heap.size, 0, none⟩ = some (.slice (some ⟨gM, 0, none⟩) 2 2) := (keep b7 (by simp [go_sem])); have q1 : w7.cell? ⟨xM.heap.size, 1, none⟩ = some (.slice (some ⟨hM, 0, none⟩) 1 1) := (keep b7 (by simp [go_sem])); have q2 : w7.cell? ⟨xM.heap.size, 2, none⟩ = some (.int .i64 4) := (keep b7 (by simp [go_sem])))
    have f1 : w7.frozen? ⟨xM.heap.size, 1, none⟩ = false := keepz b7 (v := .slice (some ⟨hM, 0, none⟩) 1 1) (by simp [go_sem]) (by simp [go_sem])
    replace b7 := past_alloc b7
    go_wp2_with fail
    go_call of_any 0 1 _ as e w8 ⟨rfl, b8⟩
    replace f1 := keepz b8 q1 f1
    (replace q0 := keep b8 q0; replace q1 := keep b8 q1; replace q2 := keep b8 q2)
    replace b7 := below_in b7 b8
    go_wp2_with fail
    go_call of_any 0 2 _ as e w9 ⟨rfl, b9⟩
    replace f1 := keepz b9 q1 f1
    (replace q0 := keep b9 q0; replace q1 := keep b9 q1; replace q2 := keep b9 q2)
    have hzq := World.block_lt_of_cell? w9 _ q1
    replace hzq : xM.heap.size < w9.heap.size := hzq
    replace b7 := below_in b7 b9
    clear b8 b9
    have hqG := lit_q (w9.setCell ⟨xM.heap.size, 1, none⟩ (.slice (some ⟨w9.heap.size, 0, none⟩) 3 3)) qsM (by decide) qsM_typed
    rw [show (w9.setCell ⟨xM.heap.size, 1, none⟩ (.slice (some ⟨w9.heap.size, 0, none⟩) 3 3)).heap.size = w9.heap.size by simp] at hqG
    have Q0 := q0
    have Q1 := q1
    have Q2 := q2
    replace f1 := fun o => keepfa q1 f1 o
    (replace q0 := fun o => keepa q0 o; replace q1 := fun o => keepa q1 o; replace q2 := fun o => keepa q2 o)
    go_wp2_with fail
    generalize hwc : World.alloc (w9.setCell _ _) _ = yM
    have hbM : Below xM.heap.size xM yM := by rw [← hwc]; exact (b7.setCell (by show xM.heap.size ≤ xM.heap.size; omega) _).alloc (by simp; omega) _
    have XM : Box yM xM.heap.size (some ⟨gM, 0, none⟩) 2 2 (some ⟨w9.heap.size, 0, none⟩) 3 3 4 := by rw [← hwc]; exact ⟨keepa (by simp [go_sem, Q0, Q1]) _, keepa (by simp [go_sem, Q1]) _, keepa (by simp [go_sem, Q2, Q1]) _⟩
    have PM : Pol yM (some ⟨gM, 0, none⟩) 2 2 (some ⟨w9.heap.size, 0, none⟩) 3 3 4 us2 qsM := ⟨rfl, rfl, hcM.rd.keep hbM, (show OwnQ yM w9.heap.size _ _ _ from hwc ▸ hqG).rd, by decide, by decide⟩
    (replace s0 := keep hbM s0; replace s1 := keep hbM s1; replace s2 := keep hbM s2; replace s3 := keep hbM s3; replace s4 := keep hbM s4)
    replace XT := XT.keep hbM
    replace PT := PT.keep hbM
    replace XG := XG.keep hbM
    replace PG := PG.keep hbM
    replace hb := below_in hb hbM
    clear hwc q0 q1 q2 Q0 Q1 Q2 f1 hqG hcM hbM b7
    try clear hzq
    refine (two_any _).mono ?_
    rintro e x1 ⟨g1, h1, -, -, -, rfl, hc1, hq1, b6⟩
    (replace s0 := keep b6 s0; replace s1 := keep b6 s1; replace s2 := keep b6 s2; replace s3 := keep b6 s3; replace s4 := keep b6 s4)
    replace XT := XT.keep b6
    replace PT := PT.keep b6
    replace XG := XG.keep b6
    replace PG := PG.keep b6
    replace XM := XM.keep b6
    replace PM := PM.keep b6
    replace hb := below_in hb b6
    clear b6
    go_wp2_with fail
    go_call of_any 16 0 _ as e x2 ⟨rfl, b7⟩
    (replace s0 := keep b7 s0; replace s1 := keep b7 s1; replace s2 := keep b7 s2; replace s3 := keep b7 s3; replace s4 := keep b7 s4)
    replace XT := XT.keep b7
    replace PT := PT.keep b7
    replace XG := XG.keep b7
    replace PG := PG.keep b7
    replace XM := XM.keep b7
    replace PM := PM.keep b7
    replace hb := below_in hb b7
    replace hc1 := hc1.keep b7
    replace hq1 := hq1.keep b7
    clear b7
    go_wp2_with fail
    refine (may_of false 8 _ _ _ _ _ _ _ us2 qs2 0 16 0 H2 _ (pol_two hc1 hq1)).mono ?_
    rintro e x3 ⟨rfl, b8⟩
    (replace s0 := keep b8 s0; replace s1 := keep b8 s1; replace s2 := keep b8 s2; replace s3 := keep b8 s3; replace s4 := keep b8 s4)
    replace XT := XT.keep b8
    replace PT := PT.keep b8
    replace XG := XG.keep b8
    replace PG := PG.keep b8
    replace XM := XM.keep b8
    replace PM := PM.keep b8
    replace hb := below_in hb b8
    clear b8 hc1 hq1 H2
    go_wp2_with fail
    refine (two_any _).mono ?_
    rintro e x4 ⟨g5, h5, hg5, hh5, hgh5, rfl, hc5, hq5, b9⟩
    go_wp2_with fail
    generalize hW : x4.alloc _ = V
    have hbV : Below x4.heap.size x4 V := by rw [← hW]; go_grown
    have hO : g5 ≠ x4.heap.size := Nat.ne_of_lt (hc5.1.lt g5 rfl).2
    have hOS : OddS x3.heap.size V x4.heap.size g5 h5 V := ⟨Below.refl _ _, by rw [← hW]; exact ⟨by simp [go_sem], by simp [go_sem], by simp [go_sem]⟩⟩
    clear hW
    have hB3 : x3.heap.size ≤ V.heap.size := Nat.le_trans b9.size hbV.size
    have hcV := hc5.keep hbV
    have hqV := hq5.keep hbV
    have Q0 : ∀ w', OddS x3.heap.size V x4.heap.size g5 h5 w' → w'.cell? ⟨x4.heap.size, 0, none⟩ = some (.slice (some ⟨g5, 0, none⟩) 2 2) := fun w' h => h.2.c0
    have f3 := World.ownsRow.frozenAt hcV.1 3
    have f4 := World.ownsRow.frozenAt hcV.1 4
    obtain ⟨b, o, hA, hcell⟩ := hcV.1.rd Cl.cs_length |>.2.2 (by decide)
    injection hA with hA
    injection hA with hA1 hA2
    subst hA1 hA2
    have k3 : V.cell? ⟨g5, 3, none⟩ = some (.int .u8 0) := by have := hcell 3 _ rfl; rwa [Nat.zero_add] at this
    have k4 : V.cell? ⟨g5, 4, none⟩ = some (.int .u32 0) := by have := hcell 4 _ rfl; rwa [Nat.zero_add] at this
    clear hcell
    have S0 : OddS x3.heap.size V x4.heap.size g5 h5 V.drew := ⟨hOS.1.drew, ⟨hOS.2.c0, hOS.2.c1, hOS.2.c2⟩⟩
    go_region_held (fun w' => OddS x3.heap.size V x4.heap.size g5 h5 w') (with_reducible (first | assumption | exact OddS.set hg5 hO _ _ (OddS.set hg5 hO _ _ (by assumption))))
      (first | (go_at_call 9; refine (of_any _ _ _).mono ?_; rintro e w5 ⟨rfl, b5⟩; have cA := OddS.keep hB3 (by assumption) b5; have k3w := keep b5 k3; have k4w := keep b5 k4; have f3w := keepz b5 k3 f3; have f4w := keepz b5 k4 f4))
    have hSv : OddS x3.heap.size V x4.heap.size g5 h5 ((w5.setCell ⟨g5, 3, none⟩ (.int .u8 1)).setCell ⟨g5, 4, none⟩ (.int .u32 0)) := by assumption
    have r1 := (World.ownsRow.stored (hcV.keep b5).1 3 (.int .u8 1)).1
    have r2 := (World.ownsRow.stored r1 4 (.int .u32 0)).1
    have hu : RdC ((w5.setCell ⟨g5, 3, none⟩ (.int .u8 1)).setCell ⟨g5, 4, none⟩ (.int .u32 0)) (some ⟨g5, 0, none⟩) 2 usO := ⟨(show Owns Cl.cs 3 _ x3.heap.size _ _ _ usO from r2).rd Cl.cs_length, usO_typed⟩
    have hv : RdQ ((w5.setCell ⟨g5, 3, none⟩ (.int .u8 1)).setCell ⟨g5, 4, none⟩ (.int .u32 0)) (some ⟨h5, 0, none⟩) 1 qs2 := ⟨((hqV.keep b5).rd.1.far hgh5 3 _).far hgh5 4 _, qs2_typed⟩
    clear r1 r2 k3 k4 f3 f4 k3w k4w f3w f4w Q0 S0 cA hc5 hq5
    generalize hwv : (w5.setCell _ _).setCell _ _ = wv at *
    have hbv : Below x3.heap.size x3 wv := (b9.trans (hbV.mono b9.size)).trans hSv.1
    have XO := hSv.2
    have PO : Pol wv (some ⟨g5, 0, none⟩) 2 2 (some ⟨h5, 0, none⟩) 1 1 4 usO qs2 := ⟨rfl, rfl, hu, hv, by decide, by decide⟩
    (replace s0 := keep hbv s0; replace s1 := keep hbv s1; replace s2 := keep hbv s2; replace s3 := keep hbv s3; replace s4 := keep hbv s4)
    replace XT := XT.keep hbv
    replace PT := PT.keep hbv
    replace XG := XG.keep hbv
    replace PG := PG.keep hbv
    replace XM := XM.keep hbv
    replace PM := PM.keep hbv
    replace hb := below_in hb hbv
    clear hwv hbv b9 b5 hcV hqV hOS hu hv hSv
    go_wp2_with fail
    (have q0 := Past.all s0; have q1 := Past.all s1; have q2 := Past.all s2; have q3 := Past.all s3; have q4 := Past.all s4)
    have t0 := Past.all XT.c0
    have t1 := Past.all XT.c1
    have t2 := Past.all XT.c2
    have g0 := Past.all XG.c0
    have g1 := Past.all XG.c1
    have g2 := Past.all XG.c2
    have m0 := Past.all XM.c0
    have m1 := Past.all XM.c1
    have m2 := Past.all XM.c2
    have o0 := Past.all XO.c0
    have o1 := Past.all XO.c1
    have o2 := Past.all XO.c2
    refine wp_region_past (by kernel_rfl) (by kernel_rfl) ?_
    have e8 : er false = 8 := rfl
    have e0 : er true = 0 := rfl
    repeat (go_big_quiet_step (first | exact quiet_below (alive_any _) | exact quiet_below (of_any _ _ _)))
    go_big_quiet_step (exact quiet_below (check_of false _ _ _ _ _ _ _ _ _ KT _ (PT.keep (Subtype.property _))))
    repeat (go_big_quiet_step (fail))
    go_big_quiet_step (exact quiet_below (check_of false _ _ _ _ _ _ _ _ _ KG _ (PG.keep (Subtype.property _))))
    repeat (go_big_quiet_step (fail))
    go_big_quiet_step (exact quiet_below (check_of false _ _ _ _ _ _ _ _ _ KM _ (PM.keep (Subtype.property _))))
    repeat (go_big_quiet_step (fail))
    go_big_quiet_step (exact quiet_below (check_of false _ _ _ _ _ _ _ _ _ KO _ (PO.keep (Subtype.property _))))
    repeat (go_big_quiet_step (fail))
    go_big_quiet_step (exact quiet_below (check_of true _ _ _ _ _ _ _ _ _ KZ _ ⟨rfl, rfl, RdC.nil _, RdQ.nil _, by decide, by decide⟩))
    repeat (go_big_quiet_step (fail))
    refine wpQuiet_nil ?_
    rintro wf ⟨⟨_, hx⟩, rfl⟩
    replace hb := below_in hb hx
    go_wp2
    go_ret
    exact ⟨rfl, hb⟩

set_option maxRecDepth 100000 in
theorem pnames_lifted (os : Os) (started : os.Started) (H : Type) (enc : TypeId × Value → H) :
    ReturnsInHanded {} Try.checked os 3 .any (Rows.policyNamesSpec.pre6 enc Try.prog Try.f3 Rows.policyNamesRow.domain false) (Rows.policyNamesSpec.post enc Try.prog Try.f3 false true false false) := by
  refine returnsInHanded_of_change (C := Try.checked) own started (by kernel_rfl) Try.func3
    (ChangeSpec.witness6 (enc := enc) (C := Try.checked) false ⟨#[], #[], []⟩ 8 (by kernel_rfl) (by kernel_rfl) (by kernel_rfl) (by kernel_rfl)) ?_
  intro W base args ds gs before hval0 hW _ _
  have hval : ∀ (j : Nat) t v, Try.f3.params[j]? = some t → args[j]? = some v → Value.okWide Try.prog W .any base t v := hval0
  have hW' := hW
  obtain ⟨p, q, hA0, hV, rfl, _, _⟩ := hW
  have hA : DataW.TrodAll enc Try.prog W 0 (fun _ => true) true Try.f3.params.toList args.toList ds p := hA0
  rw [Try.params3] at hA hval
  obtain ⟨rfl, rfl, rfl⟩ := trodAll_none hA
  obtain ⟨rfl, rfl⟩ := trodVars_none hV
  refine (pnames_walk  W).mono fun e W' ⟨he, hg⟩ => ?_
  subst he
  exact ⟨_, rfl, law_post laidOut (by kernel_rfl) rfl Try.underlying4 rfl rfl hW' hg⟩

theorem pnames_holds : Rows.PolicyNamesSaid :=
  OpenClaim.holds_of_wide 3 Try.f3 rfl rfl rfl rfl rfl rfl rfl ⟨rfl, rfl, rfl, rfl, rfl⟩ rfl rfl rfl rfl rfl (by kernel_rfl) Try.func3 (by kernel_rfl)
    (of_decide_eq_true (by kernel_rfl)) (by unfold Func.isWrapper; rw [if_neg (of_decide_eq_false (by kernel_rfl))]; exact ⟨rfl, rfl⟩)
    (fun os started H enc _ => pnames_lifted os started H enc)
#print axioms pnames_holds
end Go.Proofs.Ytmmjciigbmgloaa
