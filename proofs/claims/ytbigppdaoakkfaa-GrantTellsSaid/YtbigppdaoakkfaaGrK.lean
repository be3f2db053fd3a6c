/-
  What the statements of layer 7 share: of, two, one, alive.
-/
import Derived.Test.YtbigppdaoakkfaaGrC
import Derived.Test.YtbigppdaoakkfaaPoF
import Derived.Test.YtbigppdaoakkfaaLaw
import Derived.BigQuiet
import Derived.Deep.RegionHeld
namespace Go.Proofs.Ytbigppdaoakkfaa
open Go.ChangeShapes Go.WideShapes Go.ChangeAt Go.RowKit Go.Joins
set_option linter.unusedVariables false
set_option linter.unusedSimpArgs false

theorem of_any (l c : Int) (w : World) :
    Calls Try.prog 16 #[.int .u8 l, .int .u32 c] w fun e w' => e = .returned (.agg #[.int .u8 l, .int .u32 c]) ∧ Below w.heap.size w w' := by
  go_enter Try.func16, Try.ntmps16
  go_wp2
  go_returns
  exact ⟨rfl, by go_grown⟩

def us2 : List Cl := [⟨2, 3, true⟩, ⟨0, 0, false⟩]
def us3 : List Cl := [⟨2, 3, true⟩, ⟨1, 1, true⟩]
def us4 : List Cl := [⟨0, 0, false⟩, ⟨0, 0, false⟩]
/-- The chapter's policy, in a block of its own. -/
def Two (w w' : World) (e : Ending) : Prop := ∃ g, w.heap.size ≤ g ∧ e = .returned (.agg #[.slice (some ⟨g, 0, none⟩) 2 2, .slice none 0 0, .int .i64 4]) ∧ OwnC w' w.heap.size (some ⟨g, 0, none⟩) 2 us2 ∧ Below w.heap.size w w'
theorem us2_typed : ∀ x ∈ us2, x.typed := fun x hx => by
  simp only [us2, List.mem_cons, List.not_mem_nil, or_false] at hx
  rcases hx with rfl | rfl <;> exact ⟨by decide, by decide, by decide, by decide⟩
theorem pol_two {w w' : World} {g : Nat} (z : Int) (hz : In64 z) (hc : OwnC w' w.heap.size (some ⟨g, 0, none⟩) 2 us2) : Pol w' (some ⟨g, 0, none⟩) 2 2 none 0 0 z us2 [] :=
  ⟨rfl, rfl, hc.rd, (OwnQ.nil w' 0).rd, hz⟩

set_option maxRecDepth 100000 in
set_option maxHeartbeats 800000 in
theorem two_any (w : World) :
    Calls Try.prog 9 #[] w fun e w' => Two w w' e := by
  go_enter Try.func9, Try.ntmps9
  go_wp2_with fail
  go_call of_any 2 3 _ as e w1 ⟨rfl, b1⟩
  (have t0 : w1.cell? ⟨w.heap.size, 0, none⟩ = some (.slice none 0 0) := (keep b1 (by simp [go_sem])); have t1 : w1.cell? ⟨w.heap.size, 1, none⟩ = some (.slice none 0 0) := (keep b1 (by simp [go_sem])); have t2 : w1.cell? ⟨w.heap.size, 2, none⟩ = some (.int .i64 0) := (keep b1 (by simp [go_sem])))
  (have f0 : w1.frozen? ⟨w.heap.size, 0, none⟩ = false := (keepz b1 (v := .slice none 0 0) (by simp [go_sem]) (by simp [go_sem])); have f1 : w1.frozen? ⟨w.heap.size, 1, none⟩ = false := (keepz b1 (v := .slice none 0 0) (by simp [go_sem]) (by simp [go_sem])); have f2 : w1.frozen? ⟨w.heap.size, 2, none⟩ = false := (keepz b1 (v := .int .i64 0) (by simp [go_sem]) (by simp [go_sem])))
  have hz1 : w.heap.size + 1 ≤ w1.heap.size := by have := b1.size; simpa using this
  replace b1 := past_alloc b1
  have hc := lit_c w1 us2 (by decide) us2_typed
  replace f0 := fun o => keepfa t0 f0 o
  replace f1 := fun o => keepfa t1 f1 o
  replace f2 := fun o => keepfa t2 f2 o
  (replace t0 := fun o => keepa t0 o; replace t1 := fun o => keepa t1 o; replace t2 := fun o => keepa t2 o)
  go_wp2
  exact bodyPost_ret (v := .agg #[.slice (some ⟨w1.heap.size, 0, none⟩) 2 2, .slice none 0 0, .int .i64 4]) (by simp [results, Try.results9, go_sem, t0, t1, t2]) rfl ⟨w1.heap.size, by omega, rfl, OwnC.mono (((hc.set (by show w.heap.size < _; omega) _).set (by show w.heap.size < _; omega) _).set (by show w.heap.size < _; omega) _) (by omega), set3 (b1.alloc b1.size _) (by omega) _ _ _⟩

set_option maxRecDepth 100000 in
set_option maxHeartbeats 800000 in
theorem one_any (w : World) :
    Calls Try.prog 10 #[] w fun e w' => e = .returned (.agg #[.int .i64 1, .int .u8 1, .int .u32 1, .bool true]) ∧ Below w.heap.size w w' := by
  go_enter Try.func10, Try.ntmps10
  go_wp2_with fail
  go_call of_any 1 1 _ as e w1 ⟨rfl, b1⟩
  (have t0 : w1.cell? ⟨w.heap.size, 0, none⟩ = some (.int .i64 0) := (keep b1 (by simp [go_sem])); have t1 : w1.cell? ⟨w.heap.size, 1, none⟩ = some (.int .u8 0) := (keep b1 (by simp [go_sem])); have t2 : w1.cell? ⟨w.heap.size, 2, none⟩ = some (.int .u32 0) := (keep b1 (by simp [go_sem])); have t3 : w1.cell? ⟨w.heap.size, 3, none⟩ = some (.bool false) := (keep b1 (by simp [go_sem])))
  (have f0 : w1.frozen? ⟨w.heap.size, 0, none⟩ = false := (keepz b1 (v := .int .i64 0) (by simp [go_sem]) (by simp [go_sem])); have f1 : w1.frozen? ⟨w.heap.size, 1, none⟩ = false := (keepz b1 (v := .int .u8 0) (by simp [go_sem]) (by simp [go_sem])); have f2 : w1.frozen? ⟨w.heap.size, 2, none⟩ = false := (keepz b1 (v := .int .u32 0) (by simp [go_sem]) (by simp [go_sem])); have f3 : w1.frozen? ⟨w.heap.size, 3, none⟩ = false := (keepz b1 (v := .bool false) (by simp [go_sem]) (by simp [go_sem])))
  replace b1 := past_alloc b1
  go_wp2
  exact bodyPost_ret (v := .agg #[.int .i64 1, .int .u8 1, .int .u32 1, .bool true]) (by simp [results, Try.results10, go_sem, t0, t1, t2, t3]) rfl ⟨rfl, set4 b1 (by omega) _ _ _ _⟩

set_option maxRecDepth 100000 in
set_option maxHeartbeats 1600000 in
theorem alive_any (w : World) :
    Calls Try.prog 14 #[] w fun e w' => e = .returned (.bool true) ∧ Below w.heap.size w w' := by
  have H1 : Hid (apP us2 [] 4 ⟨1, 1, 1, true⟩ = ⟨us3, [], 3⟩ ∧ apE us2 [] 4 ⟨1, 1, 1, true⟩ = 0 ∧ us3.length = 2 ∧ ([] : List Qt).length = 0) := hid ⟨by rw [apP, if_pos (by decide +kernel)]; rfl, by decide +kernel, rfl, rfl⟩
  have H2 : Hid (apP us2 [] 4 ⟨0, 0, 0, false⟩ = ⟨us4, [], 3⟩ ∧ apE us2 [] 4 ⟨0, 0, 0, false⟩ = 0 ∧ us4.length = 2 ∧ ([] : List Qt).length = 0) := hid ⟨by rw [apP, if_pos (by decide +kernel)]; rfl, by decide +kernel, rfl, rfl⟩
  have M1 : Hid ((askB us3 [] 3 1 && opensB us3 1 1 1) = true ∧ er (askB us3 [] 3 1) = 0) := hid (by decide +kernel)
  have M2 : Hid ((askB us4 [] 3 0 && opensB us4 0 0 0) = false ∧ er (askB us4 [] 3 0) = 0) := hid (by decide +kernel)
  have T1 : Gr.typed ⟨1, 1, 1, true⟩ := ⟨⟨by decide, by decide⟩, ⟨by decide, by decide, by decide, by decide⟩⟩
  have T2 : Gr.typed ⟨0, 0, 0, false⟩ := ⟨⟨by decide, by decide⟩, ⟨by decide, by decide, by decide, by decide⟩⟩
  have Z : In64 4 := ⟨by decide, by decide⟩
  have Z3 : In64 3 := ⟨by decide, by decide⟩
  go_enter Try.func14, Try.ntmps14
  go_wp2_with fail
  refine (two_any _).mono ?_
  rintro e w1 ⟨g, hg, rfl, hc, hb⟩
  go_wp2_with fail
  go_call one_any _ as e w2 ⟨rfl, b2⟩
  replace hc := hc.keep b2
  replace hb := below_in hb b2
  clear b2
  go_wp2_with fail
  refine (apply_of ⟨us3, [], 3⟩ 0 2 0 _ _ _ _ _ _ _ us2 [] 1 1 1 true T1 H1 _ (pol_two 4 Z hc)).mono ?_
  rintro e w3 ⟨A', c', B', d', rfl, hoc, hoq, b3⟩
  replace hb := below_in hb b3
  have hp : Pol w3 A' 2 c' B' 0 d' 3 us3 [] := ⟨rfl, rfl, hoc.rd, hoq.rd, Z3⟩
  clear b3 hoc hoq hc hg H1 T1
  go_wp2_with fail
  generalize hW : w3.alloc _ = W
  have hbW : Below w3.heap.size w3 W := by subst hW; go_grown
  (have t0 : W.cell? ⟨w3.heap.size, 0, none⟩ = some (.slice A' 2 c') := ((by subst hW; simp [go_sem])); have t1 : W.cell? ⟨w3.heap.size, 1, none⟩ = some (.slice B' 0 d') := ((by subst hW; simp [go_sem])); have t2 : W.cell? ⟨w3.heap.size, 2, none⟩ = some (.int .i64 3) := ((by subst hW; simp [go_sem])))
  replace hp := hp.keep hbW
  have HP := hid hp
  replace hb := below_in hb hbW
  clear hW hbW hp
  (have q0 := fun w' (h : Below W.heap.size W w') => keep h t0; have q1 := fun w' (h : Below W.heap.size W w') => keep h t1; have q2 := fun w' (h : Below W.heap.size W w') => keep h t2)
  have S0 : Below W.heap.size W W.drew := (Below.refl _ _).drew
  go_region_held (fun w' => Below W.heap.size W w') (with_reducible (first | assumption))
    (first
      | (go_at_call 16; refine (of_any _ _ _).mono ?_; rintro e w4 ⟨rfl, b4⟩; have c4 := below_in (w := W) (by assumption) b4)
      | (go_at_call 32; refine (may_of true 0 _ _ _ _ _ _ _ us3 [] 1 1 1 M1 _ (HP.out.keep (by assumption))).mono ?_; rintro e w5 ⟨rfl, b5⟩; have c5 := below_in (w := W) (by assumption) b5))
  all_goals
    clear t0 t1 HP q0 q1 S0 b4 b5 c4 M1
    have z2 := q2 _ c5
    replace hb := below_in hb c5
    clear q2 c5 t2
    go_wp2_with fail
    refine (two_any _).mono ?_
    rintro e w6 ⟨g, hg, rfl, hc, b6⟩
    replace z2 := keep b6 z2
    replace hb := below_in hb b6
    clear b6
    go_wp2_with fail
    refine (apply_of ⟨us4, [], 3⟩ 0 2 0 _ _ _ _ _ _ _ us2 [] 0 0 0 false T2 H2 _ (pol_two 4 Z hc)).mono ?_
    rintro e w7 ⟨A'', c'', B'', d'', rfl, hoc, hoq, b7⟩
    replace z2 := keep b7 z2
    replace hb := below_in hb b7
    have hp : Pol w7 A'' 2 c'' B'' 0 d'' 3 us4 [] := ⟨rfl, rfl, hoc.rd, hoq.rd, Z3⟩
    clear b7 hoc hoq hc hg H2 T2
    go_wp2_with fail
    generalize hV : w7.alloc _ = V
    have hbV : Below w7.heap.size w7 V := by subst hV; go_grown
    (have t0 : V.cell? ⟨w7.heap.size, 0, none⟩ = some (.slice A'' 2 c'') := ((by subst hV; simp [go_sem])); have t1 : V.cell? ⟨w7.heap.size, 1, none⟩ = some (.slice B'' 0 d'') := ((by subst hV; simp [go_sem])); have t2 : V.cell? ⟨w7.heap.size, 2, none⟩ = some (.int .i64 3) := ((by subst hV; simp [go_sem])))
    replace z2 := keep hbV z2
    replace hp := hp.keep hbV
    have HP := hid hp
    replace hb := below_in hb hbV
    clear hV hbV hp
    (have q0 := fun w' (h : Below V.heap.size V w') => keep h t0; have q1 := fun w' (h : Below V.heap.size V w') => keep h t1; have q2 := fun w' (h : Below V.heap.size V w') => keep h t2)
    have Z2 : ∀ w', Below V.heap.size V w' → w'.cell? ⟨w3.heap.size, 2, none⟩ = some (.int .i64 3) := fun w' h => keep h z2
    have S0 : Below V.heap.size V V.drew := (Below.refl _ _).drew
    clear z2
    go_region_held (fun w' => Below V.heap.size V w') (with_reducible (first | assumption))
      (first
        | (go_at_call 16; refine (of_any _ _ _).mono ?_; rintro e w8 ⟨rfl, b8⟩; have c8 := below_in (w := V) (by assumption) b8)
        | (go_at_call 32; refine (may_of false 0 _ _ _ _ _ _ _ us4 [] 0 0 0 M2 _ (HP.out.keep (by assumption))).mono ?_; rintro e w9 ⟨rfl, b9⟩; have c9 := below_in (w := V) (by assumption) b9))
    all_goals
      have z2 := Z2 _ c9
      replace hb := below_in hb c9
      clear t0 t1 t2 HP q0 q1 q2 S0 b8 b9 c8 M2 Z2 c9
      go_wp2
      go_ret
      exact ⟨rfl, hb⟩
end Go.Proofs.Ytbigppdaoakkfaa
