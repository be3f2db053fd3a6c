/-
  The limits and errors have their numbers, and the chapter's examples are so: the statement GrantNames. Conditions: none.
-/
import Derived.Test.YtbigppdaoakkfaaGrK
import Derived.Test.YtbigppdaoakkfaaGrV
import Derived.Test.YtbigppdaoakkfaaGrD
import Derived.Deep.CutRange
import Derived.Deep.RegionWith
namespace Go.Proofs.Ytbigppdaoakkfaa
open Go.ChangeShapes Go.WideShapes Go.ChangeAt Go.RowKit Go.Joins
set_option linter.unusedVariables false
set_option linter.unusedSimpArgs false

theorem zeros_g (n : Nat) : (flat Gr.cs (List.replicate n (⟨0, 0, 0, false⟩ : Gr))).toArray = madeCells #[.int .i64 0, .int .u8 0, .int .u32 0, .bool false] (n * 4) := by
  apply Array.ext
  · simp [flat_length Gr.cs_length, size_madeCells]
  · intro i h1 h2
    have h3 : i < n * 4 := by simpa [size_madeCells] using h2
    have hq : i / 4 < (List.replicate n (⟨0, 0, 0, false⟩ : Gr)).length := by rw [List.length_replicate]; omega
    have e := flat_at Gr.cs_length _ (i / 4) hq (i % 4) (Nat.mod_lt _ (by omega))
    rw [show i / 4 * 4 + i % 4 = i by omega, List.getElem_replicate] at e
    have e2 := List.getElem?_eq_getElem (l := flat Gr.cs (List.replicate n (⟨0, 0, 0, false⟩ : Gr))) (i := i) (by rw [flat_length Gr.cs_length, List.length_replicate]; exact h3)
    rw [e2] at e
    have h4 : i % 4 < 4 := Nat.mod_lt _ (by omega)
    have e3 : (madeCells #[.int .i64 0, .int .u8 0, .int .u32 0, .bool false] (n * 4))[i]'h2 = (#[Value.int .i64 0, .int .u8 0, .int .u32 0, .bool false])[i % 4]! := by simp [madeCells]
    rw [e3, List.getElem_toArray]
    generalize (flat Gr.cs (List.replicate n (⟨0, 0, 0, false⟩ : Gr)))[i]'_ = x at e
    clear e2 e3
    generalize i % 4 = r at e h4
    match r, h4 with
    | 0, _ => exact Option.some.inj e
    | 1, _ => exact Option.some.inj e
    | 2, _ => exact Option.some.inj e
    | 3, _ => exact Option.some.inj e
theorem zeros_grs (w : World) (n : Nat) (hn : n ≤ 3000) : Grs (w.alloc (.cells (madeCells #[.int .i64 0, .int .u8 0, .int .u32 0, .bool false] (n * 4)) 36)) (some ⟨w.heap.size, 0, none⟩) n n (List.replicate n ⟨0, 0, 0, false⟩) := by
  refine ⟨by simp, ⟨by simp, by unfold maxLen; omega, fun _ => ⟨w.heap.size, 0, rfl, fun j u hj => ?_⟩⟩, fun x hx => ?_⟩
  · rw [← zeros_g, Nat.zero_add]
    have := hj
    simp [go_sem, this]
  · rw [List.eq_of_mem_replicate hx]
    exact ⟨⟨by decide, by decide⟩, ⟨by decide, by decide, by decide, by decide⟩⟩
theorem info_G3 : (Try.prog.info? 36).map (fun i => (i.zero, i.size, i.bytes)) = some (some (.agg #[.int .i64 0, .int .u8 0, .int .u32 0, .bool false]), 4, 24) := by kernel_rfl
theorem make_g (n : Nat) (hn : n ≤ 3000) (w : World) : (Instr.makeSlice 46 (.int .i64 (n : Int)) (.int .i64 (n : Int))).run Try.prog w = .ok (.slice (some ⟨w.heap.size, 0, none⟩) n n) (w.alloc (.cells (madeCells #[.int .i64 0, .int .u8 0, .int .u32 0, .bool false] (n * 4)) 36)) := by
  obtain ⟨i, hi, hz, hs, hb⟩ : ∃ i, Try.prog.info? 36 = some i ∧ i.zero = some (.agg #[.int .i64 0, .int .u8 0, .int .u32 0, .bool false]) ∧ i.size = 4 ∧ i.bytes = 24 := by
    obtain ⟨i, hi, h⟩ := Option.map_eq_some_iff.1 info_G3
    simp only [Prod.mk.injEq] at h
    exact ⟨i, hi, h.1, h.2.1, h.2.2⟩
  have h := run_make (P := Try.prog) w 46 36 i _ Try.underlying46 hi hz .i64 .i64 n n (by omega) (Int.le_refl _) (by rw [hb]; omega) (by omega)
  rw [hs, Int.toNat_natCast] at h
  exact h

/-- The fresh box of a policy. -/
structure Bx (w : World) (T : Nat) : Prop where
  c0 : w.cell? ⟨T, 0, none⟩ = some (.slice none 0 0)
  c1 : w.cell? ⟨T, 1, none⟩ = some (.slice none 0 0)
  c2 : w.cell? ⟨T, 2, none⟩ = some (.int .i64 0)
  f0 : w.frozen? ⟨T, 0, none⟩ = false
  f1 : w.frozen? ⟨T, 1, none⟩ = false
  f2 : w.frozen? ⟨T, 2, none⟩ = false
theorem Bx.keep {w w' : World} {T : Nat} (hb : Below w.heap.size w w') (h : Bx w T) : Bx w' T :=
  ⟨Go.Proofs.Ytbigppdaoakkfaa.keep hb h.c0, Go.Proofs.Ytbigppdaoakkfaa.keep hb h.c1, Go.Proofs.Ytbigppdaoakkfaa.keep hb h.c2, keepz hb h.c0 h.f0, keepz hb h.c1 h.f1, keepz hb h.c2 h.f2⟩
theorem Bx.drew {w : World} {T : Nat} (h : Bx w T) : Bx w.drew T := ⟨h.c0, h.c1, h.c2, h.f0, h.f1, h.f2⟩
theorem Bx.alloc {w : World} {T : Nat} (h : Bx w T) (o : Obj) : Bx (w.alloc o) T := h.keep ((Below.refl _ _).alloc (Nat.le_refl _) _)
theorem Bx.new (w : World) (T : Nat) (h : w.heap.size = T) : Bx (w.alloc (.cells #[.slice none 0 0, .slice none 0 0, .int .i64 0] 25)) T := by
  subst h
  exact ⟨by simp [go_sem], by simp [go_sem], by simp [go_sem], by simp [go_sem], by simp [go_sem], by simp [go_sem]⟩
theorem Grs.drew {w : World} {A : Option Addr} {n c : Nat} {l : List Gr} (h : Grs w A n c l) : Grs w.drew A n c l := h.keep (Below.refl _ _).drew
theorem Grs.alloc {w : World} {A : Option Addr} {n c : Nat} {l : List Gr} (h : Grs w A n c l) (o : Obj) : Grs (w.alloc o) A n c l := h.keep ((Below.refl _ _).alloc (Nat.le_refl _) _)
theorem past_ad2 {w w2 : World} {o o' : Obj} (b : Below ((w.alloc o).alloc o').drew.heap.size ((w.alloc o).alloc o').drew w2) : Below w.heap.size w w2 := (((((Below.refl _ w).alloc (Nat.le_refl _) o).alloc (by simp) o').drew)).trans (b.mono (by simp [World.drew]; omega))
theorem keep2 (w : World) (o o' : Obj) : Below w.heap.size w ((w.alloc o).alloc o') := ((Below.refl _ w).alloc (Nat.le_refl _) o).alloc (by simp) o'

theorem Pol.alloc {w : World} {A : Option Addr} {n c : Nat} {B : Option Addr} {m d : Nat} {g : Int} {us : List Cl} {qs : List Qt} (h : Pol w A n c B m d g us qs) (o : Obj) : Pol (w.alloc o) A n c B m d g us qs := h.keep ((Below.refl _ _).alloc (Nat.le_refl _) _)
/-- Too many grants. -/
theorem run_many (l1 : List Gr) (R1 : Hid (ruP us2 [] 4 l1 = zPl ∧ ruS us2 [] 4 l1 = [] ∧ ruE us2 [] 4 l1 = 4 ∧ zPl.us.length = 0 ∧ zPl.qs.length = 0 ∧ ([] : List Int).length = 0)) (g : Nat) (G : Option Addr) (w : World) (hp : Pol w (some ⟨g, 0, none⟩) 2 2 none 0 0 4 us2 []) (hl : Grs w G 2049 2049 l1) :
    Calls Try.prog 13 #[.agg #[.slice (some ⟨g, 0, none⟩) 2 2, .slice none 0 0, .int .i64 4], .slice G 2049 2049] w fun e w' => ∃ A' c' B' d' E e', e = .returned (.tuple #[.agg #[.slice A' 0 c', .slice B' 0 d', .int .i64 0], .slice E 0 e', .int .i64 4]) ∧ Below w.heap.size w w' := by
  refine (run_of zPl [] 4 0 0 0 (some ⟨g, 0, none⟩) 2 2 none 0 0 4 us2 [] G 2049 2049 l1 R1 w hp hl).mono ?_
  rintro e w' ⟨A', c', B', d', E, e', rfl, -, -, -, b⟩
  exact ⟨A', c', B', d', E, e', rfl, b⟩

set_option maxRecDepth 100000 in
set_option maxHeartbeats 8000000 in
theorem gnames_walk (w : World) :
    Calls Try.prog 3 #[] w fun e w' => e = .returned (.bool true) ∧ Below w.heap.size w w' := by
  have H1 : Hid (apP us2 [] 4 ⟨2, 0, 0, false⟩ = zPl ∧ apE us2 [] 4 ⟨2, 0, 0, false⟩ = 2 ∧ zPl.us.length = 0 ∧ zPl.qs.length = 0) := hid ⟨by rw [apP, if_neg (by decide +kernel)], by decide +kernel, rfl, rfl⟩
  have H2 : Hid (apP us2 [] 0 ⟨1, 1, 1, true⟩ = zPl ∧ apE us2 [] 0 ⟨1, 1, 1, true⟩ = 9 ∧ zPl.us.length = 0 ∧ zPl.qs.length = 0) := hid ⟨by rw [apP, if_neg (by decide +kernel)], by decide +kernel, rfl, rfl⟩
  have T0 : Gr.typed ⟨2, 0, 0, false⟩ := ⟨⟨by decide, by decide⟩, ⟨by decide, by decide, by decide, by decide⟩⟩
  have T1 : Gr.typed ⟨1, 1, 1, true⟩ := ⟨⟨by decide, by decide⟩, ⟨by decide, by decide, by decide, by decide⟩⟩
  have T8 : Gr.typed ⟨8, 0, 0, false⟩ := ⟨⟨by decide, by decide⟩, ⟨by decide, by decide, by decide, by decide⟩⟩
  have T9 : Gr.typed ⟨0, 1, 0, false⟩ := ⟨⟨by decide, by decide⟩, ⟨by decide, by decide, by decide, by decide⟩⟩
  have C8 : Hid (mayG ⟨8, 0, 0, false⟩ = false) := hid (by decide +kernel)
  have C9 : Hid (mayG ⟨0, 1, 0, false⟩ = false) := hid (by decide +kernel)
  have P1 : Hid (pb ⟨1, 1, 1, true⟩ = [1, 1, 1, 0, 0, 0, 1] ∧ ([1, 1, 1, 0, 0, 0, 1] : List UInt8).length = 7 ∧ er (mayG ⟨1, 1, 1, true⟩) = 0) := hid (by decide +kernel)
  have G1 : Hid (okG [] = false ∧ pickG false (gg []) = ⟨0, 0, 0, false⟩) := hid ⟨by decide +kernel, rfl⟩
  have L1 : (List.replicate 2049 (⟨0, 0, 0, false⟩ : Gr)).length = 2049 := List.length_replicate ..
  have m1 : ∀ w, (Instr.makeSlice 46 (.int .i64 2049) (.int .i64 2049)).run Try.prog w = .ok (.slice (some ⟨w.heap.size, 0, none⟩) 2049 2049) (w.alloc (.cells (madeCells #[.int .i64 0, .int .u8 0, .int .u32 0, .bool false] (2049 * 4)) 36)) := make_g 2049 (by omega)
  have z1 := fun w => zeros_grs w 2049 (by omega)
  simp only [Nat.reduceMul] at m1 z1
  generalize madeCells #[.int .i64 0, .int .u8 0, .int .u32 0, .bool false] 8196 = Z1 at m1 z1
  generalize List.replicate 2049 (⟨0, 0, 0, false⟩ : Gr) = l1 at z1 L1
  have e4 : ruE us2 [] 4 l1 = 4 := by rw [ruE, if_pos (by decide +kernel), if_pos (by rw [L1]; omega)]
  have R1 : Hid (ruP us2 [] 4 l1 = zPl ∧ ruS us2 [] 4 l1 = [] ∧ ruE us2 [] 4 l1 = 4 ∧ zPl.us.length = 0 ∧ zPl.qs.length = 0 ∧ ([] : List Int).length = 0) := hid ⟨by rw [ruP, e4, if_neg (by decide)], by rw [ruS, e4, if_neg (by decide)], e4, rfl, rfl, rfl⟩
  have Z : In64 4 := ⟨by decide, by decide⟩
  have Z0 : In64 0 := ⟨by decide, by decide⟩
  have Hz1 := hid z1
  clear z1 e4 L1
  go_enter Try.func3, Try.ntmps3
  go_wp2_with fail
  refine (two_any _).mono ?_
  rintro e w1 ⟨g, hg, rfl, hc, hb⟩
  go_wp2_with fail
  refine (apply_of zPl 2 0 0 _ _ _ _ _ _ _ us2 [] 2 0 0 false T0 H1 _ (pol_two 4 Z hc)).mono ?_
  rintro e w2 ⟨A', c', B', d', rfl, -, -, b2⟩
  replace hb := below_in hb b2
  clear b2 hc hg H1 T0
  go_wp2_with fail
  refine (two_any _).mono ?_
  rintro e w3 ⟨g, hg, rfl, hc, b3⟩
  replace b3 := past_alloc b3
  replace hb := below_in hb b3
  clear b3
  go_wp2_with fail
  generalize hW : w3.alloc _ = W
  have hbW : Below w3.heap.size w3 W := by subst hW; go_grown
  (have t0 : W.cell? ⟨w3.heap.size, 0, none⟩ = some (.slice (some ⟨g, 0, none⟩) 2 2) := ((by subst hW; simp [go_sem])); have t1 : W.cell? ⟨w3.heap.size, 1, none⟩ = some (.slice none 0 0) := ((by subst hW; simp [go_sem])); have t2 : W.cell? ⟨w3.heap.size, 2, none⟩ = some (.int .i64 0) := ((by subst hW; simp [go_sem])))
  have hp := (pol_two 0 Z0 hc).keep hbW
  have HP := hid hp
  replace hb := below_in hb hbW
  clear hW hbW hp hc hg
  (have q0 := fun w' (h : Below W.heap.size W w') => keep h t0; have q1 := fun w' (h : Below W.heap.size W w') => keep h t1; have q2 := fun w' (h : Below W.heap.size W w') => keep h t2)
  have S0 : Below W.heap.size W W.drew := (Below.refl _ _).drew
  have S1 : ∀ w' o, Below W.heap.size W w' → Below W.heap.size W (w'.alloc o) := fun w' o h => h.alloc h.size o
  (have p0 := t0; have p1 := t1; have p2 := t2)
  (replace p0 := fun o => keepa p0 o; replace p1 := fun o => keepa p1 o; replace p2 := fun o => keepa p2 o)
  go_cut [5] from 21 to 26 (fun s5 wx => s5 = .int .i64 9 ∧ Below W.heap.size W wx)
  case first => as_aux_lemma =>
    go_region_with
      (first
        | (go_at_call 10; refine (one_any W.drew).mono ?_; rintro e w4 ⟨rfl, b4⟩; have c4 := below_in (w := W) S0 b4; have q0 := q0 _ c4; have q1 := q1 _ c4; have q2 := q2 _ c4)
        | (go_at_call 10; refine (one_any (W.alloc (.cells #[.slice none 0 0, .slice none 0 0, .int .i64 0] 25)).drew).mono ?_; rintro e w4 ⟨rfl, b4⟩; have c4 := past_ad b4; have y0 := keep b4 (v := .slice none 0 0) (show ((W.alloc (.cells #[.slice none 0 0, .slice none 0 0, .int .i64 0] 25)).drew).cell? ⟨W.heap.size, 0, none⟩ = _ by simp [go_sem]); have e0 := keepz b4 (v := .slice none 0 0) (show ((W.alloc (.cells #[.slice none 0 0, .slice none 0 0, .int .i64 0] 25)).drew).cell? ⟨W.heap.size, 0, none⟩ = _ by simp [go_sem]) (show ((W.alloc (.cells #[.slice none 0 0, .slice none 0 0, .int .i64 0] 25)).drew).frozen? ⟨W.heap.size, 0, none⟩ = false by simp [go_sem]); have y1 := keep b4 (v := .slice none 0 0) (show ((W.alloc (.cells #[.slice none 0 0, .slice none 0 0, .int .i64 0] 25)).drew).cell? ⟨W.heap.size, 1, none⟩ = _ by simp [go_sem]); have e1 := keepz b4 (v := .slice none 0 0) (show ((W.alloc (.cells #[.slice none 0 0, .slice none 0 0, .int .i64 0] 25)).drew).cell? ⟨W.heap.size, 1, none⟩ = _ by simp [go_sem]) (show ((W.alloc (.cells #[.slice none 0 0, .slice none 0 0, .int .i64 0] 25)).drew).frozen? ⟨W.heap.size, 1, none⟩ = false by simp [go_sem]); have y2 := keep b4 (v := .int .i64 0) (show ((W.alloc (.cells #[.slice none 0 0, .slice none 0 0, .int .i64 0] 25)).drew).cell? ⟨W.heap.size, 2, none⟩ = _ by simp [go_sem]); have e2 := keepz b4 (v := .int .i64 0) (show ((W.alloc (.cells #[.slice none 0 0, .slice none 0 0, .int .i64 0] 25)).drew).cell? ⟨W.heap.size, 2, none⟩ = _ by simp [go_sem]) (show ((W.alloc (.cells #[.slice none 0 0, .slice none 0 0, .int .i64 0] 25)).drew).frozen? ⟨W.heap.size, 2, none⟩ = false by simp [go_sem]); have q0 := q0 _ c4; have q1 := q1 _ c4; have q2 := q2 _ c4)
        | (go_at_call 8; refine (apply_of zPl 9 0 0 _ _ _ _ _ _ _ us2 [] 1 1 1 true T1 H2 w4 (HP.out.keep c4)).mono ?_; rintro e w5 ⟨A', c', B', d', rfl, -, -, b5⟩; have c5 := below_in (w := W) c4 b5; have e0 := keepz b5 y0 e0; have y0 := keep b5 y0; have e1 := keepz b5 y1 e1; have y1 := keep b5 y1; have e2 := keepz b5 y2 e2; have y2 := keep b5 y2)
        | (go_at_call 8; refine (apply_of zPl 9 0 0 _ _ _ _ _ _ _ us2 [] 1 1 1 true T1 H2 w4 (HP.out.keep c4)).mono ?_; rintro e w5 ⟨A', c', B', d', rfl, -, -, b5⟩; have c5 := below_in (w := W) c4 b5)
        | (go_at_call 8; refine (apply_of zPl 9 0 0 _ _ _ _ _ _ _ us2 [] 1 1 1 true T1 H2 (w4.alloc (.cells #[.slice none 0 0, .slice none 0 0, .int .i64 0] 25)) (HP.out.keep (S1 _ _ c4))).mono ?_; rintro e w5 ⟨A', c', B', d', rfl, -, -, b5⟩; have c5 := below_in (w := W) (S1 _ _ c4) b5; have y0 := keep b5 (v := .slice none 0 0) (show (w4.alloc (.cells #[.slice none 0 0, .slice none 0 0, .int .i64 0] 25)).cell? ⟨w4.heap.size, 0, none⟩ = _ by simp [go_sem]); have e0 := keepz b5 (v := .slice none 0 0) (show (w4.alloc (.cells #[.slice none 0 0, .slice none 0 0, .int .i64 0] 25)).cell? ⟨w4.heap.size, 0, none⟩ = _ by simp [go_sem]) (show (w4.alloc (.cells #[.slice none 0 0, .slice none 0 0, .int .i64 0] 25)).frozen? ⟨w4.heap.size, 0, none⟩ = false by simp [go_sem]); have y1 := keep b5 (v := .slice none 0 0) (show (w4.alloc (.cells #[.slice none 0 0, .slice none 0 0, .int .i64 0] 25)).cell? ⟨w4.heap.size, 1, none⟩ = _ by simp [go_sem]); have e1 := keepz b5 (v := .slice none 0 0) (show (w4.alloc (.cells #[.slice none 0 0, .slice none 0 0, .int .i64 0] 25)).cell? ⟨w4.heap.size, 1, none⟩ = _ by simp [go_sem]) (show (w4.alloc (.cells #[.slice none 0 0, .slice none 0 0, .int .i64 0] 25)).frozen? ⟨w4.heap.size, 1, none⟩ = false by simp [go_sem]); have y2 := keep b5 (v := .int .i64 0) (show (w4.alloc (.cells #[.slice none 0 0, .slice none 0 0, .int .i64 0] 25)).cell? ⟨w4.heap.size, 2, none⟩ = _ by simp [go_sem]); have e2 := keepz b5 (v := .int .i64 0) (show (w4.alloc (.cells #[.slice none 0 0, .slice none 0 0, .int .i64 0] 25)).cell? ⟨w4.heap.size, 2, none⟩ = _ by simp [go_sem]) (show (w4.alloc (.cells #[.slice none 0 0, .slice none 0 0, .int .i64 0] 25)).frozen? ⟨w4.heap.size, 2, none⟩ = false by simp [go_sem])))
    all_goals
      go_wp2_with fail
      go_meet
      case rel => (first | exact ⟨rfl, c5.alloc c5.size _⟩ | exact ⟨rfl, set3 c5 (Nat.le_refl _) _ _ _⟩ | exact ⟨rfl, set3 c5 c4.size _ _ _⟩)
  case rest =>
    obtain ⟨rfl, hcb⟩ := hcut
    replace hb := below_in hb hcb
    clear hcb p0 p1 p2 t0 t1 t2 q0 q1 q2 HP H2
    go_wp2_with fail
    refine (one_any _).mono ?_
    rintro e w6 ⟨rfl, b6⟩
    replace hb := below_in hb b6
    clear b6
    go_wp2_with fail
    refine (gput_of [1, 1, 1, 0, 0, 0, 1] 7 0 1 1 1 true T1 P1 _).mono ?_
    rintro e w7 ⟨A7, c7, rfl, hr7, b7⟩
    replace hb := below_in hb b7
    clear b7 P1 T1
    go_wp2_with fail
    refine (gget_of false 0 0 0 false none 0 0 [] (hid rfl) G1 _ (Rd.nil _)).mono ?_
    rintro e w8 ⟨rfl, b8⟩
    have e8 : er false = 8 := rfl
    rw [e8]
    replace hr7 := hr7.keep b8
    replace hb := below_in hb b8
    clear b8 G1 e8
    go_wp2_with fail
    generalize hV : w8.alloc _ = V
    have hbV : Below w8.heap.size w8 V := by subst hV; go_grown
    replace hr7 := hr7.keep hbV
    replace hb := below_in hb hbV
    clear hV hbV
    have S0 : Below V.heap.size V V.drew := (Below.refl _ _).drew
    have S1 : ∀ w' o, Below V.heap.size V w' → Below V.heap.size V (w'.alloc o) := fun w' o h => h.alloc h.size o
    have gz : ∀ (X : World) (T : Nat), X.heap.size = T → Grs (X.alloc (.cells Z1 36)) (some ⟨T, 0, none⟩) 2049 2049 l1 := fun X T h => by subst h; exact Hz1.out X
    go_cut [12] from 37 to 42 (fun s12 wx => s12 = .int .i64 4 ∧ Below V.heap.size V wx)
    case first => as_aux_lemma =>
      clear hr7 hb
      go_region_with
        (first
          | (go_at_call 9; refine (two_any V.drew).mono ?_; rintro e v1 ⟨g1, hg1, rfl, hc1, a1⟩; have cc := below_in (w := V) S0 a1; have PP := pol_two 4 Z hc1; clear hg1 hc1)
          | (go_at_call 9; refine (two_any (V.alloc (.cells Z1 36)).drew).mono ?_; rintro e v1 ⟨g1, hg1, rfl, hc1, a1⟩; have cc := past_ad a1; have PP := pol_two 4 Z hc1; clear hg1 hc1; have gr := (gz V V.heap.size rfl).drew.keep a1)
          | (go_at_call 9; refine (two_any ((V.alloc (.cells Z1 36)).alloc (.cells #[.slice none 0 0, .slice none 0 0, .int .i64 0] 25)).drew).mono ?_; rintro e v1 ⟨g1, hg1, rfl, hc1, a1⟩; have cc := past_ad2 a1; have PP := pol_two 4 Z hc1; clear hg1 hc1; have gr := ((gz V V.heap.size rfl).alloc (.cells #[.slice none 0 0, .slice none 0 0, .int .i64 0] 25)).drew.keep a1; have Bq := Bx.keep a1 (Bx.new (V.alloc (.cells Z1 36)) (V.heap.size + 1) (by simp)).drew; have By := Bq; obtain ⟨y0, y1, y2, e0, e1, e2⟩ := By)
          | (go_at_call 9; refine (two_any (V.alloc (.cells #[.slice none 0 0, .slice none 0 0, .int .i64 0] 25)).drew).mono ?_; rintro e v1 ⟨g1, hg1, rfl, hc1, a1⟩; have cc := past_ad a1; have PP := pol_two 4 Z hc1; clear hg1 hc1; have Bq := Bx.keep a1 (Bx.new V V.heap.size rfl).drew; have By := Bq; obtain ⟨y0, y1, y2, e0, e1, e2⟩ := By)
          | (go_at_call 9; refine (two_any ((V.alloc (.cells #[.slice none 0 0, .slice none 0 0, .int .i64 0] 25)).alloc (.cells Z1 36)).drew).mono ?_; rintro e v1 ⟨g1, hg1, rfl, hc1, a1⟩; have cc := past_ad2 a1; have PP := pol_two 4 Z hc1; clear hg1 hc1; have gr := (gz (V.alloc (.cells #[.slice none 0 0, .slice none 0 0, .int .i64 0] 25)) (V.heap.size + 1) (by simp)).drew.keep a1; have Bq := Bx.keep a1 ((Bx.new V V.heap.size rfl).alloc (.cells Z1 36)).drew; have By := Bq; obtain ⟨y0, y1, y2, e0, e1, e2⟩ := By)
          | (go_at_call 13; have Bp := Bq; have tP := PP; have tG := gr; have tX := run_many l1 R1 g1 _ v1 tP tG; with_reducible refine tX.mono ?_; clear tX tP tG; rintro e v2 ⟨A8, c8, B8, d8, E8, e8, rfl, a2⟩; have cd := below_in (w := V) cc a2; have Bq := Bx.keep a2 Bp; have By := Bq; obtain ⟨y0, y1, y2, e0, e1, e2⟩ := By)
          | (go_at_call 13; have tP := PP; have tG := gr; have tX := run_many l1 R1 g1 _ v1 tP tG; with_reducible refine tX.mono ?_; clear tX tP tG; rintro e v2 ⟨A8, c8, B8, d8, E8, e8, rfl, a2⟩; have cd := below_in (w := V) cc a2)
          | (go_at_call 13; have Bp := (Bq.alloc (.cells Z1 36)); have tP := (PP.alloc (.cells Z1 36)); have tG := (gz v1 v1.heap.size rfl); have tX := run_many l1 R1 g1 _ (v1.alloc (.cells Z1 36)) tP tG; with_reducible refine tX.mono ?_; clear tX tP tG; rintro e v2 ⟨A8, c8, B8, d8, E8, e8, rfl, a2⟩; have cd := below_in (w := V) (S1 _ _ cc) a2; have Bq := Bx.keep a2 Bp; have By := Bq; obtain ⟨y0, y1, y2, e0, e1, e2⟩ := By)
          | (go_at_call 13; have tP := (PP.alloc (.cells Z1 36)); have tG := (gz v1 v1.heap.size rfl); have tX := run_many l1 R1 g1 _ (v1.alloc (.cells Z1 36)) tP tG; with_reducible refine tX.mono ?_; clear tX tP tG; rintro e v2 ⟨A8, c8, B8, d8, E8, e8, rfl, a2⟩; have cd := below_in (w := V) (S1 _ _ cc) a2)
          | (go_at_call 13; have Bp := (Bx.new v1 v1.heap.size rfl); have tP := (PP.alloc (.cells #[.slice none 0 0, .slice none 0 0, .int .i64 0] 25)); have tG := (gr.alloc (.cells #[.slice none 0 0, .slice none 0 0, .int .i64 0] 25)); have tX := run_many l1 R1 g1 _ (v1.alloc (.cells #[.slice none 0 0, .slice none 0 0, .int .i64 0] 25)) tP tG; with_reducible refine tX.mono ?_; clear tX tP tG; rintro e v2 ⟨A8, c8, B8, d8, E8, e8, rfl, a2⟩; have cd := below_in (w := V) (S1 _ _ cc) a2; have Bq := Bx.keep a2 Bp; have By := Bq; obtain ⟨y0, y1, y2, e0, e1, e2⟩ := By)
          | (go_at_call 13; have Bp := (Bx.new (v1.alloc (.cells Z1 36)) (v1.heap.size + 1) (by simp)); have tP := ((PP.alloc (.cells Z1 36)).alloc (.cells #[.slice none 0 0, .slice none 0 0, .int .i64 0] 25)); have tG := ((gz v1 v1.heap.size rfl).alloc (.cells #[.slice none 0 0, .slice none 0 0, .int .i64 0] 25)); have tX := run_many l1 R1 g1 _ ((v1.alloc (.cells Z1 36)).alloc (.cells #[.slice none 0 0, .slice none 0 0, .int .i64 0] 25)) tP tG; with_reducible refine tX.mono ?_; clear tX tP tG; rintro e v2 ⟨A8, c8, B8, d8, E8, e8, rfl, a2⟩; have cd := below_in (w := V) (S1 _ _ (S1 _ _ cc)) a2; have Bq := Bx.keep a2 Bp; have By := Bq; obtain ⟨y0, y1, y2, e0, e1, e2⟩ := By)
          | (go_at_call 13; have Bp := ((Bx.new v1 v1.heap.size rfl).alloc (.cells Z1 36)); have tP := ((PP.alloc (.cells #[.slice none 0 0, .slice none 0 0, .int .i64 0] 25)).alloc (.cells Z1 36)); have tG := (gz (v1.alloc (.cells #[.slice none 0 0, .slice none 0 0, .int .i64 0] 25)) (v1.heap.size + 1) (by simp)); have tX := run_many l1 R1 g1 _ ((v1.alloc (.cells #[.slice none 0 0, .slice none 0 0, .int .i64 0] 25)).alloc (.cells Z1 36)) tP tG; with_reducible refine tX.mono ?_; clear tX tP tG; rintro e v2 ⟨A8, c8, B8, d8, E8, e8, rfl, a2⟩; have cd := below_in (w := V) (S1 _ _ (S1 _ _ cc)) a2; have Bq := Bx.keep a2 Bp; have By := Bq; obtain ⟨y0, y1, y2, e0, e1, e2⟩ := By))
      all_goals
        go_wp2_with fail
        go_meet
        case rel => (first | exact ⟨rfl, cd.alloc cd.size _⟩ | exact ⟨rfl, set3 cd (Nat.le_refl _) _ _ _⟩ | exact ⟨rfl, set3 cd (Nat.le_succ _) _ _ _⟩ | exact ⟨rfl, set3 cd cc.size _ _ _⟩ | exact ⟨rfl, set3 cd (Nat.le_succ_of_le cc.size) _ _ _⟩)
    case rest =>
      obtain ⟨rfl, hcb⟩ := hcut
      replace hb := below_in hb hcb
      replace hr7 := hr7.keep hcb
      clear hcb S0 S1 gz Hz1 R1 m1 Z Z0
      go_wp2_with fail
      refine (alive_any _).mono ?_
      rintro e x1 ⟨rfl, b1⟩
      replace hb := below_in hb b1
      replace hr7 := hr7.keep b1
      clear b1
      go_wp2_with fail
      refine (gcheck_of false 8 0 0 false T8 C8 _).mono ?_
      rintro e x2 ⟨rfl, b2⟩
      have e8 : er false = 8 := rfl
      rw [e8]
      replace hb := below_in hb b2
      replace hr7 := hr7.keep b2
      clear b2
      go_wp2_with fail
      refine (of_any 1 0 _).mono ?_
      rintro e x3 ⟨rfl, b3⟩
      replace hb := below_in hb b3
      replace hr7 := hr7.keep b3
      clear b3
      go_wp2_with fail
      refine (gcheck_of false 0 1 0 false T9 C9 _).mono ?_
      rintro e x4 ⟨rfl, b4⟩
      rw [e8]
      replace hb := below_in hb b4
      have y1 := rd_string (n := 7) (hid rfl) (hr7.keep b4)
      go_wp2
      trace_state
      go_ret
      exact ⟨rfl, hb⟩

set_option maxRecDepth 100000 in
theorem gnames_lifted (os : Os) (started : os.Started) (H : Type) (enc : TypeId × Value → H) :
    ReturnsInHanded {} Try.checked os 3 .any (Rows.grantNamesSpec.pre6 enc Try.prog Try.f3 Rows.grantNamesRow.domain false) (Rows.grantNamesSpec.post enc Try.prog Try.f3 false true false false) := by
  refine returnsInHanded_of_change (C := Try.checked) own started (by kernel_rfl) Try.func3
    (ChangeSpec.witness6 (enc := enc) (C := Try.checked) false ⟨#[], #[], []⟩ 8 (by kernel_rfl) (by kernel_rfl) (by kernel_rfl) (by kernel_rfl)) ?_
  intro W base args ds gs before hval0 hW _ _
  have hval : ∀ (j : Nat) t v, Try.f3.params[j]? = some t → args[j]? = some v → Value.okWide Try.prog W .any base t v := hval0
  have hW' := hW
  obtain ⟨p, q, hA0, hV, rfl, _, _⟩ := hW
  have hA : DataW.TrodAll enc Try.prog W 0 (fun _ => true) true Try.f3.params.toList args.toList ds p := hA0
  rw [Try.params3] at hA hval
  obtain ⟨rfl, rfl, rfl⟩ := trodAll_none hA
  obtain ⟨rfl, rfl⟩ := trodVars_none hV
  refine (gnames_walk  W).mono fun e W' ⟨he, hg⟩ => ?_
  subst he
  exact ⟨_, rfl, law_post laidOut (by kernel_rfl) rfl Try.underlying4 rfl rfl hW' hg⟩

theorem gnames_holds : Rows.GrantNamesSaid :=
  OpenClaim.holds_of_wide 3 Try.f3 rfl rfl rfl rfl rfl rfl rfl ⟨rfl, rfl, rfl, rfl, rfl⟩ rfl rfl rfl rfl rfl (by kernel_rfl) Try.func3 (by kernel_rfl)
    (of_decide_eq_true (by kernel_rfl)) (by unfold Func.isWrapper; rw [if_neg (of_decide_eq_false (by kernel_rfl))]; exact ⟨rfl, rfl⟩)
    (fun os started H enc _ => gnames_lifted os started H enc)
#print axioms gnames_holds
end Go.Proofs.Ytbigppdaoakkfaa
