/-
  THE STATEMENT OpNames: the chapter's examples of layer 9.
-/
import Derived.Test.YtbhglgcnoidddaaOpX
import Derived.Test.YtbhglgcnoidddaaOpW
import Derived.Deep.RegionHeld
import Derived.Deep.CutRange
namespace Go.Proofs.Ytbhglgcnoidddaa
open Go.ChangeShapes Go.WideShapes Go.ChangeAt Go.RowKit Go.Joins
set_option linter.unusedVariables false
set_option linter.unusedSimpArgs false

theorem there_lt {W : World} {g : Nat} (h : ThereO W g) : g < W.heap.size := by
  obtain ⟨u, hu⟩ := Option.isSome_iff_exists.1 (h 0 (by decide)).1
  exact World.block_lt_of_cell? _ _ hu
theorem ThereO.drew {W : World} {g : Nat} (h : ThereO W g) : ThereO W.drew g := h
theorem ri_one {W : World} {s : Nat} {x : Int} (h : W.cell? ⟨s, 0, none⟩ = some (.int .i32 x)) (hx : In32 [x]) : Ri W (some ⟨s, 0, none⟩) 1 [x] := by
  refine ⟨⟨by simp [i32s], by unfold maxLen; omega, fun _ => ⟨s, 0, rfl, fun j hj => ?_⟩⟩, hx⟩
  have : j = 0 := by simp [i32s] at hj; omega
  subst this
  simpa [i32s] using h
theorem BoxO.same {W W' : World} {b : Nat} (h : W'.heap[b]? = W.heap[b]?) {o : Opd} {A : Option Addr} {n c : Nat} (hb : BoxO W b o A n c) : BoxO W' b o A n c :=
  boxO_of fun j v hv => by rw [World.cell?_of_block (w := W) (a := ⟨b, 0 + j, none⟩) h]; exact hb.range j v hv
theorem ri_same {W W' : World} {s : Nat} (hh : W'.heap[s]? = W.heap[s]?) {c : Nat} {l : List Int} (h : Ri W (some ⟨s, 0, none⟩) c l) : Ri W' (some ⟨s, 0, none⟩) c l :=
  ⟨⟨h.1.1, h.1.2.1, fun hl => by
    obtain ⟨b', o', hA, hc⟩ := h.1.2.2 hl
    cases hA
    exact ⟨_, _, rfl, fun j hj => by rw [World.cell?_of_block (w := W) (a := ⟨s, 0 + j, none⟩) hh]; exact hc j hj⟩⟩, h.2⟩
theorem no_nil (o : Opd) : ¬ Begins [] o := fun h => by
  have h1 := h.pre.length_le
  have h2 := (opb_length h.may).2.1
  rw [List.length_nil] at h1
  omega
/-- The chapter's insert. -/
@[reducible] def insO : Opd := ⟨1, 1, 1, 2, 1, 1, 1, 3, 9, 1, 0, 0, 0, 0, 0, 0, [97]⟩
/-- The chapter's others: the insert as it is then, and the wrong ones. -/
@[reducible] def insA : Opd := ⟨1, 1, 1, 2, 1, 1, 1, 2, 9, 1, 0, 0, 0, 0, 0, 0, [-1]⟩
@[reducible] def oddO : Opd := ⟨1, 1, 1, 2, 1, 1, 1, 3, 9, 1, 0, 0, 0, 0, 0, 0, [-1]⟩
@[reducible] def cutB : Opd := ⟨2, 1, 1, 2, 1, 1, 1, 2, 9, 2, 0, 0, 0, 0, 0, 0, [97, 98]⟩
@[reducible] def cutC : Opd := ⟨3, 1, 1, 2, 1, 1, 1, 2, 9, 2, 0, 0, 0, 0, 16, 0, []⟩
@[reducible] def cutD : Opd := ⟨2, 1, 1, 2, 16777216, 1, 1, 2, 9, 2, 0, 0, 0, 0, 0, 0, []⟩
theorem the_checks : er (mayO oddO) = 8 ∧ er (mayO insA) = 0 ∧ plB insA.row = false ∧ plB cutO.row = true ∧ er (mayO cutB) = 8 ∧ er (mayO cutC) = 8 ∧ er (mayO cutD) = 8 := by decide +kernel
theorem the_sizes : szO 2 5 = 24 ∧ szO 3 64 = 29 ∧ szO 1 65 = 0 ∧ szO 4 1 = 0 ∧ szO 1 0 = 0 := by decide
/-- The insert's box and its row's. -/
structure Made (p : Nat) (W w : World) (v : Value) : Prop where
  ex : ∃ g s, v = .pointer (some ⟨g, 0, none⟩) ∧ BoxO w g insO (some ⟨s, 0, none⟩) 1 1 ∧ ThereO w g ∧ w.cell? ⟨s, 0, none⟩ = some (.int .i32 97) ∧ w.frozen? ⟨s, 0, none⟩ = false ∧ s ≠ g ∧ W.heap.size ≤ g ∧ W.heap.size ≤ s
  be : Below W.heap.size W w

theorem run_span (f : Operand → Value) (w : World) (h1 : f (.tmp 14) = .agg #[.int .u8 1, .int .u32 1, .int .u8 3, .int .i64 9]) (h2 : f (.const (.int .i64 1)) = .int .i64 1) :
    Sem.run Try.prog (execOp f { dst := some 15, op := Op.build 32 #[(0, Operand.tmp 14), (1, Operand.const (Value.int IntKind.i64 1))], type := 32, pos := "outright.go:32", after := #[{ on := 1, ground := Ground.data }], guard := none }) w
      = .ok (.value (.agg #[.int .u8 1, .int .u32 1, .int .u8 3, .int .i64 9, .int .i64 1])) w := by
  simp only [execOp, List.map_toArray, List.map_cons, List.map_nil, h1, h2]
  go_simp
theorem run_insert (f : Operand → Value) (w : World) (s : Nat) (h0 : f (.const (.int .u8 1)) = .int .u8 1) (h1 : f (.tmp 13) = .agg #[.int .u8 1, .int .u32 1, .int .u8 2])
    (h2 : f (.const (.int .i64 1)) = .int .i64 1) (h3 : f (.tmp 15) = .agg #[.int .u8 1, .int .u32 1, .int .u8 3, .int .i64 9, .int .i64 1]) (h4 : f (.tmp 16) = .slice (some ⟨s, 0, none⟩) 1 1) :
    Sem.run Try.prog (execOp f { dst := some 17, op := Op.build 35 #[(0, Operand.const (Value.int IntKind.u8 1)), (1, Operand.tmp 13), (2, Operand.const (Value.int IntKind.i64 1)), (3, Operand.tmp 15), (6, Operand.tmp 16)], type := 35, pos := "outright.go:32", after := #[{ on := 0, ground := Ground.data }, { on := 2, ground := Ground.data }, { on := 3, ground := Ground.data }], guard := none }) w
      = .ok (.value (.agg #[.int .u8 1, .int .u8 1, .int .u32 1, .int .u8 2, .int .i64 1, .int .u8 1, .int .u32 1, .int .u8 3, .int .i64 9, .int .i64 1, .int .u8 0, .int .u32 0, .int .u8 0, .int .i64 0, .int .u8 0, .int .u32 0, .slice (some ⟨s, 0, none⟩) 1 1])) w := by
  simp only [execOp, List.map_toArray, List.map_cons, List.map_nil, h0, h1, h2, h3, h4]
  go_simp
set_option maxRecDepth 100000 in
set_option maxHeartbeats 6400000 in
theorem onames_walk (w : World) : Calls Try.prog 3 #[] w fun e w' => e = .returned (.bool true) ∧ Below w.heap.size w w' := by
  have hi : (Try.prog.info? 28).map (·.size) = some 4 := by kernel_rfl
  go_enter Try.func3, Try.ntmps3
  go_wp2_with fail
  refine (nine_any _).mono ?_
  rintro e w1 ⟨rfl, hb⟩
  have ht1 := there_new w1 #[.int .u8 0, .int .u32 0, .int .u8 0, .int .i64 0] 28 4 rfl
  go_wp2_with (refine wpList_store_n rfl 28 _ Try.underlying28 rfl [.int .u8 1, .int .u32 1, .int .u8 2, .int .i64 9] hi (.tmp 1) (.tmp 10) rfl w1.heap.size rfl rfl (by simp [Value.oneCell']) ht1 w1.heap.size (Nat.le_refl _) ?_; intro w4 r4 t4 b4 h4 z4; have u0 : w4.cell? ⟨w1.heap.size, 0, none⟩ = _ := r4 0 _ rfl; have u1 : w4.cell? ⟨w1.heap.size, 1, none⟩ = _ := r4 1 _ rfl; have u2 : w4.cell? ⟨w1.heap.size, 2, none⟩ = _ := r4 2 _ rfl; have u3 : w4.cell? ⟨w1.heap.size, 3, none⟩ = _ := r4 3 _ rfl; have f2 : w4.frozen? ⟨w1.heap.size, 2, none⟩ = false := by simpa using (t4 2 (by decide)).2)
  have hb0 : w.heap.size ≤ w1.heap.size := hb.size
  replace hb : Below w.heap.size w w4 := (below_al hb _).trans (b4.mono hb.size)
  replace hb : Below w.heap.size w (w4.setCell ⟨w1.heap.size, 2, none⟩ (.int .u8 3)) := hb.setCell hb0 _
  have k0 : (w4.setCell ⟨w1.heap.size, 2, none⟩ (.int .u8 3)).cell? ⟨w1.heap.size, 0, none⟩ = some (.int .u8 1) := by simp [go_sem, u0]
  have k1 : (w4.setCell ⟨w1.heap.size, 2, none⟩ (.int .u8 3)).cell? ⟨w1.heap.size, 1, none⟩ = some (.int .u32 1) := by simp [go_sem, u1]
  have k2 : (w4.setCell ⟨w1.heap.size, 2, none⟩ (.int .u8 3)).cell? ⟨w1.heap.size, 2, none⟩ = some (.int .u8 3) := by simp [go_sem, u2]
  have k3 : (w4.setCell ⟨w1.heap.size, 2, none⟩ (.int .u8 3)).cell? ⟨w1.heap.size, 3, none⟩ = some (.int .i64 9) := by simp [go_sem, u3]
  clear u0 u1 u2 u3 f2 r4 t4 b4 h4 z4 ht1 hb0
  generalize w1.heap.size = p at *
  generalize w4.setCell _ _ = W at *
  have q0 := fun w' (h : Below W.heap.size W w') => keep h k0
  have q1 := fun w' (h : Below W.heap.size W w') => keep h k1
  have q2 := fun w' (h : Below W.heap.size W w') => keep h k2
  have q3 := fun w' (h : Below W.heap.size W w') => keep h k3
  have S0 : Below W.heap.size W W.drew := (Below.refl _ _).drew
  clear k0 k1 k2 k3
  go_cut [2] from 13 to 17 (fun s2 wx => Made p W wx s2)
  case first => as_aux_lemma =>
    refine wp_region_held_drew (S := fun w' => Below W.heap.size W w') (by kernel_rfl) S0 (fun hHeld => ?_)
    generalize W.drew = V at *
    refine wpAnyH_take (i := 1) (oi := { dst := some 14, op := Op.load 28 (Operand.tmp 1), type := 28, pos := "outright.go:32", after := #[], guard := none }) (v := ?_) rfl (by kernel_rfl) (by kernel_rfl) (by kernel_rfl) (fun _ _ _ h => h) (Or.inl ⟨by rfl, ?_⟩) hHeld ?_
    rotate_left
    · intro w' hSw
      (try dsimp only at hSw)
      have k0 := q0 _ hSw
      have k1 := q1 _ hSw
      have k2 := q2 _ hSw
      have k3 := q3 _ hSw
      go_simp <;> with_reducible rfl
    (try simp only [Act.put, List.setIfInBounds_toArray, List.set_cons_zero, List.set_cons_succ])
    refine wpAnyH_take (i := 2) (oi := { dst := some 15, op := Op.build 32 #[(0, Operand.tmp 14), (1, Operand.const (Value.int IntKind.i64 1))], type := 32, pos := "outright.go:32", after := #[{ on := 1, ground := Ground.data }], guard := none }) (v := ?_) rfl (by kernel_rfl) (by kernel_rfl) (by kernel_rfl) (fun _ _ _ h => h) (Or.inl ⟨by rfl, ?_⟩) hHeld ?_
    rotate_left
    · intro w' hSw
      (try dsimp only at hSw)
      refine run_span _ w' ?_ ?_ <;> rfl
    (try simp only [Act.put, List.setIfInBounds_toArray, List.set_cons_zero, List.set_cons_succ])
    refine wpAnyH_ready (rs := [0, 3, 5]) (by kernel_rfl) (by simp) ?_
    refine AllReadyH.cons rfl (fun K hK => ?_) (AllReadyH.cons rfl (fun K hK => ?_) (AllReadyH.cons rfl (fun K hK => ?_) (AllReadyH.nil)))
    · go_simp
      go_wp2_with (go_at_call 8; refine (h_any _).mono ?_; rintro e vC ⟨rfl, bC⟩)
      have sC := below_in S0 bC
      refine hK.out _ _ sC (fun hHeld => ?_)
      clear hK K
      refine wpAnyH_ready (rs := [3, 5]) (by kernel_rfl) (by simp) ?_
      refine AllReadyH.cons rfl (fun K hK => ?_) (AllReadyH.cons rfl (fun K hK => ?_) (AllReadyH.nil))
      · go_simp
        refine hK.out _ _ (below_al sC _) (fun hHeld => ?_)
        clear hK K
        generalize hX : World.alloc vC _ = XS at hHeld ⊢
        have bS : Below vC.heap.size vC XS := by rw [← hX]; exact (Below.refl _ _).alloc (Nat.le_refl _) _
        have sS := below_in sC bS
        have xs : XS.cell? ⟨vC.heap.size, 0, none⟩ = some (.int .i32 97) := by subst hX; simp [go_sem]
        have fs : XS.frozen? ⟨vC.heap.size, 0, none⟩ = false := by subst hX; simp [go_sem]
        have hsl : W.heap.size ≤ vC.heap.size := Below.size sC
        clear hX
        refine wpAnyH_take (i := 4) (oi := { dst := some 17, op := Op.build 35 #[(0, Operand.const (Value.int IntKind.u8 1)), (1, Operand.tmp 13), (2, Operand.const (Value.int IntKind.i64 1)), (3, Operand.tmp 15), (6, Operand.tmp 16)], type := 35, pos := "outright.go:32", after := #[{ on := 0, ground := Ground.data }, { on := 2, ground := Ground.data }, { on := 3, ground := Ground.data }], guard := none }) (v := ?_) rfl (by kernel_rfl) (by kernel_rfl) (by kernel_rfl) (fun _ _ _ h => h) (Or.inl ⟨by rfl, ?_⟩) hHeld ?_
        rotate_left
        · intro w' hSw
          (try dsimp only at hSw)
          refine run_insert _ w' (vC.heap.size) ?_ ?_ ?_ ?_ ?_ <;> rfl
        (try simp only [Act.put, List.setIfInBounds_toArray, List.set_cons_zero, List.set_cons_succ])
        refine wpAnyH_ready (rs := [5]) (by kernel_rfl) (by simp) ?_
        refine AllReadyH.cons rfl (fun K hK => ?_) (AllReadyH.nil)
        · go_simp
          refine hK.out _ _ (below_al sS _) (fun hHeld => ?_)
          clear hK K
          have ht := thereO_new XS #[.int .u8 0, .int .u8 0, .int .u32 0, .int .u8 0, .int .i64 0, .int .u8 0, .int .u32 0, .int .u8 0, .int .i64 0, .int .i64 0, .int .u8 0, .int .u32 0, .int .u8 0, .int .i64 0, .int .u8 0, .int .u32 0, .slice none 0 0] rfl 35
          generalize hX : World.alloc XS _ = XA at ht hHeld ⊢
          have bA : Below XS.heap.size XS XA := by rw [← hX]; exact (Below.refl _ _).alloc (Nat.le_refl _) _
          have sA := below_in sS bA
          have hg : W.heap.size ≤ XS.heap.size := Below.size sS
          have dif : vC.heap.size ≠ XS.heap.size := Nat.ne_of_lt (World.block_lt_of_cell? _ _ xs)
          replace fs := keepz bA xs fs
          replace xs := keep bA xs
          clear hX
          refine wpAnyH_ready (rs := [6]) (by kernel_rfl) (by simp) ?_
          refine AllReadyH.cons rfl (fun K hK => ?_) AllReadyH.nil
          rw [if_pos (by rfl)]
          refine wp_store_mid 35 (.tmp 2) (.tmp 17) rfl XS.heap.size 0 (List.toArray [.int .u8 1, .int .u8 1, .int .u32 1, .int .u8 2, .int .i64 1, .int .u8 1, .int .u32 1, .int .u8 3, .int .i64 9, .int .i64 1, .int .u8 0, .int .u32 0, .int .u8 0, .int .i64 0, .int .u8 0, .int .u32 0, .slice (some ⟨vC.heap.size, 0, none⟩) 1 1]) rfl rfl ht info_O (by simp [Value.oneCell']) ?_
          (try simp only [Act.put, List.setIfInBounds_toArray, List.set_cons_zero, List.set_cons_succ, List.toList_toArray])
          have bx : BoxO (World.setCells XA XS.heap.size 0 [.int .u8 1, .int .u8 1, .int .u32 1, .int .u8 2, .int .i64 1, .int .u8 1, .int .u32 1, .int .u8 3, .int .i64 9, .int .i64 1, .int .u8 0, .int .u32 0, .int .u8 0, .int .i64 0, .int .u8 0, .int .u32 0, .slice (some ⟨vC.heap.size, 0, none⟩) 1 1]) XS.heap.size insO (some ⟨vC.heap.size, 0, none⟩) 1 1 := boxO_of (World.rangeAt_setCells_same XA XS.heap.size 0 _ ht)
          have hs9 : Below W.heap.size W (World.setCells XA XS.heap.size 0 [.int .u8 1, .int .u8 1, .int .u32 1, .int .u8 2, .int .i64 1, .int .u8 1, .int .u32 1, .int .u8 3, .int .i64 9, .int .i64 1, .int .u8 0, .int .u32 0, .int .u8 0, .int .i64 0, .int .u8 0, .int .u32 0, .slice (some ⟨vC.heap.size, 0, none⟩) 1 1]) := sA.trans (below_setCells XS.heap.size W.heap.size hg _ _ _)
          refine hK.out _ _ hs9 (fun hHeld2 => ?_)
          clear hK K
          refine wpAnyH_done (by kernel_rfl) ?_ _
          have md : Made p W (World.setCells XA XS.heap.size 0 [.int .u8 1, .int .u8 1, .int .u32 1, .int .u8 2, .int .i64 1, .int .u8 1, .int .u32 1, .int .u8 3, .int .i64 9, .int .i64 1, .int .u8 0, .int .u32 0, .int .u8 0, .int .i64 0, .int .u8 0, .int .u32 0, .slice (some ⟨vC.heap.size, 0, none⟩) 1 1]) (.pointer (some ⟨XS.heap.size, 0, none⟩)) := ⟨⟨XS.heap.size, vC.heap.size, rfl, bx, ht.sets 0 _, cell_other (fun k hk => heap_setCells XS.heap.size _ 0 XA k hk) (p := ⟨vC.heap.size, 0, none⟩) dif xs, (World.frozen?_of_block (w := XA) (a := ⟨vC.heap.size, 0, none⟩) (heap_setCells XS.heap.size _ 0 XA _ dif)).trans fs, dif, hg, hsl⟩, hs9⟩
          clear hHeld hHeld2 bx
          generalize World.setCells _ XS.heap.size 0 _ = X9 at md hs9 ⊢
          go_wp2_with fail
          go_meet
          case rel => exact md
      · go_simp
        refine hK.out _ _ (below_al sC _) (fun hHeld => ?_)
        clear hK K
        have ht := thereO_new vC #[.int .u8 0, .int .u8 0, .int .u32 0, .int .u8 0, .int .i64 0, .int .u8 0, .int .u32 0, .int .u8 0, .int .i64 0, .int .i64 0, .int .u8 0, .int .u32 0, .int .u8 0, .int .i64 0, .int .u8 0, .int .u32 0, .slice none 0 0] rfl 35
        generalize hX : World.alloc vC _ = XA at ht hHeld ⊢
        have bA : Below vC.heap.size vC XA := by rw [← hX]; exact (Below.refl _ _).alloc (Nat.le_refl _) _
        have sA := below_in sC bA
        have hg : W.heap.size ≤ vC.heap.size := Below.size sC
        clear hX
        refine wpAnyH_ready (rs := [3]) (by kernel_rfl) (by simp) ?_
        refine AllReadyH.cons rfl (fun K hK => ?_) (AllReadyH.nil)
        · go_simp
          refine hK.out _ _ (below_al sA _) (fun hHeld => ?_)
          clear hK K
          generalize hX : World.alloc XA _ = XS at hHeld ⊢
          have bS : Below XA.heap.size XA XS := by rw [← hX]; exact (Below.refl _ _).alloc (Nat.le_refl _) _
          have sS := below_in sA bS
          have xs : XS.cell? ⟨XA.heap.size, 0, none⟩ = some (.int .i32 97) := by subst hX; simp [go_sem]
          have fs : XS.frozen? ⟨XA.heap.size, 0, none⟩ = false := by subst hX; simp [go_sem]
          have hsl : W.heap.size ≤ XA.heap.size := Below.size sA
          have dif : XA.heap.size ≠ vC.heap.size := Nat.ne_of_gt (there_lt ht)
          replace ht := ht.keep bS
          clear hX
          refine wpAnyH_take (i := 4) (oi := { dst := some 17, op := Op.build 35 #[(0, Operand.const (Value.int IntKind.u8 1)), (1, Operand.tmp 13), (2, Operand.const (Value.int IntKind.i64 1)), (3, Operand.tmp 15), (6, Operand.tmp 16)], type := 35, pos := "outright.go:32", after := #[{ on := 0, ground := Ground.data }, { on := 2, ground := Ground.data }, { on := 3, ground := Ground.data }], guard := none }) (v := ?_) rfl (by kernel_rfl) (by kernel_rfl) (by kernel_rfl) (fun _ _ _ h => h) (Or.inl ⟨by rfl, ?_⟩) hHeld ?_
          rotate_left
          · intro w' hSw
            (try dsimp only at hSw)
            refine run_insert _ w' (XA.heap.size) ?_ ?_ ?_ ?_ ?_ <;> rfl
          (try simp only [Act.put, List.setIfInBounds_toArray, List.set_cons_zero, List.set_cons_succ])
          refine wpAnyH_ready (rs := [6]) (by kernel_rfl) (by simp) ?_
          refine AllReadyH.cons rfl (fun K hK => ?_) AllReadyH.nil
          rw [if_pos (by rfl)]
          refine wp_store_mid 35 (.tmp 2) (.tmp 17) rfl vC.heap.size 0 (List.toArray [.int .u8 1, .int .u8 1, .int .u32 1, .int .u8 2, .int .i64 1, .int .u8 1, .int .u32 1, .int .u8 3, .int .i64 9, .int .i64 1, .int .u8 0, .int .u32 0, .int .u8 0, .int .i64 0, .int .u8 0, .int .u32 0, .slice (some ⟨XA.heap.size, 0, none⟩) 1 1]) rfl rfl ht info_O (by simp [Value.oneCell']) ?_
          (try simp only [Act.put, List.setIfInBounds_toArray, List.set_cons_zero, List.set_cons_succ, List.toList_toArray])
          have bx : BoxO (World.setCells XS vC.heap.size 0 [.int .u8 1, .int .u8 1, .int .u32 1, .int .u8 2, .int .i64 1, .int .u8 1, .int .u32 1, .int .u8 3, .int .i64 9, .int .i64 1, .int .u8 0, .int .u32 0, .int .u8 0, .int .i64 0, .int .u8 0, .int .u32 0, .slice (some ⟨XA.heap.size, 0, none⟩) 1 1]) vC.heap.size insO (some ⟨XA.heap.size, 0, none⟩) 1 1 := boxO_of (World.rangeAt_setCells_same XS vC.heap.size 0 _ ht)
          have hs9 : Below W.heap.size W (World.setCells XS vC.heap.size 0 [.int .u8 1, .int .u8 1, .int .u32 1, .int .u8 2, .int .i64 1, .int .u8 1, .int .u32 1, .int .u8 3, .int .i64 9, .int .i64 1, .int .u8 0, .int .u32 0, .int .u8 0, .int .i64 0, .int .u8 0, .int .u32 0, .slice (some ⟨XA.heap.size, 0, none⟩) 1 1]) := sS.trans (below_setCells vC.heap.size W.heap.size hg _ _ _)
          refine hK.out _ _ hs9 (fun hHeld2 => ?_)
          clear hK K
          refine wpAnyH_done (by kernel_rfl) ?_ _
          have md : Made p W (World.setCells XS vC.heap.size 0 [.int .u8 1, .int .u8 1, .int .u32 1, .int .u8 2, .int .i64 1, .int .u8 1, .int .u32 1, .int .u8 3, .int .i64 9, .int .i64 1, .int .u8 0, .int .u32 0, .int .u8 0, .int .i64 0, .int .u8 0, .int .u32 0, .slice (some ⟨XA.heap.size, 0, none⟩) 1 1]) (.pointer (some ⟨vC.heap.size, 0, none⟩)) := ⟨⟨vC.heap.size, XA.heap.size, rfl, bx, ht.sets 0 _, cell_other (fun k hk => heap_setCells vC.heap.size _ 0 XS k hk) (p := ⟨XA.heap.size, 0, none⟩) dif xs, (World.frozen?_of_block (w := XS) (a := ⟨XA.heap.size, 0, none⟩) (heap_setCells vC.heap.size _ 0 XS _ dif)).trans fs, dif, hg, hsl⟩, hs9⟩
          clear hHeld hHeld2 bx
          generalize World.setCells _ vC.heap.size 0 _ = X9 at md hs9 ⊢
          go_wp2_with fail
          go_meet
          case rel => exact md
    · go_simp
      refine hK.out _ _ (below_al S0 _) (fun hHeld => ?_)
      clear hK K
      generalize hX : World.alloc V _ = XS at hHeld ⊢
      have bS : Below V.heap.size V XS := by rw [← hX]; exact (Below.refl _ _).alloc (Nat.le_refl _) _
      have sS := below_in S0 bS
      have xs : XS.cell? ⟨V.heap.size, 0, none⟩ = some (.int .i32 97) := by subst hX; simp [go_sem]
      have fs : XS.frozen? ⟨V.heap.size, 0, none⟩ = false := by subst hX; simp [go_sem]
      have hsl : W.heap.size ≤ V.heap.size := Below.size S0
      clear hX
      refine wpAnyH_ready (rs := [0, 5]) (by kernel_rfl) (by simp) ?_
      refine AllReadyH.cons rfl (fun K hK => ?_) (AllReadyH.cons rfl (fun K hK => ?_) (AllReadyH.nil))
      · go_simp
        go_wp2_with (go_at_call 8; refine (h_any _).mono ?_; rintro e vC ⟨rfl, bC⟩)
        have sC := below_in sS bC
        replace fs := keepz bC xs fs
        replace xs := keep bC xs
        refine hK.out _ _ sC (fun hHeld => ?_)
        clear hK K
        refine wpAnyH_take (i := 4) (oi := { dst := some 17, op := Op.build 35 #[(0, Operand.const (Value.int IntKind.u8 1)), (1, Operand.tmp 13), (2, Operand.const (Value.int IntKind.i64 1)), (3, Operand.tmp 15), (6, Operand.tmp 16)], type := 35, pos := "outright.go:32", after := #[{ on := 0, ground := Ground.data }, { on := 2, ground := Ground.data }, { on := 3, ground := Ground.data }], guard := none }) (v := ?_) rfl (by kernel_rfl) (by kernel_rfl) (by kernel_rfl) (fun _ _ _ h => h) (Or.inl ⟨by rfl, ?_⟩) hHeld ?_
        rotate_left
        · intro w' hSw
          (try dsimp only at hSw)
          refine run_insert _ w' (V.heap.size) ?_ ?_ ?_ ?_ ?_ <;> rfl
        (try simp only [Act.put, List.setIfInBounds_toArray, List.set_cons_zero, List.set_cons_succ])
        refine wpAnyH_ready (rs := [5]) (by kernel_rfl) (by simp) ?_
        refine AllReadyH.cons rfl (fun K hK => ?_) (AllReadyH.nil)
        · go_simp
          refine hK.out _ _ (below_al sC _) (fun hHeld => ?_)
          clear hK K
          have ht := thereO_new vC #[.int .u8 0, .int .u8 0, .int .u32 0, .int .u8 0, .int .i64 0, .int .u8 0, .int .u32 0, .int .u8 0, .int .i64 0, .int .i64 0, .int .u8 0, .int .u32 0, .int .u8 0, .int .i64 0, .int .u8 0, .int .u32 0, .slice none 0 0] rfl 35
          generalize hX : World.alloc vC _ = XA at ht hHeld ⊢
          have bA : Below vC.heap.size vC XA := by rw [← hX]; exact (Below.refl _ _).alloc (Nat.le_refl _) _
          have sA := below_in sC bA
          have hg : W.heap.size ≤ vC.heap.size := Below.size sC
          have dif : V.heap.size ≠ vC.heap.size := Nat.ne_of_lt (World.block_lt_of_cell? _ _ xs)
          replace fs := keepz bA xs fs
          replace xs := keep bA xs
          clear hX
          refine wpAnyH_ready (rs := [6]) (by kernel_rfl) (by simp) ?_
          refine AllReadyH.cons rfl (fun K hK => ?_) AllReadyH.nil
          rw [if_pos (by rfl)]
          refine wp_store_mid 35 (.tmp 2) (.tmp 17) rfl vC.heap.size 0 (List.toArray [.int .u8 1, .int .u8 1, .int .u32 1, .int .u8 2, .int .i64 1, .int .u8 1, .int .u32 1, .int .u8 3, .int .i64 9, .int .i64 1, .int .u8 0, .int .u32 0, .int .u8 0, .int .i64 0, .int .u8 0, .int .u32 0, .slice (some ⟨V.heap.size, 0, none⟩) 1 1]) rfl rfl ht info_O (by simp [Value.oneCell']) ?_
          (try simp only [Act.put, List.setIfInBounds_toArray, List.set_cons_zero, List.set_cons_succ, List.toList_toArray])
          have bx : BoxO (World.setCells XA vC.heap.size 0 [.int .u8 1, .int .u8 1, .int .u32 1, .int .u8 2, .int .i64 1, .int .u8 1, .int .u32 1, .int .u8 3, .int .i64 9, .int .i64 1, .int .u8 0, .int .u32 0, .int .u8 0, .int .i64 0, .int .u8 0, .int .u32 0, .slice (some ⟨V.heap.size, 0, none⟩) 1 1]) vC.heap.size insO (some ⟨V.heap.size, 0, none⟩) 1 1 := boxO_of (World.rangeAt_setCells_same XA vC.heap.size 0 _ ht)
          have hs9 : Below W.heap.size W (World.setCells XA vC.heap.size 0 [.int .u8 1, .int .u8 1, .int .u32 1, .int .u8 2, .int .i64 1, .int .u8 1, .int .u32 1, .int .u8 3, .int .i64 9, .int .i64 1, .int .u8 0, .int .u32 0, .int .u8 0, .int .i64 0, .int .u8 0, .int .u32 0, .slice (some ⟨V.heap.size, 0, none⟩) 1 1]) := sA.trans (below_setCells vC.heap.size W.heap.size hg _ _ _)
          refine hK.out _ _ hs9 (fun hHeld2 => ?_)
          clear hK K
          refine wpAnyH_done (by kernel_rfl) ?_ _
          have md : Made p W (World.setCells XA vC.heap.size 0 [.int .u8 1, .int .u8 1, .int .u32 1, .int .u8 2, .int .i64 1, .int .u8 1, .int .u32 1, .int .u8 3, .int .i64 9, .int .i64 1, .int .u8 0, .int .u32 0, .int .u8 0, .int .i64 0, .int .u8 0, .int .u32 0, .slice (some ⟨V.heap.size, 0, none⟩) 1 1]) (.pointer (some ⟨vC.heap.size, 0, none⟩)) := ⟨⟨vC.heap.size, V.heap.size, rfl, bx, ht.sets 0 _, cell_other (fun k hk => heap_setCells vC.heap.size _ 0 XA k hk) (p := ⟨V.heap.size, 0, none⟩) dif xs, (World.frozen?_of_block (w := XA) (a := ⟨V.heap.size, 0, none⟩) (heap_setCells vC.heap.size _ 0 XA _ dif)).trans fs, dif, hg, hsl⟩, hs9⟩
          clear hHeld hHeld2 bx
          generalize World.setCells _ vC.heap.size 0 _ = X9 at md hs9 ⊢
          go_wp2_with fail
          go_meet
          case rel => exact md
      · go_simp
        refine hK.out _ _ (below_al sS _) (fun hHeld => ?_)
        clear hK K
        have ht := thereO_new XS #[.int .u8 0, .int .u8 0, .int .u32 0, .int .u8 0, .int .i64 0, .int .u8 0, .int .u32 0, .int .u8 0, .int .i64 0, .int .i64 0, .int .u8 0, .int .u32 0, .int .u8 0, .int .i64 0, .int .u8 0, .int .u32 0, .slice none 0 0] rfl 35
        generalize hX : World.alloc XS _ = XA at ht hHeld ⊢
        have bA : Below XS.heap.size XS XA := by rw [← hX]; exact (Below.refl _ _).alloc (Nat.le_refl _) _
        have sA := below_in sS bA
        have hg : W.heap.size ≤ XS.heap.size := Below.size sS
        have dif : V.heap.size ≠ XS.heap.size := Nat.ne_of_lt (World.block_lt_of_cell? _ _ xs)
        replace fs := keepz bA xs fs
        replace xs := keep bA xs
        clear hX
        refine wpAnyH_ready (rs := [0]) (by kernel_rfl) (by simp) ?_
        refine AllReadyH.cons rfl (fun K hK => ?_) (AllReadyH.nil)
        · go_simp
          go_wp2_with (go_at_call 8; refine (h_any _).mono ?_; rintro e vC ⟨rfl, bC⟩)
          have sC := below_in sA bC
          replace fs := keepz bC xs fs
          replace xs := keep bC xs
          replace ht := ht.keep bC
          refine hK.out _ _ sC (fun hHeld => ?_)
          clear hK K
          refine wpAnyH_take (i := 4) (oi := { dst := some 17, op := Op.build 35 #[(0, Operand.const (Value.int IntKind.u8 1)), (1, Operand.tmp 13), (2, Operand.const (Value.int IntKind.i64 1)), (3, Operand.tmp 15), (6, Operand.tmp 16)], type := 35, pos := "outright.go:32", after := #[{ on := 0, ground := Ground.data }, { on := 2, ground := Ground.data }, { on := 3, ground := Ground.data }], guard := none }) (v := ?_) rfl (by kernel_rfl) (by kernel_rfl) (by kernel_rfl) (fun _ _ _ h => h) (Or.inl ⟨by rfl, ?_⟩) hHeld ?_
          rotate_left
          · intro w' hSw
            (try dsimp only at hSw)
            refine run_insert _ w' (V.heap.size) ?_ ?_ ?_ ?_ ?_ <;> rfl
          (try simp only [Act.put, List.setIfInBounds_toArray, List.set_cons_zero, List.set_cons_succ])
          refine wpAnyH_ready (rs := [6]) (by kernel_rfl) (by simp) ?_
          refine AllReadyH.cons rfl (fun K hK => ?_) AllReadyH.nil
          rw [if_pos (by rfl)]
          refine wp_store_mid 35 (.tmp 2) (.tmp 17) rfl XS.heap.size 0 (List.toArray [.int .u8 1, .int .u8 1, .int .u32 1, .int .u8 2, .int .i64 1, .int .u8 1, .int .u32 1, .int .u8 3, .int .i64 9, .int .i64 1, .int .u8 0, .int .u32 0, .int .u8 0, .int .i64 0, .int .u8 0, .int .u32 0, .slice (some ⟨V.heap.size, 0, none⟩) 1 1]) rfl rfl ht info_O (by simp [Value.oneCell']) ?_
          (try simp only [Act.put, List.setIfInBounds_toArray, List.set_cons_zero, List.set_cons_succ, List.toList_toArray])
          have bx : BoxO (World.setCells vC XS.heap.size 0 [.int .u8 1, .int .u8 1, .int .u32 1, .int .u8 2, .int .i64 1, .int .u8 1, .int .u32 1, .int .u8 3, .int .i64 9, .int .i64 1, .int .u8 0, .int .u32 0, .int .u8 0, .int .i64 0, .int .u8 0, .int .u32 0, .slice (some ⟨V.heap.size, 0, none⟩) 1 1]) XS.heap.size insO (some ⟨V.heap.size, 0, none⟩) 1 1 := boxO_of (World.rangeAt_setCells_same vC XS.heap.size 0 _ ht)
          have hs9 : Below W.heap.size W (World.setCells vC XS.heap.size 0 [.int .u8 1, .int .u8 1, .int .u32 1, .int .u8 2, .int .i64 1, .int .u8 1, .int .u32 1, .int .u8 3, .int .i64 9, .int .i64 1, .int .u8 0, .int .u32 0, .int .u8 0, .int .i64 0, .int .u8 0, .int .u32 0, .slice (some ⟨V.heap.size, 0, none⟩) 1 1]) := sC.trans (below_setCells XS.heap.size W.heap.size hg _ _ _)
          refine hK.out _ _ hs9 (fun hHeld2 => ?_)
          clear hK K
          refine wpAnyH_done (by kernel_rfl) ?_ _
          have md : Made p W (World.setCells vC XS.heap.size 0 [.int .u8 1, .int .u8 1, .int .u32 1, .int .u8 2, .int .i64 1, .int .u8 1, .int .u32 1, .int .u8 3, .int .i64 9, .int .i64 1, .int .u8 0, .int .u32 0, .int .u8 0, .int .i64 0, .int .u8 0, .int .u32 0, .slice (some ⟨V.heap.size, 0, none⟩) 1 1]) (.pointer (some ⟨XS.heap.size, 0, none⟩)) := ⟨⟨XS.heap.size, V.heap.size, rfl, bx, ht.sets 0 _, cell_other (fun k hk => heap_setCells XS.heap.size _ 0 vC k hk) (p := ⟨V.heap.size, 0, none⟩) dif xs, (World.frozen?_of_block (w := vC) (a := ⟨V.heap.size, 0, none⟩) (heap_setCells XS.heap.size _ 0 vC _ dif)).trans fs, dif, hg, hsl⟩, hs9⟩
          clear hHeld hHeld2 bx
          generalize World.setCells _ XS.heap.size 0 _ = X9 at md hs9 ⊢
          go_wp2_with fail
          go_meet
          case rel => exact md
    · go_simp
      refine hK.out _ _ (below_al S0 _) (fun hHeld => ?_)
      clear hK K
      have ht := thereO_new V #[.int .u8 0, .int .u8 0, .int .u32 0, .int .u8 0, .int .i64 0, .int .u8 0, .int .u32 0, .int .u8 0, .int .i64 0, .int .i64 0, .int .u8 0, .int .u32 0, .int .u8 0, .int .i64 0, .int .u8 0, .int .u32 0, .slice none 0 0] rfl 35
      generalize hX : World.alloc V _ = XA at ht hHeld ⊢
      have bA : Below V.heap.size V XA := by rw [← hX]; exact (Below.refl _ _).alloc (Nat.le_refl _) _
      have sA := below_in S0 bA
      have hg : W.heap.size ≤ V.heap.size := Below.size S0
      clear hX
      refine wpAnyH_ready (rs := [0, 3]) (by kernel_rfl) (by simp) ?_
      refine AllReadyH.cons rfl (fun K hK => ?_) (AllReadyH.cons rfl (fun K hK => ?_) (AllReadyH.nil))
      · go_simp
        go_wp2_with (go_at_call 8; refine (h_any _).mono ?_; rintro e vC ⟨rfl, bC⟩)
        have sC := below_in sA bC
        replace ht := ht.keep bC
        refine hK.out _ _ sC (fun hHeld => ?_)
        clear hK K
        refine wpAnyH_ready (rs := [3]) (by kernel_rfl) (by simp) ?_
        refine AllReadyH.cons rfl (fun K hK => ?_) (AllReadyH.nil)
        · go_simp
          refine hK.out _ _ (below_al sC _) (fun hHeld => ?_)
          clear hK K
          generalize hX : World.alloc vC _ = XS at hHeld ⊢
          have bS : Below vC.heap.size vC XS := by rw [← hX]; exact (Below.refl _ _).alloc (Nat.le_refl _) _
          have sS := below_in sC bS
          have xs : XS.cell? ⟨vC.heap.size, 0, none⟩ = some (.int .i32 97) := by subst hX; simp [go_sem]
          have fs : XS.frozen? ⟨vC.heap.size, 0, none⟩ = false := by subst hX; simp [go_sem]
          have hsl : W.heap.size ≤ vC.heap.size := Below.size sC
          have dif : vC.heap.size ≠ V.heap.size := Nat.ne_of_gt (there_lt ht)
          replace ht := ht.keep bS
          clear hX
          refine wpAnyH_take (i := 4) (oi := { dst := some 17, op := Op.build 35 #[(0, Operand.const (Value.int IntKind.u8 1)), (1, Operand.tmp 13), (2, Operand.const (Value.int IntKind.i64 1)), (3, Operand.tmp 15), (6, Operand.tmp 16)], type := 35, pos := "outright.go:32", after := #[{ on := 0, ground := Ground.data }, { on := 2, ground := Ground.data }, { on := 3, ground := Ground.data }], guard := none }) (v := ?_) rfl (by kernel_rfl) (by kernel_rfl) (by kernel_rfl) (fun _ _ _ h => h) (Or.inl ⟨by rfl, ?_⟩) hHeld ?_
          rotate_left
          · intro w' hSw
            (try dsimp only at hSw)
            refine run_insert _ w' (vC.heap.size) ?_ ?_ ?_ ?_ ?_ <;> rfl
          (try simp only [Act.put, List.setIfInBounds_toArray, List.set_cons_zero, List.set_cons_succ])
          refine wpAnyH_ready (rs := [6]) (by kernel_rfl) (by simp) ?_
          refine AllReadyH.cons rfl (fun K hK => ?_) AllReadyH.nil
          rw [if_pos (by rfl)]
          refine wp_store_mid 35 (.tmp 2) (.tmp 17) rfl V.heap.size 0 (List.toArray [.int .u8 1, .int .u8 1, .int .u32 1, .int .u8 2, .int .i64 1, .int .u8 1, .int .u32 1, .int .u8 3, .int .i64 9, .int .i64 1, .int .u8 0, .int .u32 0, .int .u8 0, .int .i64 0, .int .u8 0, .int .u32 0, .slice (some ⟨vC.heap.size, 0, none⟩) 1 1]) rfl rfl ht info_O (by simp [Value.oneCell']) ?_
          (try simp only [Act.put, List.setIfInBounds_toArray, List.set_cons_zero, List.set_cons_succ, List.toList_toArray])
          have bx : BoxO (World.setCells XS V.heap.size 0 [.int .u8 1, .int .u8 1, .int .u32 1, .int .u8 2, .int .i64 1, .int .u8 1, .int .u32 1, .int .u8 3, .int .i64 9, .int .i64 1, .int .u8 0, .int .u32 0, .int .u8 0, .int .i64 0, .int .u8 0, .int .u32 0, .slice (some ⟨vC.heap.size, 0, none⟩) 1 1]) V.heap.size insO (some ⟨vC.heap.size, 0, none⟩) 1 1 := boxO_of (World.rangeAt_setCells_same XS V.heap.size 0 _ ht)
          have hs9 : Below W.heap.size W (World.setCells XS V.heap.size 0 [.int .u8 1, .int .u8 1, .int .u32 1, .int .u8 2, .int .i64 1, .int .u8 1, .int .u32 1, .int .u8 3, .int .i64 9, .int .i64 1, .int .u8 0, .int .u32 0, .int .u8 0, .int .i64 0, .int .u8 0, .int .u32 0, .slice (some ⟨vC.heap.size, 0, none⟩) 1 1]) := sS.trans (below_setCells V.heap.size W.heap.size hg _ _ _)
          refine hK.out _ _ hs9 (fun hHeld2 => ?_)
          clear hK K
          refine wpAnyH_done (by kernel_rfl) ?_ _
          have md : Made p W (World.setCells XS V.heap.size 0 [.int .u8 1, .int .u8 1, .int .u32 1, .int .u8 2, .int .i64 1, .int .u8 1, .int .u32 1, .int .u8 3, .int .i64 9, .int .i64 1, .int .u8 0, .int .u32 0, .int .u8 0, .int .i64 0, .int .u8 0, .int .u32 0, .slice (some ⟨vC.heap.size, 0, none⟩) 1 1]) (.pointer (some ⟨V.heap.size, 0, none⟩)) := ⟨⟨V.heap.size, vC.heap.size, rfl, bx, ht.sets 0 _, cell_other (fun k hk => heap_setCells V.heap.size _ 0 XS k hk) (p := ⟨vC.heap.size, 0, none⟩) dif xs, (World.frozen?_of_block (w := XS) (a := ⟨vC.heap.size, 0, none⟩) (heap_setCells V.heap.size _ 0 XS _ dif)).trans fs, dif, hg, hsl⟩, hs9⟩
          clear hHeld hHeld2 bx
          generalize World.setCells _ V.heap.size 0 _ = X9 at md hs9 ⊢
          go_wp2_with fail
          go_meet
          case rel => exact md
      · go_simp
        refine hK.out _ _ (below_al sA _) (fun hHeld => ?_)
        clear hK K
        generalize hX : World.alloc XA _ = XS at hHeld ⊢
        have bS : Below XA.heap.size XA XS := by rw [← hX]; exact (Below.refl _ _).alloc (Nat.le_refl _) _
        have sS := below_in sA bS
        have xs : XS.cell? ⟨XA.heap.size, 0, none⟩ = some (.int .i32 97) := by subst hX; simp [go_sem]
        have fs : XS.frozen? ⟨XA.heap.size, 0, none⟩ = false := by subst hX; simp [go_sem]
        have hsl : W.heap.size ≤ XA.heap.size := Below.size sA
        have dif : XA.heap.size ≠ V.heap.size := Nat.ne_of_gt (there_lt ht)
        replace ht := ht.keep bS
        clear hX
        refine wpAnyH_ready (rs := [0]) (by kernel_rfl) (by simp) ?_
        refine AllReadyH.cons rfl (fun K hK => ?_) (AllReadyH.nil)
        · go_simp
          go_wp2_with (go_at_call 8; refine (h_any _).mono ?_; rintro e vC ⟨rfl, bC⟩)
          have sC := below_in sS bC
          replace fs := keepz bC xs fs
          replace xs := keep bC xs
          replace ht := ht.keep bC
          refine hK.out _ _ sC (fun hHeld => ?_)
          clear hK K
          refine wpAnyH_take (i := 4) (oi := { dst := some 17, op := Op.build 35 #[(0, Operand.const (Value.int IntKind.u8 1)), (1, Operand.tmp 13), (2, Operand.const (Value.int IntKind.i64 1)), (3, Operand.tmp 15), (6, Operand.tmp 16)], type := 35, pos := "outright.go:32", after := #[{ on := 0, ground := Ground.data }, { on := 2, ground := Ground.data }, { on := 3, ground := Ground.data }], guard := none }) (v := ?_) rfl (by kernel_rfl) (by kernel_rfl) (by kernel_rfl) (fun _ _ _ h => h) (Or.inl ⟨by rfl, ?_⟩) hHeld ?_
          rotate_left
          · intro w' hSw
            (try dsimp only at hSw)
            refine run_insert _ w' (XA.heap.size) ?_ ?_ ?_ ?_ ?_ <;> rfl
          (try simp only [Act.put, List.setIfInBounds_toArray, List.set_cons_zero, List.set_cons_succ])
          refine wpAnyH_ready (rs := [6]) (by kernel_rfl) (by simp) ?_
          refine AllReadyH.cons rfl (fun K hK => ?_) AllReadyH.nil
          rw [if_pos (by rfl)]
          refine wp_store_mid 35 (.tmp 2) (.tmp 17) rfl V.heap.size 0 (List.toArray [.int .u8 1, .int .u8 1, .int .u32 1, .int .u8 2, .int .i64 1, .int .u8 1, .int .u32 1, .int .u8 3, .int .i64 9, .int .i64 1, .int .u8 0, .int .u32 0, .int .u8 0, .int .i64 0, .int .u8 0, .int .u32 0, .slice (some ⟨XA.heap.size, 0, none⟩) 1 1]) rfl rfl ht info_O (by simp [Value.oneCell']) ?_
          (try simp only [Act.put, List.setIfInBounds_toArray, List.set_cons_zero, List.set_cons_succ, List.toList_toArray])
          have bx : BoxO (World.setCells vC V.heap.size 0 [.int .u8 1, .int .u8 1, .int .u32 1, .int .u8 2, .int .i64 1, .int .u8 1, .int .u32 1, .int .u8 3, .int .i64 9, .int .i64 1, .int .u8 0, .int .u32 0, .int .u8 0, .int .i64 0, .int .u8 0, .int .u32 0, .slice (some ⟨XA.heap.size, 0, none⟩) 1 1]) V.heap.size insO (some ⟨XA.heap.size, 0, none⟩) 1 1 := boxO_of (World.rangeAt_setCells_same vC V.heap.size 0 _ ht)
          have hs9 : Below W.heap.size W (World.setCells vC V.heap.size 0 [.int .u8 1, .int .u8 1, .int .u32 1, .int .u8 2, .int .i64 1, .int .u8 1, .int .u32 1, .int .u8 3, .int .i64 9, .int .i64 1, .int .u8 0, .int .u32 0, .int .u8 0, .int .i64 0, .int .u8 0, .int .u32 0, .slice (some ⟨XA.heap.size, 0, none⟩) 1 1]) := sC.trans (below_setCells V.heap.size W.heap.size hg _ _ _)
          refine hK.out _ _ hs9 (fun hHeld2 => ?_)
          clear hK K
          refine wpAnyH_done (by kernel_rfl) ?_ _
          have md : Made p W (World.setCells vC V.heap.size 0 [.int .u8 1, .int .u8 1, .int .u32 1, .int .u8 2, .int .i64 1, .int .u8 1, .int .u32 1, .int .u8 3, .int .i64 9, .int .i64 1, .int .u8 0, .int .u32 0, .int .u8 0, .int .i64 0, .int .u8 0, .int .u32 0, .slice (some ⟨XA.heap.size, 0, none⟩) 1 1]) (.pointer (some ⟨V.heap.size, 0, none⟩)) := ⟨⟨V.heap.size, XA.heap.size, rfl, bx, ht.sets 0 _, cell_other (fun k hk => heap_setCells V.heap.size _ 0 vC k hk) (p := ⟨XA.heap.size, 0, none⟩) dif xs, (World.frozen?_of_block (w := vC) (a := ⟨XA.heap.size, 0, none⟩) (heap_setCells V.heap.size _ 0 vC _ dif)).trans fs, dif, hg, hsl⟩, hs9⟩
          clear hHeld hHeld2 bx
          generalize World.setCells _ V.heap.size 0 _ = X9 at md hs9 ⊢
          go_wp2_with fail
          go_meet
          case rel => exact md
  case rest =>
    have hM := hcut.ex
    obtain ⟨g, s, rfl, bx, ht, xs, fs, hd, lg, ls⟩ := hM
    have hB := hcut.be
    have hd' : g ≠ s := fun e => hd e.symm
    clear hcut S0
    go_wp2_with fail
    refine (cut_any _).mono ?_
    rintro e w2 ⟨rfl, b2⟩
    replace bx := bx.keep b2
    replace ht := ht.keep b2
    replace fs := keepz b2 xs fs
    replace xs := keep b2 xs
    replace hB := below_in hB b2
    clear b2
    have n3 : g < w2.heap.size ∧ s < w2.heap.size := ⟨there_lt ht, World.block_lt_of_cell? _ _ xs⟩
    have one : True := trivial
    go_wp2_with (clear one; refine wpList_store_o rfl (.tmp 3) (.tmp 18) rfl w2.heap.size rfl cutO none 0 0 rfl (thereO_new w2 _ rfl _) w2.heap.size (Nat.le_refl _) ?_; intro w3 cx ct b3 h3 z3; replace z3 : w3.heap.size = w2.heap.size + 1 := (by rw [z3]; simp); have c16 := cx.c16; have e16 := ct.at_ 16 (by decide); replace b3 : Below w2.heap.size w2 w3 := ((Below.refl _ _).alloc (Nat.le_refl _) _).trans b3)
    have cB : BoxO ((w3.setCell ⟨w2.heap.size, 16, none⟩ (.slice (some ⟨w2.heap.size + 1, 0, none⟩) 2 2)).alloc (.cells #[.int .i32 97, .int .i32 98] 21)) w2.heap.size cutB (some ⟨w2.heap.size + 1, 0, none⟩) 2 2 :=
      (boxO_of (o := cutB) (set_row cx ct (some ⟨w2.heap.size + 1, 0, none⟩) 2 2 [97, 98]).range).keep ((Below.refl _ _).alloc (Nat.le_refl _) _)
    have rB : Ri ((w3.setCell ⟨w2.heap.size, 16, none⟩ (.slice (some ⟨w2.heap.size + 1, 0, none⟩) 2 2)).alloc (.cells #[.int .i32 97, .int .i32 98] 21)) (some ⟨w2.heap.size + 1, 0, none⟩) 2 [97, 98] := by
      have := lit_i (w3.setCell ⟨w2.heap.size, 16, none⟩ (.slice (some ⟨w2.heap.size + 1, 0, none⟩) 2 2)) 21 [97, 98] (by intro x hx; simp at hx; rcases hx with rfl | rfl <;> omega) (by decide)
      rw [show (w3.setCell ⟨w2.heap.size, 16, none⟩ (.slice (some ⟨w2.heap.size + 1, 0, none⟩) 2 2)).heap.size = w2.heap.size + 1 by simp [z3]] at this
      exact this
    have bB : Below w2.heap.size w2 ((w3.setCell ⟨w2.heap.size, 16, none⟩ (.slice (some ⟨w2.heap.size + 1, 0, none⟩) 2 2)).alloc (.cells #[.int .i32 97, .int .i32 98] 21)) := (b3.setCell (Nat.le_refl _) _).alloc (by simp [z3]) _
    clear c16 e16 h3 z3 cx ct b3
    generalize World.alloc (World.setCell w3 _ _) _ = V3 at cB rB bB ⊢
    generalize hs3 : w2.heap.size + 1 = s3 at cB rB ⊢
    replace bx := bx.keep bB
    replace ht := ht.keep bB
    replace fs := keepz bB xs fs
    replace xs := keep bB xs
    replace hB := below_in hB bB
    clear bB
    generalize w2.heap.size = g3 at *
    have m3 : g < s3 ∧ s < s3 := by omega
    clear hs3
    refine (cut_any _).mono ?_
    rintro e w2 ⟨rfl, b2⟩
    replace bx := bx.keep b2
    replace ht := ht.keep b2
    replace fs := keepz b2 xs fs
    replace xs := keep b2 xs
    replace cB := cB.keep b2
    replace rB := rB.keep b2
    replace hB := below_in hB b2
    clear b2
    have n4 : g < w2.heap.size ∧ s < w2.heap.size := ⟨there_lt ht, World.block_lt_of_cell? _ _ xs⟩
    have one : True := trivial
    go_wp2_with (clear one; refine wpList_store_o rfl (.tmp 4) (.tmp 21) rfl w2.heap.size rfl cutO none 0 0 rfl (thereO_new w2 _ rfl _) w2.heap.size (Nat.le_refl _) ?_; intro w3 cx ct b3 h3 z3; clear z3 h3; have c0 := cx.c0; have e0 := ct.at_ 0 (by decide); have c14 := cx.c14; have e14 := ct.at_ 14 (by decide); have c15 := cx.c15; have e15 := ct.at_ 15 (by decide); replace b3 : Below w2.heap.size w2 w3 := ((Below.refl _ _).alloc (Nat.le_refl _) _).trans b3)
    have cC : BoxO (((w3.setCell ⟨w2.heap.size, 0, none⟩ (.int .u8 3)).setCell ⟨w2.heap.size, 14, none⟩ (.int .u8 16)).setCell ⟨w2.heap.size, 15, none⟩ (.int .u32 0)) w2.heap.size cutC none 0 0 :=
      boxO_of (o := cutC) (set_to (set_kd cx ct 3) (ct.sets 0 [.int .u8 3]) 16 0).range
    have bB : Below w2.heap.size w2 (((w3.setCell ⟨w2.heap.size, 0, none⟩ (.int .u8 3)).setCell ⟨w2.heap.size, 14, none⟩ (.int .u8 16)).setCell ⟨w2.heap.size, 15, none⟩ (.int .u32 0)) := ((b3.setCell (Nat.le_refl _) _).setCell (Nat.le_refl _) _).setCell (Nat.le_refl _) _
    clear c0 e0 c14 e14 c15 e15 cx ct b3
    generalize World.setCell (World.setCell (World.setCell w3 _ _) _ _) _ _ = V3 at cC bB ⊢
    replace bx := bx.keep bB
    replace ht := ht.keep bB
    replace fs := keepz bB xs fs
    replace xs := keep bB xs
    replace cB := cB.keep bB
    replace rB := rB.keep bB
    replace hB := below_in hB bB
    clear bB
    generalize w2.heap.size = g4 at *
    refine (cut_any _).mono ?_
    rintro e w2 ⟨rfl, b2⟩
    replace bx := bx.keep b2
    replace ht := ht.keep b2
    replace fs := keepz b2 xs fs
    replace xs := keep b2 xs
    replace cB := cB.keep b2
    replace rB := rB.keep b2
    replace cC := cC.keep b2
    replace hB := below_in hB b2
    clear b2
    have n5 : g < w2.heap.size ∧ s < w2.heap.size := ⟨there_lt ht, World.block_lt_of_cell? _ _ xs⟩
    have one : True := trivial
    go_wp2_with (clear one; refine wpList_store_o rfl (.tmp 5) (.tmp 25) rfl w2.heap.size rfl cutO none 0 0 rfl (thereO_new w2 _ rfl _) w2.heap.size (Nat.le_refl _) ?_; intro w3 cx ct b3 h3 z3; clear z3 h3; have c4 := cx.c4; have e4 := ct.at_ 4 (by decide); replace b3 : Below w2.heap.size w2 w3 := ((Below.refl _ _).alloc (Nat.le_refl _) _).trans b3)
    have cD : BoxO (w3.setCell ⟨w2.heap.size, 4, none⟩ (.int .i64 16777216)) w2.heap.size cutD none 0 0 :=
      boxO_of (o := cutD) (set_s cx ct 16777216).range
    have bB : Below w2.heap.size w2 (w3.setCell ⟨w2.heap.size, 4, none⟩ (.int .i64 16777216)) := b3.setCell (Nat.le_refl _) _
    clear c4 e4 cx ct b3
    generalize World.setCell w3 _ _ = V3 at cD bB ⊢
    replace bx := bx.keep bB
    replace ht := ht.keep bB
    replace fs := keepz bB xs fs
    replace xs := keep bB xs
    replace cB := cB.keep bB
    replace rB := rB.keep bB
    replace cC := cC.keep bB
    replace hB := below_in hB bB
    clear bB
    generalize w2.heap.size = g5 at *
    refine (oget_of none 0 0 [] (hid rfl) _ (Rd.nil _)).mono ?_
    rintro e w2 ⟨o6, A6, k6, d6, z6, j6, rfl, hg6, hk6, -, b2⟩
    rcases hg6 with ⟨hB6, -, -⟩ | ⟨-, rfl, rfl, rfl⟩
    · exact absurd hB6 (no_nil _)
    obtain rfl : k6 = 0 := hk6.symm
    replace bx := bx.keep b2
    replace ht := ht.keep b2
    replace fs := keepz b2 xs fs
    replace xs := keep b2 xs
    replace cB := cB.keep b2
    replace rB := rB.keep b2
    replace cC := cC.keep b2
    replace cD := cD.keep b2
    replace hB := below_in hB b2
    clear b2 hk6
    have one : True := trivial
    go_wp2_with (clear one; refine wpList_store_o rfl (.tmp 6) (.tmp 29) rfl w2.heap.size rfl zO A6 0 d6 rfl (thereO_new w2 _ rfl _) w2.heap.size (Nat.le_refl _) ?_; intro w3 cx ct b3 h3 z3; clear z3 h3; replace b3 : Below w2.heap.size w2 w3 := ((Below.refl _ _).alloc (Nat.le_refl _) _).trans b3)
    replace bx := bx.keep b3
    replace ht := ht.keep b3
    replace fs := keepz b3 xs fs
    replace xs := keep b3 xs
    replace cB := cB.keep b3
    replace rB := rB.keep b3
    replace cC := cC.keep b3
    replace cD := cD.keep b3
    replace hB := below_in hB b3
    clear cx ct b3
    have s16 : w3.drew.cell? ⟨g, 16, none⟩ = some (.slice (some ⟨s, 0, none⟩) 1 1) := bx.c16
    have S0 := hB
    go_region_held (fun w' => w'.cell? ⟨g, 16, none⟩ = some (.slice (some ⟨s, 0, none⟩) 1 1)) (with_reducible first | assumption | (simp [go_sem, s16, hd, hd', bx.c16]; done) | (show World.cell? _ _ = _; simp [go_sem, c16, hd, hd']))
      ((go_at_call 7; refine (nine_any _).mono ?_; rintro e w7 ⟨rfl, b7⟩; replace b7 : Below w3.heap.size w3 w7 := below_in (Below.refl _ _).drew b7; have bx7 := bx.keep b7; have ht7 := ht.keep b7; have c16 := bx7.c16; have c5 := bx7.c5; have c6 := bx7.c6; have c7 := bx7.c7; have c8 := bx7.c8; have e5 := ht7.at_ 5 (by decide); have e6 := ht7.at_ 6 (by decide); have e7 := ht7.at_ 7 (by decide); have e8 := ht7.at_ 8 (by decide); have fs7 := keepz b7 xs fs; have xs7 := keep b7 xs))
    have hX : ∀ k, k ≠ g → k ≠ s → ((((((w7.setCell ⟨g, 5, none⟩ (.int .u8 1)).setCell ⟨g, 6, none⟩ (.int .u32 1)).setCell ⟨g, 7, none⟩ (.int .u8 2)).setCell ⟨g, 8, none⟩ (.int .i64 9)).setCell ⟨s, 0, none⟩ (.int .i32 (-1)))).heap[k]? = w7.heap[k]? := fun k h1 h2 =>
      (heap_setCells s [.int .i32 (-1)] 0 (World.setCells w7 g 5 [.int .u8 1, .int .u32 1, .int .u8 2, .int .i64 9]) k h2).trans (heap_setCells g [.int .u8 1, .int .u32 1, .int .u8 2, .int .i64 9] 5 w7 k h1)
    have bA : BoxO ((((((w7.setCell ⟨g, 5, none⟩ (.int .u8 1)).setCell ⟨g, 6, none⟩ (.int .u32 1)).setCell ⟨g, 7, none⟩ (.int .u8 2)).setCell ⟨g, 8, none⟩ (.int .i64 9)).setCell ⟨s, 0, none⟩ (.int .i32 (-1)))) g insA (some ⟨s, 0, none⟩) 1 1 :=
      boxO_of (o := insA) ((set_from bx7 ht7 1 1 2 9).other (fun k hk => heap_setCells s [.int .i32 (-1)] 0 _ k hk) hd').range
    have rA : Ri ((((((w7.setCell ⟨g, 5, none⟩ (.int .u8 1)).setCell ⟨g, 6, none⟩ (.int .u32 1)).setCell ⟨g, 7, none⟩ (.int .u8 2)).setCell ⟨g, 8, none⟩ (.int .i64 9)).setCell ⟨s, 0, none⟩ (.int .i32 (-1)))) (some ⟨s, 0, none⟩) 1 [-1] :=
      ri_one (by simp [go_sem, fs7, xs7, hd, hd']) (by intro x hx; simp at hx; subst hx; omega)
    have bX : Below W.heap.size W ((((((w7.setCell ⟨g, 5, none⟩ (.int .u8 1)).setCell ⟨g, 6, none⟩ (.int .u32 1)).setCell ⟨g, 7, none⟩ (.int .u8 2)).setCell ⟨g, 8, none⟩ (.int .i64 9)).setCell ⟨s, 0, none⟩ (.int .i32 (-1)))) :=
      (((((below_in hB b7).setCell lg _).setCell lg _).setCell lg _).setCell lg _).setCell ls _
    replace cB := (cB.keep b7).same (hX g3 (by omega) (by omega))
    replace cC := (cC.keep b7).same (hX g4 (by omega) (by omega))
    replace cD := (cD.keep b7).same (hX g5 (by omega) (by omega))
    replace rB := ri_same (hX s3 (by omega) (by omega)) (rB.keep b7)
    clear hX bx ht fs xs hB s16 S0 b7 bx7 ht7 c16 c5 c6 c7 c8 e5 e6 e7 e8 fs7 xs7
    rename_i hHeld
    clear hHeld
    generalize World.setCell (World.setCell (World.setCell (World.setCell (World.setCell w7 _ _) _ _) _ _) _ _) _ _ = X at bA rA bX cB cC cD rB ⊢
    clear n3 n4 n5 m3 hd hd' lg ls
    have one : True := trivial
    go_wp2_with (first
      | (clear one; refine wpList_store_o rfl (.tmp 9) (.tmp 38) rfl X.heap.size rfl insA (some ⟨s, 0, none⟩) 1 1 rfl (thereO_new X _ rfl _) X.heap.size (Nat.le_refl _) ?_; intro w9 cx ct b9 h9 z9; clear z9 h9; replace b9 : Below X.heap.size X w9 := ((Below.refl _ _).alloc (Nat.le_refl _) _).trans b9; have k0 := q0 _ (below_in bX b9); have k1 := q1 _ (below_in bX b9); have k2 := q2 _ (below_in bX b9); have k3 := q3 _ (below_in bX b9); have c5 := cx.c5; have c6 := cx.c6; have c7 := cx.c7; have c8 := cx.c8; have e5 := ct.at_ 5 (by decide); have e6 := ct.at_ 6 (by decide); have e7 := ct.at_ 7 (by decide); have e8 := ct.at_ 8 (by decide))
      | (have two := one; refine wpList_load_o rfl (.tmp 2) rfl _ rfl bA ?_; clear two))
    have bO : BoxO ((((w9.setCell ⟨X.heap.size, 5, none⟩ (.int .u8 1)).setCell ⟨X.heap.size, 6, none⟩ (.int .u32 1)).setCell ⟨X.heap.size, 7, none⟩ (.int .u8 3)).setCell ⟨X.heap.size, 8, none⟩ (.int .i64 9)) X.heap.size oddO (some ⟨s, 0, none⟩) 1 1 :=
      boxO_of (o := oddO) (set_from cx ct 1 1 3 9).range
    have bV : Below X.heap.size X ((((w9.setCell ⟨X.heap.size, 5, none⟩ (.int .u8 1)).setCell ⟨X.heap.size, 6, none⟩ (.int .u32 1)).setCell ⟨X.heap.size, 7, none⟩ (.int .u8 3)).setCell ⟨X.heap.size, 8, none⟩ (.int .i64 9)) :=
      (((b9.setCell (Nat.le_refl _) _).setCell (Nat.le_refl _) _).setCell (Nat.le_refl _) _).setCell (Nat.le_refl _) _
    clear c5 c6 c7 c8 e5 e6 e7 e8 k0 k1 k2 k3 cx ct b9 q0 q1 q2 q3
    skip
    generalize World.setCell (World.setCell (World.setCell (World.setCell w9 _ _) _ _) _ _) _ _ = V at bO bV ⊢
    replace bA := bA.keep bV
    replace rA := rA.keep bV
    replace cB := cB.keep bV
    replace rB := rB.keep bV
    replace cC := cC.keep bV
    replace cD := cD.keep bV
    replace bX := below_in bX bV
    clear bV
    refine (alive_any _).mono ?_
    rintro e v1 ⟨rfl, cc⟩
    go_wp2_with fail
    refine (size_of 24 2 5 (hid the_sizes.1) _).mono ?_
    rintro e v2 ⟨rfl, rfl⟩
    go_wp2_with fail
    refine (size_of 29 3 64 (hid the_sizes.2.1) _).mono ?_
    rintro e v2 ⟨rfl, rfl⟩
    go_wp2_with fail
    refine (size_of 0 1 65 (hid the_sizes.2.2.1) _).mono ?_
    rintro e v2 ⟨rfl, rfl⟩
    go_wp2_with fail
    refine (size_of 0 4 1 (hid the_sizes.2.2.2.1) _).mono ?_
    rintro e v2 ⟨rfl, rfl⟩
    go_wp2_with fail
    refine (size_of 0 1 0 (hid the_sizes.2.2.2.2) _).mono ?_
    rintro e v2 ⟨rfl, rfl⟩
    have bz := bO.keep cc
    go_wp2_with (refine wpList_load_o rfl (.tmp 9) rfl _ rfl bz ?_)
    refine (ocheck_of 8 oddO (some ⟨s, 0, none⟩) 1 1 (hid rfl) (hid the_checks.1) _ (rA.keep cc)).mono ?_
    rintro e v2 ⟨rfl, b2⟩
    clear bz
    replace cc := below_in cc b2
    clear b2
    have bz := bA.keep cc
    go_wp2_with (refine wpList_load_o rfl (.tmp 2) rfl _ rfl bz ?_)
    refine (ocheck_of 0 insA (some ⟨s, 0, none⟩) 1 1 (hid rfl) (hid the_checks.2.1) _ (rA.keep cc)).mono ?_
    rintro e v2 ⟨rfl, b2⟩
    clear bz
    replace cc := below_in cc b2
    clear b2
    have bz := bA.keep cc
    go_wp2_with (refine wpList_load_o rfl (.tmp 2) rfl _ rfl bz ?_)
    refine (plain_of false insA (some ⟨s, 0, none⟩) 1 1 (hid rfl) (hid the_checks.2.2.1) _ (rA.keep cc)).mono ?_
    rintro e v2 ⟨rfl, b2⟩
    clear bz
    replace cc := below_in cc b2
    clear b2
    go_wp2_with fail
    refine (cut_any _).mono ?_
    rintro e v2 ⟨rfl, b2⟩
    replace cc := below_in cc b2
    clear b2
    go_wp2_with fail
    refine (plain_of true cutO none 0 0 (hid rfl) (hid the_checks.2.2.2.1) _ (Ri.nil _)).mono ?_
    rintro e v2 ⟨rfl, b2⟩
    replace cc := below_in cc b2
    clear b2
    have bz := cB.keep cc
    go_wp2_with (refine wpList_load_o rfl (.tmp 3) rfl _ rfl bz ?_)
    refine (ocheck_of 8 cutB (some ⟨s3, 0, none⟩) 2 2 (hid rfl) (hid the_checks.2.2.2.2.1) _ (rB.keep cc)).mono ?_
    rintro e v2 ⟨rfl, b2⟩
    clear bz
    replace cc := below_in cc b2
    clear b2
    have bz := cC.keep cc
    go_wp2_with (refine wpList_load_o rfl (.tmp 4) rfl _ rfl bz ?_)
    refine (ocheck_of 8 cutC none 0 0 (hid rfl) (hid the_checks.2.2.2.2.2.1) _ (Ri.nil _)).mono ?_
    rintro e v2 ⟨rfl, b2⟩
    clear bz
    replace cc := below_in cc b2
    clear b2
    have bz := cD.keep cc
    go_wp2_with (refine wpList_load_o rfl (.tmp 5) rfl _ rfl bz ?_)
    refine (ocheck_of 8 cutD none 0 0 (hid rfl) (hid the_checks.2.2.2.2.2.2) _ (Ri.nil _)).mono ?_
    rintro e v2 ⟨rfl, b2⟩
    clear bz
    replace cc := below_in cc b2
    clear b2
    go_wp2
    go_ret
    exact ⟨rfl, below_in (below_in hb bX) cc⟩


set_option maxRecDepth 100000 in
theorem onames_lifted (os : Os) (started : os.Started) (H : Type) (enc : TypeId × Value → H) :
    ReturnsInHanded {} Try.checked os 3 .any (Rows.opNamesSpec.pre6 enc Try.prog Try.f3 Rows.opNamesRow.domain false) (Rows.opNamesSpec.post enc Try.prog Try.f3 false true false false) := by
  refine returnsInHanded_of_change (C := Try.checked) own started (by kernel_rfl) Try.func3
    (ChangeSpec.witness6 (enc := enc) (C := Try.checked) false ⟨#[], #[], []⟩ 8 (by kernel_rfl) (by kernel_rfl) (by kernel_rfl) (by kernel_rfl)) ?_
  intro W base args ds gs before hval0 hW _ _
  have hval : ∀ (j : Nat) t v, Try.f3.params[j]? = some t → args[j]? = some v → Value.okWide Try.prog W .any base t v := hval0
  have hW' := hW
  obtain ⟨p, q, hA0, hV, rfl, _, _⟩ := hW
  have hA : DataW.TrodAll enc Try.prog W 0 (fun _ => true) true Try.f3.params.toList args.toList ds p := hA0
  rw [Try.params3] at hA hval
  obtain ⟨rfl, rfl, rfl⟩ := trodAll_none hA
  obtain ⟨rfl, rfl⟩ := trodVars_none hV
  refine (onames_walk  W).mono fun e W' ⟨he, hg⟩ => ?_
  subst he
  exact ⟨_, rfl, law_post laidOut (by kernel_rfl) rfl Try.underlying4 rfl rfl hW' hg⟩

theorem onames_holds : Rows.OpNamesSaid :=
  OpenClaim.holds_of_wide 3 Try.f3 rfl rfl rfl rfl rfl rfl rfl ⟨rfl, rfl, rfl, rfl, rfl⟩ rfl rfl rfl rfl rfl (by kernel_rfl) Try.func3 (by kernel_rfl)
    (of_decide_eq_true (by kernel_rfl)) (by unfold Func.isWrapper; rw [if_neg (of_decide_eq_false (by kernel_rfl))]; exact ⟨rfl, rfl⟩)
    (fun os started H enc _ => onames_lifted os started H enc)
#print axioms onames_holds
end Go.Proofs.Ytbhglgcnoidddaa
