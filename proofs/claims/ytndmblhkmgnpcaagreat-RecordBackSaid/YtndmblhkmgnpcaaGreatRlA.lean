/-
  The laws' helpers of layer 11: h, open, insert.
-/
import Derived.Test.YtndmblhkmgnpcaaGreatRpD
import Derived.Deep.RegionHeld
namespace Go.Proofs.YtndmblhkmgnpcaaGreat
open Go.RowKit
set_option linter.unusedVariables false
set_option linter.unusedSimpArgs false

theorem h_any (w : World) : Calls Tryz.prog 38 #[] w fun e w' => e = .returned (.agg #[.int .u8 1, .int .u32 1, .int .u8 2]) ∧ Below w.heap.size w w' := by
  go_enter Tryz.func38, Tryz.ntmps38
  go_wp2
  go_returns
  exact ⟨rfl, by go_grown⟩
def openR : Rec := ⟨1, 3, byO 1 1 2, 0, zG⟩
theorem han_112 : Han 1 1 2 := ⟨⟨by decide, by decide, by decide, by decide⟩, by decide, by decide⟩
theorem openR_r : Recr openR := ⟨by decide, by decide, by simp [In64, openR], opr_by han_112, in64_0, zG_t⟩
theorem openR_may : mayR openR = true := by decide +kernel
set_option maxRecDepth 100000 in
set_option maxHeartbeats 1600000 in
theorem open_any (w : World) : Calls Tryz.prog 9 #[] w fun e w' => e = .returned (.agg #[.int .u8 openR.kd, .int .i64 openR.us, .int .u8 openR.op.kd, .int .u8 openR.op.l, .int .u32 openR.op.c, .int .u8 openR.op.k, .int .i64 openR.op.s, .int .u8 openR.op.fl, .int .u32 openR.op.fc, .int .u8 openR.op.fk, .int .i64 openR.op.fn, .int .i64 openR.op.fm, .int .u8 openR.op.al, .int .u32 openR.op.ac, .int .u8 openR.op.ak, .int .i64 openR.op.an, .int .u8 openR.op.tl, .int .u32 openR.op.tc, .slice none 0 0, .int .i64 openR.co, .int .i64 openR.gr.u, .int .u8 openR.gr.l, .int .u32 openR.gr.c, .bool openR.gr.ok]) ∧ Below w.heap.size w w' := by
  have th := thereR_new w (#[.int .u8 0, .int .i64 0, .int .u8 0, .int .u8 0, .int .u32 0, .int .u8 0, .int .i64 0, .int .u8 0, .int .u32 0, .int .u8 0, .int .i64 0, .int .i64 0, .int .u8 0, .int .u32 0, .int .u8 0, .int .i64 0, .int .u8 0, .int .u32 0, .slice none 0 0, .int .i64 0, .int .i64 0, .int .u8 0, .int .u32 0, .bool false]) rfl 40
  have hb := below1 w (.cells (#[.int .u8 0, .int .i64 0, .int .u8 0, .int .u8 0, .int .u32 0, .int .u8 0, .int .i64 0, .int .u8 0, .int .u32 0, .int .u8 0, .int .i64 0, .int .i64 0, .int .u8 0, .int .u32 0, .int .u8 0, .int .i64 0, .int .u8 0, .int .u32 0, .slice none 0 0, .int .i64 0, .int .i64 0, .int .u8 0, .int .u32 0, .bool false]) 40)
  go_enter Tryz.func9, Tryz.ntmps9
  go_wp2_with fail
  refine (h_any _).mono ?_
  rintro e w1 ⟨rfl, b1⟩
  replace th := th.keep b1
  replace hb := below_in hb b1
  clear b1
  have one : True := trivial
  go_wp2_with (clear one; refine wpList_store_r rfl (.tmp 0) (.tmp 3) rfl w.heap.size rfl openR none 0 0 rfl th w.heap.size (Nat.le_refl _) ?_; intro w2 x2 t2 b2 h2 z2)
  exact bodyPost_ret (results_r rfl rfl x2) rfl ⟨rfl, hb.trans b2⟩

/-! ### insert -/
def insO (k : Nat) : Opd := { zO with kd := 1, l := 1, c := 1, k := 2, s := 1, fl := 1, fc := 1, fk := 2, fn := 9, fm := (k : Int), row := List.replicate k 0 }
def insR (k : Nat) : Rec := ⟨2, 0, insO k, 0, zG⟩
theorem insO_r {k : Nat} (hk : k ≤ 64) : Opr (insO k) := by
  have z := zO_r
  have hm : In64 (k : Int) := by unfold In64; omega
  exact { z with k0 := by show (0 : Int) ≤ 1; omega, k1 := by show (1 : Int) ≤ 255; omega, han := han_112, s64 := by show In64 1; simp [In64], r32 := fun x hx => by rw [List.eq_of_mem_replicate (show x ∈ List.replicate k 0 from hx)]; omega, spn := ⟨⟨han_112, by show In64 9; simp [In64]⟩, hm⟩ }
theorem run_ins (f : Operand → Value) (w : World) (k s : Nat) (h0 : f (.const (.int .u8 1)) = .int .u8 1) (h1 : f (.tmp 4) = .agg #[.int .u8 1, .int .u32 1, .int .u8 2]) (h2 : f (.const (.int .i64 1)) = .int .i64 1) (h3 : f (.tmp 8) = .agg #[.int .u8 1, .int .u32 1, .int .u8 2, .int .i64 9, .int .i64 (k : Int)]) (h4 : f (.tmp 10) = .slice (some ⟨s, 0, none⟩) k k) :
    Sem.run Tryz.prog (execOp f { dst := some 11, op := Op.build 33 #[(0, Operand.const (Value.int IntKind.u8 1)), (1, Operand.tmp 4), (2, Operand.const (Value.int IntKind.i64 1)), (3, Operand.tmp 8), (6, Operand.tmp 10)], type := 33, pos := "outright.go:17", after := #[{ on := 0, ground := Ground.data }, { on := 4, ground := Ground.data }, { on := 6, ground := Ground.data }], guard := none }) w = .ok (.value (.agg #[.int .u8 (insO k).kd, .int .u8 (insO k).l, .int .u32 (insO k).c, .int .u8 (insO k).k, .int .i64 (insO k).s, .int .u8 (insO k).fl, .int .u32 (insO k).fc, .int .u8 (insO k).fk, .int .i64 (insO k).fn, .int .i64 (insO k).fm, .int .u8 (insO k).al, .int .u32 (insO k).ac, .int .u8 (insO k).ak, .int .i64 (insO k).an, .int .u8 (insO k).tl, .int .u32 (insO k).tc, .slice (some ⟨s, 0, none⟩) k k])) w := by
  simp only [execOp, List.map_toArray, List.map_cons, List.map_nil, h0, h1, h2, h3, h4]
  go_simp
  exact ⟨rfl, rfl, rfl, rfl, rfl, rfl, rfl, rfl, rfl, rfl, rfl, rfl, rfl, rfl, rfl, rfl⟩
structure BxF (W V : World) (g : Nat) : Prop where
  th : ThereO V g
  ge : W.heap.size ≤ g
  lt : g < V.heap.size
theorem BxF.keep {W V V' : World} {g : Nat} (h : BxF W V g) (hb : Below V.heap.size V V') : BxF W V' g := ⟨h.th.keep hb, h.ge, Nat.lt_of_lt_of_le h.lt hb.size⟩
theorem bxf_new {W V : World} (s : Below W.heap.size W V) : BxF W (V.alloc (.cells (#[.int .u8 0, .int .u8 0, .int .u32 0, .int .u8 0, .int .i64 0, .int .u8 0, .int .u32 0, .int .u8 0, .int .i64 0, .int .i64 0, .int .u8 0, .int .u32 0, .int .u8 0, .int .i64 0, .int .u8 0, .int .u32 0, .slice none 0 0]) 33)) V.heap.size := ⟨thereO_new V _ rfl _, s.size, by rw [size1]; omega⟩
structure RwF (W : World) (k : Nat) (V : World) (g : Nat) : Prop where
  ow : OwnI V W.heap.size 21 (some ⟨g, 0, none⟩) k (List.replicate k 0)
  ge : W.heap.size ≤ g
  lt : g < V.heap.size
theorem RwF.keep {W : World} {k : Nat} {V V' : World} {g : Nat} (h : RwF W k V g) (hb : Below V.heap.size V V') : RwF W k V' g := ⟨h.ow.keep hb, h.ge, Nat.lt_of_lt_of_le h.lt hb.size⟩
theorem rwf_new {W V : World} {k : Nat} (s : Below W.heap.size W V) (hk : k ≤ 64) : RwF W k (V.alloc (.cells (madeCells #[Value.int .i32 0] k) 21)) V.heap.size := by
  have e : (madeCells #[Value.int .i32 0] k) = (i32s (List.replicate k 0)).toArray := by
    apply Array.ext'
    rw [toList_madeCells_one]
    simp [i32s]
  have h := World.ownsRow_lit (base := W.heap.size) (e := 21) (size := 1) V (i32s (List.replicate k 0)).toArray k s.size (by unfold maxLen; omega) (by simp [i32s])
  refine ⟨⟨?_, fun x hx => by rw [List.eq_of_mem_replicate hx]; omega⟩, s.size, by rw [size1]; omega⟩
  rw [e]
  unfold OwnV
  rw [i32s_length, List.length_replicate]
  simpa using h
theorem ownI_other2 {W W' : World} {b : Nat} (hh : ∀ k, k ≠ b → W'.heap[k]? = W.heap[k]?) {base g : Nat} (hne : b ≠ g) {e : TypeId} {c : Nat} {l : List Int} (h : OwnI W base e (some ⟨g, 0, none⟩) c l) : OwnI W' base e (some ⟨g, 0, none⟩) c l := by
  obtain ⟨⟨h0, h1⟩, h2⟩ := h
  refine ⟨⟨h0, ?_⟩, h2⟩
  rcases h1 with ⟨h, _⟩ | ⟨g', cap, cur, hv, hbg, hg, r⟩
  · cases h
  · have e' : g = g' := by simpa using congrArg (fun v => match v with | .slice (some a) _ _ => a.block | _ => 0) hv
    subst e'
    exact .inr ⟨g, cap, cur, hv, hbg, by rw [hh g (Ne.symm hne)]; exact hg, r⟩
def InsF (W : World) (k : Nat) (V : World) (gB gR : Nat) : Prop := Below W.heap.size W V ∧ BoxO V gB (insO k) (some ⟨gR, 0, none⟩) k k ∧ OwnI V W.heap.size 21 (some ⟨gR, 0, none⟩) k (List.replicate k 0) ∧ W.heap.size ≤ gB
theorem ins_fin {W V : World} {k gB gR : Nat} (B : BxF W V gB) (Rw : RwF W k V gR) (hne : gB ≠ gR) (s : Below W.heap.size W V) : InsF W k (World.setCells V gB 0 ([.int .u8 (insO k).kd, .int .u8 (insO k).l, .int .u32 (insO k).c, .int .u8 (insO k).k, .int .i64 (insO k).s, .int .u8 (insO k).fl, .int .u32 (insO k).fc, .int .u8 (insO k).fk, .int .i64 (insO k).fn, .int .i64 (insO k).fm, .int .u8 (insO k).al, .int .u32 (insO k).ac, .int .u8 (insO k).ak, .int .i64 (insO k).an, .int .u8 (insO k).tl, .int .u32 (insO k).tc, .slice (some ⟨gR, 0, none⟩) k k])) gB gR :=
  ⟨s.trans (below_setCells gB W.heap.size B.ge _ _ _), boxO_of (World.rangeAt_setCells_same V gB 0 _ B.th), ownI_other2 (fun k' hk => heap_setCells gB _ 0 V k' hk) hne Rw.ow, B.ge⟩

set_option maxRecDepth 100000 in
set_option maxHeartbeats 12800000 in
theorem insert_of (k : Nat) (z : Int) (hz : z = (k : Int)) (hk : k ≤ 64) (w : World) :
    Calls Tryz.prog 11 #[.int .i64 z] w fun e w' => ∃ A, e = .returned (.agg #[.int .u8 (insR k).kd, .int .i64 (insR k).us, .int .u8 (insR k).op.kd, .int .u8 (insR k).op.l, .int .u32 (insR k).op.c, .int .u8 (insR k).op.k, .int .i64 (insR k).op.s, .int .u8 (insR k).op.fl, .int .u32 (insR k).op.fc, .int .u8 (insR k).op.fk, .int .i64 (insR k).op.fn, .int .i64 (insR k).op.fm, .int .u8 (insR k).op.al, .int .u32 (insR k).op.ac, .int .u8 (insR k).op.ak, .int .i64 (insR k).op.an, .int .u8 (insR k).op.tl, .int .u32 (insR k).op.tc, .slice A k k, .int .i64 (insR k).co, .int .i64 (insR k).gr.u, .int .u8 (insR k).gr.l, .int .u32 (insR k).gr.c, .bool (insR k).gr.ok]) ∧ OwnI w' w.heap.size 21 A k (List.replicate k 0) ∧ Below w.heap.size w w' := by
  subst hz
  obtain ⟨i0, hi0, hz0, hz1, hz2⟩ := info_parts info_i32
  have hmk := fun W : World => run_make (P := Tryz.prog) W 31 21 i0 _ Tryz.underlying31 hi0 hz0 .i64 .i64 (k : Int) (k : Int) (by omega) (by omega) (by rw [hz2]; omega) (by omega)
  have th := thereR_new w (#[.int .u8 0, .int .i64 0, .int .u8 0, .int .u8 0, .int .u32 0, .int .u8 0, .int .i64 0, .int .u8 0, .int .u32 0, .int .u8 0, .int .i64 0, .int .i64 0, .int .u8 0, .int .u32 0, .int .u8 0, .int .i64 0, .int .u8 0, .int .u32 0, .slice none 0 0, .int .i64 0, .int .i64 0, .int .u8 0, .int .u32 0, .bool false]) rfl 40
  have hb := below1 w (.cells (#[.int .u8 0, .int .i64 0, .int .u8 0, .int .u8 0, .int .u32 0, .int .u8 0, .int .i64 0, .int .u8 0, .int .u32 0, .int .u8 0, .int .i64 0, .int .i64 0, .int .u8 0, .int .u32 0, .int .u8 0, .int .i64 0, .int .u8 0, .int .u32 0, .slice none 0 0, .int .i64 0, .int .i64 0, .int .u8 0, .int .u32 0, .bool false]) 40)
  go_enter Tryz.func11, Tryz.ntmps11
  go_wp2_with fail
  generalize World.alloc w _ = W at th hb ⊢
  have s : Below W.heap.size W W.drew := (Below.refl _ _).drew
  refine wp_region_held_drew (S := fun w' => Below W.heap.size W w') (by kernel_rfl) s (fun hHeld => ?_)
  generalize W.drew = V0 at *
  refine wpAnyH_take (i := 3) (oi := { dst := some 7, op := Op.move (Operand.tmp 0), type := 3, pos := "outright.go:17", after := #[], guard := none }) (v := ?_) rfl (by kernel_rfl) (by kernel_rfl) (by kernel_rfl) (fun _ _ _ h => h) (Or.inl ⟨by rfl, ?_⟩) hHeld ?_
  rotate_left
  · intro w9 hSw
    (try dsimp only at hSw)
    go_simp <;> with_reducible rfl
  (try simp only [Act.put, List.setIfInBounds_toArray, List.set_cons_zero, List.set_cons_succ])
  refine wpAnyH_take (i := 5) (oi := { dst := some 9, op := Op.move (Operand.tmp 0), type := 3, pos := "outright.go:17", after := #[], guard := none }) (v := ?_) rfl (by kernel_rfl) (by kernel_rfl) (by kernel_rfl) (fun _ _ _ h => h) (Or.inl ⟨by rfl, ?_⟩) hHeld ?_
  rotate_left
  · intro w9 hSw
    (try dsimp only at hSw)
    go_simp <;> with_reducible rfl
  (try simp only [Act.put, List.setIfInBounds_toArray, List.set_cons_zero, List.set_cons_succ])
  refine wpAnyH_ready (rs := [0, 6, 8]) (by kernel_rfl) (by simp) ?_
  refine AllReadyH.cons rfl (fun K hK => ?_) (AllReadyH.cons rfl (fun K hK => ?_) (AllReadyH.cons rfl (fun K hK => ?_) AllReadyH.nil))
  · go_simp
    go_wp2_with (go_at_call 38; refine (h_any _).mono ?_; rintro e V1 ⟨rfl, b⟩)
    replace s := below_in s b
    clear b
    refine hK.out _ _ s (fun hHeld => ?_)
    clear hK K
    refine wpAnyH_ready (rs := [1, 6, 8]) (by kernel_rfl) (by simp) ?_
    refine AllReadyH.cons rfl (fun K hK => ?_) (AllReadyH.cons rfl (fun K hK => ?_) (AllReadyH.cons rfl (fun K hK => ?_) AllReadyH.nil))
    · go_simp
      go_wp2_with (go_at_call 38; refine (h_any _).mono ?_; rintro e V2 ⟨rfl, b⟩)
      replace s := below_in s b
      clear b
      refine hK.out _ _ s (fun hHeld => ?_)
      clear hK K
      refine wpAnyH_take (i := 2) (oi := { dst := some 6, op := Op.build 28 #[(0, Operand.tmp 5), (1, Operand.const (Value.int IntKind.i64 9))], type := 28, pos := "outright.go:17", after := #[{ on := 1, ground := Ground.data }], guard := none }) (v := ?_) rfl (by kernel_rfl) (by kernel_rfl) (by kernel_rfl) (fun _ _ _ h => h) (Or.inl ⟨by rfl, ?_⟩) hHeld ?_
      rotate_left
      · intro w9 hSw
        (try dsimp only at hSw)
        go_simp <;> with_reducible rfl
      (try simp only [Act.put, List.setIfInBounds_toArray, List.set_cons_zero, List.set_cons_succ])
      refine wpAnyH_take (i := 4) (oi := { dst := some 8, op := Op.build 30 #[(0, Operand.tmp 6), (1, Operand.tmp 7)], type := 30, pos := "outright.go:17", after := #[{ on := 2, ground := Ground.data }, { on := 3, ground := Ground.data }], guard := none }) (v := ?_) rfl (by kernel_rfl) (by kernel_rfl) (by kernel_rfl) (fun _ _ _ h => h) (Or.inl ⟨by rfl, ?_⟩) hHeld ?_
      rotate_left
      · intro w9 hSw
        (try dsimp only at hSw)
        go_simp <;> with_reducible rfl
      (try simp only [Act.put, List.setIfInBounds_toArray, List.set_cons_zero, List.set_cons_succ])
      refine wpAnyH_ready (rs := [6, 8]) (by kernel_rfl) (by simp) ?_
      refine AllReadyH.cons rfl (fun K hK => ?_) (AllReadyH.cons rfl (fun K hK => ?_) AllReadyH.nil)
      · go_simp
        go_wp2
        have b := below1 V2 (.cells (madeCells #[Value.int .i32 0] k) 21)
        obtain ⟨gR, hgR, Rw⟩ : ∃ g, V2.heap.size = g ∧ RwF W k (V2.alloc (.cells (madeCells #[Value.int .i32 0] k) 21)) g := ⟨_, rfl, rwf_new s hk⟩
        replace s := below_in s b
        clear b
        rw [hgR]
        generalize World.alloc V2 _ = V3 at s Rw ⊢
        clear hgR
        refine hK.out _ _ s (fun hHeld => ?_)
        clear hK K
        refine wpAnyH_take (i := 7) (oi := { dst := some 11, op := Op.build 33 #[(0, Operand.const (Value.int IntKind.u8 1)), (1, Operand.tmp 4), (2, Operand.const (Value.int IntKind.i64 1)), (3, Operand.tmp 8), (6, Operand.tmp 10)], type := 33, pos := "outright.go:17", after := #[{ on := 0, ground := Ground.data }, { on := 4, ground := Ground.data }, { on := 6, ground := Ground.data }], guard := none }) (v := ?_) rfl (by kernel_rfl) (by kernel_rfl) (by kernel_rfl) (fun _ _ _ h => h) (Or.inl ⟨by rfl, ?_⟩) hHeld ?_
        rotate_left
        · intro w9 hSw
          (try dsimp only at hSw)
          refine run_ins _ w9 k gR ?_ ?_ ?_ ?_ ?_ <;> rfl
        (try simp only [Act.put, List.setIfInBounds_toArray, List.set_cons_zero, List.set_cons_succ])
        refine wpAnyH_ready (rs := [8]) (by kernel_rfl) (by simp) ?_
        refine AllReadyH.cons rfl (fun K hK => ?_) AllReadyH.nil
        · go_simp
          go_wp2
          have b := below1 V3 (.cells (#[.int .u8 0, .int .u8 0, .int .u32 0, .int .u8 0, .int .i64 0, .int .u8 0, .int .u32 0, .int .u8 0, .int .i64 0, .int .i64 0, .int .u8 0, .int .u32 0, .int .u8 0, .int .i64 0, .int .u8 0, .int .u32 0, .slice none 0 0]) 33)
          obtain ⟨gB, hgB, B⟩ : ∃ g, V3.heap.size = g ∧ BxF W (V3.alloc (.cells (#[.int .u8 0, .int .u8 0, .int .u32 0, .int .u8 0, .int .i64 0, .int .u8 0, .int .u32 0, .int .u8 0, .int .i64 0, .int .i64 0, .int .u8 0, .int .u32 0, .int .u8 0, .int .i64 0, .int .u8 0, .int .u32 0, .slice none 0 0]) 33)) g := ⟨_, rfl, bxf_new s⟩
          have hne : gB ≠ gR := by have := Rw.lt; omega
          replace Rw := Rw.keep b
          replace s := below_in s b
          clear b
          rw [hgB]
          generalize World.alloc V3 _ = V4 at s B Rw ⊢
          clear hgB
          refine hK.out _ _ s (fun hHeld => ?_)
          clear hK K
          refine wpAnyH_ready (rs := [9]) (by kernel_rfl) (by simp) ?_
          refine AllReadyH.cons rfl (fun K hK => ?_) AllReadyH.nil
          rw [if_pos (by rfl)]
          refine wp_store_mid 33 (.tmp 3) (.tmp 11) rfl gB 0 (#[.int .u8 (insO k).kd, .int .u8 (insO k).l, .int .u32 (insO k).c, .int .u8 (insO k).k, .int .i64 (insO k).s, .int .u8 (insO k).fl, .int .u32 (insO k).fc, .int .u8 (insO k).fk, .int .i64 (insO k).fn, .int .i64 (insO k).fm, .int .u8 (insO k).al, .int .u32 (insO k).ac, .int .u8 (insO k).ak, .int .i64 (insO k).an, .int .u8 (insO k).tl, .int .u32 (insO k).tc, .slice (some ⟨gR, 0, none⟩) k k]) rfl rfl B.th info_O (by simp [Value.oneCell']) ?_
          (try simp only [Act.put, List.setIfInBounds_toArray, List.set_cons_zero, List.set_cons_succ])
          have F := ins_fin B Rw hne s
          generalize World.setCells _ gB 0 _ = V9 at F ⊢
          refine hK.out _ _ F.1 (fun hHeld => ?_)
          clear hK K
          refine wpAnyH_done (by kernel_rfl) ?_ _
          clear hHeld
          obtain ⟨f1, f2, f3, f4⟩ := F
          have th9 := th.keep f1
          have hltW := th.lt
          have one : True := trivial
          go_wp2_with (first | (clear one; refine wpList_load_o rfl (.tmp 3) rfl gB rfl f2 ?_) | (refine wpList_store_r rfl (.tmp 2) (.tmp 13) rfl w.heap.size rfl (insR k) (some ⟨gR, 0, none⟩) k k rfl th9 w.heap.size (Nat.le_refl _) ?_; intro w9 x9 t9 b9 h9 z9))
          exact bodyPost_ret (results_r rfl rfl x9) rfl ⟨_, rfl, (f3.other h9 (by omega)).base (by omega), (below_in hb f1).trans b9⟩
      · go_simp
        go_wp2
        have b := below1 V2 (.cells (#[.int .u8 0, .int .u8 0, .int .u32 0, .int .u8 0, .int .i64 0, .int .u8 0, .int .u32 0, .int .u8 0, .int .i64 0, .int .i64 0, .int .u8 0, .int .u32 0, .int .u8 0, .int .i64 0, .int .u8 0, .int .u32 0, .slice none 0 0]) 33)
        obtain ⟨gB, hgB, B⟩ : ∃ g, V2.heap.size = g ∧ BxF W (V2.alloc (.cells (#[.int .u8 0, .int .u8 0, .int .u32 0, .int .u8 0, .int .i64 0, .int .u8 0, .int .u32 0, .int .u8 0, .int .i64 0, .int .i64 0, .int .u8 0, .int .u32 0, .int .u8 0, .int .i64 0, .int .u8 0, .int .u32 0, .slice none 0 0]) 33)) g := ⟨_, rfl, bxf_new s⟩
        replace s := below_in s b
        clear b
        rw [hgB]
        generalize World.alloc V2 _ = V5 at s B ⊢
        clear hgB
        refine hK.out _ _ s (fun hHeld => ?_)
        clear hK K
        refine wpAnyH_ready (rs := [6]) (by kernel_rfl) (by simp) ?_
        refine AllReadyH.cons rfl (fun K hK => ?_) AllReadyH.nil
        · go_simp
          go_wp2
          have b := below1 V5 (.cells (madeCells #[Value.int .i32 0] k) 21)
          obtain ⟨gR, hgR, Rw⟩ : ∃ g, V5.heap.size = g ∧ RwF W k (V5.alloc (.cells (madeCells #[Value.int .i32 0] k) 21)) g := ⟨_, rfl, rwf_new s hk⟩
          have hne : gB ≠ gR := by have := B.lt; omega
          replace B := B.keep b
          replace s := below_in s b
          clear b
          rw [hgR]
          generalize World.alloc V5 _ = V6 at s Rw B ⊢
          clear hgR
          refine hK.out _ _ s (fun hHeld => ?_)
          clear hK K
          refine wpAnyH_take (i := 7) (oi := { dst := some 11, op := Op.build 33 #[(0, Operand.const (Value.int IntKind.u8 1)), (1, Operand.tmp 4), (2, Operand.const (Value.int IntKind.i64 1)), (3, Operand.tmp 8), (6, Operand.tmp 10)], type := 33, pos := "outright.go:17", after := #[{ on := 0, ground := Ground.data }, { on := 4, ground := Ground.data }, { on := 6, ground := Ground.data }], guard := none }) (v := ?_) rfl (by kernel_rfl) (by kernel_rfl) (by kernel_rfl) (fun _ _ _ h => h) (Or.inl ⟨by rfl, ?_⟩) hHeld ?_
          rotate_left
          · intro w9 hSw
            (try dsimp only at hSw)
            refine run_ins _ w9 k gR ?_ ?_ ?_ ?_ ?_ <;> rfl
          (try simp only [Act.put, List.setIfInBounds_toArray, List.set_cons_zero, List.set_cons_succ])
          refine wpAnyH_ready (rs := [9]) (by kernel_rfl) (by simp) ?_
          refine AllReadyH.cons rfl (fun K hK => ?_) AllReadyH.nil
          rw [if_pos (by rfl)]
          refine wp_store_mid 33 (.tmp 3) (.tmp 11) rfl gB 0 (#[.int .u8 (insO k).kd, .int .u8 (insO k).l, .int .u32 (insO k).c, .int .u8 (insO k).k, .int .i64 (insO k).s, .int .u8 (insO k).fl, .int .u32 (insO k).fc, .int .u8 (insO k).fk, .int .i64 (insO k).fn, .int .i64 (insO k).fm, .int .u8 (insO k).al, .int .u32 (insO k).ac, .int .u8 (insO k).ak, .int .i64 (insO k).an, .int .u8 (insO k).tl, .int .u32 (insO k).tc, .slice (some ⟨gR, 0, none⟩) k k]) rfl rfl B.th info_O (by simp [Value.oneCell']) ?_
          (try simp only [Act.put, List.setIfInBounds_toArray, List.set_cons_zero, List.set_cons_succ])
          have F := ins_fin B Rw hne s
          generalize World.setCells _ gB 0 _ = V9 at F ⊢
          refine hK.out _ _ F.1 (fun hHeld => ?_)
          clear hK K
          refine wpAnyH_done (by kernel_rfl) ?_ _
          clear hHeld
          obtain ⟨f1, f2, f3, f4⟩ := F
          have th9 := th.keep f1
          have hltW := th.lt
          have one : True := trivial
          go_wp2_with (first | (clear one; refine wpList_load_o rfl (.tmp 3) rfl gB rfl f2 ?_) | (refine wpList_store_r rfl (.tmp 2) (.tmp 13) rfl w.heap.size rfl (insR k) (some ⟨gR, 0, none⟩) k k rfl th9 w.heap.size (Nat.le_refl _) ?_; intro w9 x9 t9 b9 h9 z9))
          exact bodyPost_ret (results_r rfl rfl x9) rfl ⟨_, rfl, (f3.other h9 (by omega)).base (by omega), (below_in hb f1).trans b9⟩
    · go_simp
      go_wp2
      have b := below1 V1 (.cells (madeCells #[Value.int .i32 0] k) 21)
      obtain ⟨gR, hgR, Rw⟩ : ∃ g, V1.heap.size = g ∧ RwF W k (V1.alloc (.cells (madeCells #[Value.int .i32 0] k) 21)) g := ⟨_, rfl, rwf_new s hk⟩
      replace s := below_in s b
      clear b
      rw [hgR]
      generalize World.alloc V1 _ = V7 at s Rw ⊢
      clear hgR
      refine hK.out _ _ s (fun hHeld => ?_)
      clear hK K
      refine wpAnyH_ready (rs := [1, 8]) (by kernel_rfl) (by simp) ?_
      refine AllReadyH.cons rfl (fun K hK => ?_) (AllReadyH.cons rfl (fun K hK => ?_) AllReadyH.nil)
      · go_simp
        go_wp2_with (go_at_call 38; refine (h_any _).mono ?_; rintro e V8 ⟨rfl, b⟩)
        replace s := below_in s b
        replace Rw := Rw.keep b
        clear b
        refine hK.out _ _ s (fun hHeld => ?_)
        clear hK K
        refine wpAnyH_take (i := 2) (oi := { dst := some 6, op := Op.build 28 #[(0, Operand.tmp 5), (1, Operand.const (Value.int IntKind.i64 9))], type := 28, pos := "outright.go:17", after := #[{ on := 1, ground := Ground.data }], guard := none }) (v := ?_) rfl (by kernel_rfl) (by kernel_rfl) (by kernel_rfl) (fun _ _ _ h => h) (Or.inl ⟨by rfl, ?_⟩) hHeld ?_
        rotate_left
        · intro w9 hSw
          (try dsimp only at hSw)
          go_simp <;> with_reducible rfl
        (try simp only [Act.put, List.setIfInBounds_toArray, List.set_cons_zero, List.set_cons_succ])
        refine wpAnyH_take (i := 4) (oi := { dst := some 8, op := Op.build 30 #[(0, Operand.tmp 6), (1, Operand.tmp 7)], type := 30, pos := "outright.go:17", after := #[{ on := 2, ground := Ground.data }, { on := 3, ground := Ground.data }], guard := none }) (v := ?_) rfl (by kernel_rfl) (by kernel_rfl) (by kernel_rfl) (fun _ _ _ h => h) (Or.inl ⟨by rfl, ?_⟩) hHeld ?_
        rotate_left
        · intro w9 hSw
          (try dsimp only at hSw)
          go_simp <;> with_reducible rfl
        (try simp only [Act.put, List.setIfInBounds_toArray, List.set_cons_zero, List.set_cons_succ])
        refine wpAnyH_take (i := 7) (oi := { dst := some 11, op := Op.build 33 #[(0, Operand.const (Value.int IntKind.u8 1)), (1, Operand.tmp 4), (2, Operand.const (Value.int IntKind.i64 1)), (3, Operand.tmp 8), (6, Operand.tmp 10)], type := 33, pos := "outright.go:17", after := #[{ on := 0, ground := Ground.data }, { on := 4, ground := Ground.data }, { on := 6, ground := Ground.data }], guard := none }) (v := ?_) rfl (by kernel_rfl) (by kernel_rfl) (by kernel_rfl) (fun _ _ _ h => h) (Or.inl ⟨by rfl, ?_⟩) hHeld ?_
        rotate_left
        · intro w9 hSw
          (try dsimp only at hSw)
          refine run_ins _ w9 k gR ?_ ?_ ?_ ?_ ?_ <;> rfl
        (try simp only [Act.put, List.setIfInBounds_toArray, List.set_cons_zero, List.set_cons_succ])
        refine wpAnyH_ready (rs := [8]) (by kernel_rfl) (by simp) ?_
        refine AllReadyH.cons rfl (fun K hK => ?_) AllReadyH.nil
        · go_simp
          go_wp2
          have b := below1 V8 (.cells (#[.int .u8 0, .int .u8 0, .int .u32 0, .int .u8 0, .int .i64 0, .int .u8 0, .int .u32 0, .int .u8 0, .int .i64 0, .int .i64 0, .int .u8 0, .int .u32 0, .int .u8 0, .int .i64 0, .int .u8 0, .int .u32 0, .slice none 0 0]) 33)
          obtain ⟨gB, hgB, B⟩ : ∃ g, V8.heap.size = g ∧ BxF W (V8.alloc (.cells (#[.int .u8 0, .int .u8 0, .int .u32 0, .int .u8 0, .int .i64 0, .int .u8 0, .int .u32 0, .int .u8 0, .int .i64 0, .int .i64 0, .int .u8 0, .int .u32 0, .int .u8 0, .int .i64 0, .int .u8 0, .int .u32 0, .slice none 0 0]) 33)) g := ⟨_, rfl, bxf_new s⟩
          have hne : gB ≠ gR := by have := Rw.lt; omega
          replace Rw := Rw.keep b
          replace s := below_in s b
          clear b
          rw [hgB]
          generalize World.alloc V8 _ = V9 at s B Rw ⊢
          clear hgB
          refine hK.out _ _ s (fun hHeld => ?_)
          clear hK K
          refine wpAnyH_ready (rs := [9]) (by kernel_rfl) (by simp) ?_
          refine AllReadyH.cons rfl (fun K hK => ?_) AllReadyH.nil
          rw [if_pos (by rfl)]
          refine wp_store_mid 33 (.tmp 3) (.tmp 11) rfl gB 0 (#[.int .u8 (insO k).kd, .int .u8 (insO k).l, .int .u32 (insO k).c, .int .u8 (insO k).k, .int .i64 (insO k).s, .int .u8 (insO k).fl, .int .u32 (insO k).fc, .int .u8 (insO k).fk, .int .i64 (insO k).fn, .int .i64 (insO k).fm, .int .u8 (insO k).al, .int .u32 (insO k).ac, .int .u8 (insO k).ak, .int .i64 (insO k).an, .int .u8 (insO k).tl, .int .u32 (insO k).tc, .slice (some ⟨gR, 0, none⟩) k k]) rfl rfl B.th info_O (by simp [Value.oneCell']) ?_
          (try simp only [Act.put, List.setIfInBounds_toArray, List.set_cons_zero, List.set_cons_succ])
          have F := ins_fin B Rw hne s
          generalize World.setCells _ gB 0 _ = V9 at F ⊢
          refine hK.out _ _ F.1 (fun hHeld => ?_)
          clear hK K
          refine wpAnyH_done (by kernel_rfl) ?_ _
          clear hHeld
          obtain ⟨f1, f2, f3, f4⟩ := F
          have th9 := th.keep f1
          have hltW := th.lt
          have one : True := trivial
          go_wp2_with (first | (clear one; refine wpList_load_o rfl (.tmp 3) rfl gB rfl f2 ?_) | (refine wpList_store_r rfl (.tmp 2) (.tmp 13) rfl w.heap.size rfl (insR k) (some ⟨gR, 0, none⟩) k k rfl th9 w.heap.size (Nat.le_refl _) ?_; intro w9 x9 t9 b9 h9 z9))
          exact bodyPost_ret (results_r rfl rfl x9) rfl ⟨_, rfl, (f3.other h9 (by omega)).base (by omega), (below_in hb f1).trans b9⟩
      · go_simp
        go_wp2
        have b := below1 V7 (.cells (#[.int .u8 0, .int .u8 0, .int .u32 0, .int .u8 0, .int .i64 0, .int .u8 0, .int .u32 0, .int .u8 0, .int .i64 0, .int .i64 0, .int .u8 0, .int .u32 0, .int .u8 0, .int .i64 0, .int .u8 0, .int .u32 0, .slice none 0 0]) 33)
        obtain ⟨gB, hgB, B⟩ : ∃ g, V7.heap.size = g ∧ BxF W (V7.alloc (.cells (#[.int .u8 0, .int .u8 0, .int .u32 0, .int .u8 0, .int .i64 0, .int .u8 0, .int .u32 0, .int .u8 0, .int .i64 0, .int .i64 0, .int .u8 0, .int .u32 0, .int .u8 0, .int .i64 0, .int .u8 0, .int .u32 0, .slice none 0 0]) 33)) g := ⟨_, rfl, bxf_new s⟩
        have hne : gB ≠ gR := by have := Rw.lt; omega
        replace Rw := Rw.keep b
        replace s := below_in s b
        clear b
        rw [hgB]
        generalize World.alloc V7 _ = V10 at s B Rw ⊢
        clear hgB
        refine hK.out _ _ s (fun hHeld => ?_)
        clear hK K
        refine wpAnyH_ready (rs := [1]) (by kernel_rfl) (by simp) ?_
        refine AllReadyH.cons rfl (fun K hK => ?_) AllReadyH.nil
        · go_simp
          go_wp2_with (go_at_call 38; refine (h_any _).mono ?_; rintro e V11 ⟨rfl, b⟩)
          replace s := below_in s b
          replace B := B.keep b
          replace Rw := Rw.keep b
          clear b
          refine hK.out _ _ s (fun hHeld => ?_)
          clear hK K
          refine wpAnyH_take (i := 2) (oi := { dst := some 6, op := Op.build 28 #[(0, Operand.tmp 5), (1, Operand.const (Value.int IntKind.i64 9))], type := 28, pos := "outright.go:17", after := #[{ on := 1, ground := Ground.data }], guard := none }) (v := ?_) rfl (by kernel_rfl) (by kernel_rfl) (by kernel_rfl) (fun _ _ _ h => h) (Or.inl ⟨by rfl, ?_⟩) hHeld ?_
          rotate_left
          · intro w9 hSw
            (try dsimp only at hSw)
            go_simp <;> with_reducible rfl
          (try simp only [Act.put, List.setIfInBounds_toArray, List.set_cons_zero, List.set_cons_succ])
          refine wpAnyH_take (i := 4) (oi := { dst := some 8, op := Op.build 30 #[(0, Operand.tmp 6), (1, Operand.tmp 7)], type := 30, pos := "outright.go:17", after := #[{ on := 2, ground := Ground.data }, { on := 3, ground := Ground.data }], guard := none }) (v := ?_) rfl (by kernel_rfl) (by kernel_rfl) (by kernel_rfl) (fun _ _ _ h => h) (Or.inl ⟨by rfl, ?_⟩) hHeld ?_
          rotate_left
          · intro w9 hSw
            (try dsimp only at hSw)
            go_simp <;> with_reducible rfl
          (try simp only [Act.put, List.setIfInBounds_toArray, List.set_cons_zero, List.set_cons_succ])
          refine wpAnyH_take (i := 7) (oi := { dst := some 11, op := Op.build 33 #[(0, Operand.const (Value.int IntKind.u8 1)), (1, Operand.tmp 4), (2, Operand.const (Value.int IntKind.i64 1)), (3, Operand.tmp 8), (6, Operand.tmp 10)], type := 33, pos := "outright.go:17", after := #[{ on := 0, ground := Ground.data }, { on := 4, ground := Ground.data }, { on := 6, ground := Ground.data }], guard := none }) (v := ?_) rfl (by kernel_rfl) (by kernel_rfl) (by kernel_rfl) (fun _ _ _ h => h) (Or.inl ⟨by rfl, ?_⟩) hHeld ?_
          rotate_left
          · intro w9 hSw
            (try dsimp only at hSw)
            refine run_ins _ w9 k gR ?_ ?_ ?_ ?_ ?_ <;> rfl
          (try simp only [Act.put, List.setIfInBounds_toArray, List.set_cons_zero, List.set_cons_succ])
          refine wpAnyH_ready (rs := [9]) (by kernel_rfl) (by simp) ?_
          refine AllReadyH.cons rfl (fun K hK => ?_) AllReadyH.nil
          rw [if_pos (by rfl)]
          refine wp_store_mid 33 (.tmp 3) (.tmp 11) rfl gB 0 (#[.int .u8 (insO k).kd, .int .u8 (insO k).l, .int .u32 (insO k).c, .int .u8 (insO k).k, .int .i64 (insO k).s, .int .u8 (insO k).fl, .int .u32 (insO k).fc, .int .u8 (insO k).fk, .int .i64 (insO k).fn, .int .i64 (insO k).fm, .int .u8 (insO k).al, .int .u32 (insO k).ac, .int .u8 (insO k).ak, .int .i64 (insO k).an, .int .u8 (insO k).tl, .int .u32 (insO k).tc, .slice (some ⟨gR, 0, none⟩) k k]) rfl rfl B.th info_O (by simp [Value.oneCell']) ?_
          (try simp only [Act.put, List.setIfInBounds_toArray, List.set_cons_zero, List.set_cons_succ])
          have F := ins_fin B Rw hne s
          generalize World.setCells _ gB 0 _ = V9 at F ⊢
          refine hK.out _ _ F.1 (fun hHeld => ?_)
          clear hK K
          refine wpAnyH_done (by kernel_rfl) ?_ _
          clear hHeld
          obtain ⟨f1, f2, f3, f4⟩ := F
          have th9 := th.keep f1
          have hltW := th.lt
          have one : True := trivial
          go_wp2_with (first | (clear one; refine wpList_load_o rfl (.tmp 3) rfl gB rfl f2 ?_) | (refine wpList_store_r rfl (.tmp 2) (.tmp 13) rfl w.heap.size rfl (insR k) (some ⟨gR, 0, none⟩) k k rfl th9 w.heap.size (Nat.le_refl _) ?_; intro w9 x9 t9 b9 h9 z9))
          exact bodyPost_ret (results_r rfl rfl x9) rfl ⟨_, rfl, (f3.other h9 (by omega)).base (by omega), (below_in hb f1).trans b9⟩
    · go_simp
      go_wp2
      have b := below1 V1 (.cells (#[.int .u8 0, .int .u8 0, .int .u32 0, .int .u8 0, .int .i64 0, .int .u8 0, .int .u32 0, .int .u8 0, .int .i64 0, .int .i64 0, .int .u8 0, .int .u32 0, .int .u8 0, .int .i64 0, .int .u8 0, .int .u32 0, .slice none 0 0]) 33)
      obtain ⟨gB, hgB, B⟩ : ∃ g, V1.heap.size = g ∧ BxF W (V1.alloc (.cells (#[.int .u8 0, .int .u8 0, .int .u32 0, .int .u8 0, .int .i64 0, .int .u8 0, .int .u32 0, .int .u8 0, .int .i64 0, .int .i64 0, .int .u8 0, .int .u32 0, .int .u8 0, .int .i64 0, .int .u8 0, .int .u32 0, .slice none 0 0]) 33)) g := ⟨_, rfl, bxf_new s⟩
      replace s := below_in s b
      clear b
      rw [hgB]
      generalize World.alloc V1 _ = V12 at s B ⊢
      clear hgB
      refine hK.out _ _ s (fun hHeld => ?_)
      clear hK K
      refine wpAnyH_ready (rs := [1, 6]) (by kernel_rfl) (by simp) ?_
      refine AllReadyH.cons rfl (fun K hK => ?_) (AllReadyH.cons rfl (fun K hK => ?_) AllReadyH.nil)
      · go_simp
        go_wp2_with (go_at_call 38; refine (h_any _).mono ?_; rintro e V13 ⟨rfl, b⟩)
        replace s := below_in s b
        replace B := B.keep b
        clear b
        refine hK.out _ _ s (fun hHeld => ?_)
        clear hK K
        refine wpAnyH_take (i := 2) (oi := { dst := some 6, op := Op.build 28 #[(0, Operand.tmp 5), (1, Operand.const (Value.int IntKind.i64 9))], type := 28, pos := "outright.go:17", after := #[{ on := 1, ground := Ground.data }], guard := none }) (v := ?_) rfl (by kernel_rfl) (by kernel_rfl) (by kernel_rfl) (fun _ _ _ h => h) (Or.inl ⟨by rfl, ?_⟩) hHeld ?_
        rotate_left
        · intro w9 hSw
          (try dsimp only at hSw)
          go_simp <;> with_reducible rfl
        (try simp only [Act.put, List.setIfInBounds_toArray, List.set_cons_zero, List.set_cons_succ])
        refine wpAnyH_take (i := 4) (oi := { dst := some 8, op := Op.build 30 #[(0, Operand.tmp 6), (1, Operand.tmp 7)], type := 30, pos := "outright.go:17", after := #[{ on := 2, ground := Ground.data }, { on := 3, ground := Ground.data }], guard := none }) (v := ?_) rfl (by kernel_rfl) (by kernel_rfl) (by kernel_rfl) (fun _ _ _ h => h) (Or.inl ⟨by rfl, ?_⟩) hHeld ?_
        rotate_left
        · intro w9 hSw
          (try dsimp only at hSw)
          go_simp <;> with_reducible rfl
        (try simp only [Act.put, List.setIfInBounds_toArray, List.set_cons_zero, List.set_cons_succ])
        refine wpAnyH_ready (rs := [6]) (by kernel_rfl) (by simp) ?_
        refine AllReadyH.cons rfl (fun K hK => ?_) AllReadyH.nil
        · go_simp
          go_wp2
          have b := below1 V13 (.cells (madeCells #[Value.int .i32 0] k) 21)
          obtain ⟨gR, hgR, Rw⟩ : ∃ g, V13.heap.size = g ∧ RwF W k (V13.alloc (.cells (madeCells #[Value.int .i32 0] k) 21)) g := ⟨_, rfl, rwf_new s hk⟩
          have hne : gB ≠ gR := by have := B.lt; omega
          replace B := B.keep b
          replace s := below_in s b
          clear b
          rw [hgR]
          generalize World.alloc V13 _ = V14 at s Rw B ⊢
          clear hgR
          refine hK.out _ _ s (fun hHeld => ?_)
          clear hK K
          refine wpAnyH_take (i := 7) (oi := { dst := some 11, op := Op.build 33 #[(0, Operand.const (Value.int IntKind.u8 1)), (1, Operand.tmp 4), (2, Operand.const (Value.int IntKind.i64 1)), (3, Operand.tmp 8), (6, Operand.tmp 10)], type := 33, pos := "outright.go:17", after := #[{ on := 0, ground := Ground.data }, { on := 4, ground := Ground.data }, { on := 6, ground := Ground.data }], guard := none }) (v := ?_) rfl (by kernel_rfl) (by kernel_rfl) (by kernel_rfl) (fun _ _ _ h => h) (Or.inl ⟨by rfl, ?_⟩) hHeld ?_
          rotate_left
          · intro w9 hSw
            (try dsimp only at hSw)
            refine run_ins _ w9 k gR ?_ ?_ ?_ ?_ ?_ <;> rfl
          (try simp only [Act.put, List.setIfInBounds_toArray, List.set_cons_zero, List.set_cons_succ])
          refine wpAnyH_ready (rs := [9]) (by kernel_rfl) (by simp) ?_
          refine AllReadyH.cons rfl (fun K hK => ?_) AllReadyH.nil
          rw [if_pos (by rfl)]
          refine wp_store_mid 33 (.tmp 3) (.tmp 11) rfl gB 0 (#[.int .u8 (insO k).kd, .int .u8 (insO k).l, .int .u32 (insO k).c, .int .u8 (insO k).k, .int .i64 (insO k).s, .int .u8 (insO k).fl, .int .u32 (insO k).fc, .int .u8 (insO k).fk, .int .i64 (insO k).fn, .int .i64 (insO k).fm, .int .u8 (insO k).al, .int .u32 (insO k).ac, .int .u8 (insO k).ak, .int .i64 (insO k).an, .int .u8 (insO k).tl, .int .u32 (insO k).tc, .slice (some ⟨gR, 0, none⟩) k k]) rfl rfl B.th info_O (by simp [Value.oneCell']) ?_
          (try simp only [Act.put, List.setIfInBounds_toArray, List.set_cons_zero, List.set_cons_succ])
          have F := ins_fin B Rw hne s
          generalize World.setCells _ gB 0 _ = V9 at F ⊢
          refine hK.out _ _ F.1 (fun hHeld => ?_)
          clear hK K
          refine wpAnyH_done (by kernel_rfl) ?_ _
          clear hHeld
          obtain ⟨f1, f2, f3, f4⟩ := F
          have th9 := th.keep f1
          have hltW := th.lt
          have one : True := trivial
          go_wp2_with (first | (clear one; refine wpList_load_o rfl (.tmp 3) rfl gB rfl f2 ?_) | (refine wpList_store_r rfl (.tmp 2) (.tmp 13) rfl w.heap.size rfl (insR k) (some ⟨gR, 0, none⟩) k k rfl th9 w.heap.size (Nat.le_refl _) ?_; intro w9 x9 t9 b9 h9 z9))
          exact bodyPost_ret (results_r rfl rfl x9) rfl ⟨_, rfl, (f3.other h9 (by omega)).base (by omega), (below_in hb f1).trans b9⟩
      · go_simp
        go_wp2
        have b := below1 V12 (.cells (madeCells #[Value.int .i32 0] k) 21)
        obtain ⟨gR, hgR, Rw⟩ : ∃ g, V12.heap.size = g ∧ RwF W k (V12.alloc (.cells (madeCells #[Value.int .i32 0] k) 21)) g := ⟨_, rfl, rwf_new s hk⟩
        have hne : gB ≠ gR := by have := B.lt; omega
        replace B := B.keep b
        replace s := below_in s b
        clear b
        rw [hgR]
        generalize World.alloc V12 _ = V15 at s Rw B ⊢
        clear hgR
        refine hK.out _ _ s (fun hHeld => ?_)
        clear hK K
        refine wpAnyH_ready (rs := [1]) (by kernel_rfl) (by simp) ?_
        refine AllReadyH.cons rfl (fun K hK => ?_) AllReadyH.nil
        · go_simp
          go_wp2_with (go_at_call 38; refine (h_any _).mono ?_; rintro e V16 ⟨rfl, b⟩)
          replace s := below_in s b
          replace B := B.keep b
          replace Rw := Rw.keep b
          clear b
          refine hK.out _ _ s (fun hHeld => ?_)
          clear hK K
          refine wpAnyH_take (i := 2) (oi := { dst := some 6, op := Op.build 28 #[(0, Operand.tmp 5), (1, Operand.const (Value.int IntKind.i64 9))], type := 28, pos := "outright.go:17", after := #[{ on := 1, ground := Ground.data }], guard := none }) (v := ?_) rfl (by kernel_rfl) (by kernel_rfl) (by kernel_rfl) (fun _ _ _ h => h) (Or.inl ⟨by rfl, ?_⟩) hHeld ?_
          rotate_left
          · intro w9 hSw
            (try dsimp only at hSw)
            go_simp <;> with_reducible rfl
          (try simp only [Act.put, List.setIfInBounds_toArray, List.set_cons_zero, List.set_cons_succ])
          refine wpAnyH_take (i := 4) (oi := { dst := some 8, op := Op.build 30 #[(0, Operand.tmp 6), (1, Operand.tmp 7)], type := 30, pos := "outright.go:17", after := #[{ on := 2, ground := Ground.data }, { on := 3, ground := Ground.data }], guard := none }) (v := ?_) rfl (by kernel_rfl) (by kernel_rfl) (by kernel_rfl) (fun _ _ _ h => h) (Or.inl ⟨by rfl, ?_⟩) hHeld ?_
          rotate_left
          · intro w9 hSw
            (try dsimp only at hSw)
            go_simp <;> with_reducible rfl
          (try simp only [Act.put, List.setIfInBounds_toArray, List.set_cons_zero, List.set_cons_succ])
          refine wpAnyH_take (i := 7) (oi := { dst := some 11, op := Op.build 33 #[(0, Operand.const (Value.int IntKind.u8 1)), (1, Operand.tmp 4), (2, Operand.const (Value.int IntKind.i64 1)), (3, Operand.tmp 8), (6, Operand.tmp 10)], type := 33, pos := "outright.go:17", after := #[{ on := 0, ground := Ground.data }, { on := 4, ground := Ground.data }, { on := 6, ground := Ground.data }], guard := none }) (v := ?_) rfl (by kernel_rfl) (by kernel_rfl) (by kernel_rfl) (fun _ _ _ h => h) (Or.inl ⟨by rfl, ?_⟩) hHeld ?_
          rotate_left
          · intro w9 hSw
            (try dsimp only at hSw)
            refine run_ins _ w9 k gR ?_ ?_ ?_ ?_ ?_ <;> rfl
          (try simp only [Act.put, List.setIfInBounds_toArray, List.set_cons_zero, List.set_cons_succ])
          refine wpAnyH_ready (rs := [9]) (by kernel_rfl) (by simp) ?_
          refine AllReadyH.cons rfl (fun K hK => ?_) AllReadyH.nil
          rw [if_pos (by rfl)]
          refine wp_store_mid 33 (.tmp 3) (.tmp 11) rfl gB 0 (#[.int .u8 (insO k).kd, .int .u8 (insO k).l, .int .u32 (insO k).c, .int .u8 (insO k).k, .int .i64 (insO k).s, .int .u8 (insO k).fl, .int .u32 (insO k).fc, .int .u8 (insO k).fk, .int .i64 (insO k).fn, .int .i64 (insO k).fm, .int .u8 (insO k).al, .int .u32 (insO k).ac, .int .u8 (insO k).ak, .int .i64 (insO k).an, .int .u8 (insO k).tl, .int .u32 (insO k).tc, .slice (some ⟨gR, 0, none⟩) k k]) rfl rfl B.th info_O (by simp [Value.oneCell']) ?_
          (try simp only [Act.put, List.setIfInBounds_toArray, List.set_cons_zero, List.set_cons_succ])
          have F := ins_fin B Rw hne s
          generalize World.setCells _ gB 0 _ = V9 at F ⊢
          refine hK.out _ _ F.1 (fun hHeld => ?_)
          clear hK K
          refine wpAnyH_done (by kernel_rfl) ?_ _
          clear hHeld
          obtain ⟨f1, f2, f3, f4⟩ := F
          have th9 := th.keep f1
          have hltW := th.lt
          have one : True := trivial
          go_wp2_with (first | (clear one; refine wpList_load_o rfl (.tmp 3) rfl gB rfl f2 ?_) | (refine wpList_store_r rfl (.tmp 2) (.tmp 13) rfl w.heap.size rfl (insR k) (some ⟨gR, 0, none⟩) k k rfl th9 w.heap.size (Nat.le_refl _) ?_; intro w9 x9 t9 b9 h9 z9))
          exact bodyPost_ret (results_r rfl rfl x9) rfl ⟨_, rfl, (f3.other h9 (by omega)).base (by omega), (below_in hb f1).trans b9⟩
  · go_simp
    go_wp2
    have b := below1 V0 (.cells (madeCells #[Value.int .i32 0] k) 21)
    obtain ⟨gR, hgR, Rw⟩ : ∃ g, V0.heap.size = g ∧ RwF W k (V0.alloc (.cells (madeCells #[Value.int .i32 0] k) 21)) g := ⟨_, rfl, rwf_new s hk⟩
    replace s := below_in s b
    clear b
    rw [hgR]
    generalize World.alloc V0 _ = V17 at s Rw ⊢
    clear hgR
    refine hK.out _ _ s (fun hHeld => ?_)
    clear hK K
    refine wpAnyH_ready (rs := [0, 8]) (by kernel_rfl) (by simp) ?_
    refine AllReadyH.cons rfl (fun K hK => ?_) (AllReadyH.cons rfl (fun K hK => ?_) AllReadyH.nil)
    · go_simp
      go_wp2_with (go_at_call 38; refine (h_any _).mono ?_; rintro e V18 ⟨rfl, b⟩)
      replace s := below_in s b
      replace Rw := Rw.keep b
      clear b
      refine hK.out _ _ s (fun hHeld => ?_)
      clear hK K
      refine wpAnyH_ready (rs := [1, 8]) (by kernel_rfl) (by simp) ?_
      refine AllReadyH.cons rfl (fun K hK => ?_) (AllReadyH.cons rfl (fun K hK => ?_) AllReadyH.nil)
      · go_simp
        go_wp2_with (go_at_call 38; refine (h_any _).mono ?_; rintro e V19 ⟨rfl, b⟩)
        replace s := below_in s b
        replace Rw := Rw.keep b
        clear b
        refine hK.out _ _ s (fun hHeld => ?_)
        clear hK K
        refine wpAnyH_take (i := 2) (oi := { dst := some 6, op := Op.build 28 #[(0, Operand.tmp 5), (1, Operand.const (Value.int IntKind.i64 9))], type := 28, pos := "outright.go:17", after := #[{ on := 1, ground := Ground.data }], guard := none }) (v := ?_) rfl (by kernel_rfl) (by kernel_rfl) (by kernel_rfl) (fun _ _ _ h => h) (Or.inl ⟨by rfl, ?_⟩) hHeld ?_
        rotate_left
        · intro w9 hSw
          (try dsimp only at hSw)
          go_simp <;> with_reducible rfl
        (try simp only [Act.put, List.setIfInBounds_toArray, List.set_cons_zero, List.set_cons_succ])
        refine wpAnyH_take (i := 4) (oi := { dst := some 8, op := Op.build 30 #[(0, Operand.tmp 6), (1, Operand.tmp 7)], type := 30, pos := "outright.go:17", after := #[{ on := 2, ground := Ground.data }, { on := 3, ground := Ground.data }], guard := none }) (v := ?_) rfl (by kernel_rfl) (by kernel_rfl) (by kernel_rfl) (fun _ _ _ h => h) (Or.inl ⟨by rfl, ?_⟩) hHeld ?_
        rotate_left
        · intro w9 hSw
          (try dsimp only at hSw)
          go_simp <;> with_reducible rfl
        (try simp only [Act.put, List.setIfInBounds_toArray, List.set_cons_zero, List.set_cons_succ])
        refine wpAnyH_take (i := 7) (oi := { dst := some 11, op := Op.build 33 #[(0, Operand.const (Value.int IntKind.u8 1)), (1, Operand.tmp 4), (2, Operand.const (Value.int IntKind.i64 1)), (3, Operand.tmp 8), (6, Operand.tmp 10)], type := 33, pos := "outright.go:17", after := #[{ on := 0, ground := Ground.data }, { on := 4, ground := Ground.data }, { on := 6, ground := Ground.data }], guard := none }) (v := ?_) rfl (by kernel_rfl) (by kernel_rfl) (by kernel_rfl) (fun _ _ _ h => h) (Or.inl ⟨by rfl, ?_⟩) hHeld ?_
        rotate_left
        · intro w9 hSw
          (try dsimp only at hSw)
          refine run_ins _ w9 k gR ?_ ?_ ?_ ?_ ?_ <;> rfl
        (try simp only [Act.put, List.setIfInBounds_toArray, List.set_cons_zero, List.set_cons_succ])
        refine wpAnyH_ready (rs := [8]) (by kernel_rfl) (by simp) ?_
        refine AllReadyH.cons rfl (fun K hK => ?_) AllReadyH.nil
        · go_simp
          go_wp2
          have b := below1 V19 (.cells (#[.int .u8 0, .int .u8 0, .int .u32 0, .int .u8 0, .int .i64 0, .int .u8 0, .int .u32 0, .int .u8 0, .int .i64 0, .int .i64 0, .int .u8 0, .int .u32 0, .int .u8 0, .int .i64 0, .int .u8 0, .int .u32 0, .slice none 0 0]) 33)
          obtain ⟨gB, hgB, B⟩ : ∃ g, V19.heap.size = g ∧ BxF W (V19.alloc (.cells (#[.int .u8 0, .int .u8 0, .int .u32 0, .int .u8 0, .int .i64 0, .int .u8 0, .int .u32 0, .int .u8 0, .int .i64 0, .int .i64 0, .int .u8 0, .int .u32 0, .int .u8 0, .int .i64 0, .int .u8 0, .int .u32 0, .slice none 0 0]) 33)) g := ⟨_, rfl, bxf_new s⟩
          have hne : gB ≠ gR := by have := Rw.lt; omega
          replace Rw := Rw.keep b
          replace s := below_in s b
          clear b
          rw [hgB]
          generalize World.alloc V19 _ = V20 at s B Rw ⊢
          clear hgB
          refine hK.out _ _ s (fun hHeld => ?_)
          clear hK K
          refine wpAnyH_ready (rs := [9]) (by kernel_rfl) (by simp) ?_
          refine AllReadyH.cons rfl (fun K hK => ?_) AllReadyH.nil
          rw [if_pos (by rfl)]
          refine wp_store_mid 33 (.tmp 3) (.tmp 11) rfl gB 0 (#[.int .u8 (insO k).kd, .int .u8 (insO k).l, .int .u32 (insO k).c, .int .u8 (insO k).k, .int .i64 (insO k).s, .int .u8 (insO k).fl, .int .u32 (insO k).fc, .int .u8 (insO k).fk, .int .i64 (insO k).fn, .int .i64 (insO k).fm, .int .u8 (insO k).al, .int .u32 (insO k).ac, .int .u8 (insO k).ak, .int .i64 (insO k).an, .int .u8 (insO k).tl, .int .u32 (insO k).tc, .slice (some ⟨gR, 0, none⟩) k k]) rfl rfl B.th info_O (by simp [Value.oneCell']) ?_
          (try simp only [Act.put, List.setIfInBounds_toArray, List.set_cons_zero, List.set_cons_succ])
          have F := ins_fin B Rw hne s
          generalize World.setCells _ gB 0 _ = V9 at F ⊢
          refine hK.out _ _ F.1 (fun hHeld => ?_)
          clear hK K
          refine wpAnyH_done (by kernel_rfl) ?_ _
          clear hHeld
          obtain ⟨f1, f2, f3, f4⟩ := F
          have th9 := th.keep f1
          have hltW := th.lt
          have one : True := trivial
          go_wp2_with (first | (clear one; refine wpList_load_o rfl (.tmp 3) rfl gB rfl f2 ?_) | (refine wpList_store_r rfl (.tmp 2) (.tmp 13) rfl w.heap.size rfl (insR k) (some ⟨gR, 0, none⟩) k k rfl th9 w.heap.size (Nat.le_refl _) ?_; intro w9 x9 t9 b9 h9 z9))
          exact bodyPost_ret (results_r rfl rfl x9) rfl ⟨_, rfl, (f3.other h9 (by omega)).base (by omega), (below_in hb f1).trans b9⟩
      · go_simp
        go_wp2
        have b := below1 V18 (.cells (#[.int .u8 0, .int .u8 0, .int .u32 0, .int .u8 0, .int .i64 0, .int .u8 0, .int .u32 0, .int .u8 0, .int .i64 0, .int .i64 0, .int .u8 0, .int .u32 0, .int .u8 0, .int .i64 0, .int .u8 0, .int .u32 0, .slice none 0 0]) 33)
        obtain ⟨gB, hgB, B⟩ : ∃ g, V18.heap.size = g ∧ BxF W (V18.alloc (.cells (#[.int .u8 0, .int .u8 0, .int .u32 0, .int .u8 0, .int .i64 0, .int .u8 0, .int .u32 0, .int .u8 0, .int .i64 0, .int .i64 0, .int .u8 0, .int .u32 0, .int .u8 0, .int .i64 0, .int .u8 0, .int .u32 0, .slice none 0 0]) 33)) g := ⟨_, rfl, bxf_new s⟩
        have hne : gB ≠ gR := by have := Rw.lt; omega
        replace Rw := Rw.keep b
        replace s := below_in s b
        clear b
        rw [hgB]
        generalize World.alloc V18 _ = V21 at s B Rw ⊢
        clear hgB
        refine hK.out _ _ s (fun hHeld => ?_)
        clear hK K
        refine wpAnyH_ready (rs := [1]) (by kernel_rfl) (by simp) ?_
        refine AllReadyH.cons rfl (fun K hK => ?_) AllReadyH.nil
        · go_simp
          go_wp2_with (go_at_call 38; refine (h_any _).mono ?_; rintro e V22 ⟨rfl, b⟩)
          replace s := below_in s b
          replace B := B.keep b
          replace Rw := Rw.keep b
          clear b
          refine hK.out _ _ s (fun hHeld => ?_)
          clear hK K
          refine wpAnyH_take (i := 2) (oi := { dst := some 6, op := Op.build 28 #[(0, Operand.tmp 5), (1, Operand.const (Value.int IntKind.i64 9))], type := 28, pos := "outright.go:17", after := #[{ on := 1, ground := Ground.data }], guard := none }) (v := ?_) rfl (by kernel_rfl) (by kernel_rfl) (by kernel_rfl) (fun _ _ _ h => h) (Or.inl ⟨by rfl, ?_⟩) hHeld ?_
          rotate_left
          · intro w9 hSw
            (try dsimp only at hSw)
            go_simp <;> with_reducible rfl
          (try simp only [Act.put, List.setIfInBounds_toArray, List.set_cons_zero, List.set_cons_succ])
          refine wpAnyH_take (i := 4) (oi := { dst := some 8, op := Op.build 30 #[(0, Operand.tmp 6), (1, Operand.tmp 7)], type := 30, pos := "outright.go:17", after := #[{ on := 2, ground := Ground.data }, { on := 3, ground := Ground.data }], guard := none }) (v := ?_) rfl (by kernel_rfl) (by kernel_rfl) (by kernel_rfl) (fun _ _ _ h => h) (Or.inl ⟨by rfl, ?_⟩) hHeld ?_
          rotate_left
          · intro w9 hSw
            (try dsimp only at hSw)
            go_simp <;> with_reducible rfl
          (try simp only [Act.put, List.setIfInBounds_toArray, List.set_cons_zero, List.set_cons_succ])
          refine wpAnyH_take (i := 7) (oi := { dst := some 11, op := Op.build 33 #[(0, Operand.const (Value.int IntKind.u8 1)), (1, Operand.tmp 4), (2, Operand.const (Value.int IntKind.i64 1)), (3, Operand.tmp 8), (6, Operand.tmp 10)], type := 33, pos := "outright.go:17", after := #[{ on := 0, ground := Ground.data }, { on := 4, ground := Ground.data }, { on := 6, ground := Ground.data }], guard := none }) (v := ?_) rfl (by kernel_rfl) (by kernel_rfl) (by kernel_rfl) (fun _ _ _ h => h) (Or.inl ⟨by rfl, ?_⟩) hHeld ?_
          rotate_left
          · intro w9 hSw
            (try dsimp only at hSw)
            refine run_ins _ w9 k gR ?_ ?_ ?_ ?_ ?_ <;> rfl
          (try simp only [Act.put, List.setIfInBounds_toArray, List.set_cons_zero, List.set_cons_succ])
          refine wpAnyH_ready (rs := [9]) (by kernel_rfl) (by simp) ?_
          refine AllReadyH.cons rfl (fun K hK => ?_) AllReadyH.nil
          rw [if_pos (by rfl)]
          refine wp_store_mid 33 (.tmp 3) (.tmp 11) rfl gB 0 (#[.int .u8 (insO k).kd, .int .u8 (insO k).l, .int .u32 (insO k).c, .int .u8 (insO k).k, .int .i64 (insO k).s, .int .u8 (insO k).fl, .int .u32 (insO k).fc, .int .u8 (insO k).fk, .int .i64 (insO k).fn, .int .i64 (insO k).fm, .int .u8 (insO k).al, .int .u32 (insO k).ac, .int .u8 (insO k).ak, .int .i64 (insO k).an, .int .u8 (insO k).tl, .int .u32 (insO k).tc, .slice (some ⟨gR, 0, none⟩) k k]) rfl rfl B.th info_O (by simp [Value.oneCell']) ?_
          (try simp only [Act.put, List.setIfInBounds_toArray, List.set_cons_zero, List.set_cons_succ])
          have F := ins_fin B Rw hne s
          generalize World.setCells _ gB 0 _ = V9 at F ⊢
          refine hK.out _ _ F.1 (fun hHeld => ?_)
          clear hK K
          refine wpAnyH_done (by kernel_rfl) ?_ _
          clear hHeld
          obtain ⟨f1, f2, f3, f4⟩ := F
          have th9 := th.keep f1
          have hltW := th.lt
          have one : True := trivial
          go_wp2_with (first | (clear one; refine wpList_load_o rfl (.tmp 3) rfl gB rfl f2 ?_) | (refine wpList_store_r rfl (.tmp 2) (.tmp 13) rfl w.heap.size rfl (insR k) (some ⟨gR, 0, none⟩) k k rfl th9 w.heap.size (Nat.le_refl _) ?_; intro w9 x9 t9 b9 h9 z9))
          exact bodyPost_ret (results_r rfl rfl x9) rfl ⟨_, rfl, (f3.other h9 (by omega)).base (by omega), (below_in hb f1).trans b9⟩
    · go_simp
      go_wp2
      have b := below1 V17 (.cells (#[.int .u8 0, .int .u8 0, .int .u32 0, .int .u8 0, .int .i64 0, .int .u8 0, .int .u32 0, .int .u8 0, .int .i64 0, .int .i64 0, .int .u8 0, .int .u32 0, .int .u8 0, .int .i64 0, .int .u8 0, .int .u32 0, .slice none 0 0]) 33)
      obtain ⟨gB, hgB, B⟩ : ∃ g, V17.heap.size = g ∧ BxF W (V17.alloc (.cells (#[.int .u8 0, .int .u8 0, .int .u32 0, .int .u8 0, .int .i64 0, .int .u8 0, .int .u32 0, .int .u8 0, .int .i64 0, .int .i64 0, .int .u8 0, .int .u32 0, .int .u8 0, .int .i64 0, .int .u8 0, .int .u32 0, .slice none 0 0]) 33)) g := ⟨_, rfl, bxf_new s⟩
      have hne : gB ≠ gR := by have := Rw.lt; omega
      replace Rw := Rw.keep b
      replace s := below_in s b
      clear b
      rw [hgB]
      generalize World.alloc V17 _ = V23 at s B Rw ⊢
      clear hgB
      refine hK.out _ _ s (fun hHeld => ?_)
      clear hK K
      refine wpAnyH_ready (rs := [0]) (by kernel_rfl) (by simp) ?_
      refine AllReadyH.cons rfl (fun K hK => ?_) AllReadyH.nil
      · go_simp
        go_wp2_with (go_at_call 38; refine (h_any _).mono ?_; rintro e V24 ⟨rfl, b⟩)
        replace s := below_in s b
        replace B := B.keep b
        replace Rw := Rw.keep b
        clear b
        refine hK.out _ _ s (fun hHeld => ?_)
        clear hK K
        refine wpAnyH_ready (rs := [1]) (by kernel_rfl) (by simp) ?_
        refine AllReadyH.cons rfl (fun K hK => ?_) AllReadyH.nil
        · go_simp
          go_wp2_with (go_at_call 38; refine (h_any _).mono ?_; rintro e V25 ⟨rfl, b⟩)
          replace s := below_in s b
          replace B := B.keep b
          replace Rw := Rw.keep b
          clear b
          refine hK.out _ _ s (fun hHeld => ?_)
          clear hK K
          refine wpAnyH_take (i := 2) (oi := { dst := some 6, op := Op.build 28 #[(0, Operand.tmp 5), (1, Operand.const (Value.int IntKind.i64 9))], type := 28, pos := "outright.go:17", after := #[{ on := 1, ground := Ground.data }], guard := none }) (v := ?_) rfl (by kernel_rfl) (by kernel_rfl) (by kernel_rfl) (fun _ _ _ h => h) (Or.inl ⟨by rfl, ?_⟩) hHeld ?_
          rotate_left
          · intro w9 hSw
            (try dsimp only at hSw)
            go_simp <;> with_reducible rfl
          (try simp only [Act.put, List.setIfInBounds_toArray, List.set_cons_zero, List.set_cons_succ])
          refine wpAnyH_take (i := 4) (oi := { dst := some 8, op := Op.build 30 #[(0, Operand.tmp 6), (1, Operand.tmp 7)], type := 30, pos := "outright.go:17", after := #[{ on := 2, ground := Ground.data }, { on := 3, ground := Ground.data }], guard := none }) (v := ?_) rfl (by kernel_rfl) (by kernel_rfl) (by kernel_rfl) (fun _ _ _ h => h) (Or.inl ⟨by rfl, ?_⟩) hHeld ?_
          rotate_left
          · intro w9 hSw
            (try dsimp only at hSw)
            go_simp <;> with_reducible rfl
          (try simp only [Act.put, List.setIfInBounds_toArray, List.set_cons_zero, List.set_cons_succ])
          refine wpAnyH_take (i := 7) (oi := { dst := some 11, op := Op.build 33 #[(0, Operand.const (Value.int IntKind.u8 1)), (1, Operand.tmp 4), (2, Operand.const (Value.int IntKind.i64 1)), (3, Operand.tmp 8), (6, Operand.tmp 10)], type := 33, pos := "outright.go:17", after := #[{ on := 0, ground := Ground.data }, { on := 4, ground := Ground.data }, { on := 6, ground := Ground.data }], guard := none }) (v := ?_) rfl (by kernel_rfl) (by kernel_rfl) (by kernel_rfl) (fun _ _ _ h => h) (Or.inl ⟨by rfl, ?_⟩) hHeld ?_
          rotate_left
          · intro w9 hSw
            (try dsimp only at hSw)
            refine run_ins _ w9 k gR ?_ ?_ ?_ ?_ ?_ <;> rfl
          (try simp only [Act.put, List.setIfInBounds_toArray, List.set_cons_zero, List.set_cons_succ])
          refine wpAnyH_ready (rs := [9]) (by kernel_rfl) (by simp) ?_
          refine AllReadyH.cons rfl (fun K hK => ?_) AllReadyH.nil
          rw [if_pos (by rfl)]
          refine wp_store_mid 33 (.tmp 3) (.tmp 11) rfl gB 0 (#[.int .u8 (insO k).kd, .int .u8 (insO k).l, .int .u32 (insO k).c, .int .u8 (insO k).k, .int .i64 (insO k).s, .int .u8 (insO k).fl, .int .u32 (insO k).fc, .int .u8 (insO k).fk, .int .i64 (insO k).fn, .int .i64 (insO k).fm, .int .u8 (insO k).al, .int .u32 (insO k).ac, .int .u8 (insO k).ak, .int .i64 (insO k).an, .int .u8 (insO k).tl, .int .u32 (insO k).tc, .slice (some ⟨gR, 0, none⟩) k k]) rfl rfl B.th info_O (by simp [Value.oneCell']) ?_
          (try simp only [Act.put, List.setIfInBounds_toArray, List.set_cons_zero, List.set_cons_succ])
          have F := ins_fin B Rw hne s
          generalize World.setCells _ gB 0 _ = V9 at F ⊢
          refine hK.out _ _ F.1 (fun hHeld => ?_)
          clear hK K
          refine wpAnyH_done (by kernel_rfl) ?_ _
          clear hHeld
          obtain ⟨f1, f2, f3, f4⟩ := F
          have th9 := th.keep f1
          have hltW := th.lt
          have one : True := trivial
          go_wp2_with (first | (clear one; refine wpList_load_o rfl (.tmp 3) rfl gB rfl f2 ?_) | (refine wpList_store_r rfl (.tmp 2) (.tmp 13) rfl w.heap.size rfl (insR k) (some ⟨gR, 0, none⟩) k k rfl th9 w.heap.size (Nat.le_refl _) ?_; intro w9 x9 t9 b9 h9 z9))
          exact bodyPost_ret (results_r rfl rfl x9) rfl ⟨_, rfl, (f3.other h9 (by omega)).base (by omega), (below_in hb f1).trans b9⟩
  · go_simp
    go_wp2
    have b := below1 V0 (.cells (#[.int .u8 0, .int .u8 0, .int .u32 0, .int .u8 0, .int .i64 0, .int .u8 0, .int .u32 0, .int .u8 0, .int .i64 0, .int .i64 0, .int .u8 0, .int .u32 0, .int .u8 0, .int .i64 0, .int .u8 0, .int .u32 0, .slice none 0 0]) 33)
    obtain ⟨gB, hgB, B⟩ : ∃ g, V0.heap.size = g ∧ BxF W (V0.alloc (.cells (#[.int .u8 0, .int .u8 0, .int .u32 0, .int .u8 0, .int .i64 0, .int .u8 0, .int .u32 0, .int .u8 0, .int .i64 0, .int .i64 0, .int .u8 0, .int .u32 0, .int .u8 0, .int .i64 0, .int .u8 0, .int .u32 0, .slice none 0 0]) 33)) g := ⟨_, rfl, bxf_new s⟩
    replace s := below_in s b
    clear b
    rw [hgB]
    generalize World.alloc V0 _ = V26 at s B ⊢
    clear hgB
    refine hK.out _ _ s (fun hHeld => ?_)
    clear hK K
    refine wpAnyH_ready (rs := [0, 6]) (by kernel_rfl) (by simp) ?_
    refine AllReadyH.cons rfl (fun K hK => ?_) (AllReadyH.cons rfl (fun K hK => ?_) AllReadyH.nil)
    · go_simp
      go_wp2_with (go_at_call 38; refine (h_any _).mono ?_; rintro e V27 ⟨rfl, b⟩)
      replace s := below_in s b
      replace B := B.keep b
      clear b
      refine hK.out _ _ s (fun hHeld => ?_)
      clear hK K
      refine wpAnyH_ready (rs := [1, 6]) (by kernel_rfl) (by simp) ?_
      refine AllReadyH.cons rfl (fun K hK => ?_) (AllReadyH.cons rfl (fun K hK => ?_) AllReadyH.nil)
      · go_simp
        go_wp2_with (go_at_call 38; refine (h_any _).mono ?_; rintro e V28 ⟨rfl, b⟩)
        replace s := below_in s b
        replace B := B.keep b
        clear b
        refine hK.out _ _ s (fun hHeld => ?_)
        clear hK K
        refine wpAnyH_take (i := 2) (oi := { dst := some 6, op := Op.build 28 #[(0, Operand.tmp 5), (1, Operand.const (Value.int IntKind.i64 9))], type := 28, pos := "outright.go:17", after := #[{ on := 1, ground := Ground.data }], guard := none }) (v := ?_) rfl (by kernel_rfl) (by kernel_rfl) (by kernel_rfl) (fun _ _ _ h => h) (Or.inl ⟨by rfl, ?_⟩) hHeld ?_
        rotate_left
        · intro w9 hSw
          (try dsimp only at hSw)
          go_simp <;> with_reducible rfl
        (try simp only [Act.put, List.setIfInBounds_toArray, List.set_cons_zero, List.set_cons_succ])
        refine wpAnyH_take (i := 4) (oi := { dst := some 8, op := Op.build 30 #[(0, Operand.tmp 6), (1, Operand.tmp 7)], type := 30, pos := "outright.go:17", after := #[{ on := 2, ground := Ground.data }, { on := 3, ground := Ground.data }], guard := none }) (v := ?_) rfl (by kernel_rfl) (by kernel_rfl) (by kernel_rfl) (fun _ _ _ h => h) (Or.inl ⟨by rfl, ?_⟩) hHeld ?_
        rotate_left
        · intro w9 hSw
          (try dsimp only at hSw)
          go_simp <;> with_reducible rfl
        (try simp only [Act.put, List.setIfInBounds_toArray, List.set_cons_zero, List.set_cons_succ])
        refine wpAnyH_ready (rs := [6]) (by kernel_rfl) (by simp) ?_
        refine AllReadyH.cons rfl (fun K hK => ?_) AllReadyH.nil
        · go_simp
          go_wp2
          have b := below1 V28 (.cells (madeCells #[Value.int .i32 0] k) 21)
          obtain ⟨gR, hgR, Rw⟩ : ∃ g, V28.heap.size = g ∧ RwF W k (V28.alloc (.cells (madeCells #[Value.int .i32 0] k) 21)) g := ⟨_, rfl, rwf_new s hk⟩
          have hne : gB ≠ gR := by have := B.lt; omega
          replace B := B.keep b
          replace s := below_in s b
          clear b
          rw [hgR]
          generalize World.alloc V28 _ = V29 at s Rw B ⊢
          clear hgR
          refine hK.out _ _ s (fun hHeld => ?_)
          clear hK K
          refine wpAnyH_take (i := 7) (oi := { dst := some 11, op := Op.build 33 #[(0, Operand.const (Value.int IntKind.u8 1)), (1, Operand.tmp 4), (2, Operand.const (Value.int IntKind.i64 1)), (3, Operand.tmp 8), (6, Operand.tmp 10)], type := 33, pos := "outright.go:17", after := #[{ on := 0, ground := Ground.data }, { on := 4, ground := Ground.data }, { on := 6, ground := Ground.data }], guard := none }) (v := ?_) rfl (by kernel_rfl) (by kernel_rfl) (by kernel_rfl) (fun _ _ _ h => h) (Or.inl ⟨by rfl, ?_⟩) hHeld ?_
          rotate_left
          · intro w9 hSw
            (try dsimp only at hSw)
            refine run_ins _ w9 k gR ?_ ?_ ?_ ?_ ?_ <;> rfl
          (try simp only [Act.put, List.setIfInBounds_toArray, List.set_cons_zero, List.set_cons_succ])
          refine wpAnyH_ready (rs := [9]) (by kernel_rfl) (by simp) ?_
          refine AllReadyH.cons rfl (fun K hK => ?_) AllReadyH.nil
          rw [if_pos (by rfl)]
          refine wp_store_mid 33 (.tmp 3) (.tmp 11) rfl gB 0 (#[.int .u8 (insO k).kd, .int .u8 (insO k).l, .int .u32 (insO k).c, .int .u8 (insO k).k, .int .i64 (insO k).s, .int .u8 (insO k).fl, .int .u32 (insO k).fc, .int .u8 (insO k).fk, .int .i64 (insO k).fn, .int .i64 (insO k).fm, .int .u8 (insO k).al, .int .u32 (insO k).ac, .int .u8 (insO k).ak, .int .i64 (insO k).an, .int .u8 (insO k).tl, .int .u32 (insO k).tc, .slice (some ⟨gR, 0, none⟩) k k]) rfl rfl B.th info_O (by simp [Value.oneCell']) ?_
          (try simp only [Act.put, List.setIfInBounds_toArray, List.set_cons_zero, List.set_cons_succ])
          have F := ins_fin B Rw hne s
          generalize World.setCells _ gB 0 _ = V9 at F ⊢
          refine hK.out _ _ F.1 (fun hHeld => ?_)
          clear hK K
          refine wpAnyH_done (by kernel_rfl) ?_ _
          clear hHeld
          obtain ⟨f1, f2, f3, f4⟩ := F
          have th9 := th.keep f1
          have hltW := th.lt
          have one : True := trivial
          go_wp2_with (first | (clear one; refine wpList_load_o rfl (.tmp 3) rfl gB rfl f2 ?_) | (refine wpList_store_r rfl (.tmp 2) (.tmp 13) rfl w.heap.size rfl (insR k) (some ⟨gR, 0, none⟩) k k rfl th9 w.heap.size (Nat.le_refl _) ?_; intro w9 x9 t9 b9 h9 z9))
          exact bodyPost_ret (results_r rfl rfl x9) rfl ⟨_, rfl, (f3.other h9 (by omega)).base (by omega), (below_in hb f1).trans b9⟩
      · go_simp
        go_wp2
        have b := below1 V27 (.cells (madeCells #[Value.int .i32 0] k) 21)
        obtain ⟨gR, hgR, Rw⟩ : ∃ g, V27.heap.size = g ∧ RwF W k (V27.alloc (.cells (madeCells #[Value.int .i32 0] k) 21)) g := ⟨_, rfl, rwf_new s hk⟩
        have hne : gB ≠ gR := by have := B.lt; omega
        replace B := B.keep b
        replace s := below_in s b
        clear b
        rw [hgR]
        generalize World.alloc V27 _ = V30 at s Rw B ⊢
        clear hgR
        refine hK.out _ _ s (fun hHeld => ?_)
        clear hK K
        refine wpAnyH_ready (rs := [1]) (by kernel_rfl) (by simp) ?_
        refine AllReadyH.cons rfl (fun K hK => ?_) AllReadyH.nil
        · go_simp
          go_wp2_with (go_at_call 38; refine (h_any _).mono ?_; rintro e V31 ⟨rfl, b⟩)
          replace s := below_in s b
          replace B := B.keep b
          replace Rw := Rw.keep b
          clear b
          refine hK.out _ _ s (fun hHeld => ?_)
          clear hK K
          refine wpAnyH_take (i := 2) (oi := { dst := some 6, op := Op.build 28 #[(0, Operand.tmp 5), (1, Operand.const (Value.int IntKind.i64 9))], type := 28, pos := "outright.go:17", after := #[{ on := 1, ground := Ground.data }], guard := none }) (v := ?_) rfl (by kernel_rfl) (by kernel_rfl) (by kernel_rfl) (fun _ _ _ h => h) (Or.inl ⟨by rfl, ?_⟩) hHeld ?_
          rotate_left
          · intro w9 hSw
            (try dsimp only at hSw)
            go_simp <;> with_reducible rfl
          (try simp only [Act.put, List.setIfInBounds_toArray, List.set_cons_zero, List.set_cons_succ])
          refine wpAnyH_take (i := 4) (oi := { dst := some 8, op := Op.build 30 #[(0, Operand.tmp 6), (1, Operand.tmp 7)], type := 30, pos := "outright.go:17", after := #[{ on := 2, ground := Ground.data }, { on := 3, ground := Ground.data }], guard := none }) (v := ?_) rfl (by kernel_rfl) (by kernel_rfl) (by kernel_rfl) (fun _ _ _ h => h) (Or.inl ⟨by rfl, ?_⟩) hHeld ?_
          rotate_left
          · intro w9 hSw
            (try dsimp only at hSw)
            go_simp <;> with_reducible rfl
          (try simp only [Act.put, List.setIfInBounds_toArray, List.set_cons_zero, List.set_cons_succ])
          refine wpAnyH_take (i := 7) (oi := { dst := some 11, op := Op.build 33 #[(0, Operand.const (Value.int IntKind.u8 1)), (1, Operand.tmp 4), (2, Operand.const (Value.int IntKind.i64 1)), (3, Operand.tmp 8), (6, Operand.tmp 10)], type := 33, pos := "outright.go:17", after := #[{ on := 0, ground := Ground.data }, { on := 4, ground := Ground.data }, { on := 6, ground := Ground.data }], guard := none }) (v := ?_) rfl (by kernel_rfl) (by kernel_rfl) (by kernel_rfl) (fun _ _ _ h => h) (Or.inl ⟨by rfl, ?_⟩) hHeld ?_
          rotate_left
          · intro w9 hSw
            (try dsimp only at hSw)
            refine run_ins _ w9 k gR ?_ ?_ ?_ ?_ ?_ <;> rfl
          (try simp only [Act.put, List.setIfInBounds_toArray, List.set_cons_zero, List.set_cons_succ])
          refine wpAnyH_ready (rs := [9]) (by kernel_rfl) (by simp) ?_
          refine AllReadyH.cons rfl (fun K hK => ?_) AllReadyH.nil
          rw [if_pos (by rfl)]
          refine wp_store_mid 33 (.tmp 3) (.tmp 11) rfl gB 0 (#[.int .u8 (insO k).kd, .int .u8 (insO k).l, .int .u32 (insO k).c, .int .u8 (insO k).k, .int .i64 (insO k).s, .int .u8 (insO k).fl, .int .u32 (insO k).fc, .int .u8 (insO k).fk, .int .i64 (insO k).fn, .int .i64 (insO k).fm, .int .u8 (insO k).al, .int .u32 (insO k).ac, .int .u8 (insO k).ak, .int .i64 (insO k).an, .int .u8 (insO k).tl, .int .u32 (insO k).tc, .slice (some ⟨gR, 0, none⟩) k k]) rfl rfl B.th info_O (by simp [Value.oneCell']) ?_
          (try simp only [Act.put, List.setIfInBounds_toArray, List.set_cons_zero, List.set_cons_succ])
          have F := ins_fin B Rw hne s
          generalize World.setCells _ gB 0 _ = V9 at F ⊢
          refine hK.out _ _ F.1 (fun hHeld => ?_)
          clear hK K
          refine wpAnyH_done (by kernel_rfl) ?_ _
          clear hHeld
          obtain ⟨f1, f2, f3, f4⟩ := F
          have th9 := th.keep f1
          have hltW := th.lt
          have one : True := trivial
          go_wp2_with (first | (clear one; refine wpList_load_o rfl (.tmp 3) rfl gB rfl f2 ?_) | (refine wpList_store_r rfl (.tmp 2) (.tmp 13) rfl w.heap.size rfl (insR k) (some ⟨gR, 0, none⟩) k k rfl th9 w.heap.size (Nat.le_refl _) ?_; intro w9 x9 t9 b9 h9 z9))
          exact bodyPost_ret (results_r rfl rfl x9) rfl ⟨_, rfl, (f3.other h9 (by omega)).base (by omega), (below_in hb f1).trans b9⟩
    · go_simp
      go_wp2
      have b := below1 V26 (.cells (madeCells #[Value.int .i32 0] k) 21)
      obtain ⟨gR, hgR, Rw⟩ : ∃ g, V26.heap.size = g ∧ RwF W k (V26.alloc (.cells (madeCells #[Value.int .i32 0] k) 21)) g := ⟨_, rfl, rwf_new s hk⟩
      have hne : gB ≠ gR := by have := B.lt; omega
      replace B := B.keep b
      replace s := below_in s b
      clear b
      rw [hgR]
      generalize World.alloc V26 _ = V32 at s Rw B ⊢
      clear hgR
      refine hK.out _ _ s (fun hHeld => ?_)
      clear hK K
      refine wpAnyH_ready (rs := [0]) (by kernel_rfl) (by simp) ?_
      refine AllReadyH.cons rfl (fun K hK => ?_) AllReadyH.nil
      · go_simp
        go_wp2_with (go_at_call 38; refine (h_any _).mono ?_; rintro e V33 ⟨rfl, b⟩)
        replace s := below_in s b
        replace B := B.keep b
        replace Rw := Rw.keep b
        clear b
        refine hK.out _ _ s (fun hHeld => ?_)
        clear hK K
        refine wpAnyH_ready (rs := [1]) (by kernel_rfl) (by simp) ?_
        refine AllReadyH.cons rfl (fun K hK => ?_) AllReadyH.nil
        · go_simp
          go_wp2_with (go_at_call 38; refine (h_any _).mono ?_; rintro e V34 ⟨rfl, b⟩)
          replace s := below_in s b
          replace B := B.keep b
          replace Rw := Rw.keep b
          clear b
          refine hK.out _ _ s (fun hHeld => ?_)
          clear hK K
          refine wpAnyH_take (i := 2) (oi := { dst := some 6, op := Op.build 28 #[(0, Operand.tmp 5), (1, Operand.const (Value.int IntKind.i64 9))], type := 28, pos := "outright.go:17", after := #[{ on := 1, ground := Ground.data }], guard := none }) (v := ?_) rfl (by kernel_rfl) (by kernel_rfl) (by kernel_rfl) (fun _ _ _ h => h) (Or.inl ⟨by rfl, ?_⟩) hHeld ?_
          rotate_left
          · intro w9 hSw
            (try dsimp only at hSw)
            go_simp <;> with_reducible rfl
          (try simp only [Act.put, List.setIfInBounds_toArray, List.set_cons_zero, List.set_cons_succ])
          refine wpAnyH_take (i := 4) (oi := { dst := some 8, op := Op.build 30 #[(0, Operand.tmp 6), (1, Operand.tmp 7)], type := 30, pos := "outright.go:17", after := #[{ on := 2, ground := Ground.data }, { on := 3, ground := Ground.data }], guard := none }) (v := ?_) rfl (by kernel_rfl) (by kernel_rfl) (by kernel_rfl) (fun _ _ _ h => h) (Or.inl ⟨by rfl, ?_⟩) hHeld ?_
          rotate_left
          · intro w9 hSw
            (try dsimp only at hSw)
            go_simp <;> with_reducible rfl
          (try simp only [Act.put, List.setIfInBounds_toArray, List.set_cons_zero, List.set_cons_succ])
          refine wpAnyH_take (i := 7) (oi := { dst := some 11, op := Op.build 33 #[(0, Operand.const (Value.int IntKind.u8 1)), (1, Operand.tmp 4), (2, Operand.const (Value.int IntKind.i64 1)), (3, Operand.tmp 8), (6, Operand.tmp 10)], type := 33, pos := "outright.go:17", after := #[{ on := 0, ground := Ground.data }, { on := 4, ground := Ground.data }, { on := 6, ground := Ground.data }], guard := none }) (v := ?_) rfl (by kernel_rfl) (by kernel_rfl) (by kernel_rfl) (fun _ _ _ h => h) (Or.inl ⟨by rfl, ?_⟩) hHeld ?_
          rotate_left
          · intro w9 hSw
            (try dsimp only at hSw)
            refine run_ins _ w9 k gR ?_ ?_ ?_ ?_ ?_ <;> rfl
          (try simp only [Act.put, List.setIfInBounds_toArray, List.set_cons_zero, List.set_cons_succ])
          refine wpAnyH_ready (rs := [9]) (by kernel_rfl) (by simp) ?_
          refine AllReadyH.cons rfl (fun K hK => ?_) AllReadyH.nil
          rw [if_pos (by rfl)]
          refine wp_store_mid 33 (.tmp 3) (.tmp 11) rfl gB 0 (#[.int .u8 (insO k).kd, .int .u8 (insO k).l, .int .u32 (insO k).c, .int .u8 (insO k).k, .int .i64 (insO k).s, .int .u8 (insO k).fl, .int .u32 (insO k).fc, .int .u8 (insO k).fk, .int .i64 (insO k).fn, .int .i64 (insO k).fm, .int .u8 (insO k).al, .int .u32 (insO k).ac, .int .u8 (insO k).ak, .int .i64 (insO k).an, .int .u8 (insO k).tl, .int .u32 (insO k).tc, .slice (some ⟨gR, 0, none⟩) k k]) rfl rfl B.th info_O (by simp [Value.oneCell']) ?_
          (try simp only [Act.put, List.setIfInBounds_toArray, List.set_cons_zero, List.set_cons_succ])
          have F := ins_fin B Rw hne s
          generalize World.setCells _ gB 0 _ = V9 at F ⊢
          refine hK.out _ _ F.1 (fun hHeld => ?_)
          clear hK K
          refine wpAnyH_done (by kernel_rfl) ?_ _
          clear hHeld
          obtain ⟨f1, f2, f3, f4⟩ := F
          have th9 := th.keep f1
          have hltW := th.lt
          have one : True := trivial
          go_wp2_with (first | (clear one; refine wpList_load_o rfl (.tmp 3) rfl gB rfl f2 ?_) | (refine wpList_store_r rfl (.tmp 2) (.tmp 13) rfl w.heap.size rfl (insR k) (some ⟨gR, 0, none⟩) k k rfl th9 w.heap.size (Nat.le_refl _) ?_; intro w9 x9 t9 b9 h9 z9))
          exact bodyPost_ret (results_r rfl rfl x9) rfl ⟨_, rfl, (f3.other h9 (by omega)).base (by omega), (below_in hb f1).trans b9⟩
end Go.Proofs.YtndmblhkmgnpcaaGreat
