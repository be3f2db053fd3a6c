/-
  The document's own answers of layer 11: what bytes tell.
-/
import Derived.Test.YtndmblhkmgnpcaaGreatRcH
import Derived.Deep.RegionHeld
namespace Go.Proofs.YtndmblhkmgnpcaaGreat
open Go.RowKit
set_option linter.unusedVariables false
set_option linter.unusedSimpArgs false

set_option maxRecDepth 100000 in
set_option maxHeartbeats 6400000 in
theorem rtell_1 (b o n c : Nat) (t : List UInt8) (hn : Hid (t.length = n)) (h9 : 119 ≤ n) (w : World) (q : Bool) (x a0 a1 a2 : Int) (hx : Hid (okH ((t.drop 1).take 6) = q ∧ pick q (gL ((t.drop 1).take 6)) = a0 ∧ pick q (gC ((t.drop 1).take 6)) = a1 ∧ pick q (gK ((t.drop 1).take 6)) = a2)) (hx7 : Hid ((vl ((t.drop 7).take 1) : Int) = x)) (y7 : ∀ w', Below w.heap.size w w' → w'.cell? ⟨b, o + 7, none⟩ = some (.int .u8 x)) (hr : Rd w (some ⟨b, o, none⟩) c t) (hk0 : Hid ((vl (t.take 1) : Int) = 1)) (y0 : ∀ w', Below w.heap.size w w' → w'.cell? ⟨b, o, none⟩ = some (.int .u8 1)) :
    Calls Tryz.prog 47 #[.slice (some ⟨b, o, none⟩) n c] w (RetTel w t) := by
  have hc2 : (c : Int) ≤ 9223372036854775807 := by have := hr.cap; omega
  have hc1 : (n : Int) ≤ c := by have := hr.len; have := hn.out; omega
  have HR := hid hr
  have pp : TwoR w ((w.alloc (.cells (#[.int .u8 0, .int .i64 0, .int .u8 0, .int .u8 0, .int .u32 0, .int .u8 0, .int .i64 0, .int .u8 0, .int .u32 0, .int .u8 0, .int .i64 0, .int .i64 0, .int .u8 0, .int .u32 0, .int .u8 0, .int .i64 0, .int .u8 0, .int .u32 0, .slice none 0 0, .int .i64 0, .int .i64 0, .int .u8 0, .int .u32 0, .bool false]) 40)).alloc (.cells (#[.int .u8 1, .int .i64 0, .int .u8 0, .int .u8 0, .int .u32 0, .int .u8 0, .int .i64 0, .int .u8 0, .int .u32 0, .int .u8 0, .int .i64 0, .int .i64 0, .int .u8 0, .int .u32 0, .int .u8 0, .int .i64 0, .int .u8 0, .int .u32 0, .slice none 0 0, .int .i64 0, .int .i64 0, .int .u8 0, .int .u32 0, .bool false]) 40)) zR none 0 0 ⟨1, 0, zO, 0, zG⟩ none 0 0 := twoR_new w zR none 0 0 ⟨1, 0, zO, 0, zG⟩ none 0 0
  have yA := y0 w (Below.refl _ _)
  have yB := fun o1 => y0 (w.alloc o1) (below1 w o1)
  have yC := fun o1 o2 => y0 ((w.alloc o1).alloc o2) (below2 w o1 o2)
  have hbl := World.block_lt_of_cell? _ _ yA
  clear hr
  obtain ⟨D, hrun, hD⟩ := cut_lh HR.out hn.out 1 6 1 7 rfl (by omega) (by omega)
  have HD := hid hD
  have HL6 := hid (show ((t.drop 1).take 6).length = 6 by rw [List.length_take, List.length_drop, hn.out]; omega)
  have hxr : 0 ≤ x ∧ x ≤ 255 := by
    have h := vl_lt ((t.drop 7).take 1)
    have hl : ((t.drop 7).take 1).length ≤ 1 := by simp; omega
    have h2 : 256 ^ ((t.drop 7).take 1).length ≤ 256 ^ 1 := Nat.pow_le_pow_right (by omega) hl
    have := hx7.out
    omega
  have HHAN := hid (show Han a0 a1 a2 by
    have := han_r q ((t.drop 1).take 6)
    rwa [hx.out.2.1, hx.out.2.2.1, hx.out.2.2.2] at this)
  have hwx : IntKind.i64.wrap x = x := by rw [IntKind.wrap_i64]; omega
  have HONE := hid (show ∀ r', Recr r' → mayR r' = true → rcb r' <+: t → er q = 0 ∧ r' = ⟨1, x, byO a0 a1 a2, 0, zG⟩ from fun r' h1 h2 h3 => by
    have hk : r'.kd = 1 := by rw [← first_of h1 h3, hk0.out]
    have hq := tells_1 h1 h2 h3 hk
    rw [hx.out.1] at hq
    refine ⟨by rw [hq]; rfl, ?_⟩
    rw [← rdRec_of h1 h2 h3, rdRec, if_pos hk0.out, hx.out.1, hx.out.2.1, hx.out.2.2.1, hx.out.2.2.2, hx7.out])
  clear hD hx7
  go_enter Tryz.func47, Tryz.ntmps47
  have one : True := trivial
  go_wp2_with (first
    | (go_at_call 71; generalize World.alloc (World.alloc w _) _ = W at pp ⊢; refine (rGetHandle_of q a0 a1 a2 D 6 (c - 1) ((t.drop 1).take 6) HL6 hx _ (HD.out.keep pp.be)).mono ?_; rintro e w1 ⟨rfl, b1⟩; have xb1 := pp.xb.keep b1; have ta1 := pp.ta.keep b1; have tb1 := pp.tb.keep b1; have hb1 := below_in pp.be b1)
    | (clear one; refine wpList_store_rh rfl (.tmp 22) (.tmp 19) rfl (w.heap.size + 1) rfl a0 a1 a2 rfl xb1 tb1 w.heap.size (Nat.le_succ _) ?_; intro w2 xb2 tb2 b2 h2 z2; have ta2 := ta1.other h2 (by omega); have hb2 := hb1.trans b2; have y72 := y7 w2 hb2; have cu := xb2.u; have fu := tb2.at_ 1 (by omega)))
  have F9 : Hid (Tin w (w2.setCell ⟨w.heap.size + 1, 1, none⟩ (.int .i64 x)) t ⟨1, x, byO a0 a1 a2, 0, zG⟩ none 0 0 (er q)) :=
    hid ⟨xb2.setU tb2 x, ta2.setc _ _ _, ⟨(by show (0 : Int) ≤ 1; omega), (by show (1 : Int) ≤ 255; omega), (by unfold In64; dsimp only; omega), opr_by HHAN.out, in64_0, zG_t⟩, rfl, OwnI.nil _ _ _, HONE.out, hb2.setCell (p := ⟨w.heap.size + 1, 1, none⟩) (Nat.le_succ _) _⟩
  clear y0 y7 yA yB yC y72 pp xb1 ta1 tb1 hb1 xb2 ta2 tb2 b2 h2 z2 hb2 cu fu b1 HONE hrun HD hx
  generalize er q = j at F9 ⊢
  generalize World.setCell w2 _ _ = Z at F9 ⊢
  generalize (⟨1, x, byO a0 a1 a2, 0, zG⟩ : Rec) = O at F9
  obtain ⟨A9, k9, c9, F9⟩ : ∃ A9 k9 c9, Hid (Tin w Z t O A9 k9 c9 j) := ⟨none, 0, 0, F9⟩
  have HK9 := hid F9.out.len
  obtain ⟨u, hu⟩ : ∃ u, mayR O = u := ⟨_, rfl⟩
  have HU := hid hu
  have HRR := hid F9.out.rr
  clear hu
  refine wp_region_held_drew (S := fun w' => BoxR w' (w.heap.size + 1) O A9 k9 c9) (by kernel_rfl) (F9.out.bx.keep (Below.refl _ _).drew) (fun hHeld => ?_)
  have S1 : Below Z.heap.size Z Z.drew := (Below.refl _ _).drew
  have HX := hid (F9.out.bx.keep S1)
  have HT := hid (F9.out.th.keep S1)
  have HRI := hid (F9.out.ow.keep S1)
  have HB := hid (below_in F9.out.be S1)
  have HONE := hid F9.out.one
  clear F9
  generalize Z.drew = V at *
  refine wpAnyH_take (i := 0) (oi := { dst := some 58, op := Op.load 40 (Operand.tmp 4), type := 40, pos := "ref.go:167", after := #[], guard := none }) rfl (by kernel_rfl) (by kernel_rfl) (by kernel_rfl) (fun _ _ _ h => h) (yields_load_r (by rfl) (.tmp 4) rfl (w.heap.size + 1) rfl (fun w9 h => h)) hHeld ?_
  (try simp only [Act.put, List.setIfInBounds_toArray, List.set_cons_zero, List.set_cons_succ])
  refine wpAnyH_take (i := 1) (oi := { dst := some 59, op := Op.move (Operand.tmp 5), type := 3, pos := "ref.go:167", after := #[], guard := none }) (v := ?_) rfl (by kernel_rfl) (by kernel_rfl) (by kernel_rfl) (fun _ _ _ h => h) (Or.inl ⟨by rfl, ?_⟩) hHeld ?_
  rotate_left
  · intro w9 hSw
    (try dsimp only at hSw)
    go_simp <;> with_reducible rfl
  (try simp only [Act.put, List.setIfInBounds_toArray, List.set_cons_zero, List.set_cons_succ])
  by_cases hj0 : j = 0
  · have HEQ := hid (show ∀ r', Recr r' → mayR r' = true → rcb r' <+: t → r' = O from fun r' h1 h2 h3 => (HONE.out r' h1 h2 h3).2)
    clear HONE
    subst hj0
    have hj0 : ((0 : Int) == 0) = true := rfl
    refine wpAnyH_take (i := 2) (oi := { dst := some 60, op := Op.binOp BinOp.eql 3 (Operand.tmp 59) (Operand.const (Value.int IntKind.i64 0)) 3, type := 4, pos := "ref.go:167", after := #[{ on := 1, ground := Ground.data }], guard := none }) (v := ?_) rfl (by kernel_rfl) (by kernel_rfl) (by kernel_rfl) (fun _ _ _ h => h) (Or.inl ⟨by rfl, ?_⟩) hHeld ?_
    rotate_left
    · intro w9 hSw
      (try dsimp only at hSw)
      have y := hj0
      go_simp <;> with_reducible rfl
    (try simp only [Act.put, List.setIfInBounds_toArray, List.set_cons_zero, List.set_cons_succ])
    refine wpAnyH_take (i := 3) (oi := { dst := some 61, op := Op.move (Operand.tmp 60), type := 4, pos := "ref.go:167", after := #[{ on := 2, ground := Ground.data }], guard := none }) (v := ?_) rfl (by kernel_rfl) (by kernel_rfl) (by kernel_rfl) (fun _ _ _ h => h) (Or.inl ⟨by rfl, ?_⟩) hHeld ?_
    rotate_left
    · intro w9 hSw
      (try dsimp only at hSw)
      go_simp <;> with_reducible rfl
    (try simp only [Act.put, List.setIfInBounds_toArray, List.set_cons_zero, List.set_cons_succ])
    refine wpAnyH_take (i := 4) (oi := { dst := some 62, op := Op.load 40 (Operand.tmp 4), type := 40, pos := "ref.go:167", after := #[{ on := 3, ground := Ground.guard }], guard := some (3, true) }) rfl (by kernel_rfl) (by kernel_rfl) (by kernel_rfl) (fun _ _ _ h => h) (yields_load_r (by rfl) (.tmp 4) rfl (w.heap.size + 1) rfl (fun w9 h => h)) hHeld ?_
    (try simp only [Act.put, List.setIfInBounds_toArray, List.set_cons_zero, List.set_cons_succ])
    refine wpAnyH_ready (rs := [5]) (by kernel_rfl) (by simp) ?_
    refine AllReadyH.cons rfl (fun K hK => ?_) AllReadyH.nil
    go_simp
    go_wp2_with (go_at_call 42; refine (rcmay_of u O A9 k9 c9 HK9 HRR.out HU _ HRI.out.ri).mono ?_; rintro e v1 ⟨rfl, b1⟩)
    have HX1 := hid (HX.out.keep b1)
    have HT1 := hid (HT.out.keep b1)
    have HRI1 := hid (HRI.out.keep b1)
    have HB1 := hid (below_in HB.out b1)
    refine hK.out _ _ HX1.out (fun hHeld1 => ?_)
    clear hK K hHeld HX HT HRI HB
    have hHeld := hHeld1
    have HX := HX1
    have HT := HT1
    have HRI := HRI1
    have HB := HB1
    clear hHeld1 HX1 HT1 HRI1 HB1 b1
    generalize v1 = V at *
    refine wpAnyH_take (i := 6) (oi := { dst := some 64, op := Op.pick (Operand.tmp 61) (Operand.tmp 63) (Operand.const (Value.bool false)), type := 4, pos := "ref.go:167", after := #[{ on := 3, ground := Ground.data }, { on := 5, ground := Ground.data }, { on := 7, ground := Ground.gcOnly Departure.lateStores }], guard := none }) (v := ?_) rfl (by kernel_rfl) (by kernel_rfl) (by kernel_rfl) (fun _ _ _ h => h) (Or.inl ⟨by rfl, ?_⟩) hHeld ?_
    rotate_left
    · intro w9 hSw
      (try dsimp only at hSw)
      go_simp <;> with_reducible rfl
    (try simp only [Act.put, List.setIfInBounds_toArray, List.set_cons_zero, List.set_cons_succ])
    refine wpAnyH_ready (rs := [7]) (by kernel_rfl) (by simp) ?_
    refine AllReadyH.cons rfl (fun K hK => ?_) AllReadyH.nil
    rw [if_pos (by rfl)]
    refine wp_store_mid 40 (.tmp 2) (.tmp 58) rfl w.heap.size 0 (#[.int .u8 O.kd, .int .i64 O.us, .int .u8 O.op.kd, .int .u8 O.op.l, .int .u32 O.op.c, .int .u8 O.op.k, .int .i64 O.op.s, .int .u8 O.op.fl, .int .u32 O.op.fc, .int .u8 O.op.fk, .int .i64 O.op.fn, .int .i64 O.op.fm, .int .u8 O.op.al, .int .u32 O.op.ac, .int .u8 O.op.ak, .int .i64 O.op.an, .int .u8 O.op.tl, .int .u32 O.op.tc, .slice A9 k9 c9, .int .i64 O.co, .int .i64 O.gr.u, .int .u8 O.gr.l, .int .u32 O.gr.c, .bool O.gr.ok]) rfl rfl (HT.out) info_R (by simp [Value.oneCell']) ?_
    (try simp only [Act.put, List.setIfInBounds_toArray, List.set_cons_zero, List.set_cons_succ])
    have bx0 : BoxR (World.setCells V w.heap.size 0 ([.int .u8 O.kd, .int .i64 O.us, .int .u8 O.op.kd, .int .u8 O.op.l, .int .u32 O.op.c, .int .u8 O.op.k, .int .i64 O.op.s, .int .u8 O.op.fl, .int .u32 O.op.fc, .int .u8 O.op.fk, .int .i64 O.op.fn, .int .i64 O.op.fm, .int .u8 O.op.al, .int .u32 O.op.ac, .int .u8 O.op.ak, .int .i64 O.op.an, .int .u8 O.op.tl, .int .u32 O.op.tc, .slice A9 k9 c9, .int .i64 O.co, .int .i64 O.gr.u, .int .u8 O.gr.l, .int .u32 O.gr.c, .bool O.gr.ok])) w.heap.size O A9 k9 c9 := World.rangeAt_setCells_same V w.heap.size 0 _ HT.out
    have bx1 : BoxR (World.setCells V w.heap.size 0 ([.int .u8 O.kd, .int .i64 O.us, .int .u8 O.op.kd, .int .u8 O.op.l, .int .u32 O.op.c, .int .u8 O.op.k, .int .i64 O.op.s, .int .u8 O.op.fl, .int .u32 O.op.fc, .int .u8 O.op.fk, .int .i64 O.op.fn, .int .i64 O.op.fm, .int .u8 O.op.al, .int .u32 O.op.ac, .int .u8 O.op.ak, .int .i64 O.op.an, .int .u8 O.op.tl, .int .u32 O.op.tc, .slice A9 k9 c9, .int .i64 O.co, .int .i64 O.gr.u, .int .u8 O.gr.l, .int .u32 O.gr.c, .bool O.gr.ok])) (w.heap.size + 1) O A9 k9 c9 := BoxR.other (b := w.heap.size) (fun k hk => heap_setCells w.heap.size _ 0 V k hk) (by omega) HX.out
    have hb9 : Below w.heap.size w (World.setCells V w.heap.size 0 ([.int .u8 O.kd, .int .i64 O.us, .int .u8 O.op.kd, .int .u8 O.op.l, .int .u32 O.op.c, .int .u8 O.op.k, .int .i64 O.op.s, .int .u8 O.op.fl, .int .u32 O.op.fc, .int .u8 O.op.fk, .int .i64 O.op.fn, .int .i64 O.op.fm, .int .u8 O.op.al, .int .u32 O.op.ac, .int .u8 O.op.ak, .int .i64 O.op.an, .int .u8 O.op.tl, .int .u32 O.op.tc, .slice A9 k9 c9, .int .i64 O.co, .int .i64 O.gr.u, .int .u8 O.gr.l, .int .u32 O.gr.c, .bool O.gr.ok])) := HB.out.trans (below_setCells w.heap.size w.heap.size (Nat.le_refl _) _ _ _)
    have hri : OwnI (World.setCells V w.heap.size 0 ([.int .u8 O.kd, .int .i64 O.us, .int .u8 O.op.kd, .int .u8 O.op.l, .int .u32 O.op.c, .int .u8 O.op.k, .int .i64 O.op.s, .int .u8 O.op.fl, .int .u32 O.op.fc, .int .u8 O.op.fk, .int .i64 O.op.fn, .int .i64 O.op.fm, .int .u8 O.op.al, .int .u32 O.op.ac, .int .u8 O.op.ak, .int .i64 O.op.an, .int .u8 O.op.tl, .int .u32 O.op.tc, .slice A9 k9 c9, .int .i64 O.co, .int .i64 O.gr.u, .int .u8 O.gr.l, .int .u32 O.gr.c, .bool O.gr.ok])) (w.heap.size + 1) 21 A9 c9 O.op.row := HRI.out.other (b := w.heap.size) (fun k hk => heap_setCells w.heap.size _ 0 V k hk) (Nat.lt_succ_self _)
    refine hK.out _ _ bx1 (fun hHeld2 => ?_)
    clear hK K hHeld
    have hHeld := hHeld2
    clear hHeld2
    refine wpAnyH_take (i := 8) (oi := { dst := some 3, op := Op.assign (Operand.tmp 64), type := 4, pos := "ref.go:167", after := #[{ on := 6, ground := Ground.data }, { on := 7, ground := Ground.chain }, { on := 0, ground := Ground.phase }, { on := 1, ground := Ground.phase }, { on := 2, ground := Ground.phase }, { on := 3, ground := Ground.phase }, { on := 4, ground := Ground.phase }, { on := 5, ground := Ground.phase }, { on := 6, ground := Ground.phase }, { on := 7, ground := Ground.phase }], guard := none }) (v := ?_) rfl (by kernel_rfl) (by kernel_rfl) (by kernel_rfl) (fun _ _ _ h => h) (Or.inl ⟨by rfl, ?_⟩) hHeld ?_
    rotate_left
    · intro w9 hSw
      (try dsimp only at hSw)
      go_simp <;> with_reducible rfl
    (try simp only [Act.put, List.setIfInBounds_toArray, List.set_cons_zero, List.set_cons_succ])
    refine wpAnyH_done (by kernel_rfl) ?_ _
    clear hHeld
    generalize World.setCells V w.heap.size 0 _ = V9 at *
    go_wp2_with fail
    exact bodyPost_ret (results_r1 rfl rfl bx0) rfl ⟨O, A9, k9, c9, u, rfl, ⟨HRR.out, fun h => (by rw [HU.out]; exact h), fun r' h1 h2 h3 => by have e := HEQ.out r' h1 h2 h3; refine ⟨?_, e⟩; rw [← HU.out, ← e]; exact h2⟩, HK9.out, OwnI.base (Nat.le_succ _) hri, hb9⟩
  · have HNO := hid (show ∀ r', Recr r' → mayR r' = true → rcb r' <+: t → False from fun r' h1 h2 h3 => hj0 (HONE.out r' h1 h2 h3).1)
    clear HONE
    replace hj0 : (j == 0) = false := by simpa using hj0
    refine wpAnyH_take (i := 2) (oi := { dst := some 60, op := Op.binOp BinOp.eql 3 (Operand.tmp 59) (Operand.const (Value.int IntKind.i64 0)) 3, type := 4, pos := "ref.go:167", after := #[{ on := 1, ground := Ground.data }], guard := none }) (v := ?_) rfl (by kernel_rfl) (by kernel_rfl) (by kernel_rfl) (fun _ _ _ h => h) (Or.inl ⟨by rfl, ?_⟩) hHeld ?_
    rotate_left
    · intro w9 hSw
      (try dsimp only at hSw)
      have y := hj0
      go_simp <;> with_reducible rfl
    (try simp only [Act.put, List.setIfInBounds_toArray, List.set_cons_zero, List.set_cons_succ])
    refine wpAnyH_take (i := 3) (oi := { dst := some 61, op := Op.move (Operand.tmp 60), type := 4, pos := "ref.go:167", after := #[{ on := 2, ground := Ground.data }], guard := none }) (v := ?_) rfl (by kernel_rfl) (by kernel_rfl) (by kernel_rfl) (fun _ _ _ h => h) (Or.inl ⟨by rfl, ?_⟩) hHeld ?_
    rotate_left
    · intro w9 hSw
      (try dsimp only at hSw)
      go_simp <;> with_reducible rfl
    (try simp only [Act.put, List.setIfInBounds_toArray, List.set_cons_zero, List.set_cons_succ])
    refine wpAnyH_take (i := 4) (oi := { dst := some 62, op := Op.load 40 (Operand.tmp 4), type := 40, pos := "ref.go:167", after := #[{ on := 3, ground := Ground.guard }], guard := some (3, true) }) (v := undef) rfl (by kernel_rfl) (by kernel_rfl) (by kernel_rfl) (fun _ _ _ h => h) (Or.inr ⟨by rfl, rfl⟩) hHeld ?_
    (try simp only [Act.put, List.setIfInBounds_toArray, List.set_cons_zero, List.set_cons_succ])
    refine wpAnyH_take (i := 5) (oi := { dst := some 63, op := Op.call { callee := Callee.value (Operand.func 42), args := #[Operand.tmp 62], argTypes := #[40] }, type := 4, pos := "ref.go:167", after := #[{ on := 4, ground := Ground.data }, { on := 3, ground := Ground.chain }, { on := 3, ground := Ground.guard }], guard := some (3, true) }) (v := undef) rfl (by kernel_rfl) (by kernel_rfl) (by kernel_rfl) (fun _ _ _ h => h) (Or.inr ⟨by rfl, rfl⟩) hHeld ?_
    (try simp only [Act.put, List.setIfInBounds_toArray, List.set_cons_zero, List.set_cons_succ])
    refine wpAnyH_take (i := 6) (oi := { dst := some 64, op := Op.pick (Operand.tmp 61) (Operand.tmp 63) (Operand.const (Value.bool false)), type := 4, pos := "ref.go:167", after := #[{ on := 3, ground := Ground.data }, { on := 5, ground := Ground.data }, { on := 7, ground := Ground.gcOnly Departure.lateStores }], guard := none }) (v := ?_) rfl (by kernel_rfl) (by kernel_rfl) (by kernel_rfl) (fun _ _ _ h => h) (Or.inl ⟨by rfl, ?_⟩) hHeld ?_
    rotate_left
    · intro w9 hSw
      (try dsimp only at hSw)
      go_simp <;> with_reducible rfl
    (try simp only [Act.put, List.setIfInBounds_toArray, List.set_cons_zero, List.set_cons_succ])
    refine wpAnyH_ready (rs := [7]) (by kernel_rfl) (by simp) ?_
    refine AllReadyH.cons rfl (fun K hK => ?_) AllReadyH.nil
    rw [if_pos (by rfl)]
    refine wp_store_mid 40 (.tmp 2) (.tmp 58) rfl w.heap.size 0 (#[.int .u8 O.kd, .int .i64 O.us, .int .u8 O.op.kd, .int .u8 O.op.l, .int .u32 O.op.c, .int .u8 O.op.k, .int .i64 O.op.s, .int .u8 O.op.fl, .int .u32 O.op.fc, .int .u8 O.op.fk, .int .i64 O.op.fn, .int .i64 O.op.fm, .int .u8 O.op.al, .int .u32 O.op.ac, .int .u8 O.op.ak, .int .i64 O.op.an, .int .u8 O.op.tl, .int .u32 O.op.tc, .slice A9 k9 c9, .int .i64 O.co, .int .i64 O.gr.u, .int .u8 O.gr.l, .int .u32 O.gr.c, .bool O.gr.ok]) rfl rfl (HT.out) info_R (by simp [Value.oneCell']) ?_
    (try simp only [Act.put, List.setIfInBounds_toArray, List.set_cons_zero, List.set_cons_succ])
    have bx0 : BoxR (World.setCells V w.heap.size 0 ([.int .u8 O.kd, .int .i64 O.us, .int .u8 O.op.kd, .int .u8 O.op.l, .int .u32 O.op.c, .int .u8 O.op.k, .int .i64 O.op.s, .int .u8 O.op.fl, .int .u32 O.op.fc, .int .u8 O.op.fk, .int .i64 O.op.fn, .int .i64 O.op.fm, .int .u8 O.op.al, .int .u32 O.op.ac, .int .u8 O.op.ak, .int .i64 O.op.an, .int .u8 O.op.tl, .int .u32 O.op.tc, .slice A9 k9 c9, .int .i64 O.co, .int .i64 O.gr.u, .int .u8 O.gr.l, .int .u32 O.gr.c, .bool O.gr.ok])) w.heap.size O A9 k9 c9 := World.rangeAt_setCells_same V w.heap.size 0 _ HT.out
    have bx1 : BoxR (World.setCells V w.heap.size 0 ([.int .u8 O.kd, .int .i64 O.us, .int .u8 O.op.kd, .int .u8 O.op.l, .int .u32 O.op.c, .int .u8 O.op.k, .int .i64 O.op.s, .int .u8 O.op.fl, .int .u32 O.op.fc, .int .u8 O.op.fk, .int .i64 O.op.fn, .int .i64 O.op.fm, .int .u8 O.op.al, .int .u32 O.op.ac, .int .u8 O.op.ak, .int .i64 O.op.an, .int .u8 O.op.tl, .int .u32 O.op.tc, .slice A9 k9 c9, .int .i64 O.co, .int .i64 O.gr.u, .int .u8 O.gr.l, .int .u32 O.gr.c, .bool O.gr.ok])) (w.heap.size + 1) O A9 k9 c9 := BoxR.other (b := w.heap.size) (fun k hk => heap_setCells w.heap.size _ 0 V k hk) (by omega) HX.out
    have hb9 : Below w.heap.size w (World.setCells V w.heap.size 0 ([.int .u8 O.kd, .int .i64 O.us, .int .u8 O.op.kd, .int .u8 O.op.l, .int .u32 O.op.c, .int .u8 O.op.k, .int .i64 O.op.s, .int .u8 O.op.fl, .int .u32 O.op.fc, .int .u8 O.op.fk, .int .i64 O.op.fn, .int .i64 O.op.fm, .int .u8 O.op.al, .int .u32 O.op.ac, .int .u8 O.op.ak, .int .i64 O.op.an, .int .u8 O.op.tl, .int .u32 O.op.tc, .slice A9 k9 c9, .int .i64 O.co, .int .i64 O.gr.u, .int .u8 O.gr.l, .int .u32 O.gr.c, .bool O.gr.ok])) := HB.out.trans (below_setCells w.heap.size w.heap.size (Nat.le_refl _) _ _ _)
    have hri : OwnI (World.setCells V w.heap.size 0 ([.int .u8 O.kd, .int .i64 O.us, .int .u8 O.op.kd, .int .u8 O.op.l, .int .u32 O.op.c, .int .u8 O.op.k, .int .i64 O.op.s, .int .u8 O.op.fl, .int .u32 O.op.fc, .int .u8 O.op.fk, .int .i64 O.op.fn, .int .i64 O.op.fm, .int .u8 O.op.al, .int .u32 O.op.ac, .int .u8 O.op.ak, .int .i64 O.op.an, .int .u8 O.op.tl, .int .u32 O.op.tc, .slice A9 k9 c9, .int .i64 O.co, .int .i64 O.gr.u, .int .u8 O.gr.l, .int .u32 O.gr.c, .bool O.gr.ok])) (w.heap.size + 1) 21 A9 c9 O.op.row := HRI.out.other (b := w.heap.size) (fun k hk => heap_setCells w.heap.size _ 0 V k hk) (Nat.lt_succ_self _)
    refine hK.out _ _ bx1 (fun hHeld2 => ?_)
    clear hK K hHeld
    have hHeld := hHeld2
    clear hHeld2
    refine wpAnyH_take (i := 8) (oi := { dst := some 3, op := Op.assign (Operand.tmp 64), type := 4, pos := "ref.go:167", after := #[{ on := 6, ground := Ground.data }, { on := 7, ground := Ground.chain }, { on := 0, ground := Ground.phase }, { on := 1, ground := Ground.phase }, { on := 2, ground := Ground.phase }, { on := 3, ground := Ground.phase }, { on := 4, ground := Ground.phase }, { on := 5, ground := Ground.phase }, { on := 6, ground := Ground.phase }, { on := 7, ground := Ground.phase }], guard := none }) (v := ?_) rfl (by kernel_rfl) (by kernel_rfl) (by kernel_rfl) (fun _ _ _ h => h) (Or.inl ⟨by rfl, ?_⟩) hHeld ?_
    rotate_left
    · intro w9 hSw
      (try dsimp only at hSw)
      go_simp <;> with_reducible rfl
    (try simp only [Act.put, List.setIfInBounds_toArray, List.set_cons_zero, List.set_cons_succ])
    refine wpAnyH_done (by kernel_rfl) ?_ _
    clear hHeld
    generalize World.setCells V w.heap.size 0 _ = V9 at *
    go_wp2_with fail
    exact bodyPost_ret (results_r1 rfl rfl bx0) rfl ⟨O, A9, k9, c9, false, rfl, ⟨HRR.out, fun h => (by cases h), fun r' h1 h2 h3 => (HNO.out r' h1 h2 h3).elim⟩, HK9.out, OwnI.base (Nat.le_succ _) hri, hb9⟩
set_option maxRecDepth 100000 in
set_option maxHeartbeats 6400000 in
theorem rtell_0 (b o n c : Nat) (t : List UInt8) (hn : Hid (t.length = n)) (h9 : 119 ≤ n) (w : World) (x0 : Int) (hx : 0 ≤ x0 ∧ x0 ≤ 255) (n1 : ¬ x0 = 1) (n2 : ¬ x0 = 2) (n3 : ¬ x0 = 3) (hr : Rd w (some ⟨b, o, none⟩) c t) (hk0 : Hid ((vl (t.take 1) : Int) = x0)) (y0 : ∀ w', Below w.heap.size w w' → w'.cell? ⟨b, o, none⟩ = some (.int .u8 x0)) :
    Calls Tryz.prog 47 #[.slice (some ⟨b, o, none⟩) n c] w (RetTel w t) := by
  have hc2 : (c : Int) ≤ 9223372036854775807 := by have := hr.cap; omega
  have hc1 : (n : Int) ≤ c := by have := hr.len; have := hn.out; omega
  have HR := hid hr
  have pp : TwoR w ((w.alloc (.cells (#[.int .u8 0, .int .i64 0, .int .u8 0, .int .u8 0, .int .u32 0, .int .u8 0, .int .i64 0, .int .u8 0, .int .u32 0, .int .u8 0, .int .i64 0, .int .i64 0, .int .u8 0, .int .u32 0, .int .u8 0, .int .i64 0, .int .u8 0, .int .u32 0, .slice none 0 0, .int .i64 0, .int .i64 0, .int .u8 0, .int .u32 0, .bool false]) 40)).alloc (.cells (#[.int .u8 x0, .int .i64 0, .int .u8 0, .int .u8 0, .int .u32 0, .int .u8 0, .int .i64 0, .int .u8 0, .int .u32 0, .int .u8 0, .int .i64 0, .int .i64 0, .int .u8 0, .int .u32 0, .int .u8 0, .int .i64 0, .int .u8 0, .int .u32 0, .slice none 0 0, .int .i64 0, .int .i64 0, .int .u8 0, .int .u32 0, .bool false]) 40)) zR none 0 0 ⟨x0, 0, zO, 0, zG⟩ none 0 0 := twoR_new w zR none 0 0 ⟨x0, 0, zO, 0, zG⟩ none 0 0
  have yA := y0 w (Below.refl _ _)
  have yB := fun o1 => y0 (w.alloc o1) (below1 w o1)
  have yC := fun o1 o2 => y0 ((w.alloc o1).alloc o2) (below2 w o1 o2)
  have hbl := World.block_lt_of_cell? _ _ yA
  clear hr
  have d1 : (x0 == 1) = false := by simpa using n1
  have d2 : (x0 == 2) = false := by simpa using n2
  have d3 : (x0 == 3) = false := by simpa using n3
  have HONE := hid (show ∀ r', Recr r' → mayR r' = true → rcb r' <+: t → (8 : Int) = 0 ∧ r' = ⟨x0, 0, zO, 0, zG⟩ from fun r' h1 h2 h3 => by
    have hk : r'.kd = x0 := by rw [← first_of h1 h3, hk0.out]
    have := kind_of h2
    omega)
  go_enter Tryz.func47, Tryz.ntmps47
  go_wp2_with fail
  have F9 := hid (show Tin w ((w.alloc (.cells (#[.int .u8 0, .int .i64 0, .int .u8 0, .int .u8 0, .int .u32 0, .int .u8 0, .int .i64 0, .int .u8 0, .int .u32 0, .int .u8 0, .int .i64 0, .int .i64 0, .int .u8 0, .int .u32 0, .int .u8 0, .int .i64 0, .int .u8 0, .int .u32 0, .slice none 0 0, .int .i64 0, .int .i64 0, .int .u8 0, .int .u32 0, .bool false]) 40)).alloc (.cells (#[.int .u8 x0, .int .i64 0, .int .u8 0, .int .u8 0, .int .u32 0, .int .u8 0, .int .i64 0, .int .u8 0, .int .u32 0, .int .u8 0, .int .i64 0, .int .i64 0, .int .u8 0, .int .u32 0, .int .u8 0, .int .i64 0, .int .u8 0, .int .u32 0, .slice none 0 0, .int .i64 0, .int .i64 0, .int .u8 0, .int .u32 0, .bool false]) 40)) t ⟨x0, 0, zO, 0, zG⟩ none 0 0 8 from ⟨pp.xb, pp.ta, ⟨hx.1, hx.2, in64_0, zO_r, in64_0, zG_t⟩, rfl, OwnI.nil _ _ _, HONE.out, pp.be⟩)
  clear y0 yA yB yC pp HONE
  generalize World.alloc (World.alloc w _) _ = Z at F9 ⊢
  generalize (⟨x0, 0, zO, 0, zG⟩ : Rec) = O at F9
  generalize (8 : Int) = j at F9 ⊢
  obtain ⟨A9, k9, c9, F9⟩ : ∃ A9 k9 c9, Hid (Tin w Z t O A9 k9 c9 j) := ⟨none, 0, 0, F9⟩
  have HK9 := hid F9.out.len
  obtain ⟨u, hu⟩ : ∃ u, mayR O = u := ⟨_, rfl⟩
  have HU := hid hu
  have HRR := hid F9.out.rr
  clear hu
  refine wp_region_held_drew (S := fun w' => BoxR w' (w.heap.size + 1) O A9 k9 c9) (by kernel_rfl) (F9.out.bx.keep (Below.refl _ _).drew) (fun hHeld => ?_)
  have S1 : Below Z.heap.size Z Z.drew := (Below.refl _ _).drew
  have HX := hid (F9.out.bx.keep S1)
  have HT := hid (F9.out.th.keep S1)
  have HRI := hid (F9.out.ow.keep S1)
  have HB := hid (below_in F9.out.be S1)
  have HONE := hid F9.out.one
  clear F9
  generalize Z.drew = V at *
  refine wpAnyH_take (i := 0) (oi := { dst := some 58, op := Op.load 40 (Operand.tmp 4), type := 40, pos := "ref.go:167", after := #[], guard := none }) rfl (by kernel_rfl) (by kernel_rfl) (by kernel_rfl) (fun _ _ _ h => h) (yields_load_r (by rfl) (.tmp 4) rfl (w.heap.size + 1) rfl (fun w9 h => h)) hHeld ?_
  (try simp only [Act.put, List.setIfInBounds_toArray, List.set_cons_zero, List.set_cons_succ])
  refine wpAnyH_take (i := 1) (oi := { dst := some 59, op := Op.move (Operand.tmp 5), type := 3, pos := "ref.go:167", after := #[], guard := none }) (v := ?_) rfl (by kernel_rfl) (by kernel_rfl) (by kernel_rfl) (fun _ _ _ h => h) (Or.inl ⟨by rfl, ?_⟩) hHeld ?_
  rotate_left
  · intro w9 hSw
    (try dsimp only at hSw)
    go_simp <;> with_reducible rfl
  (try simp only [Act.put, List.setIfInBounds_toArray, List.set_cons_zero, List.set_cons_succ])
  by_cases hj0 : j = 0
  · have HEQ := hid (show ∀ r', Recr r' → mayR r' = true → rcb r' <+: t → r' = O from fun r' h1 h2 h3 => (HONE.out r' h1 h2 h3).2)
    clear HONE
    subst hj0
    have hj0 : ((0 : Int) == 0) = true := rfl
    refine wpAnyH_take (i := 2) (oi := { dst := some 60, op := Op.binOp BinOp.eql 3 (Operand.tmp 59) (Operand.const (Value.int IntKind.i64 0)) 3, type := 4, pos := "ref.go:167", after := #[{ on := 1, ground := Ground.data }], guard := none }) (v := ?_) rfl (by kernel_rfl) (by kernel_rfl) (by kernel_rfl) (fun _ _ _ h => h) (Or.inl ⟨by rfl, ?_⟩) hHeld ?_
    rotate_left
    · intro w9 hSw
      (try dsimp only at hSw)
      have y := hj0
      go_simp <;> with_reducible rfl
    (try simp only [Act.put, List.setIfInBounds_toArray, List.set_cons_zero, List.set_cons_succ])
    refine wpAnyH_take (i := 3) (oi := { dst := some 61, op := Op.move (Operand.tmp 60), type := 4, pos := "ref.go:167", after := #[{ on := 2, ground := Ground.data }], guard := none }) (v := ?_) rfl (by kernel_rfl) (by kernel_rfl) (by kernel_rfl) (fun _ _ _ h => h) (Or.inl ⟨by rfl, ?_⟩) hHeld ?_
    rotate_left
    · intro w9 hSw
      (try dsimp only at hSw)
      go_simp <;> with_reducible rfl
    (try simp only [Act.put, List.setIfInBounds_toArray, List.set_cons_zero, List.set_cons_succ])
    refine wpAnyH_take (i := 4) (oi := { dst := some 62, op := Op.load 40 (Operand.tmp 4), type := 40, pos := "ref.go:167", after := #[{ on := 3, ground := Ground.guard }], guard := some (3, true) }) rfl (by kernel_rfl) (by kernel_rfl) (by kernel_rfl) (fun _ _ _ h => h) (yields_load_r (by rfl) (.tmp 4) rfl (w.heap.size + 1) rfl (fun w9 h => h)) hHeld ?_
    (try simp only [Act.put, List.setIfInBounds_toArray, List.set_cons_zero, List.set_cons_succ])
    refine wpAnyH_ready (rs := [5]) (by kernel_rfl) (by simp) ?_
    refine AllReadyH.cons rfl (fun K hK => ?_) AllReadyH.nil
    go_simp
    go_wp2_with (go_at_call 42; refine (rcmay_of u O A9 k9 c9 HK9 HRR.out HU _ HRI.out.ri).mono ?_; rintro e v1 ⟨rfl, b1⟩)
    have HX1 := hid (HX.out.keep b1)
    have HT1 := hid (HT.out.keep b1)
    have HRI1 := hid (HRI.out.keep b1)
    have HB1 := hid (below_in HB.out b1)
    refine hK.out _ _ HX1.out (fun hHeld1 => ?_)
    clear hK K hHeld HX HT HRI HB
    have hHeld := hHeld1
    have HX := HX1
    have HT := HT1
    have HRI := HRI1
    have HB := HB1
    clear hHeld1 HX1 HT1 HRI1 HB1 b1
    generalize v1 = V at *
    refine wpAnyH_take (i := 6) (oi := { dst := some 64, op := Op.pick (Operand.tmp 61) (Operand.tmp 63) (Operand.const (Value.bool false)), type := 4, pos := "ref.go:167", after := #[{ on := 3, ground := Ground.data }, { on := 5, ground := Ground.data }, { on := 7, ground := Ground.gcOnly Departure.lateStores }], guard := none }) (v := ?_) rfl (by kernel_rfl) (by kernel_rfl) (by kernel_rfl) (fun _ _ _ h => h) (Or.inl ⟨by rfl, ?_⟩) hHeld ?_
    rotate_left
    · intro w9 hSw
      (try dsimp only at hSw)
      go_simp <;> with_reducible rfl
    (try simp only [Act.put, List.setIfInBounds_toArray, List.set_cons_zero, List.set_cons_succ])
    refine wpAnyH_ready (rs := [7]) (by kernel_rfl) (by simp) ?_
    refine AllReadyH.cons rfl (fun K hK => ?_) AllReadyH.nil
    rw [if_pos (by rfl)]
    refine wp_store_mid 40 (.tmp 2) (.tmp 58) rfl w.heap.size 0 (#[.int .u8 O.kd, .int .i64 O.us, .int .u8 O.op.kd, .int .u8 O.op.l, .int .u32 O.op.c, .int .u8 O.op.k, .int .i64 O.op.s, .int .u8 O.op.fl, .int .u32 O.op.fc, .int .u8 O.op.fk, .int .i64 O.op.fn, .int .i64 O.op.fm, .int .u8 O.op.al, .int .u32 O.op.ac, .int .u8 O.op.ak, .int .i64 O.op.an, .int .u8 O.op.tl, .int .u32 O.op.tc, .slice A9 k9 c9, .int .i64 O.co, .int .i64 O.gr.u, .int .u8 O.gr.l, .int .u32 O.gr.c, .bool O.gr.ok]) rfl rfl (HT.out) info_R (by simp [Value.oneCell']) ?_
    (try simp only [Act.put, List.setIfInBounds_toArray, List.set_cons_zero, List.set_cons_succ])
    have bx0 : BoxR (World.setCells V w.heap.size 0 ([.int .u8 O.kd, .int .i64 O.us, .int .u8 O.op.kd, .int .u8 O.op.l, .int .u32 O.op.c, .int .u8 O.op.k, .int .i64 O.op.s, .int .u8 O.op.fl, .int .u32 O.op.fc, .int .u8 O.op.fk, .int .i64 O.op.fn, .int .i64 O.op.fm, .int .u8 O.op.al, .int .u32 O.op.ac, .int .u8 O.op.ak, .int .i64 O.op.an, .int .u8 O.op.tl, .int .u32 O.op.tc, .slice A9 k9 c9, .int .i64 O.co, .int .i64 O.gr.u, .int .u8 O.gr.l, .int .u32 O.gr.c, .bool O.gr.ok])) w.heap.size O A9 k9 c9 := World.rangeAt_setCells_same V w.heap.size 0 _ HT.out
    have bx1 : BoxR (World.setCells V w.heap.size 0 ([.int .u8 O.kd, .int .i64 O.us, .int .u8 O.op.kd, .int .u8 O.op.l, .int .u32 O.op.c, .int .u8 O.op.k, .int .i64 O.op.s, .int .u8 O.op.fl, .int .u32 O.op.fc, .int .u8 O.op.fk, .int .i64 O.op.fn, .int .i64 O.op.fm, .int .u8 O.op.al, .int .u32 O.op.ac, .int .u8 O.op.ak, .int .i64 O.op.an, .int .u8 O.op.tl, .int .u32 O.op.tc, .slice A9 k9 c9, .int .i64 O.co, .int .i64 O.gr.u, .int .u8 O.gr.l, .int .u32 O.gr.c, .bool O.gr.ok])) (w.heap.size + 1) O A9 k9 c9 := BoxR.other (b := w.heap.size) (fun k hk => heap_setCells w.heap.size _ 0 V k hk) (by omega) HX.out
    have hb9 : Below w.heap.size w (World.setCells V w.heap.size 0 ([.int .u8 O.kd, .int .i64 O.us, .int .u8 O.op.kd, .int .u8 O.op.l, .int .u32 O.op.c, .int .u8 O.op.k, .int .i64 O.op.s, .int .u8 O.op.fl, .int .u32 O.op.fc, .int .u8 O.op.fk, .int .i64 O.op.fn, .int .i64 O.op.fm, .int .u8 O.op.al, .int .u32 O.op.ac, .int .u8 O.op.ak, .int .i64 O.op.an, .int .u8 O.op.tl, .int .u32 O.op.tc, .slice A9 k9 c9, .int .i64 O.co, .int .i64 O.gr.u, .int .u8 O.gr.l, .int .u32 O.gr.c, .bool O.gr.ok])) := HB.out.trans (below_setCells w.heap.size w.heap.size (Nat.le_refl _) _ _ _)
    have hri : OwnI (World.setCells V w.heap.size 0 ([.int .u8 O.kd, .int .i64 O.us, .int .u8 O.op.kd, .int .u8 O.op.l, .int .u32 O.op.c, .int .u8 O.op.k, .int .i64 O.op.s, .int .u8 O.op.fl, .int .u32 O.op.fc, .int .u8 O.op.fk, .int .i64 O.op.fn, .int .i64 O.op.fm, .int .u8 O.op.al, .int .u32 O.op.ac, .int .u8 O.op.ak, .int .i64 O.op.an, .int .u8 O.op.tl, .int .u32 O.op.tc, .slice A9 k9 c9, .int .i64 O.co, .int .i64 O.gr.u, .int .u8 O.gr.l, .int .u32 O.gr.c, .bool O.gr.ok])) (w.heap.size + 1) 21 A9 c9 O.op.row := HRI.out.other (b := w.heap.size) (fun k hk => heap_setCells w.heap.size _ 0 V k hk) (Nat.lt_succ_self _)
    refine hK.out _ _ bx1 (fun hHeld2 => ?_)
    clear hK K hHeld
    have hHeld := hHeld2
    clear hHeld2
    refine wpAnyH_take (i := 8) (oi := { dst := some 3, op := Op.assign (Operand.tmp 64), type := 4, pos := "ref.go:167", after := #[{ on := 6, ground := Ground.data }, { on := 7, ground := Ground.chain }, { on := 0, ground := Ground.phase }, { on := 1, ground := Ground.phase }, { on := 2, ground := Ground.phase }, { on := 3, ground := Ground.phase }, { on := 4, ground := Ground.phase }, { on := 5, ground := Ground.phase }, { on := 6, ground := Ground.phase }, { on := 7, ground := Ground.phase }], guard := none }) (v := ?_) rfl (by kernel_rfl) (by kernel_rfl) (by kernel_rfl) (fun _ _ _ h => h) (Or.inl ⟨by rfl, ?_⟩) hHeld ?_
    rotate_left
    · intro w9 hSw
      (try dsimp only at hSw)
      go_simp <;> with_reducible rfl
    (try simp only [Act.put, List.setIfInBounds_toArray, List.set_cons_zero, List.set_cons_succ])
    refine wpAnyH_done (by kernel_rfl) ?_ _
    clear hHeld
    generalize World.setCells V w.heap.size 0 _ = V9 at *
    go_wp2_with fail
    exact bodyPost_ret (results_r1 rfl rfl bx0) rfl ⟨O, A9, k9, c9, u, rfl, ⟨HRR.out, fun h => (by rw [HU.out]; exact h), fun r' h1 h2 h3 => by have e := HEQ.out r' h1 h2 h3; refine ⟨?_, e⟩; rw [← HU.out, ← e]; exact h2⟩, HK9.out, OwnI.base (Nat.le_succ _) hri, hb9⟩
  · have HNO := hid (show ∀ r', Recr r' → mayR r' = true → rcb r' <+: t → False from fun r' h1 h2 h3 => hj0 (HONE.out r' h1 h2 h3).1)
    clear HONE
    replace hj0 : (j == 0) = false := by simpa using hj0
    refine wpAnyH_take (i := 2) (oi := { dst := some 60, op := Op.binOp BinOp.eql 3 (Operand.tmp 59) (Operand.const (Value.int IntKind.i64 0)) 3, type := 4, pos := "ref.go:167", after := #[{ on := 1, ground := Ground.data }], guard := none }) (v := ?_) rfl (by kernel_rfl) (by kernel_rfl) (by kernel_rfl) (fun _ _ _ h => h) (Or.inl ⟨by rfl, ?_⟩) hHeld ?_
    rotate_left
    · intro w9 hSw
      (try dsimp only at hSw)
      have y := hj0
      go_simp <;> with_reducible rfl
    (try simp only [Act.put, List.setIfInBounds_toArray, List.set_cons_zero, List.set_cons_succ])
    refine wpAnyH_take (i := 3) (oi := { dst := some 61, op := Op.move (Operand.tmp 60), type := 4, pos := "ref.go:167", after := #[{ on := 2, ground := Ground.data }], guard := none }) (v := ?_) rfl (by kernel_rfl) (by kernel_rfl) (by kernel_rfl) (fun _ _ _ h => h) (Or.inl ⟨by rfl, ?_⟩) hHeld ?_
    rotate_left
    · intro w9 hSw
      (try dsimp only at hSw)
      go_simp <;> with_reducible rfl
    (try simp only [Act.put, List.setIfInBounds_toArray, List.set_cons_zero, List.set_cons_succ])
    refine wpAnyH_take (i := 4) (oi := { dst := some 62, op := Op.load 40 (Operand.tmp 4), type := 40, pos := "ref.go:167", after := #[{ on := 3, ground := Ground.guard }], guard := some (3, true) }) (v := undef) rfl (by kernel_rfl) (by kernel_rfl) (by kernel_rfl) (fun _ _ _ h => h) (Or.inr ⟨by rfl, rfl⟩) hHeld ?_
    (try simp only [Act.put, List.setIfInBounds_toArray, List.set_cons_zero, List.set_cons_succ])
    refine wpAnyH_take (i := 5) (oi := { dst := some 63, op := Op.call { callee := Callee.value (Operand.func 42), args := #[Operand.tmp 62], argTypes := #[40] }, type := 4, pos := "ref.go:167", after := #[{ on := 4, ground := Ground.data }, { on := 3, ground := Ground.chain }, { on := 3, ground := Ground.guard }], guard := some (3, true) }) (v := undef) rfl (by kernel_rfl) (by kernel_rfl) (by kernel_rfl) (fun _ _ _ h => h) (Or.inr ⟨by rfl, rfl⟩) hHeld ?_
    (try simp only [Act.put, List.setIfInBounds_toArray, List.set_cons_zero, List.set_cons_succ])
    refine wpAnyH_take (i := 6) (oi := { dst := some 64, op := Op.pick (Operand.tmp 61) (Operand.tmp 63) (Operand.const (Value.bool false)), type := 4, pos := "ref.go:167", after := #[{ on := 3, ground := Ground.data }, { on := 5, ground := Ground.data }, { on := 7, ground := Ground.gcOnly Departure.lateStores }], guard := none }) (v := ?_) rfl (by kernel_rfl) (by kernel_rfl) (by kernel_rfl) (fun _ _ _ h => h) (Or.inl ⟨by rfl, ?_⟩) hHeld ?_
    rotate_left
    · intro w9 hSw
      (try dsimp only at hSw)
      go_simp <;> with_reducible rfl
    (try simp only [Act.put, List.setIfInBounds_toArray, List.set_cons_zero, List.set_cons_succ])
    refine wpAnyH_ready (rs := [7]) (by kernel_rfl) (by simp) ?_
    refine AllReadyH.cons rfl (fun K hK => ?_) AllReadyH.nil
    rw [if_pos (by rfl)]
    refine wp_store_mid 40 (.tmp 2) (.tmp 58) rfl w.heap.size 0 (#[.int .u8 O.kd, .int .i64 O.us, .int .u8 O.op.kd, .int .u8 O.op.l, .int .u32 O.op.c, .int .u8 O.op.k, .int .i64 O.op.s, .int .u8 O.op.fl, .int .u32 O.op.fc, .int .u8 O.op.fk, .int .i64 O.op.fn, .int .i64 O.op.fm, .int .u8 O.op.al, .int .u32 O.op.ac, .int .u8 O.op.ak, .int .i64 O.op.an, .int .u8 O.op.tl, .int .u32 O.op.tc, .slice A9 k9 c9, .int .i64 O.co, .int .i64 O.gr.u, .int .u8 O.gr.l, .int .u32 O.gr.c, .bool O.gr.ok]) rfl rfl (HT.out) info_R (by simp [Value.oneCell']) ?_
    (try simp only [Act.put, List.setIfInBounds_toArray, List.set_cons_zero, List.set_cons_succ])
    have bx0 : BoxR (World.setCells V w.heap.size 0 ([.int .u8 O.kd, .int .i64 O.us, .int .u8 O.op.kd, .int .u8 O.op.l, .int .u32 O.op.c, .int .u8 O.op.k, .int .i64 O.op.s, .int .u8 O.op.fl, .int .u32 O.op.fc, .int .u8 O.op.fk, .int .i64 O.op.fn, .int .i64 O.op.fm, .int .u8 O.op.al, .int .u32 O.op.ac, .int .u8 O.op.ak, .int .i64 O.op.an, .int .u8 O.op.tl, .int .u32 O.op.tc, .slice A9 k9 c9, .int .i64 O.co, .int .i64 O.gr.u, .int .u8 O.gr.l, .int .u32 O.gr.c, .bool O.gr.ok])) w.heap.size O A9 k9 c9 := World.rangeAt_setCells_same V w.heap.size 0 _ HT.out
    have bx1 : BoxR (World.setCells V w.heap.size 0 ([.int .u8 O.kd, .int .i64 O.us, .int .u8 O.op.kd, .int .u8 O.op.l, .int .u32 O.op.c, .int .u8 O.op.k, .int .i64 O.op.s, .int .u8 O.op.fl, .int .u32 O.op.fc, .int .u8 O.op.fk, .int .i64 O.op.fn, .int .i64 O.op.fm, .int .u8 O.op.al, .int .u32 O.op.ac, .int .u8 O.op.ak, .int .i64 O.op.an, .int .u8 O.op.tl, .int .u32 O.op.tc, .slice A9 k9 c9, .int .i64 O.co, .int .i64 O.gr.u, .int .u8 O.gr.l, .int .u32 O.gr.c, .bool O.gr.ok])) (w.heap.size + 1) O A9 k9 c9 := BoxR.other (b := w.heap.size) (fun k hk => heap_setCells w.heap.size _ 0 V k hk) (by omega) HX.out
    have hb9 : Below w.heap.size w (World.setCells V w.heap.size 0 ([.int .u8 O.kd, .int .i64 O.us, .int .u8 O.op.kd, .int .u8 O.op.l, .int .u32 O.op.c, .int .u8 O.op.k, .int .i64 O.op.s, .int .u8 O.op.fl, .int .u32 O.op.fc, .int .u8 O.op.fk, .int .i64 O.op.fn, .int .i64 O.op.fm, .int .u8 O.op.al, .int .u32 O.op.ac, .int .u8 O.op.ak, .int .i64 O.op.an, .int .u8 O.op.tl, .int .u32 O.op.tc, .slice A9 k9 c9, .int .i64 O.co, .int .i64 O.gr.u, .int .u8 O.gr.l, .int .u32 O.gr.c, .bool O.gr.ok])) := HB.out.trans (below_setCells w.heap.size w.heap.size (Nat.le_refl _) _ _ _)
    have hri : OwnI (World.setCells V w.heap.size 0 ([.int .u8 O.kd, .int .i64 O.us, .int .u8 O.op.kd, .int .u8 O.op.l, .int .u32 O.op.c, .int .u8 O.op.k, .int .i64 O.op.s, .int .u8 O.op.fl, .int .u32 O.op.fc, .int .u8 O.op.fk, .int .i64 O.op.fn, .int .i64 O.op.fm, .int .u8 O.op.al, .int .u32 O.op.ac, .int .u8 O.op.ak, .int .i64 O.op.an, .int .u8 O.op.tl, .int .u32 O.op.tc, .slice A9 k9 c9, .int .i64 O.co, .int .i64 O.gr.u, .int .u8 O.gr.l, .int .u32 O.gr.c, .bool O.gr.ok])) (w.heap.size + 1) 21 A9 c9 O.op.row := HRI.out.other (b := w.heap.size) (fun k hk => heap_setCells w.heap.size _ 0 V k hk) (Nat.lt_succ_self _)
    refine hK.out _ _ bx1 (fun hHeld2 => ?_)
    clear hK K hHeld
    have hHeld := hHeld2
    clear hHeld2
    refine wpAnyH_take (i := 8) (oi := { dst := some 3, op := Op.assign (Operand.tmp 64), type := 4, pos := "ref.go:167", after := #[{ on := 6, ground := Ground.data }, { on := 7, ground := Ground.chain }, { on := 0, ground := Ground.phase }, { on := 1, ground := Ground.phase }, { on := 2, ground := Ground.phase }, { on := 3, ground := Ground.phase }, { on := 4, ground := Ground.phase }, { on := 5, ground := Ground.phase }, { on := 6, ground := Ground.phase }, { on := 7, ground := Ground.phase }], guard := none }) (v := ?_) rfl (by kernel_rfl) (by kernel_rfl) (by kernel_rfl) (fun _ _ _ h => h) (Or.inl ⟨by rfl, ?_⟩) hHeld ?_
    rotate_left
    · intro w9 hSw
      (try dsimp only at hSw)
      go_simp <;> with_reducible rfl
    (try simp only [Act.put, List.setIfInBounds_toArray, List.set_cons_zero, List.set_cons_succ])
    refine wpAnyH_done (by kernel_rfl) ?_ _
    clear hHeld
    generalize World.setCells V w.heap.size 0 _ = V9 at *
    go_wp2_with fail
    exact bodyPost_ret (results_r1 rfl rfl bx0) rfl ⟨O, A9, k9, c9, false, rfl, ⟨HRR.out, fun h => (by cases h), fun r' h1 h2 h3 => (HNO.out r' h1 h2 h3).elim⟩, HK9.out, OwnI.base (Nat.le_succ _) hri, hb9⟩
end Go.Proofs.YtndmblhkmgnpcaaGreat
