/-
  The document's own answers of layer 11: what bytes tell.
-/
import Derived.Test.YtndmblhkmgnpcaaGreatRcH
import Derived.Deep.RegionHeld
namespace Go.Proofs.YtndmblhkmgnpcaaGreat
open Go.RowKit
set_option linter.unusedVariables false
set_option linter.unusedSimpArgs false

set_option maxRecDepth 100000 in
set_option maxHeartbeats 6400000 in
theorem rtell_2 (b o n c : Nat) (t : List UInt8) (hn : Hid (t.length = n)) (h9 : 119 ≤ n) (w : World) (x1 x2 : Int) (hx : Hid ((vl ((t.drop 1).take 2) : Int) = 256 * x1 + x2)) (r1 : 0 ≤ x1 ∧ x1 ≤ 255) (r2 : 0 ≤ x2 ∧ x2 ≤ 255) (y1 : ∀ w', Below w.heap.size w w' → w'.cell? ⟨b, o + 1, none⟩ = some (.int .u8 x1)) (y2 : ∀ w', Below w.heap.size w w' → w'.cell? ⟨b, o + 2, none⟩ = some (.int .u8 x2)) (hr : Rd w (some ⟨b, o, none⟩) c t) (hk0 : Hid ((vl (t.take 1) : Int) = 2)) (y0 : ∀ w', Below w.heap.size w w' → w'.cell? ⟨b, o, none⟩ = some (.int .u8 2)) :
    Calls Tryz.prog 47 #[.slice (some ⟨b, o, none⟩) n c] w (RetTel w t) := by
  have hc2 : (c : Int) ≤ 9223372036854775807 := by have := hr.cap; omega
  have hc1 : (n : Int) ≤ c := by have := hr.len; have := hn.out; omega
  have HR := hid hr
  have pp : TwoR w ((w.alloc (.cells (#[.int .u8 0, .int .i64 0, .int .u8 0, .int .u8 0, .int .u32 0, .int .u8 0, .int .i64 0, .int .u8 0, .int .u32 0, .int .u8 0, .int .i64 0, .int .i64 0, .int .u8 0, .int .u32 0, .int .u8 0, .int .i64 0, .int .u8 0, .int .u32 0, .slice none 0 0, .int .i64 0, .int .i64 0, .int .u8 0, .int .u32 0, .bool false]) 40)).alloc (.cells (#[.int .u8 2, .int .i64 0, .int .u8 0, .int .u8 0, .int .u32 0, .int .u8 0, .int .i64 0, .int .u8 0, .int .u32 0, .int .u8 0, .int .i64 0, .int .i64 0, .int .u8 0, .int .u32 0, .int .u8 0, .int .i64 0, .int .u8 0, .int .u32 0, .slice none 0 0, .int .i64 0, .int .i64 0, .int .u8 0, .int .u32 0, .bool false]) 40)) zR none 0 0 ⟨2, 0, zO, 0, zG⟩ none 0 0 := twoR_new w zR none 0 0 ⟨2, 0, zO, 0, zG⟩ none 0 0
  have yA := y0 w (Below.refl _ _)
  have yB := fun o1 => y0 (w.alloc o1) (below1 w o1)
  have yC := fun o1 o2 => y0 ((w.alloc o1).alloc o2) (below2 w o1 o2)
  have hbl := World.block_lt_of_cell? _ _ yA
  clear hr
  obtain ⟨m, hm⟩ : ∃ m, 3 + m = n := ⟨n - 3, by omega⟩
  obtain ⟨D, hrun, hD⟩ := cut_from HR.out hn.out 3 m 3 rfl hm
  have HD := hid hD
  have HL3 := hid (show (t.drop 3).length = m by rw [List.length_drop, hn.out]; omega)
  obtain ⟨z, hz⟩ : ∃ z, 256 * x1 + x2 = z := ⟨_, rfl⟩
  have HCO := hid (show In64 z by unfold In64; omega)
  have w1' : IntKind.i64.wrap x1 = x1 := by rw [IntKind.wrap_i64]; omega
  have w2' : IntKind.i64.wrap x2 = x2 := by rw [IntKind.wrap_i64]; omega
  have w3' : IntKind.i64.wrap (256 * x1) = 256 * x1 := by rw [IntKind.wrap_i64]; omega
  have w4' : IntKind.i64.wrap z = z := by rw [IntKind.wrap_i64]; omega
  have HONE := hid (show ∀ r', Recr r' → mayR r' = true → rcb r' <+: t → Begins (t.drop 3) r'.op ∧ r' = ⟨2, 0, r'.op, z, zG⟩ from fun r' h1 h2 h3 => by
    have hk : r'.kd = 2 := by rw [← first_of h1 h3, hk0.out]
    have hq := tells_2 h1 h2 h3 hk
    refine ⟨hq, ?_⟩
    have e := rdRec_of h1 h2 h3
    rw [rdRec, if_neg (by rw [hk0.out]; omega), if_pos hk0.out, hx.out, hz, rdO_of hq] at e
    exact e.symm)
  clear hD hx
  go_enter Tryz.func47, Tryz.ntmps47
  go_wp2_with fail
  have bx0 := pp.xb
  have ta0 := pp.ta
  have tb0 := pp.tb
  have hb0 := pp.be
  generalize World.alloc (World.alloc w _) _ = W at bx0 ta0 tb0 hb0 ⊢
  have e1 := y1 W hb0
  have e2 := y2 W hb0
  have cc := bx0.co
  have fc := tb0.at_ 19 (by omega)
  clear pp yA yB yC
  go_region
  have bx1 := (bx0.setCo tb0 z).keep ((Below.refl _ _).drew)
  have ta1 := (ta0.setc (w.heap.size + 1) 19 (.int .i64 z)).keep ((Below.refl _ _).drew)
  have tb1 := (tb0.setc (w.heap.size + 1) 19 (.int .i64 z)).keep ((Below.refl _ _).drew)
  have hb1 := (hb0.setCell (p := ⟨w.heap.size + 1, 19, none⟩) (Nat.le_succ _) (.int .i64 z)).drew
  generalize (World.setCell W _ _).drew = W1 at bx1 ta1 tb1 hb1 ⊢
  have hlt := tb1.lt
  clear bx0 ta0 tb0 hb0 e1 e2 cc fc
  have one : True := trivial
  go_wp2_with (first
    | (go_at_call 72; refine (rget9_of D m (c - 3) (t.drop 3) HL3 _ (HD.out.keep hb1)).mono ?_; rintro e w2 ⟨o2, A2, k2, c2, z2, j2, rfl, hgot, hk2, ho2, b2⟩; have HGOT := hid hgot; have HK2 := hid hk2; clear hgot hk2; have xb2 := bx1.keep b2; have ta2 := ta1.keep b2; have tb2 := tb1.keep b2; have hb2 := below_in hb1 b2)
    | (clear one; refine wpList_store_ro rfl (.tmp 48) (.tmp 45) rfl (w.heap.size + 1) rfl o2 A2 k2 c2 rfl xb2 tb2 w.heap.size (Nat.le_succ _) ?_; intro w3 xb3 tb3 b3 h3 z3; have ta3 := ta2.other h3 (by omega); have hb3 := hb2.trans b3; have ho3 := ho2.other h3 hlt))
  have HF := hid (got_one HGOT.out)
  have F9 : Hid (Tin w w3 t ⟨2, 0, o2, z, zG⟩ A2 k2 c2 j2) :=
    hid ⟨xb3, ta3, ⟨(by show (0 : Int) ≤ 2; omega), (by show (2 : Int) ≤ 255; omega), in64_0, got_opr HGOT.out, HCO.out, zG_t⟩, HK2.out, OwnI.base (by omega) ho3, fun r' h1 h2 h3 => (by
      obtain ⟨e1, e2⟩ := HONE.out r' h1 h2 h3
      obtain ⟨e3, e4⟩ := HF.out _ e1
      exact ⟨e3, by rw [e2, e4]⟩), hb3⟩
  clear y0 y1 y2 xb2 ta1 tb1 hb1 bx1 ta2 tb2 xb3 ta3 tb3 b2 b3 h3 z3 hb2 hb3 HONE hrun HD HF HGOT ho2 ho3 HCO HK2
  generalize w3 = Z at F9 ⊢
  generalize (⟨2, 0, o2, z, zG⟩ : Rec) = O at F9
  generalize j2 = j at F9 ⊢
  obtain ⟨A9, k9, c9, F9⟩ : ∃ A9 k9 c9, Hid (Tin w Z t O A9 k9 c9 j) := ⟨A2, k2, c2, F9⟩
  have HK9 := hid F9.out.len
  obtain ⟨u, hu⟩ : ∃ u, mayR O = u := ⟨_, rfl⟩
  have HU := hid hu
  have HRR := hid F9.out.rr
  clear hu
  refine wp_region_held_drew (S := fun w' => BoxR w' (w.heap.size + 1) O A9 k9 c9) (by kernel_rfl) (F9.out.bx.keep (Below.refl _ _).drew) (fun hHeld => ?_)
  have S1 : Below Z.heap.size Z Z.drew := (Below.refl _ _).drew
  have HX := hid (F9.out.bx.keep S1)
  have HT := hid (F9.out.th.keep S1)
  have HRI := hid (F9.out.ow.keep S1)
  have HB := hid (below_in F9.out.be S1)
  have HONE := hid F9.out.one
  clear F9
  generalize Z.drew = V at *
  refine wpAnyH_take (i := 0) (oi := { dst := some 58, op := Op.load 40 (Operand.tmp 4), type := 40, pos := "ref.go:167", after := #[], guard := none }) rfl (by kernel_rfl) (by kernel_rfl) (by kernel_rfl) (fun _ _ _ h => h) (yields_load_r (by rfl) (.tmp 4) rfl (w.heap.size + 1) rfl (fun w9 h => h)) hHeld ?_
  (try simp only [Act.put, List.setIfInBounds_toArray, List.set_cons_zero, List.set_cons_succ])
  refine wpAnyH_take (i := 1) (oi := { dst := some 59, op := Op.move (Operand.tmp 5), type := 3, pos := "ref.go:167", after := #[], guard := none }) (v := ?_) rfl (by kernel_rfl) (by kernel_rfl) (by kernel_rfl) (fun _ _ _ h => h) (Or.inl ⟨by rfl, ?_⟩) hHeld ?_
  rotate_left
  · intro w9 hSw
    (try dsimp only at hSw)
    go_simp <;> with_reducible rfl
  (try simp only [Act.put, List.setIfInBounds_toArray, List.set_cons_zero, List.set_cons_succ])
  by_cases hj0 : j = 0
  · have HEQ := hid (show ∀ r', Recr r' → mayR r' = true → rcb r' <+: t → r' = O from fun r' h1 h2 h3 => (HONE.out r' h1 h2 h3).2)
    clear HONE
    subst hj0
    have hj0 : ((0 : Int) == 0) = true := rfl
    refine wpAnyH_take (i := 2) (oi := { dst := some 60, op := Op.binOp BinOp.eql 3 (Operand.tmp 59) (Operand.const (Value.int IntKind.i64 0)) 3, type := 4, pos := "ref.go:167", after := #[{ on := 1, ground := Ground.data }], guard := none }) (v := ?_) rfl (by kernel_rfl) (by kernel_rfl) (by kernel_rfl) (fun _ _ _ h => h) (Or.inl ⟨by rfl, ?_⟩) hHeld ?_
    rotate_left
    · intro w9 hSw
      (try dsimp only at hSw)
      have y := hj0
      go_simp <;> with_reducible rfl
    (try simp only [Act.put, List.setIfInBounds_toArray, List.set_cons_zero, List.set_cons_succ])
    refine wpAnyH_take (i := 3) (oi := { dst := some 61, op := Op.move (Operand.tmp 60), type := 4, pos := "ref.go:167", after := #[{ on := 2, ground := Ground.data }], guard := none }) (v := ?_) rfl (by kernel_rfl) (by kernel_rfl) (by kernel_rfl) (fun _ _ _ h => h) (Or.inl ⟨by rfl, ?_⟩) hHeld ?_
    rotate_left
    · intro w9 hSw
      (try dsimp only at hSw)
      go_simp <;> with_reducible rfl
    (try simp only [Act.put, List.setIfInBounds_toArray, List.set_cons_zero, List.set_cons_succ])
    refine wpAnyH_take (i := 4) (oi := { dst := some 62, op := Op.load 40 (Operand.tmp 4), type := 40, pos := "ref.go:167", after := #[{ on := 3, ground := Ground.guard }], guard := some (3, true) }) rfl (by kernel_rfl) (by kernel_rfl) (by kernel_rfl) (fun _ _ _ h => h) (yields_load_r (by rfl) (.tmp 4) rfl (w.heap.size + 1) rfl (fun w9 h => h)) hHeld ?_
    (try simp only [Act.put, List.setIfInBounds_toArray, List.set_cons_zero, List.set_cons_succ])
    refine wpAnyH_ready (rs := [5]) (by kernel_rfl) (by simp) ?_
    refine AllReadyH.cons rfl (fun K hK => ?_) AllReadyH.nil
    go_simp
    go_wp2_with (go_at_call 42; refine (rcmay_of u O A9 k9 c9 HK9 HRR.out HU _ HRI.out.ri).mono ?_; rintro e v1 ⟨rfl, b1⟩)
    have HX1 := hid (HX.out.keep b1)
    have HT1 := hid (HT.out.keep b1)
    have HRI1 := hid (HRI.out.keep b1)
    have HB1 := hid (below_in HB.out b1)
    refine hK.out _ _ HX1.out (fun hHeld1 => ?_)
    clear hK K hHeld HX HT HRI HB
    have hHeld := hHeld1
    have HX := HX1
    have HT := HT1
    have HRI := HRI1
    have HB := HB1
    clear hHeld1 HX1 HT1 HRI1 HB1 b1
    generalize v1 = V at *
    refine wpAnyH_take (i := 6) (oi := { dst := some 64, op := Op.pick (Operand.tmp 61) (Operand.tmp 63) (Operand.const (Value.bool false)), type := 4, pos := "ref.go:167", after := #[{ on := 3, ground := Ground.data }, { on := 5, ground := Ground.data }, { on := 7, ground := Ground.gcOnly Departure.lateStores }], guard := none }) (v := ?_) rfl (by kernel_rfl) (by kernel_rfl) (by kernel_rfl) (fun _ _ _ h => h) (Or.inl ⟨by rfl, ?_⟩) hHeld ?_
    rotate_left
    · intro w9 hSw
      (try dsimp only at hSw)
      go_simp <;> with_reducible rfl
    (try simp only [Act.put, List.setIfInBounds_toArray, List.set_cons_zero, List.set_cons_succ])
    refine wpAnyH_ready (rs := [7]) (by kernel_rfl) (by simp) ?_
    refine AllReadyH.cons rfl (fun K hK => ?_) AllReadyH.nil
    rw [if_pos (by rfl)]
    refine wp_store_mid 40 (.tmp 2) (.tmp 58) rfl w.heap.size 0 (#[.int .u8 O.kd, .int .i64 O.us, .int .u8 O.op.kd, .int .u8 O.op.l, .int .u32 O.op.c, .int .u8 O.op.k, .int .i64 O.op.s, .int .u8 O.op.fl, .int .u32 O.op.fc, .int .u8 O.op.fk, .int .i64 O.op.fn, .int .i64 O.op.fm, .int .u8 O.op.al, .int .u32 O.op.ac, .int .u8 O.op.ak, .int .i64 O.op.an, .int .u8 O.op.tl, .int .u32 O.op.tc, .slice A9 k9 c9, .int .i64 O.co, .int .i64 O.gr.u, .int .u8 O.gr.l, .int .u32 O.gr.c, .bool O.gr.ok]) rfl rfl (HT.out) info_R (by simp [Value.oneCell']) ?_
    (try simp only [Act.put, List.setIfInBounds_toArray, List.set_cons_zero, List.set_cons_succ])
    have bx0 : BoxR (World.setCells V w.heap.size 0 ([.int .u8 O.kd, .int .i64 O.us, .int .u8 O.op.kd, .int .u8 O.op.l, .int .u32 O.op.c, .int .u8 O.op.k, .int .i64 O.op.s, .int .u8 O.op.fl, .int .u32 O.op.fc, .int .u8 O.op.fk, .int .i64 O.op.fn, .int .i64 O.op.fm, .int .u8 O.op.al, .int .u32 O.op.ac, .int .u8 O.op.ak, .int .i64 O.op.an, .int .u8 O.op.tl, .int .u32 O.op.tc, .slice A9 k9 c9, .int .i64 O.co, .int .i64 O.gr.u, .int .u8 O.gr.l, .int .u32 O.gr.c, .bool O.gr.ok])) w.heap.size O A9 k9 c9 := World.rangeAt_setCells_same V w.heap.size 0 _ HT.out
    have bx1 : BoxR (World.setCells V w.heap.size 0 ([.int .u8 O.kd, .int .i64 O.us, .int .u8 O.op.kd, .int .u8 O.op.l, .int .u32 O.op.c, .int .u8 O.op.k, .int .i64 O.op.s, .int .u8 O.op.fl, .int .u32 O.op.fc, .int .u8 O.op.fk, .int .i64 O.op.fn, .int .i64 O.op.fm, .int .u8 O.op.al, .int .u32 O.op.ac, .int .u8 O.op.ak, .int .i64 O.op.an, .int .u8 O.op.tl, .int .u32 O.op.tc, .slice A9 k9 c9, .int .i64 O.co, .int .i64 O.gr.u, .int .u8 O.gr.l, .int .u32 O.gr.c, .bool O.gr.ok])) (w.heap.size + 1) O A9 k9 c9 := BoxR.other (b := w.heap.size) (fun k hk => heap_setCells w.heap.size _ 0 V k hk) (by omega) HX.out
    have hb9 : Below w.heap.size w (World.setCells V w.heap.size 0 ([.int .u8 O.kd, .int .i64 O.us, .int .u8 O.op.kd, .int .u8 O.op.l, .int .u32 O.op.c, .int .u8 O.op.k, .int .i64 O.op.s, .int .u8 O.op.fl, .int .u32 O.op.fc, .int .u8 O.op.fk, .int .i64 O.op.fn, .int .i64 O.op.fm, .int .u8 O.op.al, .int .u32 O.op.ac, .int .u8 O.op.ak, .int .i64 O.op.an, .int .u8 O.op.tl, .int .u32 O.op.tc, .slice A9 k9 c9, .int .i64 O.co, .int .i64 O.gr.u, .int .u8 O.gr.l, .int .u32 O.gr.c, .bool O.gr.ok])) := HB.out.trans (below_setCells w.heap.size w.heap.size (Nat.le_refl _) _ _ _)
    have hri : OwnI (World.setCells V w.heap.size 0 ([.int .u8 O.kd, .int .i64 O.us, .int .u8 O.op.kd, .int .u8 O.op.l, .int .u32 O.op.c, .int .u8 O.op.k, .int .i64 O.op.s, .int .u8 O.op.fl, .int .u32 O.op.fc, .int .u8 O.op.fk, .int .i64 O.op.fn, .int .i64 O.op.fm, .int .u8 O.op.al, .int .u32 O.op.ac, .int .u8 O.op.ak, .int .i64 O.op.an, .int .u8 O.op.tl, .int .u32 O.op.tc, .slice A9 k9 c9, .int .i64 O.co, .int .i64 O.gr.u, .int .u8 O.gr.l, .int .u32 O.gr.c, .bool O.gr.ok])) (w.heap.size + 1) 21 A9 c9 O.op.row := HRI.out.other (b := w.heap.size) (fun k hk => heap_setCells w.heap.size _ 0 V k hk) (Nat.lt_succ_self _)
    refine hK.out _ _ bx1 (fun hHeld2 => ?_)
    clear hK K hHeld
    have hHeld := hHeld2
    clear hHeld2
    refine wpAnyH_take (i := 8) (oi := { dst := some 3, op := Op.assign (Operand.tmp 64), type := 4, pos := "ref.go:167", after := #[{ on := 6, ground := Ground.data }, { on := 7, ground := Ground.chain }, { on := 0, ground := Ground.phase }, { on := 1, ground := Ground.phase }, { on := 2, ground := Ground.phase }, { on := 3, ground := Ground.phase }, { on := 4, ground := Ground.phase }, { on := 5, ground := Ground.phase }, { on := 6, ground := Ground.phase }, { on := 7, ground := Ground.phase }], guard := none }) (v := ?_) rfl (by kernel_rfl) (by kernel_rfl) (by kernel_rfl) (fun _ _ _ h => h) (Or.inl ⟨by rfl, ?_⟩) hHeld ?_
    rotate_left
    · intro w9 hSw
      (try dsimp only at hSw)
      go_simp <;> with_reducible rfl
    (try simp only [Act.put, List.setIfInBounds_toArray, List.set_cons_zero, List.set_cons_succ])
    refine wpAnyH_done (by kernel_rfl) ?_ _
    clear hHeld
    generalize World.setCells V w.heap.size 0 _ = V9 at *
    go_wp2_with fail
    exact bodyPost_ret (results_r1 rfl rfl bx0) rfl ⟨O, A9, k9, c9, u, rfl, ⟨HRR.out, fun h => (by rw [HU.out]; exact h), fun r' h1 h2 h3 => by have e := HEQ.out r' h1 h2 h3; refine ⟨?_, e⟩; rw [← HU.out, ← e]; exact h2⟩, HK9.out, OwnI.base (Nat.le_succ _) hri, hb9⟩
  · have HNO := hid (show ∀ r', Recr r' → mayR r' = true → rcb r' <+: t → False from fun r' h1 h2 h3 => hj0 (HONE.out r' h1 h2 h3).1)
    clear HONE
    replace hj0 : (j == 0) = false := by simpa using hj0
    refine wpAnyH_take (i := 2) (oi := { dst := some 60, op := Op.binOp BinOp.eql 3 (Operand.tmp 59) (Operand.const (Value.int IntKind.i64 0)) 3, type := 4, pos := "ref.go:167", after := #[{ on := 1, ground := Ground.data }], guard := none }) (v := ?_) rfl (by kernel_rfl) (by kernel_rfl) (by kernel_rfl) (fun _ _ _ h => h) (Or.inl ⟨by rfl, ?_⟩) hHeld ?_
    rotate_left
    · intro w9 hSw
      (try dsimp only at hSw)
      have y := hj0
      go_simp <;> with_reducible rfl
    (try simp only [Act.put, List.setIfInBounds_toArray, List.set_cons_zero, List.set_cons_succ])
    refine wpAnyH_take (i := 3) (oi := { dst := some 61, op := Op.move (Operand.tmp 60), type := 4, pos := "ref.go:167", after := #[{ on := 2, ground := Ground.data }], guard := none }) (v := ?_) rfl (by kernel_rfl) (by kernel_rfl) (by kernel_rfl) (fun _ _ _ h => h) (Or.inl ⟨by rfl, ?_⟩) hHeld ?_
    rotate_left
    · intro w9 hSw
      (try dsimp only at hSw)
      go_simp <;> with_reducible rfl
    (try simp only [Act.put, List.setIfInBounds_toArray, List.set_cons_zero, List.set_cons_succ])
    refine wpAnyH_take (i := 4) (oi := { dst := some 62, op := Op.load 40 (Operand.tmp 4), type := 40, pos := "ref.go:167", after := #[{ on := 3, ground := Ground.guard }], guard := some (3, true) }) (v := undef) rfl (by kernel_rfl) (by kernel_rfl) (by kernel_rfl) (fun _ _ _ h => h) (Or.inr ⟨by rfl, rfl⟩) hHeld ?_
    (try simp only [Act.put, List.setIfInBounds_toArray, List.set_cons_zero, List.set_cons_succ])
    refine wpAnyH_take (i := 5) (oi := { dst := some 63, op := Op.call { callee := Callee.value (Operand.func 42), args := #[Operand.tmp 62], argTypes := #[40] }, type := 4, pos := "ref.go:167", after := #[{ on := 4, ground := Ground.data }, { on := 3, ground := Ground.chain }, { on := 3, ground := Ground.guard }], guard := some (3, true) }) (v := undef) rfl (by kernel_rfl) (by kernel_rfl) (by kernel_rfl) (fun _ _ _ h => h) (Or.inr ⟨by rfl, rfl⟩) hHeld ?_
    (try simp only [Act.put, List.setIfInBounds_toArray, List.set_cons_zero, List.set_cons_succ])
    refine wpAnyH_take (i := 6) (oi := { dst := some 64, op := Op.pick (Operand.tmp 61) (Operand.tmp 63) (Operand.const (Value.bool false)), type := 4, pos := "ref.go:167", after := #[{ on := 3, ground := Ground.data }, { on := 5, ground := Ground.data }, { on := 7, ground := Ground.gcOnly Departure.lateStores }], guard := none }) (v := ?_) rfl (by kernel_rfl) (by kernel_rfl) (by kernel_rfl) (fun _ _ _ h => h) (Or.inl ⟨by rfl, ?_⟩) hHeld ?_
    rotate_left
    · intro w9 hSw
      (try dsimp only at hSw)
      go_simp <;> with_reducible rfl
    (try simp only [Act.put, List.setIfInBounds_toArray, List.set_cons_zero, List.set_cons_succ])
    refine wpAnyH_ready (rs := [7]) (by kernel_rfl) (by simp) ?_
    refine AllReadyH.cons rfl (fun K hK => ?_) AllReadyH.nil
    rw [if_pos (by rfl)]
    refine wp_store_mid 40 (.tmp 2) (.tmp 58) rfl w.heap.size 0 (#[.int .u8 O.kd, .int .i64 O.us, .int .u8 O.op.kd, .int .u8 O.op.l, .int .u32 O.op.c, .int .u8 O.op.k, .int .i64 O.op.s, .int .u8 O.op.fl, .int .u32 O.op.fc, .int .u8 O.op.fk, .int .i64 O.op.fn, .int .i64 O.op.fm, .int .u8 O.op.al, .int .u32 O.op.ac, .int .u8 O.op.ak, .int .i64 O.op.an, .int .u8 O.op.tl, .int .u32 O.op.tc, .slice A9 k9 c9, .int .i64 O.co, .int .i64 O.gr.u, .int .u8 O.gr.l, .int .u32 O.gr.c, .bool O.gr.ok]) rfl rfl (HT.out) info_R (by simp [Value.oneCell']) ?_
    (try simp only [Act.put, List.setIfInBounds_toArray, List.set_cons_zero, List.set_cons_succ])
    have bx0 : BoxR (World.setCells V w.heap.size 0 ([.int .u8 O.kd, .int .i64 O.us, .int .u8 O.op.kd, .int .u8 O.op.l, .int .u32 O.op.c, .int .u8 O.op.k, .int .i64 O.op.s, .int .u8 O.op.fl, .int .u32 O.op.fc, .int .u8 O.op.fk, .int .i64 O.op.fn, .int .i64 O.op.fm, .int .u8 O.op.al, .int .u32 O.op.ac, .int .u8 O.op.ak, .int .i64 O.op.an, .int .u8 O.op.tl, .int .u32 O.op.tc, .slice A9 k9 c9, .int .i64 O.co, .int .i64 O.gr.u, .int .u8 O.gr.l, .int .u32 O.gr.c, .bool O.gr.ok])) w.heap.size O A9 k9 c9 := World.rangeAt_setCells_same V w.heap.size 0 _ HT.out
    have bx1 : BoxR (World.setCells V w.heap.size 0 ([.int .u8 O.kd, .int .i64 O.us, .int .u8 O.op.kd, .int .u8 O.op.l, .int .u32 O.op.c, .int .u8 O.op.k, .int .i64 O.op.s, .int .u8 O.op.fl, .int .u32 O.op.fc, .int .u8 O.op.fk, .int .i64 O.op.fn, .int .i64 O.op.fm, .int .u8 O.op.al, .int .u32 O.op.ac, .int .u8 O.op.ak, .int .i64 O.op.an, .int .u8 O.op.tl, .int .u32 O.op.tc, .slice A9 k9 c9, .int .i64 O.co, .int .i64 O.gr.u, .int .u8 O.gr.l, .int .u32 O.gr.c, .bool O.gr.ok])) (w.heap.size + 1) O A9 k9 c9 := BoxR.other (b := w.heap.size) (fun k hk => heap_setCells w.heap.size _ 0 V k hk) (by omega) HX.out
    have hb9 : Below w.heap.size w (World.setCells V w.heap.size 0 ([.int .u8 O.kd, .int .i64 O.us, .int .u8 O.op.kd, .int .u8 O.op.l, .int .u32 O.op.c, .int .u8 O.op.k, .int .i64 O.op.s, .int .u8 O.op.fl, .int .u32 O.op.fc, .int .u8 O.op.fk, .int .i64 O.op.fn, .int .i64 O.op.fm, .int .u8 O.op.al, .int .u32 O.op.ac, .int .u8 O.op.ak, .int .i64 O.op.an, .int .u8 O.op.tl, .int .u32 O.op.tc, .slice A9 k9 c9, .int .i64 O.co, .int .i64 O.gr.u, .int .u8 O.gr.l, .int .u32 O.gr.c, .bool O.gr.ok])) := HB.out.trans (below_setCells w.heap.size w.heap.size (Nat.le_refl _) _ _ _)
    have hri : OwnI (World.setCells V w.heap.size 0 ([.int .u8 O.kd, .int .i64 O.us, .int .u8 O.op.kd, .int .u8 O.op.l, .int .u32 O.op.c, .int .u8 O.op.k, .int .i64 O.op.s, .int .u8 O.op.fl, .int .u32 O.op.fc, .int .u8 O.op.fk, .int .i64 O.op.fn, .int .i64 O.op.fm, .int .u8 O.op.al, .int .u32 O.op.ac, .int .u8 O.op.ak, .int .i64 O.op.an, .int .u8 O.op.tl, .int .u32 O.op.tc, .slice A9 k9 c9, .int .i64 O.co, .int .i64 O.gr.u, .int .u8 O.gr.l, .int .u32 O.gr.c, .bool O.gr.ok])) (w.heap.size + 1) 21 A9 c9 O.op.row := HRI.out.other (b := w.heap.size) (fun k hk => heap_setCells w.heap.size _ 0 V k hk) (Nat.lt_succ_self _)
    refine hK.out _ _ bx1 (fun hHeld2 => ?_)
    clear hK K hHeld
    have hHeld := hHeld2
    clear hHeld2
    refine wpAnyH_take (i := 8) (oi := { dst := some 3, op := Op.assign (Operand.tmp 64), type := 4, pos := "ref.go:167", after := #[{ on := 6, ground := Ground.data }, { on := 7, ground := Ground.chain }, { on := 0, ground := Ground.phase }, { on := 1, ground := Ground.phase }, { on := 2, ground := Ground.phase }, { on := 3, ground := Ground.phase }, { on := 4, ground := Ground.phase }, { on := 5, ground := Ground.phase }, { on := 6, ground := Ground.phase }, { on := 7, ground := Ground.phase }], guard := none }) (v := ?_) rfl (by kernel_rfl) (by kernel_rfl) (by kernel_rfl) (fun _ _ _ h => h) (Or.inl ⟨by rfl, ?_⟩) hHeld ?_
    rotate_left
    · intro w9 hSw
      (try dsimp only at hSw)
      go_simp <;> with_reducible rfl
    (try simp only [Act.put, List.setIfInBounds_toArray, List.set_cons_zero, List.set_cons_succ])
    refine wpAnyH_done (by kernel_rfl) ?_ _
    clear hHeld
    generalize World.setCells V w.heap.size 0 _ = V9 at *
    go_wp2_with fail
    exact bodyPost_ret (results_r1 rfl rfl bx0) rfl ⟨O, A9, k9, c9, false, rfl, ⟨HRR.out, fun h => (by cases h), fun r' h1 h2 h3 => (HNO.out r' h1 h2 h3).elim⟩, HK9.out, OwnI.base (Nat.le_succ _) hri, hb9⟩
set_option maxRecDepth 100000 in
set_option maxHeartbeats 6400000 in
theorem rtell_3 (b o n c : Nat) (t : List UInt8) (hn : Hid (t.length = n)) (h9 : 119 ≤ n) (w : World) (q : Bool) (u l0 l1 : Int) (ok : Bool) (hx : Hid (okG ((t.drop 1).take 7) = q ∧ pickG q (gg ((t.drop 1).take 7)) = ⟨u, l0, l1, ok⟩)) (hr : Rd w (some ⟨b, o, none⟩) c t) (hk0 : Hid ((vl (t.take 1) : Int) = 3)) (y0 : ∀ w', Below w.heap.size w w' → w'.cell? ⟨b, o, none⟩ = some (.int .u8 3)) :
    Calls Tryz.prog 47 #[.slice (some ⟨b, o, none⟩) n c] w (RetTel w t) := by
  have hc2 : (c : Int) ≤ 9223372036854775807 := by have := hr.cap; omega
  have hc1 : (n : Int) ≤ c := by have := hr.len; have := hn.out; omega
  have HR := hid hr
  have pp : TwoR w ((w.alloc (.cells (#[.int .u8 0, .int .i64 0, .int .u8 0, .int .u8 0, .int .u32 0, .int .u8 0, .int .i64 0, .int .u8 0, .int .u32 0, .int .u8 0, .int .i64 0, .int .i64 0, .int .u8 0, .int .u32 0, .int .u8 0, .int .i64 0, .int .u8 0, .int .u32 0, .slice none 0 0, .int .i64 0, .int .i64 0, .int .u8 0, .int .u32 0, .bool false]) 40)).alloc (.cells (#[.int .u8 3, .int .i64 0, .int .u8 0, .int .u8 0, .int .u32 0, .int .u8 0, .int .i64 0, .int .u8 0, .int .u32 0, .int .u8 0, .int .i64 0, .int .i64 0, .int .u8 0, .int .u32 0, .int .u8 0, .int .i64 0, .int .u8 0, .int .u32 0, .slice none 0 0, .int .i64 0, .int .i64 0, .int .u8 0, .int .u32 0, .bool false]) 40)) zR none 0 0 ⟨3, 0, zO, 0, zG⟩ none 0 0 := twoR_new w zR none 0 0 ⟨3, 0, zO, 0, zG⟩ none 0 0
  have yA := y0 w (Below.refl _ _)
  have yB := fun o1 => y0 (w.alloc o1) (below1 w o1)
  have yC := fun o1 o2 => y0 ((w.alloc o1).alloc o2) (below2 w o1 o2)
  have hbl := World.block_lt_of_cell? _ _ yA
  clear hr
  obtain ⟨D, hrun, hD⟩ := cut_lh HR.out hn.out 1 7 1 8 rfl (by omega) (by omega)
  have HD := hid hD
  have HL7 := hid (show ((t.drop 1).take 7).length = 7 by rw [List.length_take, List.length_drop, hn.out]; omega)
  have HGT := hid (show Gr.typed ⟨u, l0, l1, ok⟩ by
    rw [← hx.out.2]
    cases hq : q
    · exact zG_t
    · have := hx.out.1
      rw [hq] at this
      exact (gget_put this).2.2.2)
  have HONE := hid (show ∀ r', Recr r' → mayR r' = true → rcb r' <+: t → er q = 0 ∧ r' = ⟨3, 0, zO, 0, ⟨u, l0, l1, ok⟩⟩ from fun r' h1 h2 h3 => by
    have hk : r'.kd = 3 := by rw [← first_of h1 h3, hk0.out]
    have hq := tells_3 h1 h2 h3 hk
    rw [hx.out.1] at hq
    refine ⟨by rw [hq]; rfl, ?_⟩
    rw [← rdRec_of h1 h2 h3, rdRec, if_neg (by rw [hk0.out]; omega), if_neg (by rw [hk0.out]; omega), if_pos hk0.out, hx.out.1, hx.out.2])
  clear hD
  go_enter Tryz.func47, Tryz.ntmps47
  have one : True := trivial
  go_wp2_with (first
    | (go_at_call 73; generalize World.alloc (World.alloc w _) _ = W at pp ⊢; refine (rgget_of q u l0 l1 ok D 7 (c - 1) ((t.drop 1).take 7) HL7 hx _ (HD.out.keep pp.be)).mono ?_; rintro e w1 ⟨rfl, b1⟩; have xb1 := pp.xb.keep b1; have ta1 := pp.ta.keep b1; have tb1 := pp.tb.keep b1; have hb1 := below_in pp.be b1)
    | (clear one; refine wpList_store_rg rfl (.tmp 57) (.tmp 55) rfl (w.heap.size + 1) rfl ⟨u, l0, l1, ok⟩ rfl xb1 tb1 w.heap.size (Nat.le_succ _) ?_; intro w2 xb2 tb2 b2 h2 z2; have ta2 := ta1.other h2 (by omega); have hb2 := hb1.trans b2))
  have F9 : Hid (Tin w w2 t ⟨3, 0, zO, 0, ⟨u, l0, l1, ok⟩⟩ none 0 0 (er q)) :=
    hid ⟨xb2, ta2, ⟨(by show (0 : Int) ≤ 3; omega), (by show (3 : Int) ≤ 255; omega), in64_0, zO_r, in64_0, HGT.out⟩, rfl, OwnI.nil _ _ _, HONE.out, hb2⟩
  clear y0 yA yB yC pp xb1 ta1 tb1 hb1 xb2 ta2 tb2 b2 h2 z2 hb2 b1 HONE hrun HD hx HGT
  generalize er q = j at F9 ⊢
  generalize w2 = Z at F9 ⊢
  generalize (⟨3, 0, zO, 0, ⟨u, l0, l1, ok⟩⟩ : Rec) = O at F9
  obtain ⟨A9, k9, c9, F9⟩ : ∃ A9 k9 c9, Hid (Tin w Z t O A9 k9 c9 j) := ⟨none, 0, 0, F9⟩
  have HK9 := hid F9.out.len
  obtain ⟨u, hu⟩ : ∃ u, mayR O = u := ⟨_, rfl⟩
  have HU := hid hu
  have HRR := hid F9.out.rr
  clear hu
  refine wp_region_held_drew (S := fun w' => BoxR w' (w.heap.size + 1) O A9 k9 c9) (by kernel_rfl) (F9.out.bx.keep (Below.refl _ _).drew) (fun hHeld => ?_)
  have S1 : Below Z.heap.size Z Z.drew := (Below.refl _ _).drew
  have HX := hid (F9.out.bx.keep S1)
  have HT := hid (F9.out.th.keep S1)
  have HRI := hid (F9.out.ow.keep S1)
  have HB := hid (below_in F9.out.be S1)
  have HONE := hid F9.out.one
  clear F9
  generalize Z.drew = V at *
  refine wpAnyH_take (i := 0) (oi := { dst := some 58, op := Op.load 40 (Operand.tmp 4), type := 40, pos := "ref.go:167", after := #[], guard := none }) rfl (by kernel_rfl) (by kernel_rfl) (by kernel_rfl) (fun _ _ _ h => h) (yields_load_r (by rfl) (.tmp 4) rfl (w.heap.size + 1) rfl (fun w9 h => h)) hHeld ?_
  (try simp only [Act.put, List.setIfInBounds_toArray, List.set_cons_zero, List.set_cons_succ])
  refine wpAnyH_take (i := 1) (oi := { dst := some 59, op := Op.move (Operand.tmp 5), type := 3, pos := "ref.go:167", after := #[], guard := none }) (v := ?_) rfl (by kernel_rfl) (by kernel_rfl) (by kernel_rfl) (fun _ _ _ h => h) (Or.inl ⟨by rfl, ?_⟩) hHeld ?_
  rotate_left
  · intro w9 hSw
    (try dsimp only at hSw)
    go_simp <;> with_reducible rfl
  (try simp only [Act.put, List.setIfInBounds_toArray, List.set_cons_zero, List.set_cons_succ])
  by_cases hj0 : j = 0
  · have HEQ := hid (show ∀ r', Recr r' → mayR r' = true → rcb r' <+: t → r' = O from fun r' h1 h2 h3 => (HONE.out r' h1 h2 h3).2)
    clear HONE
    subst hj0
    have hj0 : ((0 : Int) == 0) = true := rfl
    refine wpAnyH_take (i := 2) (oi := { dst := some 60, op := Op.binOp BinOp.eql 3 (Operand.tmp 59) (Operand.const (Value.int IntKind.i64 0)) 3, type := 4, pos := "ref.go:167", after := #[{ on := 1, ground := Ground.data }], guard := none }) (v := ?_) rfl (by kernel_rfl) (by kernel_rfl) (by kernel_rfl) (fun _ _ _ h => h) (Or.inl ⟨by rfl, ?_⟩) hHeld ?_
    rotate_left
    · intro w9 hSw
      (try dsimp only at hSw)
      have y := hj0
      go_simp <;> with_reducible rfl
    (try simp only [Act.put, List.setIfInBounds_toArray, List.set_cons_zero, List.set_cons_succ])
    refine wpAnyH_take (i := 3) (oi := { dst := some 61, op := Op.move (Operand.tmp 60), type := 4, pos := "ref.go:167", after := #[{ on := 2, ground := Ground.data }], guard := none }) (v := ?_) rfl (by kernel_rfl) (by kernel_rfl) (by kernel_rfl) (fun _ _ _ h => h) (Or.inl ⟨by rfl, ?_⟩) hHeld ?_
    rotate_left
    · intro w9 hSw
      (try dsimp only at hSw)
      go_simp <;> with_reducible rfl
    (try simp only [Act.put, List.setIfInBounds_toArray, List.set_cons_zero, List.set_cons_succ])
    refine wpAnyH_take (i := 4) (oi := { dst := some 62, op := Op.load 40 (Operand.tmp 4), type := 40, pos := "ref.go:167", after := #[{ on := 3, ground := Ground.guard }], guard := some (3, true) }) rfl (by kernel_rfl) (by kernel_rfl) (by kernel_rfl) (fun _ _ _ h => h) (yields_load_r (by rfl) (.tmp 4) rfl (w.heap.size + 1) rfl (fun w9 h => h)) hHeld ?_
    (try simp only [Act.put, List.setIfInBounds_toArray, List.set_cons_zero, List.set_cons_succ])
    refine wpAnyH_ready (rs := [5]) (by kernel_rfl) (by simp) ?_
    refine AllReadyH.cons rfl (fun K hK => ?_) AllReadyH.nil
    go_simp
    go_wp2_with (go_at_call 42; refine (rcmay_of u O A9 k9 c9 HK9 HRR.out HU _ HRI.out.ri).mono ?_; rintro e v1 ⟨rfl, b1⟩)
    have HX1 := hid (HX.out.keep b1)
    have HT1 := hid (HT.out.keep b1)
    have HRI1 := hid (HRI.out.keep b1)
    have HB1 := hid (below_in HB.out b1)
    refine hK.out _ _ HX1.out (fun hHeld1 => ?_)
    clear hK K hHeld HX HT HRI HB
    have hHeld := hHeld1
    have HX := HX1
    have HT := HT1
    have HRI := HRI1
    have HB := HB1
    clear hHeld1 HX1 HT1 HRI1 HB1 b1
    generalize v1 = V at *
    refine wpAnyH_take (i := 6) (oi := { dst := some 64, op := Op.pick (Operand.tmp 61) (Operand.tmp 63) (Operand.const (Value.bool false)), type := 4, pos := "ref.go:167", after := #[{ on := 3, ground := Ground.data }, { on := 5, ground := Ground.data }, { on := 7, ground := Ground.gcOnly Departure.lateStores }], guard := none }) (v := ?_) rfl (by kernel_rfl) (by kernel_rfl) (by kernel_rfl) (fun _ _ _ h => h) (Or.inl ⟨by rfl, ?_⟩) hHeld ?_
    rotate_left
    · intro w9 hSw
      (try dsimp only at hSw)
      go_simp <;> with_reducible rfl
    (try simp only [Act.put, List.setIfInBounds_toArray, List.set_cons_zero, List.set_cons_succ])
    refine wpAnyH_ready (rs := [7]) (by kernel_rfl) (by simp) ?_
    refine AllReadyH.cons rfl (fun K hK => ?_) AllReadyH.nil
    rw [if_pos (by rfl)]
    refine wp_store_mid 40 (.tmp 2) (.tmp 58) rfl w.heap.size 0 (#[.int .u8 O.kd, .int .i64 O.us, .int .u8 O.op.kd, .int .u8 O.op.l, .int .u32 O.op.c, .int .u8 O.op.k, .int .i64 O.op.s, .int .u8 O.op.fl, .int .u32 O.op.fc, .int .u8 O.op.fk, .int .i64 O.op.fn, .int .i64 O.op.fm, .int .u8 O.op.al, .int .u32 O.op.ac, .int .u8 O.op.ak, .int .i64 O.op.an, .int .u8 O.op.tl, .int .u32 O.op.tc, .slice A9 k9 c9, .int .i64 O.co, .int .i64 O.gr.u, .int .u8 O.gr.l, .int .u32 O.gr.c, .bool O.gr.ok]) rfl rfl (HT.out) info_R (by simp [Value.oneCell']) ?_
    (try simp only [Act.put, List.setIfInBounds_toArray, List.set_cons_zero, List.set_cons_succ])
    have bx0 : BoxR (World.setCells V w.heap.size 0 ([.int .u8 O.kd, .int .i64 O.us, .int .u8 O.op.kd, .int .u8 O.op.l, .int .u32 O.op.c, .int .u8 O.op.k, .int .i64 O.op.s, .int .u8 O.op.fl, .int .u32 O.op.fc, .int .u8 O.op.fk, .int .i64 O.op.fn, .int .i64 O.op.fm, .int .u8 O.op.al, .int .u32 O.op.ac, .int .u8 O.op.ak, .int .i64 O.op.an, .int .u8 O.op.tl, .int .u32 O.op.tc, .slice A9 k9 c9, .int .i64 O.co, .int .i64 O.gr.u, .int .u8 O.gr.l, .int .u32 O.gr.c, .bool O.gr.ok])) w.heap.size O A9 k9 c9 := World.rangeAt_setCells_same V w.heap.size 0 _ HT.out
    have bx1 : BoxR (World.setCells V w.heap.size 0 ([.int .u8 O.kd, .int .i64 O.us, .int .u8 O.op.kd, .int .u8 O.op.l, .int .u32 O.op.c, .int .u8 O.op.k, .int .i64 O.op.s, .int .u8 O.op.fl, .int .u32 O.op.fc, .int .u8 O.op.fk, .int .i64 O.op.fn, .int .i64 O.op.fm, .int .u8 O.op.al, .int .u32 O.op.ac, .int .u8 O.op.ak, .int .i64 O.op.an, .int .u8 O.op.tl, .int .u32 O.op.tc, .slice A9 k9 c9, .int .i64 O.co, .int .i64 O.gr.u, .int .u8 O.gr.l, .int .u32 O.gr.c, .bool O.gr.ok])) (w.heap.size + 1) O A9 k9 c9 := BoxR.other (b := w.heap.size) (fun k hk => heap_setCells w.heap.size _ 0 V k hk) (by omega) HX.out
    have hb9 : Below w.heap.size w (World.setCells V w.heap.size 0 ([.int .u8 O.kd, .int .i64 O.us, .int .u8 O.op.kd, .int .u8 O.op.l, .int .u32 O.op.c, .int .u8 O.op.k, .int .i64 O.op.s, .int .u8 O.op.fl, .int .u32 O.op.fc, .int .u8 O.op.fk, .int .i64 O.op.fn, .int .i64 O.op.fm, .int .u8 O.op.al, .int .u32 O.op.ac, .int .u8 O.op.ak, .int .i64 O.op.an, .int .u8 O.op.tl, .int .u32 O.op.tc, .slice A9 k9 c9, .int .i64 O.co, .int .i64 O.gr.u, .int .u8 O.gr.l, .int .u32 O.gr.c, .bool O.gr.ok])) := HB.out.trans (below_setCells w.heap.size w.heap.size (Nat.le_refl _) _ _ _)
    have hri : OwnI (World.setCells V w.heap.size 0 ([.int .u8 O.kd, .int .i64 O.us, .int .u8 O.op.kd, .int .u8 O.op.l, .int .u32 O.op.c, .int .u8 O.op.k, .int .i64 O.op.s, .int .u8 O.op.fl, .int .u32 O.op.fc, .int .u8 O.op.fk, .int .i64 O.op.fn, .int .i64 O.op.fm, .int .u8 O.op.al, .int .u32 O.op.ac, .int .u8 O.op.ak, .int .i64 O.op.an, .int .u8 O.op.tl, .int .u32 O.op.tc, .slice A9 k9 c9, .int .i64 O.co, .int .i64 O.gr.u, .int .u8 O.gr.l, .int .u32 O.gr.c, .bool O.gr.ok])) (w.heap.size + 1) 21 A9 c9 O.op.row := HRI.out.other (b := w.heap.size) (fun k hk => heap_setCells w.heap.size _ 0 V k hk) (Nat.lt_succ_self _)
    refine hK.out _ _ bx1 (fun hHeld2 => ?_)
    clear hK K hHeld
    have hHeld := hHeld2
    clear hHeld2
    refine wpAnyH_take (i := 8) (oi := { dst := some 3, op := Op.assign (Operand.tmp 64), type := 4, pos := "ref.go:167", after := #[{ on := 6, ground := Ground.data }, { on := 7, ground := Ground.chain }, { on := 0, ground := Ground.phase }, { on := 1, ground := Ground.phase }, { on := 2, ground := Ground.phase }, { on := 3, ground := Ground.phase }, { on := 4, ground := Ground.phase }, { on := 5, ground := Ground.phase }, { on := 6, ground := Ground.phase }, { on := 7, ground := Ground.phase }], guard := none }) (v := ?_) rfl (by kernel_rfl) (by kernel_rfl) (by kernel_rfl) (fun _ _ _ h => h) (Or.inl ⟨by rfl, ?_⟩) hHeld ?_
    rotate_left
    · intro w9 hSw
      (try dsimp only at hSw)
      go_simp <;> with_reducible rfl
    (try simp only [Act.put, List.setIfInBounds_toArray, List.set_cons_zero, List.set_cons_succ])
    refine wpAnyH_done (by kernel_rfl) ?_ _
    clear hHeld
    generalize World.setCells V w.heap.size 0 _ = V9 at *
    go_wp2_with fail
    exact bodyPost_ret (results_r1 rfl rfl bx0) rfl ⟨O, A9, k9, c9, u, rfl, ⟨HRR.out, fun h => (by rw [HU.out]; exact h), fun r' h1 h2 h3 => by have e := HEQ.out r' h1 h2 h3; refine ⟨?_, e⟩; rw [← HU.out, ← e]; exact h2⟩, HK9.out, OwnI.base (Nat.le_succ _) hri, hb9⟩
  · have HNO := hid (show ∀ r', Recr r' → mayR r' = true → rcb r' <+: t → False from fun r' h1 h2 h3 => hj0 (HONE.out r' h1 h2 h3).1)
    clear HONE
    replace hj0 : (j == 0) = false := by simpa using hj0
    refine wpAnyH_take (i := 2) (oi := { dst := some 60, op := Op.binOp BinOp.eql 3 (Operand.tmp 59) (Operand.const (Value.int IntKind.i64 0)) 3, type := 4, pos := "ref.go:167", after := #[{ on := 1, ground := Ground.data }], guard := none }) (v := ?_) rfl (by kernel_rfl) (by kernel_rfl) (by kernel_rfl) (fun _ _ _ h => h) (Or.inl ⟨by rfl, ?_⟩) hHeld ?_
    rotate_left
    · intro w9 hSw
      (try dsimp only at hSw)
      have y := hj0
      go_simp <;> with_reducible rfl
    (try simp only [Act.put, List.setIfInBounds_toArray, List.set_cons_zero, List.set_cons_succ])
    refine wpAnyH_take (i := 3) (oi := { dst := some 61, op := Op.move (Operand.tmp 60), type := 4, pos := "ref.go:167", after := #[{ on := 2, ground := Ground.data }], guard := none }) (v := ?_) rfl (by kernel_rfl) (by kernel_rfl) (by kernel_rfl) (fun _ _ _ h => h) (Or.inl ⟨by rfl, ?_⟩) hHeld ?_
    rotate_left
    · intro w9 hSw
      (try dsimp only at hSw)
      go_simp <;> with_reducible rfl
    (try simp only [Act.put, List.setIfInBounds_toArray, List.set_cons_zero, List.set_cons_succ])
    refine wpAnyH_take (i := 4) (oi := { dst := some 62, op := Op.load 40 (Operand.tmp 4), type := 40, pos := "ref.go:167", after := #[{ on := 3, ground := Ground.guard }], guard := some (3, true) }) (v := undef) rfl (by kernel_rfl) (by kernel_rfl) (by kernel_rfl) (fun _ _ _ h => h) (Or.inr ⟨by rfl, rfl⟩) hHeld ?_
    (try simp only [Act.put, List.setIfInBounds_toArray, List.set_cons_zero, List.set_cons_succ])
    refine wpAnyH_take (i := 5) (oi := { dst := some 63, op := Op.call { callee := Callee.value (Operand.func 42), args := #[Operand.tmp 62], argTypes := #[40] }, type := 4, pos := "ref.go:167", after := #[{ on := 4, ground := Ground.data }, { on := 3, ground := Ground.chain }, { on := 3, ground := Ground.guard }], guard := some (3, true) }) (v := undef) rfl (by kernel_rfl) (by kernel_rfl) (by kernel_rfl) (fun _ _ _ h => h) (Or.inr ⟨by rfl, rfl⟩) hHeld ?_
    (try simp only [Act.put, List.setIfInBounds_toArray, List.set_cons_zero, List.set_cons_succ])
    refine wpAnyH_take (i := 6) (oi := { dst := some 64, op := Op.pick (Operand.tmp 61) (Operand.tmp 63) (Operand.const (Value.bool false)), type := 4, pos := "ref.go:167", after := #[{ on := 3, ground := Ground.data }, { on := 5, ground := Ground.data }, { on := 7, ground := Ground.gcOnly Departure.lateStores }], guard := none }) (v := ?_) rfl (by kernel_rfl) (by kernel_rfl) (by kernel_rfl) (fun _ _ _ h => h) (Or.inl ⟨by rfl, ?_⟩) hHeld ?_
    rotate_left
    · intro w9 hSw
      (try dsimp only at hSw)
      go_simp <;> with_reducible rfl
    (try simp only [Act.put, List.setIfInBounds_toArray, List.set_cons_zero, List.set_cons_succ])
    refine wpAnyH_ready (rs := [7]) (by kernel_rfl) (by simp) ?_
    refine AllReadyH.cons rfl (fun K hK => ?_) AllReadyH.nil
    rw [if_pos (by rfl)]
    refine wp_store_mid 40 (.tmp 2) (.tmp 58) rfl w.heap.size 0 (#[.int .u8 O.kd, .int .i64 O.us, .int .u8 O.op.kd, .int .u8 O.op.l, .int .u32 O.op.c, .int .u8 O.op.k, .int .i64 O.op.s, .int .u8 O.op.fl, .int .u32 O.op.fc, .int .u8 O.op.fk, .int .i64 O.op.fn, .int .i64 O.op.fm, .int .u8 O.op.al, .int .u32 O.op.ac, .int .u8 O.op.ak, .int .i64 O.op.an, .int .u8 O.op.tl, .int .u32 O.op.tc, .slice A9 k9 c9, .int .i64 O.co, .int .i64 O.gr.u, .int .u8 O.gr.l, .int .u32 O.gr.c, .bool O.gr.ok]) rfl rfl (HT.out) info_R (by simp [Value.oneCell']) ?_
    (try simp only [Act.put, List.setIfInBounds_toArray, List.set_cons_zero, List.set_cons_succ])
    have bx0 : BoxR (World.setCells V w.heap.size 0 ([.int .u8 O.kd, .int .i64 O.us, .int .u8 O.op.kd, .int .u8 O.op.l, .int .u32 O.op.c, .int .u8 O.op.k, .int .i64 O.op.s, .int .u8 O.op.fl, .int .u32 O.op.fc, .int .u8 O.op.fk, .int .i64 O.op.fn, .int .i64 O.op.fm, .int .u8 O.op.al, .int .u32 O.op.ac, .int .u8 O.op.ak, .int .i64 O.op.an, .int .u8 O.op.tl, .int .u32 O.op.tc, .slice A9 k9 c9, .int .i64 O.co, .int .i64 O.gr.u, .int .u8 O.gr.l, .int .u32 O.gr.c, .bool O.gr.ok])) w.heap.size O A9 k9 c9 := World.rangeAt_setCells_same V w.heap.size 0 _ HT.out
    have bx1 : BoxR (World.setCells V w.heap.size 0 ([.int .u8 O.kd, .int .i64 O.us, .int .u8 O.op.kd, .int .u8 O.op.l, .int .u32 O.op.c, .int .u8 O.op.k, .int .i64 O.op.s, .int .u8 O.op.fl, .int .u32 O.op.fc, .int .u8 O.op.fk, .int .i64 O.op.fn, .int .i64 O.op.fm, .int .u8 O.op.al, .int .u32 O.op.ac, .int .u8 O.op.ak, .int .i64 O.op.an, .int .u8 O.op.tl, .int .u32 O.op.tc, .slice A9 k9 c9, .int .i64 O.co, .int .i64 O.gr.u, .int .u8 O.gr.l, .int .u32 O.gr.c, .bool O.gr.ok])) (w.heap.size + 1) O A9 k9 c9 := BoxR.other (b := w.heap.size) (fun k hk => heap_setCells w.heap.size _ 0 V k hk) (by omega) HX.out
    have hb9 : Below w.heap.size w (World.setCells V w.heap.size 0 ([.int .u8 O.kd, .int .i64 O.us, .int .u8 O.op.kd, .int .u8 O.op.l, .int .u32 O.op.c, .int .u8 O.op.k, .int .i64 O.op.s, .int .u8 O.op.fl, .int .u32 O.op.fc, .int .u8 O.op.fk, .int .i64 O.op.fn, .int .i64 O.op.fm, .int .u8 O.op.al, .int .u32 O.op.ac, .int .u8 O.op.ak, .int .i64 O.op.an, .int .u8 O.op.tl, .int .u32 O.op.tc, .slice A9 k9 c9, .int .i64 O.co, .int .i64 O.gr.u, .int .u8 O.gr.l, .int .u32 O.gr.c, .bool O.gr.ok])) := HB.out.trans (below_setCells w.heap.size w.heap.size (Nat.le_refl _) _ _ _)
    have hri : OwnI (World.setCells V w.heap.size 0 ([.int .u8 O.kd, .int .i64 O.us, .int .u8 O.op.kd, .int .u8 O.op.l, .int .u32 O.op.c, .int .u8 O.op.k, .int .i64 O.op.s, .int .u8 O.op.fl, .int .u32 O.op.fc, .int .u8 O.op.fk, .int .i64 O.op.fn, .int .i64 O.op.fm, .int .u8 O.op.al, .int .u32 O.op.ac, .int .u8 O.op.ak, .int .i64 O.op.an, .int .u8 O.op.tl, .int .u32 O.op.tc, .slice A9 k9 c9, .int .i64 O.co, .int .i64 O.gr.u, .int .u8 O.gr.l, .int .u32 O.gr.c, .bool O.gr.ok])) (w.heap.size + 1) 21 A9 c9 O.op.row := HRI.out.other (b := w.heap.size) (fun k hk => heap_setCells w.heap.size _ 0 V k hk) (Nat.lt_succ_self _)
    refine hK.out _ _ bx1 (fun hHeld2 => ?_)
    clear hK K hHeld
    have hHeld := hHeld2
    clear hHeld2
    refine wpAnyH_take (i := 8) (oi := { dst := some 3, op := Op.assign (Operand.tmp 64), type := 4, pos := "ref.go:167", after := #[{ on := 6, ground := Ground.data }, { on := 7, ground := Ground.chain }, { on := 0, ground := Ground.phase }, { on := 1, ground := Ground.phase }, { on := 2, ground := Ground.phase }, { on := 3, ground := Ground.phase }, { on := 4, ground := Ground.phase }, { on := 5, ground := Ground.phase }, { on := 6, ground := Ground.phase }, { on := 7, ground := Ground.phase }], guard := none }) (v := ?_) rfl (by kernel_rfl) (by kernel_rfl) (by kernel_rfl) (fun _ _ _ h => h) (Or.inl ⟨by rfl, ?_⟩) hHeld ?_
    rotate_left
    · intro w9 hSw
      (try dsimp only at hSw)
      go_simp <;> with_reducible rfl
    (try simp only [Act.put, List.setIfInBounds_toArray, List.set_cons_zero, List.set_cons_succ])
    refine wpAnyH_done (by kernel_rfl) ?_ _
    clear hHeld
    generalize World.setCells V w.heap.size 0 _ = V9 at *
    go_wp2_with fail
    exact bodyPost_ret (results_r1 rfl rfl bx0) rfl ⟨O, A9, k9, c9, false, rfl, ⟨HRR.out, fun h => (by cases h), fun r' h1 h2 h3 => (HNO.out r' h1 h2 h3).elim⟩, HK9.out, OwnI.base (Nat.le_succ _) hri, hb9⟩
end Go.Proofs.YtndmblhkmgnpcaaGreat
