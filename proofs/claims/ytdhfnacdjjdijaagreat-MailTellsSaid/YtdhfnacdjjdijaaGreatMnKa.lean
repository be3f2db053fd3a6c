/-
  The document's own Get of layer 10: kinds 1, 2, 3.
-/
import Derived.Test.YtdhfnacdjjdijaaGreatMnK0
namespace Go.Proofs.YtdhfnacdjjdijaaGreat
open Go.RowKit
set_option linter.unusedVariables false
set_option linter.unusedSimpArgs false

set_option maxRecDepth 100000 in
set_option maxHeartbeats 12800000 in
theorem rget_1 (b o n c : Nat) (l : List UInt8) (hn : Hid (l.length = n)) (w : World) (h0 : ¬ n = 0) (HR : Hid (Rd w (some ⟨b, o, none⟩) c l)) (HX : Hid (nu 1 l = 1)) (hc0' : w.cell? ⟨b, o, none⟩ = some (.int .u8 1)) :
    Calls Tryz.prog 17 #[.slice (some ⟨b, o, none⟩) n c] w (RetGR w l) := by
  have hc2 : (c : Int) ≤ 9223372036854775807 := by have := HR.out.cap; omega
  have hc1 : (n : Int) ≤ c := by have := HR.out.len; have := hn.out; omega
  have d0 : ((n : Int) == 0) = false := by simpa using (show ¬ (n : Int) = 0 by omega)
  have hblt := World.block_lt_of_cell? _ _ hc0'
  have hn0 : (0 : Int) < (n : Int) := by omega
  obtain ⟨z0, hz0⟩ : ∃ z, nu 1 (l.drop 1) = z := ⟨_, rfl⟩
  have Hz0 := hid hz0
  have one : True := trivial
  have HO := hid (show rdR l = ⟨1, z0, 0, 0, 0, 0, 0, 0, 0, 0, 0, []⟩ by rw [rdR, rdM, HX.out]; simp [-List.drop_one, rdK, isK, List.drop_drop, zM, hz0])
  clear hz0
  go_enter Tryz.func17, Tryz.ntmps17
  go_wp2_with (first
      | (go_at_call 32; clear one; refine (rnum_of 1 1 1 1 z0 _ n c l rfl rfl (by omega) (by omega) hn Hz0 _ (HR.out.keep (by go_grown))).mono ?_; rintro e w' ⟨rfl, rfl⟩))
  obtain ⟨O, A9, k9, c9, F9⟩ : ∃ O A9 k9 c9, Hid (Fing w ((w.alloc (.cells (#[.int .u8 0, .int .i64 0, .int .i64 0, .int .i64 0, .int .i64 0, .int .i64 0, .int .u8 0, .int .i64 0, .int .i64 0, .int .i64 0, .int .i64 0, .slice none 0 0]) 27)).alloc (.cells (#[.int .u8 1, .int .i64 z0, .int .i64 0, .int .i64 0, .int .i64 0, .int .i64 0, .int .u8 0, .int .i64 0, .int .i64 0, .int .i64 0, .int .i64 0, .slice none 0 0]) 27)) l O A9 k9 c9) :=
    ⟨⟨1, z0, 0, 0, 0, 0, 0, 0, 0, 0, 0, []⟩, none, 0, 0, hid ⟨boxM_two w _ ⟨1, z0, 0, 0, 0, 0, 0, 0, 0, 0, 0, []⟩ none 0 0 _, rfl, OwO.nil _ _, by rw [← HO.out]; exact rdR_r l, fun m' h => (rdR_of h).symm.trans HO.out, below2 w _ _, there1 w _⟩⟩
  clear HO
  generalize World.alloc (World.alloc w _) _ = Z at F9 ⊢
  have HK9 := hid F9.out.len
  cases hm : mayM O
  · have HM := hid hm
    have HN := hid (show ∀ m', ¬ Mis l m' from fun m' h => by
      have e := F9.out.one m' h
      have h1 := h.may
      rw [e, hm] at h1
      cases h1)
    clear hm
    refine wp_region_past (by kernel_rfl) (by kernel_rfl) ?_
    refine quiet_load_m (by rfl) (.tmp 4) rfl (w.heap.size + 1) rfl (BoxM.past F9.out.bx) ?_
    (try simp only [Act.put, List.setIfInBounds_toArray, List.set_cons_zero, List.set_cons_succ])
    go_big_quiet_step (exact quiet_below (rmmay_of false O A9 k9 c9 HK9 F9.out.r HM _ ((F9.out.rd.keep (Subtype.property _)).rd)))
    repeat (go_big_quiet_step (fail))
    refine wpQuiet_nil ?_
    intro _ hw'
    obtain ⟨x3, rfl⟩ := hw'
    have b9 := below_in (F9.out.be) x3.2
    have th9 := ThereM.keep (F9.out.th) x3.2
    clear F9
    generalize x3.1 = w3 at *
    go_wp2_with (refine wpList_store_m rfl (.tmp 2) (.tmp 92) rfl w.heap.size rfl zM none 0 0 rfl th9 w.heap.size (Nat.le_refl _) ?_; intro w4 bx4 th4 b4 hh4 sz4)
    exact bodyPost_ret (results_m2 rfl rfl bx4) rfl ⟨zM, none, 0, 0, 90, rfl, .inr ⟨HN.out, rfl, rfl⟩, rfl, RdO.nil _, b9.trans b4⟩
  · have HM := hid hm
    obtain ⟨q, hq⟩ : ∃ q, (mlb O == l) = q := ⟨_, rfl⟩
    have HQ := hid hq
    obtain ⟨m9, hm9⟩ : ∃ m, (mlb O).length = m := ⟨_, rfl⟩
    have HM9 := hid hm9
    clear hm hm9
    refine wp_region_held_drew (S := fun w' => Below Z.heap.size Z w') (by kernel_rfl) ((Below.refl _ _).drew) (fun hHeld => ?_)
    have S1 : Below Z.heap.size Z Z.drew := (Below.refl _ _).drew
    generalize Z.drew = V at *
    refine wpAnyH_take (i := 0) (oi := { dst := some 81, op := Op.load 27 (Operand.tmp 4), type := 27, pos := "ref.go:188", after := #[], guard := none }) rfl (by kernel_rfl) (by kernel_rfl) (by kernel_rfl) (fun _ _ _ h => h) (yields_load_m (by rfl) (.tmp 4) rfl (w.heap.size + 1) rfl (fun w9 h => F9.out.bx.keep h)) hHeld ?_
    (try simp only [Act.put, List.setIfInBounds_toArray, List.set_cons_zero, List.set_cons_succ])
    refine wpAnyH_ready (rs := [1]) (by kernel_rfl) (by simp) ?_
    refine AllReadyH.cons rfl (fun K hK => ?_) AllReadyH.nil
    go_simp
    go_wp2_with (go_at_call 28; refine (rmmay_of true O A9 k9 c9 HK9 F9.out.r HM _ (F9.out.rd.keep S1).rd).mono ?_; rintro e v1 ⟨rfl, b1⟩)
    have s1 := below_in S1 b1
    refine hK.out _ _ s1 (fun hHeld => ?_)
    clear hK K
    refine wpAnyH_take (i := 2) (oi := { dst := some 83, op := Op.unOp UnOp.not 4 (Operand.tmp 82), type := 4, pos := "ref.go:188", after := #[{ on := 1, ground := Ground.data }], guard := none }) (v := ?_) rfl (by kernel_rfl) (by kernel_rfl) (by kernel_rfl) (fun _ _ _ h => h) (Or.inl ⟨by rfl, ?_⟩) hHeld ?_
    rotate_left
    · intro w9 hSw
      (try dsimp only at hSw)
      go_simp <;> with_reducible rfl
    (try simp only [Act.put, List.setIfInBounds_toArray, List.set_cons_zero, List.set_cons_succ])
    refine wpAnyH_take (i := 3) (oi := { dst := some 84, op := Op.move (Operand.tmp 83), type := 4, pos := "ref.go:188", after := #[{ on := 2, ground := Ground.data }, { on := 1, ground := Ground.chain }], guard := none }) (v := ?_) rfl (by kernel_rfl) (by kernel_rfl) (by kernel_rfl) (fun _ _ _ h => h) (Or.inl ⟨by rfl, ?_⟩) hHeld ?_
    rotate_left
    · intro w9 hSw
      (try dsimp only at hSw)
      go_simp <;> with_reducible rfl
    (try simp only [Act.put, List.setIfInBounds_toArray, List.set_cons_zero, List.set_cons_succ])
    refine wpAnyH_take (i := 4) (oi := { dst := some 85, op := Op.load 27 (Operand.tmp 4), type := 27, pos := "ref.go:188", after := #[{ on := 3, ground := Ground.guard }], guard := some (3, false) }) rfl (by kernel_rfl) (by kernel_rfl) (by kernel_rfl) (fun _ _ _ h => h) (yields_load_m (by rfl) (.tmp 4) rfl (w.heap.size + 1) rfl (fun w9 h => F9.out.bx.keep h)) hHeld ?_
    (try simp only [Act.put, List.setIfInBounds_toArray, List.set_cons_zero, List.set_cons_succ])
    refine wpAnyH_take (i := 7) (oi := { dst := some 88, op := Op.move (Operand.tmp 0), type := 32, pos := "ref.go:188", after := #[{ on := 3, ground := Ground.guard }], guard := some (3, false) }) (v := ?_) rfl (by kernel_rfl) (by kernel_rfl) (by kernel_rfl) (fun _ _ _ h => h) (Or.inl ⟨by rfl, ?_⟩) hHeld ?_
    rotate_left
    · intro w9 hSw
      (try dsimp only at hSw)
      go_simp <;> with_reducible rfl
    (try simp only [Act.put, List.setIfInBounds_toArray, List.set_cons_zero, List.set_cons_succ])
    refine wpAnyH_take (i := 8) (oi := { dst := some 89, op := Op.convert 32 9 (Operand.tmp 88), type := 9, pos := "ref.go:188", after := #[{ on := 7, ground := Ground.data }, { on := 3, ground := Ground.guard }], guard := some (3, false) }) (v := ?_) rfl (by kernel_rfl) (by kernel_rfl) (by kernel_rfl) (fun _ _ _ h => h) (Or.inl ⟨by rfl, ?_⟩) hHeld ?_
    rotate_left
    · intro w9 hSw
      (try dsimp only at hSw)
      have y := rd_string hn (HR.out.keep (below_in F9.out.be hSw))
      go_simp <;> with_reducible rfl
    (try simp only [Act.put, List.setIfInBounds_toArray, List.set_cons_zero, List.set_cons_succ])
    refine wpAnyH_ready (rs := [5]) (by kernel_rfl) (by simp) ?_
    refine AllReadyH.cons rfl (fun K hK => ?_) AllReadyH.nil
    go_simp
    go_wp2_with (go_at_call 29; refine (rmbytes_of m9 O A9 k9 c9 HK9 F9.out.r HM.out HM9 _ (F9.out.rd.keep s1).rd).mono ?_; rintro e v2 ⟨A2, c2, rfl, hr2, b2⟩)
    have s2 := below_in s1 b2
    refine hK.out _ _ s2 (fun hHeld => ?_)
    clear hK K
    refine wpAnyH_mono (S' := fun w' => Below v2.heap.size v2 w') (fun _ h => below_in s2 h) _ _ _ _ ?_
    have hHeld3 := Below.refl v2.heap.size v2
    refine wpAnyH_take (i := 6) (oi := { dst := some 87, op := Op.convert 32 9 (Operand.tmp 86), type := 9, pos := "ref.go:188", after := #[{ on := 5, ground := Ground.data }, { on := 3, ground := Ground.guard }], guard := some (3, false) }) (v := ?_) rfl (by kernel_rfl) (by kernel_rfl) (by kernel_rfl) (fun _ _ _ h => h) (Or.inl ⟨by rfl, ?_⟩) hHeld3 ?_
    rotate_left
    · intro w9 hSw
      (try dsimp only at hSw)
      have y := rd_string HM9 (hr2.keep hSw)
      go_simp <;> with_reducible rfl
    (try simp only [Act.put, List.setIfInBounds_toArray, List.set_cons_zero, List.set_cons_succ])
    refine wpAnyH_take (i := 9) (oi := { dst := some 90, op := Op.binOp BinOp.neq 9 (Operand.tmp 87) (Operand.tmp 89) 9, type := 4, pos := "ref.go:188", after := #[{ on := 6, ground := Ground.data }, { on := 8, ground := Ground.data }, { on := 3, ground := Ground.guard }], guard := some (3, false) }) (v := ?_) rfl (by kernel_rfl) (by kernel_rfl) (by kernel_rfl) (fun _ _ _ h => h) (Or.inl ⟨by rfl, ?_⟩) hHeld3 ?_
    rotate_left
    · intro w9 hSw
      (try dsimp only at hSw)
      have y := hq
      go_simp <;> with_reducible rfl
    (try simp only [Act.put, List.setIfInBounds_toArray, List.set_cons_zero, List.set_cons_succ])
    refine wpAnyH_take (i := 10) (oi := { dst := some 91, op := Op.pick (Operand.tmp 84) (Operand.const (Value.bool true)) (Operand.tmp 90), type := 4, pos := "ref.go:188", after := #[{ on := 3, ground := Ground.data }, { on := 9, ground := Ground.data }], guard := none }) (v := ?_) rfl (by kernel_rfl) (by kernel_rfl) (by kernel_rfl) (fun _ _ _ h => h) (Or.inl ⟨by rfl, ?_⟩) hHeld3 ?_
    rotate_left
    · intro w9 hSw
      (try dsimp only at hSw)
      go_simp <;> with_reducible rfl
    (try simp only [Act.put, List.setIfInBounds_toArray, List.set_cons_zero, List.set_cons_succ])
    refine wpAnyH_done (by kernel_rfl) ?_ _
    have b9 := below_in F9.out.be s2
    have th9 := F9.out.th.keep s2
    have bx9 := F9.out.bx.keep s2
    have rd9 := hid (F9.out.rd.keep s2)
    have HR9 := hid F9.out.r
    cases q
    · have HN := hid (show ∀ m', ¬ Mis l m' from fun m' h => by
        have e := F9.out.one m' h
        have h1 := h.eq
        have h4 := HQ.out
        rw [e] at h1
        rw [h1] at h4
        simp at h4)
      clear hHeld hq F9 HQ hr2 bx9 rd9
      go_wp2_with (refine wpList_store_m rfl (.tmp 2) (.tmp 92) rfl w.heap.size rfl zM none 0 0 rfl th9 w.heap.size (Nat.le_refl _) ?_; intro w4 bx4 th4 b4 hh4 sz4)
      exact bodyPost_ret (results_m2 rfl rfl bx4) rfl ⟨zM, none, 0, 0, 90, rfl, .inr ⟨HN.out, rfl, rfl⟩, rfl, RdO.nil _, b9.trans b4⟩
    · have HB := hid (show Mis l O from ⟨F9.out.r, HM.out, eq_of_beq HQ.out⟩)
      clear hHeld hq F9 HQ hr2
      have one : True := trivial
      go_wp2_with (first
        | (clear one; refine wpList_load_m rfl (.tmp 4) rfl (w.heap.size + 1) rfl bx9 ?_)
        | (refine wpList_store_m rfl (.tmp 2) (.tmp 93) rfl w.heap.size rfl O A9 k9 c9 rfl th9 w.heap.size (Nat.le_refl _) ?_; intro w4 bx4 th4 b4 hh4 sz4))
      exact bodyPost_ret (results_m2 rfl rfl bx4) rfl ⟨O, A9, k9, c9, 0, rfl, .inl ⟨HB.out, rfl⟩, HK9.out, (rd9.out.far fun k' h1 h2 => hh4 k' (by omega)).rd, b9.trans b4⟩

set_option maxRecDepth 100000 in
set_option maxHeartbeats 12800000 in
theorem rget_2 (b o n c : Nat) (l : List UInt8) (hn : Hid (l.length = n)) (w : World) (h0 : ¬ n = 0) (HR : Hid (Rd w (some ⟨b, o, none⟩) c l)) (HX : Hid (nu 1 l = 2)) (hc0' : w.cell? ⟨b, o, none⟩ = some (.int .u8 2)) :
    Calls Tryz.prog 17 #[.slice (some ⟨b, o, none⟩) n c] w (RetGR w l) := by
  have hc2 : (c : Int) ≤ 9223372036854775807 := by have := HR.out.cap; omega
  have hc1 : (n : Int) ≤ c := by have := HR.out.len; have := hn.out; omega
  have d0 : ((n : Int) == 0) = false := by simpa using (show ¬ (n : Int) = 0 by omega)
  have hblt := World.block_lt_of_cell? _ _ hc0'
  have hn0 : (0 : Int) < (n : Int) := by omega
  obtain ⟨y, hy⟩ : ∃ y, rfO 1 (l.drop 1) = y := ⟨_, rfl⟩
  have HY := hid hy
  have HO := hid (show rdR l = ⟨2, 0, 0, 0, 0, 0, 0, 0, 0, 0, 0, y⟩ by rw [rdR, rdM, HX.out]; simp [-List.drop_one, rdK, isK, List.drop_drop, zM, hy])
  clear hy
  go_enter Tryz.func17, Tryz.ntmps17
  go_wp2_with (first
        | (go_at_call 33; refine (rread_of 1 1 1 1 _ n c l rfl rfl (by omega) (by omega) hn _ (HR.out.keep (by go_grown))).mono ?_; rintro e w1 ⟨A1, m1, c1, rfl, hm1, ho1, b1⟩; rw [HY.out] at hm1 ho1; have bx1 := (boxM_two w (.cells (#[.int .u8 0, .int .i64 0, .int .i64 0, .int .i64 0, .int .i64 0, .int .i64 0, .int .u8 0, .int .i64 0, .int .i64 0, .int .i64 0, .int .i64 0, .slice none 0 0]) 27) ⟨2, 0, 0, 0, 0, 0, 0, 0, 0, 0, 0, []⟩ none 0 0 27).keep b1; have th1 := ThereM.keep (there2 w (.cells (#[.int .u8 0, .int .i64 0, .int .i64 0, .int .i64 0, .int .i64 0, .int .i64 0, .int .u8 0, .int .i64 0, .int .i64 0, .int .i64 0, .int .i64 0, .slice none 0 0]) 27) (#[.int .u8 2, .int .i64 0, .int .i64 0, .int .i64 0, .int .i64 0, .int .i64 0, .int .u8 0, .int .i64 0, .int .i64 0, .int .i64 0, .int .i64 0, .slice none 0 0]) rfl) b1; have c11 := bx1.c11; have f11 := ThereM.at_ th1 11 (by omega)))
  have szX : ((w.alloc (.cells (#[.int .u8 0, .int .i64 0, .int .i64 0, .int .i64 0, .int .i64 0, .int .i64 0, .int .u8 0, .int .i64 0, .int .i64 0, .int .i64 0, .int .i64 0, .slice none 0 0]) 27)).alloc (.cells (#[.int .u8 2, .int .i64 0, .int .i64 0, .int .i64 0, .int .i64 0, .int .i64 0, .int .u8 0, .int .i64 0, .int .i64 0, .int .i64 0, .int .i64 0, .slice none 0 0]) 27)).heap.size = w.heap.size + 2 := size2 _ _ _
  obtain ⟨O, A9, k9, c9, F9⟩ : ∃ O A9 k9 c9, Hid (Fing w (w1.setCell ⟨w.heap.size + 1, 11, none⟩ (.slice A1 m1 c1)) l O A9 k9 c9) :=
    ⟨⟨2, 0, 0, 0, 0, 0, 0, 0, 0, 0, 0, y⟩, A1, m1, c1, hid ⟨setM11 bx1 th1 A1 m1 c1 y, hm1.out, (ho1.far fun k' h1 h2 => Below.heap_setCell w1 ⟨w.heap.size + 1, 11, none⟩ _ k' (by show k' ≠ w.heap.size + 1; omega)).base (by omega), by rw [← HO.out]; exact rdR_r l, fun m' h => (rdR_of h).symm.trans HO.out, (below_in (below2 w _ _) b1).setCell (p := ⟨w.heap.size + 1, 11, none⟩) (Nat.le_succ _) _, there_setc (ThereM.keep (there1 w _) b1) _ _ _⟩⟩
  clear bx1 th1 c11 f11 ho1 b1 szX HO
  generalize World.setCell w1 _ _ = Z at F9 ⊢
  have HK9 := hid F9.out.len
  cases hm : mayM O
  · have HM := hid hm
    have HN := hid (show ∀ m', ¬ Mis l m' from fun m' h => by
      have e := F9.out.one m' h
      have h1 := h.may
      rw [e, hm] at h1
      cases h1)
    clear hm
    refine wp_region_past (by kernel_rfl) (by kernel_rfl) ?_
    refine quiet_load_m (by rfl) (.tmp 4) rfl (w.heap.size + 1) rfl (BoxM.past F9.out.bx) ?_
    (try simp only [Act.put, List.setIfInBounds_toArray, List.set_cons_zero, List.set_cons_succ])
    go_big_quiet_step (exact quiet_below (rmmay_of false O A9 k9 c9 HK9 F9.out.r HM _ ((F9.out.rd.keep (Subtype.property _)).rd)))
    repeat (go_big_quiet_step (fail))
    refine wpQuiet_nil ?_
    intro _ hw'
    obtain ⟨x3, rfl⟩ := hw'
    have b9 := below_in (F9.out.be) x3.2
    have th9 := ThereM.keep (F9.out.th) x3.2
    clear F9
    generalize x3.1 = w3 at *
    go_wp2_with (refine wpList_store_m rfl (.tmp 2) (.tmp 92) rfl w.heap.size rfl zM none 0 0 rfl th9 w.heap.size (Nat.le_refl _) ?_; intro w4 bx4 th4 b4 hh4 sz4)
    exact bodyPost_ret (results_m2 rfl rfl bx4) rfl ⟨zM, none, 0, 0, 90, rfl, .inr ⟨HN.out, rfl, rfl⟩, rfl, RdO.nil _, b9.trans b4⟩
  · have HM := hid hm
    obtain ⟨q, hq⟩ : ∃ q, (mlb O == l) = q := ⟨_, rfl⟩
    have HQ := hid hq
    obtain ⟨m9, hm9⟩ : ∃ m, (mlb O).length = m := ⟨_, rfl⟩
    have HM9 := hid hm9
    clear hm hm9
    refine wp_region_held_drew (S := fun w' => Below Z.heap.size Z w') (by kernel_rfl) ((Below.refl _ _).drew) (fun hHeld => ?_)
    have S1 : Below Z.heap.size Z Z.drew := (Below.refl _ _).drew
    generalize Z.drew = V at *
    refine wpAnyH_take (i := 0) (oi := { dst := some 81, op := Op.load 27 (Operand.tmp 4), type := 27, pos := "ref.go:188", after := #[], guard := none }) rfl (by kernel_rfl) (by kernel_rfl) (by kernel_rfl) (fun _ _ _ h => h) (yields_load_m (by rfl) (.tmp 4) rfl (w.heap.size + 1) rfl (fun w9 h => F9.out.bx.keep h)) hHeld ?_
    (try simp only [Act.put, List.setIfInBounds_toArray, List.set_cons_zero, List.set_cons_succ])
    refine wpAnyH_ready (rs := [1]) (by kernel_rfl) (by simp) ?_
    refine AllReadyH.cons rfl (fun K hK => ?_) AllReadyH.nil
    go_simp
    go_wp2_with (go_at_call 28; refine (rmmay_of true O A9 k9 c9 HK9 F9.out.r HM _ (F9.out.rd.keep S1).rd).mono ?_; rintro e v1 ⟨rfl, b1⟩)
    have s1 := below_in S1 b1
    refine hK.out _ _ s1 (fun hHeld => ?_)
    clear hK K
    refine wpAnyH_take (i := 2) (oi := { dst := some 83, op := Op.unOp UnOp.not 4 (Operand.tmp 82), type := 4, pos := "ref.go:188", after := #[{ on := 1, ground := Ground.data }], guard := none }) (v := ?_) rfl (by kernel_rfl) (by kernel_rfl) (by kernel_rfl) (fun _ _ _ h => h) (Or.inl ⟨by rfl, ?_⟩) hHeld ?_
    rotate_left
    · intro w9 hSw
      (try dsimp only at hSw)
      go_simp <;> with_reducible rfl
    (try simp only [Act.put, List.setIfInBounds_toArray, List.set_cons_zero, List.set_cons_succ])
    refine wpAnyH_take (i := 3) (oi := { dst := some 84, op := Op.move (Operand.tmp 83), type := 4, pos := "ref.go:188", after := #[{ on := 2, ground := Ground.data }, { on := 1, ground := Ground.chain }], guard := none }) (v := ?_) rfl (by kernel_rfl) (by kernel_rfl) (by kernel_rfl) (fun _ _ _ h => h) (Or.inl ⟨by rfl, ?_⟩) hHeld ?_
    rotate_left
    · intro w9 hSw
      (try dsimp only at hSw)
      go_simp <;> with_reducible rfl
    (try simp only [Act.put, List.setIfInBounds_toArray, List.set_cons_zero, List.set_cons_succ])
    refine wpAnyH_take (i := 4) (oi := { dst := some 85, op := Op.load 27 (Operand.tmp 4), type := 27, pos := "ref.go:188", after := #[{ on := 3, ground := Ground.guard }], guard := some (3, false) }) rfl (by kernel_rfl) (by kernel_rfl) (by kernel_rfl) (fun _ _ _ h => h) (yields_load_m (by rfl) (.tmp 4) rfl (w.heap.size + 1) rfl (fun w9 h => F9.out.bx.keep h)) hHeld ?_
    (try simp only [Act.put, List.setIfInBounds_toArray, List.set_cons_zero, List.set_cons_succ])
    refine wpAnyH_take (i := 7) (oi := { dst := some 88, op := Op.move (Operand.tmp 0), type := 32, pos := "ref.go:188", after := #[{ on := 3, ground := Ground.guard }], guard := some (3, false) }) (v := ?_) rfl (by kernel_rfl) (by kernel_rfl) (by kernel_rfl) (fun _ _ _ h => h) (Or.inl ⟨by rfl, ?_⟩) hHeld ?_
    rotate_left
    · intro w9 hSw
      (try dsimp only at hSw)
      go_simp <;> with_reducible rfl
    (try simp only [Act.put, List.setIfInBounds_toArray, List.set_cons_zero, List.set_cons_succ])
    refine wpAnyH_take (i := 8) (oi := { dst := some 89, op := Op.convert 32 9 (Operand.tmp 88), type := 9, pos := "ref.go:188", after := #[{ on := 7, ground := Ground.data }, { on := 3, ground := Ground.guard }], guard := some (3, false) }) (v := ?_) rfl (by kernel_rfl) (by kernel_rfl) (by kernel_rfl) (fun _ _ _ h => h) (Or.inl ⟨by rfl, ?_⟩) hHeld ?_
    rotate_left
    · intro w9 hSw
      (try dsimp only at hSw)
      have y := rd_string hn (HR.out.keep (below_in F9.out.be hSw))
      go_simp <;> with_reducible rfl
    (try simp only [Act.put, List.setIfInBounds_toArray, List.set_cons_zero, List.set_cons_succ])
    refine wpAnyH_ready (rs := [5]) (by kernel_rfl) (by simp) ?_
    refine AllReadyH.cons rfl (fun K hK => ?_) AllReadyH.nil
    go_simp
    go_wp2_with (go_at_call 29; refine (rmbytes_of m9 O A9 k9 c9 HK9 F9.out.r HM.out HM9 _ (F9.out.rd.keep s1).rd).mono ?_; rintro e v2 ⟨A2, c2, rfl, hr2, b2⟩)
    have s2 := below_in s1 b2
    refine hK.out _ _ s2 (fun hHeld => ?_)
    clear hK K
    refine wpAnyH_mono (S' := fun w' => Below v2.heap.size v2 w') (fun _ h => below_in s2 h) _ _ _ _ ?_
    have hHeld3 := Below.refl v2.heap.size v2
    refine wpAnyH_take (i := 6) (oi := { dst := some 87, op := Op.convert 32 9 (Operand.tmp 86), type := 9, pos := "ref.go:188", after := #[{ on := 5, ground := Ground.data }, { on := 3, ground := Ground.guard }], guard := some (3, false) }) (v := ?_) rfl (by kernel_rfl) (by kernel_rfl) (by kernel_rfl) (fun _ _ _ h => h) (Or.inl ⟨by rfl, ?_⟩) hHeld3 ?_
    rotate_left
    · intro w9 hSw
      (try dsimp only at hSw)
      have y := rd_string HM9 (hr2.keep hSw)
      go_simp <;> with_reducible rfl
    (try simp only [Act.put, List.setIfInBounds_toArray, List.set_cons_zero, List.set_cons_succ])
    refine wpAnyH_take (i := 9) (oi := { dst := some 90, op := Op.binOp BinOp.neq 9 (Operand.tmp 87) (Operand.tmp 89) 9, type := 4, pos := "ref.go:188", after := #[{ on := 6, ground := Ground.data }, { on := 8, ground := Ground.data }, { on := 3, ground := Ground.guard }], guard := some (3, false) }) (v := ?_) rfl (by kernel_rfl) (by kernel_rfl) (by kernel_rfl) (fun _ _ _ h => h) (Or.inl ⟨by rfl, ?_⟩) hHeld3 ?_
    rotate_left
    · intro w9 hSw
      (try dsimp only at hSw)
      have y := hq
      go_simp <;> with_reducible rfl
    (try simp only [Act.put, List.setIfInBounds_toArray, List.set_cons_zero, List.set_cons_succ])
    refine wpAnyH_take (i := 10) (oi := { dst := some 91, op := Op.pick (Operand.tmp 84) (Operand.const (Value.bool true)) (Operand.tmp 90), type := 4, pos := "ref.go:188", after := #[{ on := 3, ground := Ground.data }, { on := 9, ground := Ground.data }], guard := none }) (v := ?_) rfl (by kernel_rfl) (by kernel_rfl) (by kernel_rfl) (fun _ _ _ h => h) (Or.inl ⟨by rfl, ?_⟩) hHeld3 ?_
    rotate_left
    · intro w9 hSw
      (try dsimp only at hSw)
      go_simp <;> with_reducible rfl
    (try simp only [Act.put, List.setIfInBounds_toArray, List.set_cons_zero, List.set_cons_succ])
    refine wpAnyH_done (by kernel_rfl) ?_ _
    have b9 := below_in F9.out.be s2
    have th9 := F9.out.th.keep s2
    have bx9 := F9.out.bx.keep s2
    have rd9 := hid (F9.out.rd.keep s2)
    have HR9 := hid F9.out.r
    cases q
    · have HN := hid (show ∀ m', ¬ Mis l m' from fun m' h => by
        have e := F9.out.one m' h
        have h1 := h.eq
        have h4 := HQ.out
        rw [e] at h1
        rw [h1] at h4
        simp at h4)
      clear hHeld hq F9 HQ hr2 bx9 rd9
      go_wp2_with (refine wpList_store_m rfl (.tmp 2) (.tmp 92) rfl w.heap.size rfl zM none 0 0 rfl th9 w.heap.size (Nat.le_refl _) ?_; intro w4 bx4 th4 b4 hh4 sz4)
      exact bodyPost_ret (results_m2 rfl rfl bx4) rfl ⟨zM, none, 0, 0, 90, rfl, .inr ⟨HN.out, rfl, rfl⟩, rfl, RdO.nil _, b9.trans b4⟩
    · have HB := hid (show Mis l O from ⟨F9.out.r, HM.out, eq_of_beq HQ.out⟩)
      clear hHeld hq F9 HQ hr2
      have one : True := trivial
      go_wp2_with (first
        | (clear one; refine wpList_load_m rfl (.tmp 4) rfl (w.heap.size + 1) rfl bx9 ?_)
        | (refine wpList_store_m rfl (.tmp 2) (.tmp 93) rfl w.heap.size rfl O A9 k9 c9 rfl th9 w.heap.size (Nat.le_refl _) ?_; intro w4 bx4 th4 b4 hh4 sz4))
      exact bodyPost_ret (results_m2 rfl rfl bx4) rfl ⟨O, A9, k9, c9, 0, rfl, .inl ⟨HB.out, rfl⟩, HK9.out, (rd9.out.far fun k' h1 h2 => hh4 k' (by omega)).rd, b9.trans b4⟩

set_option maxRecDepth 100000 in
set_option maxHeartbeats 12800000 in
theorem rget_3 (b o n c : Nat) (l : List UInt8) (hn : Hid (l.length = n)) (w : World) (h0 : ¬ n = 0) (HR : Hid (Rd w (some ⟨b, o, none⟩) c l)) (HX : Hid (nu 1 l = 3)) (hc0' : w.cell? ⟨b, o, none⟩ = some (.int .u8 3)) :
    Calls Tryz.prog 17 #[.slice (some ⟨b, o, none⟩) n c] w (RetGR w l) := by
  have hc2 : (c : Int) ≤ 9223372036854775807 := by have := HR.out.cap; omega
  have hc1 : (n : Int) ≤ c := by have := HR.out.len; have := hn.out; omega
  have d0 : ((n : Int) == 0) = false := by simpa using (show ¬ (n : Int) = 0 by omega)
  have hblt := World.block_lt_of_cell? _ _ hc0'
  have hn0 : (0 : Int) < (n : Int) := by omega
  obtain ⟨z0, hz0⟩ : ∃ z, nu 3 (l.drop 1) = z := ⟨_, rfl⟩
  have Hz0 := hid hz0
  have one : True := trivial
  have HO := hid (show rdR l = ⟨3, 0, 0, 0, z0, 0, 0, 0, 0, 0, 0, []⟩ by rw [rdR, rdM, HX.out]; simp [-List.drop_one, rdK, isK, List.drop_drop, zM, hz0])
  clear hz0
  go_enter Tryz.func17, Tryz.ntmps17
  go_wp2_with (first
      | (go_at_call 32; clear one; refine (rnum_of 3 1 1 3 z0 _ n c l rfl rfl (by omega) (by omega) hn Hz0 _ (HR.out.keep (by go_grown))).mono ?_; rintro e w' ⟨rfl, rfl⟩))
  obtain ⟨O, A9, k9, c9, F9⟩ : ∃ O A9 k9 c9, Hid (Fing w ((w.alloc (.cells (#[.int .u8 0, .int .i64 0, .int .i64 0, .int .i64 0, .int .i64 0, .int .i64 0, .int .u8 0, .int .i64 0, .int .i64 0, .int .i64 0, .int .i64 0, .slice none 0 0]) 27)).alloc (.cells (#[.int .u8 3, .int .i64 0, .int .i64 0, .int .i64 0, .int .i64 z0, .int .i64 0, .int .u8 0, .int .i64 0, .int .i64 0, .int .i64 0, .int .i64 0, .slice none 0 0]) 27)) l O A9 k9 c9) :=
    ⟨⟨3, 0, 0, 0, z0, 0, 0, 0, 0, 0, 0, []⟩, none, 0, 0, hid ⟨boxM_two w _ ⟨3, 0, 0, 0, z0, 0, 0, 0, 0, 0, 0, []⟩ none 0 0 _, rfl, OwO.nil _ _, by rw [← HO.out]; exact rdR_r l, fun m' h => (rdR_of h).symm.trans HO.out, below2 w _ _, there1 w _⟩⟩
  clear HO
  generalize World.alloc (World.alloc w _) _ = Z at F9 ⊢
  have HK9 := hid F9.out.len
  cases hm : mayM O
  · have HM := hid hm
    have HN := hid (show ∀ m', ¬ Mis l m' from fun m' h => by
      have e := F9.out.one m' h
      have h1 := h.may
      rw [e, hm] at h1
      cases h1)
    clear hm
    refine wp_region_past (by kernel_rfl) (by kernel_rfl) ?_
    refine quiet_load_m (by rfl) (.tmp 4) rfl (w.heap.size + 1) rfl (BoxM.past F9.out.bx) ?_
    (try simp only [Act.put, List.setIfInBounds_toArray, List.set_cons_zero, List.set_cons_succ])
    go_big_quiet_step (exact quiet_below (rmmay_of false O A9 k9 c9 HK9 F9.out.r HM _ ((F9.out.rd.keep (Subtype.property _)).rd)))
    repeat (go_big_quiet_step (fail))
    refine wpQuiet_nil ?_
    intro _ hw'
    obtain ⟨x3, rfl⟩ := hw'
    have b9 := below_in (F9.out.be) x3.2
    have th9 := ThereM.keep (F9.out.th) x3.2
    clear F9
    generalize x3.1 = w3 at *
    go_wp2_with (refine wpList_store_m rfl (.tmp 2) (.tmp 92) rfl w.heap.size rfl zM none 0 0 rfl th9 w.heap.size (Nat.le_refl _) ?_; intro w4 bx4 th4 b4 hh4 sz4)
    exact bodyPost_ret (results_m2 rfl rfl bx4) rfl ⟨zM, none, 0, 0, 90, rfl, .inr ⟨HN.out, rfl, rfl⟩, rfl, RdO.nil _, b9.trans b4⟩
  · have HM := hid hm
    obtain ⟨q, hq⟩ : ∃ q, (mlb O == l) = q := ⟨_, rfl⟩
    have HQ := hid hq
    obtain ⟨m9, hm9⟩ : ∃ m, (mlb O).length = m := ⟨_, rfl⟩
    have HM9 := hid hm9
    clear hm hm9
    refine wp_region_held_drew (S := fun w' => Below Z.heap.size Z w') (by kernel_rfl) ((Below.refl _ _).drew) (fun hHeld => ?_)
    have S1 : Below Z.heap.size Z Z.drew := (Below.refl _ _).drew
    generalize Z.drew = V at *
    refine wpAnyH_take (i := 0) (oi := { dst := some 81, op := Op.load 27 (Operand.tmp 4), type := 27, pos := "ref.go:188", after := #[], guard := none }) rfl (by kernel_rfl) (by kernel_rfl) (by kernel_rfl) (fun _ _ _ h => h) (yields_load_m (by rfl) (.tmp 4) rfl (w.heap.size + 1) rfl (fun w9 h => F9.out.bx.keep h)) hHeld ?_
    (try simp only [Act.put, List.setIfInBounds_toArray, List.set_cons_zero, List.set_cons_succ])
    refine wpAnyH_ready (rs := [1]) (by kernel_rfl) (by simp) ?_
    refine AllReadyH.cons rfl (fun K hK => ?_) AllReadyH.nil
    go_simp
    go_wp2_with (go_at_call 28; refine (rmmay_of true O A9 k9 c9 HK9 F9.out.r HM _ (F9.out.rd.keep S1).rd).mono ?_; rintro e v1 ⟨rfl, b1⟩)
    have s1 := below_in S1 b1
    refine hK.out _ _ s1 (fun hHeld => ?_)
    clear hK K
    refine wpAnyH_take (i := 2) (oi := { dst := some 83, op := Op.unOp UnOp.not 4 (Operand.tmp 82), type := 4, pos := "ref.go:188", after := #[{ on := 1, ground := Ground.data }], guard := none }) (v := ?_) rfl (by kernel_rfl) (by kernel_rfl) (by kernel_rfl) (fun _ _ _ h => h) (Or.inl ⟨by rfl, ?_⟩) hHeld ?_
    rotate_left
    · intro w9 hSw
      (try dsimp only at hSw)
      go_simp <;> with_reducible rfl
    (try simp only [Act.put, List.setIfInBounds_toArray, List.set_cons_zero, List.set_cons_succ])
    refine wpAnyH_take (i := 3) (oi := { dst := some 84, op := Op.move (Operand.tmp 83), type := 4, pos := "ref.go:188", after := #[{ on := 2, ground := Ground.data }, { on := 1, ground := Ground.chain }], guard := none }) (v := ?_) rfl (by kernel_rfl) (by kernel_rfl) (by kernel_rfl) (fun _ _ _ h => h) (Or.inl ⟨by rfl, ?_⟩) hHeld ?_
    rotate_left
    · intro w9 hSw
      (try dsimp only at hSw)
      go_simp <;> with_reducible rfl
    (try simp only [Act.put, List.setIfInBounds_toArray, List.set_cons_zero, List.set_cons_succ])
    refine wpAnyH_take (i := 4) (oi := { dst := some 85, op := Op.load 27 (Operand.tmp 4), type := 27, pos := "ref.go:188", after := #[{ on := 3, ground := Ground.guard }], guard := some (3, false) }) rfl (by kernel_rfl) (by kernel_rfl) (by kernel_rfl) (fun _ _ _ h => h) (yields_load_m (by rfl) (.tmp 4) rfl (w.heap.size + 1) rfl (fun w9 h => F9.out.bx.keep h)) hHeld ?_
    (try simp only [Act.put, List.setIfInBounds_toArray, List.set_cons_zero, List.set_cons_succ])
    refine wpAnyH_take (i := 7) (oi := { dst := some 88, op := Op.move (Operand.tmp 0), type := 32, pos := "ref.go:188", after := #[{ on := 3, ground := Ground.guard }], guard := some (3, false) }) (v := ?_) rfl (by kernel_rfl) (by kernel_rfl) (by kernel_rfl) (fun _ _ _ h => h) (Or.inl ⟨by rfl, ?_⟩) hHeld ?_
    rotate_left
    · intro w9 hSw
      (try dsimp only at hSw)
      go_simp <;> with_reducible rfl
    (try simp only [Act.put, List.setIfInBounds_toArray, List.set_cons_zero, List.set_cons_succ])
    refine wpAnyH_take (i := 8) (oi := { dst := some 89, op := Op.convert 32 9 (Operand.tmp 88), type := 9, pos := "ref.go:188", after := #[{ on := 7, ground := Ground.data }, { on := 3, ground := Ground.guard }], guard := some (3, false) }) (v := ?_) rfl (by kernel_rfl) (by kernel_rfl) (by kernel_rfl) (fun _ _ _ h => h) (Or.inl ⟨by rfl, ?_⟩) hHeld ?_
    rotate_left
    · intro w9 hSw
      (try dsimp only at hSw)
      have y := rd_string hn (HR.out.keep (below_in F9.out.be hSw))
      go_simp <;> with_reducible rfl
    (try simp only [Act.put, List.setIfInBounds_toArray, List.set_cons_zero, List.set_cons_succ])
    refine wpAnyH_ready (rs := [5]) (by kernel_rfl) (by simp) ?_
    refine AllReadyH.cons rfl (fun K hK => ?_) AllReadyH.nil
    go_simp
    go_wp2_with (go_at_call 29; refine (rmbytes_of m9 O A9 k9 c9 HK9 F9.out.r HM.out HM9 _ (F9.out.rd.keep s1).rd).mono ?_; rintro e v2 ⟨A2, c2, rfl, hr2, b2⟩)
    have s2 := below_in s1 b2
    refine hK.out _ _ s2 (fun hHeld => ?_)
    clear hK K
    refine wpAnyH_mono (S' := fun w' => Below v2.heap.size v2 w') (fun _ h => below_in s2 h) _ _ _ _ ?_
    have hHeld3 := Below.refl v2.heap.size v2
    refine wpAnyH_take (i := 6) (oi := { dst := some 87, op := Op.convert 32 9 (Operand.tmp 86), type := 9, pos := "ref.go:188", after := #[{ on := 5, ground := Ground.data }, { on := 3, ground := Ground.guard }], guard := some (3, false) }) (v := ?_) rfl (by kernel_rfl) (by kernel_rfl) (by kernel_rfl) (fun _ _ _ h => h) (Or.inl ⟨by rfl, ?_⟩) hHeld3 ?_
    rotate_left
    · intro w9 hSw
      (try dsimp only at hSw)
      have y := rd_string HM9 (hr2.keep hSw)
      go_simp <;> with_reducible rfl
    (try simp only [Act.put, List.setIfInBounds_toArray, List.set_cons_zero, List.set_cons_succ])
    refine wpAnyH_take (i := 9) (oi := { dst := some 90, op := Op.binOp BinOp.neq 9 (Operand.tmp 87) (Operand.tmp 89) 9, type := 4, pos := "ref.go:188", after := #[{ on := 6, ground := Ground.data }, { on := 8, ground := Ground.data }, { on := 3, ground := Ground.guard }], guard := some (3, false) }) (v := ?_) rfl (by kernel_rfl) (by kernel_rfl) (by kernel_rfl) (fun _ _ _ h => h) (Or.inl ⟨by rfl, ?_⟩) hHeld3 ?_
    rotate_left
    · intro w9 hSw
      (try dsimp only at hSw)
      have y := hq
      go_simp <;> with_reducible rfl
    (try simp only [Act.put, List.setIfInBounds_toArray, List.set_cons_zero, List.set_cons_succ])
    refine wpAnyH_take (i := 10) (oi := { dst := some 91, op := Op.pick (Operand.tmp 84) (Operand.const (Value.bool true)) (Operand.tmp 90), type := 4, pos := "ref.go:188", after := #[{ on := 3, ground := Ground.data }, { on := 9, ground := Ground.data }], guard := none }) (v := ?_) rfl (by kernel_rfl) (by kernel_rfl) (by kernel_rfl) (fun _ _ _ h => h) (Or.inl ⟨by rfl, ?_⟩) hHeld3 ?_
    rotate_left
    · intro w9 hSw
      (try dsimp only at hSw)
      go_simp <;> with_reducible rfl
    (try simp only [Act.put, List.setIfInBounds_toArray, List.set_cons_zero, List.set_cons_succ])
    refine wpAnyH_done (by kernel_rfl) ?_ _
    have b9 := below_in F9.out.be s2
    have th9 := F9.out.th.keep s2
    have bx9 := F9.out.bx.keep s2
    have rd9 := hid (F9.out.rd.keep s2)
    have HR9 := hid F9.out.r
    cases q
    · have HN := hid (show ∀ m', ¬ Mis l m' from fun m' h => by
        have e := F9.out.one m' h
        have h1 := h.eq
        have h4 := HQ.out
        rw [e] at h1
        rw [h1] at h4
        simp at h4)
      clear hHeld hq F9 HQ hr2 bx9 rd9
      go_wp2_with (refine wpList_store_m rfl (.tmp 2) (.tmp 92) rfl w.heap.size rfl zM none 0 0 rfl th9 w.heap.size (Nat.le_refl _) ?_; intro w4 bx4 th4 b4 hh4 sz4)
      exact bodyPost_ret (results_m2 rfl rfl bx4) rfl ⟨zM, none, 0, 0, 90, rfl, .inr ⟨HN.out, rfl, rfl⟩, rfl, RdO.nil _, b9.trans b4⟩
    · have HB := hid (show Mis l O from ⟨F9.out.r, HM.out, eq_of_beq HQ.out⟩)
      clear hHeld hq F9 HQ hr2
      have one : True := trivial
      go_wp2_with (first
        | (clear one; refine wpList_load_m rfl (.tmp 4) rfl (w.heap.size + 1) rfl bx9 ?_)
        | (refine wpList_store_m rfl (.tmp 2) (.tmp 93) rfl w.heap.size rfl O A9 k9 c9 rfl th9 w.heap.size (Nat.le_refl _) ?_; intro w4 bx4 th4 b4 hh4 sz4))
      exact bodyPost_ret (results_m2 rfl rfl bx4) rfl ⟨O, A9, k9, c9, 0, rfl, .inl ⟨HB.out, rfl⟩, HK9.out, (rd9.out.far fun k' h1 h2 => hh4 k' (by omega)).rd, b9.trans b4⟩
end Go.Proofs.YtdhfnacdjjdijaaGreat
