/-
  The document's own Get of layer 9.
-/
import Derived.Test.YtndmblhkmgnpcaaGreatOY
import Derived.Deep.RegionHeld
import Derived.Deep.CutRange
namespace Go.Proofs.YtndmblhkmgnpcaaGreat
open Go.RowKit
set_option linter.unusedVariables false
set_option linter.unusedSimpArgs false

theorem wpAnyH_mono {P : Program} {ops : Array Oper} {Q : Exit → Act → World → Prop} {md : Region.Mode} {S S' : World → Prop} (h : ∀ w, S' w → S w) : ∀ (fuel : Nat) (listed : Array Bool) (a : Act) (w : World), wpAnyH P md ops Q S' fuel listed a w → wpAnyH P md ops Q S fuel listed a w
  | 0, _, _, _, H => H
  | fuel + 1, _, _, _, H => ⟨H.1, fun i hi => wpOp_mono (fun a' w' h' => ⟨h _ h'.1, wpAnyH_mono h fuel _ a' w' h'.2⟩) (H.2 i hi)⟩
theorem there_lt9 {W : World} {g : Nat} (h : ThereO W g) : g < W.heap.size := by
  obtain ⟨u, hu⟩ := Option.isSome_iff_exists.1 (h 0 (by decide)).1
  exact World.block_lt_of_cell? _ _ hu
theorem run_span9 (f : Operand → Value) (w : World) (y5 y6 y7 y8 y9 : Int) (h1 : f (.tmp 54) = .agg #[.int .u8 y5, .int .u32 y6, .int .u8 y7, .int .i64 y8]) (h2 : f (.tmp 58) = .int .i64 y9) :
    Sem.run Tryz.prog (execOp f { dst := some 59, op := Op.build 30 #[(0, Operand.tmp 54), (1, Operand.tmp 58)], type := 30, pos := "ref.go:126", after := #[{ on := 24, ground := Ground.data }, { on := 28, ground := Ground.data }], guard := none }) w = .ok (.value (.agg #[.int .u8 y5, .int .u32 y6, .int .u8 y7, .int .i64 y8, .int .i64 y9])) w := by
  simp only [execOp, List.map_toArray, List.map_cons, List.map_nil, h1, h2]
  go_simp
theorem run_head9 (f : Operand → Value) (w : World) (y0 y1 y2 y3 y4 y5 y6 y7 y8 y9 : Int) (h0 : f (.tmp 32) = .int .u8 y0) (h1 : f (.tmp 35) = .agg #[.int .u8 y1, .int .u32 y2, .int .u8 y3]) (h2 : f (.tmp 51) = .int .i64 y4) (h3 : f (.tmp 59) = .agg #[.int .u8 y5, .int .u32 y6, .int .u8 y7, .int .i64 y8, .int .i64 y9]) :
    Sem.run Tryz.prog (execOp f { dst := some 60, op := Op.build 33 #[(0, Operand.tmp 32), (1, Operand.tmp 35), (2, Operand.tmp 51), (3, Operand.tmp 59)], type := 33, pos := "ref.go:126", after := #[{ on := 2, ground := Ground.data }, { on := 5, ground := Ground.data }, { on := 21, ground := Ground.data }, { on := 29, ground := Ground.data }], guard := none }) w = .ok (.value (.agg #[.int .u8 y0, .int .u8 y1, .int .u32 y2, .int .u8 y3, .int .i64 y4, .int .u8 y5, .int .u32 y6, .int .u8 y7, .int .i64 y8, .int .i64 y9, .int .u8 0, .int .u32 0, .int .u8 0, .int .i64 0, .int .u8 0, .int .u32 0, .slice none 0 0])) w := by
  simp only [execOp, List.map_toArray, List.map_cons, List.map_nil, h0, h1, h2, h3]
  go_simp

theorem vl_one {l : List UInt8} {k : Nat} (h : k < l.length) : vl ((l.drop k).take 1) = l[k].toNat := by
  have : (l.drop k).take 1 = [l[k]] := by
    rw [List.drop_eq_getElem_cons h]
    rfl
  rw [this]
  simp [vl]
theorem vl_three {l : List UInt8} {k : Nat} (h : k + 2 < l.length) : vl ((l.drop k).take 3) = 65536 * l[k].toNat + 256 * l[k + 1].toNat + l[k + 2].toNat := by
  have : (l.drop k).take 3 = [l[k], l[k + 1], l[k + 2]] := by
    rw [List.drop_eq_getElem_cons (by omega), List.drop_eq_getElem_cons (by omega), List.drop_eq_getElem_cons (by omega)]
    rfl
  rw [this]
  simp [vl]
  omega
theorem opr_ref (b : List UInt8) : Opr (refHead b) := by
  have a := vl_r b 1 (by omega)
  have c := vl_r (b.drop 7) 3 (by omega)
  have d := vl_r (b.drop 23) 1 (by omega)
  simp only [Int.reducePow] at a c d
  have h6 := han_r true ((b.drop 1).take 6)
  have h13 := idn_r true (l := (b.drop 10).take 13) (by rw [List.length_take]; omega)
  simp only [pick_true] at h6 h13
  refine ⟨a.1, by show (vl (b.take 1) : Int) ≤ 255; omega, h6, ?_, ⟨h13, ?_⟩, idn_0, han_0.lab, In32.nil⟩
  · show In64 ((vl ((b.drop 7).take 3) : Nat) : Int)
    unfold In64; omega
  · show In64 ((vl ((b.drop 23).take 1) : Nat) : Int)
    unfold In64; omega

set_option maxRecDepth 100000 in
set_option maxHeartbeats 6400000 in
theorem rget9_of (A : Option Addr) (n c : Nat) (l : List UInt8) (hn : Hid (l.length = n)) (w : World) (hr : Rd w A c l) :
    Calls Tryz.prog 72 #[.slice A n c] w fun e w' => ∃ o A' k c' z j, e = .returned (.tuple #[.agg #[.int .u8 o.kd, .int .u8 o.l, .int .u32 o.c, .int .u8 o.k, .int .i64 o.s, .int .u8 o.fl, .int .u32 o.fc, .int .u8 o.fk, .int .i64 o.fn, .int .i64 o.fm, .int .u8 o.al, .int .u32 o.ac, .int .u8 o.ak, .int .i64 o.an, .int .u8 o.tl, .int .u32 o.tc, .slice A' k c'], .int .i64 z, .int .i64 j]) ∧ Got l o z j ∧ o.row.length = k ∧ OwnI w' w.heap.size 21 A' c' o.row ∧ Below w.heap.size w w' := by
  have th0 := thereO_new w #[.int .u8 0, .int .u8 0, .int .u32 0, .int .u8 0, .int .i64 0, .int .u8 0, .int .u32 0, .int .u8 0, .int .i64 0, .int .i64 0, .int .u8 0, .int .u32 0, .int .u8 0, .int .i64 0, .int .u8 0, .int .u32 0, .slice none 0 0] rfl 33
  have hbw : Below w.heap.size w (w.alloc (.cells #[.int .u8 0, .int .u8 0, .int .u32 0, .int .u8 0, .int .i64 0, .int .u8 0, .int .u32 0, .int .u8 0, .int .i64 0, .int .i64 0, .int .u8 0, .int .u32 0, .int .u8 0, .int .i64 0, .int .u8 0, .int .u32 0, .slice none 0 0] 33)) := (Below.refl _ _).alloc (Nat.le_refl _) _
  have bz0 : BoxO (w.alloc (.cells #[.int .u8 0, .int .u8 0, .int .u32 0, .int .u8 0, .int .i64 0, .int .u8 0, .int .u32 0, .int .u8 0, .int .i64 0, .int .i64 0, .int .u8 0, .int .u32 0, .int .u8 0, .int .i64 0, .int .u8 0, .int .u32 0, .slice none 0 0] 33)) w.heap.size zO none 0 0 := boxO_new w zO none 0 0 _
  by_cases h24 : n < 24
  · have d1 : (n : Int) < 24 := by omega
    have HN := hid (show ∀ o', ¬ Begins l o' from fun o' h => by have h1 := (cuts h).len; have h2 := (opb_length h.may).2.1; have := hn.out; omega)
    clear hr hn h24
    go_enter Tryz.func72, Tryz.ntmps72
    go_wp2_with (refine wpList_store_o rfl (.tmp 2) (.tmp 12) rfl w.heap.size rfl zO none 0 0 rfl th0 w.heap.size (Nat.le_refl _) ?_; intro w4 bx4 th4 b4 hh4 sz4)
    exact bodyPost_ret (results_o3 rfl rfl bx4) rfl ⟨zO, none, 0, 0, 0, 8, rfl, .inr ⟨HN.out, rfl, rfl, rfl⟩, rfl, OwnI.nil _ _ _, hbw.trans b4⟩
  have d1 : ¬ (n : Int) < 24 := by omega
  have hln := hn.out
  have hc1 : (n : Int) ≤ c := by have := hr.len; omega
  have hc2 : (c : Int) ≤ 9223372036854775807 := by have := hr.cap; omega
  obtain ⟨b, o, rfl, hcell⟩ := hr.at_ (by omega)
  obtain ⟨y0, hy0⟩ : ∃ y0, (l[0].toNat : Int) = y0 := ⟨_, rfl⟩
  obtain ⟨g7, hg7⟩ : ∃ y, (l[7].toNat : Int) = y := ⟨_, rfl⟩
  obtain ⟨g8, hg8⟩ : ∃ y, (l[8].toNat : Int) = y := ⟨_, rfl⟩
  obtain ⟨g9, hg9⟩ : ∃ y, (l[9].toNat : Int) = y := ⟨_, rfl⟩
  obtain ⟨y9, hy9⟩ : ∃ y, (l[23].toNat : Int) = y := ⟨_, rfl⟩
  have a0 : 0 ≤ y0 ∧ y0 ≤ 255 := by have := (l[0]).toNat_lt; omega
  have a7 : 0 ≤ g7 ∧ g7 ≤ 255 := by have := (l[7]).toNat_lt; omega
  have a8 : 0 ≤ g8 ∧ g8 ≤ 255 := by have := (l[8]).toNat_lt; omega
  have a9 : 0 ≤ g9 ∧ g9 ≤ 255 := by have := (l[9]).toNat_lt; omega
  have a23 : 0 ≤ y9 ∧ y9 ≤ 255 := by have := (l[23]).toNat_lt; omega
  have p0 : w.cell? ⟨b, o, none⟩ = some (.int .u8 y0) := by rw [← hy0]; simpa using hcell 0 (by omega)
  have p7 : w.cell? ⟨b, o + 7, none⟩ = some (.int .u8 g7) := by rw [← hg7]; exact hcell 7 (by omega)
  have p8 : w.cell? ⟨b, o + 8, none⟩ = some (.int .u8 g8) := by rw [← hg8]; exact hcell 8 (by omega)
  have p9 : w.cell? ⟨b, o + 9, none⟩ = some (.int .u8 g9) := by rw [← hg9]; exact hcell 9 (by omega)
  have p23 : w.cell? ⟨b, o + 23, none⟩ = some (.int .u8 y9) := by rw [← hy9]; exact hcell 23 (by omega)
  obtain ⟨y1, y2, y3, hy1⟩ : ∃ y1 y2 y3, gL ((l.drop 1).take 6) = y1 ∧ gC ((l.drop 1).take 6) = y2 ∧ gK ((l.drop 1).take 6) = y3 := ⟨_, _, _, rfl, rfl, rfl⟩
  obtain ⟨y4, hy4⟩ : ∃ y4, 65536 * g7 + 256 * g8 + g9 = y4 := ⟨_, rfl⟩
  obtain ⟨y5, y6, y7, y8, hy5⟩ : ∃ y5 y6 y7 y8, gL ((l.drop 10).take 13) = y5 ∧ gC ((l.drop 10).take 13) = y6 ∧ gK ((l.drop 10).take 13) = y7 ∧ gN ((l.drop 10).take 13) = y8 := ⟨_, _, _, _, rfl, rfl, rfl, rfl⟩
  have hH : refHead l = ⟨y0, y1, y2, y3, y4, y5, y6, y7, y8, y9, 0, 0, 0, 0, 0, 0, []⟩ := by
    have e0 : ((vl (l.take 1) : Nat) : Int) = y0 := by
      have := vl_one (l := l) (k := 0) (by omega)
      rw [List.drop_zero] at this
      rw [this, hy0]
    have e4 : ((vl ((l.drop 7).take 3) : Nat) : Int) = y4 := by rw [vl_three (by omega)]; simp only [Nat.reduceAdd]; omega
    have e9 : ((vl ((l.drop 23).take 1) : Nat) : Int) = y9 := by rw [vl_one (by omega), hy9]
    simp only [refHead, e0, e4, e9, hy1.1, hy1.2.1, hy1.2.2, hy5.1, hy5.2.1, hy5.2.2.1, hy5.2.2.2]
  have HH := hid hH
  have hor := opr_ref l
  rw [hH] at hor
  have HOR := hid hor
  have H1 := hid hy1
  have H5 := hid hy5
  have HL6 := hid (show ((l.drop 1).take 6).length = 6 by rw [List.length_take, List.length_drop]; omega)
  have HL13 := hid (show ((l.drop 10).take 13).length = 13 by rw [List.length_take, List.length_drop]; omega)
  have HR := hid hr
  have HLN := hid hln
  have HR6 := hid ((hr.drop 1 (by omega)).take 6)
  have HR13 := hid ((hr.drop 10 (by omega)).take 13)
  obtain ⟨v, hv⟩ : ∃ v, szO y0 y9 = v := ⟨_, rfl⟩
  have HV := hid hv
  have HN24 := hid h24
  have hone : ∀ o', Begins l o' → o'.kd = y0 ∧ o'.fm = y9 ∧ v = ((opb o').length : Int) ∧ v ≠ 0 ∧ ((opb o').length : Int) ≤ n := fun o' h => by
    have k := cuts h
    have e := k.head
    rw [hH] at e
    injection e with e1 e2 e3 e4 e5 e6 e7 e8 e9 e10
    have hs := k.sz
    have hne := k.ne
    have hle := k.len
    rw [← e1, ← e10, hv] at hs hne
    exact ⟨e1.symm, e10.symm, hs, hne, by omega⟩
  have HONE := hid hone
  clear hr hn h24 hln hcell hy0 hg7 hg8 hg9 hy9 hy1 hy5 hH hor hv hone
  go_enter Tryz.func72, Tryz.ntmps72
  go_wp2_with fail
  have th0 : Res9 w _ := ⟨th0, bz0⟩
  generalize hW : World.alloc _ _ = W
  rw [hW] at th0 hbw
  clear hW
  replace p0 := keep hbw p0
  replace p7 := keep hbw p7
  replace p8 := keep hbw p8
  replace p9 := keep hbw p9
  replace p23 := keep hbw p23
  have q0 := fun w' (h : Below W.heap.size W w') => keep h p0
  have q7 := fun w' (h : Below W.heap.size W w') => keep h p7
  have q8 := fun w' (h : Below W.heap.size W w') => keep h p8
  have q9 := fun w' (h : Below W.heap.size W w') => keep h p9
  have q23 := fun w' (h : Below W.heap.size W w') => keep h p23
  have S0 : Below W.heap.size W W.drew := (Below.refl _ _).drew
  have hw9 : IntKind.i64.wrap y9 = y9 := by rw [IntKind.wrap_i64]; omega
  clear p0 p7 p8 p9 p23
  go_cut [5] from 13 to 20 (fun s5 wx => s5 = .int .i64 v ∧ Below W.heap.size W wx)
  case first => as_aux_lemma =>
    clear HH HOR H1 H5 HL6 HL13 HR HR6 HR13 HONE HN24 hy4
    go_region_held (fun w' => Below W.heap.size W w') (with_reducible (first | assumption | exact S0))
      ((go_at_call 101; refine (rsize_of v y0 y9 HV _).mono ?_; rintro e w2 ⟨rfl, rfl⟩))
    all_goals
      (try go_wp2_with fail)
      go_meet
      case rel => exact ⟨rfl, S0⟩
  obtain ⟨rfl, bX⟩ := hcut
  generalize hX : wc = X at *
  clear hX
  replace th0 := th0.keep bX
  replace hbw := below_in hbw bX
  have p0 := q0 _ bX
  have p7 := q7 _ bX
  have p8 := q8 _ bX
  have p9 := q9 _ bX
  have p23 := q23 _ bX
  clear q0 q7 q8 q9 q23 S0 bX hw9
  by_cases hv0 : v = 0
  · have HN := hid (show ∀ o', ¬ Begins l o' from fun o' h => (HONE.out o' h).2.2.2.1 hv0)
    subst hv0
    clear HONE HH HOR H1 H5 HL6 HL13 HR6 HR13 HR
    go_wp2_with (refine wpList_store_o rfl (.tmp 2) (.tmp 29) rfl w.heap.size rfl zO none 0 0 rfl th0.th w.heap.size (Nat.le_refl _) ?_; intro w4 bx4 th4 b4 hh4 sz4)
    exact bodyPost_ret (results_o3 rfl rfl bx4) rfl ⟨zO, none, 0, 0, 0, 8, rfl, .inr ⟨HN.out, rfl, rfl, rfl⟩, rfl, OwnI.nil _ _ _, hbw.trans b4⟩
  have d2 : (v == 0) = false := by simpa using hv0
  by_cases hvn : (n : Int) < v
  · have HN := hid (show ∀ o', ¬ Begins l o' from fun o' h => by have := HONE.out o' h; omega)
    clear HONE HH HOR H1 H5 HL6 HL13 HR6 HR13 HR
    go_wp2_with (refine wpList_store_o rfl (.tmp 2) (.tmp 29) rfl w.heap.size rfl zO none 0 0 rfl th0.th w.heap.size (Nat.le_refl _) ?_; intro w4 bx4 th4 b4 hh4 sz4)
    exact bodyPost_ret (results_o3 rfl rfl bx4) rfl ⟨zO, none, 0, 0, 0, 8, rfl, .inr ⟨HN.out, rfl, rfl, rfl⟩, rfl, OwnI.nil _ _ _, hbw.trans b4⟩
  have d3 := hvn
  go_wp2_with fail
  have hw9 : IntKind.i64.wrap y9 = y9 := by rw [IntKind.wrap_i64]; omega
  have hsz := szO_cases HV.out hv0
  obtain ⟨p, rfl⟩ : ∃ p : Nat, v = (p : Int) := ⟨v.toNat, by omega⟩
  have hpn : p ≤ n := by omega
  have hpc : (p : Int) ≤ c := by omega
  have HSZ := hid hsz
  have m0 : 1 ≤ y9 ∧ y9 ≤ 64 := hsz.1
  have HR6 := fun w' (h : Below X.heap.size X w') => HR6.out.keep (below_in hbw h)
  have HR13 := fun w' (h : Below X.heap.size X w') => HR13.out.keep (below_in hbw h)
  have q0 := fun w' (h : Below X.heap.size X w') => keep h p0
  have q7 := fun w' (h : Below X.heap.size X w') => keep h p7
  have q8 := fun w' (h : Below X.heap.size X w') => keep h p8
  have q9 := fun w' (h : Below X.heap.size X w') => keep h p9
  have q23 := fun w' (h : Below X.heap.size X w') => keep h p23
  have hw7 : IntKind.i64.wrap g7 = g7 := by rw [IntKind.wrap_i64]; omega
  have hw8 : IntKind.i64.wrap g8 = g8 := by rw [IntKind.wrap_i64]; omega
  have hwg : IntKind.i64.wrap g9 = g9 := by rw [IntKind.wrap_i64]; omega
  obtain ⟨z7, hz7⟩ : ∃ z, 65536 * g7 = z := ⟨_, rfl⟩
  obtain ⟨z8, hz8⟩ : ∃ z, 256 * g8 = z := ⟨_, rfl⟩
  obtain ⟨z1, hz1⟩ : ∃ z, z7 + z8 = z := ⟨_, rfl⟩
  have hs7 : IntKind.i64.wrap (65536 * g7) = z7 := by rw [IntKind.wrap_i64]; omega
  have hs8 : IntKind.i64.wrap (256 * g8) = z8 := by rw [IntKind.wrap_i64]; omega
  have hs1 : IntKind.i64.wrap (z7 + z8) = z1 := by rw [IntKind.wrap_i64]; omega
  have hs4 : IntKind.i64.wrap (z1 + g9) = y4 := by rw [IntKind.wrap_i64]; omega
  clear p0 p7 p8 p9 p23 hsz hy4 hz7 hz8 hz1
  go_cut [6] from 30 to 60 (fun s6 wx => Head9 X wx ⟨y0, y1, y2, y3, y4, y5, y6, y7, y8, y9, 0, 0, 0, 0, 0, 0, []⟩ s6)
  case first => as_aux_lemma =>
    clear HONE HH HOR HR HSZ HV
    have n24 : 24 ≤ n := by omega
    have e0 : 0 < n := by omega
    have e7 : (7 : Int) < (n : Int) := by omega
    have e8 : (8 : Int) < (n : Int) := by omega
    have e9 : (9 : Int) < (n : Int) := by omega
    have e23 : (23 : Int) < (n : Int) := by omega
    have c7 : (7 : Int) ≤ (c : Int) := by omega
    have c23 : (23 : Int) ≤ (c : Int) := by omega
    have c1 : ¬ c = 1 := by omega
    have c10 : ¬ c = 10 := by omega
    clear n24
    refine wp_region_held_drew (S := fun w' => Below X.heap.size X w') (by kernel_rfl) ((Below.refl _ _).drew) (fun hHeld => ?_)
    have S1 : Below X.heap.size X X.drew := (Below.refl _ _).drew
    generalize X.drew = V at *
    refine wpAnyH_take (i := 0) (oi := { dst := some 30, op := Op.move (Operand.tmp 0), type := 51, pos := "ref.go:126", after := #[], guard := none }) (v := ?_) rfl (by kernel_rfl) (by kernel_rfl) (by kernel_rfl) (fun _ _ _ h => h) (Or.inl ⟨by rfl, ?_⟩) hHeld ?_
    rotate_left
    · intro w9 hSw
      (try dsimp only at hSw)
      go_simp <;> with_reducible rfl
    (try simp only [Act.put, List.setIfInBounds_toArray, List.set_cons_zero, List.set_cons_succ])
    refine wpAnyH_take (i := 1) (oi := { dst := some 31, op := Op.indexAddr 51 (Operand.tmp 30) (Operand.const (Value.int IntKind.i64 0)), type := 0, pos := "ref.go:126", after := #[{ on := 0, ground := Ground.data }], guard := none }) (v := ?_) rfl (by kernel_rfl) (by kernel_rfl) (by kernel_rfl) (fun _ _ _ h => h) (Or.inl ⟨by rfl, ?_⟩) hHeld ?_
    rotate_left
    · intro w9 hSw
      (try dsimp only at hSw)
      go_simp <;> with_reducible rfl
    (try simp only [Act.put, List.setIfInBounds_toArray, List.set_cons_zero, List.set_cons_succ])
    refine wpAnyH_take (i := 2) (oi := { dst := some 32, op := Op.load 5 (Operand.tmp 31), type := 5, pos := "ref.go:126", after := #[{ on := 1, ground := Ground.data }], guard := none }) (v := ?_) rfl (by kernel_rfl) (by kernel_rfl) (by kernel_rfl) (fun _ _ _ h => h) (Or.inl ⟨by rfl, ?_⟩) hHeld ?_
    rotate_left
    · intro w9 hSw
      (try dsimp only at hSw)
      have k := q0 _ hSw
      go_simp <;> with_reducible rfl
    (try simp only [Act.put, List.setIfInBounds_toArray, List.set_cons_zero, List.set_cons_succ])
    refine wpAnyH_take (i := 3) (oi := { dst := some 33, op := Op.move (Operand.tmp 0), type := 51, pos := "ref.go:126", after := #[], guard := none }) (v := ?_) rfl (by kernel_rfl) (by kernel_rfl) (by kernel_rfl) (fun _ _ _ h => h) (Or.inl ⟨by rfl, ?_⟩) hHeld ?_
    rotate_left
    · intro w9 hSw
      (try dsimp only at hSw)
      go_simp <;> with_reducible rfl
    (try simp only [Act.put, List.setIfInBounds_toArray, List.set_cons_zero, List.set_cons_succ])
    refine wpAnyH_take (i := 4) (oi := { dst := some 34, op := Op.slice 51 (Operand.tmp 33) (some (Operand.const (Value.int IntKind.i64 1))) (some (Operand.const (Value.int IntKind.i64 7))) none, type := 51, pos := "ref.go:126", after := #[{ on := 3, ground := Ground.data }], guard := none }) (v := ?_) rfl (by kernel_rfl) (by kernel_rfl) (by kernel_rfl) (fun _ _ _ h => h) (Or.inl ⟨by rfl, ?_⟩) hHeld ?_
    rotate_left
    · intro w9 hSw
      (try dsimp only at hSw)
      go_simp <;> with_reducible rfl
    (try simp only [Act.put, List.setIfInBounds_toArray, List.set_cons_zero, List.set_cons_succ])
    refine wpAnyH_take (i := 6) (oi := { dst := some 36, op := Op.move (Operand.tmp 0), type := 51, pos := "ref.go:126", after := #[], guard := none }) (v := ?_) rfl (by kernel_rfl) (by kernel_rfl) (by kernel_rfl) (fun _ _ _ h => h) (Or.inl ⟨by rfl, ?_⟩) hHeld ?_
    rotate_left
    · intro w9 hSw
      (try dsimp only at hSw)
      go_simp <;> with_reducible rfl
    (try simp only [Act.put, List.setIfInBounds_toArray, List.set_cons_zero, List.set_cons_succ])
    refine wpAnyH_take (i := 7) (oi := { dst := some 37, op := Op.indexAddr 51 (Operand.tmp 36) (Operand.const (Value.int IntKind.i64 7)), type := 0, pos := "ref.go:126", after := #[{ on := 6, ground := Ground.data }], guard := none }) (v := ?_) rfl (by kernel_rfl) (by kernel_rfl) (by kernel_rfl) (fun _ _ _ h => h) (Or.inl ⟨by rfl, ?_⟩) hHeld ?_
    rotate_left
    · intro w9 hSw
      (try dsimp only at hSw)
      go_simp <;> with_reducible rfl
    (try simp only [Act.put, List.setIfInBounds_toArray, List.set_cons_zero, List.set_cons_succ])
    refine wpAnyH_take (i := 8) (oi := { dst := some 38, op := Op.load 5 (Operand.tmp 37), type := 5, pos := "ref.go:126", after := #[{ on := 7, ground := Ground.data }], guard := none }) (v := ?_) rfl (by kernel_rfl) (by kernel_rfl) (by kernel_rfl) (fun _ _ _ h => h) (Or.inl ⟨by rfl, ?_⟩) hHeld ?_
    rotate_left
    · intro w9 hSw
      (try dsimp only at hSw)
      have k := q7 _ hSw
      go_simp <;> with_reducible rfl
    (try simp only [Act.put, List.setIfInBounds_toArray, List.set_cons_zero, List.set_cons_succ])
    refine wpAnyH_take (i := 9) (oi := { dst := some 39, op := Op.convert 5 3 (Operand.tmp 38), type := 3, pos := "ref.go:126", after := #[{ on := 8, ground := Ground.data }], guard := none }) (v := ?_) rfl (by kernel_rfl) (by kernel_rfl) (by kernel_rfl) (fun _ _ _ h => h) (Or.inl ⟨by rfl, ?_⟩) hHeld ?_
    rotate_left
    · intro w9 hSw
      (try dsimp only at hSw)
      go_simp <;> with_reducible rfl
    (try simp only [Act.put, List.setIfInBounds_toArray, List.set_cons_zero, List.set_cons_succ])
    refine wpAnyH_take (i := 10) (oi := { dst := some 40, op := Op.binOp BinOp.mul 3 (Operand.const (Value.int IntKind.i64 65536)) (Operand.tmp 39) 3, type := 3, pos := "ref.go:126", after := #[{ on := 9, ground := Ground.data }], guard := none }) (v := ?_) rfl (by kernel_rfl) (by kernel_rfl) (by kernel_rfl) (fun _ _ _ h => h) (Or.inl ⟨by rfl, ?_⟩) hHeld ?_
    rotate_left
    · intro w9 hSw
      (try dsimp only at hSw)
      go_simp <;> with_reducible rfl
    (try simp only [Act.put, List.setIfInBounds_toArray, List.set_cons_zero, List.set_cons_succ])
    refine wpAnyH_take (i := 11) (oi := { dst := some 41, op := Op.move (Operand.tmp 0), type := 51, pos := "ref.go:126", after := #[], guard := none }) (v := ?_) rfl (by kernel_rfl) (by kernel_rfl) (by kernel_rfl) (fun _ _ _ h => h) (Or.inl ⟨by rfl, ?_⟩) hHeld ?_
    rotate_left
    · intro w9 hSw
      (try dsimp only at hSw)
      go_simp <;> with_reducible rfl
    (try simp only [Act.put, List.setIfInBounds_toArray, List.set_cons_zero, List.set_cons_succ])
    refine wpAnyH_take (i := 12) (oi := { dst := some 42, op := Op.indexAddr 51 (Operand.tmp 41) (Operand.const (Value.int IntKind.i64 8)), type := 0, pos := "ref.go:126", after := #[{ on := 11, ground := Ground.data }], guard := none }) (v := ?_) rfl (by kernel_rfl) (by kernel_rfl) (by kernel_rfl) (fun _ _ _ h => h) (Or.inl ⟨by rfl, ?_⟩) hHeld ?_
    rotate_left
    · intro w9 hSw
      (try dsimp only at hSw)
      go_simp <;> with_reducible rfl
    (try simp only [Act.put, List.setIfInBounds_toArray, List.set_cons_zero, List.set_cons_succ])
    refine wpAnyH_take (i := 13) (oi := { dst := some 43, op := Op.load 5 (Operand.tmp 42), type := 5, pos := "ref.go:126", after := #[{ on := 12, ground := Ground.data }], guard := none }) (v := ?_) rfl (by kernel_rfl) (by kernel_rfl) (by kernel_rfl) (fun _ _ _ h => h) (Or.inl ⟨by rfl, ?_⟩) hHeld ?_
    rotate_left
    · intro w9 hSw
      (try dsimp only at hSw)
      have k := q8 _ hSw
      go_simp <;> with_reducible rfl
    (try simp only [Act.put, List.setIfInBounds_toArray, List.set_cons_zero, List.set_cons_succ])
    refine wpAnyH_take (i := 14) (oi := { dst := some 44, op := Op.convert 5 3 (Operand.tmp 43), type := 3, pos := "ref.go:126", after := #[{ on := 13, ground := Ground.data }], guard := none }) (v := ?_) rfl (by kernel_rfl) (by kernel_rfl) (by kernel_rfl) (fun _ _ _ h => h) (Or.inl ⟨by rfl, ?_⟩) hHeld ?_
    rotate_left
    · intro w9 hSw
      (try dsimp only at hSw)
      go_simp <;> with_reducible rfl
    (try simp only [Act.put, List.setIfInBounds_toArray, List.set_cons_zero, List.set_cons_succ])
    refine wpAnyH_take (i := 15) (oi := { dst := some 45, op := Op.binOp BinOp.mul 3 (Operand.const (Value.int IntKind.i64 256)) (Operand.tmp 44) 3, type := 3, pos := "ref.go:126", after := #[{ on := 14, ground := Ground.data }], guard := none }) (v := ?_) rfl (by kernel_rfl) (by kernel_rfl) (by kernel_rfl) (fun _ _ _ h => h) (Or.inl ⟨by rfl, ?_⟩) hHeld ?_
    rotate_left
    · intro w9 hSw
      (try dsimp only at hSw)
      go_simp <;> with_reducible rfl
    (try simp only [Act.put, List.setIfInBounds_toArray, List.set_cons_zero, List.set_cons_succ])
    refine wpAnyH_take (i := 16) (oi := { dst := some 46, op := Op.binOp BinOp.add 3 (Operand.tmp 40) (Operand.tmp 45) 3, type := 3, pos := "ref.go:126", after := #[{ on := 10, ground := Ground.data }, { on := 15, ground := Ground.data }], guard := none }) (v := ?_) rfl (by kernel_rfl) (by kernel_rfl) (by kernel_rfl) (fun _ _ _ h => h) (Or.inl ⟨by rfl, ?_⟩) hHeld ?_
    rotate_left
    · intro w9 hSw
      (try dsimp only at hSw)
      go_simp <;> with_reducible rfl
    (try simp only [Act.put, List.setIfInBounds_toArray, List.set_cons_zero, List.set_cons_succ])
    refine wpAnyH_take (i := 17) (oi := { dst := some 47, op := Op.move (Operand.tmp 0), type := 51, pos := "ref.go:126", after := #[], guard := none }) (v := ?_) rfl (by kernel_rfl) (by kernel_rfl) (by kernel_rfl) (fun _ _ _ h => h) (Or.inl ⟨by rfl, ?_⟩) hHeld ?_
    rotate_left
    · intro w9 hSw
      (try dsimp only at hSw)
      go_simp <;> with_reducible rfl
    (try simp only [Act.put, List.setIfInBounds_toArray, List.set_cons_zero, List.set_cons_succ])
    refine wpAnyH_take (i := 18) (oi := { dst := some 48, op := Op.indexAddr 51 (Operand.tmp 47) (Operand.const (Value.int IntKind.i64 9)), type := 0, pos := "ref.go:126", after := #[{ on := 17, ground := Ground.data }], guard := none }) (v := ?_) rfl (by kernel_rfl) (by kernel_rfl) (by kernel_rfl) (fun _ _ _ h => h) (Or.inl ⟨by rfl, ?_⟩) hHeld ?_
    rotate_left
    · intro w9 hSw
      (try dsimp only at hSw)
      go_simp <;> with_reducible rfl
    (try simp only [Act.put, List.setIfInBounds_toArray, List.set_cons_zero, List.set_cons_succ])
    refine wpAnyH_take (i := 19) (oi := { dst := some 49, op := Op.load 5 (Operand.tmp 48), type := 5, pos := "ref.go:126", after := #[{ on := 18, ground := Ground.data }], guard := none }) (v := ?_) rfl (by kernel_rfl) (by kernel_rfl) (by kernel_rfl) (fun _ _ _ h => h) (Or.inl ⟨by rfl, ?_⟩) hHeld ?_
    rotate_left
    · intro w9 hSw
      (try dsimp only at hSw)
      have k := q9 _ hSw
      go_simp <;> with_reducible rfl
    (try simp only [Act.put, List.setIfInBounds_toArray, List.set_cons_zero, List.set_cons_succ])
    refine wpAnyH_take (i := 20) (oi := { dst := some 50, op := Op.convert 5 3 (Operand.tmp 49), type := 3, pos := "ref.go:126", after := #[{ on := 19, ground := Ground.data }], guard := none }) (v := ?_) rfl (by kernel_rfl) (by kernel_rfl) (by kernel_rfl) (fun _ _ _ h => h) (Or.inl ⟨by rfl, ?_⟩) hHeld ?_
    rotate_left
    · intro w9 hSw
      (try dsimp only at hSw)
      go_simp <;> with_reducible rfl
    (try simp only [Act.put, List.setIfInBounds_toArray, List.set_cons_zero, List.set_cons_succ])
    refine wpAnyH_take (i := 21) (oi := { dst := some 51, op := Op.binOp BinOp.add 3 (Operand.tmp 46) (Operand.tmp 50) 3, type := 3, pos := "ref.go:126", after := #[{ on := 16, ground := Ground.data }, { on := 20, ground := Ground.data }], guard := none }) (v := ?_) rfl (by kernel_rfl) (by kernel_rfl) (by kernel_rfl) (fun _ _ _ h => h) (Or.inl ⟨by rfl, ?_⟩) hHeld ?_
    rotate_left
    · intro w9 hSw
      (try dsimp only at hSw)
      go_simp <;> with_reducible rfl
    (try simp only [Act.put, List.setIfInBounds_toArray, List.set_cons_zero, List.set_cons_succ])
    refine wpAnyH_take (i := 22) (oi := { dst := some 52, op := Op.move (Operand.tmp 0), type := 51, pos := "ref.go:126", after := #[], guard := none }) (v := ?_) rfl (by kernel_rfl) (by kernel_rfl) (by kernel_rfl) (fun _ _ _ h => h) (Or.inl ⟨by rfl, ?_⟩) hHeld ?_
    rotate_left
    · intro w9 hSw
      (try dsimp only at hSw)
      go_simp <;> with_reducible rfl
    (try simp only [Act.put, List.setIfInBounds_toArray, List.set_cons_zero, List.set_cons_succ])
    refine wpAnyH_take (i := 23) (oi := { dst := some 53, op := Op.slice 51 (Operand.tmp 52) (some (Operand.const (Value.int IntKind.i64 10))) (some (Operand.const (Value.int IntKind.i64 23))) none, type := 51, pos := "ref.go:126", after := #[{ on := 22, ground := Ground.data }], guard := none }) (v := ?_) rfl (by kernel_rfl) (by kernel_rfl) (by kernel_rfl) (fun _ _ _ h => h) (Or.inl ⟨by rfl, ?_⟩) hHeld ?_
    rotate_left
    · intro w9 hSw
      (try dsimp only at hSw)
      go_simp <;> with_reducible rfl
    (try simp only [Act.put, List.setIfInBounds_toArray, List.set_cons_zero, List.set_cons_succ])
    refine wpAnyH_take (i := 25) (oi := { dst := some 55, op := Op.move (Operand.tmp 0), type := 51, pos := "ref.go:126", after := #[], guard := none }) (v := ?_) rfl (by kernel_rfl) (by kernel_rfl) (by kernel_rfl) (fun _ _ _ h => h) (Or.inl ⟨by rfl, ?_⟩) hHeld ?_
    rotate_left
    · intro w9 hSw
      (try dsimp only at hSw)
      go_simp <;> with_reducible rfl
    (try simp only [Act.put, List.setIfInBounds_toArray, List.set_cons_zero, List.set_cons_succ])
    refine wpAnyH_take (i := 26) (oi := { dst := some 56, op := Op.indexAddr 51 (Operand.tmp 55) (Operand.const (Value.int IntKind.i64 23)), type := 0, pos := "ref.go:126", after := #[{ on := 25, ground := Ground.data }], guard := none }) (v := ?_) rfl (by kernel_rfl) (by kernel_rfl) (by kernel_rfl) (fun _ _ _ h => h) (Or.inl ⟨by rfl, ?_⟩) hHeld ?_
    rotate_left
    · intro w9 hSw
      (try dsimp only at hSw)
      go_simp <;> with_reducible rfl
    (try simp only [Act.put, List.setIfInBounds_toArray, List.set_cons_zero, List.set_cons_succ])
    refine wpAnyH_take (i := 27) (oi := { dst := some 57, op := Op.load 5 (Operand.tmp 56), type := 5, pos := "ref.go:126", after := #[{ on := 26, ground := Ground.data }], guard := none }) (v := ?_) rfl (by kernel_rfl) (by kernel_rfl) (by kernel_rfl) (fun _ _ _ h => h) (Or.inl ⟨by rfl, ?_⟩) hHeld ?_
    rotate_left
    · intro w9 hSw
      (try dsimp only at hSw)
      have k := q23 _ hSw
      go_simp <;> with_reducible rfl
    (try simp only [Act.put, List.setIfInBounds_toArray, List.set_cons_zero, List.set_cons_succ])
    refine wpAnyH_take (i := 28) (oi := { dst := some 58, op := Op.convert 5 3 (Operand.tmp 57), type := 3, pos := "ref.go:126", after := #[{ on := 27, ground := Ground.data }], guard := none }) (v := ?_) rfl (by kernel_rfl) (by kernel_rfl) (by kernel_rfl) (fun _ _ _ h => h) (Or.inl ⟨by rfl, ?_⟩) hHeld ?_
    rotate_left
    · intro w9 hSw
      (try dsimp only at hSw)
      go_simp <;> with_reducible rfl
    (try simp only [Act.put, List.setIfInBounds_toArray, List.set_cons_zero, List.set_cons_succ])
    refine wpAnyH_ready (rs := [5, 31]) (by kernel_rfl) (by simp) ?_
    refine AllReadyH.cons rfl (fun K hK => ?_) (AllReadyH.cons rfl (fun K hK => ?_) (AllReadyH.nil))
    · go_simp
      go_wp2_with (go_at_call 102; refine (rhan_of y1 y2 y3 _ _ _ HL6 H1 _ (HR6 _ S1)).mono ?_; rintro e vC ⟨rfl, bC⟩)
      have sC := below_in S1 bC
      refine hK.out _ _ sC (fun hHeld => ?_)
      clear hK K
      refine wpAnyH_ready (rs := [24, 31]) (by kernel_rfl) (by simp) ?_
      refine AllReadyH.cons rfl (fun K hK => ?_) (AllReadyH.cons rfl (fun K hK => ?_) (AllReadyH.nil))
      · go_simp
        go_wp2_with (go_at_call 103; refine (rid9_of y5 y6 y7 y8 _ _ _ HL13 H5 _ (HR13 _ sC)).mono ?_; rintro e vI ⟨rfl, bI⟩)
        have sI := below_in sC bI
        refine hK.out _ _ sI (fun hHeld => ?_)
        clear hK K
        refine wpAnyH_take (i := 29) (oi := { dst := some 59, op := Op.build 30 #[(0, Operand.tmp 54), (1, Operand.tmp 58)], type := 30, pos := "ref.go:126", after := #[{ on := 24, ground := Ground.data }, { on := 28, ground := Ground.data }], guard := none }) (v := ?_) rfl (by kernel_rfl) (by kernel_rfl) (by kernel_rfl) (fun _ _ _ h => h) (Or.inl ⟨by rfl, ?_⟩) hHeld ?_
        rotate_left
        · intro w9 hSw
          (try dsimp only at hSw)
          refine run_span9 _ w9 y5 y6 y7 y8 y9 ?_ ?_ <;> rfl
        (try simp only [Act.put, List.setIfInBounds_toArray, List.set_cons_zero, List.set_cons_succ])
        refine wpAnyH_take (i := 30) (oi := { dst := some 60, op := Op.build 33 #[(0, Operand.tmp 32), (1, Operand.tmp 35), (2, Operand.tmp 51), (3, Operand.tmp 59)], type := 33, pos := "ref.go:126", after := #[{ on := 2, ground := Ground.data }, { on := 5, ground := Ground.data }, { on := 21, ground := Ground.data }, { on := 29, ground := Ground.data }], guard := none }) (v := ?_) rfl (by kernel_rfl) (by kernel_rfl) (by kernel_rfl) (fun _ _ _ h => h) (Or.inl ⟨by rfl, ?_⟩) hHeld ?_
        rotate_left
        · intro w9 hSw
          (try dsimp only at hSw)
          refine run_head9 _ w9 y0 y1 y2 y3 y4 y5 y6 y7 y8 y9 ?_ ?_ ?_ ?_ <;> rfl
        (try simp only [Act.put, List.setIfInBounds_toArray, List.set_cons_zero, List.set_cons_succ])
        refine wpAnyH_ready (rs := [31]) (by kernel_rfl) (by simp) ?_
        refine AllReadyH.cons rfl (fun K hK => ?_) (AllReadyH.nil)
        · go_simp
          refine hK.out _ _ (below_al sI _) (fun hHeld => ?_)
          clear hK K
          have ht := thereO_new vI #[.int .u8 0, .int .u8 0, .int .u32 0, .int .u8 0, .int .i64 0, .int .u8 0, .int .u32 0, .int .u8 0, .int .i64 0, .int .i64 0, .int .u8 0, .int .u32 0, .int .u8 0, .int .i64 0, .int .u8 0, .int .u32 0, .slice none 0 0] rfl 33
          generalize hX : World.alloc vI _ = XA at ht hHeld ⊢
          have bA : Below vI.heap.size vI XA := by rw [← hX]; exact (Below.refl _ _).alloc (Nat.le_refl _) _
          have sA := below_in sI bA
          have hg : X.heap.size ≤ vI.heap.size := Below.size sI
          clear hX
          refine wpAnyH_ready (rs := [32]) (by kernel_rfl) (by simp) ?_
          refine AllReadyH.cons rfl (fun K hK => ?_) AllReadyH.nil
          rw [if_pos (by rfl)]
          refine wp_store_mid 33 (.tmp 6) (.tmp 60) rfl vI.heap.size 0 (List.toArray [.int .u8 y0, .int .u8 y1, .int .u32 y2, .int .u8 y3, .int .i64 y4, .int .u8 y5, .int .u32 y6, .int .u8 y7, .int .i64 y8, .int .i64 y9, .int .u8 0, .int .u32 0, .int .u8 0, .int .i64 0, .int .u8 0, .int .u32 0, .slice none 0 0]) rfl rfl ht info_O (by simp [Value.oneCell']) ?_
          (try simp only [Act.put, List.setIfInBounds_toArray, List.set_cons_zero, List.set_cons_succ, List.toList_toArray])
          have bx : BoxO (World.setCells XA vI.heap.size 0 [.int .u8 y0, .int .u8 y1, .int .u32 y2, .int .u8 y3, .int .i64 y4, .int .u8 y5, .int .u32 y6, .int .u8 y7, .int .i64 y8, .int .i64 y9, .int .u8 0, .int .u32 0, .int .u8 0, .int .i64 0, .int .u8 0, .int .u32 0, .slice none 0 0]) vI.heap.size ⟨y0, y1, y2, y3, y4, y5, y6, y7, y8, y9, 0, 0, 0, 0, 0, 0, []⟩ none 0 0 := boxO_of (World.rangeAt_setCells_same XA vI.heap.size 0 _ ht)
          have hs9 : Below X.heap.size X (World.setCells XA vI.heap.size 0 [.int .u8 y0, .int .u8 y1, .int .u32 y2, .int .u8 y3, .int .i64 y4, .int .u8 y5, .int .u32 y6, .int .u8 y7, .int .i64 y8, .int .i64 y9, .int .u8 0, .int .u32 0, .int .u8 0, .int .i64 0, .int .u8 0, .int .u32 0, .slice none 0 0]) := sA.trans (below_setCells vI.heap.size X.heap.size hg _ _ _)
          refine hK.out _ _ hs9 (fun hHeld2 => ?_)
          clear hK K
          refine wpAnyH_done (by kernel_rfl) ?_ _
          have md : Head9 X (World.setCells XA vI.heap.size 0 [.int .u8 y0, .int .u8 y1, .int .u32 y2, .int .u8 y3, .int .i64 y4, .int .u8 y5, .int .u32 y6, .int .u8 y7, .int .i64 y8, .int .i64 y9, .int .u8 0, .int .u32 0, .int .u8 0, .int .i64 0, .int .u8 0, .int .u32 0, .slice none 0 0]) ⟨y0, y1, y2, y3, y4, y5, y6, y7, y8, y9, 0, 0, 0, 0, 0, 0, []⟩ (.pointer (some ⟨vI.heap.size, 0, none⟩)) := ⟨vI.heap.size, rfl, bx, ht.sets 0 _, hg, hs9⟩
          clear hHeld hHeld2 bx
          generalize World.setCells _ vI.heap.size 0 _ = X9 at md hs9 ⊢
          go_wp2_with fail
          go_meet
          case rel => exact md
      · go_simp
        refine hK.out _ _ (below_al sC _) (fun hHeld => ?_)
        clear hK K
        have ht := thereO_new vC #[.int .u8 0, .int .u8 0, .int .u32 0, .int .u8 0, .int .i64 0, .int .u8 0, .int .u32 0, .int .u8 0, .int .i64 0, .int .i64 0, .int .u8 0, .int .u32 0, .int .u8 0, .int .i64 0, .int .u8 0, .int .u32 0, .slice none 0 0] rfl 33
        generalize hX : World.alloc vC _ = XA at ht hHeld ⊢
        have bA : Below vC.heap.size vC XA := by rw [← hX]; exact (Below.refl _ _).alloc (Nat.le_refl _) _
        have sA := below_in sC bA
        have hg : X.heap.size ≤ vC.heap.size := Below.size sC
        clear hX
        refine wpAnyH_ready (rs := [24]) (by kernel_rfl) (by simp) ?_
        refine AllReadyH.cons rfl (fun K hK => ?_) (AllReadyH.nil)
        · go_simp
          go_wp2_with (go_at_call 103; refine (rid9_of y5 y6 y7 y8 _ _ _ HL13 H5 _ (HR13 _ sA)).mono ?_; rintro e vI ⟨rfl, bI⟩)
          have sI := below_in sA bI
          replace ht := ht.keep bI
          refine hK.out _ _ sI (fun hHeld => ?_)
          clear hK K
          refine wpAnyH_take (i := 29) (oi := { dst := some 59, op := Op.build 30 #[(0, Operand.tmp 54), (1, Operand.tmp 58)], type := 30, pos := "ref.go:126", after := #[{ on := 24, ground := Ground.data }, { on := 28, ground := Ground.data }], guard := none }) (v := ?_) rfl (by kernel_rfl) (by kernel_rfl) (by kernel_rfl) (fun _ _ _ h => h) (Or.inl ⟨by rfl, ?_⟩) hHeld ?_
          rotate_left
          · intro w9 hSw
            (try dsimp only at hSw)
            refine run_span9 _ w9 y5 y6 y7 y8 y9 ?_ ?_ <;> rfl
          (try simp only [Act.put, List.setIfInBounds_toArray, List.set_cons_zero, List.set_cons_succ])
          refine wpAnyH_take (i := 30) (oi := { dst := some 60, op := Op.build 33 #[(0, Operand.tmp 32), (1, Operand.tmp 35), (2, Operand.tmp 51), (3, Operand.tmp 59)], type := 33, pos := "ref.go:126", after := #[{ on := 2, ground := Ground.data }, { on := 5, ground := Ground.data }, { on := 21, ground := Ground.data }, { on := 29, ground := Ground.data }], guard := none }) (v := ?_) rfl (by kernel_rfl) (by kernel_rfl) (by kernel_rfl) (fun _ _ _ h => h) (Or.inl ⟨by rfl, ?_⟩) hHeld ?_
          rotate_left
          · intro w9 hSw
            (try dsimp only at hSw)
            refine run_head9 _ w9 y0 y1 y2 y3 y4 y5 y6 y7 y8 y9 ?_ ?_ ?_ ?_ <;> rfl
          (try simp only [Act.put, List.setIfInBounds_toArray, List.set_cons_zero, List.set_cons_succ])
          refine wpAnyH_ready (rs := [32]) (by kernel_rfl) (by simp) ?_
          refine AllReadyH.cons rfl (fun K hK => ?_) AllReadyH.nil
          rw [if_pos (by rfl)]
          refine wp_store_mid 33 (.tmp 6) (.tmp 60) rfl vC.heap.size 0 (List.toArray [.int .u8 y0, .int .u8 y1, .int .u32 y2, .int .u8 y3, .int .i64 y4, .int .u8 y5, .int .u32 y6, .int .u8 y7, .int .i64 y8, .int .i64 y9, .int .u8 0, .int .u32 0, .int .u8 0, .int .i64 0, .int .u8 0, .int .u32 0, .slice none 0 0]) rfl rfl ht info_O (by simp [Value.oneCell']) ?_
          (try simp only [Act.put, List.setIfInBounds_toArray, List.set_cons_zero, List.set_cons_succ, List.toList_toArray])
          have bx : BoxO (World.setCells vI vC.heap.size 0 [.int .u8 y0, .int .u8 y1, .int .u32 y2, .int .u8 y3, .int .i64 y4, .int .u8 y5, .int .u32 y6, .int .u8 y7, .int .i64 y8, .int .i64 y9, .int .u8 0, .int .u32 0, .int .u8 0, .int .i64 0, .int .u8 0, .int .u32 0, .slice none 0 0]) vC.heap.size ⟨y0, y1, y2, y3, y4, y5, y6, y7, y8, y9, 0, 0, 0, 0, 0, 0, []⟩ none 0 0 := boxO_of (World.rangeAt_setCells_same vI vC.heap.size 0 _ ht)
          have hs9 : Below X.heap.size X (World.setCells vI vC.heap.size 0 [.int .u8 y0, .int .u8 y1, .int .u32 y2, .int .u8 y3, .int .i64 y4, .int .u8 y5, .int .u32 y6, .int .u8 y7, .int .i64 y8, .int .i64 y9, .int .u8 0, .int .u32 0, .int .u8 0, .int .i64 0, .int .u8 0, .int .u32 0, .slice none 0 0]) := sI.trans (below_setCells vC.heap.size X.heap.size hg _ _ _)
          refine hK.out _ _ hs9 (fun hHeld2 => ?_)
          clear hK K
          refine wpAnyH_done (by kernel_rfl) ?_ _
          have md : Head9 X (World.setCells vI vC.heap.size 0 [.int .u8 y0, .int .u8 y1, .int .u32 y2, .int .u8 y3, .int .i64 y4, .int .u8 y5, .int .u32 y6, .int .u8 y7, .int .i64 y8, .int .i64 y9, .int .u8 0, .int .u32 0, .int .u8 0, .int .i64 0, .int .u8 0, .int .u32 0, .slice none 0 0]) ⟨y0, y1, y2, y3, y4, y5, y6, y7, y8, y9, 0, 0, 0, 0, 0, 0, []⟩ (.pointer (some ⟨vC.heap.size, 0, none⟩)) := ⟨vC.heap.size, rfl, bx, ht.sets 0 _, hg, hs9⟩
          clear hHeld hHeld2 bx
          generalize World.setCells _ vC.heap.size 0 _ = X9 at md hs9 ⊢
          go_wp2_with fail
          go_meet
          case rel => exact md
    · go_simp
      refine hK.out _ _ (below_al S1 _) (fun hHeld => ?_)
      clear hK K
      have ht := thereO_new V #[.int .u8 0, .int .u8 0, .int .u32 0, .int .u8 0, .int .i64 0, .int .u8 0, .int .u32 0, .int .u8 0, .int .i64 0, .int .i64 0, .int .u8 0, .int .u32 0, .int .u8 0, .int .i64 0, .int .u8 0, .int .u32 0, .slice none 0 0] rfl 33
      generalize hX : World.alloc V _ = XA at ht hHeld ⊢
      have bA : Below V.heap.size V XA := by rw [← hX]; exact (Below.refl _ _).alloc (Nat.le_refl _) _
      have sA := below_in S1 bA
      have hg : X.heap.size ≤ V.heap.size := Below.size S1
      clear hX
      refine wpAnyH_ready (rs := [5]) (by kernel_rfl) (by simp) ?_
      refine AllReadyH.cons rfl (fun K hK => ?_) (AllReadyH.nil)
      · go_simp
        go_wp2_with (go_at_call 102; refine (rhan_of y1 y2 y3 _ _ _ HL6 H1 _ (HR6 _ sA)).mono ?_; rintro e vC ⟨rfl, bC⟩)
        have sC := below_in sA bC
        replace ht := ht.keep bC
        refine hK.out _ _ sC (fun hHeld => ?_)
        clear hK K
        refine wpAnyH_ready (rs := [24]) (by kernel_rfl) (by simp) ?_
        refine AllReadyH.cons rfl (fun K hK => ?_) (AllReadyH.nil)
        · go_simp
          go_wp2_with (go_at_call 103; refine (rid9_of y5 y6 y7 y8 _ _ _ HL13 H5 _ (HR13 _ sC)).mono ?_; rintro e vI ⟨rfl, bI⟩)
          have sI := below_in sC bI
          replace ht := ht.keep bI
          refine hK.out _ _ sI (fun hHeld => ?_)
          clear hK K
          refine wpAnyH_take (i := 29) (oi := { dst := some 59, op := Op.build 30 #[(0, Operand.tmp 54), (1, Operand.tmp 58)], type := 30, pos := "ref.go:126", after := #[{ on := 24, ground := Ground.data }, { on := 28, ground := Ground.data }], guard := none }) (v := ?_) rfl (by kernel_rfl) (by kernel_rfl) (by kernel_rfl) (fun _ _ _ h => h) (Or.inl ⟨by rfl, ?_⟩) hHeld ?_
          rotate_left
          · intro w9 hSw
            (try dsimp only at hSw)
            refine run_span9 _ w9 y5 y6 y7 y8 y9 ?_ ?_ <;> rfl
          (try simp only [Act.put, List.setIfInBounds_toArray, List.set_cons_zero, List.set_cons_succ])
          refine wpAnyH_take (i := 30) (oi := { dst := some 60, op := Op.build 33 #[(0, Operand.tmp 32), (1, Operand.tmp 35), (2, Operand.tmp 51), (3, Operand.tmp 59)], type := 33, pos := "ref.go:126", after := #[{ on := 2, ground := Ground.data }, { on := 5, ground := Ground.data }, { on := 21, ground := Ground.data }, { on := 29, ground := Ground.data }], guard := none }) (v := ?_) rfl (by kernel_rfl) (by kernel_rfl) (by kernel_rfl) (fun _ _ _ h => h) (Or.inl ⟨by rfl, ?_⟩) hHeld ?_
          rotate_left
          · intro w9 hSw
            (try dsimp only at hSw)
            refine run_head9 _ w9 y0 y1 y2 y3 y4 y5 y6 y7 y8 y9 ?_ ?_ ?_ ?_ <;> rfl
          (try simp only [Act.put, List.setIfInBounds_toArray, List.set_cons_zero, List.set_cons_succ])
          refine wpAnyH_ready (rs := [32]) (by kernel_rfl) (by simp) ?_
          refine AllReadyH.cons rfl (fun K hK => ?_) AllReadyH.nil
          rw [if_pos (by rfl)]
          refine wp_store_mid 33 (.tmp 6) (.tmp 60) rfl V.heap.size 0 (List.toArray [.int .u8 y0, .int .u8 y1, .int .u32 y2, .int .u8 y3, .int .i64 y4, .int .u8 y5, .int .u32 y6, .int .u8 y7, .int .i64 y8, .int .i64 y9, .int .u8 0, .int .u32 0, .int .u8 0, .int .i64 0, .int .u8 0, .int .u32 0, .slice none 0 0]) rfl rfl ht info_O (by simp [Value.oneCell']) ?_
          (try simp only [Act.put, List.setIfInBounds_toArray, List.set_cons_zero, List.set_cons_succ, List.toList_toArray])
          have bx : BoxO (World.setCells vI V.heap.size 0 [.int .u8 y0, .int .u8 y1, .int .u32 y2, .int .u8 y3, .int .i64 y4, .int .u8 y5, .int .u32 y6, .int .u8 y7, .int .i64 y8, .int .i64 y9, .int .u8 0, .int .u32 0, .int .u8 0, .int .i64 0, .int .u8 0, .int .u32 0, .slice none 0 0]) V.heap.size ⟨y0, y1, y2, y3, y4, y5, y6, y7, y8, y9, 0, 0, 0, 0, 0, 0, []⟩ none 0 0 := boxO_of (World.rangeAt_setCells_same vI V.heap.size 0 _ ht)
          have hs9 : Below X.heap.size X (World.setCells vI V.heap.size 0 [.int .u8 y0, .int .u8 y1, .int .u32 y2, .int .u8 y3, .int .i64 y4, .int .u8 y5, .int .u32 y6, .int .u8 y7, .int .i64 y8, .int .i64 y9, .int .u8 0, .int .u32 0, .int .u8 0, .int .i64 0, .int .u8 0, .int .u32 0, .slice none 0 0]) := sI.trans (below_setCells V.heap.size X.heap.size hg _ _ _)
          refine hK.out _ _ hs9 (fun hHeld2 => ?_)
          clear hK K
          refine wpAnyH_done (by kernel_rfl) ?_ _
          have md : Head9 X (World.setCells vI V.heap.size 0 [.int .u8 y0, .int .u8 y1, .int .u32 y2, .int .u8 y3, .int .i64 y4, .int .u8 y5, .int .u32 y6, .int .u8 y7, .int .i64 y8, .int .i64 y9, .int .u8 0, .int .u32 0, .int .u8 0, .int .i64 0, .int .u8 0, .int .u32 0, .slice none 0 0]) ⟨y0, y1, y2, y3, y4, y5, y6, y7, y8, y9, 0, 0, 0, 0, 0, 0, []⟩ (.pointer (some ⟨V.heap.size, 0, none⟩)) := ⟨V.heap.size, rfl, bx, ht.sets 0 _, hg, hs9⟩
          clear hHeld hHeld2 bx
          generalize World.setCells _ V.heap.size 0 _ = X9 at md hs9 ⊢
          go_wp2_with fail
          go_meet
          case rel => exact md
  case rest =>
    clear q0 q7 q8 q9 q23 hw7 hw8 hwg hs7 hs8 hs1 hs4 HR6 HR13 H1 H5 HL6 HL13
    obtain ⟨g, rfl, bx, tx, lg, bb⟩ := hcut
    have hlt : w.heap.size < g := Nat.lt_of_lt_of_le (there_lt9 th0.th) lg
    replace th0 := th0.keep bb
    have hb := below_in hbw bb
    clear bb lg hbw
    generalize hX : wc = Y at *
    clear hX
    have ck := bx.c0
    obtain ⟨i0, hi0, hz0, hz1, hz2⟩ := info_parts info_u8
    have hln := HLN.out
    rcases HSZ.out.2 with ⟨hk, hp⟩ | ⟨hk, hp⟩ | ⟨hk, hp⟩
    case' inl =>
      subst hk
      obtain ⟨x0, x1, x2, x3, hx⟩ : ∃ x0 x1 x2 x3, gL ((l.drop 24).take 13) = x0 ∧ gC ((l.drop 24).take 13) = x1 ∧ gK ((l.drop 24).take 13) = x2 ∧ gN ((l.drop 24).take 13) = x3 := ⟨_, _, _, _, rfl, rfl, rfl, rfl⟩
      obtain ⟨r, k, j, hr⟩ : ∃ r k j, getV ((l.drop 37).take (p - 37)) = r ∧ r.length = k ∧ getE ((l.drop 37).take (p - 37)) = j := ⟨_, _, _, rfl, rfl, rfl⟩
      have HX := hid hx
      have HG := hid hr
      have h37 : 37 ≤ p := by omega
      have h37' : (37 : Int) ≤ (p : Int) := by omega
      have HL24 := hid (show ((l.drop 24).take 13).length = 13 by rw [List.length_take, List.length_drop]; omega)
      have HL37 := hid (show ((l.drop 37).take (p - 37)).length = p - 37 by rw [List.length_take, List.length_drop]; omega)
      have HR24 := hid ((HR.out.drop 24 (by omega)).take 13)
      have HR37 := hid ((HR.out.drop 37 (by omega)).take (p - 37))
      have h13 := idn_r true (l := (l.drop 24).take 13) (by rw [HL24.out]; omega)
      simp only [pick_true, hx.1, hx.2.1, hx.2.2.1, hx.2.2.2] at h13
      have hin := getV_r ((l.drop 37).take (p - 37))
      rw [hr.1] at hin
      have HOR2 := hid (show Opr ⟨1, y1, y2, y3, y4, y5, y6, y7, y8, y9, x0, x1, x2, x3, 0, 0, r⟩ from ⟨HOR.out.k0, HOR.out.k1, HOR.out.han, HOR.out.s64, HOR.out.spn, h13, HOR.out.lab, hin⟩)
      have HU := hid (one1 HH.out (fun o' h => (HONE.out o' h).1) (m := p - 37) (by show 4 * y9.toNat = p - 37; omega) hx ⟨hr.1, hr.2.2⟩)
      have HK := hid hr.2.1
      have c37 : (37 : Int) ≤ (c : Int) := by omega
      have n37 : ¬ c = 37 := by omega
      have c24 : ¬ c = 24 := by omega
      clear hx hr hln h13 hin HOR HH HSZ hp
      go_wp2_with fail
      refine (rid9_of x0 x1 x2 x3 _ _ _ HL24 HX _ (HR24.out.keep hb)).mono ?_
      rintro e w2 ⟨rfl, b2⟩
      have bx2 := bx.keep b2
      have tx2 := tx.keep b2
      have th2 := th0.keep b2
      have hb2 := below_in hb b2
      clear bx tx th0 hb b2 ck
      have one : True := trivial
      go_wp2_with (clear one; refine wpList_store_mid rfl 28 (.tmp 67) (.tmp 66) rfl g 10 (List.toArray [.int .u8 x0, .int .u32 x1, .int .u8 x2, .int .i64 x3]) rfl rfl (fun j hj => by have := tx2 (10 + j) (by simp at hj; omega); simpa using this) (by kernel_rfl) (by simp [Value.oneCell']) ?_; have bx3 := set_aft bx2 tx2 x0 x1 x2 x3; have tx3 := tx2.sets 10 [.int .u8 x0, .int .u32 x1, .int .u8 x2, .int .i64 x3]; have th3 := Res9.sets th2 (Nat.ne_of_lt hlt) 10 [.int .u8 x0, .int .u32 x1, .int .u8 x2, .int .i64 x3]; have hb3 := hb2.trans (below_setCells g w.heap.size (Nat.le_of_lt hlt) [.int .u8 x0, .int .u32 x1, .int .u8 x2, .int .i64 x3] 10 w2); (try simp only [List.toList_toArray]); generalize World.setCells w2 g 10 _ = w3 at bx3 tx3 th3 hb3 ⊢)
      refine (refgeto_of r k j _ _ _ _ HL37 HG _ (HR37.out.keep hb3)).mono ?_
      rintro e w5 ⟨A5, c5, rfl, hr5, b5⟩
      have hgx := there_lt9 tx3
      have bx5 := bx3.keep b5
      have tx5 := tx3.keep b5
      have th5 := th3.keep b5
      have hb5 := below_in hb3 b5
      clear bx2 tx2 th2 hb2 bx3 tx3 th3 hb3 b5
      by_cases hj0 : j = 0
      rotate_left
      · have d5 : (j == 0) = false := by simpa using hj0
        have HN := hid (show ∀ o', ¬ Begins l o' from fun o' h => hj0 (HU.out o' h).1)
        clear HU HOR2 bx5 tx5 hr5 hgx
        go_wp2_with (refine wpList_store_o rfl (.tmp 2) (.tmp 77) rfl w.heap.size rfl zO none 0 0 rfl th5.th w.heap.size (Nat.le_refl _) ?_; intro w4 bx4 th4 b4 hh4 sz4)
        exact bodyPost_ret (results_o3 rfl rfl bx4) rfl ⟨zO, none, 0, 0, 0, 8, rfl, .inr ⟨HN.out, rfl, rfl, rfl⟩, rfl, OwnI.nil _ _ _, hb5.trans b4⟩
      subst hj0
      have b16 := bx5.c16
      have f16 := tx5.at_ 16 (by decide)
      obtain ⟨O, A9, k9, c9, F9⟩ : ∃ O A9 k9 c9, Hid (Fino w (w5.setCell ⟨g, 16, none⟩ (.slice A5 k c5)) g l O A9 k9 c9) :=
        ⟨_, _, _, _, hid ⟨set_row bx5 tx5 A5 k c5 r, HK.out, OwnI.base (Nat.le_trans hlt (Nat.le_of_lt hgx)) (ownI_far hr5 (fun k hk => Below.heap_setCell w5 ⟨g, 16, none⟩ _ k (Nat.ne_of_gt (Nat.lt_of_lt_of_le hgx hk)))), HOR2.out, fun o' h => (HU.out o' h).2, hb5.trans (below_setCells g w.heap.size (Nat.le_of_lt hlt) [.slice A5 k c5] 16 w5), Res9.sets th5 (Nat.ne_of_lt hlt) 16 [.slice A5 k c5], hlt⟩⟩
      have ck6 : (w5.setCell ⟨g, 16, none⟩ (.slice A5 k c5)).cell? ⟨g, 0, none⟩ = some (.int .u8 1) := (set_row bx5 tx5 A5 k c5 r).c0
      clear bx5 tx5 hr5 HU HOR2 hb5 th5 hgx
      go_wp2_with fail
      clear ck6 b16 f16
      generalize World.setCell w5 _ _ = Z at F9 ⊢
    case' inr.inl =>
      subst hk
      have HU := hid (one2 HH.out (fun o' h => (HONE.out o' h).1))
      obtain ⟨O, A9, k9, c9, F9⟩ : ∃ O A9 k9 c9, Hid (Fino w Y g l O A9 k9 c9) := ⟨_, _, _, _, hid ⟨bx, rfl, OwnI.nil _ _ _, HOR.out, HU.out, hb, th0, hlt⟩⟩
      clear HU HOR HH HSZ hp hln
      go_wp2_with fail
      clear bx th0 hb ck tx
      generalize hZ : Y = Z at *
      clear hZ
    case' inr.inr =>
      subst hk
      have h29 : 29 ≤ l.length := by omega
      obtain ⟨f6, f1, f2, f3⟩ := five_bytes h29
      obtain ⟨x, y, hx, hy⟩ : ∃ x y, ((vl ((l.drop 24).take 1) : Nat) : Int) = x ∧ ((vl ((l.drop 25).take 4) : Nat) : Int) = y := ⟨_, _, rfl, rfl⟩
      have hlab := lab_r (l := l)
      rw [hx, hy] at hlab
      have HF6 := hid f6
      have HFX := hid (show gL ((l.drop 24).take 5 ++ [0]) = x ∧ gC ((l.drop 24).take 5 ++ [0]) = y ∧ gK ((l.drop 24).take 5 ++ [0]) = 0 from ⟨f1.trans hx, f2.trans hy, f3⟩)
      have HL5 := hid (show ((l.drop 24).take 5).length = 5 by rw [List.length_take, List.length_drop]; omega)
      have HR5 := hid ((HR.out.drop 24 (by omega)).take 5)
      have HOR2 := hid (show Opr ⟨3, y1, y2, y3, y4, y5, y6, y7, y8, y9, 0, 0, 0, 0, x, y, []⟩ from ⟨HOR.out.k0, HOR.out.k1, HOR.out.han, HOR.out.s64, HOR.out.spn, HOR.out.aft, hlab, HOR.out.r32⟩)
      have HU := hid (one3 HH.out (fun o' h => (HONE.out o' h).1) hx hy)
      have c29 : (29 : Int) ≤ (c : Int) := by omega
      have c24 : ¬ c = 24 := by omega
      have HF := field_lab
      clear h29 f6 f1 f2 f3 hx hy hlab HOR HH HSZ hp hln
      go_wp2_with (first
        | (at_builtin; refine wpList_append_rd rfl (.const (.slice none 0 0)) (.tmp 84) 51 rfl Y.heap.size 5 Tryz.underlying51 hi0 hz0 hz1 hz2 none 0 0 [] (hid rfl) rfl (Own.nil _ _ _) (some ⟨b, o + 24, none⟩) 5 (c - 24) ((l.drop 24).take 5) HL5 rfl (HR5.out.keep hb) (by omega) (Nat.le_refl _) ?_; intro A5 c5 w5 ho5 b5; rw [List.nil_append] at ho5)
        | (at_builtin; refine wpList_append_rd rfl (.tmp 85) (.tmp 86) 51 rfl Y.heap.size 5 Tryz.underlying51 hi0 hz0 hz1 hz2 A5 5 c5 ((l.drop 24).take 5) HL5 rfl (ho5.keep ((Below.refl _ _).alloc (Nat.le_refl _) _)) (some ⟨w5.heap.size, 0, none⟩) 1 1 [0] (hid rfl) rfl (lit_rd w5 [0] (by decide)) (by omega) (by have := b5.size; simp; omega) ?_; intro A6 c6 w6 ho6 b6))
      have b56 : Below Y.heap.size Y w6 := (b5.alloc b5.size _).trans b6
      have bx6 := bx.keep b56
      have tx6 := tx.keep b56
      have th6 := th0.keep b56
      have hb6 := below_in hb b56
      refine (rhan_of x y 0 _ _ _ HF6 HFX _ ho6.rd).mono ?_
      rintro e w7 ⟨rfl, b7⟩
      have bx7 := bx6.keep b7
      have tx7 := tx6.keep b7
      have th7 := th6.keep b7
      have hb7 := below_in hb6 b7
      clear bx tx th0 hb b56 bx6 tx6 th6 hb6 ho5 ho6 b5 b6 b7 ck
      have one : True := trivial
      go_wp2_with (clear one; refine wpList_store_mid rfl 24 (.tmp 90) (.tmp 89) rfl g 14 (List.toArray [.int .u8 x, .int .u32 y]) rfl rfl (fun j hj => by have := tx7 (14 + j) (by simp at hj; omega); simpa using this) (by kernel_rfl) (by simp [Value.oneCell']) ?_; have bx8 := set_to bx7 tx7 x y; have th8 := Res9.sets th7 (Nat.ne_of_lt hlt) 14 [.int .u8 x, .int .u32 y]; have hb8 := hb7.trans (below_setCells g w.heap.size (Nat.le_of_lt hlt) [.int .u8 x, .int .u32 y] 14 w7); (try simp only [List.toList_toArray]); generalize World.setCells w7 g 14 _ = Z at bx8 th8 hb8 ⊢)
      obtain ⟨O, A9, k9, c9, F9⟩ : ∃ O A9 k9 c9, Hid (Fino w Z g l O A9 k9 c9) := ⟨_, _, _, _, hid ⟨bx8, rfl, OwnI.nil _ _ _, HOR2.out, HU.out, hb8, th8, hlt⟩⟩
      clear bx7 tx7 th7 hb7 bx8 th8 hb8 HU HOR2
    all_goals
      obtain ⟨m9, hm9⟩ : ∃ m, (opb O).length = m := ⟨_, rfl⟩
      have HM9 := hid hm9
      have HK9 := hid F9.out.len
      have HFM := hid F9.out.r.spn.m64.1
      have HPL := hid (show (l.take p).length = p by rw [List.length_take]; have := HLN.out; omega)
      cases hm : mayO O
      · have HM := hid hm
        have HN := hid (show ∀ o', ¬ Begins l o' from fun o' h => by
          have e := F9.out.one o' h
          have h1 := h.may
          rw [e, hm] at h1
          cases h1)
        clear hm hm9 HONE HM9 HPL
        refine wp_region_held_drew (S := fun w' => Below Z.heap.size Z w') (by kernel_rfl) ((Below.refl _ _).drew) (fun hHeld => ?_)
        have S1 : Below Z.heap.size Z Z.drew := (Below.refl _ _).drew
        generalize Z.drew = V at *
        refine wpAnyH_take (i := 0) (oi := { dst := some 91, op := Op.load 33 (Operand.tmp 6), type := 33, pos := "ref.go:138", after := #[], guard := none }) rfl (by kernel_rfl) (by kernel_rfl) (by kernel_rfl) (fun _ _ _ h => h) (yields_load_o (by rfl) (.tmp 6) rfl g rfl (fun w9 h => F9.out.bx.keep h)) hHeld ?_
        (try simp only [Act.put, List.setIfInBounds_toArray, List.set_cons_zero, List.set_cons_succ])
        refine wpAnyH_ready (rs := [1]) (by kernel_rfl) (by simp) ?_
        refine AllReadyH.cons rfl (fun K hK => ?_) AllReadyH.nil
        go_simp
        go_wp2_with (go_at_call 66; refine (rmay_of false O A9 k9 c9 HK9 HM HFM.out _ (F9.out.ri.ri.keep S1)).mono ?_; rintro e v1 ⟨rfl, b1⟩)
        have s1 := below_in S1 b1
        refine hK.out _ _ s1 (fun hHeld => ?_)
        clear hK K
        refine wpAnyH_take (i := 2) (oi := { dst := some 93, op := Op.unOp UnOp.not 4 (Operand.tmp 92), type := 4, pos := "ref.go:138", after := #[{ on := 1, ground := Ground.data }], guard := none }) (v := ?_) rfl (by kernel_rfl) (by kernel_rfl) (by kernel_rfl) (fun _ _ _ h => h) (Or.inl ⟨by rfl, ?_⟩) hHeld ?_
        rotate_left
        · intro w9 hSw
          (try dsimp only at hSw)
          go_simp <;> with_reducible rfl
        (try simp only [Act.put, List.setIfInBounds_toArray, List.set_cons_zero, List.set_cons_succ])
        refine wpAnyH_take (i := 3) (oi := { dst := some 94, op := Op.move (Operand.tmp 93), type := 4, pos := "ref.go:138", after := #[{ on := 2, ground := Ground.data }, { on := 1, ground := Ground.chain }], guard := none }) (v := ?_) rfl (by kernel_rfl) (by kernel_rfl) (by kernel_rfl) (fun _ _ _ h => h) (Or.inl ⟨by rfl, ?_⟩) hHeld ?_
        rotate_left
        · intro w9 hSw
          (try dsimp only at hSw)
          go_simp <;> with_reducible rfl
        (try simp only [Act.put, List.setIfInBounds_toArray, List.set_cons_zero, List.set_cons_succ])
        refine wpAnyH_take (i := 4) (oi := { dst := some 95, op := Op.load 33 (Operand.tmp 6), type := 33, pos := "ref.go:138", after := #[{ on := 3, ground := Ground.guard }], guard := some (3, false) }) (v := undef) rfl (by kernel_rfl) (by kernel_rfl) (by kernel_rfl) (fun _ _ _ h => h) (Or.inr ⟨by rfl, rfl⟩) hHeld ?_
        (try simp only [Act.put, List.setIfInBounds_toArray, List.set_cons_zero, List.set_cons_succ])
        refine wpAnyH_take (i := 5) (oi := { dst := some 96, op := Op.call { callee := Callee.value (Operand.func 98), args := #[Operand.tmp 95], argTypes := #[33] }, type := 51, pos := "ref.go:138", after := #[{ on := 4, ground := Ground.data }, { on := 3, ground := Ground.chain }, { on := 3, ground := Ground.guard }], guard := some (3, false) }) (v := undef) rfl (by kernel_rfl) (by kernel_rfl) (by kernel_rfl) (fun _ _ _ h => h) (Or.inr ⟨by rfl, rfl⟩) hHeld ?_
        (try simp only [Act.put, List.setIfInBounds_toArray, List.set_cons_zero, List.set_cons_succ])
        refine wpAnyH_take (i := 6) (oi := { dst := some 97, op := Op.convert 51 9 (Operand.tmp 96), type := 9, pos := "ref.go:138", after := #[{ on := 5, ground := Ground.data }, { on := 3, ground := Ground.guard }], guard := some (3, false) }) (v := undef) rfl (by kernel_rfl) (by kernel_rfl) (by kernel_rfl) (fun _ _ _ h => h) (Or.inr ⟨by rfl, rfl⟩) hHeld ?_
        (try simp only [Act.put, List.setIfInBounds_toArray, List.set_cons_zero, List.set_cons_succ])
        refine wpAnyH_take (i := 7) (oi := { dst := some 98, op := Op.move (Operand.tmp 0), type := 51, pos := "ref.go:138", after := #[{ on := 3, ground := Ground.guard }], guard := some (3, false) }) (v := undef) rfl (by kernel_rfl) (by kernel_rfl) (by kernel_rfl) (fun _ _ _ h => h) (Or.inr ⟨by rfl, rfl⟩) hHeld ?_
        (try simp only [Act.put, List.setIfInBounds_toArray, List.set_cons_zero, List.set_cons_succ])
        refine wpAnyH_take (i := 8) (oi := { dst := some 99, op := Op.move (Operand.tmp 5), type := 3, pos := "ref.go:138", after := #[{ on := 3, ground := Ground.guard }], guard := some (3, false) }) (v := undef) rfl (by kernel_rfl) (by kernel_rfl) (by kernel_rfl) (fun _ _ _ h => h) (Or.inr ⟨by rfl, rfl⟩) hHeld ?_
        (try simp only [Act.put, List.setIfInBounds_toArray, List.set_cons_zero, List.set_cons_succ])
        refine wpAnyH_take (i := 9) (oi := { dst := some 100, op := Op.slice 51 (Operand.tmp 98) none (some (Operand.tmp 99)) none, type := 51, pos := "ref.go:138", after := #[{ on := 7, ground := Ground.data }, { on := 8, ground := Ground.data }, { on := 3, ground := Ground.guard }], guard := some (3, false) }) (v := undef) rfl (by kernel_rfl) (by kernel_rfl) (by kernel_rfl) (fun _ _ _ h => h) (Or.inr ⟨by rfl, rfl⟩) hHeld ?_
        (try simp only [Act.put, List.setIfInBounds_toArray, List.set_cons_zero, List.set_cons_succ])
        refine wpAnyH_take (i := 10) (oi := { dst := some 101, op := Op.convert 51 9 (Operand.tmp 100), type := 9, pos := "ref.go:138", after := #[{ on := 9, ground := Ground.data }, { on := 3, ground := Ground.guard }], guard := some (3, false) }) (v := undef) rfl (by kernel_rfl) (by kernel_rfl) (by kernel_rfl) (fun _ _ _ h => h) (Or.inr ⟨by rfl, rfl⟩) hHeld ?_
        (try simp only [Act.put, List.setIfInBounds_toArray, List.set_cons_zero, List.set_cons_succ])
        refine wpAnyH_take (i := 11) (oi := { dst := some 102, op := Op.binOp BinOp.neq 9 (Operand.tmp 97) (Operand.tmp 101) 9, type := 4, pos := "ref.go:138", after := #[{ on := 6, ground := Ground.data }, { on := 10, ground := Ground.data }, { on := 3, ground := Ground.guard }], guard := some (3, false) }) (v := undef) rfl (by kernel_rfl) (by kernel_rfl) (by kernel_rfl) (fun _ _ _ h => h) (Or.inr ⟨by rfl, rfl⟩) hHeld ?_
        (try simp only [Act.put, List.setIfInBounds_toArray, List.set_cons_zero, List.set_cons_succ])
        refine wpAnyH_take (i := 12) (oi := { dst := some 103, op := Op.pick (Operand.tmp 94) (Operand.const (Value.bool true)) (Operand.tmp 102), type := 4, pos := "ref.go:138", after := #[{ on := 3, ground := Ground.data }, { on := 11, ground := Ground.data }], guard := none }) (v := ?_) rfl (by kernel_rfl) (by kernel_rfl) (by kernel_rfl) (fun _ _ _ h => h) (Or.inl ⟨by rfl, ?_⟩) hHeld ?_
        rotate_left
        · intro w9 hSw
          (try dsimp only at hSw)
          go_simp <;> with_reducible rfl
        (try simp only [Act.put, List.setIfInBounds_toArray, List.set_cons_zero, List.set_cons_succ])
        refine wpAnyH_done (by kernel_rfl) ?_ _
        have b9 := below_in F9.out.be s1
        have th9 := F9.out.th.keep s1
        clear hHeld F9
        go_wp2_with (refine wpList_store_o rfl (.tmp 2) (.tmp 104) rfl w.heap.size rfl zO none 0 0 rfl th9.th w.heap.size (Nat.le_refl _) ?_; intro w4 bx4 th4 b4 hh4 sz4)
        exact bodyPost_ret (results_o3 rfl rfl bx4) rfl ⟨zO, none, 0, 0, 0, 8, rfl, .inr ⟨HN.out, rfl, rfl, rfl⟩, rfl, OwnI.nil _ _ _, b9.trans b4⟩
      · have HM := hid hm
        obtain ⟨q, hq⟩ : ∃ q, (opb O == l.take p) = q := ⟨_, rfl⟩
        have HQ := hid hq
        clear hm hm9
        refine wp_region_held_drew (S := fun w' => Below Z.heap.size Z w') (by kernel_rfl) ((Below.refl _ _).drew) (fun hHeld => ?_)
        have S1 : Below Z.heap.size Z Z.drew := (Below.refl _ _).drew
        generalize Z.drew = V at *
        refine wpAnyH_take (i := 0) (oi := { dst := some 91, op := Op.load 33 (Operand.tmp 6), type := 33, pos := "ref.go:138", after := #[], guard := none }) rfl (by kernel_rfl) (by kernel_rfl) (by kernel_rfl) (fun _ _ _ h => h) (yields_load_o (by rfl) (.tmp 6) rfl g rfl (fun w9 h => F9.out.bx.keep h)) hHeld ?_
        (try simp only [Act.put, List.setIfInBounds_toArray, List.set_cons_zero, List.set_cons_succ])
        refine wpAnyH_ready (rs := [1]) (by kernel_rfl) (by simp) ?_
        refine AllReadyH.cons rfl (fun K hK => ?_) AllReadyH.nil
        go_simp
        go_wp2_with (go_at_call 66; refine (rmay_of true O A9 k9 c9 HK9 HM HFM.out _ (F9.out.ri.ri.keep S1)).mono ?_; rintro e v1 ⟨rfl, b1⟩)
        have s1 := below_in S1 b1
        refine hK.out _ _ s1 (fun hHeld => ?_)
        clear hK K
        refine wpAnyH_take (i := 2) (oi := { dst := some 93, op := Op.unOp UnOp.not 4 (Operand.tmp 92), type := 4, pos := "ref.go:138", after := #[{ on := 1, ground := Ground.data }], guard := none }) (v := ?_) rfl (by kernel_rfl) (by kernel_rfl) (by kernel_rfl) (fun _ _ _ h => h) (Or.inl ⟨by rfl, ?_⟩) hHeld ?_
        rotate_left
        · intro w9 hSw
          (try dsimp only at hSw)
          go_simp <;> with_reducible rfl
        (try simp only [Act.put, List.setIfInBounds_toArray, List.set_cons_zero, List.set_cons_succ])
        refine wpAnyH_take (i := 3) (oi := { dst := some 94, op := Op.move (Operand.tmp 93), type := 4, pos := "ref.go:138", after := #[{ on := 2, ground := Ground.data }, { on := 1, ground := Ground.chain }], guard := none }) (v := ?_) rfl (by kernel_rfl) (by kernel_rfl) (by kernel_rfl) (fun _ _ _ h => h) (Or.inl ⟨by rfl, ?_⟩) hHeld ?_
        rotate_left
        · intro w9 hSw
          (try dsimp only at hSw)
          go_simp <;> with_reducible rfl
        (try simp only [Act.put, List.setIfInBounds_toArray, List.set_cons_zero, List.set_cons_succ])
        refine wpAnyH_take (i := 4) (oi := { dst := some 95, op := Op.load 33 (Operand.tmp 6), type := 33, pos := "ref.go:138", after := #[{ on := 3, ground := Ground.guard }], guard := some (3, false) }) rfl (by kernel_rfl) (by kernel_rfl) (by kernel_rfl) (fun _ _ _ h => h) (yields_load_o (by rfl) (.tmp 6) rfl g rfl (fun w9 h => F9.out.bx.keep h)) hHeld ?_
        (try simp only [Act.put, List.setIfInBounds_toArray, List.set_cons_zero, List.set_cons_succ])
        refine wpAnyH_take (i := 7) (oi := { dst := some 98, op := Op.move (Operand.tmp 0), type := 51, pos := "ref.go:138", after := #[{ on := 3, ground := Ground.guard }], guard := some (3, false) }) (v := ?_) rfl (by kernel_rfl) (by kernel_rfl) (by kernel_rfl) (fun _ _ _ h => h) (Or.inl ⟨by rfl, ?_⟩) hHeld ?_
        rotate_left
        · intro w9 hSw
          (try dsimp only at hSw)
          go_simp <;> with_reducible rfl
        (try simp only [Act.put, List.setIfInBounds_toArray, List.set_cons_zero, List.set_cons_succ])
        refine wpAnyH_take (i := 8) (oi := { dst := some 99, op := Op.move (Operand.tmp 5), type := 3, pos := "ref.go:138", after := #[{ on := 3, ground := Ground.guard }], guard := some (3, false) }) (v := ?_) rfl (by kernel_rfl) (by kernel_rfl) (by kernel_rfl) (fun _ _ _ h => h) (Or.inl ⟨by rfl, ?_⟩) hHeld ?_
        rotate_left
        · intro w9 hSw
          (try dsimp only at hSw)
          go_simp <;> with_reducible rfl
        (try simp only [Act.put, List.setIfInBounds_toArray, List.set_cons_zero, List.set_cons_succ])
        refine wpAnyH_take (i := 9) (oi := { dst := some 100, op := Op.slice 51 (Operand.tmp 98) none (some (Operand.tmp 99)) none, type := 51, pos := "ref.go:138", after := #[{ on := 7, ground := Ground.data }, { on := 8, ground := Ground.data }, { on := 3, ground := Ground.guard }], guard := some (3, false) }) (v := ?_) rfl (by kernel_rfl) (by kernel_rfl) (by kernel_rfl) (fun _ _ _ h => h) (Or.inl ⟨by rfl, ?_⟩) hHeld ?_
        rotate_left
        · intro w9 hSw
          (try dsimp only at hSw)
          go_simp <;> with_reducible rfl
        (try simp only [Act.put, List.setIfInBounds_toArray, List.set_cons_zero, List.set_cons_succ])
        refine wpAnyH_take (i := 10) (oi := { dst := some 101, op := Op.convert 51 9 (Operand.tmp 100), type := 9, pos := "ref.go:138", after := #[{ on := 9, ground := Ground.data }, { on := 3, ground := Ground.guard }], guard := some (3, false) }) (v := ?_) rfl (by kernel_rfl) (by kernel_rfl) (by kernel_rfl) (fun _ _ _ h => h) (Or.inl ⟨by rfl, ?_⟩) hHeld ?_
        rotate_left
        · intro w9 hSw
          (try dsimp only at hSw)
          have y := rd_string HPL ((HR.out.keep (below_in F9.out.be hSw)).take p)
          go_simp <;> with_reducible rfl
        (try simp only [Act.put, List.setIfInBounds_toArray, List.set_cons_zero, List.set_cons_succ])
        refine wpAnyH_ready (rs := [5]) (by kernel_rfl) (by simp) ?_
        refine AllReadyH.cons rfl (fun K hK => ?_) AllReadyH.nil
        go_simp
        go_wp2_with (go_at_call 98; refine (rbytes_of m9 O A9 k9 c9 HK9 F9.out.r HM.out HM9 _ (F9.out.ri.ri.keep s1)).mono ?_; rintro e v2 ⟨A2, c2, rfl, hr2, b2⟩)
        have s2 := below_in s1 b2
        refine hK.out _ _ s2 (fun hHeld => ?_)
        clear hK K
        refine wpAnyH_mono (S' := fun w' => Below v2.heap.size v2 w') (fun _ h => below_in s2 h) _ _ _ _ ?_
        have hHeld3 := Below.refl v2.heap.size v2
        refine wpAnyH_take (i := 6) (oi := { dst := some 97, op := Op.convert 51 9 (Operand.tmp 96), type := 9, pos := "ref.go:138", after := #[{ on := 5, ground := Ground.data }, { on := 3, ground := Ground.guard }], guard := some (3, false) }) (v := ?_) rfl (by kernel_rfl) (by kernel_rfl) (by kernel_rfl) (fun _ _ _ h => h) (Or.inl ⟨by rfl, ?_⟩) hHeld3 ?_
        rotate_left
        · intro w9 hSw
          (try dsimp only at hSw)
          have y := rd_string HM9 (hr2.keep hSw)
          go_simp <;> with_reducible rfl
        (try simp only [Act.put, List.setIfInBounds_toArray, List.set_cons_zero, List.set_cons_succ])
        refine wpAnyH_take (i := 11) (oi := { dst := some 102, op := Op.binOp BinOp.neq 9 (Operand.tmp 97) (Operand.tmp 101) 9, type := 4, pos := "ref.go:138", after := #[{ on := 6, ground := Ground.data }, { on := 10, ground := Ground.data }, { on := 3, ground := Ground.guard }], guard := some (3, false) }) (v := ?_) rfl (by kernel_rfl) (by kernel_rfl) (by kernel_rfl) (fun _ _ _ h => h) (Or.inl ⟨by rfl, ?_⟩) hHeld3 ?_
        rotate_left
        · intro w9 hSw
          (try dsimp only at hSw)
          have y := hq
          go_simp <;> with_reducible rfl
        (try simp only [Act.put, List.setIfInBounds_toArray, List.set_cons_zero, List.set_cons_succ])
        refine wpAnyH_take (i := 12) (oi := { dst := some 103, op := Op.pick (Operand.tmp 94) (Operand.const (Value.bool true)) (Operand.tmp 102), type := 4, pos := "ref.go:138", after := #[{ on := 3, ground := Ground.data }, { on := 11, ground := Ground.data }], guard := none }) (v := ?_) rfl (by kernel_rfl) (by kernel_rfl) (by kernel_rfl) (fun _ _ _ h => h) (Or.inl ⟨by rfl, ?_⟩) hHeld3 ?_
        rotate_left
        · intro w9 hSw
          (try dsimp only at hSw)
          go_simp <;> with_reducible rfl
        (try simp only [Act.put, List.setIfInBounds_toArray, List.set_cons_zero, List.set_cons_succ])
        refine wpAnyH_done (by kernel_rfl) ?_ _
        have b9 := below_in F9.out.be s2
        have th9 := F9.out.th.keep s2
        have bx9 := F9.out.bx.keep s2
        have ri9 := F9.out.ri.keep s2
        cases q
        · have HN := hid (show ∀ o', ¬ Begins l o' from fun o' h => by
            have e := F9.out.one o' h
            have h1 := HONE.out o' h
            have h2 := List.prefix_iff_eq_take.1 h.pre
            have h3 : (opb o').length = p := by omega
            have h4 := HQ.out
            rw [h3, e] at h2
            rw [← h2] at h4
            simp at h4)
          clear hHeld hq F9 HONE HQ hr2 bx9 ri9
          go_wp2_with (refine wpList_store_o rfl (.tmp 2) (.tmp 104) rfl w.heap.size rfl zO none 0 0 rfl th9.th w.heap.size (Nat.le_refl _) ?_; intro w4 bx4 th4 b4 hh4 sz4)
          exact bodyPost_ret (results_o3 rfl rfl bx4) rfl ⟨zO, none, 0, 0, 0, 8, rfl, .inr ⟨HN.out, rfl, rfl, rfl⟩, rfl, OwnI.nil _ _ _, b9.trans b4⟩
        · have e9 : opb O = l.take p := eq_of_beq HQ.out
          have HB := hid (show Begins l O from ⟨F9.out.r, HM.out, ⟨l.drop p, by rw [e9, List.take_append_drop]⟩⟩)
          have HZ := hid (show (p : Int) = ((opb O).length : Int) by rw [e9, HPL.out])
          have ri4 : OwnI (v2.setCells w.heap.size 0 [.int .u8 O.kd, .int .u8 O.l, .int .u32 O.c, .int .u8 O.k, .int .i64 O.s, .int .u8 O.fl, .int .u32 O.fc, .int .u8 O.fk, .int .i64 O.fn, .int .i64 O.fm, .int .u8 O.al, .int .u32 O.ac, .int .u8 O.ak, .int .i64 O.an, .int .u8 O.tl, .int .u32 O.tc, .slice A9 k9 c9]) (w.heap.size + 1) 21 A9 c9 O.row := ownI_far ri9 (fun k hk => heap_setCells w.heap.size _ 0 v2 k (Nat.ne_of_gt hk))
          have b4 := b9.trans (below_setCells w.heap.size w.heap.size (Nat.le_refl _) [.int .u8 O.kd, .int .u8 O.l, .int .u32 O.c, .int .u8 O.k, .int .i64 O.s, .int .u8 O.fl, .int .u32 O.fc, .int .u8 O.fk, .int .i64 O.fn, .int .i64 O.fm, .int .u8 O.al, .int .u32 O.ac, .int .u8 O.ak, .int .i64 O.an, .int .u8 O.tl, .int .u32 O.tc, .slice A9 k9 c9] 0 v2)
          have bx4 : BoxO (v2.setCells w.heap.size 0 [.int .u8 O.kd, .int .u8 O.l, .int .u32 O.c, .int .u8 O.k, .int .i64 O.s, .int .u8 O.fl, .int .u32 O.fc, .int .u8 O.fk, .int .i64 O.fn, .int .i64 O.fm, .int .u8 O.al, .int .u32 O.ac, .int .u8 O.ak, .int .i64 O.an, .int .u8 O.tl, .int .u32 O.tc, .slice A9 k9 c9]) w.heap.size O A9 k9 c9 := boxO_of (World.rangeAt_setCells_same v2 w.heap.size 0 _ th9.th)
          have tt9 := th9.th
          clear hHeld hq F9 HONE HQ hr2 ri9 th9 e9
          go_wp2_with (first
            | (refine wpList_load_o rfl (.tmp 6) rfl _ rfl bx9 ?_)
            | (refine wpList_store_mid rfl 33 (.tmp 2) (.tmp 105) rfl w.heap.size 0 (List.toArray [.int .u8 O.kd, .int .u8 O.l, .int .u32 O.c, .int .u8 O.k, .int .i64 O.s, .int .u8 O.fl, .int .u32 O.fc, .int .u8 O.fk, .int .i64 O.fn, .int .i64 O.fm, .int .u8 O.al, .int .u32 O.ac, .int .u8 O.ak, .int .i64 O.an, .int .u8 O.tl, .int .u32 O.tc, .slice A9 k9 c9]) rfl rfl tt9 info_O (by simp [Value.oneCell']) ?_; (try simp only [List.toList_toArray]); generalize World.setCells v2 w.heap.size 0 _ = w4 at ri4 b4 bx4 ⊢))
          exact bodyPost_ret (results_o3 rfl rfl bx4) rfl ⟨O, A9, k9, c9, p, 0, rfl, .inl ⟨HB.out, HZ.out, rfl⟩, HK9.out, OwnI.base (Nat.le_succ _) ri4, b4⟩
end Go.Proofs.YtndmblhkmgnpcaaGreat
