/-
  The document's own answers of layer 11: Put, Head.
-/
import Derived.Test.YtndmblhkmgnpcaaGreatRcE
import Derived.BigRegion
namespace Go.Proofs.YtndmblhkmgnpcaaGreat
open Go.RowKit
set_option linter.unusedVariables false
set_option linter.unusedSimpArgs false

set_option maxRecDepth 100000 in
set_option maxHeartbeats 1600000 in
theorem rcput_of (L : List (List UInt8)) (k : Nat) (j : Int) (r : Rec) (A : Option Addr) (n c : Nat) (hn : Hid (r.op.row.length = n)) (hmr : Recr r) (s t : Int) (hL : Hid (putL r s t = L ∧ L.length = k ∧ putE r s t = j)) (w : World) (hr : Ri w A c r.op.row) :
    Calls Tryz.prog 17 #[.agg #[.int .u8 r.kd, .int .i64 r.us, .int .u8 r.op.kd, .int .u8 r.op.l, .int .u32 r.op.c, .int .u8 r.op.k, .int .i64 r.op.s, .int .u8 r.op.fl, .int .u32 r.op.fc, .int .u8 r.op.fk, .int .i64 r.op.fn, .int .i64 r.op.fm, .int .u8 r.op.al, .int .u32 r.op.ac, .int .u8 r.op.ak, .int .i64 r.op.an, .int .u8 r.op.tl, .int .u32 r.op.tc, .slice A n c, .int .i64 r.co, .int .i64 r.gr.u, .int .u8 r.gr.l, .int .u32 r.gr.c, .bool r.gr.ok], .int .i64 s, .int .i64 t] w fun e w' => ∃ A' c', e = .returned (.tuple #[.slice A' k c', .int .i64 j]) ∧ OwB w' w.heap.size A' c' L ∧ Below w.heap.size w w' := by
  obtain ⟨h1, h2, h3⟩ := hL.out
  have xa := boxR_new w r A n c 40
  have hb := below1 w (.cells (#[.int .u8 r.kd, .int .i64 r.us, .int .u8 r.op.kd, .int .u8 r.op.l, .int .u32 r.op.c, .int .u8 r.op.k, .int .i64 r.op.s, .int .u8 r.op.fl, .int .u32 r.op.fc, .int .u8 r.op.fk, .int .i64 r.op.fn, .int .i64 r.op.fm, .int .u8 r.op.al, .int .u32 r.op.ac, .int .u8 r.op.ak, .int .i64 r.op.an, .int .u8 r.op.tl, .int .u32 r.op.tc, .slice A n c, .int .i64 r.co, .int .i64 r.gr.u, .int .u8 r.gr.l, .int .u32 r.gr.c, .bool r.gr.ok]) 40)
  have HR := hid hr
  clear hr hL
  cases hm : mayR r
  · rw [putL, if_neg (by rw [hm]; simp)] at h1
    rw [putE, if_neg (by rw [hm]; simp)] at h3
    subst h1 h2 h3
    have HM := hid hm
    clear hm
    go_enter Tryz.func17, Tryz.ntmps17
    go_wp2_with (refine wpList_load_r rfl (.tmp 3) rfl w.heap.size rfl xa ?_)
    refine (rcmay_of false r A n c hn hmr HM _ (HR.out.keep hb)).mono ?_
    rintro e w1 ⟨rfl, b1⟩
    have hb1 := below_in hb b1
    clear xa b1
    go_wp2
    go_ret2
    exact ⟨none, 0, rfl, OwB.nil _ _, hb1⟩
  · rw [putL, if_pos hm] at h1
    rw [putE, if_pos hm] at h3
    have HM := hid hm
    obtain ⟨m, hk⟩ : ∃ m, nbl (rcb r) = m := ⟨_, rfl⟩
    have HK := hid hk
    have HV := hid (show (nbl (rcb r) : Int) = (m : Int) by rw [hk])
    rw [hk] at h1 h3
    obtain ⟨q, hq⟩ : ∃ q, mayHd s t 0 m = q := ⟨_, rfl⟩
    rw [hq] at h1 h3
    have HQ := hid hq
    have H1 := hid h1
    have H2 := hid h2
    have H3 := hid h3
    clear hm hk hq h1 h2 h3
    go_enter Tryz.func17, Tryz.ntmps17
    go_wp2_with (refine wpList_load_r rfl (.tmp 3) rfl w.heap.size rfl xa ?_)
    refine (rcmay_of true r A n c hn hmr HM _ (HR.out.keep hb)).mono ?_
    rintro e w1 ⟨rfl, b1⟩
    have hb1 := below_in hb b1
    have xa1 := xa.keep b1
    clear xa b1
    have one : True := trivial
    go_wp2_with (clear one; refine wpList_load_r rfl (.tmp 3) rfl w.heap.size rfl xa1 ?_)
    refine (rcmany_of (m : Int) r A n c hn hmr HM.out HV _ (HR.out.keep hb1)).mono ?_
    rintro e w2 ⟨rfl, b2⟩
    have hb2 := below_in hb1 b2
    have xa2 := xa1.keep b2
    clear xa1 b2
    go_wp2_with fail
    refine (rmayhd_of q s t 0 (m : Int) HQ _).mono ?_
    rintro e w3 ⟨rfl, b3⟩
    have hb3 := below_in hb2 b3
    have xa3 := xa2.keep b3
    clear xa2 b3
    cases q
    · have e1 : [] = L := H1.out
      have e3 : 2 = j := H3.out
      subst e1 e3
      have e2 : 0 = k := H2.out
      subst e2
      clear xa3
      go_wp2
      go_ret2
      exact ⟨none, 0, rfl, OwB.nil _ _, hb3⟩
    · have e3 : 0 = j := H3.out
      subst e3
      have e1 : blks s t (rcb r) = L := H1.out
      have hkm : k = m := by rw [← H2.out, ← e1, blks_length]; exact HK.out
      subst hkm
      clear e1
      have one : True := trivial
      go_wp2_with (clear one; refine wpList_load_r rfl (.tmp 3) rfl w.heap.size rfl xa3 ?_)
      refine (rcblocks_of k r A n c hn hmr HM.out s t HK HQ _ (HR.out.keep hb3)).mono ?_
      rintro e w4 ⟨A4, c4, rfl, ho4, b4⟩
      have e1 : blks s t (rcb r) = L := H1.out
      rw [e1] at ho4
      have hb4 := below_in hb3 b4
      clear xa3 b4 e1
      have ho5 := hid (ho4.base hb3.size)
      go_wp2
      go_ret2
      exact ⟨A4, c4, rfl, ho5.out, hb4⟩

/-! ### Heads in a box -/
def ThereD (W : World) (b : Nat) : Prop := W.there b 0 4
theorem ThereD.keep {W W' : World} {b : Nat} (h : ThereD W b) (hb : Below W.heap.size W W') : ThereD W' b := there_keep h hb
theorem thereD_new (w : World) (cs : Array Value) (hc : cs.size = 4) (t : TypeId) : ThereD (w.alloc (.cells cs t)) w.heap.size := there_new w cs t 4 hc
theorem info_D : (Tryz.prog.info? 42).map (·.size) = some 4 := by kernel_rfl
section
variable {ops : Array Oper} {rest : List Oper} {op : Oper} {a : Act} {W : World} {Q : Exit → Act → World → Prop}
theorem wpList_load_d (hwt : Region.wanted op (yielded ops a.tmps) = true) (x : Operand) (ho : op.op = .load 42 x)
    (b : Nat) (hx : a.eval x = .pointer (some ⟨b, 0, none⟩)) {s n i f : Int} (hB : BoxD W b s n i f) (h : wpList Tryz.prog ops Q rest (a.put op.dst (.agg #[.int .i64 s, .int .i64 n, .int .i64 i, .int .i64 f])) W) : wpList Tryz.prog ops Q (op :: rest) a W := by
  refine wpList_step fun K hK => ?_
  rw [if_pos hwt]
  exact wp_load_mid 42 x ho b 0 hx _ _ hB Tryz.underlying42 rfl info_D (hK _ _ h)
theorem wpList_store_d (hgd : op.guard = none) (x y : Operand) (ho : op.op = .store 42 x y)
    (b : Nat) (hx : a.eval x = .pointer (some ⟨b, 0, none⟩)) (s n i f : Int) (hy : a.eval y = .agg #[.int .i64 s, .int .i64 n, .int .i64 i, .int .i64 f]) (ht : ThereD W b) (base : Nat) (hb : base ≤ b)
    (h : ∀ W', BoxD W' b s n i f → ThereD W' b → Below base W W' → (∀ k, k ≠ b → W'.heap[k]? = W.heap[k]?) → W'.heap.size = W.heap.size → wpList Tryz.prog ops Q rest (a.put op.dst undef) W') : wpList Tryz.prog ops Q (op :: rest) a W := by
  refine wpList_store_mid hgd 42 x y ho b 0 _ hx hy ht info_D (by simp [Value.oneCell']) ?_
  exact h _ (World.rangeAt_setCells_same W b 0 _ ht) (World.there_setCells ht b 0 _) (below_setCells b base hb _ _ _) (fun k hk => heap_setCells b _ _ _ k hk) (size_setCells b _ _ _)
end
theorem results_d1 {fn : Func} {p u : Tmp} (h : fn.results = #[.cell p 42, .tmp u]) {tmps : Array Value} {w : World} {b : Nat} (hp : tmps.getD p undef = .pointer (some ⟨b, 0, none⟩)) {s n i f : Int} (bx : BoxD w b s n i f) : (results fn tmps).run Tryz.prog w = .ok (.tuple #[.agg #[.int .i64 s, .int .i64 n, .int .i64 i, .int .i64 f], tmps.getD u undef]) w := by
  have hl := run_loadVar_mid (P := Tryz.prog) w b 0 42 _ _ bx Tryz.underlying42 rfl info_D
  simp only [results, h]
  rw [Array.getD_eq_getD_getElem?] at hp
  simp [Sem.run_bind, hp, asAddr, hl]

/-! ### Head -/
theorem nine_of {l : List UInt8} (h : l.length = 128) : ∃ b0 b1 b2 b3 b4 b5 b6 b7 b8 r, l = b0 :: b1 :: b2 :: b3 :: b4 :: b5 :: b6 :: b7 :: b8 :: r := by
  match l, h with
  | b0 :: b1 :: b2 :: b3 :: b4 :: b5 :: b6 :: b7 :: b8 :: r, _ => exact ⟨b0, b1, b2, b3, b4, b5, b6, b7, b8, r, rfl⟩
theorem nine_is (b0 b1 b2 b3 b4 b5 b6 b7 b8 : UInt8) (r : List UInt8) :
    hS (b0 :: b1 :: b2 :: b3 :: b4 :: b5 :: b6 :: b7 :: b8 :: r) = 16777216 * (b0.toNat : Int) + 65536 * (b1.toNat : Int) + 256 * (b2.toNat : Int) + (b3.toNat : Int) ∧
    hN (b0 :: b1 :: b2 :: b3 :: b4 :: b5 :: b6 :: b7 :: b8 :: r) = 65536 * (b4.toNat : Int) + 256 * (b5.toNat : Int) + (b6.toNat : Int) ∧
    hI (b0 :: b1 :: b2 :: b3 :: b4 :: b5 :: b6 :: b7 :: b8 :: r) = (b7.toNat : Int) ∧ hF (b0 :: b1 :: b2 :: b3 :: b4 :: b5 :: b6 :: b7 :: b8 :: r) = (b8.toNat : Int) := by
  refine ⟨?_, ?_, ?_, ?_⟩
  · show ((vl [b0, b1, b2, b3] : Nat) : Int) = _
    simp only [vl, List.foldl_cons, List.foldl_nil]
    omega
  · show ((vl [b4, b5, b6] : Nat) : Int) = _
    simp only [vl, List.foldl_cons, List.foldl_nil]
    omega
  · show ((vl [b7] : Nat) : Int) = _
    simp only [vl, List.foldl_cons, List.foldl_nil]
    omega
  · show ((vl [b8] : Nat) : Int) = _
    simp only [vl, List.foldl_cons, List.foldl_nil]
    omega
set_option maxRecDepth 100000 in
set_option maxHeartbeats 3200000 in
theorem rchead_of (q : Bool) (x0 x1 x2 x3 : Int) (A : Option Addr) (n c : Nat) (l : List UInt8) (hn : Hid (l.length = n)) (hx : Hid (okHd l = q ∧ pick q (hS l) = x0 ∧ pick q (hN l) = x1 ∧ pick q (hI l) = x2 ∧ pick q (hF l) = x3)) (w : World) (hr : Rd w A c l) :
    Calls Tryz.prog 26 #[.slice A n c] w fun e w' => e = .returned (.tuple #[.agg #[.int .i64 x0, .int .i64 x1, .int .i64 x2, .int .i64 x3], .int .i64 (er q)]) ∧ Below w.heap.size w w' := by
  by_cases h8 : n = 128
  · subst h8
    obtain ⟨b0, b1, b2, b3, b4, b5, b6, b7, b8, r, rfl⟩ := nine_of hn.out
    obtain ⟨i0, i1, i2, i3⟩ := nine_is b0 b1 b2 b3 b4 b5 b6 b7 b8 r
    have hx' := hx.out
    rw [okHd, i0, i1, i2, i3, hn.out, decide_eq_true rfl, Bool.true_and] at hx'
    have hc2 : (c : Int) ≤ 9223372036854775807 := by have := hr.cap; omega
    have hc1 : (128 : Int) ≤ c := by have := hr.len; have := hn.out; omega
    obtain ⟨b, o, rfl, hcell⟩ := hr.at_ (by simp)
    have hb := below1 w (.cells (#[.int .i64 0, .int .i64 0, .int .i64 0, .int .i64 0]) 42)
    have y0 := Go.Proofs.YtndmblhkmgnpcaaGreat.keep hb (hcell 0 (by simp))
    have y1 := Go.Proofs.YtndmblhkmgnpcaaGreat.keep hb (hcell 1 (by simp))
    have y2 := Go.Proofs.YtndmblhkmgnpcaaGreat.keep hb (hcell 2 (by simp))
    have y3 := Go.Proofs.YtndmblhkmgnpcaaGreat.keep hb (hcell 3 (by simp))
    have y4 := Go.Proofs.YtndmblhkmgnpcaaGreat.keep hb (hcell 4 (by simp))
    have y5 := Go.Proofs.YtndmblhkmgnpcaaGreat.keep hb (hcell 5 (by simp))
    have y6 := Go.Proofs.YtndmblhkmgnpcaaGreat.keep hb (hcell 6 (by simp))
    have y7 := Go.Proofs.YtndmblhkmgnpcaaGreat.keep hb (hcell 7 (by simp))
    have y8 := Go.Proofs.YtndmblhkmgnpcaaGreat.keep hb (hcell 8 (by simp))
    simp only [List.getElem_cons_zero, List.getElem_cons_succ, Nat.add_zero] at y0 y1 y2 y3 y4 y5 y6 y7 y8
    have u0 := u8_int b0
    have u1 := u8_int b1
    have u2 := u8_int b2
    have u3 := u8_int b3
    have u4 := u8_int b4
    have u5 := u8_int b5
    have u6 := u8_int b6
    have u7 := u8_int b7
    have u8 := u8_int b8
    have HX := hid hx'
    clear hx hx' i0 i1 i2 i3 hcell hr hn
    generalize (b0.toNat : Int) = z0 at *
    generalize (b1.toNat : Int) = z1 at *
    generalize (b2.toNat : Int) = z2 at *
    generalize (b3.toNat : Int) = z3 at *
    generalize (b4.toNat : Int) = z4 at *
    generalize (b5.toNat : Int) = z5 at *
    generalize (b6.toNat : Int) = z6 at *
    generalize (b7.toNat : Int) = z7 at *
    generalize (b8.toNat : Int) = z8 at *
    obtain ⟨a0, k0⟩ : ∃ y, IntKind.i64.wrap (16777216 * z0) = y := ⟨_, rfl⟩
    have ea0 : a0 = 16777216 * z0 := by rw [← k0, IntKind.wrap_i64]; omega
    obtain ⟨a1, k1⟩ : ∃ y, IntKind.i64.wrap (65536 * z1) = y := ⟨_, rfl⟩
    have ea1 : a1 = 65536 * z1 := by rw [← k1, IntKind.wrap_i64]; omega
    obtain ⟨a2, k2⟩ : ∃ y, IntKind.i64.wrap (a0 + a1) = y := ⟨_, rfl⟩
    have ea2 : a2 = a0 + a1 := by rw [← k2, IntKind.wrap_i64]; omega
    obtain ⟨a3, k3⟩ : ∃ y, IntKind.i64.wrap (256 * z2) = y := ⟨_, rfl⟩
    have ea3 : a3 = 256 * z2 := by rw [← k3, IntKind.wrap_i64]; omega
    obtain ⟨a4, k4⟩ : ∃ y, IntKind.i64.wrap (a2 + a3) = y := ⟨_, rfl⟩
    have ea4 : a4 = a2 + a3 := by rw [← k4, IntKind.wrap_i64]; omega
    obtain ⟨a5, k5⟩ : ∃ y, IntKind.i64.wrap (a4 + z3) = y := ⟨_, rfl⟩
    have ea5 : a5 = a4 + z3 := by rw [← k5, IntKind.wrap_i64]; omega
    obtain ⟨g0, k6⟩ : ∃ y, IntKind.i64.wrap (65536 * z4) = y := ⟨_, rfl⟩
    have eg0 : g0 = 65536 * z4 := by rw [← k6, IntKind.wrap_i64]; omega
    obtain ⟨g1, k7⟩ : ∃ y, IntKind.i64.wrap (256 * z5) = y := ⟨_, rfl⟩
    have eg1 : g1 = 256 * z5 := by rw [← k7, IntKind.wrap_i64]; omega
    obtain ⟨g2, k8⟩ : ∃ y, IntKind.i64.wrap (g0 + g1) = y := ⟨_, rfl⟩
    have eg2 : g2 = g0 + g1 := by rw [← k8, IntKind.wrap_i64]; omega
    obtain ⟨g3, k9⟩ : ∃ y, IntKind.i64.wrap (g2 + z6) = y := ⟨_, rfl⟩
    have eg3 : g3 = g2 + z6 := by rw [← k9, IntKind.wrap_i64]; omega
    have w0 : IntKind.i64.wrap z0 = z0 := by rw [IntKind.wrap_i64]; omega
    have w1 : IntKind.i64.wrap z1 = z1 := by rw [IntKind.wrap_i64]; omega
    have w2 : IntKind.i64.wrap z2 = z2 := by rw [IntKind.wrap_i64]; omega
    have w3 : IntKind.i64.wrap z3 = z3 := by rw [IntKind.wrap_i64]; omega
    have w4 : IntKind.i64.wrap z4 = z4 := by rw [IntKind.wrap_i64]; omega
    have w5 : IntKind.i64.wrap z5 = z5 := by rw [IntKind.wrap_i64]; omega
    have w6 : IntKind.i64.wrap z6 = z6 := by rw [IntKind.wrap_i64]; omega
    have w7 : IntKind.i64.wrap z7 = z7 := by rw [IntKind.wrap_i64]; omega
    have w8 : IntKind.i64.wrap z8 = z8 := by rw [IntKind.wrap_i64]; omega
    have HX2 := hid (show mayHd a5 g3 z7 z8 = q ∧ pick q a5 = x0 ∧ pick q g3 = x1 ∧ pick q z7 = x2 ∧ pick q z8 = x3 by
      have h1 : 16777216 * z0 + 65536 * z1 + 256 * z2 + z3 = a5 := by omega
      have h2 : 65536 * z4 + 256 * z5 + z6 = g3 := by omega
      have := HX.out
      rwa [h1, h2] at this)
    clear HX ea0 ea1 ea2 ea3 ea4 ea5 eg0 eg1 eg2 eg3 u0 u1 u2 u3 u4 u5 u6 u7 u8
    go_enter Tryz.func26, Tryz.ntmps26
    go_wp2_with fail
    generalize hW : w.alloc _ = W at *
    have bxW : BoxD W w.heap.size 0 0 0 0 := by subst hW; exact boxD_new w 0 0 0 0 _
    have thW : ThereD W w.heap.size := by subst hW; exact thereD_new w _ rfl _
    clear hW
    have q0 := fun w' (h : Below W.heap.size W w') => Go.Proofs.YtndmblhkmgnpcaaGreat.keep h y0
    have q1 := fun w' (h : Below W.heap.size W w') => Go.Proofs.YtndmblhkmgnpcaaGreat.keep h y1
    have q2 := fun w' (h : Below W.heap.size W w') => Go.Proofs.YtndmblhkmgnpcaaGreat.keep h y2
    have q3 := fun w' (h : Below W.heap.size W w') => Go.Proofs.YtndmblhkmgnpcaaGreat.keep h y3
    have q4 := fun w' (h : Below W.heap.size W w') => Go.Proofs.YtndmblhkmgnpcaaGreat.keep h y4
    have q5 := fun w' (h : Below W.heap.size W w') => Go.Proofs.YtndmblhkmgnpcaaGreat.keep h y5
    have q6 := fun w' (h : Below W.heap.size W w') => Go.Proofs.YtndmblhkmgnpcaaGreat.keep h y6
    have q7 := fun w' (h : Below W.heap.size W w') => Go.Proofs.YtndmblhkmgnpcaaGreat.keep h y7
    have q8 := fun w' (h : Below W.heap.size W w') => Go.Proofs.YtndmblhkmgnpcaaGreat.keep h y8
    clear y0 y1 y2 y3 y4 y5 y6 y7 y8
    have S0 : Below W.heap.size W W.drew := (Below.refl _ _).drew
    have S1 : ∀ o, Below W.heap.size W (W.alloc o).drew := fun o => ((Below.refl _ W).alloc (Nat.le_refl _) o).drew
    go_region_held (fun w' => Below W.heap.size W w') (with_reducible (first | assumption | exact S0 | exact S1 _)) (fail)
    all_goals
      clear q0 q1 q2 q3 q4 q5 q6 q7 q8 S0
      have bx1 : BoxD ((W.alloc (.cells (#[.int .i64 a5, .int .i64 g3, .int .i64 z7, .int .i64 z8]) 42)).drew) W.heap.size a5 g3 z7 z8 := (World.rangeAt_drew _ _ _ _).2 (boxD_new W a5 g3 z7 z8 _)
      have bV := S1 (.cells (#[.int .i64 a5, .int .i64 g3, .int .i64 z7, .int .i64 z8]) 42)
      generalize (W.alloc _).drew = V at bx1 bV ⊢
      have thV := thW.keep bV
      have hbV := below_in hb bV
      obtain ⟨hq, h0, h1, h2, h3⟩ := HX2.out
      have HQ := hid hq
      go_wp2_with (refine wpList_load_d rfl (.tmp 4) rfl W.heap.size rfl bx1 ?_)
      refine (rmayhd_of q a5 g3 z7 z8 HQ _).mono ?_
      rintro e v3 ⟨rfl, b3⟩
      have th3 := thV.keep b3
      have bx3 := bx1.keep b3
      have hb3 := below_in hbV b3
      cases q
      · rw [pick_false] at h0 h1 h2 h3
        subst h0 h1 h2 h3
        go_wp2_with (refine wpList_store_d rfl (.tmp 2) (.tmp 59) rfl w.heap.size rfl 0 0 0 0 rfl th3 w.heap.size (Nat.le_refl _) ?_; intro v4 bx4 th4 b4 hh4 sz4)
        exact bodyPost_ret (results_d1 rfl rfl bx4) rfl ⟨rfl, hb3.trans b4⟩
      · rw [pick_true] at h0 h1 h2 h3
        subst h0 h1 h2 h3
        have one : True := trivial
        go_wp2_with (first
          | (clear one; refine wpList_load_d rfl (.tmp 4) rfl W.heap.size rfl bx3 ?_)
          | (refine wpList_store_d rfl (.tmp 2) (.tmp 60) rfl w.heap.size rfl a5 g3 z7 z8 rfl th3 w.heap.size (Nat.le_refl _) ?_; intro v4 bx4 th4 b4 hh4 sz4))
        exact bodyPost_ret (results_d1 rfl rfl bx4) rfl ⟨rfl, hb3.trans b4⟩
  · have hl := hn.out
    have hx' := hx.out
    rw [okHd, hl, decide_eq_false h8, Bool.false_and] at hx'
    obtain ⟨rfl, h0, h1, h2, h3⟩ := hx'
    rw [pick_false] at h0 h1 h2 h3
    subst h0 h1 h2 h3
    have d1 : ((n : Int) == 128) = false := by simpa using (show ¬ (n : Int) = 128 by omega)
    have th0 := thereD_new w (#[.int .i64 0, .int .i64 0, .int .i64 0, .int .i64 0]) rfl 42
    have hb := below1 w (.cells (#[.int .i64 0, .int .i64 0, .int .i64 0, .int .i64 0]) 42)
    clear hx hr hn hl
    go_enter Tryz.func26, Tryz.ntmps26
    go_wp2_with (refine wpList_store_d rfl (.tmp 2) (.tmp 8) rfl w.heap.size rfl 0 0 0 0 rfl th0 w.heap.size (Nat.le_refl _) ?_; intro v4 bx4 th4 b4 hh4 sz4)
    exact bodyPost_ret (results_d1 rfl rfl bx4) rfl ⟨rfl, hb.trans b4⟩
end Go.Proofs.YtndmblhkmgnpcaaGreat
