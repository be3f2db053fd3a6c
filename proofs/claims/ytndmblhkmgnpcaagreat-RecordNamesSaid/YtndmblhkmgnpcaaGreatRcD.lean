/-
  The document's own answers of layer 11: Bytes, Many, Count, MayHead, a block.
-/
import Derived.Test.YtndmblhkmgnpcaaGreatRcC
import Derived.Test.YtndmblhkmgnpcaaGreatOI
namespace Go.Proofs.YtndmblhkmgnpcaaGreat
open Go.RowKit
set_option linter.unusedVariables false
set_option linter.unusedSimpArgs false

theorem rcbytes_of (m : Nat) (r : Rec) (A : Option Addr) (n c : Nat) (hn : Hid (r.op.row.length = n)) (hmr : Recr r) (hm : mayR r = true) (hl : Hid ((rcb r).length = m)) (w : World) (hr : Ri w A c r.op.row) :
    Calls Tryz.prog 69 #[.agg #[.int .u8 r.kd, .int .i64 r.us, .int .u8 r.op.kd, .int .u8 r.op.l, .int .u32 r.op.c, .int .u8 r.op.k, .int .i64 r.op.s, .int .u8 r.op.fl, .int .u32 r.op.fc, .int .u8 r.op.fk, .int .i64 r.op.fn, .int .i64 r.op.fm, .int .u8 r.op.al, .int .u32 r.op.ac, .int .u8 r.op.ak, .int .i64 r.op.an, .int .u8 r.op.tl, .int .u32 r.op.tc, .slice A n c, .int .i64 r.co, .int .i64 r.gr.u, .int .u8 r.gr.l, .int .u32 r.gr.c, .bool r.gr.ok]] w (RetOw w (rcb r) m) := by
  have hL := rcb_length hm
  rcases mayR_cases hm with ⟨l, c', k, us, e, h1, h2, h3⟩ | ⟨o, co, e, h1, h2, h3, h4⟩ | ⟨g, e, h1⟩
  · have e1 : r.kd = 1 := by rw [e]
    have e2 : r.us = us := by rw [e]
    have hm8 : m = 8 := by rw [← hl.out]; exact hL.2.2.1 (by omega)
    subst hm8
    exact rcbytes_1 r A n c hmr e1 (by omega) (by omega) w
  · have e1 : r.kd = 2 := by rw [e]
    have e2 : r.co = co := by rw [e]
    have e3 : r.op = o := by rw [e]
    have hm3 : m = 3 + (opb r.op).length := by
      rw [← hl.out, e]
      simp [rcb_2, nB_length]
      omega
    have := opb_length h1
    subst hm3
    exact rcbytes_2 (opb r.op).length r A n c hn hmr e1 (by omega) (by omega) (by rw [e3]; exact h1) (hid rfl) (by rw [e3]; omega) w hr
  · have e1 : r.kd = 3 := by rw [e]
    have e2 : r.gr = g := by rw [e]
    have hm8 : m = 8 := by rw [← hl.out]; exact hL.2.2.1 (by omega)
    subst hm8
    exact rcbytes_3 r A n c hmr e1 (by rw [e2]; exact h1) w

set_option maxRecDepth 100000 in
set_option maxHeartbeats 1600000 in
theorem rcmany_of (v : Int) (r : Rec) (A : Option Addr) (n c : Nat) (hn : Hid (r.op.row.length = n)) (hmr : Recr r) (hm : mayR r = true) (hv : Hid ((nbl (rcb r) : Int) = v)) (w : World) (hr : Ri w A c r.op.row) :
    Calls Tryz.prog 44 #[.agg #[.int .u8 r.kd, .int .i64 r.us, .int .u8 r.op.kd, .int .u8 r.op.l, .int .u32 r.op.c, .int .u8 r.op.k, .int .i64 r.op.s, .int .u8 r.op.fl, .int .u32 r.op.fc, .int .u8 r.op.fk, .int .i64 r.op.fn, .int .i64 r.op.fm, .int .u8 r.op.al, .int .u32 r.op.ac, .int .u8 r.op.ak, .int .i64 r.op.an, .int .u8 r.op.tl, .int .u32 r.op.tc, .slice A n c, .int .i64 r.co, .int .i64 r.gr.u, .int .u8 r.gr.l, .int .u32 r.gr.c, .bool r.gr.ok]] w fun e w' => e = .returned (.int .i64 v) ∧ Below w.heap.size w w' := by
  obtain ⟨m, hl⟩ : ∃ m, (rcb r).length = m := ⟨_, rfl⟩
  have HL := hid hl
  have hL := rcb_length hm
  rw [hl] at hL
  obtain ⟨h8, h296, _⟩ := hL
  have hv' := hv.out
  unfold nbl at hv'
  rw [hl] at hv'
  obtain ⟨z, hz⟩ : ∃ z : Int, (m : Int) = z := ⟨_, rfl⟩
  obtain ⟨x, hx⟩ : ∃ x, z / 119 = x := ⟨_, rfl⟩
  obtain ⟨y, hy⟩ : ∃ y, z % 119 = y := ⟨_, rfl⟩
  have e1 : z.tdiv 119 = x := by rw [← hx]; exact Int.tdiv_eq_ediv_of_nonneg (by omega)
  have e2 : z.tmod 119 = y := by rw [← hy]; exact Int.tmod_eq_emod_of_nonneg (by omega)
  have HV := hid (show (0 < y → v = x + 1) ∧ (¬ 0 < y → v = x) from ⟨fun h => by omega, fun h => by omega⟩)
  have hx0 : 0 ≤ x := by omega
  have hx9 : x ≤ 1000 := by omega
  have xa := boxR_new w r A n c 40
  have hb := below1 w (.cells (#[.int .u8 r.kd, .int .i64 r.us, .int .u8 r.op.kd, .int .u8 r.op.l, .int .u32 r.op.c, .int .u8 r.op.k, .int .i64 r.op.s, .int .u8 r.op.fl, .int .u32 r.op.fc, .int .u8 r.op.fk, .int .i64 r.op.fn, .int .i64 r.op.fm, .int .u8 r.op.al, .int .u32 r.op.ac, .int .u8 r.op.ak, .int .i64 r.op.an, .int .u8 r.op.tl, .int .u32 r.op.tc, .slice A n c, .int .i64 r.co, .int .i64 r.gr.u, .int .u8 r.gr.l, .int .u32 r.gr.c, .bool r.gr.ok]) 40)
  clear hv hv' hl h8 h296 hx hy
  by_cases h0 : 0 < y
  · have hv1 := hid (HV.out.1 h0)
    go_enter Tryz.func44, Tryz.ntmps44
    go_wp2_with (refine wpList_load_r rfl (.tmp 1) rfl w.heap.size rfl xa ?_)
    refine (rcbytes_of m r A n c hn hmr hm HL _ (hr.keep hb)).mono ?_
    rintro e w1 ⟨A1, c1, rfl, _, b1⟩
    have hb1 := below_in hb b1
    clear xa b1
    go_wp2
    go_ret
    exact ⟨ret_int hv1.out.symm, hb1⟩
  · have hv1 := hid (HV.out.2 h0)
    go_enter Tryz.func44, Tryz.ntmps44
    go_wp2_with (refine wpList_load_r rfl (.tmp 1) rfl w.heap.size rfl xa ?_)
    refine (rcbytes_of m r A n c hn hmr hm HL _ (hr.keep hb)).mono ?_
    rintro e w1 ⟨A1, c1, rfl, _, b1⟩
    have hb1 := below_in hb b1
    clear xa b1
    go_wp2
    go_ret
    exact ⟨ret_int hv1.out.symm, hb1⟩

set_option maxRecDepth 100000 in
set_option maxHeartbeats 1600000 in
theorem rccount_of (v j : Int) (r : Rec) (A : Option Addr) (n c : Nat) (hn : Hid (r.op.row.length = n)) (hmr : Recr r) (hv : Hid ((if mayR r = true then (nbl (rcb r) : Int) else 0) = v ∧ er (mayR r) = j)) (w : World) (hr : Ri w A c r.op.row) :
    Calls Tryz.prog 20 #[.agg #[.int .u8 r.kd, .int .i64 r.us, .int .u8 r.op.kd, .int .u8 r.op.l, .int .u32 r.op.c, .int .u8 r.op.k, .int .i64 r.op.s, .int .u8 r.op.fl, .int .u32 r.op.fc, .int .u8 r.op.fk, .int .i64 r.op.fn, .int .i64 r.op.fm, .int .u8 r.op.al, .int .u32 r.op.ac, .int .u8 r.op.ak, .int .i64 r.op.an, .int .u8 r.op.tl, .int .u32 r.op.tc, .slice A n c, .int .i64 r.co, .int .i64 r.gr.u, .int .u8 r.gr.l, .int .u32 r.gr.c, .bool r.gr.ok]] w fun e w' => e = .returned (.tuple #[.int .i64 v, .int .i64 j]) ∧ Below w.heap.size w w' := by
  obtain ⟨h1, h2⟩ := hv.out
  have xa := boxR_new w r A n c 40
  have hb := below1 w (.cells (#[.int .u8 r.kd, .int .i64 r.us, .int .u8 r.op.kd, .int .u8 r.op.l, .int .u32 r.op.c, .int .u8 r.op.k, .int .i64 r.op.s, .int .u8 r.op.fl, .int .u32 r.op.fc, .int .u8 r.op.fk, .int .i64 r.op.fn, .int .i64 r.op.fm, .int .u8 r.op.al, .int .u32 r.op.ac, .int .u8 r.op.ak, .int .i64 r.op.an, .int .u8 r.op.tl, .int .u32 r.op.tc, .slice A n c, .int .i64 r.co, .int .i64 r.gr.u, .int .u8 r.gr.l, .int .u32 r.gr.c, .bool r.gr.ok]) 40)
  have HR := hid hr
  clear hr hv
  cases hm : mayR r
  · rw [if_neg (by rw [hm]; simp)] at h1
    rw [hm] at h2
    subst h1 h2
    have HM := hid hm
    clear hm
    go_enter Tryz.func20, Tryz.ntmps20
    go_wp2_with (refine wpList_load_r rfl (.tmp 1) rfl w.heap.size rfl xa ?_)
    refine (rcmay_of false r A n c hn hmr HM _ (HR.out.keep hb)).mono ?_
    rintro e w1 ⟨rfl, b1⟩
    have hb1 := below_in hb b1
    clear xa b1
    go_wp2
    go_ret2
    exact ⟨rfl, hb1⟩
  · rw [if_pos hm] at h1
    rw [hm] at h2
    subst h2
    have HM := hid hm
    have HV := hid h1
    clear hm h1
    go_enter Tryz.func20, Tryz.ntmps20
    go_wp2_with (refine wpList_load_r rfl (.tmp 1) rfl w.heap.size rfl xa ?_)
    refine (rcmay_of true r A n c hn hmr HM _ (HR.out.keep hb)).mono ?_
    rintro e w1 ⟨rfl, b1⟩
    have hb1 := below_in hb b1
    have xa1 := xa.keep b1
    clear xa b1
    go_wp2_with (refine wpList_load_r rfl (.tmp 1) rfl w.heap.size rfl xa1 ?_)
    refine (rcmany_of v r A n c hn hmr HM.out HV _ (HR.out.keep hb1)).mono ?_
    rintro e w2 ⟨rfl, b2⟩
    have hb2 := below_in hb1 b2
    clear xa1 b2
    go_wp2
    go_ret2
    exact ⟨rfl, hb2⟩

set_option maxRecDepth 100000 in
set_option maxHeartbeats 1600000 in
theorem rmayhd_of (q : Bool) (s n i f : Int) (hq : Hid (mayHd s n i f = q)) (w : World) :
    Calls Tryz.prog 43 #[.agg #[.int .i64 s, .int .i64 n, .int .i64 i, .int .i64 f]] w fun e w' => e = .returned (.bool q) ∧ Below w.heap.size w w' := by
  have h := hq.out
  clear hq
  rw [mayHd] at h
  obtain ⟨q0, h0⟩ : ∃ q, decide (1 ≤ s) = q := ⟨_, rfl⟩
  obtain ⟨q1, h1⟩ : ∃ q, decide (s < 2147483648) = q := ⟨_, rfl⟩
  obtain ⟨q2, h2⟩ : ∃ q, decide (1 ≤ n) = q := ⟨_, rfl⟩
  obtain ⟨q3, h3⟩ : ∃ q, decide (n < 16777216) = q := ⟨_, rfl⟩
  obtain ⟨q4, h4⟩ : ∃ q, decide (1 ≤ f) = q := ⟨_, rfl⟩
  obtain ⟨q5, h5⟩ : ∃ q, decide (f ≤ 4) = q := ⟨_, rfl⟩
  obtain ⟨q6, h6⟩ : ∃ q, decide (0 ≤ i) = q := ⟨_, rfl⟩
  obtain ⟨q7, h7⟩ : ∃ q, decide (i < f) = q := ⟨_, rfl⟩
  rw [h0, h1, h2, h3, h4, h5, h6, h7] at h
  have HQ := hid h
  have hb := below1 w (.cells (#[.int .i64 s, .int .i64 n, .int .i64 i, .int .i64 f]) 42)
  clear h
  go_enter Tryz.func43, Tryz.ntmps43
  go_wp2
  all_goals
    go_ret
    refine ⟨ret_bool ?_, hb⟩
    simp [← HQ.out, *]

theorem dg4 {z : Int} (h0 : 0 ≤ z) (h1 : z < 4294967296) : u8s (nB 4 z) = [.int .u8 (z / 16777216), .int .u8 (z / 65536 % 256), .int .u8 (z / 256 % 256), .int .u8 (z % 256)] := by
  have e : nB 4 z = [UInt8.ofNat (z.toNat / 256 / 256 / 256 % 256), UInt8.ofNat (z.toNat / 256 / 256 % 256), UInt8.ofNat (z.toNat / 256 % 256), UInt8.ofNat (z.toNat % 256)] := by simp [nB, dg]
  have k : ∀ x : Nat, x < 256 → ((UInt8.ofNat x).toNat : Int) = x := fun x h => by rw [ofNat_toNat h]
  rw [e]
  simp only [u8s, List.map_cons, List.map_nil]
  rw [k _ (by omega), k _ (by omega), k _ (by omega), k _ (by omega)]
  have e1 : ((z.toNat / 256 / 256 / 256 % 256 : Nat) : Int) = z / 16777216 := by omega
  have e2 : ((z.toNat / 256 / 256 % 256 : Nat) : Int) = z / 65536 % 256 := by omega
  have e3 : ((z.toNat / 256 % 256 : Nat) : Int) = z / 256 % 256 := by omega
  have e4 : ((z.toNat % 256 : Nat) : Int) = z % 256 := by omega
  rw [e1, e2, e3, e4]
theorem head5 {n i f : Int} (n0 : 0 ≤ n) (n1 : n < 16777216) (i0 : 0 ≤ i) (i1 : i < 256) (f0 : 0 ≤ f) (f1 : f < 256) : u8s (nB 3 n ++ (nB 1 i ++ nB 1 f)) = [.int .u8 (n / 65536), .int .u8 (n / 256 % 256), .int .u8 (n % 256), .int .u8 i, .int .u8 f] := by
  rw [u8s_append, u8s_append, dg3 n0 n1, dg1 i0 i1, dg1 f0 f1]
  rfl
structure One4 (w W : World) (s : Int) : Prop where
  ow : Own W (w.heap.size + 1) 5 (some ⟨w.heap.size + 1, 0, none⟩) 4 (nB 4 s)
  be : Below w.heap.size w W
  sz : W.heap.size = w.heap.size + 2
theorem one4_new (w : World) (o : Obj) (s : Int) (h0 : 0 ≤ s) (h1 : s < 4294967296) : One4 w ((w.alloc o).alloc (.cells #[.int .u8 (s / 16777216), .int .u8 (s / 65536 % 256), .int .u8 (s / 256 % 256), .int .u8 (s % 256)] 5)) s := by
  have h := Own.lit (w.alloc o) (base := w.heap.size + 1) 5 (nB 4 s) (by rw [size1]; exact Nat.le_refl _) (by simp [nB_length])
  rw [dg4 h0 h1, nB_length, size1] at h
  exact ⟨h, below2 w _ _, size2 w _ _⟩
set_option maxRecDepth 100000 in
set_option maxHeartbeats 3200000 in
theorem rone_of (s n i f : Int) (hh : mayHd s n i f = true) (X : Option Addr) (k d : Nat) (x : List UInt8) (hk : Hid (x.length = k)) (h9 : k ≤ 119) (w : World) (hx : Rd w X d x) :
    Calls Tryz.prog 70 #[.agg #[.int .i64 s, .int .i64 n, .int .i64 i, .int .i64 f], .slice X k d] w (RetOw w (hdb s n i f ++ pad x) 128) := by
  obtain ⟨g0, hi0, hz0, hz1, hz2⟩ := info_parts info_u8
  obtain ⟨⟨s0, s1⟩, ⟨n0, n1⟩, ⟨f0, f1⟩, i0, i1⟩ := mayHd_iff.1 hh
  have pp := one4_new w (.cells (#[.int .i64 s, .int .i64 n, .int .i64 i, .int .i64 f]) 42) s (by omega) (by omega)
  have hd5 := hid (head5 (n := n) (i := i) (f := f) (by omega) n1 i0 (by omega) (by omega) (by omega))
  have HX := hid hx
  have e0 : s.tdiv 16777216 = s / 16777216 := Int.tdiv_eq_ediv_of_nonneg (by omega)
  have e1 : s.tdiv 65536 = s / 65536 := Int.tdiv_eq_ediv_of_nonneg (by omega)
  have e2 : s.tdiv 256 = s / 256 := Int.tdiv_eq_ediv_of_nonneg (by omega)
  have e3 : s.tmod 256 = s % 256 := Int.tmod_eq_emod_of_nonneg (by omega)
  have e4 : (s / 65536).tmod 256 = s / 65536 % 256 := Int.tmod_eq_emod_of_nonneg (by omega)
  have e5 : (s / 256).tmod 256 = s / 256 % 256 := Int.tmod_eq_emod_of_nonneg (by omega)
  have u0 : IntKind.u8.wrap (s / 16777216) = s / 16777216 := by rw [IntKind.wrap_u8]; omega
  have u1 : IntKind.u8.wrap (s / 65536 % 256) = s / 65536 % 256 := by rw [IntKind.wrap_u8]; omega
  have u2 : IntKind.u8.wrap (s / 256 % 256) = s / 256 % 256 := by rw [IntKind.wrap_u8]; omega
  have u3 : IntKind.u8.wrap (s % 256) = s % 256 := by rw [IntKind.wrap_u8]; omega
  have m1 : n.tdiv 65536 = n / 65536 := Int.tdiv_eq_ediv_of_nonneg (by omega)
  have m2 : n.tdiv 256 = n / 256 := Int.tdiv_eq_ediv_of_nonneg (by omega)
  have m3 : n.tmod 256 = n % 256 := Int.tmod_eq_emod_of_nonneg (by omega)
  have m5 : (n / 256).tmod 256 = n / 256 % 256 := Int.tmod_eq_emod_of_nonneg (by omega)
  have v0 : IntKind.u8.wrap (n / 65536) = n / 65536 := by rw [IntKind.wrap_u8]; omega
  have v1 : IntKind.u8.wrap (n / 256 % 256) = n / 256 % 256 := by rw [IntKind.wrap_u8]; omega
  have v2 : IntKind.u8.wrap (n % 256) = n % 256 := by rw [IntKind.wrap_u8]; omega
  have v3 : IntKind.u8.wrap i = i := by rw [IntKind.wrap_u8]; omega
  have v4 : IntKind.u8.wrap f = f := by rw [IntKind.wrap_u8]; omega
  clear hh hx
  go_enter Tryz.func70, Tryz.ntmps70
  have one : True := trivial
  have two : True := trivial
  go_wp2_with (first
    | (at_builtin; clear one; generalize World.alloc (World.alloc w _) _ = W at pp ⊢; refine wpList_append_rd rfl (.tmp 25) (.tmp 45) _ rfl (w.heap.size + 1) 5 Tryz.underlying51 hi0 hz0 hz1 hz2 (some ⟨w.heap.size + 1, 0, none⟩) 4 4 (nB 4 s) (hid (nB_length _ _)) rfl (pp.ow.keep (below1 _ _)) (some ⟨w.heap.size + 2, 0, none⟩) 5 5 (nB 3 n ++ (nB 1 i ++ nB 1 f)) (hid (by simp [nB_length])) rfl (by rw [← pp.sz]; exact lit1 W (nB 3 n ++ (nB 1 i ++ nB 1 f)) 5 (by simp [nB_length]) (by omega) [.int .u8 (n / 65536), .int .u8 (n / 256 % 256), .int .u8 (n % 256), .int .u8 i, .int .u8 f] hd5.out) (by omega) (by rw [size1, pp.sz]; omega) ?_; intro A1 c1 w1 ho1 b1; have hb1 := (below_in pp.be (below1 W (.cells #[.int .u8 (n / 65536), .int .u8 (n / 256 % 256), .int .u8 (n % 256), .int .u8 i, .int .u8 f] 5))).trans (b1.mono (Nat.le_succ _)); have z1 := b1.size; rw [size1, pp.sz] at z1)
    | (at_builtin; clear two; refine wpList_append_rd rfl (.tmp 47) (.tmp 48) _ rfl (w.heap.size + 1) 5 Tryz.underlying51 hi0 hz0 hz1 hz2 A1 9 c1 (hdb s n i f) (hid (hdb_length _ _ _ _)) rfl ho1 X k d x hk rfl (HX.out.keep hb1) (by omega) (by omega) ?_; intro A2 c2 w2 ho2 b2; have z2 := b2.size)
    | (at_builtin; refine wpList_append_zeros rfl (.tmp 50) (.tmp 53) 51 3 rfl (w.heap.size + 1) 5 Tryz.underlying51 Tryz.underlying3 hi0 hz0 hz1 hz2 A2 (9 + k) c2 (hdb s n i f ++ x) (hid (by rw [List.length_append, hdb_length, hk.out])) rfl ho2 .i64 _ (119 - k) (hid (by omega)) rfl (by omega) (by omega) (by omega) ?_; intro A3 c3 w3 ho3 b3; rw [show 9 + k + (119 - k) = 128 by omega]))
  have e : hdb s n i f ++ x ++ List.replicate (119 - k) 0 = hdb s n i f ++ pad x := by rw [pad, hk.out, List.append_assoc]
  rw [e] at ho3
  go_ret
  exact ⟨A3, c3, rfl, ho3.mono (Nat.le_succ _), (hb1.trans (b2.mono (Nat.le_succ _))).trans (b3.mono (Nat.le_succ _))⟩
end Go.Proofs.YtndmblhkmgnpcaaGreat
