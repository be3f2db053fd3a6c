/-
  The document's own answers of layer 11: Bytes, Many, Count.
-/
import Derived.Test.YtndmblhkmgnpcaaGreatRcB
namespace Go.Proofs.YtndmblhkmgnpcaaGreat
open Go.RowKit
set_option linter.unusedVariables false
set_option linter.unusedSimpArgs false

theorem BoxR.keepB {B : Nat} {W W' : World} {b : Nat} {r : Rec} {A : Option Addr} {n c : Nat} (h : BoxR W b r A n c) (hb : Below B W W') (hlt : b < B) : BoxR W' b r A n c := fun j v hv => Go.Proofs.YtndmblhkmgnpcaaGreat.keepB hb hlt (h j v hv)
theorem own2 (w : World) (o : Obj) (z : Int) (h0 : 0 ≤ z) (h1 : z ≤ 255) : Own ((w.alloc o).alloc (.cells #[.int .u8 z] 5)) (w.heap.size + 1) 5 (some ⟨w.heap.size + 1, 0, none⟩) 1 (nB 1 z) := by
  have h := own_kd (w.alloc o) (w.heap.size + 1) (by simp [go_sem]) z h0 h1
  rwa [show (w.alloc o).heap.size = w.heap.size + 1 by simp [go_sem]] at h
theorem lit1 (w : World) (l : List UInt8) (k : Nat) (hk : l.length = k) (h5 : k ≤ 1000) (cs : List Value) (hc : u8s l = cs) : Rd (w.alloc (.cells cs.toArray 5)) (some ⟨w.heap.size, 0, none⟩) k l := by
  have h := lit_rd w l (by omega)
  rwa [hc, hk] at h
theorem dg1 {z : Int} (h0 : 0 ≤ z) (h1 : z < 256) : u8s (nB 1 z) = [.int .u8 z] := by
  rw [nB_one h0 (by omega)]
  simp only [u8s, List.map_cons, List.map_nil]
  rw [ofNat_toNat (by omega)]
  rw [show ((z.toNat : Nat) : Int) = z by omega]
theorem dg2 {z : Int} (h0 : 0 ≤ z) (h1 : z < 65536) : u8s (nB 2 z) = [.int .u8 (z / 256), .int .u8 (z % 256)] := by
  have e : nB 2 z = [UInt8.ofNat (z.toNat / 256 % 256), UInt8.ofNat (z.toNat % 256)] := by simp [nB, dg]
  have k : ∀ x : Nat, x < 256 → ((UInt8.ofNat x).toNat : Int) = x := fun x h => by rw [ofNat_toNat h]
  rw [e]
  simp only [u8s, List.map_cons, List.map_nil]
  rw [k _ (by omega), k _ (by omega)]
  have e2 : ((z.toNat / 256 % 256 : Nat) : Int) = z / 256 := by omega
  have e3 : ((z.toNat % 256 : Nat) : Int) = z % 256 := by omega
  rw [e2, e3]
/-- Bytes of the call's own come back, so many. -/
def RetOw (w : World) (l : List UInt8) (L : Nat) (e : Ending) (w' : World) : Prop := ∃ A' c', e = .returned (.slice A' L c') ∧ Own w' w.heap.size 5 A' c' l ∧ Below w.heap.size w w'
/-- The record's box, and the first byte behind it. -/
structure Fst (w W : World) (r : Rec) (A : Option Addr) (n c : Nat) : Prop where
  xa : BoxR W w.heap.size r A n c
  ow : Own W (w.heap.size + 1) 5 (some ⟨w.heap.size + 1, 0, none⟩) 1 (nB 1 r.kd)
  be : Below w.heap.size w W
  sz : W.heap.size = w.heap.size + 2
theorem fst_new (w : World) (r : Rec) (A : Option Addr) (n c : Nat) (hmr : Recr r) : Fst w ((w.alloc (.cells (#[.int .u8 r.kd, .int .i64 r.us, .int .u8 r.op.kd, .int .u8 r.op.l, .int .u32 r.op.c, .int .u8 r.op.k, .int .i64 r.op.s, .int .u8 r.op.fl, .int .u32 r.op.fc, .int .u8 r.op.fk, .int .i64 r.op.fn, .int .i64 r.op.fm, .int .u8 r.op.al, .int .u32 r.op.ac, .int .u8 r.op.ak, .int .i64 r.op.an, .int .u8 r.op.tl, .int .u32 r.op.tc, .slice A n c, .int .i64 r.co, .int .i64 r.gr.u, .int .u8 r.gr.l, .int .u32 r.gr.c, .bool r.gr.ok]) 40)).alloc (.cells #[.int .u8 r.kd] 5)) r A n c :=
  ⟨(boxR_new w r A n c _).keep (below1 _ _), own2 w _ r.kd hmr.k0 hmr.k1, below2 w _ _, size2 w _ _⟩

set_option maxRecDepth 100000 in
set_option maxHeartbeats 3200000 in
theorem rcbytes_1 (r : Rec) (A : Option Addr) (n c : Nat) (hmr : Recr r) (k1 : r.kd = 1) (h0 : 0 ≤ r.us) (h1 : r.us ≤ 255) (w : World) :
    Calls Tryz.prog 69 #[.agg #[.int .u8 r.kd, .int .i64 r.us, .int .u8 r.op.kd, .int .u8 r.op.l, .int .u32 r.op.c, .int .u8 r.op.k, .int .i64 r.op.s, .int .u8 r.op.fl, .int .u32 r.op.fc, .int .u8 r.op.fk, .int .i64 r.op.fn, .int .i64 r.op.fm, .int .u8 r.op.al, .int .u32 r.op.ac, .int .u8 r.op.ak, .int .i64 r.op.an, .int .u8 r.op.tl, .int .u32 r.op.tc, .slice A n c, .int .i64 r.co, .int .i64 r.gr.u, .int .u8 r.gr.l, .int .u32 r.gr.c, .bool r.gr.ok]] w (RetOw w (rcb r) 8) := by
  obtain ⟨i0, hi0, hz0, hz1, hz2⟩ := info_parts info_u8
  have pp := fst_new w r A n c hmr
  have HC := hid (show nB 1 r.kd ++ hB r.op.l r.op.c r.op.k ++ nB 1 r.us = rcb r by rw [rcb, tailR, if_pos k1, List.append_assoc])
  have d1 : (r.kd == 1) = true := by simpa using k1
  have hw := hid (show IntKind.u8.wrap r.us = r.us by rw [IntKind.wrap_u8]; omega)
  have hd := hid (dg1 h0 (by omega))
  have hh : Han r.op.l r.op.c r.op.k := hmr.op.han
  clear k1 hmr
  go_enter Tryz.func69, Tryz.ntmps69
  have one : True := trivial
  have two : True := trivial
  have three : True := trivial
  go_wp2_with (first
    | (clear one; generalize World.alloc (World.alloc w _) _ = W at pp ⊢; refine wpList_load_rh rfl (.tmp 12) rfl w.heap.size rfl pp.xa ?_)
    | (go_at_call 97; refine (rnamed_of r.op.l r.op.c r.op.k hh _).mono ?_; rintro e w2 ⟨A2, c2, rfl, ho2, b2⟩; have xa2 := pp.xa.keep b2; have ow2 := pp.ow.keep b2; have hb2 := below_in pp.be b2; have z2 : w.heap.size + 2 ≤ w2.heap.size := (by have := b2.size; have := pp.sz; omega))
    | (at_builtin; clear two; refine wpList_append_rd rfl (.tmp 10) (.tmp 14) _ rfl (w.heap.size + 1) 5 Tryz.underlying51 hi0 hz0 hz1 hz2 (some ⟨w.heap.size + 1, 0, none⟩) 1 1 (nB 1 r.kd) (hid (nB_length _ _)) rfl ow2 A2 6 c2 (hB r.op.l r.op.c r.op.k) (hid (hB_length _ _ _)) rfl ho2.rd (by omega) (by omega) ?_; intro A3 c3 w3 ho3 b3; have xa3 := xa2.keepB b3 (Nat.lt_succ_self _); have cu := xa3.u; have hb3 := hb2.trans (b3.mono (Nat.le_succ _)); have z3 := b3.size; have hw' := hw.out)
    | (at_builtin; clear three; refine wpList_append_rd rfl (.tmp 16) (.tmp 20) _ rfl (w.heap.size + 1) 5 Tryz.underlying51 hi0 hz0 hz1 hz2 A3 7 c3 (nB 1 r.kd ++ hB r.op.l r.op.c r.op.k) (hid (by simp [nB_length, hB_length])) rfl (ho3.keep (below1 _ _)) (some ⟨w3.heap.size, 0, none⟩) 1 1 (nB 1 r.us) (hid (nB_length _ _)) rfl (lit1 w3 (nB 1 r.us) 1 (nB_length _ _) (by omega) [.int .u8 r.us] hd.out) (by omega) (by rw [size1]; omega) ?_; intro A4 c4 w4 ho4 b4))
  rw [HC.out] at ho4
  go_ret
  exact ⟨A4, c4, rfl, ho4.mono (Nat.le_succ _), (hb3.trans ((below1 _ _).mono (by omega))).trans (b4.mono (Nat.le_succ _))⟩

set_option maxRecDepth 100000 in
set_option maxHeartbeats 3200000 in
theorem rcbytes_2 (m : Nat) (r : Rec) (A : Option Addr) (n c : Nat) (hn : Hid (r.op.row.length = n)) (hmr : Recr r) (k1 : r.kd = 2) (h0 : 0 ≤ r.co) (h1 : r.co < 65536) (hm : mayO r.op = true) (hl : Hid ((opb r.op).length = m)) (h5 : m ≤ 1000) (w : World) (hr : Ri w A c r.op.row) :
    Calls Tryz.prog 69 #[.agg #[.int .u8 r.kd, .int .i64 r.us, .int .u8 r.op.kd, .int .u8 r.op.l, .int .u32 r.op.c, .int .u8 r.op.k, .int .i64 r.op.s, .int .u8 r.op.fl, .int .u32 r.op.fc, .int .u8 r.op.fk, .int .i64 r.op.fn, .int .i64 r.op.fm, .int .u8 r.op.al, .int .u32 r.op.ac, .int .u8 r.op.ak, .int .i64 r.op.an, .int .u8 r.op.tl, .int .u32 r.op.tc, .slice A n c, .int .i64 r.co, .int .i64 r.gr.u, .int .u8 r.gr.l, .int .u32 r.gr.c, .bool r.gr.ok]] w (RetOw w (rcb r) (3 + m)) := by
  obtain ⟨i0, hi0, hz0, hz1, hz2⟩ := info_parts info_u8
  have pp := fst_new w r A n c hmr
  have HC := hid (show nB 1 r.kd ++ nB 2 r.co ++ opb r.op = rcb r by rw [rcb, tailR, if_neg (by omega), if_pos k1, List.append_assoc])
  have d1 : (r.kd == 1) = false := by simpa using (show ¬ r.kd = 1 by omega)
  have d2 : (r.kd == 2) = true := by simpa using k1
  have hd := hid (dg2 h0 h1)
  have e1 : r.co.tdiv 256 = r.co / 256 := Int.tdiv_eq_ediv_of_nonneg h0
  have e3 : r.co.tmod 256 = r.co % 256 := Int.tmod_eq_emod_of_nonneg h0
  have e5 : IntKind.u8.wrap (r.co / 256) = r.co / 256 := by rw [IntKind.wrap_u8]; omega
  have e7 : IntKind.u8.wrap (r.co % 256) = r.co % 256 := by rw [IntKind.wrap_u8]; omega
  have e8 : wrap64 (r.co / 256) = r.co / 256 := wrap64_id (by omega) (by omega)
  have e9 : r.co / 256 % 256 = r.co / 256 := by omega
  have hor : Opr r.op := hmr.op
  have HRW := hid hr
  clear k1 hmr hr h0 h1
  go_enter Tryz.func69, Tryz.ntmps69
  have one : True := trivial
  have two : True := trivial
  have three : True := trivial
  go_wp2_with (first
    | (at_builtin; clear one; generalize World.alloc (World.alloc w _) _ = W at pp ⊢; refine wpList_append_rd rfl (.tmp 25) (.tmp 34) _ rfl (w.heap.size + 1) 5 Tryz.underlying51 hi0 hz0 hz1 hz2 (some ⟨w.heap.size + 1, 0, none⟩) 1 1 (nB 1 r.kd) (hid (nB_length _ _)) rfl (pp.ow.keep (below1 _ _)) (some ⟨w.heap.size + 2, 0, none⟩) 2 2 (nB 2 r.co) (hid (nB_length _ _)) rfl (by rw [← pp.sz]; exact lit1 W (nB 2 r.co) 2 (nB_length _ _) (by omega) [.int .u8 (r.co / 256), .int .u8 (r.co % 256)] hd.out) (by omega) (by rw [size1, pp.sz]; omega) ?_; intro A3 c3 w3 ho3 b3; have xa3 := (pp.xa.keep (below1 W (.cells #[.int .u8 (r.co / 256), .int .u8 (r.co % 256)] 5))).keepB b3 (Nat.lt_succ_self _); have hb3 := (below_in pp.be (below1 W (.cells #[.int .u8 (r.co / 256), .int .u8 (r.co % 256)] 5))).trans (b3.mono (Nat.le_succ _)); have z3 := b3.size; rw [size1, pp.sz] at z3)
    | (clear two; refine wpList_load_ro rfl (.tmp 37) rfl w.heap.size rfl xa3 ?_)
    | (go_at_call 98; refine (rbytes_of m r.op A n c hn hor hm hl _ (HRW.out.keep hb3)).mono ?_; rintro e w4 ⟨A4, c4, rfl, hr4, b4⟩)
    | (at_builtin; clear three; refine wpList_append_rd rfl (.tmp 36) (.tmp 39) _ rfl (w.heap.size + 1) 5 Tryz.underlying51 hi0 hz0 hz1 hz2 A3 3 c3 (nB 1 r.kd ++ nB 2 r.co) (hid (by simp [nB_length])) rfl (ho3.keep b4) A4 m c4 (opb r.op) hl rfl hr4 (by omega) (by have := b4.size; omega) ?_; intro A5 c5 w5 ho5 b5))
  rw [HC.out] at ho5
  go_ret
  exact ⟨A5, c5, rfl, ho5.mono (Nat.le_succ _), (below_in hb3 b4).trans (b5.mono (Nat.le_succ _))⟩

set_option maxRecDepth 100000 in
set_option maxHeartbeats 3200000 in
theorem rcbytes_3 (r : Rec) (A : Option Addr) (n c : Nat) (hmr : Recr r) (k1 : r.kd = 3) (hm : mayG r.gr = true) (w : World) :
    Calls Tryz.prog 69 #[.agg #[.int .u8 r.kd, .int .i64 r.us, .int .u8 r.op.kd, .int .u8 r.op.l, .int .u32 r.op.c, .int .u8 r.op.k, .int .i64 r.op.s, .int .u8 r.op.fl, .int .u32 r.op.fc, .int .u8 r.op.fk, .int .i64 r.op.fn, .int .i64 r.op.fm, .int .u8 r.op.al, .int .u32 r.op.ac, .int .u8 r.op.ak, .int .i64 r.op.an, .int .u8 r.op.tl, .int .u32 r.op.tc, .slice A n c, .int .i64 r.co, .int .i64 r.gr.u, .int .u8 r.gr.l, .int .u32 r.gr.c, .bool r.gr.ok]] w (RetOw w (rcb r) 8) := by
  obtain ⟨i0, hi0, hz0, hz1, hz2⟩ := info_parts info_u8
  have pp := fst_new w r A n c hmr
  have HC := hid (show nB 1 r.kd ++ gby r.gr.u.toNat r.gr.ok r.gr.l.toNat r.gr.c.toNat = rcb r by rw [rcb, tailR, if_neg (by omega), if_neg (by omega)])
  have d1 : (r.kd == 1) = false := by simpa using (show ¬ r.kd = 1 by omega)
  have d2 : (r.kd == 2) = false := by simpa using (show ¬ r.kd = 2 by omega)
  have hg : Gr.typed ⟨r.gr.u, r.gr.l, r.gr.c, r.gr.ok⟩ := hmr.gr
  clear k1 hmr
  go_enter Tryz.func69, Tryz.ntmps69
  have one : True := trivial
  have two : True := trivial
  go_wp2_with (first
    | (clear one; generalize World.alloc (World.alloc w _) _ = W at pp ⊢; refine wpList_load_rg rfl (.tmp 42) rfl w.heap.size rfl pp.xa ?_)
    | (go_at_call 99; refine (rgbytes_any r.gr.u r.gr.l r.gr.c r.gr.ok hg hm _).mono ?_; rintro e w2 ⟨A2, c2, rfl, hr2, b2⟩; have ow2 := pp.ow.keep b2; have hb2 := below_in pp.be b2; have z2 : w.heap.size + 2 ≤ w2.heap.size := (by have := b2.size; have := pp.sz; omega))
    | (at_builtin; clear two; refine wpList_append_rd rfl (.tmp 41) (.tmp 44) _ rfl (w.heap.size + 1) 5 Tryz.underlying51 hi0 hz0 hz1 hz2 (some ⟨w.heap.size + 1, 0, none⟩) 1 1 (nB 1 r.kd) (hid (nB_length _ _)) rfl ow2 A2 7 c2 (gby r.gr.u.toNat r.gr.ok r.gr.l.toNat r.gr.c.toNat) (hid (gby_length _ _ _ _)) rfl hr2 (by omega) (by omega) ?_; intro A3 c3 w3 ho3 b3))
  rw [HC.out] at ho3
  go_ret
  exact ⟨A3, c3, rfl, ho3.mono (Nat.le_succ _), hb2.trans (b3.mono (Nat.le_succ _))⟩
end Go.Proofs.YtndmblhkmgnpcaaGreat
