/-
  The document's own answer of layer 10: the bytes of mail that may be.
-/
import Derived.Test.YtdhfnacdjjdijaaGreatMnC
namespace Go.Proofs.YtdhfnacdjjdijaaGreat
open Go.RowKit
set_option linter.unusedVariables false
set_option linter.unusedSimpArgs false

set_option maxRecDepth 100000 in
set_option maxHeartbeats 1600000 in
theorem rmcheck_of (q : Bool) (m : Mld) (A : Option Addr) (n c : Nat) (hn : Hid (m.ops.length = n)) (hmr : Mlr m) (hq : Hid (mayM m = q)) (w : World) (hr : RdO w A c m.ops) :
    Calls Tryz.prog 20 #[.agg #[.int .u8 m.kd, .int .i64 m.us, .int .i64 m.se, .int .i64 m.co, .int .i64 m.fr, .int .i64 m.tt, .int .u8 m.ak, .int .i64 m.t0, .int .i64 m.t1, .int .i64 m.t2, .int .i64 m.t3, .slice A n c]] w fun e w' => e = .returned (.int .i64 (if q then 0 else 8)) ∧ Below w.heap.size w w' := by
  have bx := boxM_new w m A n c 27
  have hr1 := hr.alloc (.cells (#[.int .u8 m.kd, .int .i64 m.us, .int .i64 m.se, .int .i64 m.co, .int .i64 m.fr, .int .i64 m.tt, .int .u8 m.ak, .int .i64 m.t0, .int .i64 m.t1, .int .i64 m.t2, .int .i64 m.t3, .slice A n c]) 27)
  clear hr
  go_enter Tryz.func20, Tryz.ntmps20
  go_wp2_with fail
  refine (rmmay_of q m A n c hn hmr hq _ hr1).mono ?_
  rintro e w1 ⟨rfl, b1⟩
  have hb := past_alloc b1
  clear bx b1 hr1
  cases q
  · go_wp2
    go_ret
    exact ⟨rfl, hb⟩
  · go_wp2
    go_ret
    exact ⟨rfl, hb⟩

def upM (m : Mld) : Bool := mayM m && decide (m.kd ≤ 5)
set_option maxRecDepth 100000 in
set_option maxHeartbeats 1600000 in
theorem rmup_of (q : Bool) (m : Mld) (A : Option Addr) (n c : Nat) (hn : Hid (m.ops.length = n)) (hmr : Mlr m) (hq : Hid ((mayM m && decide (m.kd ≤ 5)) = q)) (w : World) (hr : RdO w A c m.ops) :
    Calls Tryz.prog 21 #[.agg #[.int .u8 m.kd, .int .i64 m.us, .int .i64 m.se, .int .i64 m.co, .int .i64 m.fr, .int .i64 m.tt, .int .u8 m.ak, .int .i64 m.t0, .int .i64 m.t1, .int .i64 m.t2, .int .i64 m.t3, .slice A n c]] w fun e w' => e = .returned (.bool q) ∧ Below w.heap.size w w' := by
  have bx := boxM_new w m A n c 27
  have hr1 := hr.alloc (.cells (#[.int .u8 m.kd, .int .i64 m.us, .int .i64 m.se, .int .i64 m.co, .int .i64 m.fr, .int .i64 m.tt, .int .u8 m.ak, .int .i64 m.t0, .int .i64 m.t1, .int .i64 m.t2, .int .i64 m.t3, .slice A n c]) 27)
  obtain ⟨u, hu⟩ : ∃ u, mayM m = u := ⟨_, rfl⟩
  have HU := hid hu
  have HQ := hid (show (u && decide (m.kd ≤ 5)) = q by rw [← hu]; exact hq.out)
  clear hr hq hu
  go_enter Tryz.func21, Tryz.ntmps21
  go_wp2_with fail
  refine (rmmay_of u m A n c hn hmr HU _ hr1).mono ?_
  rintro e w1 ⟨rfl, b1⟩
  have hb := past_alloc b1
  have s0 := (bx.keep b1).c0
  clear bx b1 hr1
  cases u
  · go_wp2
    go_ret
    exact ⟨ret_bool HQ.out, hb⟩
  · go_wp2
    go_ret
    exact ⟨ret_bool HQ.out, hb⟩

set_option maxRecDepth 100000 in
set_option maxHeartbeats 800000 in
theorem rthree_of (z : Int) (h : countB z = true) (w : World) :
    Calls Tryz.prog 52 #[.int .i64 z] w fun e w' => e = .returned (.slice (some ⟨w.heap.size, 0, none⟩) 3 3) ∧ w' = w.alloc (.cells (u8s (nB 3 z)).toArray 5) := by
  obtain ⟨z0, z1⟩ := countB_iff.1 h
  have hd := hid (dg3 z0 z1)
  have e1 : z.tdiv 65536 = z / 65536 := Int.tdiv_eq_ediv_of_nonneg z0
  have e2 : z.tdiv 256 = z / 256 := Int.tdiv_eq_ediv_of_nonneg z0
  have e3 : z.tmod 256 = z % 256 := Int.tmod_eq_emod_of_nonneg z0
  have e4 : (z / 256).tmod 256 = z / 256 % 256 := Int.tmod_eq_emod_of_nonneg (by omega)
  have e5 : IntKind.u8.wrap (z / 65536) = z / 65536 := by rw [IntKind.wrap_u8]; omega
  have e6 : IntKind.u8.wrap (z / 256 % 256) = z / 256 % 256 := by rw [IntKind.wrap_u8]; omega
  have e7 : IntKind.u8.wrap (z % 256) = z % 256 := by rw [IntKind.wrap_u8]; omega
  go_enter Tryz.func52, Tryz.ntmps52
  go_wp2
  go_ret
  refine ⟨rfl, ?_⟩
  rw [hd.out]
end Go.Proofs.YtdhfnacdjjdijaaGreat

namespace Go.Proofs.YtdhfnacdjjdijaaGreat
open Go.RowKit
set_option linter.unusedVariables false
set_option linter.unusedSimpArgs false

theorem own2 (w : World) (o : Obj) (z : Int) (h0 : 0 ≤ z) (h1 : z ≤ 255) : Own ((w.alloc o).alloc (.cells #[.int .u8 z] 5)) (w.heap.size + 1) 5 (some ⟨w.heap.size + 1, 0, none⟩) 1 (nB 1 z) := by
  have h := own_kd (w.alloc o) (w.heap.size + 1) (by simp [go_sem]) z h0 h1
  rwa [show (w.alloc o).heap.size = w.heap.size + 1 by simp [go_sem]] at h
theorem lit3 (w : World) (o1 o2 : Obj) (l : List UInt8) (k : Nat) (hk : l.length = k) (h5 : k ≤ 1000) (cs : List Value) (hc : u8s l = cs) : Rd (((w.alloc o1).alloc o2).alloc (.cells cs.toArray 5)) (some ⟨w.heap.size + 2, 0, none⟩) k l := by
  have h := lit_rd ((w.alloc o1).alloc o2) l (by omega)
  rwa [hc, hk, show ((w.alloc o1).alloc o2).heap.size = w.heap.size + 2 by simp [go_sem]] at h
theorem lit1 (w : World) (l : List UInt8) (k : Nat) (hk : l.length = k) (h5 : k ≤ 1000) (cs : List Value) (hc : u8s l = cs) : Rd (w.alloc (.cells cs.toArray 5)) (some ⟨w.heap.size, 0, none⟩) k l := by
  have h := lit_rd w l (by omega)
  rwa [hc, hk] at h
theorem dg1 {z : Int} (h0 : 0 ≤ z) (h1 : z < 256) : u8s (nB 1 z) = [.int .u8 z] := by
  rw [nB_one h0 (by omega)]
  simp only [u8s, List.map_cons, List.map_nil]
  rw [ofNat_toNat (by omega)]
  rw [show ((z.toNat : Nat) : Int) = z by omega]
theorem dg2 {z : Int} (h0 : 0 ≤ z) (h1 : z < 65536) : u8s (nB 2 z) = [.int .u8 (z / 256), .int .u8 (z % 256)] := by
  have e : nB 2 z = [UInt8.ofNat (z.toNat / 256 % 256), UInt8.ofNat (z.toNat % 256)] := by simp [nB, dg]
  have k : ∀ x : Nat, x < 256 → ((UInt8.ofNat x).toNat : Int) = x := fun x h => by rw [ofNat_toNat h]
  rw [e]
  simp only [u8s, List.map_cons, List.map_nil]
  rw [k _ (by omega), k _ (by omega)]
  have e2 : ((z.toNat / 256 % 256 : Nat) : Int) = z / 256 := by omega
  have e3 : ((z.toNat % 256 : Nat) : Int) = z % 256 := by omega
  rw [e2, e3]
theorem size3 (w : World) (a b c : Obj) : (((w.alloc a).alloc b).alloc c).heap.size = w.heap.size + 3 := by simp [go_sem]
theorem size1 (w : World) (a : Obj) : (w.alloc a).heap.size = w.heap.size + 1 := by simp [go_sem]
theorem below3 (w : World) (a b c : Obj) : Below (w.heap.size + 1) (w.alloc a) (((w.alloc a).alloc b).alloc c) := by
  have h : Below (w.alloc a).heap.size (w.alloc a) (((w.alloc a).alloc b).alloc c) := by go_grown
  rwa [size1] at h
theorem BoxM.kept1 {w w' : World} {o : Obj} {g : Nat} {m : Mld} {A : Option Addr} {n c : Nat} (h : BoxM (w.alloc o) g m A n c) (hb : Below (w.heap.size + 1) (w.alloc o) w') : BoxM w' g m A n c := h.keep (by rwa [size1])
theorem below_al1 {w w' : World} {o : Obj} (hb : Below (w.heap.size + 1) (w.alloc o) w') : Below w.heap.size w w' := ((Below.refl _ _).alloc (Nat.le_refl _) _).trans (hb.mono (by omega))
/-- Some bytes come back, so many. -/
def RetNew (w : World) (l : List UInt8) (L : Nat) (e : Ending) (w' : World) : Prop := ∃ A' c', e = .returned (.slice A' L c') ∧ Rd w' A' c' l ∧ Below w.heap.size w w'

set_option maxRecDepth 100000 in
set_option maxHeartbeats 3200000 in
theorem rb_5 (A : Option Addr) (c : Nat) (w : World) :
    Calls Tryz.prog 29 #[.agg #[.int .u8 5, .int .i64 0, .int .i64 0, .int .i64 0, .int .i64 0, .int .i64 0, .int .u8 0, .int .i64 0, .int .i64 0, .int .i64 0, .int .i64 0, .slice A 0 c]] w (RetNew w (nB 1 5) 1) := by
  obtain ⟨i0, hi0, hz0, hz1, hz2⟩ := info_parts info_u8
  have o1 := own2 w (.cells (#[.int .u8 5, .int .i64 0, .int .i64 0, .int .i64 0, .int .i64 0, .int .i64 0, .int .u8 0, .int .i64 0, .int .i64 0, .int .i64 0, .int .i64 0, .slice A 0 c]) 27) 5 (by omega) (by omega)
  have bx1 : BoxM ((w.alloc (.cells (#[.int .u8 5, .int .i64 0, .int .i64 0, .int .i64 0, .int .i64 0, .int .i64 0, .int .u8 0, .int .i64 0, .int .i64 0, .int .i64 0, .int .i64 0, .slice A 0 c]) 27)).alloc (.cells #[.int .u8 5] 5)) w.heap.size ⟨5, 0, 0, 0, 0, 0, 0, 0, 0, 0, 0, []⟩ A 0 c := (boxM_new w ⟨5, 0, 0, 0, 0, 0, 0, 0, 0, 0, 0, []⟩ A 0 c 27).keep ((Below.refl _ _).alloc (Nat.le_refl _) _)
  have b1 : Below w.heap.size w ((w.alloc (.cells (#[.int .u8 5, .int .i64 0, .int .i64 0, .int .i64 0, .int .i64 0, .int .i64 0, .int .u8 0, .int .i64 0, .int .i64 0, .int .i64 0, .int .i64 0, .slice A 0 c]) 27)).alloc (.cells #[.int .u8 5] 5)) := by go_grown
  go_enter Tryz.func29, Tryz.ntmps29
  go_wp2_with fail
  generalize World.alloc (World.alloc w _) _ = w1 at o1 b1 bx1 ⊢
  have s11 := (bx1).c11
  go_wp2
  go_loopw [3, 6] (fun v i wr => v = .slice (some ⟨w.heap.size + 1, 0, none⟩) 1 1 ∧ i = .int .i64 0 ∧ wr = w1) (fun _ _ _ => 0)
  case atStart => exact ⟨rfl, rfl, rfl⟩
  case round =>
    obtain ⟨rfl, rfl, rfl⟩ := hrel
    go_wp2
    go_ret
    exact ⟨_, _, rfl, (o1).rd, b1⟩

set_option maxRecDepth 100000 in
set_option maxHeartbeats 3200000 in
theorem rb_1 (z : Int) (h0 : 0 ≤ z) (h1 : z < 256) (A : Option Addr) (c : Nat) (w : World) :
    Calls Tryz.prog 29 #[.agg #[.int .u8 1, .int .i64 z, .int .i64 0, .int .i64 0, .int .i64 0, .int .i64 0, .int .u8 0, .int .i64 0, .int .i64 0, .int .i64 0, .int .i64 0, .slice A 0 c]] w (RetNew w (nB 1 1 ++ nB 1 z) 2) := by
  obtain ⟨i0, hi0, hz0, hz1, hz2⟩ := info_parts info_u8
  have o1 := own2 w (.cells (#[.int .u8 1, .int .i64 z, .int .i64 0, .int .i64 0, .int .i64 0, .int .i64 0, .int .u8 0, .int .i64 0, .int .i64 0, .int .i64 0, .int .i64 0, .slice A 0 c]) 27) 1 (by omega) (by omega)
  have bx0 : BoxM (w.alloc (.cells (#[.int .u8 1, .int .i64 z, .int .i64 0, .int .i64 0, .int .i64 0, .int .i64 0, .int .u8 0, .int .i64 0, .int .i64 0, .int .i64 0, .int .i64 0, .slice A 0 c]) 27)) w.heap.size ⟨1, z, 0, 0, 0, 0, 0, 0, 0, 0, 0, []⟩ A 0 c := boxM_new w ⟨1, z, 0, 0, 0, 0, 0, 0, 0, 0, 0, []⟩ A 0 c 27
  have l3 := lit3 w (.cells (#[.int .u8 1, .int .i64 z, .int .i64 0, .int .i64 0, .int .i64 0, .int .i64 0, .int .u8 0, .int .i64 0, .int .i64 0, .int .i64 0, .int .i64 0, .slice A 0 c]) 27) (.cells #[.int .u8 1] 5) (nB 1 z) 1 (by rw [nB_length]) (by omega) _ (dg1 h0 h1)
  have z3 := size3 w (.cells (#[.int .u8 1, .int .i64 z, .int .i64 0, .int .i64 0, .int .i64 0, .int .i64 0, .int .u8 0, .int .i64 0, .int .i64 0, .int .i64 0, .int .i64 0, .slice A 0 c]) 27) (.cells #[.int .u8 1] 5) (.cells ([.int .u8 z]).toArray 5)
  have e3 := below3 w (.cells (#[.int .u8 1, .int .i64 z, .int .i64 0, .int .i64 0, .int .i64 0, .int .i64 0, .int .u8 0, .int .i64 0, .int .i64 0, .int .i64 0, .int .i64 0, .slice A 0 c]) 27) (.cells #[.int .u8 1] 5) (.cells ([.int .u8 z]).toArray 5)
  have k3 : Below ((w.alloc (.cells (#[.int .u8 1, .int .i64 z, .int .i64 0, .int .i64 0, .int .i64 0, .int .i64 0, .int .u8 0, .int .i64 0, .int .i64 0, .int .i64 0, .int .i64 0, .slice A 0 c]) 27)).alloc (.cells #[.int .u8 1] 5)).heap.size ((w.alloc (.cells (#[.int .u8 1, .int .i64 z, .int .i64 0, .int .i64 0, .int .i64 0, .int .i64 0, .int .u8 0, .int .i64 0, .int .i64 0, .int .i64 0, .int .i64 0, .slice A 0 c]) 27)).alloc (.cells #[.int .u8 1] 5)) (((w.alloc (.cells (#[.int .u8 1, .int .i64 z, .int .i64 0, .int .i64 0, .int .i64 0, .int .i64 0, .int .u8 0, .int .i64 0, .int .i64 0, .int .i64 0, .int .i64 0, .slice A 0 c]) 27)).alloc (.cells #[.int .u8 1] 5)).alloc (.cells ([.int .u8 z]).toArray 5)) := (Below.refl _ _).alloc (Nat.le_refl _) _
  have o3 := o1.keep k3
  clear o1 k3
  go_enter Tryz.func29, Tryz.ntmps29
  go_wp2_with (first
    | (at_builtin; refine wpList_append_rd rfl (.tmp 14) (.tmp 18) _ rfl (w.heap.size + 1) 5 Tryz.underlying32 hi0 hz0 hz1 hz2 (some ⟨w.heap.size + 1, 0, none⟩) 1 1 (nB 1 1) (hid (nB_length _ _)) rfl o3 (some ⟨w.heap.size + 2, 0, none⟩) 1 1 (nB 1 z) (hid (nB_length _ _)) rfl l3 (by omega) (by rw [z3]; omega) ?_; intro A5 c5 w5 ho5 b5; have B5 := e3.trans b5; have bx5 := bx0.kept1 B5))
  have s11 := (bx5).c11
  go_wp2
  go_loopw [3, 6] (fun v i wr => v = .slice A5 2 c5 ∧ i = .int .i64 0 ∧ wr = w5) (fun _ _ _ => 0)
  case atStart => exact ⟨rfl, rfl, rfl⟩
  case round =>
    obtain ⟨rfl, rfl, rfl⟩ := hrel
    go_wp2
    go_ret
    exact ⟨_, _, rfl, (ho5).rd, below_al1 B5⟩

set_option maxRecDepth 100000 in
set_option maxHeartbeats 3200000 in
theorem rb_4 (z : Int) (h0 : 0 ≤ z) (h1 : z < 256) (A : Option Addr) (c : Nat) (w : World) :
    Calls Tryz.prog 29 #[.agg #[.int .u8 4, .int .i64 0, .int .i64 0, .int .i64 0, .int .i64 0, .int .i64 0, .int .u8 z, .int .i64 0, .int .i64 0, .int .i64 0, .int .i64 0, .slice A 0 c]] w (RetNew w (nB 1 4 ++ nB 1 z) 2) := by
  obtain ⟨i0, hi0, hz0, hz1, hz2⟩ := info_parts info_u8
  have o1 := own2 w (.cells (#[.int .u8 4, .int .i64 0, .int .i64 0, .int .i64 0, .int .i64 0, .int .i64 0, .int .u8 z, .int .i64 0, .int .i64 0, .int .i64 0, .int .i64 0, .slice A 0 c]) 27) 4 (by omega) (by omega)
  have bx0 : BoxM (w.alloc (.cells (#[.int .u8 4, .int .i64 0, .int .i64 0, .int .i64 0, .int .i64 0, .int .i64 0, .int .u8 z, .int .i64 0, .int .i64 0, .int .i64 0, .int .i64 0, .slice A 0 c]) 27)) w.heap.size ⟨4, 0, 0, 0, 0, 0, z, 0, 0, 0, 0, []⟩ A 0 c := boxM_new w ⟨4, 0, 0, 0, 0, 0, z, 0, 0, 0, 0, []⟩ A 0 c 27
  have l3 := lit3 w (.cells (#[.int .u8 4, .int .i64 0, .int .i64 0, .int .i64 0, .int .i64 0, .int .i64 0, .int .u8 z, .int .i64 0, .int .i64 0, .int .i64 0, .int .i64 0, .slice A 0 c]) 27) (.cells #[.int .u8 4] 5) (nB 1 z) 1 (by rw [nB_length]) (by omega) _ (dg1 h0 h1)
  have z3 := size3 w (.cells (#[.int .u8 4, .int .i64 0, .int .i64 0, .int .i64 0, .int .i64 0, .int .i64 0, .int .u8 z, .int .i64 0, .int .i64 0, .int .i64 0, .int .i64 0, .slice A 0 c]) 27) (.cells #[.int .u8 4] 5) (.cells ([.int .u8 z]).toArray 5)
  have e3 := below3 w (.cells (#[.int .u8 4, .int .i64 0, .int .i64 0, .int .i64 0, .int .i64 0, .int .i64 0, .int .u8 z, .int .i64 0, .int .i64 0, .int .i64 0, .int .i64 0, .slice A 0 c]) 27) (.cells #[.int .u8 4] 5) (.cells ([.int .u8 z]).toArray 5)
  have k3 : Below ((w.alloc (.cells (#[.int .u8 4, .int .i64 0, .int .i64 0, .int .i64 0, .int .i64 0, .int .i64 0, .int .u8 z, .int .i64 0, .int .i64 0, .int .i64 0, .int .i64 0, .slice A 0 c]) 27)).alloc (.cells #[.int .u8 4] 5)).heap.size ((w.alloc (.cells (#[.int .u8 4, .int .i64 0, .int .i64 0, .int .i64 0, .int .i64 0, .int .i64 0, .int .u8 z, .int .i64 0, .int .i64 0, .int .i64 0, .int .i64 0, .slice A 0 c]) 27)).alloc (.cells #[.int .u8 4] 5)) (((w.alloc (.cells (#[.int .u8 4, .int .i64 0, .int .i64 0, .int .i64 0, .int .i64 0, .int .i64 0, .int .u8 z, .int .i64 0, .int .i64 0, .int .i64 0, .int .i64 0, .slice A 0 c]) 27)).alloc (.cells #[.int .u8 4] 5)).alloc (.cells ([.int .u8 z]).toArray 5)) := (Below.refl _ _).alloc (Nat.le_refl _) _
  have o3 := o1.keep k3
  clear o1 k3
  go_enter Tryz.func29, Tryz.ntmps29
  go_wp2_with (first
    | (at_builtin; refine wpList_append_rd rfl (.tmp 26) (.tmp 29) _ rfl (w.heap.size + 1) 5 Tryz.underlying32 hi0 hz0 hz1 hz2 (some ⟨w.heap.size + 1, 0, none⟩) 1 1 (nB 1 4) (hid (nB_length _ _)) rfl o3 (some ⟨w.heap.size + 2, 0, none⟩) 1 1 (nB 1 z) (hid (nB_length _ _)) rfl l3 (by omega) (by rw [z3]; omega) ?_; intro A5 c5 w5 ho5 b5; have B5 := e3.trans b5; have bx5 := bx0.kept1 B5))
  have s11 := (bx5).c11
  go_wp2
  go_loopw [3, 6] (fun v i wr => v = .slice A5 2 c5 ∧ i = .int .i64 0 ∧ wr = w5) (fun _ _ _ => 0)
  case atStart => exact ⟨rfl, rfl, rfl⟩
  case round =>
    obtain ⟨rfl, rfl, rfl⟩ := hrel
    go_wp2
    go_ret
    exact ⟨_, _, rfl, (ho5).rd, below_al1 B5⟩

set_option maxRecDepth 100000 in
set_option maxHeartbeats 3200000 in
theorem rb_6 (z : Int) (h0 : 0 ≤ z) (h1 : z < 65536) (A : Option Addr) (c : Nat) (w : World) :
    Calls Tryz.prog 29 #[.agg #[.int .u8 6, .int .i64 0, .int .i64 0, .int .i64 z, .int .i64 0, .int .i64 0, .int .u8 0, .int .i64 0, .int .i64 0, .int .i64 0, .int .i64 0, .slice A 0 c]] w (RetNew w (nB 1 6 ++ nB 2 z) 3) := by
  obtain ⟨i0, hi0, hz0, hz1, hz2⟩ := info_parts info_u8
  have o1 := own2 w (.cells (#[.int .u8 6, .int .i64 0, .int .i64 0, .int .i64 z, .int .i64 0, .int .i64 0, .int .u8 0, .int .i64 0, .int .i64 0, .int .i64 0, .int .i64 0, .slice A 0 c]) 27) 6 (by omega) (by omega)
  have bx0 : BoxM (w.alloc (.cells (#[.int .u8 6, .int .i64 0, .int .i64 0, .int .i64 z, .int .i64 0, .int .i64 0, .int .u8 0, .int .i64 0, .int .i64 0, .int .i64 0, .int .i64 0, .slice A 0 c]) 27)) w.heap.size ⟨6, 0, 0, z, 0, 0, 0, 0, 0, 0, 0, []⟩ A 0 c := boxM_new w ⟨6, 0, 0, z, 0, 0, 0, 0, 0, 0, 0, []⟩ A 0 c 27
  have l3 := lit3 w (.cells (#[.int .u8 6, .int .i64 0, .int .i64 0, .int .i64 z, .int .i64 0, .int .i64 0, .int .u8 0, .int .i64 0, .int .i64 0, .int .i64 0, .int .i64 0, .slice A 0 c]) 27) (.cells #[.int .u8 6] 5) (nB 2 z) 2 (by rw [nB_length]) (by omega) _ (dg2 h0 h1)
  have z3 := size3 w (.cells (#[.int .u8 6, .int .i64 0, .int .i64 0, .int .i64 z, .int .i64 0, .int .i64 0, .int .u8 0, .int .i64 0, .int .i64 0, .int .i64 0, .int .i64 0, .slice A 0 c]) 27) (.cells #[.int .u8 6] 5) (.cells ([.int .u8 (z / 256), .int .u8 (z % 256)]).toArray 5)
  have e3 := below3 w (.cells (#[.int .u8 6, .int .i64 0, .int .i64 0, .int .i64 z, .int .i64 0, .int .i64 0, .int .u8 0, .int .i64 0, .int .i64 0, .int .i64 0, .int .i64 0, .slice A 0 c]) 27) (.cells #[.int .u8 6] 5) (.cells ([.int .u8 (z / 256), .int .u8 (z % 256)]).toArray 5)
  have k3 : Below ((w.alloc (.cells (#[.int .u8 6, .int .i64 0, .int .i64 0, .int .i64 z, .int .i64 0, .int .i64 0, .int .u8 0, .int .i64 0, .int .i64 0, .int .i64 0, .int .i64 0, .slice A 0 c]) 27)).alloc (.cells #[.int .u8 6] 5)).heap.size ((w.alloc (.cells (#[.int .u8 6, .int .i64 0, .int .i64 0, .int .i64 z, .int .i64 0, .int .i64 0, .int .u8 0, .int .i64 0, .int .i64 0, .int .i64 0, .int .i64 0, .slice A 0 c]) 27)).alloc (.cells #[.int .u8 6] 5)) (((w.alloc (.cells (#[.int .u8 6, .int .i64 0, .int .i64 0, .int .i64 z, .int .i64 0, .int .i64 0, .int .u8 0, .int .i64 0, .int .i64 0, .int .i64 0, .int .i64 0, .slice A 0 c]) 27)).alloc (.cells #[.int .u8 6] 5)).alloc (.cells ([.int .u8 (z / 256), .int .u8 (z % 256)]).toArray 5)) := (Below.refl _ _).alloc (Nat.le_refl _) _
  have o3 := o1.keep k3
  clear o1 k3
  go_enter Tryz.func29, Tryz.ntmps29
  go_wp2_with (first
    | (at_builtin; refine wpList_append_rd rfl (.tmp 48) (.tmp 57) _ rfl (w.heap.size + 1) 5 Tryz.underlying32 hi0 hz0 hz1 hz2 (some ⟨w.heap.size + 1, 0, none⟩) 1 1 (nB 1 6) (hid (nB_length _ _)) rfl o3 (some ⟨w.heap.size + 2, 0, none⟩) 2 2 (nB 2 z) (hid (nB_length _ _)) rfl l3 (by omega) (by rw [z3]; omega) ?_; intro A5 c5 w5 ho5 b5; have B5 := e3.trans b5; have bx5 := bx0.kept1 B5))
  have s11 := (bx5).c11
  go_wp2
  go_loopw [3, 6] (fun v i wr => v = .slice A5 3 c5 ∧ i = .int .i64 0 ∧ wr = w5) (fun _ _ _ => 0)
  case atStart => exact ⟨rfl, rfl, rfl⟩
  case round =>
    obtain ⟨rfl, rfl, rfl⟩ := hrel
    go_wp2
    go_ret
    exact ⟨_, _, rfl, (ho5).rd, below_al1 B5⟩

set_option maxRecDepth 100000 in
set_option maxHeartbeats 3200000 in
theorem rb_10 (z : Int) (h0 : 0 ≤ z) (h1 : z < 65536) (A : Option Addr) (c : Nat) (w : World) :
    Calls Tryz.prog 29 #[.agg #[.int .u8 10, .int .i64 0, .int .i64 0, .int .i64 z, .int .i64 0, .int .i64 0, .int .u8 0, .int .i64 0, .int .i64 0, .int .i64 0, .int .i64 0, .slice A 0 c]] w (RetNew w (nB 1 10 ++ nB 2 z) 3) := by
  obtain ⟨i0, hi0, hz0, hz1, hz2⟩ := info_parts info_u8
  have o1 := own2 w (.cells (#[.int .u8 10, .int .i64 0, .int .i64 0, .int .i64 z, .int .i64 0, .int .i64 0, .int .u8 0, .int .i64 0, .int .i64 0, .int .i64 0, .int .i64 0, .slice A 0 c]) 27) 10 (by omega) (by omega)
  have bx0 : BoxM (w.alloc (.cells (#[.int .u8 10, .int .i64 0, .int .i64 0, .int .i64 z, .int .i64 0, .int .i64 0, .int .u8 0, .int .i64 0, .int .i64 0, .int .i64 0, .int .i64 0, .slice A 0 c]) 27)) w.heap.size ⟨10, 0, 0, z, 0, 0, 0, 0, 0, 0, 0, []⟩ A 0 c := boxM_new w ⟨10, 0, 0, z, 0, 0, 0, 0, 0, 0, 0, []⟩ A 0 c 27
  have l3 := lit3 w (.cells (#[.int .u8 10, .int .i64 0, .int .i64 0, .int .i64 z, .int .i64 0, .int .i64 0, .int .u8 0, .int .i64 0, .int .i64 0, .int .i64 0, .int .i64 0, .slice A 0 c]) 27) (.cells #[.int .u8 10] 5) (nB 2 z) 2 (by rw [nB_length]) (by omega) _ (dg2 h0 h1)
  have z3 := size3 w (.cells (#[.int .u8 10, .int .i64 0, .int .i64 0, .int .i64 z, .int .i64 0, .int .i64 0, .int .u8 0, .int .i64 0, .int .i64 0, .int .i64 0, .int .i64 0, .slice A 0 c]) 27) (.cells #[.int .u8 10] 5) (.cells ([.int .u8 (z / 256), .int .u8 (z % 256)]).toArray 5)
  have e3 := below3 w (.cells (#[.int .u8 10, .int .i64 0, .int .i64 0, .int .i64 z, .int .i64 0, .int .i64 0, .int .u8 0, .int .i64 0, .int .i64 0, .int .i64 0, .int .i64 0, .slice A 0 c]) 27) (.cells #[.int .u8 10] 5) (.cells ([.int .u8 (z / 256), .int .u8 (z % 256)]).toArray 5)
  have k3 : Below ((w.alloc (.cells (#[.int .u8 10, .int .i64 0, .int .i64 0, .int .i64 z, .int .i64 0, .int .i64 0, .int .u8 0, .int .i64 0, .int .i64 0, .int .i64 0, .int .i64 0, .slice A 0 c]) 27)).alloc (.cells #[.int .u8 10] 5)).heap.size ((w.alloc (.cells (#[.int .u8 10, .int .i64 0, .int .i64 0, .int .i64 z, .int .i64 0, .int .i64 0, .int .u8 0, .int .i64 0, .int .i64 0, .int .i64 0, .int .i64 0, .slice A 0 c]) 27)).alloc (.cells #[.int .u8 10] 5)) (((w.alloc (.cells (#[.int .u8 10, .int .i64 0, .int .i64 0, .int .i64 z, .int .i64 0, .int .i64 0, .int .u8 0, .int .i64 0, .int .i64 0, .int .i64 0, .int .i64 0, .slice A 0 c]) 27)).alloc (.cells #[.int .u8 10] 5)).alloc (.cells ([.int .u8 (z / 256), .int .u8 (z % 256)]).toArray 5)) := (Below.refl _ _).alloc (Nat.le_refl _) _
  have o3 := o1.keep k3
  clear o1 k3
  go_enter Tryz.func29, Tryz.ntmps29
  go_wp2_with (first
    | (at_builtin; refine wpList_append_rd rfl (.tmp 48) (.tmp 57) _ rfl (w.heap.size + 1) 5 Tryz.underlying32 hi0 hz0 hz1 hz2 (some ⟨w.heap.size + 1, 0, none⟩) 1 1 (nB 1 10) (hid (nB_length _ _)) rfl o3 (some ⟨w.heap.size + 2, 0, none⟩) 2 2 (nB 2 z) (hid (nB_length _ _)) rfl l3 (by omega) (by rw [z3]; omega) ?_; intro A5 c5 w5 ho5 b5; have B5 := e3.trans b5; have bx5 := bx0.kept1 B5))
  have s11 := (bx5).c11
  go_wp2
  go_loopw [3, 6] (fun v i wr => v = .slice A5 3 c5 ∧ i = .int .i64 0 ∧ wr = w5) (fun _ _ _ => 0)
  case atStart => exact ⟨rfl, rfl, rfl⟩
  case round =>
    obtain ⟨rfl, rfl, rfl⟩ := hrel
    go_wp2
    go_ret
    exact ⟨_, _, rfl, (ho5).rd, below_al1 B5⟩

set_option maxRecDepth 100000 in
set_option maxHeartbeats 3200000 in
theorem rb_3 (z : Int) (h0 : 0 ≤ z) (h1 : z < 16777216) (A : Option Addr) (c : Nat) (w : World) :
    Calls Tryz.prog 29 #[.agg #[.int .u8 3, .int .i64 0, .int .i64 0, .int .i64 0, .int .i64 z, .int .i64 0, .int .u8 0, .int .i64 0, .int .i64 0, .int .i64 0, .int .i64 0, .slice A 0 c]] w (RetNew w (nB 1 3 ++ nB 3 z) 4) := by
  obtain ⟨i0, hi0, hz0, hz1, hz2⟩ := info_parts info_u8
  have o1 := own2 w (.cells (#[.int .u8 3, .int .i64 0, .int .i64 0, .int .i64 0, .int .i64 z, .int .i64 0, .int .u8 0, .int .i64 0, .int .i64 0, .int .i64 0, .int .i64 0, .slice A 0 c]) 27) 3 (by omega) (by omega)
  have bx0 : BoxM (w.alloc (.cells (#[.int .u8 3, .int .i64 0, .int .i64 0, .int .i64 0, .int .i64 z, .int .i64 0, .int .u8 0, .int .i64 0, .int .i64 0, .int .i64 0, .int .i64 0, .slice A 0 c]) 27)) w.heap.size ⟨3, 0, 0, 0, z, 0, 0, 0, 0, 0, 0, []⟩ A 0 c := boxM_new w ⟨3, 0, 0, 0, z, 0, 0, 0, 0, 0, 0, []⟩ A 0 c 27
  have l3 := lit3 w (.cells (#[.int .u8 3, .int .i64 0, .int .i64 0, .int .i64 0, .int .i64 z, .int .i64 0, .int .u8 0, .int .i64 0, .int .i64 0, .int .i64 0, .int .i64 0, .slice A 0 c]) 27) (.cells #[.int .u8 3] 5) (nB 3 z) 3 (by rw [nB_length]) (by omega) _ rfl
  have z3 := size3 w (.cells (#[.int .u8 3, .int .i64 0, .int .i64 0, .int .i64 0, .int .i64 z, .int .i64 0, .int .u8 0, .int .i64 0, .int .i64 0, .int .i64 0, .int .i64 0, .slice A 0 c]) 27) (.cells #[.int .u8 3] 5) (.cells (u8s (nB 3 z)).toArray 5)
  have e3 := below3 w (.cells (#[.int .u8 3, .int .i64 0, .int .i64 0, .int .i64 0, .int .i64 z, .int .i64 0, .int .u8 0, .int .i64 0, .int .i64 0, .int .i64 0, .int .i64 0, .slice A 0 c]) 27) (.cells #[.int .u8 3] 5) (.cells (u8s (nB 3 z)).toArray 5)
  have k3 : Below ((w.alloc (.cells (#[.int .u8 3, .int .i64 0, .int .i64 0, .int .i64 0, .int .i64 z, .int .i64 0, .int .u8 0, .int .i64 0, .int .i64 0, .int .i64 0, .int .i64 0, .slice A 0 c]) 27)).alloc (.cells #[.int .u8 3] 5)).heap.size ((w.alloc (.cells (#[.int .u8 3, .int .i64 0, .int .i64 0, .int .i64 0, .int .i64 z, .int .i64 0, .int .u8 0, .int .i64 0, .int .i64 0, .int .i64 0, .int .i64 0, .slice A 0 c]) 27)).alloc (.cells #[.int .u8 3] 5)) (((w.alloc (.cells (#[.int .u8 3, .int .i64 0, .int .i64 0, .int .i64 0, .int .i64 z, .int .i64 0, .int .u8 0, .int .i64 0, .int .i64 0, .int .i64 0, .int .i64 0, .slice A 0 c]) 27)).alloc (.cells #[.int .u8 3] 5)).alloc (.cells (u8s (nB 3 z)).toArray 5)) := (Below.refl _ _).alloc (Nat.le_refl _) _
  have o3 := o1.keep k3
  clear o1 k3
  go_enter Tryz.func29, Tryz.ntmps29
  go_wp2_with (first
    | (go_at_call 52; refine (rthree_of _ (countB_iff.2 ⟨h0, h1⟩) _).mono ?_; rintro e w' ⟨rfl, rfl⟩)
    | (at_builtin; refine wpList_append_rd rfl (.tmp 65) (.tmp 68) _ rfl (w.heap.size + 1) 5 Tryz.underlying32 hi0 hz0 hz1 hz2 (some ⟨w.heap.size + 1, 0, none⟩) 1 1 (nB 1 3) (hid (nB_length _ _)) rfl o3 (some ⟨w.heap.size + 2, 0, none⟩) 3 3 (nB 3 z) (hid (nB_length _ _)) rfl l3 (by omega) (by rw [z3]; omega) ?_; intro A5 c5 w5 ho5 b5; have B5 := e3.trans b5; have bx5 := bx0.kept1 B5))
  have s11 := (bx5).c11
  go_wp2
  go_loopw [3, 6] (fun v i wr => v = .slice A5 4 c5 ∧ i = .int .i64 0 ∧ wr = w5) (fun _ _ _ => 0)
  case atStart => exact ⟨rfl, rfl, rfl⟩
  case round =>
    obtain ⟨rfl, rfl, rfl⟩ := hrel
    go_wp2
    go_ret
    exact ⟨_, _, rfl, (ho5).rd, below_al1 B5⟩

end Go.Proofs.YtdhfnacdjjdijaaGreat
