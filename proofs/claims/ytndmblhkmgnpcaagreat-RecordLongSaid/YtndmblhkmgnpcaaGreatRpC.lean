/-
  The program's own Put, whatever it is given.
-/
import Derived.Test.YtndmblhkmgnpcaaGreatRpB
namespace Go.Proofs.YtndmblhkmgnpcaaGreat
open Go.RowKit Go.Shelf
set_option linter.unusedVariables false
set_option linter.unusedSimpArgs false
attribute [local go_sem] Oper.semAt_some

set_option maxRecDepth 100000 in
set_option maxHeartbeats 6400000 in
theorem rec_put_yes (m : Nat) (r : Rec) (A : Option Addr) (n c : Nat) (hn : Hid (r.op.row.length = n)) (hmr : Recr r) (hm : mayR r = true) (hnb : Hid (nbl (rcb r) = m)) (s t : Int) (hh : Hid (mayHd s t 0 m = true)) (w : World) (hr : Ri w A c r.op.row) :
    Calls Tryz.prog 8 #[.agg #[.int .u8 r.kd, .int .i64 r.us, .int .u8 r.op.kd, .int .u8 r.op.l, .int .u32 r.op.c, .int .u8 r.op.k, .int .i64 r.op.s, .int .u8 r.op.fl, .int .u32 r.op.fc, .int .u8 r.op.fk, .int .i64 r.op.fn, .int .i64 r.op.fm, .int .u8 r.op.al, .int .u32 r.op.ac, .int .u8 r.op.ak, .int .i64 r.op.an, .int .u8 r.op.tl, .int .u32 r.op.tc, .slice A n c, .int .i64 r.co, .int .i64 r.gr.u, .int .u8 r.gr.l, .int .u32 r.gr.c, .bool r.gr.ok], .int .i64 s, .int .i64 t] w fun e w' => ∃ A' c', e = .returned (.tuple #[.slice A' m c', .int .i64 0]) ∧ OwB w' w.heap.size A' c' (blks s t (rcb r)) ∧ Below w.heap.size w w' := by
  obtain ⟨q, hq⟩ : ∃ q, (tailR r).length = q := ⟨_, rfl⟩
  have HT := hid hq
  have hlen : (rcb r).length = 1 + q := by rw [rcb, List.length_append, nB_length, hq]
  have h296 := (rcb_length hm).2.1
  have HM := hid (show m = (1 + q + 118) / 119 by rw [← hnb.out, nbl, hlen])
  have hm64 : m ≤ 64 := by have := HM.out; omega
  have hm0 : 0 < m := by have := HM.out; omega
  have hq2 : 1 + q ≤ 1000 := by omega
  have HL := hid hlen
  have HC := hid (show (if mayR r = true then (nbl (rcb r) : Int) else 0) = (m : Int) ∧ er (mayR r) = 0 by rw [if_pos hm, hm, hnb.out]; exact ⟨rfl, rfl⟩)
  have xa := boxR_new w r A n c 40
  have hb := below1 w (.cells (#[.int .u8 r.kd, .int .i64 r.us, .int .u8 r.op.kd, .int .u8 r.op.l, .int .u32 r.op.c, .int .u8 r.op.k, .int .i64 r.op.s, .int .u8 r.op.fl, .int .u32 r.op.fc, .int .u8 r.op.fk, .int .i64 r.op.fn, .int .i64 r.op.fm, .int .u8 r.op.al, .int .u32 r.op.ac, .int .u8 r.op.ak, .int .i64 r.op.an, .int .u8 r.op.tl, .int .u32 r.op.tc, .slice A n c, .int .i64 r.co, .int .i64 r.gr.u, .int .u8 r.gr.l, .int .u32 r.gr.c, .bool r.gr.ok]) 40)
  have HR := hid hr
  clear hq hlen h296 hr
  refine (callsIn_wide (n := 6)).1 ?_
  refine callsIn_of_wp_marks Tryz.func8 rfl trivial ?_ rfl
  refine wpIn_wide.2 ?_
  simp only [Tryz.ntmps8, List.size_toArray, List.length_cons, List.length_nil, Nat.reduceAdd, Nat.reduceSub, Array.replicate_succ, Array.replicate_zero, List.push_toArray, List.append_toArray, List.nil_append, List.cons_append]
  go_wp2_with (refine wpList_load_r rfl (.tmp 3) rfl w.heap.size rfl xa ?_)
  refine (rec_count_of (m : Int) 0 r A n c hn hmr HC _ (HR.out.keep hb)).mono ?_
  rintro e w1 ⟨rfl, b1⟩
  have xa1 := xa.keep b1
  have hb1 := below_in hb b1
  clear xa hb b1
  go_wp2_with fail
  refine (rheadMay_of true s t 0 (m : Int) hh _).mono ?_
  rintro e w2 ⟨rfl, b2⟩
  have hd2 := (Below.block b2 w1.heap.size (by simp)).trans (World.alloc_heap_new w1 (.cells (#[.int .i64 s, .int .i64 t, .int .i64 0, .int .i64 (m : Int)]) 42))
  have hs2 := b2.size
  rw [size1] at hs2
  have b2' := below_in (below1 w1 _) b2
  have xa2 := xa1.keep b2'
  have hb2 := below_in hb1 b2'
  clear xa1 b2 b2'
  have one : True := trivial
  go_wp2_with (clear one; refine wpList_load_r rfl (.tmp 3) rfl w.heap.size rfl (xa2.keep (below1 w2 _)) ?_)
  refine (pieces_of q r A n c hn hmr hm HT _ (HR.out.keep (below_in hb2 (below1 w2 _)))).mono ?_
  rintro e V ⟨p, u, A2, c2, rfl, h1, h2, h3, hS, hN, hr2, b3⟩
  have hG : Boxed V w2.heap.size 45 (.slice none 0 0) := (Below.block b3 w2.heap.size (by simp)).trans (Boxed.new w2 45 (.slice none 0 0))
  have b3' := below_in (below1 w2 _) b3
  have hH := (Below.block b3' w1.heap.size (by omega)).trans hd2
  rw [size1] at h1
  have hs3 := b3.size
  rw [size1] at hs3
  have hb3 := below_in hb2 b3'
  have hz1 := hb1.size
  have J0 : PutJ w V w2.heap.size w1.heap.size s t m (rcb r) [] V := ⟨hb3, fun _ _ _ _ => rfl, Nat.le_refl _, ⟨none, 0, hG, OwB.nil _ _⟩, hH⟩
  obtain ⟨b, o, hA, hcell⟩ := hr2.at_ (by rw [HL.out]; omega)
  have hc1 : ((1 + q : Nat) : Int) ≤ c2 := by have := hr2.len; have := HL.out; omega
  have hc2 : (c2 : Int) ≤ 9223372036854775807 := by have := hr2.cap; omega
  generalize w2.heap.size = gl at *
  generalize w1.heap.size = gh at *
  clear b3 b3' xa2 hb1 hb2 hd2 hr2 HC HT HR
  go_wp2_with fail
  generalize (.agg #[.int .u8 r.kd, .int .i64 r.us, .int .u8 r.op.kd, .int .u8 r.op.l, .int .u32 r.op.c, .int .u8 r.op.k, .int .i64 r.op.s, .int .u8 r.op.fl, .int .u32 r.op.fc, .int .u8 r.op.fk, .int .i64 r.op.fn, .int .i64 r.op.fm, .int .u8 r.op.al, .int .u32 r.op.ac, .int .u8 r.op.ak, .int .i64 r.op.an, .int .u8 r.op.tl, .int .u32 r.op.tc, .slice A n c, .int .i64 r.co, .int .i64 r.gr.u, .int .u8 r.gr.l, .int .u32 r.gr.c, .bool r.gr.ok] : Value) = vr
  refine (wpIn_wide (n := 6)).1 ?_
  have hbl : b ≠ gl := by
    rintro rfl
    have h0 := hcell 0 (by rw [HL.out]; omega)
    rw [show V.cell? ⟨b, o + 0, none⟩ = (#[Value.slice none 0 0])[o + 0]? by simp [World.cell?, show V.heap[b]? = _ from hG]] at h0
    rcases o with _ | o <;> simp at h0
  have hbh : b ≠ gh := by
    rintro rfl
    have h0 := hcell 0 (by rw [HL.out]; omega)
    rw [show V.cell? ⟨b, o + 0, none⟩ = (#[.int .i64 s, .int .i64 t, .int .i64 0, .int .i64 (m : Int)])[o + 0]? by simp [World.cell?, hH]] at h0
    rcases o with _ | _ | _ | _ | o <;> simp at h0
  have hblt : b < V.heap.size := World.block_lt_of_cell? _ _ (hcell 0 (by rw [HL.out]; omega))
  refine wpIn_rangeFunc_ownG (F := Fence.wide) rfl (by omega) (gf := 84) (lb := #[.pointer (some ⟨p, 0, none⟩), .pointer (some ⟨u, 0, none⟩)]) rfl trivial (enters_of Tryz.func84 (by kernel_rfl) rfl)
    (chunk9_stops (6 - 1) (by omega) p u w.heap.size b o m (1 + q) c2 A2 (fun _ => hA) hm64 HM hq2 hc1 hc2 _ hS hN) Kc.t
    (fun W k o o' hk hko h1' h2' => ⟨belowK_b (w := V) hb3.size W k o o' hk hko h1' h2', World.putObj_heap_other (by omega), World.putObj_heap_other (by omega)⟩)
    (Below.refl _ _) (fun _ => rfl)
    (PutJ w V gl gh s t m (rcb r))
    (fun _ _ _ => False)
    (putJ_own hb3.size (by omega) (by omega))
    (fun _ _ _ _ _ hs _ _ => hs)
    J0
    (fun x => { tmps := #[vr, .int .i64 s, .int .i64 t, .pointer (some ⟨w.heap.size, 0, none⟩), undef, undef, .slice none 0 0, .int .i64 0, .int .i64 (m : Int), .int .i64 0, .pointer (some ⟨gh, 0, none⟩), .pointer (some ⟨gl, 0, none⟩), .slice (some ⟨b, o + 119 * x.1, none⟩) (pl (1 + q) x.1) (pl (1 + q) x.1), .tuple #[.int .i64 (m : Int), .int .i64 0], vr, .tuple #[.int .i64 (m : Int), .int .i64 0], .int .i64 (m : Int), .int .i64 0, .int .i64 0, .bool false, undef, .int .i64 s, .int .i64 t, .int .i64 (m : Int), .agg #[.int .i64 s, .int .i64 t, .int .i64 0, .int .i64 (m : Int)], .agg #[.int .i64 s, .int .i64 t, .int .i64 0, .int .i64 (m : Int)], .bool true, .bool false, vr, .func (.func 84) #[] #[.pointer (some ⟨p, 0, none⟩), .pointer (some ⟨u, 0, none⟩)], .slice (some ⟨b, o + 119 * x.1, none⟩) (pl (1 + q) x.1) (pl (1 + q) x.1), undef, undef, undef, undef, undef, undef, undef, undef, undef, undef, undef], defers := [] }) ?assign ?body ?done ?stop
  case assign =>
    intro k x W K hK
    unfold encP
    gi_wp2
    exact hK
  case body =>
    rintro k pre x W J hlt
    obtain ⟨A4, c4, hv, ho⟩ := J.ow
    have hJ := hid J
    have hJz := J.sz
    have cl := hv.cell
    obtain ⟨k0, k1, k2, k3, -⟩ := cell_at4 J.hd
    have hcW : ∀ j (h : j < (rcb r).length), W.cell? ⟨b, o + j, none⟩ = some (.int .u8 ((rcb r)[j].toNat : Int)) := fun j h => by
      rw [World.cell?_of_block (w := V) (J.fr b hblt hbl hbh)]; exact hcell j h
    obtain ⟨hpl, hpr⟩ := piece_rd hcW x.1
    rw [HL.out] at hpl hpr
    have hp9 : pl (1 + q) x.1 ≤ 119 := by unfold pl; omega
    have hY := block_of s t (pre.length : Int) (m : Int) (mayHd_at hh.out pre.length hlt) _ _ _ (pcs (rcb r) x.1) (hid hpl) hp9 W.drew hpr
    have HLB := hid (show (hdb s t (pre.length : Int) (m : Int) ++ pad (pcs (rcb r) x.1)).length = 128 by rw [List.length_append, hdb_length, pad_length])
    have hpm : pre.length < 64 := by omega
    have dl : W.drew.cell? ⟨gl, 0, none⟩ = _ := cl
    have d0 : W.drew.cell? ⟨gh, 0, none⟩ = _ := k0
    have d1 : W.drew.cell? ⟨gh, 1, none⟩ = _ := k1
    have d2 : W.drew.cell? ⟨gh, 2, none⟩ = _ := k2
    have d3 : W.drew.cell? ⟨gh, 3, none⟩ = _ := k3
    clear hpl hpr hcW k0 k1 k2 k3 J
    generalize pl (1 + q) x.1 = pn at *
    have mixed : Tryz.prog.follows .mixedOrders = true := by kernel_rfl
    gi_wp2
    gi_region_with_o (refine ⟨trivial, ?_⟩; refine (CallsIn.inRound k (callsIn_wide.2 hY)).mono ?_; rintro e w3 ⟨A3, c3, rfl, ho3, b3⟩; have b3' : Below W.heap.size W w3 := (Below.refl _ W).drew.trans b3; have hz3 := b3'.size; have cl3 : w3.cell? ⟨gl, 0, none⟩ = some (.slice A4 pre.length c4) := Go.Proofs.YtndmblhkmgnpcaaGreat.keep b3' cl; have clA : ∀ ob, (w3.alloc ob).cell? ⟨gl, 0, none⟩ = some (.slice A4 pre.length c4) := fun ob => Go.Proofs.YtndmblhkmgnpcaaGreat.keep (below1 w3 ob) cl3; obtain ⟨A5, c5, w5, hrun, ho5, b5, k5⟩ := run_append_b pre.length (blP_length _ _ _ _ _) (ho.keep b3') HLB.out (ho3.mono hJz) (by omega) (Nat.le_trans hJz hz3); rw [← blP_snoc] at ho5; have hv5 : Boxed w5 gl 45 (.slice A4 pre.length c4) := ((b5.block gl (by omega)).trans (b3'.block gl (by omega))).trans hv; have cl5 := hv5.cell; have cf5 := hv5.frozen; simp [go_sem] at hrun)
    all_goals
      obtain ⟨gK, gB, gF, gJ⟩ := putJ_step hJ.out hz1 hs2 (by omega) b3' ho5 b5 k5
      have hd5 : (w5.setCell ⟨gl, 0, none⟩ (.slice A5 (pre.length + 1) c5)).heap[gh]? = _ := (Below.heap_setCell _ _ _ _ (by show gh ≠ gl; omega)).trans (((b5.block gh (by omega)).trans (b3'.block gh (by omega))).trans hJ.out.hd)
      obtain ⟨-, -, cd5, -, cg5⟩ := cell_at4 hd5
      clear hd5 hrun hY cl5 cf5 hv5 cl3 clA dl d0 d1 d2 d3
      gi_wp2
      exact ⟨gK.from _, ⟨gB, gF p (by omega) (by omega) (by omega), gF u (by omega) (by omega) (by omega)⟩, gJ⟩
  case done =>
    rintro D ys W hD rfl J hK
    obtain ⟨A4, c4, hv, ho⟩ := J.ow
    rw [blP_all s t m (rcb r) hnb.out] at ho
    have hc := hv.cell
    rw [firsts_length (Nat.le_refl m)] at hc
    have hD2 : w.heap.size ≤ D := Nat.le_trans hb3.size hD
    have hBD : Below w.heap.size w (W.putObj D (.deferred none)) := J.be.trans ((Below.refl _ W).grown (grownBy_putObj' W D _) J.be.size (fun j e => by cases e; exact hD2))
    have hoD : OwB (W.putObj D (.deferred none)) w.heap.size A4 c4 (blks s t (rcb r)) := (ho.grow (grownBy_putObj' W D _) (fun r e => by cases e; exact ⟨_, hK, rfl⟩)).base hb3.size
    clear hv ho hS hN hG J J0
    go_wp2
    refine ⟨by simp, .inl ⟨_, _, rfl, run_takeDeferred hK, ?_⟩⟩
    exact ⟨_, results_tmp2 (t := 6) (u := 7) rfl _ _ _, A4, c4, rfl, hoD, hBD⟩
  case stop =>
    rintro D k pre W _ _ h _
    exact h.elim
end Go.Proofs.YtndmblhkmgnpcaaGreat

namespace Go.Proofs.YtndmblhkmgnpcaaGreat
open Go.RowKit
set_option linter.unusedVariables false
set_option linter.unusedSimpArgs false

set_option maxRecDepth 100000 in
set_option maxHeartbeats 1600000 in
theorem rec_put_of (L : List (List UInt8)) (k : Nat) (j : Int) (r : Rec) (A : Option Addr) (n c : Nat) (hn : Hid (r.op.row.length = n)) (hmr : Recr r) (s t : Int) (hL : Hid (putL r s t = L ∧ L.length = k ∧ putE r s t = j)) (w : World) (hr : Ri w A c r.op.row) :
    Calls Tryz.prog 8 #[.agg #[.int .u8 r.kd, .int .i64 r.us, .int .u8 r.op.kd, .int .u8 r.op.l, .int .u32 r.op.c, .int .u8 r.op.k, .int .i64 r.op.s, .int .u8 r.op.fl, .int .u32 r.op.fc, .int .u8 r.op.fk, .int .i64 r.op.fn, .int .i64 r.op.fm, .int .u8 r.op.al, .int .u32 r.op.ac, .int .u8 r.op.ak, .int .i64 r.op.an, .int .u8 r.op.tl, .int .u32 r.op.tc, .slice A n c, .int .i64 r.co, .int .i64 r.gr.u, .int .u8 r.gr.l, .int .u32 r.gr.c, .bool r.gr.ok], .int .i64 s, .int .i64 t] w fun e w' => ∃ A' c', e = .returned (.tuple #[.slice A' k c', .int .i64 j]) ∧ OwB w' w.heap.size A' c' L ∧ Below w.heap.size w w' := by
  obtain ⟨h1, h2, h3⟩ := hL.out
  have xa := boxR_new w r A n c 40
  have hb := below1 w (.cells (#[.int .u8 r.kd, .int .i64 r.us, .int .u8 r.op.kd, .int .u8 r.op.l, .int .u32 r.op.c, .int .u8 r.op.k, .int .i64 r.op.s, .int .u8 r.op.fl, .int .u32 r.op.fc, .int .u8 r.op.fk, .int .i64 r.op.fn, .int .i64 r.op.fm, .int .u8 r.op.al, .int .u32 r.op.ac, .int .u8 r.op.ak, .int .i64 r.op.an, .int .u8 r.op.tl, .int .u32 r.op.tc, .slice A n c, .int .i64 r.co, .int .i64 r.gr.u, .int .u8 r.gr.l, .int .u32 r.gr.c, .bool r.gr.ok]) 40)
  have HR := hid hr
  clear hr hL
  cases hm : mayR r
  · rw [putL, if_neg (by rw [hm]; simp)] at h1
    rw [putE, if_neg (by rw [hm]; simp)] at h3
    subst h1 h2 h3
    have HC := hid (show (if mayR r = true then (nbl (rcb r) : Int) else 0) = 0 ∧ er (mayR r) = 8 by rw [hm]; exact ⟨rfl, rfl⟩)
    clear hm
    go_enter Tryz.func8, Tryz.ntmps8
    go_wp2_with (refine wpList_load_r rfl (.tmp 3) rfl w.heap.size rfl xa ?_)
    refine (rec_count_of 0 8 r A n c hn hmr HC _ (HR.out.keep hb)).mono ?_
    rintro e w1 ⟨rfl, b1⟩
    have hb1 := below_in hb b1
    clear xa b1
    go_wp2
    go_ret2
    exact ⟨none, 0, rfl, OwB.nil _ _, hb1⟩
  · rw [putL, if_pos hm] at h1
    rw [putE, if_pos hm] at h3
    obtain ⟨m, hk⟩ : ∃ m, nbl (rcb r) = m := ⟨_, rfl⟩
    rw [hk] at h1 h3
    cases hq : mayHd s t 0 m
    · rw [hq, if_neg (by simp)] at h1 h3
      subst h1 h2 h3
      have HC := hid (show (if mayR r = true then (nbl (rcb r) : Int) else 0) = (m : Int) ∧ er (mayR r) = 0 by rw [hm, if_pos rfl, hk]; exact ⟨rfl, rfl⟩)
      have HQ := hid hq
      clear hm hk hq
      go_enter Tryz.func8, Tryz.ntmps8
      go_wp2_with (refine wpList_load_r rfl (.tmp 3) rfl w.heap.size rfl xa ?_)
      refine (rec_count_of (m : Int) 0 r A n c hn hmr HC _ (HR.out.keep hb)).mono ?_
      rintro e w1 ⟨rfl, b1⟩
      have hb1 := below_in hb b1
      clear xa b1
      go_wp2_with fail
      refine (rheadMay_of false s t 0 (m : Int) HQ _).mono ?_
      rintro e w2 ⟨rfl, b2⟩
      have hb2 := below_in hb1 (below_in (below1 w1 _) b2)
      clear b2
      go_wp2
      go_ret2
      exact ⟨none, 0, rfl, OwB.nil _ _, hb2⟩
    · rw [hq, if_pos rfl] at h1 h3
      subst h1 h3
      rw [blks_length, hk] at h2
      subst h2
      exact rec_put_yes _ r A n c hn hmr hm (hid hk) s t (hid hq) w HR.out
theorem ris_put {L : List (List UInt8)} {r : Rec} {s n : Int} (h : Ris L r s n) : putE r s n = 0 ∧ putL r s n = L := by
  rw [putE, putL, if_pos h.may, if_pos h.may, if_pos h.hd, if_pos h.hd]
  exact ⟨rfl, h.eq⟩
end Go.Proofs.YtndmblhkmgnpcaaGreat
