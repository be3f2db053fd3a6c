/-
  What stays in the rounds of the program's Put.
-/
import Derived.Test.YtndmblhkmgnpcaaGreatRpA
import Derived.Test.YtndmblhkmgnpcaaGreatRH
namespace Go.Proofs.YtndmblhkmgnpcaaGreat
open Go.RowKit Go.Shelf
set_option linter.unusedVariables false
set_option linter.unusedSimpArgs false
attribute [local go_sem] Oper.semAt_some

/-- How long a piece is. -/
def pl (q k : Nat) : Nat := min 119 (q - 119 * k)
def encP (b o q : Nat) (k : Nat) : Array Value := #[.slice (some ⟨b, o + 119 * k, none⟩) (pl q k) (pl q k)]

set_option maxRecDepth 100000 in
set_option maxHeartbeats 2000000 in
theorem chunk91_in (n : Nat) (hn : 1 ≤ n) (l Bs Bn n₀ b o m q c : Nat) (A : Option Addr) (hA : 0 < m → A = some ⟨b, o, none⟩) (hm : m ≤ 64) (hq : Hid (m = (q + 118) / 119)) (hq2 : q ≤ 1000) (hc1 : (q : Int) ≤ c) (hc2 : (c : Int) ≤ 9223372036854775807) (J Jx : List (Fin m) → World → Prop)
    (hD : ∀ pre W, J pre W → J pre W.drew)
    (hY : ∀ pre (x : Fin m) W, J pre W → pre.length < m → YieldAt Fence.wide (n - 1) Tryz.prog l (encP b o q x.1) W fun e W' =>
      (e = .returned (.bool true) ∧ J (pre ++ [x]) W' ∧ Kc n₀ Bs Bn W W') ∨ (e = .returned (.bool false) ∧ Jx (pre ++ [x]) W'))
    (W : World) (hBs : Boxed W Bs 51 (.slice A q c)) (hBn : Boxed W Bn 3 (.int .i64 119)) (h0 : J [] W) :
    CallsIn Fence.wide n Tryz.prog 84 #[.func (.yield l) #[] #[], .pointer (some ⟨Bs, 0, none⟩), .pointer (some ⟨Bn, 0, none⟩)] W fun e W' => (∃ v, e = .returned v) ∧
      ((∃ ys, ys = firsts m m ∧ J ys W') ∨ (∃ pre, (∃ k, k ≤ m ∧ pre = firsts m k) ∧ Jx pre W')) := by
  refine callsIn_of_wp Tryz.func84 rfl trivial ?_ rfl
  simp only [Tryz.ntmps84, List.size_toArray, List.length_cons, List.length_nil, Nat.reduceAdd, Nat.reduceSub, Array.replicate_succ, Array.replicate_zero, List.push_toArray, List.append_toArray, List.nil_append, List.cons_append]
  gi_wp2
  gi_loopw [4, 5] (fun i u wr => ∃ k t : Nat, k ≤ m ∧ Hid (t = 119 * k) ∧ i = .int .i64 (t : Int) ∧ Hid (J (firsts m k) wr) ∧ Kc n₀ Bs Bn W wr)
    (fun i _ _ => q + 119 - (intOf i).toNat)
  case atStart => exact ⟨0, 0, Nat.zero_le _, hid rfl, rfl, hid h0, Below.refl _ _, rfl, rfl⟩
  case round =>
    obtain ⟨k, t, hk, ht, rfl, hJs, hK⟩ := hrel
    have hs : Boxed wr Bs _ _ := hK.2.1.trans hBs
    have hn4 : Boxed wr Bn _ _ := hK.2.2.trans hBn
    have c0 := hs.cell
    have c1 := hn4.cell
    by_cases hlt : k < m
    · obtain rfl := hA (by omega)
      have htq : t < q := by have := ht.out; have := hq.out; omega
      have hlt2 : (t : Int) < (q : Int) := by omega
      obtain ⟨p, hp⟩ : ∃ p, pl q k = p := ⟨_, rfl⟩
      have hpv : p = min 119 (q - t) := by rw [← hp, pl, ht.out]
      have mixed : Tryz.prog.follows .mixedOrders = true := by kernel_rfl
      obtain ⟨fn, tmps, assign, body, hy, hR⟩ := hY (firsts m k) ⟨k, hlt⟩ wr.drew (hD _ _ hJs.out) (by rw [firsts_length hk]; exact hlt)
      dsimp only at hy
      rw [encP, hp, ← ht.out] at hy
      have d0 : wr.drew.cell? ⟨Bs, 0, none⟩ = _ := c0
      have d1 : wr.drew.cell? ⟨Bn, 0, none⟩ = _ := c1
      have hct : ¬ c = t := by omega
      have hminr : ∀ (ts : Array TypeId) (ty : TypeId) (W : World), (Builtin.min_ ts ty #[.int .i64 119, .int .i64 (((q - t : Nat)) : Int)]).run Tryz.prog W = .ok (.int .i64 (p : Int)) W := fun ts ty W => by
        rw [run_min_int2]
        have e : (if (((q - t : Nat)) : Int) < 119 then (((q - t : Nat)) : Int) else 119) = (p : Int) := by split <;> omega
        rw [e]
      have HPV := hid hpv
      have ht7 : t + p ≤ q := by omega
      have hp0 : ¬ p = 0 := by omega
      have ht5 : (t : Int) + (p : Int) ≤ (c : Int) := by omega
      have ht6 : (t : Int) + (p : Int) ≤ (q : Int) := by omega
      have HM := hid (show m ≤ k + 1 ∨ t + p = t + 119 by have := ht.out; have := hq.out; omega)
      clear hpv hp
      gi_wp2
      gi_region_o
      have HJ := hid (firsts_succ hlt)
      have HT := hid (show t + 119 = 119 * (k + 1) by have := ht.out; omega)
      have e1 : ((t : Int) + (p : Int)).toNat - t = p := by omega
      clear hminr
      gi_wp2
      refine hR.mono ?_
      rintro e W3 (⟨rfl, hJ3, hk3⟩ | ⟨rfl, hJx3⟩)
      · have hs3 : Boxed W3 Bs _ _ := hk3.2.1.trans hs
        have hn3 : Boxed W3 Bn _ _ := hk3.2.2.trans hn4
        have c3 := hn3.cell
        gi_wp2
        go_roundw
        case rel => exact ⟨k + 1, t + 119, by omega, HT, by go_num, hid (by rw [HJ.out]; exact hJ3), hK.t ((Kc.drew _ _ _ wr).t hk3)⟩
        case measure => simp [intOf]; omega
      · gi_wp2
        refine bodyPost_ret (results_none rfl _ _ _) rfl ?_
        exact ⟨⟨_, rfl⟩, .inr ⟨_, ⟨k + 1, by omega, HJ.out.symm⟩, hJx3⟩⟩
    · obtain rfl : k = m := by omega
      have hlt2 : ¬ (t : Int) < (q : Int) := by have := ht.out; have := hq.out; omega
      have HJ := hJs
      gi_wp2
      go_end0
      exact ⟨⟨_, rfl⟩, .inl HJ.out⟩
theorem chunk9_stops (n : Nat) (hn : 1 ≤ n) (Bs Bn n₀ b o m q c : Nat) (A : Option Addr) (hA : 0 < m → A = some ⟨b, o, none⟩) (hm : m ≤ 64) (hq : Hid (m = (q + 118) / 119)) (hq2 : q ≤ 1000) (hc1 : (q : Int) ≤ c) (hc2 : (c : Int) ≤ 9223372036854775807) (w : World)
    (hBs : Boxed w Bs 51 (.slice A q c)) (hBn : Boxed w Bn 3 (.int .i64 119)) :
    SeqStopsK Fence.wide n Tryz.prog 84 #[.pointer (some ⟨Bs, 0, none⟩), .pointer (some ⟨Bn, 0, none⟩)] (fun x : Fin m => encP b o q x.1) (Kc n₀ Bs Bn) (fun ys => ys = firsts m m) (fun pre => ∃ k, k ≤ m ∧ pre = firsts m k) m w := fun l J Jx W hW hJ _ hY h0 =>
  chunk91_in n hn l Bs Bn n₀ b o m q c A hA hm hq hq2 hc1 hc2 J Jx (fun pre W' h => hJ pre W' W'.drew none h (grown_drew W') (by rintro r ⟨⟩)) hY W ((hW.block Bs hBs.lt).trans hBs) ((hW.block Bn hBn.lt).trans hBn) h0
end Go.Proofs.YtndmblhkmgnpcaaGreat

namespace Go.Proofs.YtndmblhkmgnpcaaGreat
open Go.RowKit Go.Shelf
set_option linter.unusedVariables false
set_option linter.unusedSimpArgs false
attribute [local go_sem] Oper.semAt_some

set_option maxRecDepth 100000 in
set_option maxHeartbeats 3200000 in
theorem rec_count_yes (m : Nat) (r : Rec) (A : Option Addr) (n c : Nat) (hn : Hid (r.op.row.length = n)) (hmr : Recr r) (hm : mayR r = true) (hv : Hid (nbl (rcb r) = m)) (w : World) (hr : Ri w A c r.op.row) :
    Calls Tryz.prog 19 #[.agg #[.int .u8 r.kd, .int .i64 r.us, .int .u8 r.op.kd, .int .u8 r.op.l, .int .u32 r.op.c, .int .u8 r.op.k, .int .i64 r.op.s, .int .u8 r.op.fl, .int .u32 r.op.fc, .int .u8 r.op.fk, .int .i64 r.op.fn, .int .i64 r.op.fm, .int .u8 r.op.al, .int .u32 r.op.ac, .int .u8 r.op.ak, .int .i64 r.op.an, .int .u8 r.op.tl, .int .u32 r.op.tc, .slice A n c, .int .i64 r.co, .int .i64 r.gr.u, .int .u8 r.gr.l, .int .u32 r.gr.c, .bool r.gr.ok]] w fun e w' => e = .returned (.tuple #[.int .i64 (m : Int), .int .i64 0]) ∧ Below w.heap.size w w' := by
  obtain ⟨q, hq⟩ : ∃ q, (tailR r).length = q := ⟨_, rfl⟩
  have HT := hid hq
  have hlen : (rcb r).length = 1 + q := by rw [rcb, List.length_append, nB_length, hq]
  have h296 := (rcb_length hm).2.1
  have HM := hid (show m = (1 + q + 118) / 119 by rw [← hv.out, nbl, hlen])
  have hm64 : m ≤ 64 := by have := HM.out; omega
  have hq2 : 1 + q ≤ 1000 := by omega
  have HL := hid hlen
  have HJ := hid (show er (mayR r) = 0 by rw [hm]; rfl)
  have xa := boxR_new w r A n c 40
  have hb := below1 w (.cells (#[.int .u8 r.kd, .int .i64 r.us, .int .u8 r.op.kd, .int .u8 r.op.l, .int .u32 r.op.c, .int .u8 r.op.k, .int .i64 r.op.s, .int .u8 r.op.fl, .int .u32 r.op.fc, .int .u8 r.op.fk, .int .i64 r.op.fn, .int .i64 r.op.fm, .int .u8 r.op.al, .int .u32 r.op.ac, .int .u8 r.op.ak, .int .i64 r.op.an, .int .u8 r.op.tl, .int .u32 r.op.tc, .slice A n c, .int .i64 r.co, .int .i64 r.gr.u, .int .u8 r.gr.l, .int .u32 r.gr.c, .bool r.gr.ok]) 40)
  have HR := hid hr
  clear hq hlen h296 hr hv
  refine (callsIn_wide (n := 6)).1 ?_
  refine callsIn_of_wp_marks Tryz.func19 rfl trivial ?_ rfl
  refine wpIn_wide.2 ?_
  simp only [Tryz.ntmps19, List.size_toArray, List.length_cons, List.length_nil, Nat.reduceAdd, Nat.reduceSub, Array.replicate_succ, Array.replicate_zero, List.push_toArray, List.append_toArray, List.nil_append, List.cons_append]
  go_wp2_with (refine wpList_load_r rfl (.tmp 1) rfl w.heap.size rfl xa ?_)
  refine (rec_check_of 0 r A n c hn hmr HJ _ (HR.out.keep hb)).mono ?_
  rintro e w1 ⟨rfl, b1⟩
  have xa1 := xa.keep b1
  have hb1 := below_in hb b1
  clear xa hb b1
  have one : True := trivial
  go_wp2_with (clear one; refine wpList_load_r rfl (.tmp 1) rfl w.heap.size rfl (xa1.keep (below1 w1 _)) ?_)
  refine (pieces_of q r A n c hn hmr hm HT _ (HR.out.keep (below_in hb1 (below1 w1 _)))).mono ?_
  rintro e w2 ⟨s, t, A2, c2, rfl, h1, h2, h3, hS, hN, hr2, b2⟩
  have hG : Boxed w2 w1.heap.size 3 (.int .i64 0) := (Below.block b2 w1.heap.size (by simp)).trans (Boxed.new w1 3 (.int .i64 0))
  rw [size1] at h1
  have hb2 := below_in hb1 (below_in (below1 w1 _) b2)
  clear b2 xa1
  go_wp2_with fail
  generalize (.agg #[.int .u8 r.kd, .int .i64 r.us, .int .u8 r.op.kd, .int .u8 r.op.l, .int .u32 r.op.c, .int .u8 r.op.k, .int .i64 r.op.s, .int .u8 r.op.fl, .int .u32 r.op.fc, .int .u8 r.op.fk, .int .i64 r.op.fn, .int .i64 r.op.fm, .int .u8 r.op.al, .int .u32 r.op.ac, .int .u8 r.op.ak, .int .i64 r.op.an, .int .u8 r.op.tl, .int .u32 r.op.tc, .slice A n c, .int .i64 r.co, .int .i64 r.gr.u, .int .u8 r.gr.l, .int .u32 r.gr.c, .bool r.gr.ok] : Value) = vr
  obtain ⟨b, o, hA⟩ : ∃ b o, A2 = some ⟨b, o, none⟩ := by
    obtain ⟨b, o, h, _⟩ := hr2.at_ (by rw [HL.out]; omega)
    exact ⟨b, o, h⟩
  have hc1 : ((1 + q : Nat) : Int) ≤ c2 := by have := hr2.len; have := HL.out; omega
  have hc2 : (c2 : Int) ≤ 9223372036854775807 := by have := hr2.cap; omega
  have hz := hb1.size
  have hgt : w1.heap.size ≠ s ∧ w1.heap.size ≠ t := by omega
  refine (wpIn_wide (n := 6)).1 ?_
  refine wpIn_rangeFunc_ownG (F := Fence.wide) rfl (by omega) (gf := 84) (lb := #[.pointer (some ⟨s, 0, none⟩), .pointer (some ⟨t, 0, none⟩)]) rfl trivial (enters_of Tryz.func84 (by kernel_rfl) rfl)
    (chunk9_stops (6 - 1) (by omega) s t w.heap.size b o m (1 + q) c2 A2 (fun _ => hA) hm64 HM hq2 hc1 hc2 _ hS hN) Kc.t
    (fun W k o o' hk hko h1' h2' => ⟨belowK_b (w := w2) hb2.size W k o o' hk hko h1' h2', World.putObj_heap_other (by omega), World.putObj_heap_other (by omega)⟩)
    (Below.refl _ _) (fun _ => rfl)
    (fun (pre : List (Fin m)) W => ((Boxed W w1.heap.size 3 (.int .i64 (pre.length : Int)) ∧ Boxed W s 51 (.slice A2 (1 + q) c2)) ∧ Boxed W t 3 (.int .i64 119)) ∧ Below w.heap.size w W)
    (fun _ _ _ => False)
    (OwnFrom.and (OwnFrom.and (OwnFrom.and (Go.Own.from (boxed_own w1.heap.size 3 (fun pre : List (Fin m) => .int .i64 (pre.length : Int))) _) (Go.Own.from (boxed_own _ _ _) _)) (Go.Own.from (boxed_own _ _ _) _)) (ownFrom_below (Nat.le_refl _) hb2.size))
    (fun _ _ _ _ _ hs _ _ => hs)
    ⟨⟨⟨hG, hS⟩, hN⟩, hb2⟩
    (fun x => { tmps := #[vr, .pointer (some ⟨w.heap.size, 0, none⟩), .int .i64 0, .int .i64 0, .int .i64 0, .pointer (some ⟨w1.heap.size, 0, none⟩), vr, .int .i64 0, .int .i64 0, .bool false, undef, vr, .func (.func 84) #[] #[.pointer (some ⟨s, 0, none⟩), .pointer (some ⟨t, 0, none⟩)], .slice (some ⟨b, o + 119 * x.1, none⟩) (pl (1 + q) x.1) (pl (1 + q) x.1), undef, undef, undef], defers := [] }) ?assign ?body ?done ?stop
  case assign =>
    intro k x W K hK
    gi_wp2
    simpa [encP] using hK
  case body =>
    rintro k pre x W ⟨⟨⟨hv, hS'⟩, hN'⟩, hB⟩ hlt
    have hc := hv.cell
    have hf := hv.frozen
    gi_wp2
    have hv2 := hv.set (.int .i64 ((pre.length : Int) + 1))
    have e1 : (((pre ++ [x]).length : Nat) : Int) = (pre.length : Int) + 1 := by simp
    rw [← e1] at hv2 ⊢
    exact ⟨(KeepsOthers.setCell W _ _).from _, ⟨(Below.refl _ W).setCell (p := ⟨w1.heap.size, 0, none⟩) hz _, (hS'.other (Ne.symm hgt.1) _).trans hS'.symm, (hN'.other (Ne.symm hgt.2) _).trans hN'.symm⟩, ⟨⟨hv2, hS'.other (Ne.symm hgt.1) _⟩, hN'.other (Ne.symm hgt.2) _⟩, hB.setCell (p := ⟨w1.heap.size, 0, none⟩) hz _⟩
  case done =>
    rintro D ys W hD rfl ⟨⟨⟨hv, hS'⟩, hN'⟩, hB⟩ hK
    have hc := hv.cell
    rw [firsts_length (Nat.le_refl m)] at hc
    have hD2 : w.heap.size ≤ D := Nat.le_trans hb2.size hD
    have hBD : Below w.heap.size w (W.putObj D (.deferred none)) := hB.trans ((Below.refl _ W).grown (grownBy_putObj' W D _) hB.size (fun j e => by cases e; exact hD2))
    clear hv hS' hN' hS hN hG hr2
    go_wp2
    refine ⟨by simp, .inl ⟨_, _, rfl, run_takeDeferred hK, ?_⟩⟩
    exact ⟨_, results_tmp2 (t := 2) (u := 3) rfl _ _ _, rfl, hBD⟩
  case stop =>
    rintro D k pre W _ _ h _
    exact h.elim

set_option maxRecDepth 100000 in
set_option maxHeartbeats 1600000 in
theorem rec_count_of (v j : Int) (r : Rec) (A : Option Addr) (n c : Nat) (hn : Hid (r.op.row.length = n)) (hmr : Recr r) (hv : Hid ((if mayR r = true then (nbl (rcb r) : Int) else 0) = v ∧ er (mayR r) = j)) (w : World) (hr : Ri w A c r.op.row) :
    Calls Tryz.prog 19 #[.agg #[.int .u8 r.kd, .int .i64 r.us, .int .u8 r.op.kd, .int .u8 r.op.l, .int .u32 r.op.c, .int .u8 r.op.k, .int .i64 r.op.s, .int .u8 r.op.fl, .int .u32 r.op.fc, .int .u8 r.op.fk, .int .i64 r.op.fn, .int .i64 r.op.fm, .int .u8 r.op.al, .int .u32 r.op.ac, .int .u8 r.op.ak, .int .i64 r.op.an, .int .u8 r.op.tl, .int .u32 r.op.tc, .slice A n c, .int .i64 r.co, .int .i64 r.gr.u, .int .u8 r.gr.l, .int .u32 r.gr.c, .bool r.gr.ok]] w fun e w' => e = .returned (.tuple #[.int .i64 v, .int .i64 j]) ∧ Below w.heap.size w w' := by
  obtain ⟨h1, h2⟩ := hv.out
  by_cases hm : mayR r = true
  · rw [if_pos hm] at h1
    rw [hm] at h2
    subst h1 h2
    exact rec_count_yes (nbl (rcb r)) r A n c hn hmr hm (hid rfl) w hr
  · rw [if_neg hm] at h1
    have hm' : mayR r = false := by simpa using hm
    rw [hm'] at h2
    subst h1 h2
    have HJ := hid (show er (mayR r) = 8 by rw [hm']; rfl)
    have xa := boxR_new w r A n c 40
    have hb := below1 w (.cells (#[.int .u8 r.kd, .int .i64 r.us, .int .u8 r.op.kd, .int .u8 r.op.l, .int .u32 r.op.c, .int .u8 r.op.k, .int .i64 r.op.s, .int .u8 r.op.fl, .int .u32 r.op.fc, .int .u8 r.op.fk, .int .i64 r.op.fn, .int .i64 r.op.fm, .int .u8 r.op.al, .int .u32 r.op.ac, .int .u8 r.op.ak, .int .i64 r.op.an, .int .u8 r.op.tl, .int .u32 r.op.tc, .slice A n c, .int .i64 r.co, .int .i64 r.gr.u, .int .u8 r.gr.l, .int .u32 r.gr.c, .bool r.gr.ok]) 40)
    clear hm hm' hv
    go_enter Tryz.func19, Tryz.ntmps19
    go_wp2_with (refine wpList_load_r rfl (.tmp 1) rfl w.heap.size rfl xa ?_)
    refine (rec_check_of 8 r A n c hn hmr HJ _ (hr.keep hb)).mono ?_
    rintro e w1 ⟨rfl, b1⟩
    have hb1 := below_in hb b1
    clear xa hb b1
    go_wp2
    go_ret2
    exact ⟨rfl, hb1⟩
end Go.Proofs.YtndmblhkmgnpcaaGreat

namespace Go.Proofs.YtndmblhkmgnpcaaGreat
open Go.RowKit
set_option linter.unusedVariables false
set_option linter.unusedSimpArgs false

theorem row_cells (w : World) (vs : Array Value) (t : TypeId) (W : World) (hW : w.alloc (.cells vs t) = W) : ∀ (j : Nat) (v : Value), vs[j]? = some v → W.cell? ⟨w.heap.size, j, none⟩ = some v := fun j v hv => by
  subst hW
  rw [cell_of_row _ _ j _ _ (0, 0) (heap_alloc_last w _)]
  exact hv
set_option maxHeartbeats 800000 in
theorem concat3 (l0 l1 l2 L : List UInt8) (n0 n1 n2 k : Nat) (hl : Hid ((l0.length = n0 ∧ l1.length = n1 ∧ l2.length = n2) ∧ l0 ++ (l1 ++ l2) = L ∧ L.length = k)) (hk0 : 0 < k) (h5 : k ≤ 1000) (a0 a1 a2 : Option Addr) (d0 d1 d2 : Nat) (w : World) (g : Nat) (hg : w.heap.size = g) (h0 : Rd w a0 d0 l0) (h1 : Rd w a1 d1 l1) (h2 : Rd w a2 d2 l2) :
    Calls Tryz.prog 58 #[.slice (some ⟨g, 0, none⟩) 3 3] (w.alloc (.cells #[.slice a0 n0 d0, .slice a1 n1 d1, .slice a2 n2 d2] 51)) fun e w' => ∃ A c, e = .returned (.slice A k c) ∧ Own w' w.heap.size 5 A c L ∧ Below (w.alloc (.cells #[.slice a0 n0 d0, .slice a1 n1 d1, .slice a2 n2 d2] 51)).heap.size (w.alloc (.cells #[.slice a0 n0 d0, .slice a1 n1 d1, .slice a2 n2 d2] 51)) w' := by
  subst hg
  obtain ⟨⟨rfl, rfl, rfl⟩, hL, hk⟩ := hl.out
  generalize hW : w.alloc _ = W
  have hc := row_cells w _ _ W hW
  have hb : Below w.heap.size w W := by subst hW; exact (Below.refl _ _).alloc (Nat.le_refl _) _
  have hp : Parts W w.heap.size [l0, l1, l2] := by
    intro j hj
    match j, hj with
    | 0, _ => exact ⟨a0, d0, hc 0 _ rfl, h0.keep hb⟩
    | 1, _ => exact ⟨a1, d1, hc 1 _ rfl, h1.keep hb⟩
    | 2, _ => exact ⟨a2, d2, hc 2 _ rfl, h2.keep hb⟩
    | j + 3, h => exact absurd h (by simp)
  refine (concat_of w.heap.size 3 k _ L (hid rfl) (hid ⟨by rw [← hL]; simp, hk⟩) hk0 h5 (by omega) W hp).mono ?_
  rintro e w' ⟨A, c, rfl, h, b⟩
  exact ⟨A, c, rfl, h.mono hb.size, b⟩
set_option maxHeartbeats 800000 in
theorem concat4 (l0 l1 l2 l3 L : List UInt8) (n0 n1 n2 n3 k : Nat) (hl : Hid ((l0.length = n0 ∧ l1.length = n1 ∧ l2.length = n2 ∧ l3.length = n3) ∧ l0 ++ (l1 ++ (l2 ++ l3)) = L ∧ L.length = k)) (hk0 : 0 < k) (h5 : k ≤ 1000) (a0 a1 a2 a3 : Option Addr) (d0 d1 d2 d3 : Nat) (w : World) (g : Nat) (hg : w.heap.size = g) (h0 : Rd w a0 d0 l0) (h1 : Rd w a1 d1 l1) (h2 : Rd w a2 d2 l2) (h3 : Rd w a3 d3 l3) :
    Calls Tryz.prog 58 #[.slice (some ⟨g, 0, none⟩) 4 4] (w.alloc (.cells #[.slice a0 n0 d0, .slice a1 n1 d1, .slice a2 n2 d2, .slice a3 n3 d3] 51)) fun e w' => ∃ A c, e = .returned (.slice A k c) ∧ Own w' w.heap.size 5 A c L ∧ Below (w.alloc (.cells #[.slice a0 n0 d0, .slice a1 n1 d1, .slice a2 n2 d2, .slice a3 n3 d3] 51)).heap.size (w.alloc (.cells #[.slice a0 n0 d0, .slice a1 n1 d1, .slice a2 n2 d2, .slice a3 n3 d3] 51)) w' := by
  subst hg
  obtain ⟨⟨rfl, rfl, rfl, rfl⟩, hL, hk⟩ := hl.out
  generalize hW : w.alloc _ = W
  have hc := row_cells w _ _ W hW
  have hb : Below w.heap.size w W := by subst hW; exact (Below.refl _ _).alloc (Nat.le_refl _) _
  have hp : Parts W w.heap.size [l0, l1, l2, l3] := by
    intro j hj
    match j, hj with
    | 0, _ => exact ⟨a0, d0, hc 0 _ rfl, h0.keep hb⟩
    | 1, _ => exact ⟨a1, d1, hc 1 _ rfl, h1.keep hb⟩
    | 2, _ => exact ⟨a2, d2, hc 2 _ rfl, h2.keep hb⟩
    | 3, _ => exact ⟨a3, d3, hc 3 _ rfl, h3.keep hb⟩
    | j + 4, h => exact absurd h (by simp)
  refine (concat_of w.heap.size 4 k _ L (hid rfl) (hid ⟨by rw [← hL]; simp, hk⟩) hk0 h5 (by omega) W hp).mono ?_
  rintro e w' ⟨A, c, rfl, h, b⟩
  exact ⟨A, c, rfl, h.mono hb.size, b⟩

set_option maxRecDepth 100000 in
set_option maxHeartbeats 3200000 in
theorem hbytes_of (s n i f : Int) (hh : mayHd s n i f = true) (w : World) :
    Calls Tryz.prog 59 #[.agg #[.int .i64 s, .int .i64 n, .int .i64 i, .int .i64 f]] w (RetOw w (hdb s n i f) 9) := by
  obtain ⟨⟨s0, s1⟩, ⟨n0, n1⟩, ⟨f0, f1⟩, i0, i1⟩ := mayHd_iff.1 hh
  have bx := boxD_new w s n i f 42
  have hb := below1 w (.cells (#[.int .i64 s, .int .i64 n, .int .i64 i, .int .i64 f]) 42)
  have D4 := fun X => rdig_of 4 4 s (by omega) (by omega) rfl (by omega) X
  have D3 := fun X => rdig_of 3 3 n (by omega) (by omega) rfl (by omega) X
  have D1 := fun X => rdig_of 1 1 i (by omega) (by omega) rfl (by omega) X
  have D0 := fun X => rdig_of 1 1 f (by omega) (by omega) rfl (by omega) X
  have HC := hid (show ((nB 4 s).length = 4 ∧ (nB 3 n).length = 3 ∧ (nB 1 i).length = 1 ∧ (nB 1 f).length = 1) ∧ nB 4 s ++ (nB 3 n ++ (nB 1 i ++ nB 1 f)) = hdb s n i f ∧ (hdb s n i f).length = 9 from ⟨⟨nB_length _ _, nB_length _ _, nB_length _ _, nB_length _ _⟩, rfl, hdb_length _ _ _ _⟩)
  clear hh s0 s1 n0 n1 f0 f1 i0 i1
  go_enter Tryz.func59, Tryz.ntmps59
  go_wp2_with fail
  generalize World.alloc w _ = W at bx hb ⊢
  have q0 : ∀ w', Below W.heap.size W w' → w'.cell? ⟨w.heap.size, 0, none⟩ = some (.int .i64 s) := fun w' h => bx.keep h 0 _ rfl
  have q1 : ∀ w', Below W.heap.size W w' → w'.cell? ⟨w.heap.size, 1, none⟩ = some (.int .i64 n) := fun w' h => bx.keep h 1 _ rfl
  have q2 : ∀ w', Below W.heap.size W w' → w'.cell? ⟨w.heap.size, 2, none⟩ = some (.int .i64 i) := fun w' h => bx.keep h 2 _ rfl
  have q3 : ∀ w', Below W.heap.size W w' → w'.cell? ⟨w.heap.size, 3, none⟩ = some (.int .i64 f) := fun w' h => bx.keep h 3 _ rfl
  have S0 : Below W.heap.size W W.drew := (Below.refl _ _).drew
  clear bx
  go_region_held (fun w' => Below W.heap.size W w') (with_reducible (first | assumption | exact S0 | exact Below.alloc (by assumption) (Below.size (by assumption)) _))
    (first
      | (go_at_call 81; (with_reducible refine (D4 _).mono ?_); rintro e w2 ⟨A2, rfl, ho2, hb2⟩; have c2 := below_in (w := W) S0 hb2; replace ho2 := ho2.rd)
      | (go_at_call 81; (with_reducible refine (D3 _).mono ?_); rintro e w3 ⟨A3, rfl, ho3, hb3⟩; have c3 := below_in (w := W) c2 hb3; replace ho3 := ho3.rd; replace ho2 := ho2.keep hb3)
      | (go_at_call 81; (with_reducible refine (D1 _).mono ?_); rintro e w4 ⟨A4, rfl, ho4, hb4⟩; have c4 := below_in (w := W) c3 hb4; replace ho4 := ho4.rd; replace ho2 := ho2.keep hb4; replace ho3 := ho3.keep hb4; clear D1)
      | (go_at_call 81; (with_reducible refine (D0 _).mono ?_); rintro e w5 ⟨A5, rfl, ho5, hb5⟩; have c5 := below_in (w := W) c4 hb5; replace ho5 := ho5.rd; replace ho2 := ho2.keep hb5; replace ho3 := ho3.keep hb5; replace ho4 := ho4.keep hb5)
      | (go_at_call 58; (with_reducible refine (concat4 _ _ _ _ _ _ _ _ _ _ HC (by omega) (by omega) _ _ _ _ _ _ _ _ _ _ (by simp) ho2 ho3 ho4 ho5).mono ?_); rintro e w9 ⟨A9, c9, rfl, ho9, b9⟩; have c9 := below_in (w := W) (below_al c5 _) b9))
  all_goals
    have hB := below_in hb c9
    have ho := ho9.mono (Nat.le_trans hb.size c5.size)
    clear q0 q1 q2 q3 S0 D4 D3 D0 ho2 ho3 ho4 ho5 b9 ho9
    go_wp2
    go_ret
    exact ⟨A9, _, rfl, ho, hB⟩

theorem zeros_ownk (w : World) (base k : Nat) (hb : base ≤ w.heap.size) (hk : k ≤ 1000) : Own (w.alloc (.cells (madeCells #[Value.int .u8 0] k) 5)) base 5 (some ⟨w.heap.size, 0, none⟩) k (List.replicate k 0) := by
  have e : madeCells #[Value.int .u8 0] k = (u8s (List.replicate k 0)).toArray := by
    apply Array.ext'
    rw [toList_madeCells_one]
    simp [u8s]
  rw [e]
  have h := Own.lit (base := base) w 5 (List.replicate k 0) hb (by simp; exact hk)
  rw [List.length_replicate] at h
  exact h

set_option maxRecDepth 100000 in
set_option maxHeartbeats 3200000 in
theorem block_of (s n i f : Int) (hh : mayHd s n i f = true) (X : Option Addr) (k d : Nat) (x : List UInt8) (hk : Hid (x.length = k)) (h9 : k ≤ 119) (w : World) (hx : Rd w X d x) :
    Calls Tryz.prog 37 #[.agg #[.int .i64 s, .int .i64 n, .int .i64 i, .int .i64 f], .slice X k d] w (RetOw w (hdb s n i f ++ pad x) 128) := by
  obtain ⟨i0, hi0, hz0, hz1, hz2⟩ := info_parts info_u8
  obtain ⟨u, hu⟩ : ∃ u : Nat, 119 - k = u := ⟨_, rfl⟩
  have hui : (119 : Int) - (k : Int) = (u : Int) := by omega
  have u9 : u ≤ 119 := by omega
  have hwu : IntKind.i64.wrap (u : Int) = (u : Int) := by rw [IntKind.wrap_i64]; omega
  have hmk := fun W : World => run_make (P := Tryz.prog) W 51 5 i0 _ Tryz.underlying51 hi0 hz0 .i64 .i64 (u : Int) (u : Int) (by omega) (by omega) (by rw [hz2]; omega) (by omega)
  have bx := boxD_new w s n i f 42
  have hb := below1 w (.cells (#[.int .i64 s, .int .i64 n, .int .i64 i, .int .i64 f]) 42)
  have HC := hid (show ((hdb s n i f).length = 9 ∧ x.length = k ∧ (List.replicate u (0 : UInt8)).length = u) ∧ hdb s n i f ++ (x ++ List.replicate u 0) = hdb s n i f ++ pad x ∧ (hdb s n i f ++ pad x).length = 128 by
    have e : pad x = x ++ List.replicate u 0 := by rw [pad, hk.out, hu]
    refine ⟨⟨hdb_length _ _ _ _, hk.out, List.length_replicate⟩, by rw [e], ?_⟩
    rw [e, List.length_append, List.length_append, hdb_length, hk.out, List.length_replicate]; omega)
  have HX := hid hx
  have HB := fun X => hbytes_of s n i f hh X
  clear hx hk hu
  go_enter Tryz.func37, Tryz.ntmps37
  go_wp2_with fail
  generalize World.alloc w _ = W at bx hb ⊢
  have q0 : ∀ w', Below W.heap.size W w' → w'.cell? ⟨w.heap.size, 0, none⟩ = some (.int .i64 s) := fun w' h => bx.keep h 0 _ rfl
  have q1 : ∀ w', Below W.heap.size W w' → w'.cell? ⟨w.heap.size, 1, none⟩ = some (.int .i64 n) := fun w' h => bx.keep h 1 _ rfl
  have q2 : ∀ w', Below W.heap.size W w' → w'.cell? ⟨w.heap.size, 2, none⟩ = some (.int .i64 i) := fun w' h => bx.keep h 2 _ rfl
  have q3 : ∀ w', Below W.heap.size W w' → w'.cell? ⟨w.heap.size, 3, none⟩ = some (.int .i64 f) := fun w' h => bx.keep h 3 _ rfl
  have S0 : Below W.heap.size W W.drew := (Below.refl _ _).drew
  have S1 : ∀ o, Below W.heap.size W (W.alloc o).drew := fun o => ((Below.refl _ W).alloc (Nat.le_refl _) o).drew
  have Z0 : Rd (W.alloc (.cells (madeCells #[Value.int .u8 0] u) 5)).drew (some ⟨W.heap.size, 0, none⟩) u (List.replicate u 0) := (zeros_ownk W W.heap.size u (Nat.le_refl _) (by omega)).rd
  have HX1 := hid (fun V (h : Below W.heap.size W V) => HX.out.keep (below_in hb h))
  clear bx
  go_region_held (fun w' => Below W.heap.size W w') (with_reducible (first | assumption | exact S0 | exact S1 _ | exact Below.alloc (by assumption) (Below.size (by assumption)) _))
    (first
      | (go_at_call 59; (with_reducible refine (HB _).mono ?_); rintro e w2 ⟨A2, c2, rfl, ho2, hb2⟩; have s2 := below_in (w := W) (by with_reducible first | exact S0 | exact S1 _) hb2; replace ho2 := ho2.rd)
      | (go_at_call 58; have z := (zeros_ownk w2 W.heap.size u s2.size (by omega)).rd; have s3 : Below W.heap.size W (w2.alloc (.cells (madeCells #[Value.int .u8 0] u) 5)) := below_al s2 _; (with_reducible refine (concat3 _ _ _ _ _ _ _ _ HC (by omega) (by omega) _ _ _ _ _ _ _ _ (by simp) (ho2.alloc _) (HX1.out _ s3) z).mono ?_); rintro e w9 ⟨A9, c9, rfl, ho9, b9⟩; have s9 := below_in (w := W) (below_al s3 _) b9; have ho := ho9.mono (Nat.le_trans hb.size s3.size); clear z s3 b9 ho9)
      | (go_at_call 58; have z := Z0.keep hb2; have s3 := s2; (with_reducible refine (concat3 _ _ _ _ _ _ _ _ HC (by omega) (by omega) _ _ _ _ _ _ _ _ (by simp) ho2 (HX1.out _ s3) z).mono ?_); rintro e w9 ⟨A9, c9, rfl, ho9, b9⟩; have s9 := below_in (w := W) (below_al s3 _) b9; have ho := ho9.mono (Nat.le_trans hb.size s3.size); clear z s3 b9 ho9))
  all_goals
    have hB := below_in hb s9
    clear q0 q1 q2 q3 S0 S1 Z0 HX1 ho2 s9
    go_wp2
    go_ret
    exact ⟨A9, _, rfl, ho, hB⟩
end Go.Proofs.YtndmblhkmgnpcaaGreat

namespace Go.Proofs.YtndmblhkmgnpcaaGreat
open Go.RowKit Go.Shelf
set_option linter.unusedVariables false
set_option linter.unusedSimpArgs false

theorem own_other {W W' : World} {b : Nat} (hh : ∀ k, k ≠ b → W'.heap[k]? = W.heap[k]?) {base : Nat} (hb : b < base) {e : TypeId} {s k : Nat} {v : Value} {xs : List Value} (h : W.ownsRow base e s v k xs) : W'.ownsRow base e s v k xs := by
  obtain ⟨h0, h1⟩ := h
  refine ⟨h0, ?_⟩
  rcases h1 with h | ⟨g, cap, cur, hv, hbg, hg, r⟩
  · exact .inl h
  · exact .inr ⟨g, cap, cur, hv, hbg, by rw [hh g (by omega)]; exact hg, r⟩
theorem OwB.other {W W' : World} {b : Nat} (hh : ∀ k, k ≠ b → W'.heap[k]? = W.heap[k]?) {base : Nat} (hb : b < base) {A : Option Addr} {c : Nat} {L : List (List UInt8)} (h : OwB W base A c L) : OwB W' base A c L := by
  obtain ⟨xs, h1, h2, h3⟩ := h
  exact ⟨xs, h1, own_other hh hb h2, fun x hx => own_other hh hb (h3 x hx)⟩
theorem own_grown {W W' : World} {row : Option Nat} (hg : W.grownBy W' row) (hr : ∀ r, row = some r → ∃ o : Obj, W.heap[r]? = some o ∧ o.isCells = false) {base : Nat} {e : TypeId} {s k : Nat} {v : Value} {xs : List Value} (h : W.ownsRow base e s v k xs) : W'.ownsRow base e s v k xs := by
  refine h.kept hg ?_
  rcases h.2 with ⟨rfl, _⟩ | ⟨g, cap, cur, rfl, _, hgb, _⟩
  · exact .inl rfl
  · refine .inr fun e' => ?_
    obtain ⟨o, ho, hc⟩ := hr g (by simpa [Value.ownBlock] using e'.symm)
    rw [hgb] at ho; cases ho; cases hc
theorem OwB.grow {W W' : World} {row : Option Nat} (hg : W.grownBy W' row) (hr : ∀ r, row = some r → ∃ o : Obj, W.heap[r]? = some o ∧ o.isCells = false) {base : Nat} {A : Option Addr} {c : Nat} {L : List (List UInt8)} (h : OwB W base A c L) : OwB W' base A c L := by
  obtain ⟨xs, h1, h2, h3⟩ := h
  exact ⟨xs, h1, own_grown hg hr h2, fun x hx => own_grown hg hr (h3 x hx)⟩
theorem keepsO_below {W W' : World} (h : Below W.heap.size W W') : KeepsOthers W W' := ⟨h.size, fun k o hk _ => (h.block k (Array.getElem?_eq_some_iff.1 hk).1).trans hk⟩

/-- append of one block onto such a slice, as a run equation. -/
theorem run_append_b {w1 : World} {base : Nat} {A : Option Addr} {c : Nat} {L : List (List UInt8)} (n : Nat) (hn : L.length = n) (hown : OwB w1 base A c L) {B : Option Addr} {m d : Nat} {y : List UInt8} (hm : y.length = m) (hrow : Own w1 base 5 B d y) (hlen : n + 1 ≤ 10000) (hbase : base ≤ w1.heap.size) :
    ∃ A' c' w', (Builtin.append_ #[45, 45] 45 #[.slice A n c, .slice (some ⟨w1.heap.size, 0, none⟩) 1 1]).run Tryz.prog (w1.alloc (.cells #[.slice B m d] 51)) = .ok (.slice A' (n + 1) c') w' ∧ OwB w' base A' c' (L ++ [y]) ∧ Below base w1 w' ∧ KeepsOthers w1 w' := by
  obtain ⟨xs, h1, h2, h3⟩ := hown
  obtain ⟨i0, hi0, hz0, hz1, hz2⟩ := info_parts info_Bs
  subst hn hm
  have hb0 : Below w1.heap.size w1 (w1.alloc (.cells #[.slice B y.length d] 51)) := (Below.refl _ _).alloc (Nat.le_refl _) _
  have hlit := (Owns.lit fb_len (by omega) w1 (base := base) 51 [⟨B, d, y⟩] hbase (by simp)).rd fb_len
  have h2' := h2.keep hb0
  have hl : L.length = xs.length := by rw [← h1, List.length_map]
  obtain ⟨A', c', w', hrun, k1, k2, k3⟩ := run_append_s (P := Tryz.prog) (ty := 45) fb_len (by omega) fb_one Tryz.underlying45 hi0 hz0 rfl hz1 hz2 (by omega) h2' hlit (by simp; omega) (by simp; omega)
  rw [← hl] at hrun k3
  refine ⟨A', c', w', hrun, ⟨xs ++ [⟨B, d, y⟩], by rw [List.map_append, h1]; rfl, k1, fun x hx => ?_⟩, (hb0.mono hbase).trans k2, ?_⟩
  · rw [hl] at k3
    rcases List.mem_append.1 hx with hx | hx
    · exact ((h3 x hx).keep hb0).grown h2' k3
    · obtain rfl := List.mem_singleton.1 hx
      exact (hrow.keep hb0).grown h2' k3
  · refine (KeepsOthers.alloc w1 _).trans (KeepsOthers.of_grownBy k3 fun j o ej hj => ?_)
    rw [hl] at ej
    rcases h2'.2 with ⟨hv, _⟩ | ⟨g, cap, cur, hv, _, hgb, _⟩
    · rw [hv] at ej; simp [Value.ownBlock] at ej
    · rw [hv] at ej
      obtain rfl : g = j := by simpa [Value.ownBlock] using ej
      rw [hgb] at hj; cases hj; rfl

/-- A piece reads. -/
theorem piece_rd {W : World} {b o : Nat} {l : List UInt8} (hc : ∀ j (h : j < l.length), W.cell? ⟨b, o + j, none⟩ = some (.int .u8 (l[j].toNat : Int))) (x : Nat) : (pcs l x).length = pl l.length x ∧ Rd W (some ⟨b, o + 119 * x, none⟩) (pl l.length x) (pcs l x) := by
  have hl : (pcs l x).length = pl l.length x := by rw [pcs, pl, List.length_take, List.length_drop, Nat.mul_comm]
  refine ⟨hl, Nat.le_of_eq hl, ?_, fun _ => ⟨b, o + 119 * x, rfl, fun j hj => ?_⟩⟩
  · unfold pl maxLen; omega
  · have hj2 : 119 * x + j < l.length := by rw [hl, pl] at hj; omega
    rw [Nat.add_assoc, hc (119 * x + j) hj2]
    simp [pcs, Nat.mul_comm]

/-- The blocks of so many pieces, whichever they are. -/
def blP (s t : Int) (m : Nat) (b : List UInt8) (pre : List (Fin m)) : List (List UInt8) := pre.mapIdx fun i x => hdb s t (i : Int) (m : Int) ++ pad (pcs b x.1)
theorem blP_snoc (s t : Int) (m : Nat) (b : List UInt8) (pre : List (Fin m)) (x : Fin m) : blP s t m b (pre ++ [x]) = blP s t m b pre ++ [hdb s t (pre.length : Int) (m : Int) ++ pad (pcs b x.1)] := by
  rw [blP, List.mapIdx_concat]; rfl
theorem blP_length (s t : Int) (m : Nat) (b : List UInt8) (pre : List (Fin m)) : (blP s t m b pre).length = pre.length := by simp [blP]
theorem blP_all (s t : Int) (m : Nat) (b : List UInt8) (hm : nbl b = m) : blP s t m b (firsts m m) = blks s t b := by
  subst hm
  apply List.ext_getElem
  · rw [blP_length, firsts_length (Nat.le_refl _), blks_length]
  · intro i h1 h2
    rw [blks_get]
    simp [blP, firsts, blk]

structure PutJ (w w2 : World) (gl gh : Nat) (s t : Int) (m : Nat) (b : List UInt8) (pre : List (Fin m)) (W : World) : Prop where
  be : Below w.heap.size w W
  fr : ∀ j, j < w2.heap.size → j ≠ gl → j ≠ gh → W.heap[j]? = w2.heap[j]?
  sz : w2.heap.size ≤ W.heap.size
  ow : ∃ A c, Boxed W gl 45 (.slice A pre.length c) ∧ OwB W w2.heap.size A c (blP s t m b pre)
  hd : W.heap[gh]? = some (.cells #[.int .i64 s, .int .i64 t, .int .i64 (pre.length : Int), .int .i64 (m : Int)] 42 (0, 0))
theorem putJ_own {w w2 : World} {gl gh : Nat} {s t : Int} {m : Nat} {b : List UInt8} (hw : w.heap.size ≤ w2.heap.size) (hl : gl < w2.heap.size) (hh : gh < w2.heap.size) : OwnFrom w2.heap.size (PutJ w w2 gl gh s t m b) := by
  intro pre W W' row h hg hr
  have hne : ∀ j, j < w2.heap.size → W'.heap[j]? = W.heap[j]? := fun j hj => hg.block j (Nat.lt_of_lt_of_le hj h.sz) (fun e => by have := (hr j e.symm).1; omega)
  obtain ⟨A, c, h1, h2⟩ := h.ow
  exact ⟨h.be.grown hg (Nat.le_trans hw h.sz) (fun k e => Nat.le_trans hw (hr k e).1), fun j h1 h2 h3 => (hne j h1).trans (h.fr j h1 h2 h3), Nat.le_trans h.sz hg.size, ⟨A, c, (hne gl hl).trans h1, h2.grow hg (fun r e => (hr r e).2)⟩, (hne gh hh).trans h.hd⟩
theorem set_at2 {W : World} {B : Nat} {t : TypeId} {v0 v1 v2 v3 : Value} (v : Value) (h : W.heap[B]? = some (.cells #[v0, v1, v2, v3] t (0, 0))) : (W.setCell ⟨B, 2, none⟩ v).heap[B]? = some (.cells #[v0, v1, v, v3] t (0, 0)) := by
  obtain ⟨hlt, hk⟩ := Array.getElem?_eq_some_iff.1 h
  show (W.heap.modify B _)[B]? = _
  rw [Array.getElem?_eq_getElem (by rw [Array.size_modify]; exact hlt), Array.getElem_modify_self, hk]
  rfl
theorem cell_at4 {W : World} {B : Nat} {t : TypeId} {v0 v1 v2 v3 : Value} (h : W.heap[B]? = some (.cells #[v0, v1, v2, v3] t (0, 0))) : W.cell? ⟨B, 0, none⟩ = some v0 ∧ W.cell? ⟨B, 1, none⟩ = some v1 ∧ W.cell? ⟨B, 2, none⟩ = some v2 ∧ W.cell? ⟨B, 3, none⟩ = some v3 ∧ W.frozen? ⟨B, 2, none⟩ = false := by
  refine ⟨?_, ?_, ?_, ?_, ?_⟩
  · simp [World.cell?, h]
  · simp [World.cell?, h]
  · simp [World.cell?, h]
  · simp [World.cell?, h]
  · simp [World.frozen?, h]
/-- What a round leaves. -/
theorem putJ_step {w w2 W w3 w5 : World} {gl gh : Nat} {s t : Int} {m : Nat} {b : List UInt8} {pre : List (Fin m)} {x : Fin m} {A5 : Option Addr} {c5 : Nat} (J : PutJ w w2 gl gh s t m b pre W) (hw : w.heap.size ≤ gh) (hgh : gh < gl) (hl : gl < w2.heap.size)
    (b3 : Below W.heap.size W w3) (ho : OwB w5 w2.heap.size A5 c5 (blP s t m b (pre ++ [x]))) (b5 : Below w2.heap.size w3 w5) (k5 : KeepsOthers w3 w5) :
    let V := (w5.setCell ⟨gl, 0, none⟩ (.slice A5 (pre.length + 1) c5)).setCell ⟨gh, 2, none⟩ (.int .i64 ((pre.length : Int) + 1))
    KeepsOthers W V ∧ Below w.heap.size W V ∧ (∀ j, j < w2.heap.size → j ≠ gl → j ≠ gh → V.heap[j]? = W.heap[j]?) ∧ PutJ w w2 gl gh s t m b (pre ++ [x]) V := by
  intro V
  obtain ⟨A, c, h1, _⟩ := J.ow
  have hz := J.sz
  have e35 : ∀ j, j < w2.heap.size → w5.heap[j]? = W.heap[j]? := fun j hj => (b5.block j hj).trans (b3.block j (by omega))
  have hV : ∀ j, j ≠ gl → j ≠ gh → V.heap[j]? = w5.heap[j]? := fun j h1 h2 => (Below.heap_setCell _ _ _ _ h2).trans (Below.heap_setCell _ _ _ _ h1)
  have hfr : ∀ j, j < w2.heap.size → j ≠ gl → j ≠ gh → V.heap[j]? = W.heap[j]? := fun j h1 h2 h3 => (hV j h2 h3).trans (e35 j h1)
  have hbx : Boxed w5 gl 45 (.slice A pre.length c) := (e35 gl hl).trans h1
  have hhd := (e35 gh (by omega)).trans J.hd
  have hk : KeepsOthers W V := ((keepsO_below b3).trans k5).trans ((KeepsOthers.setCell _ _ _).trans (KeepsOthers.setCell _ _ _))
  have hbW : Below w.heap.size W V := (((b3.mono (Nat.le_trans (by omega) hz)).trans (b5.mono (by omega))).setCell (p := ⟨gl, 0, none⟩) (by show w.heap.size ≤ gl; omega) _).setCell (p := ⟨gh, 2, none⟩) hw _
  have e1 : (pre ++ [x]).length = pre.length + 1 := by simp
  refine ⟨hk, hbW, hfr, J.be.trans hbW, fun j h1 h2 h3 => (hfr j h1 h2 h3).trans (J.fr j h1 h2 h3), Nat.le_trans hz hk.size, ⟨A5, c5, ?_, ?_⟩, ?_⟩
  · rw [e1]
    exact (Below.heap_setCell _ _ _ _ (by show gl ≠ gh; omega)).trans (hbx.set _)
  · exact (ho.other (b := gl) (fun k hk => Below.heap_setCell _ _ _ _ hk) hl).other (b := gh) (fun k hk => Below.heap_setCell _ _ _ _ hk) (by omega)
  · rw [e1, Int.natCast_add]
    exact set_at2 _ ((Below.heap_setCell _ _ _ _ (by show gh ≠ gl; omega)).trans hhd)
end Go.Proofs.YtndmblhkmgnpcaaGreat
