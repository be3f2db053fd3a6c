/-
  Layer 12's laws: alive.
-/
import Derived.Test.YtofnjdkfhboapaaDlA
import Derived.Deep.RegionWith
import Derived.Deep.CutRange
namespace Go.Proofs.Ytofnjdkfhboapaa
open Go.RowKit
set_option linter.unusedVariables false
set_option linter.unusedSimpArgs false

theorem may_nil {st lf : Int} {dd : Bool} (h0 : 0 ≤ st) (h1 : st < 2147483648) (h2 : -1 ≤ lf) (h3 : lf < 2147483648) (h4 : dd = true → lf = 0) : mayD ⟨[], st, lf, dd⟩ = true := by
  rw [mayD, show secsB (Dsk.mk [] st lf dd).se = true from (secs_iff []).2 ⟨fun s hs => (by cases hs), List.Pairwise.nil⟩, Bool.true_and, tailD]
  cases dd <;> simp_all
theorem may_one {a st lf : Int} {l : List UInt8} {dd : Bool} (ha : 0 ≤ a) (hb : a < 6146) (hl : l.length = 128) (h0 : 0 ≤ st) (h1 : st < 2147483648) (h2 : -1 ≤ lf) (h3 : lf < 2147483648) (h4 : dd = true → lf = 0) : mayD ⟨[⟨a, l⟩], st, lf, dd⟩ = true := by
  rw [mayD, show secsB (Dsk.mk [⟨a, l⟩] st lf dd).se = true from (secs_iff [⟨a, l⟩]).2 ⟨fun s hs => by obtain rfl := List.mem_singleton.1 hs; exact ⟨ha, hb, hl⟩, List.pairwise_singleton _ _⟩, Bool.true_and, tailD]
  cases dd <;> simp_all
def zN : Dsk := ⟨[], 0, -1, false⟩
def dA : Dsk := ⟨[⟨5, fullB 7⟩], 0, -1, false⟩
def sA : Dsk := ⟨[], 1, 1, false⟩
def sB : Dsk := ⟨[⟨0, fullB 1⟩], 1, 0, false⟩
def sC : Dsk := ⟨[⟨0, fullB 1⟩], 1, 0, true⟩
theorem zN_may : mayD zN = true := may_nil (by omega) (by omega) (by omega) (by omega) (by simp)
theorem sA_may : mayD sA = true := may_nil (by omega) (by omega) (by omega) (by omega) (by simp)
theorem dA_may : mayD dA = true := may_one (by omega) (by omega) (fullB_len _) (by omega) (by omega) (by omega) (by omega) (by simp)
theorem sB_may : mayD sB = true := may_one (by omega) (by omega) (fullB_len _) (by omega) (by omega) (by omega) (by omega) (by simp)
theorem sC_may : mayD sC = true := may_one (by omega) (by omega) (fullB_len _) (by omega) (by omega) (by omega) (by omega) (by simp)
theorem w_dA : writeE zN 5 (fullB 7) = 0 ∧ writeV zN 5 (fullB 7) = dA := by
  obtain ⟨h1, h2⟩ := write_ok zN_may (a := 5) (y := fullB 7) ⟨by omega, by omega, fullB_len _⟩
  exact ⟨h1, by rw [h2]; simp [writtenK, zN, dA, withS]⟩
theorem w_sA : startE zN 1 = 0 ∧ startV zN 1 = sA := by
  obtain ⟨h1, h2⟩ := start_ok zN_may (a := 1) ⟨by omega, by omega⟩ (by simp [zN])
  exact ⟨h1, by rw [h2]; simp [startedK, zN, sA]⟩
theorem w_sB : writeE sA 0 (fullB 1) = 0 ∧ writeV sA 0 (fullB 1) = sB := by
  obtain ⟨h1, h2⟩ := write_ok sA_may (a := 0) (y := fullB 1) ⟨by omega, by omega, fullB_len _⟩
  exact ⟨h1, by rw [h2]; simp [writtenK, sA, sB, withS]⟩
theorem w_sC : writeE sB 1 (fullB 2) = 0 ∧ writeV sB 1 (fullB 2) = sC := by
  obtain ⟨h1, h2⟩ := write_ok sB_may (a := 1) (y := fullB 2) ⟨by omega, by omega, fullB_len _⟩
  exact ⟨h1, by rw [h2]; simp [writtenK, sB, sC]⟩
theorem zeros_full : List.replicate 128 (0 : UInt8) = fullB 0 := rfl
theorem r_d5 : (decide (readE dA 5 = 0) && (readV dA 5 == fullB 7)) = true := by
  obtain ⟨h1, h2⟩ := read_ok dA_may (a := 5) (by omega)
  rw [h1, h2]; simp [atS, dA]
theorem r_d6 : (decide (readE dA 6 = 0) && (readV dA 6 == fullB 0)) = true := by
  obtain ⟨h1, h2⟩ := read_ok dA_may (a := 6) (by omega)
  rw [h1, h2]; simp [atS, dA, zeros_full]
theorem r_s0 : (decide (readE sC 0 = 0) && (readV sC 0 == fullB 1)) = true := by
  obtain ⟨h1, h2⟩ := read_ok sC_may (a := 0) (by omega)
  rw [h1, h2]; simp [atS, sC]
theorem r_s1 : (decide (readE sC 1 = 0) && (readV sC 1 == fullB 0)) = true := by
  obtain ⟨h1, h2⟩ := read_ok sC_may (a := 1) (by omega)
  rw [h1, h2]; simp [atS, sC, zeros_full]

/-- What alive has made. -/
structure Al (w0 : World) (g1 g3 : Nat) (A1 : Option Addr) (c1 : Nat) (s : Dsk) (wx : World) : Prop where
  bd : Bk wx g1 dA A1 dA.se.length c1
  od : ∃ base, OwT wx base A1 c1 dA.se
  bs : ∃ A c base, Bk wx g3 s A s.se.length c ∧ OwT wx base A c s.se
  tk : Tk wx g3
  ne : g1 ≠ g3
  be : Below w0.heap.size w0 wx
  lo : w0.heap.size ≤ g3
theorem Al.keep {w0 : World} {g1 g3 : Nat} {A1 : Option Addr} {c1 : Nat} {s : Dsk} {wx w' : World} (h : Al w0 g1 g3 A1 c1 s wx) (hb : Below wx.heap.size wx w') : Al w0 g1 g3 A1 c1 s w' := by
  obtain ⟨b1, o1⟩ := h.od
  obtain ⟨A, c, b3, k3, o3⟩ := h.bs
  exact ⟨h.bd.keep hb, ⟨b1, o1.keep hb⟩, ⟨A, c, b3, k3.keep hb, o3.keep hb⟩, h.tk.keep hb, h.ne, below_in h.be hb, h.lo⟩
/-- Another disk is stored. -/
theorem Al.sto {w0 : World} {g1 g3 : Nat} {A1 : Option Addr} {c1 : Nat} {s : Dsk} {wx : World} (h : Al w0 g1 g3 A1 c1 s wx) (t : Dsk) {A : Option Addr} {n c base : Nat} (hn : t.se.length = n) (ho : OwT wx base A c t.se) :
    Al w0 g1 g3 A1 c1 t ((((wx.setCell ⟨g3, 0, none⟩ (.slice A n c)).setCell ⟨g3, 1, none⟩ (.int .i64 t.st)).setCell ⟨g3, 2, none⟩ (.int .i64 t.lf)).setCell ⟨g3, 3, none⟩ (.bool t.dd)) := by
  subst hn
  obtain ⟨b1, o1⟩ := h.od
  obtain ⟨A', c', b3, k3, o3⟩ := h.bs
  have t1 := h.tk.setc g3 0 (.slice A t.se.length c)
  have t2 := t1.setc g3 1 (.int .i64 t.st)
  have t3 := t2.setc g3 2 (.int .i64 t.lf)
  refine ⟨(((h.bd.far h.ne _ _).far h.ne _ _).far h.ne _ _).far h.ne _ _, ⟨b1, (((o1.boxc h.tk _ _).boxc t1 _ _).boxc t2 _ _).boxc t3 _ _⟩, ⟨A, c, base, ?_, (((ho.boxc h.tk _ _).boxc t1 _ _).boxc t2 _ _).boxc t3 _ _⟩, t3.setc _ _ _, h.ne, set4 h.be h.lo _ _ _ _, h.lo⟩
  exact (((k3.setA A t.se.length c t.se).setS t.st).setL t.lf).setD t.dd

set_option maxRecDepth 100000 in
set_option maxHeartbeats 1600000 in
theorem alive_any (w : World) : Calls Try.prog 12 #[] w fun e w' => e = .returned (.bool true) ∧ Below w.heap.size w w' := by
  go_enter Try.func12, Try.ntmps12
  go_wp2_with fail
  refine (dnew_any _).mono ?_
  rintro e w1 ⟨rfl, b1⟩
  go_wp2_with fail
  refine (full_of 7 7 (hid (by decide)) _).mono ?_
  rintro e w2 ⟨g2, rfl, ho2, b2⟩
  have hb2 := below_in b1 b2
  go_wp2_with fail
  refine (dwrite_of zN none 0 0 5 (some ⟨g2, 0, none⟩) 128 128 (fullB 7) dA 0 (hid rfl) (by omega) (hid (fullB_len _)) (hid w_dA.2) (hid w_dA.1) _ (RdS.nil _) ho2.rd).mono ?_
  rintro e w3 ⟨A1, c1, rfl, od, b3⟩
  have hb3 := below_in hb2 b3
  clear b1 b2 b3 ho2 hb2
  go_wp2_with fail
  have bd := bk_new w3 dA A1 dA.se.length c1 24
  have od1 := od.keep (below1 w3 (.cells (#[.slice A1 (dA.se.length) c1, .int .i64 dA.st, .int .i64 dA.lf, .bool dA.dd]) 24))
  have hb4 := below_in hb3 (below1 w3 (.cells (#[.slice A1 (dA.se.length) c1, .int .i64 dA.st, .int .i64 dA.lf, .bool dA.dd]) 24))
  generalize World.alloc w3 _ = w4 at bd od1 hb4 ⊢
  refine (dnew_any _).mono ?_
  rintro e w5 ⟨rfl, b5⟩
  have hb5 := below_in hb4 b5
  go_wp2_with fail
  refine (dstart_of zN none 0 0 1 sA 0 (hid rfl) (by omega) (hid w_sA.2) (hid w_sA.1) _ (RdS.nil _)).mono ?_
  rintro e w6 ⟨A3, c3, rfl, os, b6⟩
  have hb6 := below_in hb5 b6
  replace bd := (bd.keep b5).keep b6
  replace od1 := (od1.keep b5).keep b6
  clear b5 b6 hb4 hb5 hb3 od
  go_wp2_with fail
  have k3 := bk_new w6 sA A3 sA.se.length c3 24
  have os1 := os.keep (below1 w6 (.cells (#[.slice A3 (sA.se.length) c3, .int .i64 sA.st, .int .i64 sA.lf, .bool sA.dd]) 24))
  have t3 := tk_new w6 (#[.slice A3 (sA.se.length) c3, .int .i64 sA.st, .int .i64 sA.lf, .bool sA.dd])
  have b7 := below1 w6 (.cells (#[.slice A3 (sA.se.length) c3, .int .i64 sA.st, .int .i64 sA.lf, .bool sA.dd]) 24)
  have hne : w3.heap.size ≠ w6.heap.size := by have := bd.lt; omega
  generalize World.alloc w6 _ = w7 at k3 os1 t3 b7 ⊢
  have al : Al w w3.heap.size w6.heap.size A1 c1 sA w7 := ⟨bd.keep b7, ⟨_, od1.keep b7⟩, ⟨A3, c3, _, k3, os1⟩, t3, hne, below_in hb6 b7, hb6.size⟩
  clear k3 os1 t3 b7 hne bd od1 os hb6
  generalize w3.heap.size = g1 at al ⊢
  generalize w6.heap.size = g3 at al ⊢
  go_cut [5] from 18 to 23 (fun s5 wx => s5 = .int .i64 0 ∧ Al w g1 g3 A1 c1 sB wx)
  case first => as_aux_lemma =>
    obtain ⟨A3, c3, base3, k3, o3⟩ := al.bs
    have x0 := k3.bx.sl
    have x1 := k3.bx.s
    have x2 := k3.bx.l
    have x3 := k3.bx.d
    have f0 := k3.fz 0 (by omega)
    have f1 := k3.fz 1 (by omega)
    have f2 := k3.fz 2 (by omega)
    have f3 := k3.fz 3 (by omega)
    have S0 : Below w7.heap.size w7 w7.drew := (Below.refl _ w7).drew
    go_region_with
      (first
        | (go_at_call 10; refine (full_of 1 1 (hid (by decide)) w7.drew).mono ?_; rintro e v4 ⟨g4, rfl, ho4, b4⟩; have c4 := below_in (w := w7) S0 b4; have y0 := keep c4 x0; have y1 := keep c4 x1; have y2 := keep c4 x2; have y3 := keep c4 x3)
        | (go_at_call 8; refine (dwrite_of sA A3 sA.se.length c3 0 (some ⟨g4, 0, none⟩) 128 128 (fullB 1) sB 0 (hid rfl) (by simp [sA]) (hid (fullB_len _)) (hid w_sB.2) (hid w_sB.1) v4 (o3.rd.keep c4) ho4.rd).mono ?_; rintro e v5 ⟨A5, c5, rfl, ho5, b5⟩; have a5 := (al.keep c4).keep b5; have e0 := keepz b5 y0 (keepz c4 x0 f0); have e1 := keepz b5 y1 (keepz c4 x1 f1); have e2 := keepz b5 y2 (keepz c4 x2 f2); have e3 := keepz b5 y3 (keepz c4 x3 f3); have r0 := keep b5 y0; have r1 := keep b5 y1; have r2 := keep b5 y2; have r3 := keep b5 y3))
    all_goals
      go_wp2_with fail
      go_meet
      case rel => exact ⟨rfl, a5.sto sB rfl ho5⟩
  case rest =>
    obtain ⟨rfl, al8⟩ := hcut
    clear al
    have al := al8
    clear al8
    go_wp2_with fail
    generalize hwc : wc = w8 at al ⊢
    clear hwc
    go_cut [6] from 24 to 29 (fun s6 wx => s6 = .int .i64 0 ∧ Al w g1 g3 A1 c1 sC wx)
    case first => as_aux_lemma =>
      obtain ⟨A3, c3, base3, k3, o3⟩ := al.bs
      have x0 := k3.bx.sl
      have x1 := k3.bx.s
      have x2 := k3.bx.l
      have x3 := k3.bx.d
      have f0 := k3.fz 0 (by omega)
      have f1 := k3.fz 1 (by omega)
      have f2 := k3.fz 2 (by omega)
      have f3 := k3.fz 3 (by omega)
      have S0 : Below w8.heap.size w8 w8.drew := (Below.refl _ w8).drew
      go_region_with
        (first
          | (go_at_call 10; refine (full_of 2 2 (hid (by decide)) w8.drew).mono ?_; rintro e v4 ⟨g4, rfl, ho4, b4⟩; have c4 := below_in (w := w8) S0 b4; have y0 := keep c4 x0; have y1 := keep c4 x1; have y2 := keep c4 x2; have y3 := keep c4 x3)
          | (go_at_call 8; refine (dwrite_of sB A3 sB.se.length c3 1 (some ⟨g4, 0, none⟩) 128 128 (fullB 2) sC 0 (hid rfl) (by simp [sB]) (hid (fullB_len _)) (hid w_sC.2) (hid w_sC.1) v4 (o3.rd.keep c4) ho4.rd).mono ?_; rintro e v5 ⟨A5, c5, rfl, ho5, b5⟩; have a5 := (al.keep c4).keep b5; have e0 := keepz b5 y0 (keepz c4 x0 f0); have e1 := keepz b5 y1 (keepz c4 x1 f1); have e2 := keepz b5 y2 (keepz c4 x2 f2); have e3 := keepz b5 y3 (keepz c4 x3 f3); have r0 := keep b5 y0; have r1 := keep b5 y1; have r2 := keep b5 y2; have r3 := keep b5 y3))
      all_goals
        go_wp2_with fail
        go_meet
        case rel => exact ⟨rfl, a5.sto sC rfl ho5⟩
    case rest =>
      obtain ⟨rfl, al9⟩ := hcut
      clear al
      have al := al9
      clear al9
      go_wp2_with ((with_reducible refine at_load 24 (.tmp 1) ?_); refine wpList_load_k rfl (.tmp 1) rfl g1 rfl al.bd.bx ?_)
      obtain ⟨ob1, od1⟩ := al.od
      refine (reads_of true dA A1 dA.se.length c1 5 7 7 (hid (by decide)) (hid rfl) (by simp [dA]) (hid r_d5) _ od1.rd).mono ?_
      rintro e v1 ⟨rfl, b1⟩
      replace al := al.keep b1
      clear b1 od1
      go_wp2_with ((with_reducible refine at_load 24 (.tmp 1) ?_); refine wpList_load_k rfl (.tmp 1) rfl g1 rfl al.bd.bx ?_)
      obtain ⟨ob2, od2⟩ := al.od
      refine (reads_of true dA A1 dA.se.length c1 6 0 0 (hid (by decide)) (hid rfl) (by simp [dA]) (hid r_d6) _ od2.rd).mono ?_
      rintro e v2 ⟨rfl, b2⟩
      replace al := al.keep b2
      clear b2 od2
      obtain ⟨A3, n3, ob3, k3, os3⟩ := al.bs
      go_wp2_with ((with_reducible refine at_load 24 (.tmp 3) ?_); refine wpList_load_k rfl (.tmp 3) rfl g3 rfl k3.bx ?_)
      refine (reads_of true sC A3 sC.se.length n3 0 1 1 (hid (by decide)) (hid rfl) (by simp [sC]) (hid r_s0) _ os3.rd).mono ?_
      rintro e v3 ⟨rfl, b3⟩
      replace al := al.keep b3
      clear b3 os3 k3
      obtain ⟨A4, n4, ob4, k4, os4⟩ := al.bs
      go_wp2_with ((with_reducible refine at_load 24 (.tmp 3) ?_); refine wpList_load_k rfl (.tmp 3) rfl g3 rfl k4.bx ?_)
      refine (reads_of true sC A4 sC.se.length n4 1 0 0 (hid (by decide)) (hid rfl) (by simp [sC]) (hid r_s1) _ os4.rd).mono ?_
      rintro e v4 ⟨rfl, b4⟩
      replace al := al.keep b4
      clear b4 os4 k4
      obtain ⟨A9, n9, ob9, k9, os9⟩ := al.bs
      have y2 : v4.cell? ⟨g3, 2, none⟩ = some (.int .i64 0) := k9.bx.l
      have y3 : v4.cell? ⟨g3, 3, none⟩ = some (.bool true) := k9.bx.d
      have hb := al.be
      clear al k9 os9
      go_wp2
      go_ret
      exact ⟨rfl, hb⟩
end Go.Proofs.Ytofnjdkfhboapaa
