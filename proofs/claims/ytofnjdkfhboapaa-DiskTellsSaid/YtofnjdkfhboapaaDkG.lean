/-
  The document's own answers of layer 12: Write.
-/
import Derived.Test.YtofnjdkfhboapaaDkF
namespace Go.Proofs.Ytofnjdkfhboapaa
open Go.RowKit
set_option linter.unusedVariables false
set_option linter.unusedSimpArgs false

theorem write_no {d : Dsk} (h : mayD d = false) (a : Int) (y : List UInt8) : writeE d a y = 8 ∧ writeV d a y = zK := by
  have e : writeE d a y = 8 := by rw [writeE, h]; simp
  exact ⟨e, by rw [writeV, e]; simp⟩
theorem write_arg {d : Dsk} (h : mayD d = true) {a : Int} {y : List UInt8} (h2 : ¬ (0 ≤ a ∧ a < 6146 ∧ y.length = 128)) : writeE d a y = 2 ∧ writeV d a y = zK := by
  have e : writeE d a y = 2 := by rw [writeE, if_pos h, if_neg h2]
  exact ⟨e, by rw [writeV, e]; simp⟩
theorem write_ok {d : Dsk} (h : mayD d = true) {a : Int} {y : List UInt8} (h2 : 0 ≤ a ∧ a < 6146 ∧ y.length = 128) : writeE d a y = 0 ∧ writeV d a y = writtenK d a y := by
  have e : writeE d a y = 0 := by rw [writeE, if_pos h, if_pos h2]
  exact ⟨e, by rw [writeV, e]; simp⟩
theorem withS_le2 (l : List Sct) (a : Int) (y : List UInt8) : (withS l a y).length ≤ 2 * l.length + 1 := by
  have h1 := List.length_filter_le (fun s : Sct => decide (s.a < a)) l
  have h2 := List.length_filter_le (fun s : Sct => decide (a < s.a)) l
  rw [withS, List.length_append, List.length_cons]
  omega
theorem written_le (d : Dsk) (a : Int) (y : List UInt8) : (writtenK d a y).se.length ≤ 2 * d.se.length + 1 := by
  rw [writtenK]
  split
  · simp only; omega
  · exact withS_le2 _ _ _
theorem written_128 {d : Dsk} (h : ∀ s ∈ d.se, s.b.length = 128) (a : Int) {y : List UInt8} (hy : y.length = 128) : ∀ s ∈ (writtenK d a y).se, s.b.length = 128 := by
  intro s hs
  rw [writtenK] at hs
  split at hs
  · exact h s hs
  · simp only [withS] at hs
    rcases List.mem_append.1 hs with hs | hs
    · exact h s (List.mem_filter.1 hs).1
    · rcases List.mem_cons.1 hs with rfl | hs
      · exact hy
      · exact h s (List.mem_filter.1 hs).1
theorem may_lf {d : Dsk} (h : mayD d = true) : InD d.lf := by
  rw [mayD, Bool.and_eq_true] at h
  have := h.2
  simp only [tailD, Bool.and_eq_true, decide_eq_true_eq] at this
  unfold InD
  omega

set_option maxRecDepth 100000 in
set_option maxHeartbeats 3200000 in
theorem kwrite_of (d : Dsk) (A : Option Addr) (n c : Nat) (a : Int) (B : Option Addr) (p q : Nat) (y : List UInt8) (v : Dsk) (k : Int) (hn : Hid (d.se.length = n)) (h5 : n ≤ 4000) (hp : Hid (y.length = p)) (hv : Hid (writeV d a y = v)) (hk : Hid (writeE d a y = k)) (w : World) (hr : RdS w A c d.se) (hs : Rd w B q y) :
    Calls Try.prog 17 #[.agg #[.slice A n c, .int .i64 d.st, .int .i64 d.lf, .bool d.dd], .int .i64 a, .slice B p q] w (RetK w v k) := by
  obtain ⟨t, ht⟩ : ∃ t, mayD d = t := ⟨_, rfl⟩
  have HQ := hid ht
  have tk := twoK_new w d A n c
  have HR := hid hr
  have HS := hid hs
  clear hr hs ht
  go_enter Try.func17, Try.ntmps17
  have x0 := tk.xa.sl
  have x1 := tk.xa.s
  have x2 := tk.xa.l
  have x3 := tk.xa.d
  go_wp2_with fail
  generalize World.alloc (World.alloc w _) _ = W at tk x0 x1 x2 x3 ⊢
  clear x0 x1 x2 x3
  refine (kmay_of t d A n c hn HQ _ (HR.out.keep tk.be)).mono ?_
  rintro e w1 ⟨rfl, b1⟩
  obtain ⟨xa, xz, fa, fz, hb1⟩ := tk.keep b1
  have EW := hid tk.sz
  have hs1 := hid b1.size
  clear tk b1
  have x0 := xa.sl
  have x1 := xa.s
  have x2 := xa.l
  have x3 := xa.d
  have z0 := xz.sl
  have z1 := xz.s
  have z2 := xz.l
  have z3 := xz.d
  have g0 := fz 0 (by omega)
  have g1 := fz 1 (by omega)
  have g2 := fz 2 (by omega)
  have g3 := fz 3 (by omega)
  clear xa xz fa fz
  cases t with
  | false =>
    obtain ⟨rfl, rfl⟩ : k = 8 ∧ v = zK := ⟨by rw [← hk.out]; exact (write_no HQ.out a y).1, by rw [← hv.out]; exact (write_no HQ.out a y).2⟩
    go_wp2
    exact bodyPost_ret (v := .tuple #[.agg #[.slice none 0 0, .int .i64 0, .int .i64 0, .bool false], .int .i64 8]) (by simp [results, Try.results17, go_sem, *]) rfl ⟨none, 0, rfl, OwS.nil _ _, set4 hb1 (by omega) _ _ _ _⟩
  | true =>
    by_cases a0 : a < 0
    · obtain ⟨rfl, rfl⟩ : k = 2 ∧ v = zK := ⟨by rw [← hk.out]; exact (write_arg HQ.out (a := a) (y := y) (by omega)).1, by rw [← hv.out]; exact (write_arg HQ.out (a := a) (y := y) (by omega)).2⟩
      go_wp2
      exact bodyPost_ret (v := .tuple #[.agg #[.slice none 0 0, .int .i64 0, .int .i64 0, .bool false], .int .i64 2]) (by simp [results, Try.results17, go_sem, *]) rfl ⟨none, 0, rfl, OwS.nil _ _, set4 hb1 (by omega) _ _ _ _⟩
    by_cases a1 : 6146 ≤ a
    · obtain ⟨rfl, rfl⟩ : k = 2 ∧ v = zK := ⟨by rw [← hk.out]; exact (write_arg HQ.out (a := a) (y := y) (by omega)).1, by rw [← hv.out]; exact (write_arg HQ.out (a := a) (y := y) (by omega)).2⟩
      go_wp2
      exact bodyPost_ret (v := .tuple #[.agg #[.slice none 0 0, .int .i64 0, .int .i64 0, .bool false], .int .i64 2]) (by simp [results, Try.results17, go_sem, *]) rfl ⟨none, 0, rfl, OwS.nil _ _, set4 hb1 (by omega) _ _ _ _⟩
    by_cases a2 : p = 128
    · subst a2
      obtain ⟨rfl, hve⟩ : k = 0 ∧ writtenK d a y = v := ⟨by rw [← hk.out]; exact (write_ok HQ.out (a := a) ⟨by omega, by omega, hp.out⟩).1, by rw [← hv.out]; exact (write_ok HQ.out (a := a) ⟨by omega, by omega, hp.out⟩).2.symm⟩
      have h8 := hid (written_128 (d := d) (fun s hs => by obtain ⟨i, hi, rfl⟩ := List.getElem_of_mem hs; exact may_128 HQ.out i hi) a hp.out)
      have hle := hid (written_le d a y)
      have hlf := may_lf HQ.out
      rw [hve] at h8 hle
      have HV := hid hve
      clear hv hk hve
      go_wp2_with fail
      refine (kwritten_of d A n c a B q y v hn h5 hlf hp.out HV _ (HR.out.keep hb1) (HS.out.keep hb1)).mono ?_
      rintro e w2 ⟨A2, m, c2, rfl, hm, hr2, b2⟩
      have hb2 := below_in hb1 b2
      have hs2 := hid b2.size
      replace g0 := keepz b2 z0 g0
      replace g1 := keepz b2 z1 g1
      replace g2 := keepz b2 z2 g2
      replace g3 := keepz b2 z3 g3
      replace z0 := keep b2 z0
      replace z1 := keep b2 z1
      replace z2 := keep b2 z2
      replace z3 := keep b2 z3
      clear x0 x1 x2 x3 b2
      go_wp2_with fail
      refine (ktwin_of v A2 m c2 hm (by have := hm.out; have := hle.out; have := hn.out; omega) (hid fun i hi => by rw [h8.out _ (List.getElem_mem hi)]; omega) _ hr2).mono ?_
      rintro e w3 ⟨A3, c3, rfl, ho3, b3⟩
      have hb3 := below_in hb2 b3
      replace g0 := keepz b3 z0 g0
      replace g1 := keepz b3 z1 g1
      replace g2 := keepz b3 z2 g2
      replace g3 := keepz b3 z3 g3
      replace z0 := keep b3 z0
      replace z1 := keep b3 z1
      replace z2 := keep b3 z2
      replace z3 := keep b3 z3
      clear b3
      go_wp2
      have hs1' := hs1.out
      have hs2' := hs2.out
      have ew := EW.out
      have hm' := hm.out
      subst hm'
      exact bodyPost_ret (v := .tuple #[.agg #[.slice A3 (v.se.length) c3, .int .i64 v.st, .int .i64 v.lf, .bool v.dd], .int .i64 0]) (by simp [results, Try.results17, go_sem, z0, z1, z2, z3, g0, g1, g2, g3]) rfl ⟨A3, c3, rfl, OwS.base ((((ho3.setc (by omega) _ _).setc (by omega) _ _).setc (by omega) _ _).setc (by omega) _ _) (by omega), set4 hb3 (by omega) _ _ _ _⟩
    · have d2 : ((p : Int) != 128) = true := by simpa using (show ¬ (p : Int) = 128 by omega)
      obtain ⟨rfl, rfl⟩ : k = 2 ∧ v = zK := ⟨by rw [← hk.out]; exact (write_arg HQ.out (a := a) (y := y) (by have := hp.out; omega)).1, by rw [← hv.out]; exact (write_arg HQ.out (a := a) (y := y) (by have := hp.out; omega)).2⟩
      go_wp2
      exact bodyPost_ret (v := .tuple #[.agg #[.slice none 0 0, .int .i64 0, .int .i64 0, .bool false], .int .i64 2]) (by simp [results, Try.results17, go_sem, *]) rfl ⟨none, 0, rfl, OwS.nil _ _, set4 hb1 (by omega) _ _ _ _⟩
end Go.Proofs.Ytofnjdkfhboapaa
