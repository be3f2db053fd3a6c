/-
  The program's own answers of layer 12: Start, Read.
-/
import Derived.Test.YtofnjdkfhboapaaDpV
namespace Go.Proofs.Ytofnjdkfhboapaa
open Go.RowKit
set_option linter.unusedVariables false
set_option linter.unusedSimpArgs false

def RetDT (w : World) (v : Dsk) (k : Int) (e : Ending) (w' : World) : Prop := ∃ A' c', e = .returned (.tuple #[.agg #[.slice A' (v.se.length) c', .int .i64 v.st, .int .i64 v.lf, .bool v.dd], .int .i64 k]) ∧ OwT w' w.heap.size A' c' v.se ∧ Below w.heap.size w w'

set_option maxRecDepth 100000 in
set_option maxHeartbeats 3200000 in
theorem dstart_of (d : Dsk) (A : Option Addr) (n c : Nat) (a : Int) (v : Dsk) (k : Int) (hn : Hid (d.se.length = n)) (h5 : n ≤ 9000) (hv : Hid (startV d a = v)) (hk : Hid (startE d a = k)) (w : World) (hr : RdS w A c d.se) :
    Calls Try.prog 7 #[.agg #[.slice A n c, .int .i64 d.st, .int .i64 d.lf, .bool d.dd], .int .i64 a] w (RetDT w v k) := by
  obtain ⟨q, hq⟩ : ∃ q, (if mayD d = true then (0 : Int) else 8) = q := ⟨_, rfl⟩
  have HQ := hid hq
  have tk := twoK_new w d A n c
  have HR := hid hr
  clear hr hq
  go_enter Try.func7, Try.ntmps7
  have one : True := trivial
  go_wp2_with (clear one; generalize World.alloc (World.alloc w _) _ = W at tk ⊢; refine wpList_load_k rfl (.tmp 2) rfl w.heap.size rfl tk.xa ?_)
  refine (dcheck_of d A n c hn q HQ _ (HR.out.keep tk.be)).mono ?_
  rintro e w1 ⟨rfl, b1⟩
  obtain ⟨xa, xz⟩ := tk.bks
  replace xa := xa.keep b1
  replace xz := xz.keep b1
  have hb1 := below_in tk.be b1
  have hs1 : Hid (w.heap.size + 2 ≤ w1.heap.size) := hid (by have := b1.size; have := tk.sz; omega)
  clear tk b1
  cases hm : mayD d with
  | false =>
    obtain rfl : 8 = q := by rw [← HQ.out, hm]; simp
    obtain ⟨rfl, rfl⟩ : k = 8 ∧ v = zK := ⟨by rw [← hk.out]; exact (start_no hm a).1, by rw [← hv.out]; exact (start_no hm a).2⟩
    go_wp2_with (with_reducible refine at_store 24 (.tmp 4) (.tmp 11) ?_; refine wpList_store_k rfl (.tmp 4) (.tmp 11) rfl (w.heap.size + 1) rfl zK none 0 0 rfl xz w.heap.size (by omega) ?_; intro w2 x2 b2 h2 z2)
    exact bodyPost_ret (results_k1 rfl rfl x2.bx) rfl ⟨none, 0, rfl, OwT.nil _ _, hb1.trans b2⟩
  | true =>
    obtain rfl : 0 = q := by rw [← HQ.out, hm]; simp
    have HM := hid hm
    have hst := may_st hm
    clear hm
    obtain ⟨u, hu⟩ : ∃ u, (decide (-1 ≤ a) && decide (a < 2147483648)) = u := ⟨_, rfl⟩
    have HU := hid hu
    cases u with
    | false =>
      have h2 : ¬ (-1 ≤ a ∧ a < 2147483648) := by have := HU.out; simp at this; omega
      obtain ⟨rfl, rfl⟩ : k = 2 ∧ v = zK := ⟨by rw [← hk.out]; exact (start_arg HM.out h2).1, by rw [← hv.out]; exact (start_arg HM.out h2).2⟩
      clear hu h2
      go_wp2_with (first
        | (go_at_call 25; refine (leftMay_of a false HU _).mono ?_; rintro e w2 ⟨rfl, rfl⟩)
        | ((with_reducible refine at_store 24 (.tmp 4) (.tmp 16) ?_); refine wpList_store_k rfl (.tmp 4) (.tmp 16) rfl (w.heap.size + 1) rfl zK none 0 0 rfl xz w.heap.size (by omega) ?_; intro w2 x2 b2 h2 z2))
      exact bodyPost_ret (results_k1 rfl rfl x2.bx) rfl ⟨none, 0, rfl, OwT.nil _ _, hb1.trans b2⟩
    | true =>
      have h2 : -1 ≤ a ∧ a < 2147483648 := by have := HU.out; simpa using this
      obtain ⟨t, ht⟩ : ∃ t, (decide (0 ≤ d.st + 1) && decide (d.st + 1 < 2147483648)) = t := ⟨_, rfl⟩
      have HT := hid ht
      have x1 := xa.bx.s
      clear ht hu
      obtain ⟨s1, hs⟩ : ∃ s, d.st + 1 = s := ⟨_, rfl⟩
      rw [hs] at HT
      have hw1 : IntKind.i64.wrap s1 = s1 := by rw [IntKind.wrap_i64]; omega
      by_cases a2 : d.st = 2147483647
      · obtain rfl : false = t := by rw [← HT.out]; simp; omega
        obtain ⟨rfl, rfl⟩ : k = 9 ∧ v = zK := ⟨by rw [← hk.out]; exact (start_full HM.out h2 a2).1, by rw [← hv.out]; exact (start_full HM.out h2 a2).2⟩
        clear h2 a2
        go_wp2_with (first
          | (go_at_call 25; refine (leftMay_of a true HU _).mono ?_; rintro e w2 ⟨rfl, rfl⟩)
          | (go_at_call 26; refine (below_of s1 2147483648 false HT _).mono ?_; rintro e w2 ⟨rfl, rfl⟩)
          | ((with_reducible refine at_store 24 (.tmp 4) (.tmp 22) ?_); refine wpList_store_k rfl (.tmp 4) (.tmp 22) rfl (w.heap.size + 1) rfl zK none 0 0 rfl xz w.heap.size (by omega) ?_; intro w2 x2 b2 h2 z2))
        exact bodyPost_ret (results_k1 rfl rfl x2.bx) rfl ⟨none, 0, rfl, OwT.nil _ _, hb1.trans b2⟩
      · obtain rfl : true = t := by rw [← HT.out]; simp; omega
        obtain ⟨rfl, rfl⟩ : k = 0 ∧ v = startedK d a := ⟨by rw [← hk.out]; exact (start_ok HM.out h2 a2).1, by rw [← hv.out]; exact (start_ok HM.out h2 a2).2⟩
        have h8 := may_128 HM.out
        have H6 : Hid (∀ i (hi : i < d.se.length), d.se[i].b.length ≤ 140737488355328) := hid fun i hi => by rw [h8 i hi]; omega
        clear h8 h2 a2
        go_wp2_with (first
          | (go_at_call 25; refine (leftMay_of a true HU _).mono ?_; rintro e w2 ⟨rfl, rfl⟩)
          | (go_at_call 26; refine (below_of s1 2147483648 true HT _).mono ?_; rintro e w2 ⟨rfl, rfl⟩)
          | ((with_reducible refine at_load 24 (.tmp 2) ?_); refine wpList_load_k rfl (.tmp 2) rfl w.heap.size rfl xa.bx ?_))
        refine (dtwin_of d A n c hn h5 H6 _ (HR.out.keep hb1)).mono ?_
        rintro e w3 ⟨G, rfl, ho3, b3⟩
        have hb3 := below_in hb1 b3
        replace xa := xa.keep b3
        replace xz := xz.keep b3
        clear b3 x1
        have one : True := trivial
        go_wp2_with (first
          | ((with_reducible refine at_store 24 (.tmp 2) (.tmp 24) ?_); refine wpList_store_k rfl (.tmp 2) (.tmp 24) rfl w.heap.size rfl d (some ⟨G, 0, none⟩) n n rfl xa w.heap.size (Nat.le_refl _) ?_; intro w4 x4 b4 h4 z4; have y1 := x4.bx.s; have y2 := x4.bx.l; have y3 := x4.bx.d; have f1 := x4.fz 1 (by omega); have f2 := x4.fz 2 (by omega); have f3 := x4.fz 3 (by omega))
          | ((with_reducible refine at_load 24 (.tmp 2) ?_); refine wpList_load_k rfl (.tmp 2) rfl w.heap.size rfl (((x4.setS s1).setL a).setD false).bx ?_)
          | ((with_reducible refine at_store 24 (.tmp 4) (.tmp 32) ?_); refine wpList_store_k rfl (.tmp 4) (.tmp 32) rfl (w.heap.size + 1) rfl ⟨d.se, s1, a, false⟩ (some ⟨G, 0, none⟩) n n rfl ((((xz.other h4 (by omega)).far (by omega) _ _).far (by omega) _ _).far (by omega) _ _) w.heap.size (by omega) ?_; intro w5 x5 b5 h5 z5))
        have hn' := hn.out
        have hs1' := hs1.out
        subst hn' hs
        exact bodyPost_ret (results_k1 rfl rfl x5.bx) rfl ⟨some ⟨G, 0, none⟩, d.se.length, rfl, OwT.base (base := w1.heap.size) (((((ho3.same (g := w.heap.size) (by omega) h4).setc (by omega) _ _).setc (by omega) _ _).setc (by omega) _ _).same (g := w.heap.size + 1) (by omega) h5) (by omega), ((((hb3.trans b4).setCell (Nat.le_refl _) _).setCell (Nat.le_refl _) _).setCell (Nat.le_refl _) _).trans b5⟩

set_option maxRecDepth 100000 in
set_option maxHeartbeats 3200000 in
theorem dread_of (d : Dsk) (A : Option Addr) (n c : Nat) (a : Int) (v : List UInt8) (m : Nat) (k : Int) (hn : Hid (d.se.length = n)) (h5 : n ≤ 9000) (hv : Hid (readV d a = v)) (hm : Hid (v.length = m)) (hk : Hid (readE d a = k)) (w : World) (hr : RdS w A c d.se) :
    Calls Try.prog 11 #[.agg #[.slice A n c, .int .i64 d.st, .int .i64 d.lf, .bool d.dd], .int .i64 a] w fun e w' => ∃ A' c', e = .returned (.tuple #[.slice A' m c', .int .i64 k]) ∧ Own w' w.heap.size 5 A' c' v ∧ Below w.heap.size w w' := by
  obtain ⟨q, hq⟩ : ∃ q, (if mayD d = true then (0 : Int) else 8) = q := ⟨_, rfl⟩
  have HQ := hid hq
  have xa := boxK_new w d A n c 24
  have hb0 := below1 w (.cells (#[.slice A n c, .int .i64 d.st, .int .i64 d.lf, .bool d.dd]) 24)
  have HR := hid hr
  clear hr hq
  go_enter Try.func11, Try.ntmps11
  have one : True := trivial
  go_wp2_with (clear one; generalize World.alloc w _ = W at xa hb0 ⊢; refine wpList_load_k rfl (.tmp 2) rfl w.heap.size rfl xa ?_)
  refine (dcheck_of d A n c hn q HQ _ (HR.out.keep hb0)).mono ?_
  rintro e w1 ⟨rfl, b1⟩
  replace xa := xa.keep b1
  have hb1 := below_in hb0 b1
  clear b1 hb0
  have x0 := xa.sl
  cases hmd : mayD d with
  | false =>
    obtain rfl : 8 = q := by rw [← HQ.out, hmd]; simp
    obtain ⟨rfl, h2⟩ : k = 8 ∧ v = [] := ⟨by rw [← hk.out]; exact (read_no hmd a).1, by rw [← hv.out]; exact (read_no hmd a).2⟩
    obtain rfl : m = 0 := by rw [← hm.out, h2]; rfl
    go_wp2
    go_ret2
    exact ⟨none, 0, rfl, by rw [h2]; exact Own.nil _ _ _, hb1⟩
  | true =>
    obtain rfl : 0 = q := by rw [← HQ.out, hmd]; simp
    have HM := hid hmd
    clear hmd
    obtain ⟨u, hu⟩ : ∃ u, (decide (0 ≤ a) && decide (a < 6146)) = u := ⟨_, rfl⟩
    have HU := hid hu
    clear hu
    cases u with
    | false =>
      have h3 : ¬ (0 ≤ a ∧ a < 6146) := by have := HU.out; simp at this; omega
      obtain ⟨rfl, h2⟩ : k = 2 ∧ v = [] := ⟨by rw [← hk.out]; exact (read_arg HM.out h3).1, by rw [← hv.out]; exact (read_arg HM.out h3).2⟩
      obtain rfl : m = 0 := by rw [← hm.out, h2]; rfl
      clear h3
      go_wp2_with (go_at_call 27; refine (placeMay_of a false HU _).mono ?_; rintro e w2 ⟨rfl, rfl⟩)
      go_ret2
      exact ⟨none, 0, rfl, by rw [h2]; exact Own.nil _ _ _, hb1⟩
    | true =>
      have h3 : 0 ≤ a ∧ a < 6146 := by have := HU.out; simpa using this
      obtain ⟨rfl, h2⟩ : k = 0 ∧ v = atS d.se a := ⟨by rw [← hk.out]; exact (read_ok HM.out h3).1, by rw [← hv.out]; exact (read_ok HM.out h3).2⟩
      have h8 := may_128 HM.out
      obtain rfl : m = 128 := by rw [← hm.out, h2]; exact atS_len h8 a
      have H2 := hid h2
      have H8 := hid h8
      have HS := hid (show secsB d.se = true by have := HM.out; rw [mayD, Bool.and_eq_true] at this; exact this.1)
      have mk := make_128 w1
      have ow := Own.lit w1 5 (List.replicate 128 0) (Nat.le_refl _) (by simp)
      have hbm := below1 w1 (.cells (u8s (List.replicate 128 0)).toArray 5)
      have hq : (List.replicate 128 (0 : UInt8)).length = 128 := by simp
      have HZ := hid (fun i (hP : Pos d.se a i) (hn : ∀ (hi : i < d.se.length), d.se[i].a ≠ a) => (H2.out.trans (atS_new HS.out hP hn)).symm)
      generalize List.replicate 128 (0 : UInt8) = z at mk ow hbm hq HZ
      rw [hq] at ow
      have xm := xa.keep hbm
      have x0m := xm.sl
      clear h2 h3 h8
      go_wp2_with (go_at_call 27; refine (placeMay_of a true HU _).mono ?_; rintro e w2 ⟨rfl, rfl⟩)
      generalize World.alloc w1 _ = w2 at mk ow hbm xm x0m ⊢
      clear mk x0 x0m
      refine (find_of d.se A n c a hn h5 HS _ (HR.out.keep (below_in hb1 hbm))).mono ?_
      rintro e w3 ⟨i, t, rfl, hP, hT, b3⟩
      have x0 := (xm.keep b3).sl
      have hb3 := below_in (below_in hb1 hbm) b3
      have ow3 := ow.keep b3
      clear xm xa
      cases t with
      | false =>
        have hz : z = v := HZ.out i hP fun hi he => by have := hT.2 ⟨hi, he⟩; cases this
        have Hz := hid hz
        clear hz hP hT HZ
        go_wp2
        go_ret2
        exact ⟨_, _, rfl, by rw [← Hz.out]; exact Own.mono ow3 hb1.size, hb3⟩
      | true =>
        obtain ⟨hi, he⟩ := hT.1 rfl
        have hiv : d.se[i].b = v := by rw [H2.out]; exact (atS_old hP hi he).symm
        have hin : (i : Int) < (n : Int) := by have := hn.out; omega
        have h128 := H8.out i hi
        obtain ⟨b, o, rfl, hcell⟩ := (HR.out.keep hb3).at_ (by omega)
        obtain ⟨X, x, y0, y1, hX⟩ := hcell i hi
        rw [hiv] at hX h128
        rw [hiv, h128] at y1
        have Hv := hid h128
        have hc2 : (c : Int) ≤ 9223372036854775807 := by have := HR.out.cap; omega
        have hc1 : (n : Int) ≤ c := by have := HR.out.len; have := hn.out; omega
        obtain ⟨i0, hi0, hz0, hz1, hz2⟩ := info_parts info_u8
        clear hcell h128 hiv he hP hT HZ y0
        go_wp2_with (refine wpList_copy_full rfl (.tmp 27) (.tmp 33) 30 rfl w1.heap.size 5 Try.underlying30 hi0 hz1 w1.heap.size 128 128 128 rfl z hq ow3 X x v Hv.out rfl hX (by omega) ?_; intro w4 ow4 hh4 b4)
        go_ret2
        exact ⟨_, _, rfl, Own.mono ow4 hb1.size, hb3.trans (b4.mono hb1.size)⟩
end Go.Proofs.Ytofnjdkfhboapaa
