/-
  The document's own answers of layer 12: Start, Read.
-/
import Derived.Test.YtofnjdkfhboapaaDkD
namespace Go.Proofs.Ytofnjdkfhboapaa
open Go.RowKit
set_option linter.unusedVariables false
set_option linter.unusedSimpArgs false

/-- Two boxes of disks: the one that came in, and a zero one behind it. -/
structure TwoK (w W : World) (d : Dsk) (A : Option Addr) (n c : Nat) : Prop where
  xa : BoxK W w.heap.size d A n c
  xz : BoxK W (w.heap.size + 1) zK none 0 0
  fa : ∀ k, k < 4 → W.frozen? ⟨w.heap.size, k, none⟩ = false
  fz : ∀ k, W.frozen? ⟨w.heap.size + 1, k, none⟩ = false
  be : Below w.heap.size w W
  sz : W.heap.size = w.heap.size + 2
theorem twoK_new (w : World) (d : Dsk) (A : Option Addr) (n c : Nat) : TwoK w ((w.alloc (.cells (#[.slice A n c, .int .i64 d.st, .int .i64 d.lf, .bool d.dd]) 24)).alloc (.cells (#[.slice none 0 0, .int .i64 0, .int .i64 0, .bool false]) 24)) d A n c := by
  have xz := boxK_new (w.alloc (.cells (#[.slice A n c, .int .i64 d.st, .int .i64 d.lf, .bool d.dd]) 24)) zK none 0 0 24
  have fz := froz_new (w.alloc (.cells (#[.slice A n c, .int .i64 d.st, .int .i64 d.lf, .bool d.dd]) 24)) (#[.slice none 0 0, .int .i64 zK.st, .int .i64 zK.lf, .bool zK.dd]) 24
  have es : (w.alloc (.cells (#[.slice A n c, .int .i64 d.st, .int .i64 d.lf, .bool d.dd]) 24)).heap.size = w.heap.size + 1 := by simp [go_sem]
  have b1 := below1 (w.alloc (.cells (#[.slice A n c, .int .i64 d.st, .int .i64 d.lf, .bool d.dd]) 24)) (.cells (#[.slice none 0 0, .int .i64 zK.st, .int .i64 zK.lf, .bool zK.dd]) 24)
  have x0 := boxK_new w d A n c 24
  rw [es] at xz fz
  refine ⟨x0.keep b1, xz, fun k hk => ?_, fz, below_in (below1 w _) b1, by simp [go_sem]⟩
  match k, hk with
  | 0, _ => exact keepz b1 x0.sl (froz_new w _ _ 0)
  | 1, _ => exact keepz b1 x0.s (froz_new w _ _ 1)
  | 2, _ => exact keepz b1 x0.l (froz_new w _ _ 2)
  | 3, _ => exact keepz b1 x0.d (froz_new w _ _ 3)
theorem TwoK.keep {w W W' : World} {d : Dsk} {A : Option Addr} {n c : Nat} (h : TwoK w W d A n c) (b : Below W.heap.size W W') :
    BoxK W' w.heap.size d A n c ∧ BoxK W' (w.heap.size + 1) zK none 0 0 ∧ (∀ k, k < 4 → W'.frozen? ⟨w.heap.size, k, none⟩ = false) ∧ (∀ k, k < 4 → W'.frozen? ⟨w.heap.size + 1, k, none⟩ = false) ∧ Below w.heap.size w W' := by
  refine ⟨h.xa.keep b, h.xz.keep b, fun k hk => ?_, fun k hk => ?_, below_in h.be b⟩
  · match k, hk with
    | 0, hk => exact keepz b h.xa.sl (h.fa 0 hk)
    | 1, hk => exact keepz b h.xa.s (h.fa 1 hk)
    | 2, hk => exact keepz b h.xa.l (h.fa 2 hk)
    | 3, hk => exact keepz b h.xa.d (h.fa 3 hk)
  · match k, hk with
    | 0, hk => exact keepz b h.xz.sl (h.fz 0)
    | 1, hk => exact keepz b h.xz.s (h.fz 1)
    | 2, hk => exact keepz b h.xz.l (h.fz 2)
    | 3, hk => exact keepz b h.xz.d (h.fz 3)
def RetK (w : World) (v : Dsk) (k : Int) (e : Ending) (w' : World) : Prop := ∃ A' c', e = .returned (.tuple #[.agg #[.slice A' (v.se.length) c', .int .i64 v.st, .int .i64 v.lf, .bool v.dd], .int .i64 k]) ∧ OwS w' w.heap.size A' c' v.se ∧ Below w.heap.size w w'
theorem may_128 {d : Dsk} (h : mayD d = true) : ∀ i (hi : i < d.se.length), d.se[i].b.length = 128 := fun i hi => by
  rw [mayD, Bool.and_eq_true] at h
  exact (secs_get h.1 i hi).2.2
theorem may_st {d : Dsk} (h : mayD d = true) : 0 ≤ d.st ∧ d.st < 2147483648 := by
  rw [mayD, Bool.and_eq_true] at h
  have := h.2
  simp only [tailD, Bool.and_eq_true, decide_eq_true_eq] at this
  omega

theorem read_no {d : Dsk} (h : mayD d = false) (a : Int) : readE d a = 8 ∧ readV d a = [] := by
  have e : readE d a = 8 := by rw [readE, h]; simp
  exact ⟨e, by rw [readV, e]; simp⟩
theorem read_arg {d : Dsk} (h : mayD d = true) {a : Int} (h2 : ¬ (0 ≤ a ∧ a < 6146)) : readE d a = 2 ∧ readV d a = [] := by
  have e : readE d a = 2 := by rw [readE, if_pos h, if_neg h2]
  exact ⟨e, by rw [readV, e]; simp⟩
theorem read_ok {d : Dsk} (h : mayD d = true) {a : Int} (h2 : 0 ≤ a ∧ a < 6146) : readE d a = 0 ∧ readV d a = atS d.se a := by
  have e : readE d a = 0 := by rw [readE, if_pos h, if_pos h2]
  exact ⟨e, by rw [readV, e]; simp⟩
theorem atS_len {l : List Sct} (h : ∀ i (hi : i < l.length), l[i].b.length = 128) (a : Int) : (atS l a).length = 128 := by
  rw [atS]
  cases hf : l.find? (fun s => decide (s.a = a)) with
  | none => simp
  | some s =>
    obtain ⟨i, hi, e⟩ := List.getElem_of_mem (List.mem_of_find?_eq_some hf)
    simp only
    rw [← e]; exact h i hi

set_option maxRecDepth 100000 in
set_option maxHeartbeats 3200000 in
theorem kread_of (d : Dsk) (A : Option Addr) (n c : Nat) (a : Int) (v : List UInt8) (m : Nat) (k : Int) (hn : Hid (d.se.length = n)) (hv : Hid (readV d a = v)) (hm : Hid (v.length = m)) (hk : Hid (readE d a = k)) (w : World) (hr : RdS w A c d.se) :
    Calls Try.prog 18 #[.agg #[.slice A n c, .int .i64 d.st, .int .i64 d.lf, .bool d.dd], .int .i64 a] w fun e w' => ∃ A' c', e = .returned (.tuple #[.slice A' m c', .int .i64 k]) ∧ Own w' w.heap.size 5 A' c' v ∧ Below w.heap.size w w' := by
  obtain ⟨q, hq⟩ : ∃ q, mayD d = q := ⟨_, rfl⟩
  have HQ := hid hq
  have xa := boxK_new w d A n c 24
  have hb0 := below1 w (.cells (#[.slice A n c, .int .i64 d.st, .int .i64 d.lf, .bool d.dd]) 24)
  have HR := hid hr
  have x0 := xa.sl
  have x1 := xa.s
  have x2 := xa.l
  have x3 := xa.d
  clear hr hq
  go_enter Try.func18, Try.ntmps18
  go_wp2_with fail
  refine (kmay_of q d A n c hn HQ _ (HR.out.keep hb0)).mono ?_
  rintro e w1 ⟨rfl, b1⟩
  replace xa := xa.keep b1
  have hb1 := below_in hb0 b1
  clear x0 x1 x2 x3 b1 hb0
  have x0 := xa.sl
  have x1 := xa.s
  have x2 := xa.l
  have x3 := xa.d
  clear xa
  cases q with
  | false =>
    obtain ⟨rfl, h2⟩ : k = 8 ∧ v = [] := ⟨by rw [← hk.out]; exact (read_no HQ.out a).1, by rw [← hv.out]; exact (read_no HQ.out a).2⟩
    obtain rfl : m = 0 := by rw [← hm.out, h2]; rfl
    go_wp2
    go_ret2
    exact ⟨none, 0, rfl, by rw [h2]; exact Own.nil _ _ _, hb1⟩
  | true =>
    by_cases h0 : a < 0
    · obtain ⟨rfl, h2⟩ : k = 2 ∧ v = [] := ⟨by rw [← hk.out]; exact (read_arg HQ.out (by omega)).1, by rw [← hv.out]; exact (read_arg HQ.out (by omega)).2⟩
      obtain rfl : m = 0 := by rw [← hm.out, h2]; rfl
      go_wp2
      go_ret2
      exact ⟨none, 0, rfl, by rw [h2]; exact Own.nil _ _ _, hb1⟩
    by_cases h1 : a < 6146
    · obtain ⟨rfl, h2⟩ : k = 0 ∧ v = atS d.se a := ⟨by rw [← hk.out]; exact (read_ok HQ.out (by omega)).1, by rw [← hv.out]; exact (read_ok HQ.out (by omega)).2⟩
      have h8 := hid (may_128 HQ.out)
      obtain rfl : m = 128 := by rw [← hm.out, h2]; exact atS_len h8.out a
      have H2 := hid h2
      clear h2
      go_wp2_with fail
      refine (kat_of d A n c a hn h8 _ (HR.out.keep hb1)).mono ?_
      rintro e w2 ⟨A2, c2, rfl, ho2, b2⟩
      go_wp2
      go_ret2
      exact ⟨A2, c2, rfl, by rw [H2.out]; exact Own.mono ho2 hb1.size, below_in hb1 b2⟩
    · obtain ⟨rfl, h2⟩ : k = 2 ∧ v = [] := ⟨by rw [← hk.out]; exact (read_arg HQ.out (by omega)).1, by rw [← hv.out]; exact (read_arg HQ.out (by omega)).2⟩
      obtain rfl : m = 0 := by rw [← hm.out, h2]; rfl
      go_wp2
      go_ret2
      exact ⟨none, 0, rfl, by rw [h2]; exact Own.nil _ _ _, hb1⟩

theorem start_no {d : Dsk} (h : mayD d = false) (a : Int) : startE d a = 8 ∧ startV d a = zK := by
  have e : startE d a = 8 := by rw [startE, h]; simp
  exact ⟨e, by rw [startV, e]; simp⟩
theorem start_arg {d : Dsk} (h : mayD d = true) {a : Int} (h2 : ¬ (-1 ≤ a ∧ a < 2147483648)) : startE d a = 2 ∧ startV d a = zK := by
  have e : startE d a = 2 := by rw [startE, if_pos h, if_neg h2]
  exact ⟨e, by rw [startV, e]; simp⟩
theorem start_full {d : Dsk} (h : mayD d = true) {a : Int} (h2 : -1 ≤ a ∧ a < 2147483648) (h3 : d.st = 2147483647) : startE d a = 9 ∧ startV d a = zK := by
  have e : startE d a = 9 := by rw [startE, if_pos h, if_pos h2, if_pos h3]
  exact ⟨e, by rw [startV, e]; simp⟩
theorem start_ok {d : Dsk} (h : mayD d = true) {a : Int} (h2 : -1 ≤ a ∧ a < 2147483648) (h3 : ¬ d.st = 2147483647) : startE d a = 0 ∧ startV d a = startedK d a := by
  have e : startE d a = 0 := by rw [startE, if_pos h, if_pos h2, if_neg h3]
  exact ⟨e, by rw [startV, e]; simp⟩
set_option maxRecDepth 100000 in
set_option maxHeartbeats 3200000 in
theorem kstart_of (d : Dsk) (A : Option Addr) (n c : Nat) (a : Int) (v : Dsk) (k : Int) (hn : Hid (d.se.length = n)) (h5 : n ≤ 9000) (hv : Hid (startV d a = v)) (hk : Hid (startE d a = k)) (w : World) (hr : RdS w A c d.se) :
    Calls Try.prog 16 #[.agg #[.slice A n c, .int .i64 d.st, .int .i64 d.lf, .bool d.dd], .int .i64 a] w (RetK w v k) := by
  obtain ⟨q, hq⟩ : ∃ q, mayD d = q := ⟨_, rfl⟩
  have HQ := hid hq
  have tk := twoK_new w d A n c
  have HR := hid hr
  clear hr hq
  go_enter Try.func16, Try.ntmps16
  have x0 := tk.xa.sl
  have x1 := tk.xa.s
  have x2 := tk.xa.l
  have x3 := tk.xa.d
  go_wp2_with fail
  generalize World.alloc (World.alloc w _) _ = W at tk x0 x1 x2 x3 ⊢
  clear x0 x1 x2 x3
  refine (kmay_of q d A n c hn HQ _ (HR.out.keep tk.be)).mono ?_
  rintro e w1 ⟨rfl, b1⟩
  obtain ⟨xa, xz, fa, fz, hb1⟩ := tk.keep b1
  have EW := hid tk.sz
  have hs1 := hid b1.size
  clear tk b1
  have x0 := xa.sl
  have x1 := xa.s
  have x2 := xa.l
  have x3 := xa.d
  have z0 := xz.sl
  have z1 := xz.s
  have z2 := xz.l
  have z3 := xz.d
  have g0 := fz 0 (by omega)
  have g1 := fz 1 (by omega)
  have g2 := fz 2 (by omega)
  have g3 := fz 3 (by omega)
  clear xa xz fa fz
  cases q with
  | false =>
    obtain ⟨rfl, rfl⟩ : k = 8 ∧ v = zK := ⟨by rw [← hk.out]; exact (start_no HQ.out a).1, by rw [← hv.out]; exact (start_no HQ.out a).2⟩
    go_wp2
    exact bodyPost_ret (v := .tuple #[.agg #[.slice none 0 0, .int .i64 0, .int .i64 0, .bool false], .int .i64 8]) (by simp [results, Try.results16, go_sem, *]) rfl ⟨none, 0, rfl, OwS.nil _ _, set4 hb1 (by omega) _ _ _ _⟩
  | true =>
    have hst := may_st HQ.out
    by_cases a0 : a < -1
    · obtain ⟨rfl, rfl⟩ : k = 2 ∧ v = zK := ⟨by rw [← hk.out]; exact (start_arg HQ.out (a := a) (by omega)).1, by rw [← hv.out]; exact (start_arg HQ.out (a := a) (by omega)).2⟩
      go_wp2
      exact bodyPost_ret (v := .tuple #[.agg #[.slice none 0 0, .int .i64 0, .int .i64 0, .bool false], .int .i64 2]) (by simp [results, Try.results16, go_sem, *]) rfl ⟨none, 0, rfl, OwS.nil _ _, set4 hb1 (by omega) _ _ _ _⟩
    by_cases a1 : 2147483648 ≤ a
    · obtain ⟨rfl, rfl⟩ : k = 2 ∧ v = zK := ⟨by rw [← hk.out]; exact (start_arg HQ.out (a := a) (by omega)).1, by rw [← hv.out]; exact (start_arg HQ.out (a := a) (by omega)).2⟩
      go_wp2
      exact bodyPost_ret (v := .tuple #[.agg #[.slice none 0 0, .int .i64 0, .int .i64 0, .bool false], .int .i64 2]) (by simp [results, Try.results16, go_sem, *]) rfl ⟨none, 0, rfl, OwS.nil _ _, set4 hb1 (by omega) _ _ _ _⟩
    by_cases a2 : d.st = 2147483647
    · have d2 : (d.st == 2147483647) = true := by simpa using a2
      obtain ⟨rfl, rfl⟩ : k = 9 ∧ v = zK := ⟨by rw [← hk.out]; exact (start_full HQ.out (a := a) (by omega) a2).1, by rw [← hv.out]; exact (start_full HQ.out (a := a) (by omega) a2).2⟩
      go_wp2
      exact bodyPost_ret (v := .tuple #[.agg #[.slice none 0 0, .int .i64 0, .int .i64 0, .bool false], .int .i64 9]) (by simp [results, Try.results16, go_sem, *]) rfl ⟨none, 0, rfl, OwS.nil _ _, set4 hb1 (by omega) _ _ _ _⟩
    · have d2 : (d.st == 2147483647) = false := by simpa using a2
      obtain ⟨rfl, rfl⟩ : k = 0 ∧ v = startedK d a := ⟨by rw [← hk.out]; exact (start_ok HQ.out (a := a) (by omega) a2).1, by rw [← hv.out]; exact (start_ok HQ.out (a := a) (by omega) a2).2⟩
      have h8 := may_128 HQ.out
      go_wp2_with fail
      refine (ktwin_of d A n c hn h5 (hid fun i hi => by rw [h8 i hi]; omega) _ (HR.out.keep hb1)).mono ?_
      rintro e w2 ⟨A2, c2, rfl, ho2, b2⟩
      have hb2 := below_in hb1 b2
      replace g0 := keepz b2 z0 g0
      replace g1 := keepz b2 z1 g1
      replace g2 := keepz b2 z2 g2
      replace g3 := keepz b2 z3 g3
      replace z0 := keep b2 z0
      replace z1 := keep b2 z1
      replace z2 := keep b2 z2
      replace z3 := keep b2 z3
      have hs2 := hid b2.size
      clear x0 x1 x2 x3 b2
      go_wp2_with fail
      refine (kstarted_any d A2 n c2 a ⟨by omega, by omega⟩ _).mono ?_
      rintro e w3 ⟨rfl, b3⟩
      have hb3 := below_in hb2 b3
      replace g0 := keepz b3 z0 g0
      replace g1 := keepz b3 z1 g1
      replace g2 := keepz b3 z2 g2
      replace g3 := keepz b3 z3 g3
      have ho3 := ho2.keep b3
      replace z0 := keep b3 z0
      replace z1 := keep b3 z1
      replace z2 := keep b3 z2
      replace z3 := keep b3 z3
      clear b3 ho2
      go_wp2
      have hn' := hn.out
      have hs1' := hs1.out
      have ew := EW.out
      subst hn'
      exact bodyPost_ret (v := .tuple #[.agg #[.slice A2 (d.se.length) c2, .int .i64 (d.st + 1), .int .i64 a, .bool false], .int .i64 0]) (by simp [results, Try.results16, go_sem, z0, z1, z2, z3, g0, g1, g2, g3]) rfl ⟨A2, c2, rfl, OwS.base ((((ho3.setc (by omega) _ _).setc (by omega) _ _).setc (by omega) _ _).setc (by omega) _ _) (by omega), set4 hb3 (by omega) _ _ _ _⟩
end Go.Proofs.Ytofnjdkfhboapaa
