/-
  The program's own answers of layer 12: written, Write.
-/
import Derived.Test.YtofnjdkfhboapaaDpG
namespace Go.Proofs.Ytofnjdkfhboapaa
open Go.RowKit
set_option linter.unusedVariables false
set_option linter.unusedSimpArgs false

/-- A block that holds a disk. -/
def Tk (W : World) (b : Nat) : Prop := ∃ cur, W.heap[b]? = some (.cells cur 24 (0, 0))
theorem tk_new (w : World) (cs : Array Value) : Tk (w.alloc (.cells cs 24)) w.heap.size := ⟨cs, heap_alloc_new w _⟩
theorem Tk.lt {W : World} {b : Nat} (h : Tk W b) : b < W.heap.size := by
  obtain ⟨cur, h⟩ := h
  rcases Nat.lt_or_ge b W.heap.size with h' | h'
  · exact h'
  · rw [Array.getElem?_eq_none h'] at h; cases h
theorem Tk.keep {W W' : World} {b : Nat} (h : Tk W b) (hb : Below W.heap.size W W') : Tk W' b := by
  have hl := h.lt
  obtain ⟨cur, h⟩ := h
  exact ⟨cur, by rw [hb.block b hl]; exact h⟩
theorem Tk.mid {W W' : World} {lo hi b : Nat} (h : Tk W b) (hm : Mid lo hi W W') (hb : hi ≤ b) : Tk W' b := by
  have hl := h.lt
  obtain ⟨cur, h⟩ := h
  exact ⟨cur, by rw [hm.block b hl (.inr hb)]; exact h⟩
theorem Tk.other {W W' : World} {b g : Nat} (h : Tk W b) (hh : ∀ k, k ≠ g → W'.heap[k]? = W.heap[k]?) (hb : b ≠ g) : Tk W' b := by
  obtain ⟨cur, h⟩ := h
  exact ⟨cur, by rw [hh b hb]; exact h⟩
theorem Tk.setc {W : World} {b : Nat} (h : Tk W b) (g k : Nat) (v : Value) : Tk (W.setCell ⟨g, k, none⟩ v) b := by
  by_cases hg : b = g
  · subst hg
    obtain ⟨cur, h⟩ := h
    exact ⟨_, heap_setCell_same W b k cur _ v h⟩
  · exact h.other (fun q hq => Below.heap_setCell _ _ _ _ hq) hg
theorem OwT.box {W W' : World} {base : Nat} {A : Option Addr} {c : Nat} {L : List Sct} (h : OwT W base A c L) {g : Nat} (hT : Tk W g) (hh : ∀ k, k ≠ g → W'.heap[k]? = W.heap[k]?) : OwT W' base A c L := by
  obtain ⟨xs, h1, h2, h3, h4⟩ := h
  obtain ⟨cur, hT⟩ := hT
  exact ⟨xs, h1, row_else hh h2 (row_type hT (by decide) h2), fun x hx => row_else hh (h3 x hx) (row_type hT (by decide) (h3 x hx)), h4⟩
theorem OwT.boxc {W : World} {base : Nat} {A : Option Addr} {c : Nat} {L : List Sct} (h : OwT W base A c L) {g : Nat} (hT : Tk W g) (k : Nat) (v : Value) : OwT (W.setCell ⟨g, k, none⟩ v) base A c L :=
  h.box hT fun q hq => Below.heap_setCell _ _ _ _ hq
theorem Mid.setc {lo hi : Nat} {w w' : World} (h : Mid lo hi w w') {g : Nat} (hg : w.heap.size ≤ g) (k : Nat) (v : Value) : Mid lo hi w (w'.setCell ⟨g, k, none⟩ v) :=
  ⟨h.os, h.tape, h.output, by simpa [World.setCell] using h.size, fun q hq hl => (Below.heap_setCell _ _ _ _ (by show q ≠ g; omega)).trans (h.block q hq hl)⟩
theorem Mid.sto {lo hi g base : Nat} {w a b : World} (h : Mid lo hi w a) (hb : Below base a b) (hh : ∀ k, k ≠ g → b.heap[k]? = a.heap[k]?) (hg : w.heap.size ≤ g) : Mid lo hi w b :=
  ⟨hb.os.trans h.os, hb.tape.trans h.tape, hb.output.trans h.output, Nat.le_trans h.size hb.size, fun k hk hl => (hh k (by omega)).trans (h.block k hk hl)⟩
theorem Mid.outer {lo hi : Nat} {w a b : World} (h : Below w.heap.size w a) (hm : Mid lo hi a b) (hs : hi ≤ w.heap.size) : Mid lo hi w b :=
  ⟨hm.os.trans h.os, hm.tape.trans h.tape, hm.output.trans h.output, Nat.le_trans h.size hm.size, fun k hk hl => (hm.block k (Nat.lt_of_lt_of_le hk h.size) hl).trans (h.block k hk)⟩

def RetW (w : World) (base : Nat) (v : Dsk) (e : Ending) (w' : World) : Prop := ∃ A' m c', e = .returned (.agg #[.slice A' m c', .int .i64 v.st, .int .i64 v.lf, .bool v.dd]) ∧ Hid (v.se.length = m) ∧ OwT w' base A' c' v.se ∧ Mid base w.heap.size w w'

set_option maxRecDepth 100000 in
set_option maxHeartbeats 1600000 in
theorem dwritten_of (d : Dsk) (G n : Nat) (a : Int) (B : Option Addr) (q : Nat) (y : List UInt8) (v : Dsk) (base : Nat) (hn : Hid (d.se.length = n)) (h5 : n ≤ 6200) (hl : InD d.lf) (hS : Hid (secsB d.se = true)) (h8 : Hid (∀ i (hi : i < d.se.length), d.se[i].b.length = 128)) (hy : Hid (y.length = 128)) (hv : Hid (writtenK d a y = v)) (w : World) (hbase : base ≤ w.heap.size) (ho : OwT w base (some ⟨G, 0, none⟩) n d.se) (hs : Rd w B q y) :
    Calls Try.prog 28 #[.agg #[.slice (some ⟨G, 0, none⟩) n n, .int .i64 d.st, .int .i64 d.lf, .bool d.dd], .int .i64 a, .slice B 128 q] w (RetW w base v) := by
  obtain ⟨L, st, lf, dd⟩ := d
  obtain ⟨l0, l1⟩ := hl
  simp only at hn l0 l1 hS h8 ho
  have tk := twoK_new w ⟨L, st, lf, dd⟩ (some ⟨G, 0, none⟩) n n
  obtain ⟨xa, xz⟩ := tk.bks
  have be := tk.be
  have ta := (tk_new w (#[.slice (some ⟨G, 0, none⟩) n n, .int .i64 st, .int .i64 lf, .bool dd])).keep (below1 _ (.cells (#[.slice none 0 0, .int .i64 0, .int .i64 0, .bool false]) 24))
  have tz := tk_new (w.alloc (.cells (#[.slice (some ⟨G, 0, none⟩) n n, .int .i64 st, .int .i64 lf, .bool dd]) 24)) #[.slice none 0 0, .int .i64 0, .int .i64 0, .bool false]
  rw [show (w.alloc (.cells (#[.slice (some ⟨G, 0, none⟩) n n, .int .i64 st, .int .i64 lf, .bool dd]) 24)).heap.size = w.heap.size + 1 by simp [go_sem]] at tz
  have HO := hid ho
  have HB := hid hs
  clear ho hs
  go_enter Try.func28, Try.ntmps28
  obtain ⟨W, hWg⟩ : ∃ W, (w.alloc (.cells (#[.slice (some ⟨G, 0, none⟩) n n, .int .i64 st, .int .i64 lf, .bool dd]) 24)).alloc (.cells (#[.slice none 0 0, .int .i64 0, .int .i64 0, .bool false]) 24) = W := ⟨_, rfl⟩
  simp only at tk xa xz be ta tz
  rw [hWg] at tk xa xz be ta tz
  have hsz := tk.sz
  have x0 := xa.bx.sl
  have x2 := xa.bx.l
  have x3 := xa.bx.d
  have f0 := xa.fz 0 (by omega)
  have f2 := xa.fz 2 (by omega)
  have f3 := xa.fz 3 (by omega)
  clear tk
  cases dd with
  | true =>
    obtain rfl : v = ⟨L, st, lf, true⟩ := by rw [← hv.out]; exact written_dead (.inl rfl) a y
    go_wp2_with (first
      | ((with_reducible refine at_load 24 (.tmp 3) ?_); refine wpList_load_k rfl (.tmp 3) rfl w.heap.size rfl xa.bx ?_)
      | ((with_reducible refine at_store 24 (.tmp 6) (.tmp 10) ?_); refine wpList_store_k rfl (.tmp 6) (.tmp 10) rfl (w.heap.size + 1) rfl ⟨L, st, lf, true⟩ (some ⟨G, 0, none⟩) n n rfl xz w.heap.size (by omega) ?_; intro w3 k3 b3 h3 z3))
    exact bodyPost_ret (results_k rfl rfl k3.bx) rfl ⟨some ⟨G, 0, none⟩, n, n, rfl, hn, (HO.out.keep be).box tz h3, (Mid.of be).sto b3 h3 (by omega)⟩
  | false =>
    by_cases h0 : lf = 0
    · subst h0
      obtain rfl : v = ⟨L, st, 0, true⟩ := by rw [← hv.out]; exact written_dead (.inr rfl) a y
      go_wp2_with (first
        | ((with_reducible refine at_load 24 (.tmp 3) ?_); refine wpList_load_k rfl (.tmp 3) rfl w.heap.size rfl (xa.setD true).bx ?_)
        | ((with_reducible refine at_store 24 (.tmp 6) (.tmp 16) ?_); refine wpList_store_k rfl (.tmp 6) (.tmp 16) rfl (w.heap.size + 1) rfl ⟨L, st, 0, true⟩ (some ⟨G, 0, none⟩) n n rfl (xz.far (by omega) _ _) w.heap.size (by omega) ?_; intro w3 k3 b3 h3 z3))
      exact bodyPost_ret (results_k rfl rfl k3.bx) rfl ⟨some ⟨G, 0, none⟩, n, n, rfl, hn, ((HO.out.keep be).boxc ta _ _).box (tz.setc _ _ _) h3, ((Mid.of be).setc (Nat.le_refl _) _ _).sto b3 h3 (by omega)⟩
    have d0 : (lf == 0) = false := by simpa using h0
    by_cases h1 : 0 < lf
    · obtain rfl : v = ⟨withS L a y, st, lf - 1, false⟩ := by rw [← hv.out]; exact written_more rfl h1 a y
      go_wp2_with fail
      have xa1 := xa.setL (lf - 1)
      have xz1 := xz.far (g := w.heap.size) (by omega) 2 (.int .i64 (lf - 1))
      have ta1 := ta.setc w.heap.size 2 (.int .i64 (lf - 1))
      have tz1 := tz.setc w.heap.size 2 (.int .i64 (lf - 1))
      have be1 := be.setCell (p := ⟨w.heap.size, 2, none⟩) (Nat.le_refl _) (.int .i64 (lf - 1))
      generalize World.setCell W _ _ = W1 at xa1 xz1 ta1 tz1 be1 ⊢
      clear hWg
      refine (dwith_of L G n a B q y base hn h5 hS h8 hy w W1 be1 hbase HO.out (HB.out.keep be1)).mono ?_
      rintro e w3 ⟨A3, m, c3, rfl, hm, ho3, m3⟩
      have k3 := m3.bk xa1 (.inr (Nat.le_refl _))
      have z3 := m3.bk xz1 (.inr (by omega))
      have t3 := ta1.mid m3 (Nat.le_refl _)
      have u3 := tz1.mid m3 (by omega)
      have mm := Mid.outer be1 m3 (Nat.le_refl _)
      have y0 := k3.bx.sl
      have g0 := k3.fz 0 (by omega)
      clear x0 x2 x3 f0 f2 f3 xa xz be ta tz xa1 xz1 ta1 tz1 be1 m3
      go_wp2_with (first
        | ((with_reducible refine at_load 24 (.tmp 3) ?_); refine wpList_load_k rfl (.tmp 3) rfl w.heap.size rfl (k3.setA A3 m c3 (withS L a y)).bx ?_)
        | ((with_reducible refine at_store 24 (.tmp 6) (.tmp 31) ?_); refine wpList_store_k rfl (.tmp 6) (.tmp 31) rfl (w.heap.size + 1) rfl ⟨withS L a y, st, lf - 1, false⟩ A3 m c3 rfl (z3.far (by omega) _ _) w.heap.size (by omega) ?_; intro w5 x5 b5 h5 z5))
      exact bodyPost_ret (results_k rfl rfl x5.bx) rfl ⟨A3, m, c3, rfl, hm, (ho3.boxc t3 _ _).box (u3.setc _ _ _) h5, (mm.setc (Nat.le_refl _) _ _).sto b5 h5 (by omega)⟩
    · obtain rfl : v = ⟨withS L a y, st, lf, false⟩ := by rw [← hv.out]; exact written_less rfl (show lf < 0 by omega) a y
      go_wp2_with fail
      clear hWg
      refine (dwith_of L G n a B q y base hn h5 hS h8 hy w W be hbase HO.out (HB.out.keep be)).mono ?_
      rintro e w3 ⟨A3, m, c3, rfl, hm, ho3, m3⟩
      have k3 := m3.bk xa (.inr (Nat.le_refl _))
      have z3 := m3.bk xz (.inr (by omega))
      have t3 := ta.mid m3 (Nat.le_refl _)
      have u3 := tz.mid m3 (by omega)
      have mm := Mid.outer be m3 (Nat.le_refl _)
      have y0 := k3.bx.sl
      have g0 := k3.fz 0 (by omega)
      clear x0 x2 x3 f0 f2 f3 xa xz be ta tz m3
      go_wp2_with (first
        | ((with_reducible refine at_load 24 (.tmp 3) ?_); refine wpList_load_k rfl (.tmp 3) rfl w.heap.size rfl (k3.setA A3 m c3 (withS L a y)).bx ?_)
        | ((with_reducible refine at_store 24 (.tmp 6) (.tmp 31) ?_); refine wpList_store_k rfl (.tmp 6) (.tmp 31) rfl (w.heap.size + 1) rfl ⟨withS L a y, st, lf, false⟩ A3 m c3 rfl (z3.far (by omega) _ _) w.heap.size (by omega) ?_; intro w5 x5 b5 h5 z5))
      exact bodyPost_ret (results_k rfl rfl x5.bx) rfl ⟨A3, m, c3, rfl, hm, (ho3.boxc t3 _ _).box (u3.setc _ _ _) h5, (mm.setc (Nat.le_refl _) _ _).sto b5 h5 (by omega)⟩

theorem may_len {d : Dsk} (h : mayD d = true) : d.se.length ≤ 6146 := by
  rw [mayD, Bool.and_eq_true] at h
  have h0 := h.1
  have key : ∀ i (hi : i < d.se.length), (i : Int) ≤ d.se[i].a := by
    intro i
    induction i with
    | zero => intro hi; exact (secs_get h0 0 hi).1
    | succ i ih =>
      intro hi
      have h1 := ih (by omega)
      have h2 := secs_step h0 i hi
      omega
  rcases Nat.lt_or_ge 6146 d.se.length with h1 | h1
  · have h2 := key 6146 h1
    have h3 := (secs_get h0 6146 h1).2.1
    omega
  · exact h1

set_option maxRecDepth 100000 in
set_option maxHeartbeats 1600000 in
theorem dwrite_of (d : Dsk) (A : Option Addr) (n c : Nat) (a : Int) (B : Option Addr) (p q : Nat) (y : List UInt8) (v : Dsk) (k : Int) (hn : Hid (d.se.length = n)) (h5 : n ≤ 9000) (hp : Hid (y.length = p)) (hv : Hid (writeV d a y = v)) (hk : Hid (writeE d a y = k)) (w : World) (hr : RdS w A c d.se) (hs : Rd w B q y) :
    Calls Try.prog 8 #[.agg #[.slice A n c, .int .i64 d.st, .int .i64 d.lf, .bool d.dd], .int .i64 a, .slice B p q] w (RetDT w v k) := by
  obtain ⟨r, hq⟩ : ∃ q, (if mayD d = true then (0 : Int) else 8) = q := ⟨_, rfl⟩
  have HQ := hid hq
  have tk := twoK_new w d A n c
  have HR := hid hr
  have HB := hid hs
  clear hr hs hq
  go_enter Try.func8, Try.ntmps8
  have one : True := trivial
  go_wp2_with (clear one; generalize World.alloc (World.alloc w _) _ = W at tk ⊢; refine wpList_load_k rfl (.tmp 3) rfl w.heap.size rfl tk.xa ?_)
  refine (dcheck_of d A n c hn r HQ _ (HR.out.keep tk.be)).mono ?_
  rintro e w1 ⟨rfl, b1⟩
  obtain ⟨xa, xz⟩ := tk.bks
  replace xa := xa.keep b1
  replace xz := xz.keep b1
  have hb1 := below_in tk.be b1
  have hs1 : Hid (w.heap.size + 2 ≤ w1.heap.size) := hid (by have := b1.size; have := tk.sz; omega)
  clear tk b1
  cases hm : mayD d with
  | false =>
    obtain rfl : 8 = r := by rw [← HQ.out, hm]; simp
    obtain ⟨rfl, rfl⟩ : k = 8 ∧ v = zK := ⟨by rw [← hk.out]; exact (write_no hm a y).1, by rw [← hv.out]; exact (write_no hm a y).2⟩
    go_wp2_with ((with_reducible refine at_store 24 (.tmp 6) (.tmp 13) ?_); refine wpList_store_k rfl (.tmp 6) (.tmp 13) rfl (w.heap.size + 1) rfl zK none 0 0 rfl xz w.heap.size (by omega) ?_; intro w2 x2 b2 h2 z2)
    exact bodyPost_ret (results_k1 rfl rfl x2.bx) rfl ⟨none, 0, rfl, OwT.nil _ _, hb1.trans b2⟩
  | true =>
    obtain rfl : 0 = r := by rw [← HQ.out, hm]; simp
    have HM := hid hm
    clear hm
    obtain ⟨u, hu⟩ : ∃ u, (decide (0 ≤ a) && decide (a < 6146)) = u := ⟨_, rfl⟩
    have HU := hid hu
    clear hu
    cases u with
    | false =>
      have h2 : ¬ (0 ≤ a ∧ a < 6146 ∧ y.length = 128) := by have := HU.out; simp at this; omega
      obtain ⟨rfl, rfl⟩ : k = 2 ∧ v = zK := ⟨by rw [← hk.out]; exact (write_arg HM.out h2).1, by rw [← hv.out]; exact (write_arg HM.out h2).2⟩
      clear h2
      go_wp2_with (first
        | (go_at_call 27; refine (placeMay_of a false HU _).mono ?_; rintro e w2 ⟨rfl, rfl⟩)
        | ((with_reducible refine at_store 24 (.tmp 6) (.tmp 23) ?_); refine wpList_store_k rfl (.tmp 6) (.tmp 23) rfl (w.heap.size + 1) rfl zK none 0 0 rfl xz w.heap.size (by omega) ?_; intro w2 x2 b2 h2 z2))
      exact bodyPost_ret (results_k1 rfl rfl x2.bx) rfl ⟨none, 0, rfl, OwT.nil _ _, hb1.trans b2⟩
    | true =>
      have h3 : 0 ≤ a ∧ a < 6146 := by have := HU.out; simpa using this
      by_cases a2 : p = 128
      · subst a2
        obtain ⟨rfl, hve⟩ : k = 0 ∧ writtenK d a y = v := ⟨by rw [← hk.out]; exact (write_ok HM.out (a := a) ⟨h3.1, h3.2, hp.out⟩).1, by rw [← hv.out]; exact (write_ok HM.out (a := a) ⟨h3.1, h3.2, hp.out⟩).2.symm⟩
        have h8 := may_128 HM.out
        have H8 := hid h8
        have H6 : Hid (∀ i (hi : i < d.se.length), d.se[i].b.length ≤ 140737488355328) := hid fun i hi => by rw [h8 i hi]; omega
        have hlf := may_lf HM.out
        have HS := hid (show secsB d.se = true by have := HM.out; rw [mayD, Bool.and_eq_true] at this; exact this.1)
        have HV := hid hve
        have h62 : n ≤ 6200 := by have := may_len HM.out; have := hn.out; omega
        clear hv hk hve h3 h8
        go_wp2_with (first
          | (go_at_call 27; refine (placeMay_of a true HU _).mono ?_; rintro e w2 ⟨rfl, rfl⟩)
          | ((with_reducible refine at_load 24 (.tmp 3) ?_); refine wpList_load_k rfl (.tmp 3) rfl w.heap.size rfl xa.bx ?_))
        refine (dtwin_of d A n c hn h5 H6 _ (HR.out.keep hb1)).mono ?_
        rintro e w3 ⟨G, rfl, ho3, b3⟩
        have hb3 := below_in hb1 b3
        replace xa := xa.keep b3
        replace xz := xz.keep b3
        have hs3 := hid b3.size
        clear b3
        go_wp2_with fail
        refine (dwritten_of d G n a B q y v w1.heap.size hn h62 hlf HS H8 hp HV w3 hs3.out ho3 (HB.out.keep hb3)).mono ?_
        rintro e w4 ⟨A4, m, c4, rfl, hm4, ho4, m4⟩
        have x4 := m4.bk xa (.inl (by have := hs1.out; omega))
        have z4 := m4.bk xz (.inl (by have := hs1.out; omega))
        have hb4 := hb3.trans ((m4.below hs3.out).mono (by have := hs1.out; omega))
        clear m4 xa xz
        go_wp2_with ((with_reducible refine at_store 24 (.tmp 6) (.tmp 28) ?_); refine wpList_store_k rfl (.tmp 6) (.tmp 28) rfl (w.heap.size + 1) rfl v A4 m c4 rfl z4 w.heap.size (by omega) ?_; intro w5 x5 b5 h5' z5)
        have hm' := hm4.out
        subst hm'
        have hs1' := hs1.out
        exact bodyPost_ret (results_k1 rfl rfl x5.bx) rfl ⟨A4, c4, rfl, OwT.base (base := w1.heap.size) (ho4.same (g := w.heap.size + 1) (by omega) h5') (by omega), hb4.trans b5⟩
      · have d2 : ((p : Int) != 128) = true := by simpa using (show ¬ (p : Int) = 128 by omega)
        have h2 : ¬ (0 ≤ a ∧ a < 6146 ∧ y.length = 128) := by have := hp.out; omega
        obtain ⟨rfl, rfl⟩ : k = 2 ∧ v = zK := ⟨by rw [← hk.out]; exact (write_arg HM.out h2).1, by rw [← hv.out]; exact (write_arg HM.out h2).2⟩
        clear h2 h3
        go_wp2_with (first
          | (go_at_call 27; refine (placeMay_of a true HU _).mono ?_; rintro e w2 ⟨rfl, rfl⟩)
          | ((with_reducible refine at_store 24 (.tmp 6) (.tmp 23) ?_); refine wpList_store_k rfl (.tmp 6) (.tmp 23) rfl (w.heap.size + 1) rfl zK none 0 0 rfl xz w.heap.size (by omega) ?_; intro w2 x2 b2 h2 z2))
        exact bodyPost_ret (results_k1 rfl rfl x2.bx) rfl ⟨none, 0, rfl, OwT.nil _ _, hb1.trans b2⟩
end Go.Proofs.Ytofnjdkfhboapaa
