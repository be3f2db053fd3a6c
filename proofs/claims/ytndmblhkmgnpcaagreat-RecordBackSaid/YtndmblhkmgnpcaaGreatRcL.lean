/-
  The document's own Get of layer 11.
-/
import Derived.Test.YtndmblhkmgnpcaaGreatRcK
import Derived.Deep.RegionHeld
namespace Go.Proofs.YtndmblhkmgnpcaaGreat
open Go.RowKit
set_option linter.unusedVariables false
set_option linter.unusedSimpArgs false

/-- Guards of arms: the operation is a store, a load of just these. -/
theorem at_store {ops : Array Oper} {rest : List Oper} {a : Act} {W : World} {Q : Exit → Act → World → Prop} (ty : TypeId) (x y : Operand) {d : Option Tmp} {t : TypeId} {p : String} {af : Array Edge} {g : Option (Nat × Bool)} (h : wpList Tryz.prog ops Q ({ dst := d, op := .store ty x y, type := t, pos := p, after := af, guard := g } :: rest) a W) : wpList Tryz.prog ops Q ({ dst := d, op := .store ty x y, type := t, pos := p, after := af, guard := g } :: rest) a W := h
theorem at_load {ops : Array Oper} {rest : List Oper} {a : Act} {W : World} {Q : Exit → Act → World → Prop} (ty : TypeId) (x : Operand) {d : Option Tmp} {t : TypeId} {p : String} {af : Array Edge} {g : Option (Nat × Bool)} (h : wpList Tryz.prog ops Q ({ dst := d, op := .load ty x, type := t, pos := p, after := af, guard := g } :: rest) a W) : wpList Tryz.prog ops Q ({ dst := d, op := .load ty x, type := t, pos := p, after := af, guard := g } :: rest) a W := h
theorem quietD {b : Nat} {s n i f : Int} {ops : Array Oper} {S : World → Prop} {op : Oper} {a : Act} (hw : Region.wanted op (yielded ops a.tmps) = true) (x : Operand) (ho : op.op = .load 42 x)
    (hx : a.eval x = .pointer (some ⟨b, 0, none⟩)) (hS : ∀ w, S w → BoxD w b s n i f) : YieldsIf Tryz.prog ops S op (.agg #[.int .i64 s, .int .i64 n, .int .i64 i, .int .i64 f]) a :=
  yieldsIf_load_mid hw 42 x ho b 0 hx _ _ (fun w h => hS w h) Tryz.underlying42 rfl info_D
theorem results_r3 {fn : Func} {p u v : Tmp} (h : fn.results = #[.cell p 40, .cell u 42, .tmp v]) {tmps : Array Value} {w : World} {b g : Nat} (hp : tmps.getD p undef = .pointer (some ⟨b, 0, none⟩)) (hu : tmps.getD u undef = .pointer (some ⟨g, 0, none⟩)) {r : Rec} {A : Option Addr} {n c : Nat} {s t i f : Int} (bx : BoxR w b r A n c) (bd : BoxD w g s t i f) : (results fn tmps).run Tryz.prog w = .ok (.tuple #[.agg #[.int .u8 r.kd, .int .i64 r.us, .int .u8 r.op.kd, .int .u8 r.op.l, .int .u32 r.op.c, .int .u8 r.op.k, .int .i64 r.op.s, .int .u8 r.op.fl, .int .u32 r.op.fc, .int .u8 r.op.fk, .int .i64 r.op.fn, .int .i64 r.op.fm, .int .u8 r.op.al, .int .u32 r.op.ac, .int .u8 r.op.ak, .int .i64 r.op.an, .int .u8 r.op.tl, .int .u32 r.op.tc, .slice A n c, .int .i64 r.co, .int .i64 r.gr.u, .int .u8 r.gr.l, .int .u32 r.gr.c, .bool r.gr.ok], .agg #[.int .i64 s, .int .i64 t, .int .i64 i, .int .i64 f], tmps.getD v undef]) w := by
  have hl := run_loadVar_mid (P := Tryz.prog) w b 0 40 _ _ bx Tryz.underlying40 rfl info_R
  have hd := run_loadVar_mid (P := Tryz.prog) w g 0 42 _ _ bd Tryz.underlying42 rfl info_D
  simp only [results, h]
  rw [Array.getD_eq_getD_getElem?] at hp hu
  simp [Sem.run_bind, hp, hu, asAddr, hl, hd]
theorem textB_pos {L : List (List UInt8)} (h : (textB L).length ≠ 0) : (∀ i (hi : i < L.length), L[i].length = 128) ∧ 0 < L.length ∧ textB L = textOf L ∧ (textB L).length = L.length * 119 := by
  by_cases ha : (L.all fun x => x.length == 128) = true
  · have e : textB L = textOf L := by rw [textB, if_pos ha]
    have h1 : ∀ i (hi : i < L.length), L[i].length = 128 := fun i hi => by
      have := List.all_eq_true.1 ha L[i] (List.getElem_mem hi)
      simpa using this
    have h2 := textOf_le L h1
    rw [e] at h ⊢
    exact ⟨h1, by omega, rfl, h2⟩
  · rw [textB, if_neg ha] at h
    simp at h
theorem Ris.text {l : List (List UInt8)} {r : Rec} {s n : Int} (h : Ris l r s n) : textB l = textOf l ∧ (textB l).length ≠ 0 := by
  have h1 : ∀ i (hi : i < l.length), l[i].length = 128 := fun i hi => by
    obtain ⟨_, _, _, rfl⟩ := h
    exact blks_cap s n _ _ (List.getElem_mem hi)
  have e := textB_all h1
  have h2 := textOf_le l h1
  have := h.pos
  exact ⟨e, by rw [e]; omega⟩
/-- The two boxes of the results. -/
structure Rs (w W : World) : Prop where
  tr : ThereR W w.heap.size
  td : ThereD W (w.heap.size + 1)
  be : Below w.heap.size w W
theorem Rs.keep {w W W' : World} (h : Rs w W) (hb : Below W.heap.size W W') : Rs w W' := ⟨h.tr.keep hb, h.td.keep hb, below_in h.be hb⟩
theorem rs_new (w : World) (t t' : TypeId) : Rs w ((w.alloc (.cells (#[.int .u8 0, .int .i64 0, .int .u8 0, .int .u8 0, .int .u32 0, .int .u8 0, .int .i64 0, .int .u8 0, .int .u32 0, .int .u8 0, .int .i64 0, .int .i64 0, .int .u8 0, .int .u32 0, .int .u8 0, .int .i64 0, .int .u8 0, .int .u32 0, .slice none 0 0, .int .i64 0, .int .i64 0, .int .u8 0, .int .u32 0, .bool false]) t)).alloc (.cells (#[.int .i64 0, .int .i64 0, .int .i64 0, .int .i64 0]) t')) := by
  have td := thereD_new (w.alloc (.cells (#[.int .u8 0, .int .i64 0, .int .u8 0, .int .u8 0, .int .u32 0, .int .u8 0, .int .i64 0, .int .u8 0, .int .u32 0, .int .u8 0, .int .i64 0, .int .i64 0, .int .u8 0, .int .u32 0, .int .u8 0, .int .i64 0, .int .u8 0, .int .u32 0, .slice none 0 0, .int .i64 0, .int .i64 0, .int .u8 0, .int .u32 0, .bool false]) t)) (#[.int .i64 0, .int .i64 0, .int .i64 0, .int .i64 0]) rfl t'
  rw [size1] at td
  exact ⟨(thereR_new w _ rfl _).keep (below1 _ _), td, below2 w _ _⟩
theorem ThereD.lt {W : World} {b : Nat} (h : ThereD W b) : b < W.heap.size := by
  obtain ⟨u, hu⟩ := Option.isSome_iff_exists.1 (h 0 (by omega)).1
  exact World.block_lt_of_cell? W _ hu
theorem BoxD.s {W : World} {b : Nat} {s n i f : Int} (h : BoxD W b s n i f) : W.cell? ⟨b, 0, none⟩ = some (.int .i64 s) := h 0 _ rfl
theorem BoxD.n {W : World} {b : Nat} {s n i f : Int} (h : BoxD W b s n i f) : W.cell? ⟨b, 1, none⟩ = some (.int .i64 n) := h 1 _ rfl
theorem BoxD.other {W W' : World} {b : Nat} (hh : ∀ k, k ≠ b → W'.heap[k]? = W.heap[k]?) {g : Nat} (hg : g ≠ b) {s n i f : Int} (h : BoxD W g s n i f) : BoxD W' g s n i f :=
  fun j v hv => cell_other hh (p := ⟨g, 0 + j, none⟩) hg (h j v hv)
def RetGR (w : World) (L : List (List UInt8)) (e : Ending) (w' : World) : Prop := ∃ r A k c s t i f j, e = .returned (.tuple #[.agg #[.int .u8 r.kd, .int .i64 r.us, .int .u8 r.op.kd, .int .u8 r.op.l, .int .u32 r.op.c, .int .u8 r.op.k, .int .i64 r.op.s, .int .u8 r.op.fl, .int .u32 r.op.fc, .int .u8 r.op.fk, .int .i64 r.op.fn, .int .i64 r.op.fm, .int .u8 r.op.al, .int .u32 r.op.ac, .int .u8 r.op.ak, .int .i64 r.op.an, .int .u8 r.op.tl, .int .u32 r.op.tc, .slice A k c, .int .i64 r.co, .int .i64 r.gr.u, .int .u8 r.gr.l, .int .u32 r.gr.c, .bool r.gr.ok], .agg #[.int .i64 s, .int .i64 t, .int .i64 i, .int .i64 f], .int .i64 j]) ∧ GotR L r s t i f j ∧ r.op.row.length = k ∧ OwnI w' w.heap.size 21 A c r.op.row ∧ Below w.heap.size w w'

set_option maxRecDepth 100000 in
set_option maxHeartbeats 6400000 in
theorem rcget_of (A : Option Addr) (n c : Nat) (L : List (List UInt8)) (hn : Hid (L.length = n)) (h5 : n ≤ 500) (w : World) (hr : RdB w A c L) :
    Calls Tryz.prog 18 #[.slice A n c] w (RetGR w L) := by
  have hc2 : (c : Int) ≤ 9223372036854775807 := by have := hr.cap; omega
  have hc1 : (n : Int) ≤ c := by have := hr.len; have := hn.out; omega
  obtain ⟨m, hm⟩ : ∃ m, (textB L).length = m := ⟨_, rfl⟩
  have HM := hid hm
  have HR := hid hr
  have rs := rs_new w 40 42
  clear hr
  go_enter Tryz.func18, Tryz.ntmps18
  go_wp2_with fail
  generalize World.alloc (World.alloc w _) _ = W at rs ⊢
  refine (rtext_of m L A n c hn h5 HM _ (HR.out.keep rs.be)).mono ?_
  rintro e w1 ⟨A1, c1, rfl, ho1, b1⟩
  replace rs := rs.keep b1
  have HO1 := hid ho1
  clear b1 ho1
  by_cases hm0 : m = 0
  · have HN := hid (show ∀ r' s' n', ¬ Ris L r' s' n' from fun r' s' n' h => h.text.2 (by rw [hm]; exact hm0))
    subst hm0
    clear hm HM HO1
    have one : True := trivial
    go_wp2_with (first
      | (clear one; (with_reducible refine at_store 40 (.tmp 2) (.tmp 15) ?_); refine wpList_store_r rfl (.tmp 2) (.tmp 15) rfl w.heap.size rfl zR none 0 0 rfl rs.tr w.heap.size (Nat.le_refl _) ?_; intro v5 bv5 tv5 bb5 hv5 zv5; have td5 : ThereD v5 (w.heap.size + 1) := there_other rs.td hv5 (by omega))
      | ((with_reducible refine at_store 42 (.tmp 3) (.tmp 16) ?_); refine wpList_store_d rfl (.tmp 3) (.tmp 16) rfl (w.heap.size + 1) rfl 0 0 0 0 rfl td5 w.heap.size (Nat.le_succ _) ?_; intro v6 bv6 tv6 bb6 hv6 zv6))
    exact bodyPost_ret (results_r3 rfl rfl rfl (bv5.other hv6 (by omega)) bv6) rfl ⟨zR, none, 0, 0, 0, 0, 0, 0, 8, rfl, .inr ⟨HN.out, rfl, rfl, rfl, rfl, rfl, rfl⟩, rfl, OwnI.nil _ _ _, (rs.be.trans bb5).trans bb6⟩
  obtain ⟨hall, hpos, hte, hml⟩ := textB_pos (L := L) (by rw [hm]; exact hm0)
  rw [hm] at hml
  have dm : ((m : Int) == 0) = false := by simpa using (show ¬ (m : Int) = 0 by omega)
  have hm119 : 119 ≤ m := by omega
  obtain ⟨b, o, rfl, hcell⟩ := (HR.out.keep rs.be).at_ hpos
  obtain ⟨B, d, hc0, hB⟩ := hcell 0 hpos
  rw [hall 0 hpos, Nat.add_zero] at hc0
  have hlt0 : (0 : Int) < (n : Int) := by have := hn.out; omega
  obtain ⟨l0, hl0⟩ : ∃ l, L[0] = l := ⟨_, rfl⟩
  have HL0 := hid (show l0.length = 128 by rw [← hl0]; exact hall 0 hpos)
  rw [hl0] at hB
  have HHD := hid (show ∀ r' s' n', Ris L r' s' n' → okHd l0 = true ∧ hS l0 = s' ∧ hN l0 = n' ∧ hI l0 = 0 ∧ hF l0 = nbl (rcb r') from fun r' s' n' h => by rw [← hl0]; exact h.head hpos)
  have HTE := hid hte
  obtain ⟨q, hq⟩ : ∃ q, okHd l0 = q := ⟨_, rfl⟩
  obtain ⟨x0, hx0⟩ : ∃ x, pick q (hS l0) = x := ⟨_, rfl⟩
  obtain ⟨x1, hx1⟩ : ∃ x, pick q (hN l0) = x := ⟨_, rfl⟩
  obtain ⟨x2, hx2⟩ : ∃ x, pick q (hI l0) = x := ⟨_, rfl⟩
  obtain ⟨x3, hx3⟩ : ∃ x, pick q (hF l0) = x := ⟨_, rfl⟩
  obtain ⟨z, hz⟩ : ∃ z, er q = z := ⟨_, rfl⟩
  have HX := hid (show okHd l0 = q ∧ pick q (hS l0) = x0 ∧ pick q (hN l0) = x1 ∧ pick q (hI l0) = x2 ∧ pick q (hF l0) = x3 from ⟨hq, hx0, hx1, hx2, hx3⟩)
  have HZ := hid hz
  have HB := hid hB
  have HLN := hid (show L.length = m / 119 by omega)
  clear hcell hB hall hte hq hx0 hx1 hx2 hx3 hz hl0 hpos hm hm0 hml
  go_wp2_with fail
  refine (rchead_of q x0 x1 x2 x3 B 128 d l0 HL0 HX _ HB.out).mono ?_
  rw [HZ.out]
  rintro e w2 ⟨rfl, b2⟩
  replace rs := rs.keep b2
  have HO2 := hid (HO1.out.rd.keep b2)
  have th2 := thereD_new w2 (#[.int .i64 0, .int .i64 0, .int .i64 0, .int .i64 0]) rfl 42
  clear b2 hc0
  have one : True := trivial
  go_wp2_with (clear one; (with_reducible refine at_store 42 (.tmp 6) (.tmp 22) ?_); refine wpList_store_d rfl (.tmp 6) (.tmp 22) rfl w2.heap.size rfl x0 x1 x2 x3 rfl th2 w2.heap.size (Nat.le_refl _) ?_; intro w3 bx3 tx3 b3 h3 z3; clear tx3 h3 z3 th2; replace b3 := ((Below.refl w2.heap.size w2).alloc (Nat.le_refl _) _).trans b3)
  have hlt2 := rs.td.lt
  have hz3' : w2.heap.size < w3.heap.size := by
    obtain ⟨u, hu⟩ : ∃ u, w3.cell? ⟨w2.heap.size, 0, none⟩ = some u := ⟨_, bx3.s⟩
    exact World.block_lt_of_cell? _ _ hu
  replace rs := rs.keep b3
  have HO3 := hid (HO2.out.keep b3)
  have hg6 : w.heap.size + 1 < w2.heap.size := hlt2
  have hz3 : w2.heap.size < w3.heap.size := hz3'
  generalize w2.heap.size = g6 at bx3 hg6 hz3 ⊢
  clear b3 HO2 HO1 hlt2 hz3'
  refine (rtell_of A1 m c1 (textB L) HM hm119 _ HO3.out).mono ?_
  rintro e w4 ⟨r, A4, k4, c4, u, rfl, htel, hk4, ho4, b4⟩
  have HTEL := hid htel
  have HK4 := hid hk4
  have HO4 := hid (OwnI.base (base' := w.heap.size + 2) (by omega) ho4)
  replace rs := rs.keep b4
  replace bx3 := bx3.keep b4
  have hg8 : w.heap.size + 1 < w4.heap.size := rs.td.lt
  have hg68 : g6 ≠ w4.heap.size := by have := b4.size; omega
  have th4 := thereR_new w4 (#[.int .u8 0, .int .i64 0, .int .u8 0, .int .u8 0, .int .u32 0, .int .u8 0, .int .i64 0, .int .u8 0, .int .u32 0, .int .u8 0, .int .i64 0, .int .i64 0, .int .u8 0, .int .u32 0, .int .u8 0, .int .i64 0, .int .u8 0, .int .u32 0, .slice none 0 0, .int .i64 0, .int .i64 0, .int .u8 0, .int .u32 0, .bool false]) rfl 40
  clear htel hk4 ho4 b4 HO3 hz3
  cases q
  · obtain rfl : z = 8 := HZ.out.symm
    have HN := hid (show ∀ r' s' n', ¬ Ris L r' s' n' from fun r' s' n' h => by
      have h1 := (HHD.out r' s' n' h).1
      rw [HX.out.1] at h1
      cases h1)
    clear HX HZ HHD HTEL
    have two : True := trivial
    go_wp2_with (first
      | (clear two; (with_reducible refine at_store 40 (.tmp 8) (.tmp 27) ?_); refine wpList_store_r rfl (.tmp 8) (.tmp 27) rfl w4.heap.size rfl r A4 k4 c4 rfl th4 w4.heap.size (Nat.le_refl _) ?_; intro w5 bx5 tx5 b5 h5' z5; clear bx5 tx5 h5' z5; replace b5 := ((Below.refl w4.heap.size w4).alloc (Nat.le_refl _) _).trans b5; have rs5 := rs.keep b5; have one : True := trivial)
      | (clear one; (with_reducible refine at_store 40 (.tmp 2) (.tmp 46) ?_); refine wpList_store_r rfl (.tmp 2) (.tmp 46) rfl w.heap.size rfl zR none 0 0 rfl rs5.tr w.heap.size (Nat.le_refl _) ?_; intro v5 bv5 tv5 bb5 hv5 zv5; have td5 : ThereD v5 (w.heap.size + 1) := there_other rs5.td hv5 (by omega))
      | ((with_reducible refine at_store 42 (.tmp 3) (.tmp 47) ?_); refine wpList_store_d rfl (.tmp 3) (.tmp 47) rfl (w.heap.size + 1) rfl 0 0 0 0 rfl td5 w.heap.size (Nat.le_succ _) ?_; intro v6 bv6 tv6 bb6 hv6 zv6))
    exact bodyPost_ret (results_r3 rfl rfl rfl (bv5.other hv6 (by omega)) bv6) rfl ⟨zR, none, 0, 0, 0, 0, 0, 0, 8, rfl, .inr ⟨HN.out, rfl, rfl, rfl, rfl, rfl, rfl⟩, rfl, OwnI.nil _ _ _, (rs5.be.trans bb5).trans bb6⟩
  cases u
  · obtain rfl : z = 0 := HZ.out.symm
    have HN := hid (show ∀ r' s' n', ¬ Ris L r' s' n' from fun r' s' n' h => by
      have h1 := (HTEL.out.one r' h.rr h.may (by rw [HTE.out]; exact h.pre)).1
      cases h1)
    clear HX HZ HHD HTEL
    have two : True := trivial
    go_wp2_with (first
      | (clear two; (with_reducible refine at_store 40 (.tmp 8) (.tmp 27) ?_); refine wpList_store_r rfl (.tmp 8) (.tmp 27) rfl w4.heap.size rfl r A4 k4 c4 rfl th4 w4.heap.size (Nat.le_refl _) ?_; intro w5 bx5 tx5 b5 h5' z5; clear bx5 tx5 h5' z5; replace b5 := ((Below.refl w4.heap.size w4).alloc (Nat.le_refl _) _).trans b5; have rs5 := rs.keep b5; have one : True := trivial)
      | (clear one; (with_reducible refine at_store 40 (.tmp 2) (.tmp 46) ?_); refine wpList_store_r rfl (.tmp 2) (.tmp 46) rfl w.heap.size rfl zR none 0 0 rfl rs5.tr w.heap.size (Nat.le_refl _) ?_; intro v5 bv5 tv5 bb5 hv5 zv5; have td5 : ThereD v5 (w.heap.size + 1) := there_other rs5.td hv5 (by omega))
      | ((with_reducible refine at_store 42 (.tmp 3) (.tmp 47) ?_); refine wpList_store_d rfl (.tmp 3) (.tmp 47) rfl (w.heap.size + 1) rfl 0 0 0 0 rfl td5 w.heap.size (Nat.le_succ _) ?_; intro v6 bv6 tv6 bb6 hv6 zv6))
    exact bodyPost_ret (results_r3 rfl rfl rfl (bv5.other hv6 (by omega)) bv6) rfl ⟨zR, none, 0, 0, 0, 0, 0, 0, 8, rfl, .inr ⟨HN.out, rfl, rfl, rfl, rfl, rfl, rfl⟩, rfl, OwnI.nil _ _ _, (rs5.be.trans bb5).trans bb6⟩
  obtain rfl : z = 0 := HZ.out.symm
  obtain ⟨mm, hmm⟩ : ∃ mm, nbl (rcb r) = mm := ⟨_, rfl⟩
  have HMAY := hid (HTEL.out.may rfl)
  have HKK := hid hmm
  have HHS := hid (show hS l0 = x0 ∧ hN l0 = x1 ∧ hI l0 = x2 ∧ hF l0 = x3 from HX.out.2)
  have HH := hid (show mayHd x0 x1 0 mm = true by
    have h1 := HX.out.1
    rw [okHd, Bool.and_eq_true] at h1
    have h2 := mayHd_iff.1 h1.2
    have h3 := nbl_r HMAY.out
    have h4 := HHS.out
    rw [hmm] at h3
    refine mayHd_iff.2 ?_
    rw [h4.1, h4.2.1] at h2
    omega)
  obtain ⟨v, hv⟩ : ∃ v, (blks x0 x1 (rcb r) == L) = v := ⟨_, rfl⟩
  have HV := hid hv
  clear hmm hv HX HZ
  have two : True := trivial
  have three : True := trivial
  go_wp2_with (first
    | (clear two; (with_reducible refine at_store 40 (.tmp 8) (.tmp 27) ?_); refine wpList_store_r rfl (.tmp 8) (.tmp 27) rfl w4.heap.size rfl r A4 k4 c4 rfl th4 w4.heap.size (Nat.le_refl _) ?_; intro w5 bx5 tx5 b5 h5' z5; clear tx5 h5' z5; replace b5 := ((Below.refl w4.heap.size w4).alloc (Nat.le_refl _) _).trans b5; have rs5 := rs.keep b5; have bx35 := bx3.keep b5; have s0 := bx35.s; have s1 := bx35.n; have HO5 := hid (HO4.out.keep b5))
    | (clear three; (with_reducible refine at_load 40 (.tmp 8) ?_); refine wpList_load_r rfl (.tmp 8) rfl w4.heap.size rfl bx5 ?_))
  clear th4 rs bx3 b5 s0 s1
  generalize w4.heap.size = g8 at *
  refine (rcblocks_of mm r A4 k4 c4 HK4 HTEL.out.rr HMAY.out x0 x1 HKK HH _ HO5.out.ri).mono ?_
  rintro e w6 ⟨A6, c6, rfl, ho6, b6⟩
  have rs6 := rs5.keep b6
  have bx36 := bx35.keep b6
  have bx56 := bx5.keep b6
  have HO6 := hid (HO5.out.keep b6)
  clear rs5 bx35 bx5 b6 HO5
  go_wp2_with fail
  refine (rsameb_of v (blks x0 x1 (rcb r)) A6 mm c6 (hid (by rw [blks_length]; exact HKK.out)) L (some ⟨b, o, none⟩) n c hn HV _ ho6.rd (HR.out.keep rs6.be)).mono ?_
  rintro e w7 ⟨rfl, b7⟩
  have rs7 := rs6.keep b7
  have bx37 := bx36.keep b7
  have bx57 := bx56.keep b7
  have HO7 := hid (HO6.out.keep b7)
  clear rs6 bx36 bx56 b7 HO6 ho6
  cases v
  · have HN := hid (show ∀ r' s' n', ¬ Ris L r' s' n' from fun r' s' n' h => by
      have h1 := (HTEL.out.one r' h.rr h.may (by rw [HTE.out]; exact h.pre)).2
      obtain ⟨_, h2, h3, _⟩ := HHD.out r' s' n' h
      have h4 := HHS.out
      rw [h4.1] at h2
      rw [h4.2.1] at h3
      subst h1 h2 h3
      have h5 := HV.out
      rw [h.eq] at h5
      simp at h5)
    clear HHD HTEL HV HH HHS HMAY HKK bx37 bx57 HO7
    have one : True := trivial
    go_wp2_with (first
      | (clear one; (with_reducible refine at_store 40 (.tmp 2) (.tmp 46) ?_); refine wpList_store_r rfl (.tmp 2) (.tmp 46) rfl w.heap.size rfl zR none 0 0 rfl rs7.tr w.heap.size (Nat.le_refl _) ?_; intro v5 bv5 tv5 bb5 hv5 zv5; have td5 : ThereD v5 (w.heap.size + 1) := there_other rs7.td hv5 (by omega))
      | ((with_reducible refine at_store 42 (.tmp 3) (.tmp 47) ?_); refine wpList_store_d rfl (.tmp 3) (.tmp 47) rfl (w.heap.size + 1) rfl 0 0 0 0 rfl td5 w.heap.size (Nat.le_succ _) ?_; intro v6 bv6 tv6 bb6 hv6 zv6))
    exact bodyPost_ret (results_r3 rfl rfl rfl (bv5.other hv6 (by omega)) bv6) rfl ⟨zR, none, 0, 0, 0, 0, 0, 0, 8, rfl, .inr ⟨HN.out, rfl, rfl, rfl, rfl, rfl, rfl⟩, rfl, OwnI.nil _ _ _, (rs7.be.trans bb5).trans bb6⟩
  · have HRIS := hid (show Ris L r x0 x1 from ⟨HTEL.out.rr, HMAY.out, by rw [HKK.out]; exact HH.out, eq_of_beq HV.out⟩)
    have HIF := hid (show x2 = 0 ∧ x3 = (L.length : Int) by
      obtain ⟨_, _, _, h3, h4⟩ := HHD.out r x0 x1 HRIS.out
      have h5 := HHS.out
      have h6 : L.length = nbl (rcb r) := by rw [← HRIS.out.eq, blks_length]
      rw [h6, ← h4, ← h3]
      exact ⟨h5.2.2.1.symm, h5.2.2.2.symm⟩)
    clear HHD HTEL HV HH HHS HMAY HKK
    go_wp2_with fail
    refine wp_region_held_drew (S := fun w' => BoxR w' g8 r A4 k4 c4 ∧ BoxD w' g6 x0 x1 x2 x3) (by kernel_rfl) ⟨bx57.keep (Below.refl _ _).drew, bx37.keep (Below.refl _ _).drew⟩ (fun hHeld => ?_)
    have S1 : Below w7.heap.size w7 w7.drew := (Below.refl _ _).drew
    have rs8 := rs7.keep S1
    have HO8 := hid (HO7.out.keep S1)
    have bx38 := bx37.keep S1
    have bx58 := bx57.keep S1
    clear S1 rs7 HO7 bx37 bx57
    generalize w7.drew = V at *
    refine wpAnyH_take (i := 0) (oi := { dst := some 48, op := Op.load 40 (Operand.tmp 8), type := 40, pos := "ref.go:197", after := #[], guard := none }) rfl (by kernel_rfl) (by kernel_rfl) (by kernel_rfl) (fun _ _ _ h => h) (yields_load_r (by rfl) (.tmp 8) rfl g8 rfl (fun w9 h => h.1)) hHeld ?_
    (try simp only [Act.put, List.setIfInBounds_toArray, List.set_cons_zero, List.set_cons_succ])
    refine wpAnyH_take (i := 1) (oi := { dst := some 49, op := Op.load 42 (Operand.tmp 6), type := 42, pos := "ref.go:197", after := #[{ on := 2, ground := Ground.gcOnly Departure.lateStores }], guard := none }) rfl (by kernel_rfl) (by kernel_rfl) (by kernel_rfl) (fun _ _ _ h => h) (quietD (b := g6) (by rfl) (.tmp 6) rfl rfl (fun w9 h => h.2)) hHeld ?_
    (try simp only [Act.put, List.setIfInBounds_toArray, List.set_cons_zero, List.set_cons_succ])
    refine wpAnyH_ready (rs := [2]) (by kernel_rfl) (by simp) ?_
    refine AllReadyH.cons rfl (fun K hK => ?_) AllReadyH.nil
    rw [if_pos (by rfl)]
    refine wp_store_mid 40 (.tmp 2) (.tmp 48) rfl w.heap.size 0 (#[.int .u8 r.kd, .int .i64 r.us, .int .u8 r.op.kd, .int .u8 r.op.l, .int .u32 r.op.c, .int .u8 r.op.k, .int .i64 r.op.s, .int .u8 r.op.fl, .int .u32 r.op.fc, .int .u8 r.op.fk, .int .i64 r.op.fn, .int .i64 r.op.fm, .int .u8 r.op.al, .int .u32 r.op.ac, .int .u8 r.op.ak, .int .i64 r.op.an, .int .u8 r.op.tl, .int .u32 r.op.tc, .slice A4 k4 c4, .int .i64 r.co, .int .i64 r.gr.u, .int .u8 r.gr.l, .int .u32 r.gr.c, .bool r.gr.ok]) rfl rfl rs8.tr info_R (by simp [Value.oneCell']) ?_
    (try simp only [Act.put, List.setIfInBounds_toArray, List.set_cons_zero, List.set_cons_succ])
    have y0 : BoxR (World.setCells V w.heap.size 0 ([.int .u8 r.kd, .int .i64 r.us, .int .u8 r.op.kd, .int .u8 r.op.l, .int .u32 r.op.c, .int .u8 r.op.k, .int .i64 r.op.s, .int .u8 r.op.fl, .int .u32 r.op.fc, .int .u8 r.op.fk, .int .i64 r.op.fn, .int .i64 r.op.fm, .int .u8 r.op.al, .int .u32 r.op.ac, .int .u8 r.op.ak, .int .i64 r.op.an, .int .u8 r.op.tl, .int .u32 r.op.tc, .slice A4 k4 c4, .int .i64 r.co, .int .i64 r.gr.u, .int .u8 r.gr.l, .int .u32 r.gr.c, .bool r.gr.ok])) w.heap.size r A4 k4 c4 := World.rangeAt_setCells_same V w.heap.size 0 _ rs8.tr
    have hh1 : ∀ k, k ≠ w.heap.size → (World.setCells V w.heap.size 0 ([.int .u8 r.kd, .int .i64 r.us, .int .u8 r.op.kd, .int .u8 r.op.l, .int .u32 r.op.c, .int .u8 r.op.k, .int .i64 r.op.s, .int .u8 r.op.fl, .int .u32 r.op.fc, .int .u8 r.op.fk, .int .i64 r.op.fn, .int .i64 r.op.fm, .int .u8 r.op.al, .int .u32 r.op.ac, .int .u8 r.op.ak, .int .i64 r.op.an, .int .u8 r.op.tl, .int .u32 r.op.tc, .slice A4 k4 c4, .int .i64 r.co, .int .i64 r.gr.u, .int .u8 r.gr.l, .int .u32 r.gr.c, .bool r.gr.ok])).heap[k]? = V.heap[k]? := fun k hk => heap_setCells w.heap.size _ 0 V k hk
    have y1 := bx58.other hh1 (by omega)
    have y2 := bx38.other hh1 (by omega)
    have y3 : ThereD _ (w.heap.size + 1) := there_other rs8.td hh1 (by omega)
    have y4 : Below w.heap.size w _ := rs8.be.trans (below_setCells w.heap.size w.heap.size (Nat.le_refl _) ([.int .u8 r.kd, .int .i64 r.us, .int .u8 r.op.kd, .int .u8 r.op.l, .int .u32 r.op.c, .int .u8 r.op.k, .int .i64 r.op.s, .int .u8 r.op.fl, .int .u32 r.op.fc, .int .u8 r.op.fk, .int .i64 r.op.fn, .int .i64 r.op.fm, .int .u8 r.op.al, .int .u32 r.op.ac, .int .u8 r.op.ak, .int .i64 r.op.an, .int .u8 r.op.tl, .int .u32 r.op.tc, .slice A4 k4 c4, .int .i64 r.co, .int .i64 r.gr.u, .int .u8 r.gr.l, .int .u32 r.gr.c, .bool r.gr.ok]) 0 V)
    have y5 := hid (HO8.out.other hh1 (by omega))
    refine hK.out _ _ ⟨y1, y2⟩ (fun hHeld2 => ?_)
    clear hK K hHeld rs8 bx58 bx38 HO8 y1 y2 hh1
    have hHeld := hHeld2
    clear hHeld2
    (try simp only [List.toList_toArray] at *)
    generalize World.setCells V w.heap.size 0 _ = V1 at *
    refine wpAnyH_ready (rs := [3]) (by kernel_rfl) (by simp) ?_
    refine AllReadyH.cons rfl (fun K hK => ?_) AllReadyH.nil
    rw [if_pos (by rfl)]
    refine wp_store_mid 42 (.tmp 3) (.tmp 49) rfl (w.heap.size + 1) 0 (#[.int .i64 x0, .int .i64 x1, .int .i64 x2, .int .i64 x3]) rfl rfl y3 info_D (by simp [Value.oneCell']) ?_
    (try simp only [Act.put, List.setIfInBounds_toArray, List.set_cons_zero, List.set_cons_succ])
    have z0 : BoxD (World.setCells V1 (w.heap.size + 1) 0 ([.int .i64 x0, .int .i64 x1, .int .i64 x2, .int .i64 x3])) (w.heap.size + 1) x0 x1 x2 x3 := World.rangeAt_setCells_same V1 (w.heap.size + 1) 0 _ y3
    have hh1 : ∀ k, k ≠ w.heap.size + 1 → (World.setCells V1 (w.heap.size + 1) 0 ([.int .i64 x0, .int .i64 x1, .int .i64 x2, .int .i64 x3])).heap[k]? = V1.heap[k]? := fun k hk => heap_setCells (w.heap.size + 1) _ 0 V1 k hk
    have z1 := y0.other hh1 (by omega)
    have z2 := hHeld.1.other hh1 (by omega)
    have z3 := hHeld.2.other hh1 (by omega)
    have z4 : Below w.heap.size w _ := y4.trans (below_setCells (w.heap.size + 1) w.heap.size (Nat.le_succ _) ([.int .i64 x0, .int .i64 x1, .int .i64 x2, .int .i64 x3]) 0 V1)
    have z5 := hid (y5.out.other hh1 (by omega))
    refine hK.out _ _ ⟨z2, z3⟩ (fun hHeld2 => ?_)
    clear hK K hHeld y0 y3 y4 y5 z2 z3 hh1
    have hHeld := hHeld2
    clear hHeld2
    (try simp only [List.toList_toArray] at *)
    generalize World.setCells V1 (w.heap.size + 1) 0 _ = V2 at *
    refine wpAnyH_take (i := 4) (oi := { dst := some 4, op := Op.assign (Operand.const (Value.int IntKind.i64 0)), type := 3, pos := "ref.go:197", after := #[{ on := 3, ground := Ground.chain }, { on := 0, ground := Ground.phase }, { on := 1, ground := Ground.phase }, { on := 2, ground := Ground.phase }, { on := 3, ground := Ground.phase }], guard := none }) (v := ?_) rfl (by kernel_rfl) (by kernel_rfl) (by kernel_rfl) (fun _ _ _ h => h) (Or.inl ⟨by rfl, ?_⟩) hHeld ?_
    rotate_left
    · intro w9 hSw
      (try dsimp only at hSw)
      go_simp <;> with_reducible rfl
    (try simp only [Act.put, List.setIfInBounds_toArray, List.set_cons_zero, List.set_cons_succ])
    refine wpAnyH_done (by kernel_rfl) ?_ _
    clear hHeld
    go_wp2_with fail
    obtain ⟨i0, f0⟩ := HIF.out
    exact bodyPost_ret (results_r3 rfl rfl rfl z1 z0) rfl ⟨r, A4, k4, c4, x0, x1, x2, x3, 0, rfl, .inl ⟨HRIS.out, i0, f0, rfl⟩, HK4.out, OwnI.base (by omega) z5.out, z4⟩
end Go.Proofs.YtndmblhkmgnpcaaGreat
