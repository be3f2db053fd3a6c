/-
  An operation in a box, written field by field; the closures that take what stands behind an operation's span.
-/
import Derived.Test.YtndmblhkmgnpcaaGreatOA
import Derived.Test.YtndmblhkmgnpcaaGreatIA
import Derived.Test.YtndmblhkmgnpcaaGreatRH
import Derived.Test.YtndmblhkmgnpcaaGreatON
import Derived.Test.YtndmblhkmgnpcaaGreatOD
namespace Go.Proofs.YtndmblhkmgnpcaaGreat
open Go.RowKit
set_option linter.unusedVariables false
set_option linter.unusedSimpArgs false

/-- What is cut off a slice at its front, wherever the walk says that it lies. -/
theorem Rd.behind {w : World} {b o c : Nat} {l : List UInt8} (h : Rd w (some ⟨b, o, none⟩) c l) (k : Nat) (hk : k ≤ l.length) {A : Option Addr} (hA : k ≠ c → A = some ⟨b, o + k, none⟩) : Rd w A (c - k) (l.drop k) := by
  by_cases h1 : k < l.length
  · rw [hA (by have := h.1; omega)]
    exact h.drop k h1
  · have e : l.drop k = [] := List.drop_eq_nil_of_le (by omega)
    rw [e]
    exact ⟨by simp, by have := h.2.1; unfold maxLen at *; omega, fun hp => absurd hp (by simp)⟩


/-- The bytes that a reader has left, in a cell of its own; they lie where nothing is written. -/
structure Rdr (w0 w : World) (g : Nat) (A : Option Addr) (n c : Nat) (l : List UInt8) : Prop where
  cell : w.cell? ⟨g, 0, none⟩ = some (.slice A n c)
  may : w.frozen? ⟨g, 0, none⟩ = false
  rd : Rd w0 A c l
  len : l.length = n
  old : Below w0.heap.size w0 w
  far : w0.heap.size ≤ g
/-- What a method of a reader leaves as it was: all but the reader's own cell. -/
structure Turn (g : Nat) (w w' : World) : Prop where
  size : w.heap.size ≤ w'.heap.size
  heap : ∀ k, k < w.heap.size → k ≠ g → w'.heap[k]? = w.heap[k]?
  low : Below g w w'
theorem Turn.trans {g : Nat} {a b c : World} (h : Turn g a b) (k : Turn g b c) : Turn g a c :=
  ⟨Nat.le_trans h.size k.size, fun i hi hg => (k.heap i (Nat.lt_of_lt_of_le hi h.size) hg).trans (h.heap i hi hg), h.low.trans k.low⟩
theorem Turn.set (g : Nat) (w : World) (v : Value) : Turn g w (w.setCell ⟨g, 0, none⟩ v) :=
  ⟨by simp [World.setCell], fun k _ hk => Below.heap_setCell w ⟨g, 0, none⟩ v k hk, Below.setCell (B := g) (Below.refl g w) (p := ⟨g, 0, none⟩) (Nat.le_refl g) v⟩
theorem Turn.below {g : Nat} {w w' : World} (h : Below w.heap.size w w') (hg : g ≤ w.heap.size) : Turn g w w' :=
  ⟨h.size, fun k hk _ => h.block k hk, h.mono hg⟩
theorem Turn.cell {g : Nat} {w w' : World} (h : Turn g w w') {p : Addr} (hp : p.block ≠ g) {v : Value} (hc : w.cell? p = some v) : w'.cell? p = some v := by
  rw [World.cell?_of_block (w := w) (h.heap p.block (World.block_lt_of_cell? w p hc) hp)]; exact hc
theorem Turn.frozen {g : Nat} {w w' : World} (h : Turn g w w') {p : Addr} (hp : p.block ≠ g) {v : Value} (hc : w.cell? p = some v) (hf : w.frozen? p = false) : w'.frozen? p = false := by
  rw [World.frozen?_of_block (w := w) (h.heap p.block (World.block_lt_of_cell? w p hc) hp)]; exact hf
theorem Rdr.lt {w0 w : World} {g : Nat} {A : Option Addr} {n c : Nat} {l : List UInt8} (h : Rdr w0 w g A n c l) : g < w.heap.size := World.block_lt_of_cell? w _ h.cell
/-- A reader behind a call that makes memory alone. -/
theorem Rdr.keep {w0 w w' : World} {g : Nat} {A : Option Addr} {n c : Nat} {l : List UInt8} (h : Rdr w0 w g A n c l) (hb : Below w.heap.size w w') : Rdr w0 w' g A n c l :=
  ⟨Go.Proofs.YtndmblhkmgnpcaaGreat.keep hb h.cell, keepz hb h.cell h.may, h.rd, h.len, h.old.trans (hb.mono h.old.size), h.far⟩
/-- The reader's cell turned. -/
theorem Rdr.turned {w0 w : World} {g : Nat} {A B : Option Addr} {n c m d : Nat} {l k : List UInt8} (h : Rdr w0 w g A n c l) (hr : Rd w0 B d k) (hk : k.length = m) : Rdr w0 (w.setCell ⟨g, 0, none⟩ (.slice B m d)) g B m d k :=
  ⟨by rw [World.cell?_setCell_same _ _ _ h.cell], by rw [World.frozen?_setCell]; exact h.may, hr, hk, h.old.setCell h.far _, h.far⟩

theorem take_post {w0 w : World} {g : Nat} {A : Option Addr} {n c k q : Nat} {l : List UInt8} (hr : Rdr w0 w g A n c l) (hq : q = min k n) (B : Option Addr) (hB : Rd w0 B (c - q) (l.drop q)) :
    Rd (w.setCell ⟨g, 0, none⟩ (.slice B (n - q) (c - q))) A c (l.take k) ∧ Rdr w0 (w.setCell ⟨g, 0, none⟩ (.slice B (n - q) (c - q))) g B (n - q) (c - q) (l.drop k) ∧ Turn g w (w.setCell ⟨g, 0, none⟩ (.slice B (n - q) (c - q))) := by
  have hl := hr.len
  have hdd : l.drop q = l.drop k := by
    by_cases h : k ≤ n
    · rw [show q = k by omega]
    · rw [List.drop_eq_nil_of_le (by omega), List.drop_eq_nil_of_le (by omega)]
  rw [hdd] at hB
  have ht := hr.turned (m := n - q) hB (by rw [List.length_drop]; omega)
  exact ⟨(hr.rd.take k).keep ht.old, ht, Turn.set _ _ _⟩

set_option maxRecDepth 100000 in
set_option maxHeartbeats 1600000 in
theorem take_any (k p : Nat) (w0 : World) (g : Nat) (A : Option Addr) (n c : Nat) (l : List UInt8) (hp : Hid (p = min k n)) (w : World) (hr : Rdr w0 w g A n c l) :
    Calls Tryz.prog 151 #[.pointer (some ⟨g, 0, none⟩), .int .i64 (k : Int)] w fun e w' => e = .returned (.slice A p c) ∧ Rd w' A c (l.take k) ∧ (∃ B m d, Rdr w0 w' g B m d (l.drop k)) ∧ Turn g w w' := by
  have hc2 : (c : Int) ≤ 9223372036854775807 := by have := hr.rd.cap; omega
  have hc1 : (n : Int) ≤ c := by have := hr.rd.len; have := hr.len; omega
  have hl := hr.len
  have hcell := hr.cell
  have hmay := hr.may
  have HR := hid hr
  have HP := fun B hB => hid (take_post (k := k) (q := p) HR.out hp.out B hB)
  by_cases h0 : n = 0
  · have hp0 : p = 0 := by rw [hp.out]; omega
    have hln : l = [] := List.eq_nil_of_length_eq_zero (by omega)
    have hD : ∀ B, Rd w0 B (c - 0) (l.drop 0) := fun B => by rw [hln]; exact ⟨by simp, by unfold maxLen; omega, fun hp => absurd hp (by simp)⟩
    have HD := hid hD
    subst h0 hp0
    clear hD hln hl hr hp
    by_cases hk : k = 0
    · subst hk
      match A with
      | none =>
        have HX := HP none (HD.out _)
        go_enter Tryz.func151, Tryz.ntmps151
        go_wp2
        go_ret
        exact ⟨rfl, HX.out.1, ⟨_, _, _, HX.out.2.1⟩, HX.out.2.2⟩
      | some a =>
        have HX := HP (some a) (HD.out _)
        go_enter Tryz.func151, Tryz.ntmps151
        go_wp2
        go_ret
        exact ⟨rfl, HX.out.1, ⟨_, _, _, HX.out.2.1⟩, HX.out.2.2⟩
    · have hk0 : 0 < k := by omega
      match A with
      | none =>
        have HX := HP none (HD.out _)
        go_enter Tryz.func151, Tryz.ntmps151
        go_wp2
        go_ret
        exact ⟨rfl, HX.out.1, ⟨_, _, _, HX.out.2.1⟩, HX.out.2.2⟩
      | some a =>
        have HX := HP (some a) (HD.out _)
        go_enter Tryz.func151, Tryz.ntmps151
        go_wp2
        go_ret
        exact ⟨rfl, HX.out.1, ⟨_, _, _, HX.out.2.1⟩, HX.out.2.2⟩
  · obtain ⟨b, o, rfl, _⟩ := hr.rd.at_ (by omega)
    by_cases hkn : k ≤ n
    · have hpk : p = k := by rw [hp.out]; omega
      subst hpk
      have hkn2 : (p : Int) ≤ n := by omega
      have hkn3 : ¬ (n : Int) < p := by omega
      have HB := fun B hA => hid (hr.rd.behind p (by omega) (A := B) hA)
      clear hl hr hp hkn
      by_cases hkc : p = c
      · have HX := HP (some ⟨b, o, none⟩) (HB _ (fun h => absurd hkc h)).out
        subst hkc
        simp only [Nat.sub_self] at HX
        go_enter Tryz.func151, Tryz.ntmps151
        go_wp2
        go_ret
        exact ⟨rfl, HX.out.1, ⟨_, _, _, HX.out.2.1⟩, HX.out.2.2⟩
      · have HX := HP (some ⟨b, o + p, none⟩) (HB _ (fun h => rfl)).out
        go_enter Tryz.func151, Tryz.ntmps151
        go_wp2
        go_ret
        exact ⟨rfl, HX.out.1, ⟨_, _, _, HX.out.2.1⟩, HX.out.2.2⟩
    · have hpk : p = n := by rw [hp.out]; omega
      subst hpk
      have hkn2 : (p : Int) < k := by omega
      have HB := fun B hA => hid (hr.rd.behind p (by omega) (A := B) hA)
      clear hl hr hp hkn
      by_cases hkc : p = c
      · have HX := HP (some ⟨b, o, none⟩) (HB _ (fun h => absurd hkc h)).out
        subst hkc
        simp only [Nat.sub_self] at HX
        go_enter Tryz.func151, Tryz.ntmps151
        go_wp2
        go_ret
        exact ⟨rfl, HX.out.1, ⟨_, _, _, HX.out.2.1⟩, HX.out.2.2⟩
      · have HX := HP (some ⟨b, o + p, none⟩) (HB _ (fun h => rfl)).out
        simp only [Nat.sub_self] at HX
        go_enter Tryz.func151, Tryz.ntmps151
        go_wp2
        go_ret
        exact ⟨rfl, HX.out.1, ⟨_, _, _, HX.out.2.1⟩, HX.out.2.2⟩
end Go.Proofs.YtndmblhkmgnpcaaGreat

namespace Go.Proofs.YtndmblhkmgnpcaaGreat
open Go.RowKit
set_option linter.unusedVariables false
set_option linter.unusedSimpArgs false

/-- So many cells stored whole. -/
theorem wpList_store_n {P : Program} {ops : Array Oper} {rest : List Oper} {op : Oper} {a : Act} {W : World} {Q : Exit → Act → World → Prop} (hgd : op.guard = none) (t : TypeId) (d : TypeDesc) (hu : P.underlying t = some d) (hd : d.isRow = true) (cs : List Value) (hi : (P.info? t).map (·.size) = some cs.length) (x y : Operand) (ho : op.op = .store t x y)
    (b : Nat) (hx : a.eval x = .pointer (some ⟨b, 0, none⟩)) (hy : a.eval y = .agg cs.toArray) (h1 : cs.toArray.all (·.oneCell') = true) (ht : W.there b 0 cs.length) (base : Nat) (hb : base ≤ b)
    (h : ∀ W', W'.rangeAt b 0 cs → W'.there b 0 cs.length → Below base W W' → (∀ k, k ≠ b → W'.heap[k]? = W.heap[k]?) → W'.heap.size = W.heap.size → wpList P ops Q rest (a.put op.dst undef) W') : wpList P ops Q (op :: rest) a W := by
  refine wpList_store_mid hgd t x y ho b 0 _ hx hy (by simpa using ht) (by simpa using hi) h1 ?_
  exact h _ (World.rangeAt_setCells_same W b 0 cs ht) (World.there_setCells ht b 0 _) (below_setCells b base hb _ _ _) (fun k hk => heap_setCells b _ _ _ k hk) (size_setCells b _ _ _)
theorem there_new (w : World) (cs : Array Value) (t : TypeId) (m : Nat) (hm : cs.size = m) : (w.alloc (.cells cs t)).there w.heap.size 0 m := fun j hj => by
  refine ⟨?_, ?_⟩
  · rw [cell_of_row _ _ _ cs t (0, 0) (heap_alloc_last w _)]
    simp; omega
  · exact frozen_of_row _ _ _ _ _ (heap_alloc_last w _)
theorem there_keep {w w' : World} {b m : Nat} (h : w.there b 0 m) (hb : Below w.heap.size w w') : w'.there b 0 m := fun j hj => by
  obtain ⟨h1, h2⟩ := h j hj
  obtain ⟨u, hu⟩ := Option.isSome_iff_exists.1 h1
  exact ⟨by rw [keep hb hu]; rfl, keepz hb hu h2⟩
theorem there_turn {g : Nat} {w w' : World} {b m : Nat} (h : w.there b 0 m) (hT : Turn g w w') (hb : b ≠ g) : w'.there b 0 m := fun j hj => by
  obtain ⟨h1, h2⟩ := h j hj
  obtain ⟨u, hu⟩ := Option.isSome_iff_exists.1 h1
  exact ⟨by rw [hT.cell (p := ⟨b, 0 + j, none⟩) hb hu]; rfl, hT.frozen (p := ⟨b, 0 + j, none⟩) hb hu h2⟩
theorem there_other {w w' : World} {b b' m : Nat} (h : w.there b 0 m) (hh : ∀ k, k ≠ b' → w'.heap[k]? = w.heap[k]?) (hb : b ≠ b') : w'.there b 0 m := fun j hj => by
  obtain ⟨h1, h2⟩ := h j hj
  obtain ⟨u, hu⟩ := Option.isSome_iff_exists.1 h1
  refine ⟨by rw [cell_other hh (p := ⟨b, 0 + j, none⟩) hb hu]; rfl, ?_⟩
  rw [World.frozen?_of_block (w := w) (hh b hb)]; exact h2

/-- A reader behind a store into another block. -/
theorem Rdr.other {w0 w w' : World} {g : Nat} {A : Option Addr} {n c : Nat} {l : List UInt8} (h : Rdr w0 w g A n c l) {b : Nat} (hh : ∀ k, k ≠ b → w'.heap[k]? = w.heap[k]?) (hb : g ≠ b) (hB : Below w0.heap.size w w') : Rdr w0 w' g A n c l :=
  ⟨cell_other hh (p := ⟨g, 0, none⟩) hb h.cell, by rw [World.frozen?_of_block (w := w) (hh g hb)]; exact h.may, h.rd, h.len, h.old.trans hB, h.far⟩
theorem Turn.other {g : Nat} {w X X' : World} (h : Turn g w X) {b : Nat} (hh : ∀ k, k ≠ b → X'.heap[k]? = X.heap[k]?) (hb : w.heap.size ≤ b) (hB : Below g X X') : Turn g w X' :=
  ⟨Nat.le_trans h.size hB.size, fun k hk hg => (hh k (by omega)).trans (h.heap k hk hg), h.low.trans hB⟩
theorem Turn.alloc {g : Nat} {w X : World} (h : Turn g w X) (hg : g < w.heap.size) (o : Obj) : Turn g w (X.alloc o) :=
  h.trans (Turn.below ((Below.refl _ _).alloc (Nat.le_refl _) o) (Nat.le_of_lt (Nat.lt_of_lt_of_le hg h.size)))

theorem take_of (k p : Nat) (v : Int) (w0 : World) (g : Nat) (A : Option Addr) (n c : Nat) (l : List UInt8) (hv : v = (k : Int)) (hp : Hid ((l.take k).length = p)) (w : World) (hr : Rdr w0 w g A n c l) :
    Calls Tryz.prog 151 #[.pointer (some ⟨g, 0, none⟩), .int .i64 v] w fun e w' => e = .returned (.slice A p c) ∧ Rd w' A c (l.take k) ∧ (∃ B m d, Rdr w0 w' g B m d (l.drop k)) ∧ Turn g w w' := by
  subst hv
  exact take_any k p w0 g A n c l (hid (by rw [← hp.out, List.length_take, hr.len])) w hr

set_option maxRecDepth 100000 in
set_option maxHeartbeats 1600000 in
theorem number_of (k : Nat) (v z : Int) (w0 : World) (g : Nat) (A : Option Addr) (n c : Nat) (l : List UInt8) (hv : v = (k : Int)) (hk : k ≤ 4) (hz : Hid ((vl (l.take k) : Int) = z)) (w : World) (hr : Rdr w0 w g A n c l) :
    Calls Tryz.prog 129 #[.pointer (some ⟨g, 0, none⟩), .int .i64 v] w fun e w' => e = .returned (.int .i64 z) ∧ (∃ B m d, Rdr w0 w' g B m d (l.drop k)) ∧ Turn g w w' := by
  have HV := hid hv
  clear hv
  obtain ⟨p, hp⟩ : ∃ p, (l.take k).length = p := ⟨_, rfl⟩
  have hp4 : p ≤ 4 := by rw [← hp, List.length_take]; omega
  have HP0 := hid hp
  obtain ⟨l1, hl1⟩ : ∃ l1, l.take k = l1 := ⟨_, rfl⟩
  have HL1 := hid hl1
  rw [hl1] at hp
  have HP := hid hp
  have HZ := hid (show (vl l1 : Int) = z by rw [← hl1]; exact hz.out)
  clear hp hl1
  go_enter Tryz.func129, Tryz.ntmps129
  go_wp2_with fail
  refine (take_of k p v w0 g A n c l HV.out HP0 _ hr).mono ?_
  rintro e w1 ⟨rfl, hr1, hR, hT⟩
  rw [HL1.out] at hr1
  have hc2 : (c : Int) ≤ 9223372036854775807 := by have := hr1.cap; omega
  have hc1 : (p : Int) ≤ c := by have := hr1.len; have := HP.out; omega
  have HR := hid hr1
  have HRR := hid hR
  have HT := hid hT
  clear hr1 hR hT hr
  go_wp2
  go_loop [5, 7, 12] (fun v u i => ∃ (j : Nat) (y : Int), j ≤ p ∧ i = .int .i64 (j : Int) ∧ v = .int .i64 y ∧ Hid ((vl (l1.take j) : Int) = y)) (fun _ _ i => p - (intOf i).toNat)
  case atStart => exact ⟨0, 0, by omega, rfl, rfl, hid rfl⟩
  case round =>
    obtain ⟨j, y, hj, rfl, rfl, hy⟩ := hrel
    by_cases hlt : j < p
    · have hl := HP.out
      obtain ⟨b, o, rfl, hcell⟩ := HR.out.at_ (by omega)
      have h1 := hcell j (by omega)
      have hs := vl_take (l := l1) (j := j) (by omega)
      have hsm := vl_small l1 (show j ≤ 6 by omega)
      generalize l1[j]'(by omega) = d at h1 hs
      have hd := d.toNat_lt
      have hd2 : (d.toNat : Int) ≤ 255 := by omega
      have y0 : 0 ≤ y := by rw [← hy.out]; omega
      have y1 : y < 281474976710656 := by have := hy.out; simp at hsm; omega
      have ho := or_add y d y0 (by omega)
      have HS := hid (show ((vl (l1.take (j + 1)) : Nat) : Int) = y * 256 + d.toNat by rw [hs]; have := hy.out; omega)
      have hlt2 : (j : Int) < (p : Int) := by omega
      clear hs hsm hd hcell hl
      go_wp2
      go_round
      case rel => exact ⟨j + 1, _, by omega, by go_num, rfl, HS⟩
      case measure => simp [intOf]; omega
    · have ej : l1.take j = l1 := List.take_of_length_le (by have := HP.out; omega)
      have hlt2 : ¬ (j : Int) < (p : Int) := by omega
      have HE := hid ej
      clear ej
      go_wp2
      go_ret
      exact ⟨ret_int (by rw [← HZ.out, ← hy.out, HE.out]), HRR.out, HT.out⟩

set_option maxRecDepth 100000 in
set_option maxHeartbeats 1600000 in
theorem handle_of (q : Bool) (x0 x1 x5 : Int) (w0 : World) (g : Nat) (A : Option Addr) (n c : Nat) (l : List UInt8) (hx : Hid (okH (l.take 6) = q ∧ pick q (gL (l.take 6)) = x0 ∧ pick q (gC (l.take 6)) = x1 ∧ pick q (gK (l.take 6)) = x5)) (w : World) (hr : Rdr w0 w g A n c l) :
    Calls Tryz.prog 130 #[.pointer (some ⟨g, 0, none⟩)] w fun e w' => e = .returned (.agg #[.int .u8 x0, .int .u32 x1, .int .u8 x5]) ∧ (∃ B m d, Rdr w0 w' g B m d (l.drop 6)) ∧ Turn g w w' := by
  obtain ⟨p, hp⟩ : ∃ p, (l.take 6).length = p := ⟨_, rfl⟩
  have HP := hid hp
  clear hp
  have hi : (Tryz.prog.info? 26).map (·.size) = some 3 := by kernel_rfl
  have hg := hr.lt
  have hfar := hr.far
  have hr' := hr.keep ((Below.refl _ _).alloc (Nat.le_refl _) (.cells #[.int .u8 0, .int .u32 0, .int .u8 0] 26))
  have ht := there_new w #[.int .u8 0, .int .u32 0, .int .u8 0] 26 3 rfl
  have hT0 : Turn g w (w.alloc (.cells #[.int .u8 0, .int .u32 0, .int .u8 0] 26)) := (Turn.below (Below.refl _ _) (Nat.le_of_lt hg)).alloc hg _
  have hs0 : (w.alloc (.cells #[.int .u8 0, .int .u32 0, .int .u8 0] 26)).heap.size = w.heap.size + 1 := by simp
  go_enter Tryz.func130, Tryz.ntmps130
  go_wp2_with fail
  refine (take_of 6 p 6 w0 g A n c l rfl HP _ hr').mono ?_
  rintro e w1 ⟨rfl, hr1, ⟨B, m, d, hR⟩, hT⟩
  have hT1 := hT0.trans hT
  have ht1 := there_turn ht hT (by omega)
  have hs1 := hT.size
  rw [hs0] at hs1
  clear hr hr' ht hT0 hT
  go_wp2_with fail
  refine (getHandle_of q x0 x1 x5 A p c (l.take 6) HP hx _ hr1).mono ?_
  rintro e w2 ⟨rfl, b2⟩
  replace hR := hR.keep b2
  have hT2 := hT1.trans (Turn.below b2 (by omega))
  have ht2 := there_keep ht1 b2
  have hs2 := b2.size
  have ht3 := there_new w2 #[.int .u8 0, .int .u32 0, .int .u8 0] 26 3 rfl
  have hR3 := hR.keep ((Below.refl _ _).alloc (Nat.le_refl _) (.cells #[.int .u8 0, .int .u32 0, .int .u8 0] 26))
  have hT3 := hT2.alloc hg (.cells #[.int .u8 0, .int .u32 0, .int .u8 0] 26)
  have ht4 := there_keep ht2 ((Below.refl _ _).alloc (Nat.le_refl _) (.cells #[.int .u8 0, .int .u32 0, .int .u8 0] 26))
  clear hr1 hT1 ht1 hR hT2 ht2 b2
  go_wp2_with (first
    | (refine wpList_store_n rfl 26 _ Tryz.underlying26 rfl [.int .u8 x0, .int .u32 x1, .int .u8 x5] hi (.tmp 3) (.tmp 9) rfl w2.heap.size rfl rfl (by simp [Value.oneCell']) ht3 w2.heap.size (Nat.le_refl _) ?_; intro w3 r3 _ b3 h3 z3; have s0 : w3.cell? ⟨w2.heap.size, 0, none⟩ = _ := r3 0 _ rfl; have s1 : w3.cell? ⟨w2.heap.size, 1, none⟩ = _ := r3 1 _ rfl; have s2 : w3.cell? ⟨w2.heap.size, 2, none⟩ = _ := r3 2 _ rfl)
    | (refine wpList_store_n rfl 26 _ Tryz.underlying26 rfl [.int .u8 x0, .int .u32 x1, .int .u8 x5] hi (.tmp 2) (.tmp 11) rfl w.heap.size rfl rfl (by simp [Value.oneCell']) (there_other ht4 h3 (by omega)) w.heap.size (Nat.le_refl _) ?_; intro w4 r4 _ b4 h4 z4; have u0 : w4.cell? ⟨w.heap.size, 0, none⟩ = _ := r4 0 _ rfl; have u1 : w4.cell? ⟨w.heap.size, 1, none⟩ = _ := r4 1 _ rfl; have u2 : w4.cell? ⟨w.heap.size, 2, none⟩ = _ := r4 2 _ rfl))
  exact bodyPost_ret (v := .agg #[.int .u8 x0, .int .u32 x1, .int .u8 x5]) (by simp [results, Tryz.results130, go_sem, u0, u1, u2]) rfl ⟨rfl, ⟨B, m, d, (hR3.other h3 (by omega) (b3.mono (by omega))).other h4 (by omega) (b4.mono (by omega))⟩, (hT3.other h3 (by omega) (b3.mono (by omega))).other h4 (by omega) (b4.mono (by omega))⟩
end Go.Proofs.YtndmblhkmgnpcaaGreat

namespace Go.Proofs.YtndmblhkmgnpcaaGreat
open Go.RowKit
set_option linter.unusedVariables false
set_option linter.unusedSimpArgs false

/-- What lies from a block on lies from an elder one on. -/
theorem OwnI.base {w : World} {base base' : Nat} (hb : base' ≤ base) {e : TypeId} {A : Option Addr} {c : Nat} {l : List Int} (h : OwnI w base e A c l) : OwnI w base' e A c l := by
  obtain ⟨⟨h0, h1⟩, h2⟩ := h
  refine ⟨⟨h0, ?_⟩, h2⟩
  rcases h1 with h | ⟨g, cap, cur, hv, hbg, r⟩
  · exact .inl h
  · exact .inr ⟨g, cap, cur, hv, Nat.le_trans hb hbg, r⟩

set_option maxRecDepth 100000 in
set_option maxHeartbeats 1600000 in
theorem id_of (q : Bool) (x0 x1 x5 x6 : Int) (w0 : World) (g : Nat) (A : Option Addr) (n c : Nat) (l : List UInt8) (hx : Hid (okI (l.take 13) = q ∧ pick q (gL (l.take 13)) = x0 ∧ pick q (gC (l.take 13)) = x1 ∧ pick q (gK (l.take 13)) = x5 ∧ pick q (gN (l.take 13)) = x6)) (w : World) (hr : Rdr w0 w g A n c l) :
    Calls Tryz.prog 131 #[.pointer (some ⟨g, 0, none⟩)] w fun e w' => e = .returned (.agg #[.int .u8 x0, .int .u32 x1, .int .u8 x5, .int .i64 x6]) ∧ (∃ B m d, Rdr w0 w' g B m d (l.drop 13)) ∧ Turn g w w' := by
  obtain ⟨p, hp⟩ : ∃ p, (l.take 13).length = p := ⟨_, rfl⟩
  have HP := hid hp
  clear hp
  have hi : (Tryz.prog.info? 28).map (·.size) = some 4 := by kernel_rfl
  have hg := hr.lt
  have hfar := hr.far
  have hr' := hr.keep ((Below.refl _ _).alloc (Nat.le_refl _) (.cells #[.int .u8 0, .int .u32 0, .int .u8 0, .int .i64 0] 28))
  have ht := there_new w #[.int .u8 0, .int .u32 0, .int .u8 0, .int .i64 0] 28 4 rfl
  have hT0 : Turn g w (w.alloc (.cells #[.int .u8 0, .int .u32 0, .int .u8 0, .int .i64 0] 28)) := (Turn.below (Below.refl _ _) (Nat.le_of_lt hg)).alloc hg _
  have hs0 : (w.alloc (.cells #[.int .u8 0, .int .u32 0, .int .u8 0, .int .i64 0] 28)).heap.size = w.heap.size + 1 := by simp
  go_enter Tryz.func131, Tryz.ntmps131
  go_wp2_with fail
  refine (take_of 13 p 13 w0 g A n c l rfl HP _ hr').mono ?_
  rintro e w1 ⟨rfl, hr1, ⟨B, m, d, hR⟩, hT⟩
  have hT1 := hT0.trans hT
  have ht1 := there_turn ht hT (by omega)
  have hs1 := hT.size
  rw [hs0] at hs1
  clear hr hr' ht hT0 hT
  go_wp2_with fail
  refine (get_id q x0 x1 x5 x6 A p c (l.take 13) HP hx _ hr1).mono ?_
  rintro e w2 ⟨rfl, b2⟩
  replace hR := hR.keep b2
  have hT2 := hT1.trans (Turn.below b2 (by omega))
  have ht2 := there_keep ht1 b2
  have hs2 := b2.size
  have ht3 := there_new w2 #[.int .u8 0, .int .u32 0, .int .u8 0, .int .i64 0] 28 4 rfl
  have hR3 := hR.keep ((Below.refl _ _).alloc (Nat.le_refl _) (.cells #[.int .u8 0, .int .u32 0, .int .u8 0, .int .i64 0] 28))
  have hT3 := hT2.alloc hg (.cells #[.int .u8 0, .int .u32 0, .int .u8 0, .int .i64 0] 28)
  have ht4 := there_keep ht2 ((Below.refl _ _).alloc (Nat.le_refl _) (.cells #[.int .u8 0, .int .u32 0, .int .u8 0, .int .i64 0] 28))
  clear hr1 hT1 ht1 hR hT2 ht2 b2
  go_wp2_with (first
    | (refine wpList_store_n rfl 28 _ Tryz.underlying28 rfl [.int .u8 x0, .int .u32 x1, .int .u8 x5, .int .i64 x6] hi (.tmp 3) (.tmp 9) rfl w2.heap.size rfl rfl (by simp [Value.oneCell']) ht3 w2.heap.size (Nat.le_refl _) ?_; intro w3 r3 _ b3 h3 z3; have s0 : w3.cell? ⟨w2.heap.size, 0, none⟩ = _ := r3 0 _ rfl; have s1 : w3.cell? ⟨w2.heap.size, 1, none⟩ = _ := r3 1 _ rfl; have s2 : w3.cell? ⟨w2.heap.size, 2, none⟩ = _ := r3 2 _ rfl; have s3 : w3.cell? ⟨w2.heap.size, 3, none⟩ = _ := r3 3 _ rfl)
    | (refine wpList_store_n rfl 28 _ Tryz.underlying28 rfl [.int .u8 x0, .int .u32 x1, .int .u8 x5, .int .i64 x6] hi (.tmp 2) (.tmp 11) rfl w.heap.size rfl rfl (by simp [Value.oneCell']) (there_other ht4 h3 (by omega)) w.heap.size (Nat.le_refl _) ?_; intro w4 r4 _ b4 h4 z4; have u0 : w4.cell? ⟨w.heap.size, 0, none⟩ = _ := r4 0 _ rfl; have u1 : w4.cell? ⟨w.heap.size, 1, none⟩ = _ := r4 1 _ rfl; have u2 : w4.cell? ⟨w.heap.size, 2, none⟩ = _ := r4 2 _ rfl; have u3 : w4.cell? ⟨w.heap.size, 3, none⟩ = _ := r4 3 _ rfl))
  exact bodyPost_ret (v := .agg #[.int .u8 x0, .int .u32 x1, .int .u8 x5, .int .i64 x6]) (by simp [results, Tryz.results131, go_sem, u0, u1, u2, u3]) rfl ⟨rfl, ⟨B, m, d, (hR3.other h3 (by omega) (b3.mono (by omega))).other h4 (by omega) (b4.mono (by omega))⟩, (hT3.other h3 (by omega) (b3.mono (by omega))).other h4 (by omega) (b4.mono (by omega))⟩

set_option maxRecDepth 100000 in
set_option maxHeartbeats 1600000 in
theorem row_of (M : Nat) (m : Int) (w0 : World) (g : Nat) (A : Option Addr) (n c : Nat) (l : List UInt8) (hm : Hid ((M : Int) = m)) (hM : M ≤ 64) (w : World) (hr : Rdr w0 w g A n c l) :
    Calls Tryz.prog 134 #[.pointer (some ⟨g, 0, none⟩), .int .i64 m] w fun e w' => (∃ A' c', e = .returned (.slice A' (getV (l.take (4 * M))).length c') ∧ OwnI w' w.heap.size 21 A' c' (getV (l.take (4 * M)))) ∧ (∃ B m d, Rdr w0 w' g B m d (l.drop (4 * M))) ∧ Turn g w w' := by
  obtain ⟨p, hp⟩ : ∃ p, (l.take (4 * M)).length = p := ⟨_, rfl⟩
  have HP := hid hp
  obtain ⟨q, hq⟩ : ∃ q : Int, 4 * m = q := ⟨_, rfl⟩
  have m0 : 0 ≤ m := by rw [← hm.out]; omega
  have m1 : m ≤ 64 := by rw [← hm.out]; omega
  have hqk : q = ((4 * M : Nat) : Int) := by rw [← hq, ← hm.out]; omega
  have HQ := hid hqk
  have hg := hr.lt
  clear hp hqk
  go_enter Tryz.func134, Tryz.ntmps134
  go_wp2_with fail
  refine (take_of (4 * M) p q w0 g A n c l HQ.out HP _ hr).mono ?_
  rintro e w1 ⟨rfl, hr1, ⟨B, m', d, hR⟩, hT⟩
  go_wp2_with fail
  refine (rget_any A p c (l.take (4 * M)) HP _ hr1).mono ?_
  rintro e w2 ⟨A', c', rfl, ho, b2⟩
  have hR2 := hR.keep b2
  have hT2 := hT.trans (Turn.below b2 (by have := hT.size; omega))
  have ho2 := OwnI.base hT.size ho
  clear hR hT ho b2 hr1 hr
  go_wp2
  go_ret
  exact ⟨⟨A', c', rfl, ho2⟩, ⟨B, m', d, hR2⟩, hT2⟩

set_option maxRecDepth 100000 in
set_option maxHeartbeats 1600000 in
theorem label_of (x y : Int) (w0 : World) (g : Nat) (A : Option Addr) (n c : Nat) (l : List UInt8) (hx : Hid ((vl (l.take 1) : Int) = x ∧ (vl ((l.drop 1).take 4) : Int) = y)) (w : World) (hr : Rdr w0 w g A n c l) :
    Calls Tryz.prog 135 #[.pointer (some ⟨g, 0, none⟩)] w fun e w' => e = .returned (.agg #[.int .u8 x, .int .u32 y]) ∧ (∃ B m d, Rdr w0 w' g B m d (l.drop 5)) ∧ Turn g w w' := by
  have HX := hid hx.out.1
  have HY := hid hx.out.2
  have x0 : 0 ≤ x := by rw [← HX.out]; omega
  have x1 : x < 256 := by
    have h1 := vl_lt (l.take 1)
    have h2 : 256 ^ (l.take 1).length ≤ 256 ^ 1 := Nat.pow_le_pow_right (by decide) (by rw [List.length_take]; omega)
    rw [← HX.out]
    simp only [Nat.reducePow] at h2
    omega
  have y0 : 0 ≤ y := by rw [← HY.out]; omega
  have y1 : y < 4294967296 := by
    have h1 := vl_lt ((l.drop 1).take 4)
    have h2 : 256 ^ ((l.drop 1).take 4).length ≤ 256 ^ 4 := Nat.pow_le_pow_right (by decide) (by rw [List.length_take]; omega)
    rw [← HY.out]
    simp only [Nat.reducePow] at h2
    omega
  have hi : (Tryz.prog.info? 24).map (·.size) = some 2 := by kernel_rfl
  have hg := hr.lt
  have hfar := hr.far
  have hr' := hr.keep ((Below.refl _ _).alloc (Nat.le_refl _) (.cells #[.int .u8 0, .int .u32 0] 24))
  have ht := there_new w #[.int .u8 0, .int .u32 0] 24 2 rfl
  have hT0 : Turn g w (w.alloc (.cells #[.int .u8 0, .int .u32 0] 24)) := (Turn.below (Below.refl _ _) (Nat.le_of_lt hg)).alloc hg _
  have hs0 : (w.alloc (.cells #[.int .u8 0, .int .u32 0] 24)).heap.size = w.heap.size + 1 := by simp
  clear hx
  go_enter Tryz.func135, Tryz.ntmps135
  go_wp2_with fail
  refine (number_of 1 1 x w0 g A n c l rfl (by omega) HX _ hr').mono ?_
  rintro e w1 ⟨rfl, ⟨B, m, d, hR⟩, hT⟩
  have hT1 := hT0.trans hT
  have ht1 := there_turn ht hT (by omega)
  have hs1 := hT.size
  rw [hs0] at hs1
  clear hr hr' ht hT0 hT
  go_wp2_with fail
  refine (number_of 4 4 y w0 g B m d (l.drop 1) rfl (by omega) HY _ hR).mono ?_
  rintro e w2 ⟨rfl, ⟨B2, m2, d2, hR2⟩, hT⟩
  have hT2 := hT1.trans hT
  have ht2 := there_turn ht1 hT (by omega)
  have hs2 := hT.size
  rw [List.drop_drop] at hR2
  clear hR hT1 ht1 hT
  go_wp2_with (refine wpList_store_n rfl 24 _ Tryz.underlying24 rfl [.int .u8 x, .int .u32 y] hi (.tmp 2) (.tmp 9) rfl w.heap.size rfl rfl (by simp [Value.oneCell']) ht2 w.heap.size (Nat.le_refl _) ?_; intro w4 r4 _ b4 h4 z4; have u0 : w4.cell? ⟨w.heap.size, 0, none⟩ = _ := r4 0 _ rfl; have u1 : w4.cell? ⟨w.heap.size, 1, none⟩ = _ := r4 1 _ rfl)
  exact bodyPost_ret (v := .agg #[.int .u8 x, .int .u32 y]) (by simp [results, Tryz.results135, go_sem, u0, u1]) rfl ⟨rfl, ⟨B2, m2, d2, hR2.other h4 (by omega) (b4.mono (by omega))⟩, hT2.other h4 (by omega) (b4.mono (by omega))⟩
end Go.Proofs.YtndmblhkmgnpcaaGreat

namespace Go.Proofs.YtndmblhkmgnpcaaGreat
open Go.RowKit
set_option linter.unusedVariables false
set_option linter.unusedSimpArgs false

theorem cell_out {W : World} {b off j : Nat} {vs : List Value} {v : Value} (hc : W.cell? ⟨b, j, none⟩ = some v) (hap : j < off ∨ off + vs.length ≤ j) : (W.setCells b off vs).cell? ⟨b, j, none⟩ = some v := by
  rw [World.cell?_setCells_out b vs off W ⟨b, j, none⟩ (fun _ _ => hap)]; exact hc
theorem set_kd {W : World} {b : Nat} {o : Opd} {A : Option Addr} {n c : Nat} (h : BoxO W b o A n c) (ht : ThereO W b) (x0 : Int) : BoxO (W.setCells b 0 [.int .u8 x0]) b { o with kd := x0 } A n c := by
  have hs := World.rangeAt_setCells_same W b 0 [.int .u8 x0] (fun j hj => by have := ht (0 + j) (by simp at hj; omega); simpa using this)
  exact ⟨hs 0 _ rfl, cell_out h.c1 (by simp), cell_out h.c2 (by simp), cell_out h.c3 (by simp), cell_out h.c4 (by simp), cell_out h.c5 (by simp), cell_out h.c6 (by simp), cell_out h.c7 (by simp), cell_out h.c8 (by simp), cell_out h.c9 (by simp), cell_out h.c10 (by simp), cell_out h.c11 (by simp), cell_out h.c12 (by simp), cell_out h.c13 (by simp), cell_out h.c14 (by simp), cell_out h.c15 (by simp), cell_out h.c16 (by simp)⟩
theorem set_by {W : World} {b : Nat} {o : Opd} {A : Option Addr} {n c : Nat} (h : BoxO W b o A n c) (ht : ThereO W b) (x0 x1 x2 : Int) : BoxO (W.setCells b 1 [.int .u8 x0, .int .u32 x1, .int .u8 x2]) b { o with l := x0, c := x1, k := x2 } A n c := by
  have hs := World.rangeAt_setCells_same W b 1 [.int .u8 x0, .int .u32 x1, .int .u8 x2] (fun j hj => by have := ht (1 + j) (by simp at hj; omega); simpa using this)
  exact ⟨cell_out h.c0 (by simp), hs 0 _ rfl, hs 1 _ rfl, hs 2 _ rfl, cell_out h.c4 (by simp), cell_out h.c5 (by simp), cell_out h.c6 (by simp), cell_out h.c7 (by simp), cell_out h.c8 (by simp), cell_out h.c9 (by simp), cell_out h.c10 (by simp), cell_out h.c11 (by simp), cell_out h.c12 (by simp), cell_out h.c13 (by simp), cell_out h.c14 (by simp), cell_out h.c15 (by simp), cell_out h.c16 (by simp)⟩
theorem set_s {W : World} {b : Nat} {o : Opd} {A : Option Addr} {n c : Nat} (h : BoxO W b o A n c) (ht : ThereO W b) (x0 : Int) : BoxO (W.setCells b 4 [.int .i64 x0]) b { o with s := x0 } A n c := by
  have hs := World.rangeAt_setCells_same W b 4 [.int .i64 x0] (fun j hj => by have := ht (4 + j) (by simp at hj; omega); simpa using this)
  exact ⟨cell_out h.c0 (by simp), cell_out h.c1 (by simp), cell_out h.c2 (by simp), cell_out h.c3 (by simp), hs 0 _ rfl, cell_out h.c5 (by simp), cell_out h.c6 (by simp), cell_out h.c7 (by simp), cell_out h.c8 (by simp), cell_out h.c9 (by simp), cell_out h.c10 (by simp), cell_out h.c11 (by simp), cell_out h.c12 (by simp), cell_out h.c13 (by simp), cell_out h.c14 (by simp), cell_out h.c15 (by simp), cell_out h.c16 (by simp)⟩
theorem set_from {W : World} {b : Nat} {o : Opd} {A : Option Addr} {n c : Nat} (h : BoxO W b o A n c) (ht : ThereO W b) (x0 x1 x2 x3 : Int) : BoxO (W.setCells b 5 [.int .u8 x0, .int .u32 x1, .int .u8 x2, .int .i64 x3]) b { o with fl := x0, fc := x1, fk := x2, fn := x3 } A n c := by
  have hs := World.rangeAt_setCells_same W b 5 [.int .u8 x0, .int .u32 x1, .int .u8 x2, .int .i64 x3] (fun j hj => by have := ht (5 + j) (by simp at hj; omega); simpa using this)
  exact ⟨cell_out h.c0 (by simp), cell_out h.c1 (by simp), cell_out h.c2 (by simp), cell_out h.c3 (by simp), cell_out h.c4 (by simp), hs 0 _ rfl, hs 1 _ rfl, hs 2 _ rfl, hs 3 _ rfl, cell_out h.c9 (by simp), cell_out h.c10 (by simp), cell_out h.c11 (by simp), cell_out h.c12 (by simp), cell_out h.c13 (by simp), cell_out h.c14 (by simp), cell_out h.c15 (by simp), cell_out h.c16 (by simp)⟩
theorem set_fm {W : World} {b : Nat} {o : Opd} {A : Option Addr} {n c : Nat} (h : BoxO W b o A n c) (ht : ThereO W b) (x0 : Int) : BoxO (W.setCells b 9 [.int .i64 x0]) b { o with fm := x0 } A n c := by
  have hs := World.rangeAt_setCells_same W b 9 [.int .i64 x0] (fun j hj => by have := ht (9 + j) (by simp at hj; omega); simpa using this)
  exact ⟨cell_out h.c0 (by simp), cell_out h.c1 (by simp), cell_out h.c2 (by simp), cell_out h.c3 (by simp), cell_out h.c4 (by simp), cell_out h.c5 (by simp), cell_out h.c6 (by simp), cell_out h.c7 (by simp), cell_out h.c8 (by simp), hs 0 _ rfl, cell_out h.c10 (by simp), cell_out h.c11 (by simp), cell_out h.c12 (by simp), cell_out h.c13 (by simp), cell_out h.c14 (by simp), cell_out h.c15 (by simp), cell_out h.c16 (by simp)⟩
theorem set_aft {W : World} {b : Nat} {o : Opd} {A : Option Addr} {n c : Nat} (h : BoxO W b o A n c) (ht : ThereO W b) (x0 x1 x2 x3 : Int) : BoxO (W.setCells b 10 [.int .u8 x0, .int .u32 x1, .int .u8 x2, .int .i64 x3]) b { o with al := x0, ac := x1, ak := x2, an := x3 } A n c := by
  have hs := World.rangeAt_setCells_same W b 10 [.int .u8 x0, .int .u32 x1, .int .u8 x2, .int .i64 x3] (fun j hj => by have := ht (10 + j) (by simp at hj; omega); simpa using this)
  exact ⟨cell_out h.c0 (by simp), cell_out h.c1 (by simp), cell_out h.c2 (by simp), cell_out h.c3 (by simp), cell_out h.c4 (by simp), cell_out h.c5 (by simp), cell_out h.c6 (by simp), cell_out h.c7 (by simp), cell_out h.c8 (by simp), cell_out h.c9 (by simp), hs 0 _ rfl, hs 1 _ rfl, hs 2 _ rfl, hs 3 _ rfl, cell_out h.c14 (by simp), cell_out h.c15 (by simp), cell_out h.c16 (by simp)⟩
theorem set_to {W : World} {b : Nat} {o : Opd} {A : Option Addr} {n c : Nat} (h : BoxO W b o A n c) (ht : ThereO W b) (x0 x1 : Int) : BoxO (W.setCells b 14 [.int .u8 x0, .int .u32 x1]) b { o with tl := x0, tc := x1 } A n c := by
  have hs := World.rangeAt_setCells_same W b 14 [.int .u8 x0, .int .u32 x1] (fun j hj => by have := ht (14 + j) (by simp at hj; omega); simpa using this)
  exact ⟨cell_out h.c0 (by simp), cell_out h.c1 (by simp), cell_out h.c2 (by simp), cell_out h.c3 (by simp), cell_out h.c4 (by simp), cell_out h.c5 (by simp), cell_out h.c6 (by simp), cell_out h.c7 (by simp), cell_out h.c8 (by simp), cell_out h.c9 (by simp), cell_out h.c10 (by simp), cell_out h.c11 (by simp), cell_out h.c12 (by simp), cell_out h.c13 (by simp), hs 0 _ rfl, hs 1 _ rfl, cell_out h.c16 (by simp)⟩
theorem set_row {W : World} {b : Nat} {o : Opd} {A : Option Addr} {n c : Nat} (h : BoxO W b o A n c) (ht : ThereO W b) (A' : Option Addr) (n' c' : Nat) (r : List Int) : BoxO (W.setCells b 16 [.slice A' n' c']) b { o with row := r } A' n' c' := by
  have hs := World.rangeAt_setCells_same W b 16 [.slice A' n' c'] (fun j hj => by have := ht (16 + j) (by simp at hj; omega); simpa using this)
  exact ⟨cell_out h.c0 (by simp), cell_out h.c1 (by simp), cell_out h.c2 (by simp), cell_out h.c3 (by simp), cell_out h.c4 (by simp), cell_out h.c5 (by simp), cell_out h.c6 (by simp), cell_out h.c7 (by simp), cell_out h.c8 (by simp), cell_out h.c9 (by simp), cell_out h.c10 (by simp), cell_out h.c11 (by simp), cell_out h.c12 (by simp), cell_out h.c13 (by simp), cell_out h.c14 (by simp), cell_out h.c15 (by simp), hs 0 _ rfl⟩
theorem ThereO.sets {W : World} {b : Nat} (h : ThereO W b) (off : Nat) (vs : List Value) : ThereO (W.setCells b off vs) b := World.there_setCells h b off vs
theorem ThereO.turn {g : Nat} {w w' : World} {b : Nat} (h : ThereO w b) (hT : Turn g w w') (hb : b ≠ g) : ThereO w' b := there_turn h hT hb
theorem BoxO.turn {g : Nat} {w w' : World} {b : Nat} {o : Opd} {A : Option Addr} {n c : Nat} (h : BoxO w b o A n c) (hT : Turn g w w') (hb : b ≠ g) : BoxO w' b o A n c :=
  boxO_of fun j v hv => hT.cell (p := ⟨b, 0 + j, none⟩) hb (h.range j v hv)
theorem ThereO.at_ {W : World} {b : Nat} (h : ThereO W b) (j : Nat) (hj : j < 17) : W.frozen? ⟨b, j, none⟩ = false := by
  have := (h j hj).2
  simpa using this
/-- The two boxes of a reading: the reader's at g, the operation's at b, made by the call. -/
structure Two (w0 W : World) (g b : Nat) (l : List UInt8) (o : Opd) (A : Option Addr) (n c : Nat) : Prop where
  rd : ∃ B m d, Rdr w0 W g B m d l
  bx : BoxO W b o A n c
  th : ThereO W b
  ne : b ≠ g
  lo : w0.heap.size ≤ b
theorem Two.turn {w0 W W' : World} {g b : Nat} {l l' : List UInt8} {o : Opd} {A : Option Addr} {n c : Nat} (h : Two w0 W g b l o A n c) (hT : Turn g W W') (hr : ∃ B m d, Rdr w0 W' g B m d l') : Two w0 W' g b l' o A n c :=
  ⟨hr, h.bx.turn hT h.ne, h.th.turn hT h.ne, h.ne, h.lo⟩
theorem Two.sets {w0 W : World} {g b : Nat} {l : List UInt8} {o o' : Opd} {A A' : Option Addr} {n c n' c' : Nat} (h : Two w0 W g b l o A n c) (off : Nat) (vs : List Value) (hb : BoxO (W.setCells b off vs) b o' A' n' c') : Two w0 (W.setCells b off vs) g b l o' A' n' c' := by
  obtain ⟨⟨B, m, d, hr⟩, _, ht, hn, hl⟩ := h
  exact ⟨⟨B, m, d, hr.other (fun k hk => heap_setCells b vs off W k hk) hn.symm (below_setCells b _ hl vs off W)⟩, hb, ht.sets off vs, hn, hl⟩
theorem Two.keep {w0 W W' : World} {g b : Nat} {l : List UInt8} {o : Opd} {A : Option Addr} {n c : Nat} (h : Two w0 W g b l o A n c) (hb : Below W.heap.size W W') : Two w0 W' g b l o A n c := by
  obtain ⟨⟨B, m, d, hr⟩, hx, ht, hn, hl⟩ := h
  exact ⟨⟨B, m, d, hr.keep hb⟩, hx.keep hb, ht.keep hb, hn, hl⟩

/-- A result that lies in a box. -/
theorem results_o {fn : Func} {p : Tmp} (h : fn.results = #[.cell p 33]) {tmps : Array Value} {w : World} {b : Nat} (hp : tmps.getD p undef = .pointer (some ⟨b, 0, none⟩)) {o : Opd} {A : Option Addr} {n c : Nat} (bx : BoxO w b o A n c) :
    (results fn tmps).run Tryz.prog w = .ok (.agg #[.int .u8 o.kd, .int .u8 o.l, .int .u32 o.c, .int .u8 o.k, .int .i64 o.s, .int .u8 o.fl, .int .u32 o.fc, .int .u8 o.fk, .int .i64 o.fn, .int .i64 o.fm, .int .u8 o.al, .int .u32 o.ac, .int .u8 o.ak, .int .i64 o.an, .int .u8 o.tl, .int .u32 o.tc, .slice A n c]) w := by
  have hl := run_loadVar_mid (P := Tryz.prog) w b 0 33 _ _ bx.range Tryz.underlying33 rfl info_O
  simp only [results, h]
  rw [Array.getD_eq_getD_getElem?] at hp
  simp [Sem.run_bind, hp, asAddr, hl]
theorem results_o3 {fn : Func} {p u v : Tmp} (h : fn.results = #[.cell p 33, .tmp u, .tmp v]) {tmps : Array Value} {w : World} {b : Nat} (hp : tmps.getD p undef = .pointer (some ⟨b, 0, none⟩)) {o : Opd} {A : Option Addr} {n c : Nat} (bx : BoxO w b o A n c) :
    (results fn tmps).run Tryz.prog w = .ok (.tuple #[.agg #[.int .u8 o.kd, .int .u8 o.l, .int .u32 o.c, .int .u8 o.k, .int .i64 o.s, .int .u8 o.fl, .int .u32 o.fc, .int .u8 o.fk, .int .i64 o.fn, .int .i64 o.fm, .int .u8 o.al, .int .u32 o.ac, .int .u8 o.ak, .int .i64 o.an, .int .u8 o.tl, .int .u32 o.tc, .slice A n c], tmps.getD u undef, tmps.getD v undef]) w := by
  have hl := run_loadVar_mid (P := Tryz.prog) w b 0 33 _ _ bx.range Tryz.underlying33 rfl info_O
  simp only [results, h]
  rw [Array.getD_eq_getD_getElem?] at hp
  simp [Sem.run_bind, hp, asAddr, hl]
end Go.Proofs.YtndmblhkmgnpcaaGreat
