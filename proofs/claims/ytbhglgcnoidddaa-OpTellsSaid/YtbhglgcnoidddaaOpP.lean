/-
  The reader of layer 9: what its methods take.
-/
import Derived.Test.YtbhglgcnoidddaaOpA
import Derived.Test.YtbhglgcnoidddaaIdG
import Derived.Test.YtbhglgcnoidddaaRunI
namespace Go.Proofs.Ytbhglgcnoidddaa
open Go.RowKit
set_option linter.unusedVariables false
set_option linter.unusedSimpArgs false

/-- What is cut off a slice at its front, wherever the walk says that it lies. -/
theorem Rd.behind {w : World} {b o c : Nat} {l : List UInt8} (h : Rd w (some ⟨b, o, none⟩) c l) (k : Nat) (hk : k ≤ l.length) {A : Option Addr} (hA : k ≠ c → A = some ⟨b, o + k, none⟩) : Rd w A (c - k) (l.drop k) := by
  by_cases h1 : k < l.length
  · rw [hA (by have := h.1; omega)]
    exact h.drop k h1
  · have e : l.drop k = [] := List.drop_eq_nil_of_le (by omega)
    rw [e]
    exact ⟨by simp, by have := h.2.1; unfold maxLen at *; omega, fun hp => absurd hp (by simp)⟩


/-- The bytes that a reader has left, in a cell of its own; they lie where nothing is written. -/
structure Rdr (w0 w : World) (g : Nat) (A : Option Addr) (n c : Nat) (l : List UInt8) : Prop where
  cell : w.cell? ⟨g, 0, none⟩ = some (.slice A n c)
  may : w.frozen? ⟨g, 0, none⟩ = false
  rd : Rd w0 A c l
  len : l.length = n
  old : Below w0.heap.size w0 w
  far : w0.heap.size ≤ g
/-- What a method of a reader leaves as it was: all but the reader's own cell. -/
structure Turn (g : Nat) (w w' : World) : Prop where
  size : w.heap.size ≤ w'.heap.size
  heap : ∀ k, k < w.heap.size → k ≠ g → w'.heap[k]? = w.heap[k]?
  low : Below g w w'
theorem Turn.trans {g : Nat} {a b c : World} (h : Turn g a b) (k : Turn g b c) : Turn g a c :=
  ⟨Nat.le_trans h.size k.size, fun i hi hg => (k.heap i (Nat.lt_of_lt_of_le hi h.size) hg).trans (h.heap i hi hg), h.low.trans k.low⟩
theorem Turn.set (g : Nat) (w : World) (v : Value) : Turn g w (w.setCell ⟨g, 0, none⟩ v) :=
  ⟨by simp [World.setCell], fun k _ hk => Below.heap_setCell w ⟨g, 0, none⟩ v k hk, Below.setCell (B := g) (Below.refl g w) (p := ⟨g, 0, none⟩) (Nat.le_refl g) v⟩
theorem Turn.below {g : Nat} {w w' : World} (h : Below w.heap.size w w') (hg : g ≤ w.heap.size) : Turn g w w' :=
  ⟨h.size, fun k hk _ => h.block k hk, h.mono hg⟩
theorem Turn.cell {g : Nat} {w w' : World} (h : Turn g w w') {p : Addr} (hp : p.block ≠ g) {v : Value} (hc : w.cell? p = some v) : w'.cell? p = some v := by
  rw [World.cell?_of_block (w := w) (h.heap p.block (World.block_lt_of_cell? w p hc) hp)]; exact hc
theorem Turn.frozen {g : Nat} {w w' : World} (h : Turn g w w') {p : Addr} (hp : p.block ≠ g) {v : Value} (hc : w.cell? p = some v) (hf : w.frozen? p = false) : w'.frozen? p = false := by
  rw [World.frozen?_of_block (w := w) (h.heap p.block (World.block_lt_of_cell? w p hc) hp)]; exact hf
theorem Rdr.lt {w0 w : World} {g : Nat} {A : Option Addr} {n c : Nat} {l : List UInt8} (h : Rdr w0 w g A n c l) : g < w.heap.size := World.block_lt_of_cell? w _ h.cell
/-- A reader behind a call that makes memory alone. -/
theorem Rdr.keep {w0 w w' : World} {g : Nat} {A : Option Addr} {n c : Nat} {l : List UInt8} (h : Rdr w0 w g A n c l) (hb : Below w.heap.size w w') : Rdr w0 w' g A n c l :=
  ⟨Go.Proofs.Ytbhglgcnoidddaa.keep hb h.cell, keepz hb h.cell h.may, h.rd, h.len, h.old.trans (hb.mono h.old.size), h.far⟩
/-- The reader's cell turned. -/
theorem Rdr.turned {w0 w : World} {g : Nat} {A B : Option Addr} {n c m d : Nat} {l k : List UInt8} (h : Rdr w0 w g A n c l) (hr : Rd w0 B d k) (hk : k.length = m) : Rdr w0 (w.setCell ⟨g, 0, none⟩ (.slice B m d)) g B m d k :=
  ⟨by rw [World.cell?_setCell_same _ _ _ h.cell], by rw [World.frozen?_setCell]; exact h.may, hr, hk, h.old.setCell h.far _, h.far⟩

theorem take_post {w0 w : World} {g : Nat} {A : Option Addr} {n c k q : Nat} {l : List UInt8} (hr : Rdr w0 w g A n c l) (hq : q = min k n) (B : Option Addr) (hB : Rd w0 B (c - q) (l.drop q)) :
    Rd (w.setCell ⟨g, 0, none⟩ (.slice B (n - q) (c - q))) A c (l.take k) ∧ Rdr w0 (w.setCell ⟨g, 0, none⟩ (.slice B (n - q) (c - q))) g B (n - q) (c - q) (l.drop k) ∧ Turn g w (w.setCell ⟨g, 0, none⟩ (.slice B (n - q) (c - q))) := by
  have hl := hr.len
  have hdd : l.drop q = l.drop k := by
    by_cases h : k ≤ n
    · rw [show q = k by omega]
    · rw [List.drop_eq_nil_of_le (by omega), List.drop_eq_nil_of_le (by omega)]
  rw [hdd] at hB
  have ht := hr.turned (m := n - q) hB (by rw [List.length_drop]; omega)
  exact ⟨(hr.rd.take k).keep ht.old, ht, Turn.set _ _ _⟩

set_option maxRecDepth 100000 in
set_option maxHeartbeats 1600000 in
theorem take_any (k p : Nat) (w0 : World) (g : Nat) (A : Option Addr) (n c : Nat) (l : List UInt8) (hp : Hid (p = min k n)) (w : World) (hr : Rdr w0 w g A n c l) :
    Calls Try.prog 73 #[.pointer (some ⟨g, 0, none⟩), .int .i64 (k : Int)] w fun e w' => e = .returned (.slice A p c) ∧ Rd w' A c (l.take k) ∧ (∃ B m d, Rdr w0 w' g B m d (l.drop k)) ∧ Turn g w w' := by
  have hc2 : (c : Int) ≤ 9223372036854775807 := by have := hr.rd.cap; omega
  have hc1 : (n : Int) ≤ c := by have := hr.rd.len; have := hr.len; omega
  have hl := hr.len
  have hcell := hr.cell
  have hmay := hr.may
  have HR := hid hr
  have HP := fun B hB => hid (take_post (k := k) (q := p) HR.out hp.out B hB)
  by_cases h0 : n = 0
  · have hp0 : p = 0 := by rw [hp.out]; omega
    have hln : l = [] := List.eq_nil_of_length_eq_zero (by omega)
    have hD : ∀ B, Rd w0 B (c - 0) (l.drop 0) := fun B => by rw [hln]; exact ⟨by simp, by unfold maxLen; omega, fun hp => absurd hp (by simp)⟩
    have HD := hid hD
    subst h0 hp0
    clear hD hln hl hr hp
    by_cases hk : k = 0
    · subst hk
      match A with
      | none =>
        have HX := HP none (HD.out _)
        go_enter Try.func73, Try.ntmps73
        go_wp2
        go_ret
        exact ⟨rfl, HX.out.1, ⟨_, _, _, HX.out.2.1⟩, HX.out.2.2⟩
      | some a =>
        have HX := HP (some a) (HD.out _)
        go_enter Try.func73, Try.ntmps73
        go_wp2
        go_ret
        exact ⟨rfl, HX.out.1, ⟨_, _, _, HX.out.2.1⟩, HX.out.2.2⟩
    · have hk0 : 0 < k := by omega
      match A with
      | none =>
        have HX := HP none (HD.out _)
        go_enter Try.func73, Try.ntmps73
        go_wp2
        go_ret
        exact ⟨rfl, HX.out.1, ⟨_, _, _, HX.out.2.1⟩, HX.out.2.2⟩
      | some a =>
        have HX := HP (some a) (HD.out _)
        go_enter Try.func73, Try.ntmps73
        go_wp2
        go_ret
        exact ⟨rfl, HX.out.1, ⟨_, _, _, HX.out.2.1⟩, HX.out.2.2⟩
  · obtain ⟨b, o, rfl, _⟩ := hr.rd.at_ (by omega)
    by_cases hkn : k ≤ n
    · have hpk : p = k := by rw [hp.out]; omega
      subst hpk
      have hkn2 : (p : Int) ≤ n := by omega
      have hkn3 : ¬ (n : Int) < p := by omega
      have HB := fun B hA => hid (hr.rd.behind p (by omega) (A := B) hA)
      clear hl hr hp hkn
      by_cases hkc : p = c
      · have HX := HP (some ⟨b, o, none⟩) (HB _ (fun h => absurd hkc h)).out
        subst hkc
        simp only [Nat.sub_self] at HX
        go_enter Try.func73, Try.ntmps73
        go_wp2
        go_ret
        exact ⟨rfl, HX.out.1, ⟨_, _, _, HX.out.2.1⟩, HX.out.2.2⟩
      · have HX := HP (some ⟨b, o + p, none⟩) (HB _ (fun h => rfl)).out
        go_enter Try.func73, Try.ntmps73
        go_wp2
        go_ret
        exact ⟨rfl, HX.out.1, ⟨_, _, _, HX.out.2.1⟩, HX.out.2.2⟩
    · have hpk : p = n := by rw [hp.out]; omega
      subst hpk
      have hkn2 : (p : Int) < k := by omega
      have HB := fun B hA => hid (hr.rd.behind p (by omega) (A := B) hA)
      clear hl hr hp hkn
      by_cases hkc : p = c
      · have HX := HP (some ⟨b, o, none⟩) (HB _ (fun h => absurd hkc h)).out
        subst hkc
        simp only [Nat.sub_self] at HX
        go_enter Try.func73, Try.ntmps73
        go_wp2
        go_ret
        exact ⟨rfl, HX.out.1, ⟨_, _, _, HX.out.2.1⟩, HX.out.2.2⟩
      · have HX := HP (some ⟨b, o + p, none⟩) (HB _ (fun h => rfl)).out
        simp only [Nat.sub_self] at HX
        go_enter Try.func73, Try.ntmps73
        go_wp2
        go_ret
        exact ⟨rfl, HX.out.1, ⟨_, _, _, HX.out.2.1⟩, HX.out.2.2⟩
end Go.Proofs.Ytbhglgcnoidddaa
