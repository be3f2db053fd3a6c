/-
  What the reader's other methods take: numbers, handles, ids, rows, labels.
-/
import Derived.Test.YtbhglgcnoidddaaOpP
import Derived.Test.YtbhglgcnoidddaaRunI
namespace Go.Proofs.Ytbhglgcnoidddaa
open Go.RowKit
set_option linter.unusedVariables false
set_option linter.unusedSimpArgs false

/-- So many cells stored whole. -/
theorem wpList_store_n {P : Program} {ops : Array Oper} {rest : List Oper} {op : Oper} {a : Act} {W : World} {Q : Exit → Act → World → Prop} (hgd : op.guard = none) (t : TypeId) (d : TypeDesc) (hu : P.underlying t = some d) (hd : d.isRow = true) (cs : List Value) (hi : (P.info? t).map (·.size) = some cs.length) (x y : Operand) (ho : op.op = .store t x y)
    (b : Nat) (hx : a.eval x = .pointer (some ⟨b, 0, none⟩)) (hy : a.eval y = .agg cs.toArray) (h1 : cs.toArray.all (·.oneCell') = true) (ht : W.there b 0 cs.length) (base : Nat) (hb : base ≤ b)
    (h : ∀ W', W'.rangeAt b 0 cs → W'.there b 0 cs.length → Below base W W' → (∀ k, k ≠ b → W'.heap[k]? = W.heap[k]?) → W'.heap.size = W.heap.size → wpList P ops Q rest (a.put op.dst undef) W') : wpList P ops Q (op :: rest) a W := by
  refine wpList_store_mid hgd t x y ho b 0 _ hx hy (by simpa using ht) (by simpa using hi) h1 ?_
  exact h _ (World.rangeAt_setCells_same W b 0 cs ht) (World.there_setCells ht b 0 _) (below_setCells b base hb _ _ _) (fun k hk => heap_setCells b _ _ _ k hk) (size_setCells b _ _ _)
theorem there_new (w : World) (cs : Array Value) (t : TypeId) (m : Nat) (hm : cs.size = m) : (w.alloc (.cells cs t)).there w.heap.size 0 m := fun j hj => by
  refine ⟨?_, ?_⟩
  · rw [cell_of_row _ _ _ cs t (0, 0) (heap_alloc_last w _)]
    simp; omega
  · exact frozen_of_row _ _ _ _ _ (heap_alloc_last w _)
theorem there_keep {w w' : World} {b m : Nat} (h : w.there b 0 m) (hb : Below w.heap.size w w') : w'.there b 0 m := fun j hj => by
  obtain ⟨h1, h2⟩ := h j hj
  obtain ⟨u, hu⟩ := Option.isSome_iff_exists.1 h1
  exact ⟨by rw [keep hb hu]; rfl, keepz hb hu h2⟩
theorem there_turn {g : Nat} {w w' : World} {b m : Nat} (h : w.there b 0 m) (hT : Turn g w w') (hb : b ≠ g) : w'.there b 0 m := fun j hj => by
  obtain ⟨h1, h2⟩ := h j hj
  obtain ⟨u, hu⟩ := Option.isSome_iff_exists.1 h1
  exact ⟨by rw [hT.cell (p := ⟨b, 0 + j, none⟩) hb hu]; rfl, hT.frozen (p := ⟨b, 0 + j, none⟩) hb hu h2⟩
theorem there_other {w w' : World} {b b' m : Nat} (h : w.there b 0 m) (hh : ∀ k, k ≠ b' → w'.heap[k]? = w.heap[k]?) (hb : b ≠ b') : w'.there b 0 m := fun j hj => by
  obtain ⟨h1, h2⟩ := h j hj
  obtain ⟨u, hu⟩ := Option.isSome_iff_exists.1 h1
  refine ⟨by rw [cell_other hh (p := ⟨b, 0 + j, none⟩) hb hu]; rfl, ?_⟩
  rw [World.frozen?_of_block (w := w) (hh b hb)]; exact h2

/-- A reader behind a store into another block. -/
theorem Rdr.other {w0 w w' : World} {g : Nat} {A : Option Addr} {n c : Nat} {l : List UInt8} (h : Rdr w0 w g A n c l) {b : Nat} (hh : ∀ k, k ≠ b → w'.heap[k]? = w.heap[k]?) (hb : g ≠ b) (hB : Below w0.heap.size w w') : Rdr w0 w' g A n c l :=
  ⟨cell_other hh (p := ⟨g, 0, none⟩) hb h.cell, by rw [World.frozen?_of_block (w := w) (hh g hb)]; exact h.may, h.rd, h.len, h.old.trans hB, h.far⟩
theorem Turn.other {g : Nat} {w X X' : World} (h : Turn g w X) {b : Nat} (hh : ∀ k, k ≠ b → X'.heap[k]? = X.heap[k]?) (hb : w.heap.size ≤ b) (hB : Below g X X') : Turn g w X' :=
  ⟨Nat.le_trans h.size hB.size, fun k hk hg => (hh k (by omega)).trans (h.heap k hk hg), h.low.trans hB⟩
theorem Turn.alloc {g : Nat} {w X : World} (h : Turn g w X) (hg : g < w.heap.size) (o : Obj) : Turn g w (X.alloc o) :=
  h.trans (Turn.below ((Below.refl _ _).alloc (Nat.le_refl _) o) (Nat.le_of_lt (Nat.lt_of_lt_of_le hg h.size)))

theorem take_of (k p : Nat) (v : Int) (w0 : World) (g : Nat) (A : Option Addr) (n c : Nat) (l : List UInt8) (hv : v = (k : Int)) (hp : Hid ((l.take k).length = p)) (w : World) (hr : Rdr w0 w g A n c l) :
    Calls Try.prog 73 #[.pointer (some ⟨g, 0, none⟩), .int .i64 v] w fun e w' => e = .returned (.slice A p c) ∧ Rd w' A c (l.take k) ∧ (∃ B m d, Rdr w0 w' g B m d (l.drop k)) ∧ Turn g w w' := by
  subst hv
  exact take_any k p w0 g A n c l (hid (by rw [← hp.out, List.length_take, hr.len])) w hr

set_option maxRecDepth 100000 in
set_option maxHeartbeats 1600000 in
theorem number_of (k : Nat) (v z : Int) (w0 : World) (g : Nat) (A : Option Addr) (n c : Nat) (l : List UInt8) (hv : v = (k : Int)) (hk : k ≤ 4) (hz : Hid ((vl (l.take k) : Int) = z)) (w : World) (hr : Rdr w0 w g A n c l) :
    Calls Try.prog 40 #[.pointer (some ⟨g, 0, none⟩), .int .i64 v] w fun e w' => e = .returned (.int .i64 z) ∧ (∃ B m d, Rdr w0 w' g B m d (l.drop k)) ∧ Turn g w w' := by
  have HV := hid hv
  clear hv
  obtain ⟨p, hp⟩ : ∃ p, (l.take k).length = p := ⟨_, rfl⟩
  have hp4 : p ≤ 4 := by rw [← hp, List.length_take]; omega
  have HP0 := hid hp
  obtain ⟨l1, hl1⟩ : ∃ l1, l.take k = l1 := ⟨_, rfl⟩
  have HL1 := hid hl1
  rw [hl1] at hp
  have HP := hid hp
  have HZ := hid (show (vl l1 : Int) = z by rw [← hl1]; exact hz.out)
  clear hp hl1
  go_enter Try.func40, Try.ntmps40
  go_wp2_with fail
  refine (take_of k p v w0 g A n c l HV.out HP0 _ hr).mono ?_
  rintro e w1 ⟨rfl, hr1, hR, hT⟩
  rw [HL1.out] at hr1
  have hc2 : (c : Int) ≤ 9223372036854775807 := by have := hr1.cap; omega
  have hc1 : (p : Int) ≤ c := by have := hr1.len; have := HP.out; omega
  have HR := hid hr1
  have HRR := hid hR
  have HT := hid hT
  clear hr1 hR hT hr
  go_wp2
  go_loop [5, 7, 12] (fun v u i => ∃ (j : Nat) (y : Int), j ≤ p ∧ i = .int .i64 (j : Int) ∧ v = .int .i64 y ∧ Hid ((vl (l1.take j) : Int) = y)) (fun _ _ i => p - (intOf i).toNat)
  case atStart => exact ⟨0, 0, by omega, rfl, rfl, hid rfl⟩
  case round =>
    obtain ⟨j, y, hj, rfl, rfl, hy⟩ := hrel
    by_cases hlt : j < p
    · have hl := HP.out
      obtain ⟨b, o, rfl, hcell⟩ := HR.out.at_ (by omega)
      have h1 := hcell j (by omega)
      have hs := vl_take (l := l1) (j := j) (by omega)
      have hsm := vl_small l1 (show j ≤ 6 by omega)
      generalize l1[j]'(by omega) = d at h1 hs
      have hd := d.toNat_lt
      have hd2 : (d.toNat : Int) ≤ 255 := by omega
      have y0 : 0 ≤ y := by rw [← hy.out]; omega
      have y1 : y < 281474976710656 := by have := hy.out; simp at hsm; omega
      have ho := or_add y d y0 (by omega)
      have HS := hid (show ((vl (l1.take (j + 1)) : Nat) : Int) = y * 256 + d.toNat by rw [hs]; have := hy.out; omega)
      have hlt2 : (j : Int) < (p : Int) := by omega
      clear hs hsm hd hcell hl
      go_wp2
      go_round
      case rel => exact ⟨j + 1, _, by omega, by go_num, rfl, HS⟩
      case measure => simp [intOf]; omega
    · have ej : l1.take j = l1 := List.take_of_length_le (by have := HP.out; omega)
      have hlt2 : ¬ (j : Int) < (p : Int) := by omega
      have HE := hid ej
      clear ej
      go_wp2
      go_ret
      exact ⟨ret_int (by rw [← HZ.out, ← hy.out, HE.out]), HRR.out, HT.out⟩

set_option maxRecDepth 100000 in
set_option maxHeartbeats 1600000 in
theorem handle_of (q : Bool) (x0 x1 x5 : Int) (w0 : World) (g : Nat) (A : Option Addr) (n c : Nat) (l : List UInt8) (hx : Hid (okH (l.take 6) = q ∧ pick q (gL (l.take 6)) = x0 ∧ pick q (gC (l.take 6)) = x1 ∧ pick q (gK (l.take 6)) = x5)) (w : World) (hr : Rdr w0 w g A n c l) :
    Calls Try.prog 41 #[.pointer (some ⟨g, 0, none⟩)] w fun e w' => e = .returned (.agg #[.int .u8 x0, .int .u32 x1, .int .u8 x5]) ∧ (∃ B m d, Rdr w0 w' g B m d (l.drop 6)) ∧ Turn g w w' := by
  obtain ⟨p, hp⟩ : ∃ p, (l.take 6).length = p := ⟨_, rfl⟩
  have HP := hid hp
  clear hp
  have hi : (Try.prog.info? 26).map (·.size) = some 3 := by kernel_rfl
  have hg := hr.lt
  have hfar := hr.far
  have hr' := hr.keep ((Below.refl _ _).alloc (Nat.le_refl _) (.cells #[.int .u8 0, .int .u32 0, .int .u8 0] 26))
  have ht := there_new w #[.int .u8 0, .int .u32 0, .int .u8 0] 26 3 rfl
  have hT0 : Turn g w (w.alloc (.cells #[.int .u8 0, .int .u32 0, .int .u8 0] 26)) := (Turn.below (Below.refl _ _) (Nat.le_of_lt hg)).alloc hg _
  have hs0 : (w.alloc (.cells #[.int .u8 0, .int .u32 0, .int .u8 0] 26)).heap.size = w.heap.size + 1 := by simp
  go_enter Try.func41, Try.ntmps41
  go_wp2_with fail
  refine (take_of 6 p 6 w0 g A n c l rfl HP _ hr').mono ?_
  rintro e w1 ⟨rfl, hr1, ⟨B, m, d, hR⟩, hT⟩
  have hT1 := hT0.trans hT
  have ht1 := there_turn ht hT (by omega)
  have hs1 := hT.size
  rw [hs0] at hs1
  clear hr hr' ht hT0 hT
  go_wp2_with fail
  refine (getHandle_of q x0 x1 x5 A p c (l.take 6) HP hx _ hr1).mono ?_
  rintro e w2 ⟨rfl, b2⟩
  replace hR := hR.keep b2
  have hT2 := hT1.trans (Turn.below b2 (by omega))
  have ht2 := there_keep ht1 b2
  have hs2 := b2.size
  have ht3 := there_new w2 #[.int .u8 0, .int .u32 0, .int .u8 0] 26 3 rfl
  have hR3 := hR.keep ((Below.refl _ _).alloc (Nat.le_refl _) (.cells #[.int .u8 0, .int .u32 0, .int .u8 0] 26))
  have hT3 := hT2.alloc hg (.cells #[.int .u8 0, .int .u32 0, .int .u8 0] 26)
  have ht4 := there_keep ht2 ((Below.refl _ _).alloc (Nat.le_refl _) (.cells #[.int .u8 0, .int .u32 0, .int .u8 0] 26))
  clear hr1 hT1 ht1 hR hT2 ht2 b2
  go_wp2_with (first
    | (refine wpList_store_n rfl 26 _ Try.underlying26 rfl [.int .u8 x0, .int .u32 x1, .int .u8 x5] hi (.tmp 3) (.tmp 9) rfl w2.heap.size rfl rfl (by simp [Value.oneCell']) ht3 w2.heap.size (Nat.le_refl _) ?_; intro w3 r3 _ b3 h3 z3; have s0 : w3.cell? ⟨w2.heap.size, 0, none⟩ = _ := r3 0 _ rfl; have s1 : w3.cell? ⟨w2.heap.size, 1, none⟩ = _ := r3 1 _ rfl; have s2 : w3.cell? ⟨w2.heap.size, 2, none⟩ = _ := r3 2 _ rfl)
    | (refine wpList_store_n rfl 26 _ Try.underlying26 rfl [.int .u8 x0, .int .u32 x1, .int .u8 x5] hi (.tmp 2) (.tmp 11) rfl w.heap.size rfl rfl (by simp [Value.oneCell']) (there_other ht4 h3 (by omega)) w.heap.size (Nat.le_refl _) ?_; intro w4 r4 _ b4 h4 z4; have u0 : w4.cell? ⟨w.heap.size, 0, none⟩ = _ := r4 0 _ rfl; have u1 : w4.cell? ⟨w.heap.size, 1, none⟩ = _ := r4 1 _ rfl; have u2 : w4.cell? ⟨w.heap.size, 2, none⟩ = _ := r4 2 _ rfl))
  exact bodyPost_ret (v := .agg #[.int .u8 x0, .int .u32 x1, .int .u8 x5]) (by simp [results, Try.results41, go_sem, u0, u1, u2]) rfl ⟨rfl, ⟨B, m, d, (hR3.other h3 (by omega) (b3.mono (by omega))).other h4 (by omega) (b4.mono (by omega))⟩, (hT3.other h3 (by omega) (b3.mono (by omega))).other h4 (by omega) (b4.mono (by omega))⟩
end Go.Proofs.Ytbhglgcnoidddaa
