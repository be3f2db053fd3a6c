/-
  Mail of a kind, taken from bytes: the closures that take it.
-/
import Derived.Test.YtdhfnacdjjdijaaGreatMlI
namespace Go.Proofs.YtdhfnacdjjdijaaGreat
open Go.RowKit
set_option linter.unusedVariables false
set_option linter.unusedSimpArgs false

/-- The call hands back mail whose operations are its own; but for the reader's cell all is as it was. -/
def RetM (w : World) (g : Nat) (m : Mld) (e : Ending) (w' : World) : Prop := ∃ A n c, e = .returned (.agg #[.int .u8 m.kd, .int .i64 m.us, .int .i64 m.se, .int .i64 m.co, .int .i64 m.fr, .int .i64 m.tt, .int .u8 m.ak, .int .i64 m.t0, .int .i64 m.t1, .int .i64 m.t2, .int .i64 m.t3, .slice A n c]) ∧ m.ops.length = n ∧ OwO w' w.heap.size A c m.ops ∧ Turn g w w'
/-- The result's box beside a reader. -/
structure Beside (w0 w W : World) (g : Nat) (l : List UInt8) : Prop where
  th : ThereM W w.heap.size
  rd : ∃ B m d, Rdr w0 W g B m d l
  tu : Turn g w W
theorem beside_new {w0 w : World} {g : Nat} {A : Option Addr} {n c : Nat} {l : List UInt8} (hr : Rdr w0 w g A n c l) (cs : Array Value) (hc : cs.size = 12) (t : TypeId) : Beside w0 w (w.alloc (.cells cs t)) g l :=
  ⟨thereM_new w cs hc t, ⟨A, n, c, hr.keep ((Below.refl _ _).alloc (Nat.le_refl _) _)⟩, (Turn.below (Below.refl _ _) (Nat.le_of_lt hr.lt)).alloc hr.lt _⟩
theorem Beside.step {w0 w W W' : World} {g : Nat} {l l' : List UInt8} (h : Beside w0 w W g l) (hg : g < w.heap.size) (hR : ∃ B m d, Rdr w0 W' g B m d l') (hT : Turn g W W') : Beside w0 w W' g l' :=
  ⟨there_turn h.th hT (by omega), hR, h.tu.trans hT⟩
theorem nu_byte (l : List UInt8) : 0 ≤ nu 1 l ∧ nu 1 l ≤ 255 := by
  have := nu_r 1 (by omega) l
  simp only [Int.reducePow] at this
  omega

set_option maxRecDepth 100000 in
set_option maxHeartbeats 1600000 in
theorem take_open (w0 : World) (g : Nat) (A : Option Addr) (n c : Nat) (l : List UInt8) (w : World) (hr : Rdr w0 w g A n c l) :
    Calls Tryz.prog 64 #[.pointer (some ⟨g, 0, none⟩)] w (RetM w g (rdK tkO 1 l)) := by
  have hg := hr.lt
  have B0 := beside_new hr (#[.int .u8 0, .int .i64 0, .int .i64 0, .int .i64 0, .int .i64 0, .int .i64 0, .int .u8 0, .int .i64 0, .int .i64 0, .int .i64 0, .int .i64 0, .slice none 0 0]) rfl 27
  obtain ⟨z1, hz1⟩ : ∃ z, nu 1 l = z := ⟨_, rfl⟩
  have HD := hid (show rdK tkO 1 l = (⟨0, z1, 0, 0, 0, 0, 0, 0, 0, 0, 0, []⟩ : Mld) by rw [← hz1]; rfl)
  have Hz1 := hid hz1
  clear hz1
  clear hr
  go_enter Tryz.func64, Tryz.ntmps64
  go_wp2_with fail
  obtain ⟨X0, x0, y0, hR0⟩ := B0.rd
  refine (mnumber_of 1 1 z1 w0 g X0 x0 y0 l rfl (by omega) Hz1 _ hR0).mono ?_
  rintro e w1 ⟨rfl, hQ0, hT0⟩
  have B1 := B0.step hg hQ0 hT0
  clear B0 hR0 hQ0 hT0
  have th := B1.th
  have hT := B1.tu
  clear B1
  go_wp2_with (refine wpList_store_m rfl (.tmp 2) (.tmp 5) rfl w.heap.size rfl ⟨0, z1, 0, 0, 0, 0, 0, 0, 0, 0, 0, []⟩ none 0 0 rfl th w.heap.size (Nat.le_refl _) ?_; intro w9 bx9 th9 b9 hh9 sz9)
  exact bodyPost_ret (results_m rfl rfl bx9) rfl ⟨none, 0, 0, by rw [HD.out], by rw [HD.out]; rfl, by rw [HD.out]; exact OwO.nil _ _, hT.other hh9 (Nat.le_refl _) (b9.mono (Nat.le_of_lt hg))⟩

set_option maxRecDepth 100000 in
set_option maxHeartbeats 1600000 in
theorem take_pull (w0 : World) (g : Nat) (A : Option Addr) (n c : Nat) (l : List UInt8) (w : World) (hr : Rdr w0 w g A n c l) :
    Calls Tryz.prog 77 #[.pointer (some ⟨g, 0, none⟩)] w (RetM w g (rdK tkO 3 l)) := by
  have hg := hr.lt
  have B0 := beside_new hr (#[.int .u8 0, .int .i64 0, .int .i64 0, .int .i64 0, .int .i64 0, .int .i64 0, .int .u8 0, .int .i64 0, .int .i64 0, .int .i64 0, .int .i64 0, .slice none 0 0]) rfl 27
  obtain ⟨z1, hz1⟩ : ∃ z, nu 3 l = z := ⟨_, rfl⟩
  have HD := hid (show rdK tkO 3 l = (⟨0, 0, 0, 0, z1, 0, 0, 0, 0, 0, 0, []⟩ : Mld) by rw [← hz1]; rfl)
  have Hz1 := hid hz1
  clear hz1
  clear hr
  go_enter Tryz.func77, Tryz.ntmps77
  go_wp2_with fail
  obtain ⟨X0, x0, y0, hR0⟩ := B0.rd
  refine (mnumber_of 3 3 z1 w0 g X0 x0 y0 l rfl (by omega) Hz1 _ hR0).mono ?_
  rintro e w1 ⟨rfl, hQ0, hT0⟩
  have B1 := B0.step hg hQ0 hT0
  clear B0 hR0 hQ0 hT0
  have th := B1.th
  have hT := B1.tu
  clear B1
  go_wp2_with (refine wpList_store_m rfl (.tmp 2) (.tmp 5) rfl w.heap.size rfl ⟨0, 0, 0, 0, z1, 0, 0, 0, 0, 0, 0, []⟩ none 0 0 rfl th w.heap.size (Nat.le_refl _) ?_; intro w9 bx9 th9 b9 hh9 sz9)
  exact bodyPost_ret (results_m rfl rfl bx9) rfl ⟨none, 0, 0, by rw [HD.out], by rw [HD.out]; rfl, by rw [HD.out]; exact OwO.nil _ _, hT.other hh9 (Nat.le_refl _) (b9.mono (Nat.le_of_lt hg))⟩

set_option maxRecDepth 100000 in
set_option maxHeartbeats 1600000 in
theorem take_ask (w0 : World) (g : Nat) (A : Option Addr) (n c : Nat) (l : List UInt8) (w : World) (hr : Rdr w0 w g A n c l) :
    Calls Tryz.prog 82 #[.pointer (some ⟨g, 0, none⟩)] w (RetM w g (rdK tkO 4 l)) := by
  have hg := hr.lt
  have B0 := beside_new hr (#[.int .u8 0, .int .i64 0, .int .i64 0, .int .i64 0, .int .i64 0, .int .i64 0, .int .u8 0, .int .i64 0, .int .i64 0, .int .i64 0, .int .i64 0, .slice none 0 0]) rfl 27
  obtain ⟨z1, hz1⟩ : ∃ z, nu 1 l = z := ⟨_, rfl⟩
  have c0 : 0 ≤ z1 ∧ z1 ≤ 255 := by rw [← hz1]; exact nu_byte _
  have hw : IntKind.u8.wrap z1 = z1 := by rw [IntKind.wrap_u8]; omega
  have HD := hid (show rdK tkO 4 l = (⟨0, 0, 0, 0, 0, 0, z1, 0, 0, 0, 0, []⟩ : Mld) by rw [← hz1]; rfl)
  have Hz1 := hid hz1
  clear hz1
  clear hr
  go_enter Tryz.func82, Tryz.ntmps82
  go_wp2_with fail
  obtain ⟨X0, x0, y0, hR0⟩ := B0.rd
  refine (mnumber_of 1 1 z1 w0 g X0 x0 y0 l rfl (by omega) Hz1 _ hR0).mono ?_
  rintro e w1 ⟨rfl, hQ0, hT0⟩
  have B1 := B0.step hg hQ0 hT0
  clear B0 hR0 hQ0 hT0
  have th := B1.th
  have hT := B1.tu
  clear B1
  go_wp2_with (refine wpList_store_m rfl (.tmp 2) (.tmp 6) rfl w.heap.size rfl ⟨0, 0, 0, 0, 0, 0, z1, 0, 0, 0, 0, []⟩ none 0 0 rfl th w.heap.size (Nat.le_refl _) ?_; intro w9 bx9 th9 b9 hh9 sz9)
  exact bodyPost_ret (results_m rfl rfl bx9) rfl ⟨none, 0, 0, by rw [HD.out], by rw [HD.out]; rfl, by rw [HD.out]; exact OwO.nil _ _, hT.other hh9 (Nat.le_refl _) (b9.mono (Nat.le_of_lt hg))⟩

set_option maxRecDepth 100000 in
set_option maxHeartbeats 1600000 in
theorem take_coded (w0 : World) (g : Nat) (A : Option Addr) (n c : Nat) (l : List UInt8) (w : World) (hr : Rdr w0 w g A n c l) :
    Calls Tryz.prog 91 #[.pointer (some ⟨g, 0, none⟩)] w (RetM w g (rdK tkO 6 l)) := by
  have hg := hr.lt
  have B0 := beside_new hr (#[.int .u8 0, .int .i64 0, .int .i64 0, .int .i64 0, .int .i64 0, .int .i64 0, .int .u8 0, .int .i64 0, .int .i64 0, .int .i64 0, .int .i64 0, .slice none 0 0]) rfl 27
  obtain ⟨z1, hz1⟩ : ∃ z, nu 2 l = z := ⟨_, rfl⟩
  have HD := hid (show rdK tkO 6 l = (⟨0, 0, 0, z1, 0, 0, 0, 0, 0, 0, 0, []⟩ : Mld) by rw [← hz1]; rfl)
  have Hz1 := hid hz1
  clear hz1
  clear hr
  go_enter Tryz.func91, Tryz.ntmps91
  go_wp2_with fail
  obtain ⟨X0, x0, y0, hR0⟩ := B0.rd
  refine (code_of z1 w0 g X0 x0 y0 l Hz1 _ hR0).mono ?_
  rintro e w1 ⟨rfl, hQ0, hT0⟩
  have B1 := B0.step hg hQ0 hT0
  clear B0 hR0 hQ0 hT0
  have th := B1.th
  have hT := B1.tu
  clear B1
  go_wp2_with (refine wpList_store_m rfl (.tmp 2) (.tmp 5) rfl w.heap.size rfl ⟨0, 0, 0, z1, 0, 0, 0, 0, 0, 0, 0, []⟩ none 0 0 rfl th w.heap.size (Nat.le_refl _) ?_; intro w9 bx9 th9 b9 hh9 sz9)
  exact bodyPost_ret (results_m rfl rfl bx9) rfl ⟨none, 0, 0, by rw [HD.out], by rw [HD.out]; rfl, by rw [HD.out]; exact OwO.nil _ _, hT.other hh9 (Nat.le_refl _) (b9.mono (Nat.le_of_lt hg))⟩

set_option maxRecDepth 100000 in
set_option maxHeartbeats 1600000 in
theorem take_answer (w0 : World) (g : Nat) (A : Option Addr) (n c : Nat) (l : List UInt8) (w : World) (hr : Rdr w0 w g A n c l) :
    Calls Tryz.prog 96 #[.pointer (some ⟨g, 0, none⟩)] w (RetM w g (rdK tkO 7 l)) := by
  have hg := hr.lt
  have B0 := beside_new hr (#[.int .u8 0, .int .i64 0, .int .i64 0, .int .i64 0, .int .i64 0, .int .i64 0, .int .u8 0, .int .i64 0, .int .i64 0, .int .i64 0, .int .i64 0, .slice none 0 0]) rfl 27
  obtain ⟨z1, hz1⟩ : ∃ z, nu 3 l = z := ⟨_, rfl⟩
  obtain ⟨z2, hz2⟩ : ∃ z, nu 2 (l.drop 3) = z := ⟨_, rfl⟩
  have HD := hid (show rdK tkO 7 l = (⟨0, 0, z1, z2, 0, 0, 0, 0, 0, 0, 0, []⟩ : Mld) by rw [← hz1, ← hz2]; rfl)
  have Hz1 := hid hz1
  clear hz1
  have Hz2 := hid hz2
  clear hz2
  clear hr
  go_enter Tryz.func96, Tryz.ntmps96
  go_wp2_with fail
  obtain ⟨X0, x0, y0, hR0⟩ := B0.rd
  refine (mnumber_of 3 3 z1 w0 g X0 x0 y0 l rfl (by omega) Hz1 _ hR0).mono ?_
  rintro e w1 ⟨rfl, hQ0, hT0⟩
  have B1 := B0.step hg hQ0 hT0
  clear B0 hR0 hQ0 hT0
  go_wp2_with fail
  obtain ⟨X1, x1, y1, hR1⟩ := B1.rd
  refine (code_of z2 w0 g X1 x1 y1 (l.drop 3) Hz2 _ hR1).mono ?_
  rintro e w2 ⟨rfl, hQ1, hT1⟩
  have B2 := B1.step hg hQ1 hT1
  clear B1 hR1 hQ1 hT1
  have th := B2.th
  have hT := B2.tu
  clear B2
  go_wp2_with (refine wpList_store_m rfl (.tmp 2) (.tmp 9) rfl w.heap.size rfl ⟨0, 0, z1, z2, 0, 0, 0, 0, 0, 0, 0, []⟩ none 0 0 rfl th w.heap.size (Nat.le_refl _) ?_; intro w9 bx9 th9 b9 hh9 sz9)
  exact bodyPost_ret (results_m rfl rfl bx9) rfl ⟨none, 0, 0, by rw [HD.out], by rw [HD.out]; rfl, by rw [HD.out]; exact OwO.nil _ _, hT.other hh9 (Nat.le_refl _) (b9.mono (Nat.le_of_lt hg))⟩

set_option maxRecDepth 100000 in
set_option maxHeartbeats 800000 in
theorem take_bare (w0 : World) (g : Nat) (A : Option Addr) (n c : Nat) (l : List UInt8) (w : World) (hr : Rdr w0 w g A n c l) :
    Calls Tryz.prog 86 #[.pointer (some ⟨g, 0, none⟩)] w (RetM w g (rdK tkO 5 l)) := by
  have hg := hr.lt
  have B0 := beside_new hr (#[.int .u8 0, .int .i64 0, .int .i64 0, .int .i64 0, .int .i64 0, .int .i64 0, .int .u8 0, .int .i64 0, .int .i64 0, .int .i64 0, .int .i64 0, .slice none 0 0]) rfl 27
  have HD := hid (show rdK tkO 5 l = (zM : Mld) from rfl)
  have th := B0.th
  have hT := B0.tu
  clear hr B0
  go_enter Tryz.func86, Tryz.ntmps86
  go_wp2_with (refine wpList_store_m rfl (.tmp 2) (.tmp 3) rfl w.heap.size rfl zM none 0 0 rfl th w.heap.size (Nat.le_refl _) ?_; intro w9 bx9 th9 b9 hh9 sz9)
  exact bodyPost_ret (results_m rfl rfl bx9) rfl ⟨none, 0, 0, by rw [HD.out], by rw [HD.out]; rfl, by rw [HD.out]; exact OwO.nil _ _, hT.other hh9 (Nat.le_refl _) (b9.mono (Nat.le_of_lt hg))⟩

set_option maxRecDepth 100000 in
set_option maxHeartbeats 1600000 in
theorem take_submit (w0 : World) (g : Nat) (A : Option Addr) (n c : Nat) (l : List UInt8) (w : World) (hr : Rdr w0 w g A n c l) :
    Calls Tryz.prog 71 #[.pointer (some ⟨g, 0, none⟩)] w (RetM w g (rdK tkO 2 l)) := by
  have hg := hr.lt
  have B0 := beside_new hr (#[.int .u8 0, .int .i64 0, .int .i64 0, .int .i64 0, .int .i64 0, .int .i64 0, .int .u8 0, .int .i64 0, .int .i64 0, .int .i64 0, .int .i64 0, .slice none 0 0]) rfl 27
  have HD := hid (show rdK tkO 2 l = (⟨0, 0, 0, 0, 0, 0, 0, 0, 0, 0, 0, tkO 1 l⟩ : Mld) from rfl)
  clear hr
  go_enter Tryz.func71, Tryz.ntmps71
  go_wp2_with fail
  obtain ⟨X0, x0, y0, hR0⟩ := B0.rd
  refine (mops_of 1 1 w0 g X0 x0 y0 l rfl (by omega) _ hR0).mono ?_
  rintro e w1 ⟨A1, c1, rfl, ho1, hQ0, hT0⟩
  have B1 := B0.step hg hQ0 hT0
  have th := B1.th
  have hT := B1.tu
  have ho := ho1.base (base' := w.heap.size + 1) (by simp)
  clear B0 B1 hR0 hQ0 hT0 ho1
  go_wp2_with (refine wpList_store_m rfl (.tmp 2) (.tmp 5) rfl w.heap.size rfl ⟨0, 0, 0, 0, 0, 0, 0, 0, 0, 0, 0, tkO 1 l⟩ A1 1 c1 rfl th w.heap.size (Nat.le_refl _) ?_; intro w9 bx9 th9 b9 hh9 sz9)
  exact bodyPost_ret (results_m rfl rfl bx9) rfl ⟨A1, 1, c1, by rw [HD.out], by rw [HD.out]; rfl, by rw [HD.out]; exact (ho.far fun k h1 h2 => hh9 k (by omega)).base (by omega), hT.other hh9 (Nat.le_refl _) (b9.mono (Nat.le_of_lt hg))⟩

set_option maxRecDepth 100000 in
set_option maxHeartbeats 1600000 in
theorem take_page (w0 : World) (g : Nat) (A : Option Addr) (n c : Nat) (l : List UInt8) (w : World) (hr : Rdr w0 w g A n c l) :
    Calls Tryz.prog 101 #[.pointer (some ⟨g, 0, none⟩)] w (RetM w g (rdK tkO 8 l)) := by
  have hg := hr.lt
  have B0 := beside_new hr (#[.int .u8 0, .int .i64 0, .int .i64 0, .int .i64 0, .int .i64 0, .int .i64 0, .int .u8 0, .int .i64 0, .int .i64 0, .int .i64 0, .int .i64 0, .slice none 0 0]) rfl 27
  obtain ⟨z1, hz1⟩ : ∃ z, nu 3 l = z := ⟨_, rfl⟩
  obtain ⟨z2, hz2⟩ : ∃ z, nu 3 (l.drop 3) = z := ⟨_, rfl⟩
  obtain ⟨z3, hz3⟩ : ∃ z, nu 1 (l.drop 6) = z := ⟨_, rfl⟩
  have h3 : 0 ≤ z3 ∧ z3 ≤ 255 := by rw [← hz3]; exact nu_byte _
  obtain ⟨k, hk⟩ : ∃ k : Nat, z3.toNat = k := ⟨_, rfl⟩
  have hk3 : z3 = (k : Int) := by omega
  have hk9 : k ≤ 300 := by omega
  have HD := hid (show rdK tkO 8 l = (⟨0, 0, 0, 0, z1, z2, 0, 0, 0, 0, 0, tkO k (l.drop 7)⟩ : Mld) by rw [← hz1, ← hz2, ← hk, ← hz3]; rfl)
  have H1 := hid hz1
  have H2 : Hid (nu 3 (l.drop 3) = z2) := hid hz2
  have H3 := hid (show nu 1 ((l.drop 3).drop 3) = z3 by rw [List.drop_drop]; exact hz3)
  have E7 := hid (show ((l.drop 3).drop 3).drop 1 = l.drop 7 by rw [List.drop_drop, List.drop_drop])
  have HK := hid hk3
  clear hr hz1 hz2 hz3 hk hk3
  go_enter Tryz.func101, Tryz.ntmps101
  go_wp2_with fail
  obtain ⟨X0, x0, y0, hR0⟩ := B0.rd
  refine (mnumber_of 3 3 z1 w0 g X0 x0 y0 l rfl (by omega) H1 _ hR0).mono ?_
  rintro e w1 ⟨rfl, hQ0, hT0⟩
  have B1 := B0.step hg hQ0 hT0
  clear B0 hR0 hQ0 hT0
  go_wp2_with fail
  obtain ⟨X1, x1, y1, hR1⟩ := B1.rd
  refine (mnumber_of 3 3 z2 w0 g X1 x1 y1 _ rfl (by omega) H2 _ hR1).mono ?_
  rintro e w2 ⟨rfl, hQ1, hT1⟩
  have B2 := B1.step hg hQ1 hT1
  clear B1 hR1 hQ1 hT1
  go_wp2_with fail
  obtain ⟨X2, x2, y2, hR2⟩ := B2.rd
  refine (mnumber_of 1 1 z3 w0 g X2 x2 y2 _ rfl (by omega) H3 _ hR2).mono ?_
  rintro e w3 ⟨rfl, hQ2, hT2⟩
  have B3 := B2.step hg hQ2 hT2
  rw [E7.out] at B3
  clear B2 hR2 hQ2 hT2
  go_wp2_with fail
  obtain ⟨X3, x3, y3, hR3⟩ := B3.rd
  refine (mops_of k z3 w0 g X3 x3 y3 (l.drop 7) HK.out hk9 _ hR3).mono ?_
  rintro e w4 ⟨A1, c1, rfl, ho1, hQ3, hT3⟩
  have B4 := B3.step hg hQ3 hT3
  have th := B4.th
  have hT := B4.tu
  have ho := ho1.base (base' := w.heap.size + 1) (by have := B3.th.lt; omega)
  clear B3 B4 hR3 hQ3 hT3 ho1
  go_wp2_with (refine wpList_store_m rfl (.tmp 2) (.tmp 17) rfl w.heap.size rfl ⟨0, 0, 0, 0, z1, z2, 0, 0, 0, 0, 0, tkO k (l.drop 7)⟩ A1 k c1 rfl th w.heap.size (Nat.le_refl _) ?_; intro w9 bx9 th9 b9 hh9 sz9)
  exact bodyPost_ret (results_m rfl rfl bx9) rfl ⟨A1, k, c1, by rw [HD.out], by rw [HD.out]; exact tkO_len _ _, by rw [HD.out]; exact (ho.far fun k h1 h2 => hh9 k (by omega)).base (by omega), hT.other hh9 (Nat.le_refl _) (b9.mono (Nat.le_of_lt hg))⟩
end Go.Proofs.YtdhfnacdjjdijaaGreat
