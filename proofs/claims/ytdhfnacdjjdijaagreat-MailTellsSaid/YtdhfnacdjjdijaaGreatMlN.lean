/-
  Whether mail may be: hasOnly, Check, Up.
-/
import Derived.Test.YtdhfnacdjjdijaaGreatMlI
import Derived.WideMake
namespace Go.Proofs.YtdhfnacdjjdijaaGreat
open Go.RowKit
set_option linter.unusedVariables false
set_option linter.unusedSimpArgs false

/-- The call hands back mail whose operations are its own; but for the reader's cell all is as it was. -/
def RetM (w : World) (g : Nat) (m : Mld) (e : Ending) (w' : World) : Prop := ∃ A n c, e = .returned (.agg #[.int .u8 m.kd, .int .i64 m.us, .int .i64 m.se, .int .i64 m.co, .int .i64 m.fr, .int .i64 m.tt, .int .u8 m.ak, .int .i64 m.t0, .int .i64 m.t1, .int .i64 m.t2, .int .i64 m.t3, .slice A n c]) ∧ m.ops.length = n ∧ OwO w' w.heap.size A c m.ops ∧ Turn g w w'
/-- The result's box beside a reader. -/
structure Beside (w0 w W : World) (g : Nat) (l : List UInt8) : Prop where
  th : ThereM W w.heap.size
  rd : ∃ B m d, Rdr w0 W g B m d l
  tu : Turn g w W
theorem beside_new {w0 w : World} {g : Nat} {A : Option Addr} {n c : Nat} {l : List UInt8} (hr : Rdr w0 w g A n c l) (cs : Array Value) (hc : cs.size = 12) (t : TypeId) : Beside w0 w (w.alloc (.cells cs t)) g l :=
  ⟨thereM_new w cs hc t, ⟨A, n, c, hr.keep ((Below.refl _ _).alloc (Nat.le_refl _) _)⟩, (Turn.below (Below.refl _ _) (Nat.le_of_lt hr.lt)).alloc hr.lt _⟩
theorem Beside.step {w0 w W W' : World} {g : Nat} {l l' : List UInt8} (h : Beside w0 w W g l) (hg : g < w.heap.size) (hR : ∃ B m d, Rdr w0 W' g B m d l') (hT : Turn g W W') : Beside w0 w W' g l' :=
  ⟨there_turn h.th hT (by omega), hR, h.tu.trans hT⟩
theorem nu_byte (l : List UInt8) : 0 ≤ nu 1 l ∧ nu 1 l ≤ 255 := by
  have := nu_r 1 (by omega) l
  simp only [Int.reducePow] at this
  omega

set_option maxRecDepth 100000 in
set_option maxHeartbeats 1600000 in
theorem take_open (w0 : World) (g : Nat) (A : Option Addr) (n c : Nat) (l : List UInt8) (w : World) (hr : Rdr w0 w g A n c l) :
    Calls Tryz.prog 64 #[.pointer (some ⟨g, 0, none⟩)] w (RetM w g (rdK tkO 1 l)) := by
  have hg := hr.lt
  have B0 := beside_new hr (#[.int .u8 0, .int .i64 0, .int .i64 0, .int .i64 0, .int .i64 0, .int .i64 0, .int .u8 0, .int .i64 0, .int .i64 0, .int .i64 0, .int .i64 0, .slice none 0 0]) rfl 27
  obtain ⟨z1, hz1⟩ : ∃ z, nu 1 l = z := ⟨_, rfl⟩
  have HD := hid (show rdK tkO 1 l = (⟨0, z1, 0, 0, 0, 0, 0, 0, 0, 0, 0, []⟩ : Mld) by rw [← hz1]; rfl)
  have Hz1 := hid hz1
  clear hz1
  clear hr
  go_enter Tryz.func64, Tryz.ntmps64
  go_wp2_with fail
  obtain ⟨X0, x0, y0, hR0⟩ := B0.rd
  refine (mnumber_of 1 1 z1 w0 g X0 x0 y0 l rfl (by omega) Hz1 _ hR0).mono ?_
  rintro e w1 ⟨rfl, hQ0, hT0⟩
  have B1 := B0.step hg hQ0 hT0
  clear B0 hR0 hQ0 hT0
  have th := B1.th
  have hT := B1.tu
  clear B1
  go_wp2_with (refine wpList_store_m rfl (.tmp 2) (.tmp 5) rfl w.heap.size rfl ⟨0, z1, 0, 0, 0, 0, 0, 0, 0, 0, 0, []⟩ none 0 0 rfl th w.heap.size (Nat.le_refl _) ?_; intro w9 bx9 th9 b9 hh9 sz9)
  exact bodyPost_ret (results_m rfl rfl bx9) rfl ⟨none, 0, 0, by rw [HD.out], by rw [HD.out]; rfl, by rw [HD.out]; exact OwO.nil _ _, hT.other hh9 (Nat.le_refl _) (b9.mono (Nat.le_of_lt hg))⟩

set_option maxRecDepth 100000 in
set_option maxHeartbeats 1600000 in
theorem take_pull (w0 : World) (g : Nat) (A : Option Addr) (n c : Nat) (l : List UInt8) (w : World) (hr : Rdr w0 w g A n c l) :
    Calls Tryz.prog 77 #[.pointer (some ⟨g, 0, none⟩)] w (RetM w g (rdK tkO 3 l)) := by
  have hg := hr.lt
  have B0 := beside_new hr (#[.int .u8 0, .int .i64 0, .int .i64 0, .int .i64 0, .int .i64 0, .int .i64 0, .int .u8 0, .int .i64 0, .int .i64 0, .int .i64 0, .int .i64 0, .slice none 0 0]) rfl 27
  obtain ⟨z1, hz1⟩ : ∃ z, nu 3 l = z := ⟨_, rfl⟩
  have HD := hid (show rdK tkO 3 l = (⟨0, 0, 0, 0, z1, 0, 0, 0, 0, 0, 0, []⟩ : Mld) by rw [← hz1]; rfl)
  have Hz1 := hid hz1
  clear hz1
  clear hr
  go_enter Tryz.func77, Tryz.ntmps77
  go_wp2_with fail
  obtain ⟨X0, x0, y0, hR0⟩ := B0.rd
  refine (mnumber_of 3 3 z1 w0 g X0 x0 y0 l rfl (by omega) Hz1 _ hR0).mono ?_
  rintro e w1 ⟨rfl, hQ0, hT0⟩
  have B1 := B0.step hg hQ0 hT0
  clear B0 hR0 hQ0 hT0
  have th := B1.th
  have hT := B1.tu
  clear B1
  go_wp2_with (refine wpList_store_m rfl (.tmp 2) (.tmp 5) rfl w.heap.size rfl ⟨0, 0, 0, 0, z1, 0, 0, 0, 0, 0, 0, []⟩ none 0 0 rfl th w.heap.size (Nat.le_refl _) ?_; intro w9 bx9 th9 b9 hh9 sz9)
  exact bodyPost_ret (results_m rfl rfl bx9) rfl ⟨none, 0, 0, by rw [HD.out], by rw [HD.out]; rfl, by rw [HD.out]; exact OwO.nil _ _, hT.other hh9 (Nat.le_refl _) (b9.mono (Nat.le_of_lt hg))⟩

set_option maxRecDepth 100000 in
set_option maxHeartbeats 1600000 in
theorem take_ask (w0 : World) (g : Nat) (A : Option Addr) (n c : Nat) (l : List UInt8) (w : World) (hr : Rdr w0 w g A n c l) :
    Calls Tryz.prog 82 #[.pointer (some ⟨g, 0, none⟩)] w (RetM w g (rdK tkO 4 l)) := by
  have hg := hr.lt
  have B0 := beside_new hr (#[.int .u8 0, .int .i64 0, .int .i64 0, .int .i64 0, .int .i64 0, .int .i64 0, .int .u8 0, .int .i64 0, .int .i64 0, .int .i64 0, .int .i64 0, .slice none 0 0]) rfl 27
  obtain ⟨z1, hz1⟩ : ∃ z, nu 1 l = z := ⟨_, rfl⟩
  have c0 : 0 ≤ z1 ∧ z1 ≤ 255 := by rw [← hz1]; exact nu_byte _
  have hw : IntKind.u8.wrap z1 = z1 := by rw [IntKind.wrap_u8]; omega
  have HD := hid (show rdK tkO 4 l = (⟨0, 0, 0, 0, 0, 0, z1, 0, 0, 0, 0, []⟩ : Mld) by rw [← hz1]; rfl)
  have Hz1 := hid hz1
  clear hz1
  clear hr
  go_enter Tryz.func82, Tryz.ntmps82
  go_wp2_with fail
  obtain ⟨X0, x0, y0, hR0⟩ := B0.rd
  refine (mnumber_of 1 1 z1 w0 g X0 x0 y0 l rfl (by omega) Hz1 _ hR0).mono ?_
  rintro e w1 ⟨rfl, hQ0, hT0⟩
  have B1 := B0.step hg hQ0 hT0
  clear B0 hR0 hQ0 hT0
  have th := B1.th
  have hT := B1.tu
  clear B1
  go_wp2_with (refine wpList_store_m rfl (.tmp 2) (.tmp 6) rfl w.heap.size rfl ⟨0, 0, 0, 0, 0, 0, z1, 0, 0, 0, 0, []⟩ none 0 0 rfl th w.heap.size (Nat.le_refl _) ?_; intro w9 bx9 th9 b9 hh9 sz9)
  exact bodyPost_ret (results_m rfl rfl bx9) rfl ⟨none, 0, 0, by rw [HD.out], by rw [HD.out]; rfl, by rw [HD.out]; exact OwO.nil _ _, hT.other hh9 (Nat.le_refl _) (b9.mono (Nat.le_of_lt hg))⟩

set_option maxRecDepth 100000 in
set_option maxHeartbeats 1600000 in
theorem take_coded (w0 : World) (g : Nat) (A : Option Addr) (n c : Nat) (l : List UInt8) (w : World) (hr : Rdr w0 w g A n c l) :
    Calls Tryz.prog 91 #[.pointer (some ⟨g, 0, none⟩)] w (RetM w g (rdK tkO 6 l)) := by
  have hg := hr.lt
  have B0 := beside_new hr (#[.int .u8 0, .int .i64 0, .int .i64 0, .int .i64 0, .int .i64 0, .int .i64 0, .int .u8 0, .int .i64 0, .int .i64 0, .int .i64 0, .int .i64 0, .slice none 0 0]) rfl 27
  obtain ⟨z1, hz1⟩ : ∃ z, nu 2 l = z := ⟨_, rfl⟩
  have HD := hid (show rdK tkO 6 l = (⟨0, 0, 0, z1, 0, 0, 0, 0, 0, 0, 0, []⟩ : Mld) by rw [← hz1]; rfl)
  have Hz1 := hid hz1
  clear hz1
  clear hr
  go_enter Tryz.func91, Tryz.ntmps91
  go_wp2_with fail
  obtain ⟨X0, x0, y0, hR0⟩ := B0.rd
  refine (code_of z1 w0 g X0 x0 y0 l Hz1 _ hR0).mono ?_
  rintro e w1 ⟨rfl, hQ0, hT0⟩
  have B1 := B0.step hg hQ0 hT0
  clear B0 hR0 hQ0 hT0
  have th := B1.th
  have hT := B1.tu
  clear B1
  go_wp2_with (refine wpList_store_m rfl (.tmp 2) (.tmp 5) rfl w.heap.size rfl ⟨0, 0, 0, z1, 0, 0, 0, 0, 0, 0, 0, []⟩ none 0 0 rfl th w.heap.size (Nat.le_refl _) ?_; intro w9 bx9 th9 b9 hh9 sz9)
  exact bodyPost_ret (results_m rfl rfl bx9) rfl ⟨none, 0, 0, by rw [HD.out], by rw [HD.out]; rfl, by rw [HD.out]; exact OwO.nil _ _, hT.other hh9 (Nat.le_refl _) (b9.mono (Nat.le_of_lt hg))⟩

set_option maxRecDepth 100000 in
set_option maxHeartbeats 1600000 in
theorem take_answer (w0 : World) (g : Nat) (A : Option Addr) (n c : Nat) (l : List UInt8) (w : World) (hr : Rdr w0 w g A n c l) :
    Calls Tryz.prog 96 #[.pointer (some ⟨g, 0, none⟩)] w (RetM w g (rdK tkO 7 l)) := by
  have hg := hr.lt
  have B0 := beside_new hr (#[.int .u8 0, .int .i64 0, .int .i64 0, .int .i64 0, .int .i64 0, .int .i64 0, .int .u8 0, .int .i64 0, .int .i64 0, .int .i64 0, .int .i64 0, .slice none 0 0]) rfl 27
  obtain ⟨z1, hz1⟩ : ∃ z, nu 3 l = z := ⟨_, rfl⟩
  obtain ⟨z2, hz2⟩ : ∃ z, nu 2 (l.drop 3) = z := ⟨_, rfl⟩
  have HD := hid (show rdK tkO 7 l = (⟨0, 0, z1, z2, 0, 0, 0, 0, 0, 0, 0, []⟩ : Mld) by rw [← hz1, ← hz2]; rfl)
  have Hz1 := hid hz1
  clear hz1
  have Hz2 := hid hz2
  clear hz2
  clear hr
  go_enter Tryz.func96, Tryz.ntmps96
  go_wp2_with fail
  obtain ⟨X0, x0, y0, hR0⟩ := B0.rd
  refine (mnumber_of 3 3 z1 w0 g X0 x0 y0 l rfl (by omega) Hz1 _ hR0).mono ?_
  rintro e w1 ⟨rfl, hQ0, hT0⟩
  have B1 := B0.step hg hQ0 hT0
  clear B0 hR0 hQ0 hT0
  go_wp2_with fail
  obtain ⟨X1, x1, y1, hR1⟩ := B1.rd
  refine (code_of z2 w0 g X1 x1 y1 (l.drop 3) Hz2 _ hR1).mono ?_
  rintro e w2 ⟨rfl, hQ1, hT1⟩
  have B2 := B1.step hg hQ1 hT1
  clear B1 hR1 hQ1 hT1
  have th := B2.th
  have hT := B2.tu
  clear B2
  go_wp2_with (refine wpList_store_m rfl (.tmp 2) (.tmp 9) rfl w.heap.size rfl ⟨0, 0, z1, z2, 0, 0, 0, 0, 0, 0, 0, []⟩ none 0 0 rfl th w.heap.size (Nat.le_refl _) ?_; intro w9 bx9 th9 b9 hh9 sz9)
  exact bodyPost_ret (results_m rfl rfl bx9) rfl ⟨none, 0, 0, by rw [HD.out], by rw [HD.out]; rfl, by rw [HD.out]; exact OwO.nil _ _, hT.other hh9 (Nat.le_refl _) (b9.mono (Nat.le_of_lt hg))⟩

set_option maxRecDepth 100000 in
set_option maxHeartbeats 800000 in
theorem take_bare (w0 : World) (g : Nat) (A : Option Addr) (n c : Nat) (l : List UInt8) (w : World) (hr : Rdr w0 w g A n c l) :
    Calls Tryz.prog 86 #[.pointer (some ⟨g, 0, none⟩)] w (RetM w g (rdK tkO 5 l)) := by
  have hg := hr.lt
  have B0 := beside_new hr (#[.int .u8 0, .int .i64 0, .int .i64 0, .int .i64 0, .int .i64 0, .int .i64 0, .int .u8 0, .int .i64 0, .int .i64 0, .int .i64 0, .int .i64 0, .slice none 0 0]) rfl 27
  have HD := hid (show rdK tkO 5 l = (zM : Mld) from rfl)
  have th := B0.th
  have hT := B0.tu
  clear hr B0
  go_enter Tryz.func86, Tryz.ntmps86
  go_wp2_with (refine wpList_store_m rfl (.tmp 2) (.tmp 3) rfl w.heap.size rfl zM none 0 0 rfl th w.heap.size (Nat.le_refl _) ?_; intro w9 bx9 th9 b9 hh9 sz9)
  exact bodyPost_ret (results_m rfl rfl bx9) rfl ⟨none, 0, 0, by rw [HD.out], by rw [HD.out]; rfl, by rw [HD.out]; exact OwO.nil _ _, hT.other hh9 (Nat.le_refl _) (b9.mono (Nat.le_of_lt hg))⟩

set_option maxRecDepth 100000 in
set_option maxHeartbeats 1600000 in
theorem take_submit (w0 : World) (g : Nat) (A : Option Addr) (n c : Nat) (l : List UInt8) (w : World) (hr : Rdr w0 w g A n c l) :
    Calls Tryz.prog 71 #[.pointer (some ⟨g, 0, none⟩)] w (RetM w g (rdK tkO 2 l)) := by
  have hg := hr.lt
  have B0 := beside_new hr (#[.int .u8 0, .int .i64 0, .int .i64 0, .int .i64 0, .int .i64 0, .int .i64 0, .int .u8 0, .int .i64 0, .int .i64 0, .int .i64 0, .int .i64 0, .slice none 0 0]) rfl 27
  have HD := hid (show rdK tkO 2 l = (⟨0, 0, 0, 0, 0, 0, 0, 0, 0, 0, 0, tkO 1 l⟩ : Mld) from rfl)
  clear hr
  go_enter Tryz.func71, Tryz.ntmps71
  go_wp2_with fail
  obtain ⟨X0, x0, y0, hR0⟩ := B0.rd
  refine (mops_of 1 1 w0 g X0 x0 y0 l rfl (by omega) _ hR0).mono ?_
  rintro e w1 ⟨A1, c1, rfl, ho1, hQ0, hT0⟩
  have B1 := B0.step hg hQ0 hT0
  have th := B1.th
  have hT := B1.tu
  have ho := ho1.base (base' := w.heap.size + 1) (by simp)
  clear B0 B1 hR0 hQ0 hT0 ho1
  go_wp2_with (refine wpList_store_m rfl (.tmp 2) (.tmp 5) rfl w.heap.size rfl ⟨0, 0, 0, 0, 0, 0, 0, 0, 0, 0, 0, tkO 1 l⟩ A1 1 c1 rfl th w.heap.size (Nat.le_refl _) ?_; intro w9 bx9 th9 b9 hh9 sz9)
  exact bodyPost_ret (results_m rfl rfl bx9) rfl ⟨A1, 1, c1, by rw [HD.out], by rw [HD.out]; rfl, by rw [HD.out]; exact (ho.far fun k h1 h2 => hh9 k (by omega)).base (by omega), hT.other hh9 (Nat.le_refl _) (b9.mono (Nat.le_of_lt hg))⟩

set_option maxRecDepth 100000 in
set_option maxHeartbeats 1600000 in
theorem take_page (w0 : World) (g : Nat) (A : Option Addr) (n c : Nat) (l : List UInt8) (w : World) (hr : Rdr w0 w g A n c l) :
    Calls Tryz.prog 101 #[.pointer (some ⟨g, 0, none⟩)] w (RetM w g (rdK tkO 8 l)) := by
  have hg := hr.lt
  have B0 := beside_new hr (#[.int .u8 0, .int .i64 0, .int .i64 0, .int .i64 0, .int .i64 0, .int .i64 0, .int .u8 0, .int .i64 0, .int .i64 0, .int .i64 0, .int .i64 0, .slice none 0 0]) rfl 27
  obtain ⟨z1, hz1⟩ : ∃ z, nu 3 l = z := ⟨_, rfl⟩
  obtain ⟨z2, hz2⟩ : ∃ z, nu 3 (l.drop 3) = z := ⟨_, rfl⟩
  obtain ⟨z3, hz3⟩ : ∃ z, nu 1 (l.drop 6) = z := ⟨_, rfl⟩
  have h3 : 0 ≤ z3 ∧ z3 ≤ 255 := by rw [← hz3]; exact nu_byte _
  obtain ⟨k, hk⟩ : ∃ k : Nat, z3.toNat = k := ⟨_, rfl⟩
  have hk3 : z3 = (k : Int) := by omega
  have hk9 : k ≤ 300 := by omega
  have HD := hid (show rdK tkO 8 l = (⟨0, 0, 0, 0, z1, z2, 0, 0, 0, 0, 0, tkO k (l.drop 7)⟩ : Mld) by rw [← hz1, ← hz2, ← hk, ← hz3]; rfl)
  have H1 := hid hz1
  have H2 : Hid (nu 3 (l.drop 3) = z2) := hid hz2
  have H3 := hid (show nu 1 ((l.drop 3).drop 3) = z3 by rw [List.drop_drop]; exact hz3)
  have E7 := hid (show ((l.drop 3).drop 3).drop 1 = l.drop 7 by rw [List.drop_drop, List.drop_drop])
  have HK := hid hk3
  clear hr hz1 hz2 hz3 hk hk3
  go_enter Tryz.func101, Tryz.ntmps101
  go_wp2_with fail
  obtain ⟨X0, x0, y0, hR0⟩ := B0.rd
  refine (mnumber_of 3 3 z1 w0 g X0 x0 y0 l rfl (by omega) H1 _ hR0).mono ?_
  rintro e w1 ⟨rfl, hQ0, hT0⟩
  have B1 := B0.step hg hQ0 hT0
  clear B0 hR0 hQ0 hT0
  go_wp2_with fail
  obtain ⟨X1, x1, y1, hR1⟩ := B1.rd
  refine (mnumber_of 3 3 z2 w0 g X1 x1 y1 _ rfl (by omega) H2 _ hR1).mono ?_
  rintro e w2 ⟨rfl, hQ1, hT1⟩
  have B2 := B1.step hg hQ1 hT1
  clear B1 hR1 hQ1 hT1
  go_wp2_with fail
  obtain ⟨X2, x2, y2, hR2⟩ := B2.rd
  refine (mnumber_of 1 1 z3 w0 g X2 x2 y2 _ rfl (by omega) H3 _ hR2).mono ?_
  rintro e w3 ⟨rfl, hQ2, hT2⟩
  have B3 := B2.step hg hQ2 hT2
  rw [E7.out] at B3
  clear B2 hR2 hQ2 hT2
  go_wp2_with fail
  obtain ⟨X3, x3, y3, hR3⟩ := B3.rd
  refine (mops_of k z3 w0 g X3 x3 y3 (l.drop 7) HK.out hk9 _ hR3).mono ?_
  rintro e w4 ⟨A1, c1, rfl, ho1, hQ3, hT3⟩
  have B4 := B3.step hg hQ3 hT3
  have th := B4.th
  have hT := B4.tu
  have ho := ho1.base (base' := w.heap.size + 1) (by have := B3.th.lt; omega)
  clear B3 B4 hR3 hQ3 hT3 ho1
  go_wp2_with (refine wpList_store_m rfl (.tmp 2) (.tmp 17) rfl w.heap.size rfl ⟨0, 0, 0, 0, z1, z2, 0, 0, 0, 0, 0, tkO k (l.drop 7)⟩ A1 k c1 rfl th w.heap.size (Nat.le_refl _) ?_; intro w9 bx9 th9 b9 hh9 sz9)
  exact bodyPost_ret (results_m rfl rfl bx9) rfl ⟨A1, k, c1, by rw [HD.out], by rw [HD.out]; exact tkO_len _ _, by rw [HD.out]; exact (ho.far fun k h1 h2 => hh9 k (by omega)).base (by omega), hT.other hh9 (Nat.le_refl _) (b9.mono (Nat.le_of_lt hg))⟩
end Go.Proofs.YtdhfnacdjjdijaaGreat

namespace Go.Proofs.YtdhfnacdjjdijaaGreat
open Go.RowKit
set_option linter.unusedVariables false
set_option linter.unusedSimpArgs false

def mtold (a x0 x1 x2 x3 : Int) (j : Nat) : Mld := ⟨0, 0, 0, 0, 0, 0, a, if 0 < j then x0 else 0, if 1 < j then x1 else 0, if 2 < j then x2 else 0, if 3 < j then x3 else 0, []⟩
theorem BoxM.turn {g : Nat} {w w' : World} {b : Nat} {m : Mld} {A : Option Addr} {n c : Nat} (h : BoxM w b m A n c) (hT : Turn g w w') (hb : b ≠ g) : BoxM w' b m A n c :=
  boxM_of fun j v hv => hT.cell (p := ⟨b, 0 + j, none⟩) hb (h.range j v hv)
theorem ThereM.sets {W : World} {b : Nat} (h : ThereM W b) (off : Nat) (vs : List Value) : ThereM (W.setCells b off vs) b := World.there_setCells h b off vs
theorem setM_t (off : Nat) (x : Int) {W : World} {b : Nat} (ht : ThereM W b) (ho : off < 12) : (W.setCells b off [.int .i64 x]).rangeAt b off [.int .i64 x] :=
  World.rangeAt_setCells_same W b off [.int .i64 x] (fun j hj => by have := ht (off + j) (by simp at hj; omega); simpa using this)
theorem setM7 {W : World} {b : Nat} {m : Mld} {A : Option Addr} {n c : Nat} (h : BoxM W b m A n c) (ht : ThereM W b) (x : Int) : BoxM (W.setCells b 7 [.int .i64 x]) b { m with t0 := x } A n c := by
  have hs := setM_t 7 x ht (by omega)
  exact ⟨cell_out h.c0 (by simp), cell_out h.c1 (by simp), cell_out h.c2 (by simp), cell_out h.c3 (by simp), cell_out h.c4 (by simp), cell_out h.c5 (by simp), cell_out h.c6 (by simp), hs 0 _ rfl, cell_out h.c8 (by simp), cell_out h.c9 (by simp), cell_out h.c10 (by simp), cell_out h.c11 (by simp)⟩
theorem setM8 {W : World} {b : Nat} {m : Mld} {A : Option Addr} {n c : Nat} (h : BoxM W b m A n c) (ht : ThereM W b) (x : Int) : BoxM (W.setCells b 8 [.int .i64 x]) b { m with t1 := x } A n c := by
  have hs := setM_t 8 x ht (by omega)
  exact ⟨cell_out h.c0 (by simp), cell_out h.c1 (by simp), cell_out h.c2 (by simp), cell_out h.c3 (by simp), cell_out h.c4 (by simp), cell_out h.c5 (by simp), cell_out h.c6 (by simp), cell_out h.c7 (by simp), hs 0 _ rfl, cell_out h.c9 (by simp), cell_out h.c10 (by simp), cell_out h.c11 (by simp)⟩
theorem setM9 {W : World} {b : Nat} {m : Mld} {A : Option Addr} {n c : Nat} (h : BoxM W b m A n c) (ht : ThereM W b) (x : Int) : BoxM (W.setCells b 9 [.int .i64 x]) b { m with t2 := x } A n c := by
  have hs := setM_t 9 x ht (by omega)
  exact ⟨cell_out h.c0 (by simp), cell_out h.c1 (by simp), cell_out h.c2 (by simp), cell_out h.c3 (by simp), cell_out h.c4 (by simp), cell_out h.c5 (by simp), cell_out h.c6 (by simp), cell_out h.c7 (by simp), cell_out h.c8 (by simp), hs 0 _ rfl, cell_out h.c10 (by simp), cell_out h.c11 (by simp)⟩
theorem setM10 {W : World} {b : Nat} {m : Mld} {A : Option Addr} {n c : Nat} (h : BoxM W b m A n c) (ht : ThereM W b) (x : Int) : BoxM (W.setCells b 10 [.int .i64 x]) b { m with t3 := x } A n c := by
  have hs := setM_t 10 x ht (by omega)
  exact ⟨cell_out h.c0 (by simp), cell_out h.c1 (by simp), cell_out h.c2 (by simp), cell_out h.c3 (by simp), cell_out h.c4 (by simp), cell_out h.c5 (by simp), cell_out h.c6 (by simp), cell_out h.c7 (by simp), cell_out h.c8 (by simp), cell_out h.c9 (by simp), hs 0 _ rfl, cell_out h.c11 (by simp)⟩
/-- Beside a reader, a box of another block is written. -/
theorem Beside.sets {w0 w W : World} {g : Nat} {l : List UInt8} (h : Beside w0 w W g l) (hg : g < w.heap.size) (h0 : w0.heap.size ≤ g) (b : Nat) (hb : w.heap.size < b) (off : Nat) (vs : List Value) : Beside w0 w (W.setCells b off vs) g l := by
  have hh : ∀ k, k ≠ b → (W.setCells b off vs).heap[k]? = W.heap[k]? := fun k hk => heap_setCells b vs off W k hk
  obtain ⟨B, m, d, hR⟩ := h.rd
  exact ⟨h.th.other hh (by omega), ⟨B, m, d, hR.other hh (by omega) (below_setCells b _ (by omega) _ _ _)⟩, h.tu.other hh (by omega) (below_setCells b _ (by omega) _ _ _)⟩
theorem Beside.keep {w0 w W W' : World} {g : Nat} {l : List UInt8} (h : Beside w0 w W g l) (hg : g < w.heap.size) (hb : Below W.heap.size W W') : Beside w0 w W' g l := by
  obtain ⟨B, m, d, hR⟩ := h.rd
  exact ⟨h.th.keep hb, ⟨B, m, d, hR.keep hb⟩, h.tu.trans (Turn.below hb (by have := h.th.lt; omega))⟩

set_option maxRecDepth 100000 in
set_option maxHeartbeats 3200000 in
theorem take_told (w0 : World) (g : Nat) (A : Option Addr) (n c : Nat) (l : List UInt8) (w : World) (hr : Rdr w0 w g A n c l) :
    Calls Tryz.prog 107 #[.pointer (some ⟨g, 0, none⟩)] w (RetM w g (rdK tkO 9 l)) := by
  have hg := hr.lt
  have hfar := hr.far
  have B0 := beside_new hr (#[.int .u8 0, .int .i64 0, .int .i64 0, .int .i64 0, .int .i64 0, .int .i64 0, .int .u8 0, .int .i64 0, .int .i64 0, .int .i64 0, .int .i64 0, .slice none 0 0]) rfl 27
  obtain ⟨a, ha⟩ : ∃ z, nu 1 l = z := ⟨_, rfl⟩
  have a9 : 0 ≤ a ∧ a ≤ 255 := by rw [← ha]; exact nu_byte _
  have hw : IntKind.u8.wrap a = a := by rw [IntKind.wrap_u8]; omega
  obtain ⟨x0, h0⟩ : ∃ z, nu 3 (l.drop 1) = z := ⟨_, rfl⟩
  obtain ⟨x1, h1⟩ : ∃ z, nu 3 (l.drop 4) = z := ⟨_, rfl⟩
  obtain ⟨x2, h2⟩ : ∃ z, nu 3 (l.drop 7) = z := ⟨_, rfl⟩
  obtain ⟨x3, h3⟩ : ∃ z, nu 3 (l.drop 10) = z := ⟨_, rfl⟩
  have HD := hid (show rdK tkO 9 l = mtold a x0 x1 x2 x3 4 by rw [← ha, ← h0, ← h1, ← h2, ← h3]; rfl)
  have HA := hid ha
  have H0 := hid h0
  have H1 := hid h1
  have H2 := hid h2
  have H3 := hid h3
  clear hr ha h0 h1 h2 h3
  go_enter Tryz.func107, Tryz.ntmps107
  go_wp2_with fail
  obtain ⟨X0, x, y, hR0⟩ := B0.rd
  refine (mnumber_of 1 1 a w0 g X0 x y l rfl (by omega) HA _ hR0).mono ?_
  rintro e w1 ⟨rfl, hQ0, hT0⟩
  have B1 := B0.step hg hQ0 hT0
  have th := thereM_new w1 (#[.int .u8 0, .int .i64 0, .int .i64 0, .int .i64 0, .int .i64 0, .int .i64 0, .int .u8 0, .int .i64 0, .int .i64 0, .int .i64 0, .int .i64 0, .slice none 0 0]) rfl 27
  have hlt := B1.th.lt
  clear B0 hR0 hQ0 hT0
  go_wp2_with (refine wpList_store_m rfl (.tmp 3) (.tmp 8) rfl w1.heap.size rfl (mtold a x0 x1 x2 x3 0) none 0 0 rfl th w1.heap.size (Nat.le_refl _) ?_; intro w2 bx2 th2 b2 hh2 sz2; clear sz2 hh2)
  have B2 := B1.keep hg (((Below.refl _ _).alloc (Nat.le_refl _) _).trans b2)
  clear th b2 B1 hw
  generalize hb : w1.heap.size = b at bx2 th2 hlt ⊢
  clear hb
  go_loopw [4, 9] (fun _ i wr => ∃ (j : Nat), j ≤ 4 ∧ i = .int .i64 (j : Int) ∧ Beside w0 w wr g (l.drop (1 + 3 * j)) ∧ BoxM wr b (mtold a x0 x1 x2 x3 j) none 0 0 ∧ ThereM wr b) (fun _ i _ => 4 - (intOf i).toNat)
  case atStart => exact ⟨0, by omega, rfl, B2, bx2, th2⟩
  case round =>
    clear B2 bx2 th2
    obtain ⟨j, hj, rfl, B, bx, th⟩ := hrel
    have hbg : b ≠ g := by omega
    obtain ⟨X, x, y, hR⟩ := B.rd
    have hc : j = 0 ∨ j = 1 ∨ j = 2 ∨ j = 3 ∨ j = 4 := by omega
    rcases hc with rfl | rfl | rfl | rfl | rfl
    · go_wp2_with fail
      refine (mnumber_of 3 3 x0 w0 g X x y _ rfl (by omega) H0 _ hR).mono ?_
      rintro e w3 ⟨rfl, hQ, hT⟩
      rw [List.drop_drop] at hQ
      have B3 := B.step hg hQ hT
      have bx3 := bx.turn hT hbg
      have th3 := there_turn th hT hbg
      have c7 := bx3.c7
      have f7 := ThereM.at_ th3 7 (by omega)
      have hend := hid (show Beside w0 w (w3.setCells b 7 [.int .i64 x0]) g (l.drop (1 + 3 * 1)) ∧ BoxM (w3.setCells b 7 [.int .i64 x0]) b (mtold a x0 x1 x2 x3 1) none 0 0 ∧ ThereM (w3.setCells b 7 [.int .i64 x0]) b from ⟨B3.sets hg hfar b hlt 7 _, setM7 bx3 th3 x0, ThereM.sets th3 7 _⟩)
      clear B bx th hR hQ hT B3 bx3 th3
      go_wp2
      go_roundw
      case rel => exact ⟨1, by omega, rfl, hend.out.1, hend.out.2.1, hend.out.2.2⟩
      case measure => simp [intOf]
    · go_wp2_with fail
      refine (mnumber_of 3 3 x1 w0 g X x y _ rfl (by omega) H1 _ hR).mono ?_
      rintro e w3 ⟨rfl, hQ, hT⟩
      rw [List.drop_drop] at hQ
      have B3 := B.step hg hQ hT
      have bx3 := bx.turn hT hbg
      have th3 := there_turn th hT hbg
      have c8 := bx3.c8
      have f8 := ThereM.at_ th3 8 (by omega)
      have hend := hid (show Beside w0 w (w3.setCells b 8 [.int .i64 x1]) g (l.drop (1 + 3 * 2)) ∧ BoxM (w3.setCells b 8 [.int .i64 x1]) b (mtold a x0 x1 x2 x3 2) none 0 0 ∧ ThereM (w3.setCells b 8 [.int .i64 x1]) b from ⟨B3.sets hg hfar b hlt 8 _, setM8 bx3 th3 x1, ThereM.sets th3 8 _⟩)
      clear B bx th hR hQ hT B3 bx3 th3
      go_wp2
      go_roundw
      case rel => exact ⟨2, by omega, rfl, hend.out.1, hend.out.2.1, hend.out.2.2⟩
      case measure => simp [intOf]
    · go_wp2_with fail
      refine (mnumber_of 3 3 x2 w0 g X x y _ rfl (by omega) H2 _ hR).mono ?_
      rintro e w3 ⟨rfl, hQ, hT⟩
      rw [List.drop_drop] at hQ
      have B3 := B.step hg hQ hT
      have bx3 := bx.turn hT hbg
      have th3 := there_turn th hT hbg
      have c9 := bx3.c9
      have f9 := ThereM.at_ th3 9 (by omega)
      have hend := hid (show Beside w0 w (w3.setCells b 9 [.int .i64 x2]) g (l.drop (1 + 3 * 3)) ∧ BoxM (w3.setCells b 9 [.int .i64 x2]) b (mtold a x0 x1 x2 x3 3) none 0 0 ∧ ThereM (w3.setCells b 9 [.int .i64 x2]) b from ⟨B3.sets hg hfar b hlt 9 _, setM9 bx3 th3 x2, ThereM.sets th3 9 _⟩)
      clear B bx th hR hQ hT B3 bx3 th3
      go_wp2
      go_roundw
      case rel => exact ⟨3, by omega, rfl, hend.out.1, hend.out.2.1, hend.out.2.2⟩
      case measure => simp [intOf]
    · go_wp2_with fail
      refine (mnumber_of 3 3 x3 w0 g X x y _ rfl (by omega) H3 _ hR).mono ?_
      rintro e w3 ⟨rfl, hQ, hT⟩
      rw [List.drop_drop] at hQ
      have B3 := B.step hg hQ hT
      have bx3 := bx.turn hT hbg
      have th3 := there_turn th hT hbg
      have c10 := bx3.c10
      have f10 := ThereM.at_ th3 10 (by omega)
      have hend := hid (show Beside w0 w (w3.setCells b 10 [.int .i64 x3]) g (l.drop (1 + 3 * 4)) ∧ BoxM (w3.setCells b 10 [.int .i64 x3]) b (mtold a x0 x1 x2 x3 4) none 0 0 ∧ ThereM (w3.setCells b 10 [.int .i64 x3]) b from ⟨B3.sets hg hfar b hlt 10 _, setM10 bx3 th3 x3, ThereM.sets th3 10 _⟩)
      clear B bx th hR hQ hT B3 bx3 th3
      go_wp2
      go_roundw
      case rel => exact ⟨4, by omega, rfl, hend.out.1, hend.out.2.1, hend.out.2.2⟩
      case measure => simp [intOf]
    · have thr := B.th
      have hT := B.tu
      clear B hR
      have one : True := trivial
      go_wp2_with (first
        | (refine wpList_load_m rfl (.tmp 3) rfl b rfl bx ?_)
        | (refine wpList_store_m rfl (.tmp 2) (.tmp 18) rfl w.heap.size rfl (mtold a x0 x1 x2 x3 4) none 0 0 rfl thr w.heap.size (Nat.le_refl _) ?_; intro w9 bx9 th9 b9 hh9 sz9))
      exact bodyPost_ret (results_m rfl rfl bx9) rfl ⟨none, 0, 0, by rw [HD.out], by rw [HD.out]; rfl, by rw [HD.out]; exact OwO.nil _ _, hT.other hh9 (Nat.le_refl _) (b9.mono (Nat.le_of_lt hg))⟩
end Go.Proofs.YtdhfnacdjjdijaaGreat

namespace Go.Proofs.YtdhfnacdjjdijaaGreat
open Go.RowKit
set_option linter.unusedVariables false
set_option linter.unusedSimpArgs false

theorem info_shape : (Tryz.prog.info? 63).map (·.size) = some 4 := by kernel_rfl
theorem zero_shape : ∀ w, (zeroValue 63).run Tryz.prog w = .ok (.agg #[.nilFunc, .nilFunc, .nilFunc, .nilFunc]) w := fun _ => by kernel_rfl

set_option maxRecDepth 100000 in
set_option maxHeartbeats 400000 in
theorem shape_open (w : World) : Calls Tryz.prog 38 #[] w fun e w' => e = .returned (.agg #[.func (.func 59) #[] #[], .func (.func 60) #[] #[], .func (.func 62) #[] #[], .func (.func 64) #[] #[]]) ∧ Below w.heap.size w w' := by
  have th := there_new w #[.nilFunc, .nilFunc, .nilFunc, .nilFunc] 63 4 rfl
  go_enter Tryz.func38, Tryz.ntmps38
  go_wp2_with (refine wpList_store_n rfl 63 _ Tryz.underlying63 rfl [.func (.func 59) #[] #[], .func (.func 60) #[] #[], .func (.func 62) #[] #[], .func (.func 64) #[] #[]] info_shape (.tmp 0) (.tmp 1) rfl w.heap.size rfl rfl (by simp [Value.oneCell']) th w.heap.size (Nat.le_refl _) ?_; intro w4 r4 _ b4 h4 z4; have u0 : w4.cell? ⟨w.heap.size, 0, none⟩ = _ := r4 0 _ rfl; have u1 : w4.cell? ⟨w.heap.size, 1, none⟩ = _ := r4 1 _ rfl; have u2 : w4.cell? ⟨w.heap.size, 2, none⟩ = _ := r4 2 _ rfl; have u3 : w4.cell? ⟨w.heap.size, 3, none⟩ = _ := r4 3 _ rfl)
  exact bodyPost_ret (v := .agg #[.func (.func 59) #[] #[], .func (.func 60) #[] #[], .func (.func 62) #[] #[], .func (.func 64) #[] #[]]) (by simp [results, Tryz.results38, go_sem, u0, u1, u2, u3]) rfl ⟨rfl, ((Below.refl _ _).alloc (Nat.le_refl _) _).trans b4⟩

set_option maxRecDepth 100000 in
set_option maxHeartbeats 400000 in
theorem shape_submit (w : World) : Calls Tryz.prog 39 #[] w fun e w' => e = .returned (.agg #[.func (.func 65) #[] #[], .func (.func 66) #[] #[], .func (.func 69) #[] #[], .func (.func 71) #[] #[]]) ∧ Below w.heap.size w w' := by
  have th := there_new w #[.nilFunc, .nilFunc, .nilFunc, .nilFunc] 63 4 rfl
  go_enter Tryz.func39, Tryz.ntmps39
  go_wp2_with (refine wpList_store_n rfl 63 _ Tryz.underlying63 rfl [.func (.func 65) #[] #[], .func (.func 66) #[] #[], .func (.func 69) #[] #[], .func (.func 71) #[] #[]] info_shape (.tmp 0) (.tmp 1) rfl w.heap.size rfl rfl (by simp [Value.oneCell']) th w.heap.size (Nat.le_refl _) ?_; intro w4 r4 _ b4 h4 z4; have u0 : w4.cell? ⟨w.heap.size, 0, none⟩ = _ := r4 0 _ rfl; have u1 : w4.cell? ⟨w.heap.size, 1, none⟩ = _ := r4 1 _ rfl; have u2 : w4.cell? ⟨w.heap.size, 2, none⟩ = _ := r4 2 _ rfl; have u3 : w4.cell? ⟨w.heap.size, 3, none⟩ = _ := r4 3 _ rfl)
  exact bodyPost_ret (v := .agg #[.func (.func 65) #[] #[], .func (.func 66) #[] #[], .func (.func 69) #[] #[], .func (.func 71) #[] #[]]) (by simp [results, Tryz.results39, go_sem, u0, u1, u2, u3]) rfl ⟨rfl, ((Below.refl _ _).alloc (Nat.le_refl _) _).trans b4⟩

set_option maxRecDepth 100000 in
set_option maxHeartbeats 400000 in
theorem shape_pull (w : World) : Calls Tryz.prog 40 #[] w fun e w' => e = .returned (.agg #[.func (.func 73) #[] #[], .func (.func 74) #[] #[], .func (.func 76) #[] #[], .func (.func 77) #[] #[]]) ∧ Below w.heap.size w w' := by
  have th := there_new w #[.nilFunc, .nilFunc, .nilFunc, .nilFunc] 63 4 rfl
  go_enter Tryz.func40, Tryz.ntmps40
  go_wp2_with (refine wpList_store_n rfl 63 _ Tryz.underlying63 rfl [.func (.func 73) #[] #[], .func (.func 74) #[] #[], .func (.func 76) #[] #[], .func (.func 77) #[] #[]] info_shape (.tmp 0) (.tmp 1) rfl w.heap.size rfl rfl (by simp [Value.oneCell']) th w.heap.size (Nat.le_refl _) ?_; intro w4 r4 _ b4 h4 z4; have u0 : w4.cell? ⟨w.heap.size, 0, none⟩ = _ := r4 0 _ rfl; have u1 : w4.cell? ⟨w.heap.size, 1, none⟩ = _ := r4 1 _ rfl; have u2 : w4.cell? ⟨w.heap.size, 2, none⟩ = _ := r4 2 _ rfl; have u3 : w4.cell? ⟨w.heap.size, 3, none⟩ = _ := r4 3 _ rfl)
  exact bodyPost_ret (v := .agg #[.func (.func 73) #[] #[], .func (.func 74) #[] #[], .func (.func 76) #[] #[], .func (.func 77) #[] #[]]) (by simp [results, Tryz.results40, go_sem, u0, u1, u2, u3]) rfl ⟨rfl, ((Below.refl _ _).alloc (Nat.le_refl _) _).trans b4⟩

set_option maxRecDepth 100000 in
set_option maxHeartbeats 400000 in
theorem shape_ask (w : World) : Calls Tryz.prog 41 #[] w fun e w' => e = .returned (.agg #[.func (.func 78) #[] #[], .func (.func 79) #[] #[], .func (.func 81) #[] #[], .func (.func 82) #[] #[]]) ∧ Below w.heap.size w w' := by
  have th := there_new w #[.nilFunc, .nilFunc, .nilFunc, .nilFunc] 63 4 rfl
  go_enter Tryz.func41, Tryz.ntmps41
  go_wp2_with (refine wpList_store_n rfl 63 _ Tryz.underlying63 rfl [.func (.func 78) #[] #[], .func (.func 79) #[] #[], .func (.func 81) #[] #[], .func (.func 82) #[] #[]] info_shape (.tmp 0) (.tmp 1) rfl w.heap.size rfl rfl (by simp [Value.oneCell']) th w.heap.size (Nat.le_refl _) ?_; intro w4 r4 _ b4 h4 z4; have u0 : w4.cell? ⟨w.heap.size, 0, none⟩ = _ := r4 0 _ rfl; have u1 : w4.cell? ⟨w.heap.size, 1, none⟩ = _ := r4 1 _ rfl; have u2 : w4.cell? ⟨w.heap.size, 2, none⟩ = _ := r4 2 _ rfl; have u3 : w4.cell? ⟨w.heap.size, 3, none⟩ = _ := r4 3 _ rfl)
  exact bodyPost_ret (v := .agg #[.func (.func 78) #[] #[], .func (.func 79) #[] #[], .func (.func 81) #[] #[], .func (.func 82) #[] #[]]) (by simp [results, Tryz.results41, go_sem, u0, u1, u2, u3]) rfl ⟨rfl, ((Below.refl _ _).alloc (Nat.le_refl _) _).trans b4⟩

set_option maxRecDepth 100000 in
set_option maxHeartbeats 400000 in
theorem shape_bare (w : World) : Calls Tryz.prog 42 #[] w fun e w' => e = .returned (.agg #[.func (.func 83) #[] #[], .func (.func 84) #[] #[], .func (.func 85) #[] #[], .func (.func 86) #[] #[]]) ∧ Below w.heap.size w w' := by
  have th := there_new w #[.nilFunc, .nilFunc, .nilFunc, .nilFunc] 63 4 rfl
  go_enter Tryz.func42, Tryz.ntmps42
  go_wp2_with (refine wpList_store_n rfl 63 _ Tryz.underlying63 rfl [.func (.func 83) #[] #[], .func (.func 84) #[] #[], .func (.func 85) #[] #[], .func (.func 86) #[] #[]] info_shape (.tmp 0) (.tmp 1) rfl w.heap.size rfl rfl (by simp [Value.oneCell']) th w.heap.size (Nat.le_refl _) ?_; intro w4 r4 _ b4 h4 z4; have u0 : w4.cell? ⟨w.heap.size, 0, none⟩ = _ := r4 0 _ rfl; have u1 : w4.cell? ⟨w.heap.size, 1, none⟩ = _ := r4 1 _ rfl; have u2 : w4.cell? ⟨w.heap.size, 2, none⟩ = _ := r4 2 _ rfl; have u3 : w4.cell? ⟨w.heap.size, 3, none⟩ = _ := r4 3 _ rfl)
  exact bodyPost_ret (v := .agg #[.func (.func 83) #[] #[], .func (.func 84) #[] #[], .func (.func 85) #[] #[], .func (.func 86) #[] #[]]) (by simp [results, Tryz.results42, go_sem, u0, u1, u2, u3]) rfl ⟨rfl, ((Below.refl _ _).alloc (Nat.le_refl _) _).trans b4⟩

set_option maxRecDepth 100000 in
set_option maxHeartbeats 400000 in
theorem shape_coded (w : World) : Calls Tryz.prog 43 #[] w fun e w' => e = .returned (.agg #[.func (.func 87) #[] #[], .func (.func 88) #[] #[], .func (.func 90) #[] #[], .func (.func 91) #[] #[]]) ∧ Below w.heap.size w w' := by
  have th := there_new w #[.nilFunc, .nilFunc, .nilFunc, .nilFunc] 63 4 rfl
  go_enter Tryz.func43, Tryz.ntmps43
  go_wp2_with (refine wpList_store_n rfl 63 _ Tryz.underlying63 rfl [.func (.func 87) #[] #[], .func (.func 88) #[] #[], .func (.func 90) #[] #[], .func (.func 91) #[] #[]] info_shape (.tmp 0) (.tmp 1) rfl w.heap.size rfl rfl (by simp [Value.oneCell']) th w.heap.size (Nat.le_refl _) ?_; intro w4 r4 _ b4 h4 z4; have u0 : w4.cell? ⟨w.heap.size, 0, none⟩ = _ := r4 0 _ rfl; have u1 : w4.cell? ⟨w.heap.size, 1, none⟩ = _ := r4 1 _ rfl; have u2 : w4.cell? ⟨w.heap.size, 2, none⟩ = _ := r4 2 _ rfl; have u3 : w4.cell? ⟨w.heap.size, 3, none⟩ = _ := r4 3 _ rfl)
  exact bodyPost_ret (v := .agg #[.func (.func 87) #[] #[], .func (.func 88) #[] #[], .func (.func 90) #[] #[], .func (.func 91) #[] #[]]) (by simp [results, Tryz.results43, go_sem, u0, u1, u2, u3]) rfl ⟨rfl, ((Below.refl _ _).alloc (Nat.le_refl _) _).trans b4⟩

set_option maxRecDepth 100000 in
set_option maxHeartbeats 400000 in
theorem shape_answer (w : World) : Calls Tryz.prog 44 #[] w fun e w' => e = .returned (.agg #[.func (.func 93) #[] #[], .func (.func 94) #[] #[], .func (.func 95) #[] #[], .func (.func 96) #[] #[]]) ∧ Below w.heap.size w w' := by
  have th := there_new w #[.nilFunc, .nilFunc, .nilFunc, .nilFunc] 63 4 rfl
  go_enter Tryz.func44, Tryz.ntmps44
  go_wp2_with (refine wpList_store_n rfl 63 _ Tryz.underlying63 rfl [.func (.func 93) #[] #[], .func (.func 94) #[] #[], .func (.func 95) #[] #[], .func (.func 96) #[] #[]] info_shape (.tmp 0) (.tmp 1) rfl w.heap.size rfl rfl (by simp [Value.oneCell']) th w.heap.size (Nat.le_refl _) ?_; intro w4 r4 _ b4 h4 z4; have u0 : w4.cell? ⟨w.heap.size, 0, none⟩ = _ := r4 0 _ rfl; have u1 : w4.cell? ⟨w.heap.size, 1, none⟩ = _ := r4 1 _ rfl; have u2 : w4.cell? ⟨w.heap.size, 2, none⟩ = _ := r4 2 _ rfl; have u3 : w4.cell? ⟨w.heap.size, 3, none⟩ = _ := r4 3 _ rfl)
  exact bodyPost_ret (v := .agg #[.func (.func 93) #[] #[], .func (.func 94) #[] #[], .func (.func 95) #[] #[], .func (.func 96) #[] #[]]) (by simp [results, Tryz.results44, go_sem, u0, u1, u2, u3]) rfl ⟨rfl, ((Below.refl _ _).alloc (Nat.le_refl _) _).trans b4⟩

set_option maxRecDepth 100000 in
set_option maxHeartbeats 400000 in
theorem shape_page (w : World) : Calls Tryz.prog 45 #[] w fun e w' => e = .returned (.agg #[.func (.func 97) #[] #[], .func (.func 98) #[] #[], .func (.func 99) #[] #[], .func (.func 101) #[] #[]]) ∧ Below w.heap.size w w' := by
  have th := there_new w #[.nilFunc, .nilFunc, .nilFunc, .nilFunc] 63 4 rfl
  go_enter Tryz.func45, Tryz.ntmps45
  go_wp2_with (refine wpList_store_n rfl 63 _ Tryz.underlying63 rfl [.func (.func 97) #[] #[], .func (.func 98) #[] #[], .func (.func 99) #[] #[], .func (.func 101) #[] #[]] info_shape (.tmp 0) (.tmp 1) rfl w.heap.size rfl rfl (by simp [Value.oneCell']) th w.heap.size (Nat.le_refl _) ?_; intro w4 r4 _ b4 h4 z4; have u0 : w4.cell? ⟨w.heap.size, 0, none⟩ = _ := r4 0 _ rfl; have u1 : w4.cell? ⟨w.heap.size, 1, none⟩ = _ := r4 1 _ rfl; have u2 : w4.cell? ⟨w.heap.size, 2, none⟩ = _ := r4 2 _ rfl; have u3 : w4.cell? ⟨w.heap.size, 3, none⟩ = _ := r4 3 _ rfl)
  exact bodyPost_ret (v := .agg #[.func (.func 97) #[] #[], .func (.func 98) #[] #[], .func (.func 99) #[] #[], .func (.func 101) #[] #[]]) (by simp [results, Tryz.results45, go_sem, u0, u1, u2, u3]) rfl ⟨rfl, ((Below.refl _ _).alloc (Nat.le_refl _) _).trans b4⟩

set_option maxRecDepth 100000 in
set_option maxHeartbeats 400000 in
theorem shape_told (w : World) : Calls Tryz.prog 46 #[] w fun e w' => e = .returned (.agg #[.func (.func 102) #[] #[], .func (.func 103) #[] #[], .func (.func 106) #[] #[], .func (.func 107) #[] #[]]) ∧ Below w.heap.size w w' := by
  have th := there_new w #[.nilFunc, .nilFunc, .nilFunc, .nilFunc] 63 4 rfl
  go_enter Tryz.func46, Tryz.ntmps46
  go_wp2_with (refine wpList_store_n rfl 63 _ Tryz.underlying63 rfl [.func (.func 102) #[] #[], .func (.func 103) #[] #[], .func (.func 106) #[] #[], .func (.func 107) #[] #[]] info_shape (.tmp 0) (.tmp 1) rfl w.heap.size rfl rfl (by simp [Value.oneCell']) th w.heap.size (Nat.le_refl _) ?_; intro w4 r4 _ b4 h4 z4; have u0 : w4.cell? ⟨w.heap.size, 0, none⟩ = _ := r4 0 _ rfl; have u1 : w4.cell? ⟨w.heap.size, 1, none⟩ = _ := r4 1 _ rfl; have u2 : w4.cell? ⟨w.heap.size, 2, none⟩ = _ := r4 2 _ rfl; have u3 : w4.cell? ⟨w.heap.size, 3, none⟩ = _ := r4 3 _ rfl)
  exact bodyPost_ret (v := .agg #[.func (.func 102) #[] #[], .func (.func 103) #[] #[], .func (.func 106) #[] #[], .func (.func 107) #[] #[]]) (by simp [results, Tryz.results46, go_sem, u0, u1, u2, u3]) rfl ⟨rfl, ((Below.refl _ _).alloc (Nat.le_refl _) _).trans b4⟩

/-- The map's entries: one a kind. -/
def tabE : List (Int × Value) := [(1, .agg #[.func (.func 59) #[] #[], .func (.func 60) #[] #[], .func (.func 62) #[] #[], .func (.func 64) #[] #[]]), (2, .agg #[.func (.func 65) #[] #[], .func (.func 66) #[] #[], .func (.func 69) #[] #[], .func (.func 71) #[] #[]]), (3, .agg #[.func (.func 73) #[] #[], .func (.func 74) #[] #[], .func (.func 76) #[] #[], .func (.func 77) #[] #[]]), (4, .agg #[.func (.func 78) #[] #[], .func (.func 79) #[] #[], .func (.func 81) #[] #[], .func (.func 82) #[] #[]]), (5, .agg #[.func (.func 83) #[] #[], .func (.func 84) #[] #[], .func (.func 85) #[] #[], .func (.func 86) #[] #[]]), (6, .agg #[.func (.func 87) #[] #[], .func (.func 88) #[] #[], .func (.func 90) #[] #[], .func (.func 91) #[] #[]]), (7, .agg #[.func (.func 93) #[] #[], .func (.func 94) #[] #[], .func (.func 95) #[] #[], .func (.func 96) #[] #[]]), (8, .agg #[.func (.func 97) #[] #[], .func (.func 98) #[] #[], .func (.func 99) #[] #[], .func (.func 101) #[] #[]]), (9, .agg #[.func (.func 102) #[] #[], .func (.func 103) #[] #[], .func (.func 106) #[] #[], .func (.func 107) #[] #[]]), (10, .agg #[.func (.func 87) #[] #[], .func (.func 88) #[] #[], .func (.func 90) #[] #[], .func (.func 91) #[] #[]])]
def entE : Nat → List (Int × Value) → Array MapEntry → Array MapEntry
  | _, [], es => es
  | i, x :: l, es => entE (i + 1) l (es.push { key := .int .u8 x.1, val := x.2, born := i })
def tabA : Array MapEntry := entE 0 tabE #[]

/-- A new key is put into a map. -/
theorem wpList_insert {ops : Array Oper} {rest : List Oper} {o : Oper} {a : Act} {w : World} {Q : Exit → Act → World → Prop} (hgd : o.guard = none) (m x v : Operand) (ho : o.op = .insert 65 m x v)
    (g : Nat) (hm : a.eval m = .map (some g)) (k : Int) (hx : a.eval x = .int .u8 k) (y : Value) (hv : a.eval v = y) (es : Array MapEntry) (cl : Nat) (hg : w.heap[g]? = some (.map es cl))
    (hf : Instr.findNow (.int .u8) (.int .u8 k) es.toList 0 = some none) (base : Nat) (hb : base ≤ g)
    (h : ∀ W, W.heap[g]? = some (.map (es.push { key := .int .u8 k, val := y, born := cl }) (cl + 1)) → Below base w W → W.heap.size = w.heap.size → wpList Tryz.prog ops Q rest (a.put o.dst undef) W) : wpList Tryz.prog ops Q (o :: rest) a w := by
  refine wpList_plain hgd fun K hK => ?_
  have hc : (Instr.checkKey false 10000 5 (.int .u8 k)).run Tryz.prog w = .ok () w := MapKept.run_checkKey (d := .int .u8) (k := .int .u8 k) Tryz.underlying5 (by simp [MapKept.IsKey]) false 9999
  have hrun : (Instr.mapUpdate 65 (.map (some g)) (.int .u8 k) y).run Tryz.prog w = .ok () { w with heap := w.heap.setIfInBounds g (.map (es.push { key := .int .u8 k, val := y, born := cl }) (cl + 1)) } := by
    simp [Instr.mapUpdate, run_underlying Tryz.underlying65, MapKept.run_getObj_map hg, hc, MapKept.run_findKey Tryz.underlying5 hf, MapKept.run_setObj_map _ hg, Result.andThen]
  unfold Oper.wp execOp
  simp only [ho, hm, hx, hv, Sem.run_bind, hrun, Result.andThen_ok, Sem.run_pure]
  refine hK _ _ (h _ (MapKept.heap_set hg).1 ⟨rfl, rfl, rfl, by simp, fun i hi => (MapKept.heap_set hg).2 i (by omega)⟩ (by simp))

/-- What a map of shapes has at a key. -/
theorem run_lookup_tab (w : World) (g : Nat) (es : Array MapEntry) (cl : Nat) (hg : w.heap[g]? = some (.map es cl)) (k : Int) (ok : Bool) (r : Option (Nat × Value)) (hf : Instr.findNow (.int .u8) (.int .u8 k) es.toList 0 = some r) :
    (Instr.lookup 65 (.map (some g)) (.int .u8 k) ok).run Tryz.prog w = .ok (match r with | some (_, v) => if ok then .tuple #[v, .bool true] else v | none => if ok then .tuple #[.agg #[.nilFunc, .nilFunc, .nilFunc, .nilFunc], .bool false] else .agg #[.nilFunc, .nilFunc, .nilFunc, .nilFunc]) w := by
  have hc : ∀ e : Bool, (Instr.checkKey e 10000 5 (.int .u8 k)).run Tryz.prog w = .ok () w := fun e => MapKept.run_checkKey (d := .int .u8) (k := .int .u8 k) Tryz.underlying5 (by simp [MapKept.IsKey]) e 9999
  have hz := zero_shape w
  match r with
  | some (i, v) => simp [Instr.lookup, run_underlying Tryz.underlying65, MapKept.run_getObj_map hg, hc, MapKept.run_findKey Tryz.underlying5 hf, Result.andThen]
  | none => simp [Instr.lookup, run_underlying Tryz.underlying65, MapKept.run_getObj_map hg, hc, MapKept.run_findKey Tryz.underlying5 hf, Result.andThen, hz]

set_option maxRecDepth 100000 in
set_option maxHeartbeats 3200000 in
theorem shapes_any (w : World) : Calls Tryz.prog 25 #[] w fun e w' => ∃ g, e = .returned (.map (some g)) ∧ w'.heap[g]? = some (.map tabA 10) ∧ w.heap.size ≤ g ∧ g < w'.heap.size ∧ Below w.heap.size w w' := by
  have hmm := @run_makeMap Tryz.prog
  obtain ⟨g, hg⟩ : ∃ g, w.heap.size = g := ⟨_, rfl⟩
  have g0 : (w.alloc (.map #[] 0)).heap[g]? = some (.map #[] 0) := by rw [← hg]; exact heap_alloc_last w _
  have b0 : Below g w (w.alloc (.map #[] 0)) := (Below.refl _ _).alloc (by omega) _
  have z0 : g < (w.alloc (.map #[] 0)).heap.size := by simp; omega
  have HG := hid hg
  go_enter Tryz.func25, Tryz.ntmps25
  go_wp2_with fail
  generalize w.alloc (.map #[] 0) = v0 at g0 b0 z0 ⊢
  clear hg hmm
  refine (shape_open _).mono ?_
  rintro e u0 ⟨rfl, c0⟩
  have k0 : u0.heap[g]? = some (.map (#[]) 0) := by rw [c0.block g z0]; exact g0
  have d0 : Below g w u0 := b0.trans (c0.mono (Nat.le_of_lt z0))
  have y0 : g < u0.heap.size := Nat.lt_of_lt_of_le z0 c0.size
  clear g0 b0 z0 c0
  go_wp2_with (refine wpList_insert rfl (.tmp 1) (.const (.int .u8 1)) (.tmp 2) rfl g rfl 1 rfl _ rfl _ _ k0 rfl g (Nat.le_refl _) ?_; intro v1 g1 a1 s1; have b1 := d0.trans a1; have z1 : g < v1.heap.size := (by rw [s1]; exact y0); clear k0 d0 y0 a1 s1)
  refine (shape_submit _).mono ?_
  rintro e u1 ⟨rfl, c1⟩
  have k1 : u1.heap[g]? = some (.map ((#[]).push { key := .int .u8 1, val := .agg #[.func (.func 59) #[] #[], .func (.func 60) #[] #[], .func (.func 62) #[] #[], .func (.func 64) #[] #[]], born := 0 }) 1) := by rw [c1.block g z1]; exact g1
  have d1 : Below g w u1 := b1.trans (c1.mono (Nat.le_of_lt z1))
  have y1 : g < u1.heap.size := Nat.lt_of_lt_of_le z1 c1.size
  clear g1 b1 z1 c1
  go_wp2_with (refine wpList_insert rfl (.tmp 1) (.const (.int .u8 2)) (.tmp 3) rfl g rfl 2 rfl _ rfl _ _ k1 rfl g (Nat.le_refl _) ?_; intro v2 g2 a2 s2; have b2 := d1.trans a2; have z2 : g < v2.heap.size := (by rw [s2]; exact y1); clear k1 d1 y1 a2 s2)
  refine (shape_pull _).mono ?_
  rintro e u2 ⟨rfl, c2⟩
  have k2 : u2.heap[g]? = some (.map (((#[]).push { key := .int .u8 1, val := .agg #[.func (.func 59) #[] #[], .func (.func 60) #[] #[], .func (.func 62) #[] #[], .func (.func 64) #[] #[]], born := 0 }).push { key := .int .u8 2, val := .agg #[.func (.func 65) #[] #[], .func (.func 66) #[] #[], .func (.func 69) #[] #[], .func (.func 71) #[] #[]], born := 1 }) 2) := by rw [c2.block g z2]; exact g2
  have d2 : Below g w u2 := b2.trans (c2.mono (Nat.le_of_lt z2))
  have y2 : g < u2.heap.size := Nat.lt_of_lt_of_le z2 c2.size
  clear g2 b2 z2 c2
  go_wp2_with (refine wpList_insert rfl (.tmp 1) (.const (.int .u8 3)) (.tmp 4) rfl g rfl 3 rfl _ rfl _ _ k2 rfl g (Nat.le_refl _) ?_; intro v3 g3 a3 s3; have b3 := d2.trans a3; have z3 : g < v3.heap.size := (by rw [s3]; exact y2); clear k2 d2 y2 a3 s3)
  refine (shape_ask _).mono ?_
  rintro e u3 ⟨rfl, c3⟩
  have k3 : u3.heap[g]? = some (.map ((((#[]).push { key := .int .u8 1, val := .agg #[.func (.func 59) #[] #[], .func (.func 60) #[] #[], .func (.func 62) #[] #[], .func (.func 64) #[] #[]], born := 0 }).push { key := .int .u8 2, val := .agg #[.func (.func 65) #[] #[], .func (.func 66) #[] #[], .func (.func 69) #[] #[], .func (.func 71) #[] #[]], born := 1 }).push { key := .int .u8 3, val := .agg #[.func (.func 73) #[] #[], .func (.func 74) #[] #[], .func (.func 76) #[] #[], .func (.func 77) #[] #[]], born := 2 }) 3) := by rw [c3.block g z3]; exact g3
  have d3 : Below g w u3 := b3.trans (c3.mono (Nat.le_of_lt z3))
  have y3 : g < u3.heap.size := Nat.lt_of_lt_of_le z3 c3.size
  clear g3 b3 z3 c3
  go_wp2_with (refine wpList_insert rfl (.tmp 1) (.const (.int .u8 4)) (.tmp 5) rfl g rfl 4 rfl _ rfl _ _ k3 rfl g (Nat.le_refl _) ?_; intro v4 g4 a4 s4; have b4 := d3.trans a4; have z4 : g < v4.heap.size := (by rw [s4]; exact y3); clear k3 d3 y3 a4 s4)
  refine (shape_bare _).mono ?_
  rintro e u4 ⟨rfl, c4⟩
  have k4 : u4.heap[g]? = some (.map (((((#[]).push { key := .int .u8 1, val := .agg #[.func (.func 59) #[] #[], .func (.func 60) #[] #[], .func (.func 62) #[] #[], .func (.func 64) #[] #[]], born := 0 }).push { key := .int .u8 2, val := .agg #[.func (.func 65) #[] #[], .func (.func 66) #[] #[], .func (.func 69) #[] #[], .func (.func 71) #[] #[]], born := 1 }).push { key := .int .u8 3, val := .agg #[.func (.func 73) #[] #[], .func (.func 74) #[] #[], .func (.func 76) #[] #[], .func (.func 77) #[] #[]], born := 2 }).push { key := .int .u8 4, val := .agg #[.func (.func 78) #[] #[], .func (.func 79) #[] #[], .func (.func 81) #[] #[], .func (.func 82) #[] #[]], born := 3 }) 4) := by rw [c4.block g z4]; exact g4
  have d4 : Below g w u4 := b4.trans (c4.mono (Nat.le_of_lt z4))
  have y4 : g < u4.heap.size := Nat.lt_of_lt_of_le z4 c4.size
  clear g4 b4 z4 c4
  go_wp2_with (refine wpList_insert rfl (.tmp 1) (.const (.int .u8 5)) (.tmp 6) rfl g rfl 5 rfl _ rfl _ _ k4 rfl g (Nat.le_refl _) ?_; intro v5 g5 a5 s5; have b5 := d4.trans a5; have z5 : g < v5.heap.size := (by rw [s5]; exact y4); clear k4 d4 y4 a5 s5)
  refine (shape_coded _).mono ?_
  rintro e u5 ⟨rfl, c5⟩
  have k5 : u5.heap[g]? = some (.map ((((((#[]).push { key := .int .u8 1, val := .agg #[.func (.func 59) #[] #[], .func (.func 60) #[] #[], .func (.func 62) #[] #[], .func (.func 64) #[] #[]], born := 0 }).push { key := .int .u8 2, val := .agg #[.func (.func 65) #[] #[], .func (.func 66) #[] #[], .func (.func 69) #[] #[], .func (.func 71) #[] #[]], born := 1 }).push { key := .int .u8 3, val := .agg #[.func (.func 73) #[] #[], .func (.func 74) #[] #[], .func (.func 76) #[] #[], .func (.func 77) #[] #[]], born := 2 }).push { key := .int .u8 4, val := .agg #[.func (.func 78) #[] #[], .func (.func 79) #[] #[], .func (.func 81) #[] #[], .func (.func 82) #[] #[]], born := 3 }).push { key := .int .u8 5, val := .agg #[.func (.func 83) #[] #[], .func (.func 84) #[] #[], .func (.func 85) #[] #[], .func (.func 86) #[] #[]], born := 4 }) 5) := by rw [c5.block g z5]; exact g5
  have d5 : Below g w u5 := b5.trans (c5.mono (Nat.le_of_lt z5))
  have y5 : g < u5.heap.size := Nat.lt_of_lt_of_le z5 c5.size
  clear g5 b5 z5 c5
  go_wp2_with (refine wpList_insert rfl (.tmp 1) (.const (.int .u8 6)) (.tmp 7) rfl g rfl 6 rfl _ rfl _ _ k5 rfl g (Nat.le_refl _) ?_; intro v6 g6 a6 s6; have b6 := d5.trans a6; have z6 : g < v6.heap.size := (by rw [s6]; exact y5); clear k5 d5 y5 a6 s6)
  refine (shape_answer _).mono ?_
  rintro e u6 ⟨rfl, c6⟩
  have k6 : u6.heap[g]? = some (.map (((((((#[]).push { key := .int .u8 1, val := .agg #[.func (.func 59) #[] #[], .func (.func 60) #[] #[], .func (.func 62) #[] #[], .func (.func 64) #[] #[]], born := 0 }).push { key := .int .u8 2, val := .agg #[.func (.func 65) #[] #[], .func (.func 66) #[] #[], .func (.func 69) #[] #[], .func (.func 71) #[] #[]], born := 1 }).push { key := .int .u8 3, val := .agg #[.func (.func 73) #[] #[], .func (.func 74) #[] #[], .func (.func 76) #[] #[], .func (.func 77) #[] #[]], born := 2 }).push { key := .int .u8 4, val := .agg #[.func (.func 78) #[] #[], .func (.func 79) #[] #[], .func (.func 81) #[] #[], .func (.func 82) #[] #[]], born := 3 }).push { key := .int .u8 5, val := .agg #[.func (.func 83) #[] #[], .func (.func 84) #[] #[], .func (.func 85) #[] #[], .func (.func 86) #[] #[]], born := 4 }).push { key := .int .u8 6, val := .agg #[.func (.func 87) #[] #[], .func (.func 88) #[] #[], .func (.func 90) #[] #[], .func (.func 91) #[] #[]], born := 5 }) 6) := by rw [c6.block g z6]; exact g6
  have d6 : Below g w u6 := b6.trans (c6.mono (Nat.le_of_lt z6))
  have y6 : g < u6.heap.size := Nat.lt_of_lt_of_le z6 c6.size
  clear g6 b6 z6 c6
  go_wp2_with (refine wpList_insert rfl (.tmp 1) (.const (.int .u8 7)) (.tmp 8) rfl g rfl 7 rfl _ rfl _ _ k6 rfl g (Nat.le_refl _) ?_; intro v7 g7 a7 s7; have b7 := d6.trans a7; have z7 : g < v7.heap.size := (by rw [s7]; exact y6); clear k6 d6 y6 a7 s7)
  refine (shape_page _).mono ?_
  rintro e u7 ⟨rfl, c7⟩
  have k7 : u7.heap[g]? = some (.map ((((((((#[]).push { key := .int .u8 1, val := .agg #[.func (.func 59) #[] #[], .func (.func 60) #[] #[], .func (.func 62) #[] #[], .func (.func 64) #[] #[]], born := 0 }).push { key := .int .u8 2, val := .agg #[.func (.func 65) #[] #[], .func (.func 66) #[] #[], .func (.func 69) #[] #[], .func (.func 71) #[] #[]], born := 1 }).push { key := .int .u8 3, val := .agg #[.func (.func 73) #[] #[], .func (.func 74) #[] #[], .func (.func 76) #[] #[], .func (.func 77) #[] #[]], born := 2 }).push { key := .int .u8 4, val := .agg #[.func (.func 78) #[] #[], .func (.func 79) #[] #[], .func (.func 81) #[] #[], .func (.func 82) #[] #[]], born := 3 }).push { key := .int .u8 5, val := .agg #[.func (.func 83) #[] #[], .func (.func 84) #[] #[], .func (.func 85) #[] #[], .func (.func 86) #[] #[]], born := 4 }).push { key := .int .u8 6, val := .agg #[.func (.func 87) #[] #[], .func (.func 88) #[] #[], .func (.func 90) #[] #[], .func (.func 91) #[] #[]], born := 5 }).push { key := .int .u8 7, val := .agg #[.func (.func 93) #[] #[], .func (.func 94) #[] #[], .func (.func 95) #[] #[], .func (.func 96) #[] #[]], born := 6 }) 7) := by rw [c7.block g z7]; exact g7
  have d7 : Below g w u7 := b7.trans (c7.mono (Nat.le_of_lt z7))
  have y7 : g < u7.heap.size := Nat.lt_of_lt_of_le z7 c7.size
  clear g7 b7 z7 c7
  go_wp2_with (refine wpList_insert rfl (.tmp 1) (.const (.int .u8 8)) (.tmp 9) rfl g rfl 8 rfl _ rfl _ _ k7 rfl g (Nat.le_refl _) ?_; intro v8 g8 a8 s8; have b8 := d7.trans a8; have z8 : g < v8.heap.size := (by rw [s8]; exact y7); clear k7 d7 y7 a8 s8)
  refine (shape_told _).mono ?_
  rintro e u8 ⟨rfl, c8⟩
  have k8 : u8.heap[g]? = some (.map (((((((((#[]).push { key := .int .u8 1, val := .agg #[.func (.func 59) #[] #[], .func (.func 60) #[] #[], .func (.func 62) #[] #[], .func (.func 64) #[] #[]], born := 0 }).push { key := .int .u8 2, val := .agg #[.func (.func 65) #[] #[], .func (.func 66) #[] #[], .func (.func 69) #[] #[], .func (.func 71) #[] #[]], born := 1 }).push { key := .int .u8 3, val := .agg #[.func (.func 73) #[] #[], .func (.func 74) #[] #[], .func (.func 76) #[] #[], .func (.func 77) #[] #[]], born := 2 }).push { key := .int .u8 4, val := .agg #[.func (.func 78) #[] #[], .func (.func 79) #[] #[], .func (.func 81) #[] #[], .func (.func 82) #[] #[]], born := 3 }).push { key := .int .u8 5, val := .agg #[.func (.func 83) #[] #[], .func (.func 84) #[] #[], .func (.func 85) #[] #[], .func (.func 86) #[] #[]], born := 4 }).push { key := .int .u8 6, val := .agg #[.func (.func 87) #[] #[], .func (.func 88) #[] #[], .func (.func 90) #[] #[], .func (.func 91) #[] #[]], born := 5 }).push { key := .int .u8 7, val := .agg #[.func (.func 93) #[] #[], .func (.func 94) #[] #[], .func (.func 95) #[] #[], .func (.func 96) #[] #[]], born := 6 }).push { key := .int .u8 8, val := .agg #[.func (.func 97) #[] #[], .func (.func 98) #[] #[], .func (.func 99) #[] #[], .func (.func 101) #[] #[]], born := 7 }) 8) := by rw [c8.block g z8]; exact g8
  have d8 : Below g w u8 := b8.trans (c8.mono (Nat.le_of_lt z8))
  have y8 : g < u8.heap.size := Nat.lt_of_lt_of_le z8 c8.size
  clear g8 b8 z8 c8
  go_wp2_with (refine wpList_insert rfl (.tmp 1) (.const (.int .u8 9)) (.tmp 10) rfl g rfl 9 rfl _ rfl _ _ k8 rfl g (Nat.le_refl _) ?_; intro v9 g9 a9 s9; have b9 := d8.trans a9; have z9 : g < v9.heap.size := (by rw [s9]; exact y8); clear k8 d8 y8 a9 s9)
  refine (shape_coded _).mono ?_
  rintro e u9 ⟨rfl, c9⟩
  have k9 : u9.heap[g]? = some (.map ((((((((((#[]).push { key := .int .u8 1, val := .agg #[.func (.func 59) #[] #[], .func (.func 60) #[] #[], .func (.func 62) #[] #[], .func (.func 64) #[] #[]], born := 0 }).push { key := .int .u8 2, val := .agg #[.func (.func 65) #[] #[], .func (.func 66) #[] #[], .func (.func 69) #[] #[], .func (.func 71) #[] #[]], born := 1 }).push { key := .int .u8 3, val := .agg #[.func (.func 73) #[] #[], .func (.func 74) #[] #[], .func (.func 76) #[] #[], .func (.func 77) #[] #[]], born := 2 }).push { key := .int .u8 4, val := .agg #[.func (.func 78) #[] #[], .func (.func 79) #[] #[], .func (.func 81) #[] #[], .func (.func 82) #[] #[]], born := 3 }).push { key := .int .u8 5, val := .agg #[.func (.func 83) #[] #[], .func (.func 84) #[] #[], .func (.func 85) #[] #[], .func (.func 86) #[] #[]], born := 4 }).push { key := .int .u8 6, val := .agg #[.func (.func 87) #[] #[], .func (.func 88) #[] #[], .func (.func 90) #[] #[], .func (.func 91) #[] #[]], born := 5 }).push { key := .int .u8 7, val := .agg #[.func (.func 93) #[] #[], .func (.func 94) #[] #[], .func (.func 95) #[] #[], .func (.func 96) #[] #[]], born := 6 }).push { key := .int .u8 8, val := .agg #[.func (.func 97) #[] #[], .func (.func 98) #[] #[], .func (.func 99) #[] #[], .func (.func 101) #[] #[]], born := 7 }).push { key := .int .u8 9, val := .agg #[.func (.func 102) #[] #[], .func (.func 103) #[] #[], .func (.func 106) #[] #[], .func (.func 107) #[] #[]], born := 8 }) 9) := by rw [c9.block g z9]; exact g9
  have d9 : Below g w u9 := b9.trans (c9.mono (Nat.le_of_lt z9))
  have y9 : g < u9.heap.size := Nat.lt_of_lt_of_le z9 c9.size
  clear g9 b9 z9 c9
  go_wp2_with (refine wpList_insert rfl (.tmp 1) (.const (.int .u8 10)) (.tmp 11) rfl g rfl 10 rfl _ rfl _ _ k9 rfl g (Nat.le_refl _) ?_; intro v10 g10 a10 s10; have b10 := d9.trans a10; have z10 : g < v10.heap.size := (by rw [s10]; exact y9); clear k9 d9 y9 a10 s10)
  go_ret
  exact ⟨g, rfl, g10, by rw [HG.out]; omega, z10, by rw [HG.out]; exact b10⟩
end Go.Proofs.YtdhfnacdjjdijaaGreat

namespace Go.Proofs.YtdhfnacdjjdijaaGreat
open Go.RowKit
set_option linter.unusedVariables false
set_option linter.unusedSimpArgs false

theorem setM0 {W : World} {b : Nat} {m : Mld} {A : Option Addr} {n c : Nat} (h : BoxM W b m A n c) (ht : ThereM W b) (x : Int) : BoxM (W.setCells b 0 [.int .u8 x]) b { m with kd := x } A n c := by
  have hs := World.rangeAt_setCells_same W b 0 [.int .u8 x] (fun j hj => by have := ht (0 + j) (by simp at hj; omega); simpa using this)
  exact ⟨hs 0 _ rfl, cell_out h.c1 (by simp), cell_out h.c2 (by simp), cell_out h.c3 (by simp), cell_out h.c4 (by simp), cell_out h.c5 (by simp), cell_out h.c6 (by simp), cell_out h.c7 (by simp), cell_out h.c8 (by simp), cell_out h.c9 (by simp), cell_out h.c10 (by simp), cell_out h.c11 (by simp)⟩

set_option maxRecDepth 100000 in
set_option maxHeartbeats 1600000 in
theorem hasOnly_of (f0 f1 f2 f3 : FuncId) (E0 : ∀ args W, (callFunc f0 args).run Tryz.prog W = .ok (.enter f0 args) W) (m om : Mld) (q : Bool) (A : Option Addr) (n c : Nat) (hn : Hid (m.ops.length = n)) (A0 : Option Addr) (n0 c0 : Nat) (hn0 : Hid (om.ops.length = n0)) (hO : ∀ W, Calls Tryz.prog f0 #[.agg #[.int .u8 m.kd, .int .i64 m.us, .int .i64 m.se, .int .i64 m.co, .int .i64 m.fr, .int .i64 m.tt, .int .u8 m.ak, .int .i64 m.t0, .int .i64 m.t1, .int .i64 m.t2, .int .i64 m.t3, .slice A n c]] W fun e w' => e = .returned (.agg #[.int .u8 om.kd, .int .i64 om.us, .int .i64 om.se, .int .i64 om.co, .int .i64 om.fr, .int .i64 om.tt, .int .u8 om.ak, .int .i64 om.t0, .int .i64 om.t1, .int .i64 om.t2, .int .i64 om.t3, .slice A0 n0 c0]) ∧ Below W.heap.size W w') (hq : Hid (sameM m { om with kd := m.kd } = q)) (w : World) (hr : RdO w A c m.ops) (hr0 : RdO w A0 c0 om.ops) :
    Calls Tryz.prog 26 #[.agg #[.int .u8 m.kd, .int .i64 m.us, .int .i64 m.se, .int .i64 m.co, .int .i64 m.fr, .int .i64 m.tt, .int .u8 m.ak, .int .i64 m.t0, .int .i64 m.t1, .int .i64 m.t2, .int .i64 m.t3, .slice A n c], .agg #[.func (.func f0) #[] #[], .func (.func f1) #[] #[], .func (.func f2) #[] #[], .func (.func f3) #[] #[]]] w fun e w' => e = .returned (.bool q) ∧ Below w.heap.size w w' := by
  have bx := (boxM_new w m A n c 27).keep (past_alloc (o := .cells #[.func (.func f0) #[] #[], .func (.func f1) #[] #[], .func (.func f2) #[] #[], .func (.func f3) #[] #[]] 63) (Below.refl _ _))
  have HO := hid hO
  clear hO
  go_enter Tryz.func26, Tryz.ntmps26
  go_wp2_with (refine wpList_load_m rfl (.tmp 2) rfl w.heap.size rfl bx ?_)
  refine (HO.out _).mono ?_
  rintro e w1 ⟨rfl, b1⟩
  have bx1 := bx.keep b1
  have b01 := past_alloc2 b1
  have th := thereM_new w1 (#[.int .u8 0, .int .i64 0, .int .i64 0, .int .i64 0, .int .i64 0, .int .i64 0, .int .u8 0, .int .i64 0, .int .i64 0, .int .i64 0, .int .i64 0, .slice none 0 0]) rfl 27
  have hlt : w.heap.size < w1.heap.size := World.block_lt_of_cell? w1 _ bx1.c0
  clear bx b1 HO E0
  have one : True := trivial
  go_wp2_with (first
    | (clear one; refine wpList_store_m rfl (.tmp 5) (.tmp 9) rfl w1.heap.size rfl om A0 n0 c0 rfl th w1.heap.size (Nat.le_refl _) ?_; intro w2 bx2 th2 b2 hh2 sz2; clear sz2 hh2; have b12 : Below w1.heap.size w1 w2 := ((Below.refl _ _).alloc (Nat.le_refl _) _).trans b2; have bm2 := bx1.keep b12; have c0' := bm2.c0; have u0 := bx2.c0; have f0' := ThereM.at_ th2 0 (by omega); have bx3 : BoxM (w2.setCell ⟨w1.heap.size, 0, none⟩ (.int .u8 m.kd)) w1.heap.size { om with kd := m.kd } A0 n0 c0 := setM0 bx2 th2 m.kd; have bm3 : BoxM (w2.setCell ⟨w1.heap.size, 0, none⟩ (.int .u8 m.kd)) w.heap.size m A n c := bm2.other (b := w1.heap.size) (fun k hk => Below.heap_setCell w2 ⟨w1.heap.size, 0, none⟩ (.int .u8 m.kd) k hk) (by omega))
    | (refine wpList_load_m rfl (.tmp 2) rfl w.heap.size rfl bm3 ?_)
    | (refine wpList_load_m rfl (.tmp 5) rfl w1.heap.size rfl bx3 ?_))
  have hB : Below w.heap.size w (w2.setCell ⟨w1.heap.size, 0, none⟩ (.int .u8 m.kd)) := (below_in b01 b12).setCell (p := ⟨w1.heap.size, 0, none⟩) (Nat.le_of_lt hlt) _
  refine (msame_of q m A n c hn { om with kd := m.kd } A0 n0 c0 hn0 hq _ (hr.keep hB) (hr0.keep hB)).mono ?_
  rintro e w3 ⟨rfl, b3⟩
  have hB3 := below_in hB b3
  clear bx1 bx2 bx3 bm2 bm3 th th2 c0' u0 f0' b01 b12 b2 b3 hB hlt
  go_wp2
  go_ret
  exact ⟨rfl, hB3⟩
end Go.Proofs.YtdhfnacdjjdijaaGreat
