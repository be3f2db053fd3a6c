/-
  What is told, taken from bytes: four counts, one by one.
-/
import Derived.Test.YtdhfnacdjjdijaaGreatMlJ
namespace Go.Proofs.YtdhfnacdjjdijaaGreat
open Go.RowKit
set_option linter.unusedVariables false
set_option linter.unusedSimpArgs false

def mtold (a x0 x1 x2 x3 : Int) (j : Nat) : Mld := ⟨0, 0, 0, 0, 0, 0, a, if 0 < j then x0 else 0, if 1 < j then x1 else 0, if 2 < j then x2 else 0, if 3 < j then x3 else 0, []⟩
theorem BoxM.turn {g : Nat} {w w' : World} {b : Nat} {m : Mld} {A : Option Addr} {n c : Nat} (h : BoxM w b m A n c) (hT : Turn g w w') (hb : b ≠ g) : BoxM w' b m A n c :=
  boxM_of fun j v hv => hT.cell (p := ⟨b, 0 + j, none⟩) hb (h.range j v hv)
theorem ThereM.sets {W : World} {b : Nat} (h : ThereM W b) (off : Nat) (vs : List Value) : ThereM (W.setCells b off vs) b := World.there_setCells h b off vs
theorem setM_t (off : Nat) (x : Int) {W : World} {b : Nat} (ht : ThereM W b) (ho : off < 12) : (W.setCells b off [.int .i64 x]).rangeAt b off [.int .i64 x] :=
  World.rangeAt_setCells_same W b off [.int .i64 x] (fun j hj => by have := ht (off + j) (by simp at hj; omega); simpa using this)
theorem setM7 {W : World} {b : Nat} {m : Mld} {A : Option Addr} {n c : Nat} (h : BoxM W b m A n c) (ht : ThereM W b) (x : Int) : BoxM (W.setCells b 7 [.int .i64 x]) b { m with t0 := x } A n c := by
  have hs := setM_t 7 x ht (by omega)
  exact ⟨cell_out h.c0 (by simp), cell_out h.c1 (by simp), cell_out h.c2 (by simp), cell_out h.c3 (by simp), cell_out h.c4 (by simp), cell_out h.c5 (by simp), cell_out h.c6 (by simp), hs 0 _ rfl, cell_out h.c8 (by simp), cell_out h.c9 (by simp), cell_out h.c10 (by simp), cell_out h.c11 (by simp)⟩
theorem setM8 {W : World} {b : Nat} {m : Mld} {A : Option Addr} {n c : Nat} (h : BoxM W b m A n c) (ht : ThereM W b) (x : Int) : BoxM (W.setCells b 8 [.int .i64 x]) b { m with t1 := x } A n c := by
  have hs := setM_t 8 x ht (by omega)
  exact ⟨cell_out h.c0 (by simp), cell_out h.c1 (by simp), cell_out h.c2 (by simp), cell_out h.c3 (by simp), cell_out h.c4 (by simp), cell_out h.c5 (by simp), cell_out h.c6 (by simp), cell_out h.c7 (by simp), hs 0 _ rfl, cell_out h.c9 (by simp), cell_out h.c10 (by simp), cell_out h.c11 (by simp)⟩
theorem setM9 {W : World} {b : Nat} {m : Mld} {A : Option Addr} {n c : Nat} (h : BoxM W b m A n c) (ht : ThereM W b) (x : Int) : BoxM (W.setCells b 9 [.int .i64 x]) b { m with t2 := x } A n c := by
  have hs := setM_t 9 x ht (by omega)
  exact ⟨cell_out h.c0 (by simp), cell_out h.c1 (by simp), cell_out h.c2 (by simp), cell_out h.c3 (by simp), cell_out h.c4 (by simp), cell_out h.c5 (by simp), cell_out h.c6 (by simp), cell_out h.c7 (by simp), cell_out h.c8 (by simp), hs 0 _ rfl, cell_out h.c10 (by simp), cell_out h.c11 (by simp)⟩
theorem setM10 {W : World} {b : Nat} {m : Mld} {A : Option Addr} {n c : Nat} (h : BoxM W b m A n c) (ht : ThereM W b) (x : Int) : BoxM (W.setCells b 10 [.int .i64 x]) b { m with t3 := x } A n c := by
  have hs := setM_t 10 x ht (by omega)
  exact ⟨cell_out h.c0 (by simp), cell_out h.c1 (by simp), cell_out h.c2 (by simp), cell_out h.c3 (by simp), cell_out h.c4 (by simp), cell_out h.c5 (by simp), cell_out h.c6 (by simp), cell_out h.c7 (by simp), cell_out h.c8 (by simp), cell_out h.c9 (by simp), hs 0 _ rfl, cell_out h.c11 (by simp)⟩
/-- Beside a reader, a box of another block is written. -/
theorem Beside.sets {w0 w W : World} {g : Nat} {l : List UInt8} (h : Beside w0 w W g l) (hg : g < w.heap.size) (h0 : w0.heap.size ≤ g) (b : Nat) (hb : w.heap.size < b) (off : Nat) (vs : List Value) : Beside w0 w (W.setCells b off vs) g l := by
  have hh : ∀ k, k ≠ b → (W.setCells b off vs).heap[k]? = W.heap[k]? := fun k hk => heap_setCells b vs off W k hk
  obtain ⟨B, m, d, hR⟩ := h.rd
  exact ⟨h.th.other hh (by omega), ⟨B, m, d, hR.other hh (by omega) (below_setCells b _ (by omega) _ _ _)⟩, h.tu.other hh (by omega) (below_setCells b _ (by omega) _ _ _)⟩
theorem Beside.keep {w0 w W W' : World} {g : Nat} {l : List UInt8} (h : Beside w0 w W g l) (hg : g < w.heap.size) (hb : Below W.heap.size W W') : Beside w0 w W' g l := by
  obtain ⟨B, m, d, hR⟩ := h.rd
  exact ⟨h.th.keep hb, ⟨B, m, d, hR.keep hb⟩, h.tu.trans (Turn.below hb (by have := h.th.lt; omega))⟩

set_option maxRecDepth 100000 in
set_option maxHeartbeats 3200000 in
theorem take_told (w0 : World) (g : Nat) (A : Option Addr) (n c : Nat) (l : List UInt8) (w : World) (hr : Rdr w0 w g A n c l) :
    Calls Tryz.prog 107 #[.pointer (some ⟨g, 0, none⟩)] w (RetM w g (rdK tkO 9 l)) := by
  have hg := hr.lt
  have hfar := hr.far
  have B0 := beside_new hr (#[.int .u8 0, .int .i64 0, .int .i64 0, .int .i64 0, .int .i64 0, .int .i64 0, .int .u8 0, .int .i64 0, .int .i64 0, .int .i64 0, .int .i64 0, .slice none 0 0]) rfl 27
  obtain ⟨a, ha⟩ : ∃ z, nu 1 l = z := ⟨_, rfl⟩
  have a9 : 0 ≤ a ∧ a ≤ 255 := by rw [← ha]; exact nu_byte _
  have hw : IntKind.u8.wrap a = a := by rw [IntKind.wrap_u8]; omega
  obtain ⟨x0, h0⟩ : ∃ z, nu 3 (l.drop 1) = z := ⟨_, rfl⟩
  obtain ⟨x1, h1⟩ : ∃ z, nu 3 (l.drop 4) = z := ⟨_, rfl⟩
  obtain ⟨x2, h2⟩ : ∃ z, nu 3 (l.drop 7) = z := ⟨_, rfl⟩
  obtain ⟨x3, h3⟩ : ∃ z, nu 3 (l.drop 10) = z := ⟨_, rfl⟩
  have HD := hid (show rdK tkO 9 l = mtold a x0 x1 x2 x3 4 by rw [← ha, ← h0, ← h1, ← h2, ← h3]; rfl)
  have HA := hid ha
  have H0 := hid h0
  have H1 := hid h1
  have H2 := hid h2
  have H3 := hid h3
  clear hr ha h0 h1 h2 h3
  go_enter Tryz.func107, Tryz.ntmps107
  go_wp2_with fail
  obtain ⟨X0, x, y, hR0⟩ := B0.rd
  refine (mnumber_of 1 1 a w0 g X0 x y l rfl (by omega) HA _ hR0).mono ?_
  rintro e w1 ⟨rfl, hQ0, hT0⟩
  have B1 := B0.step hg hQ0 hT0
  have th := thereM_new w1 (#[.int .u8 0, .int .i64 0, .int .i64 0, .int .i64 0, .int .i64 0, .int .i64 0, .int .u8 0, .int .i64 0, .int .i64 0, .int .i64 0, .int .i64 0, .slice none 0 0]) rfl 27
  have hlt := B1.th.lt
  clear B0 hR0 hQ0 hT0
  go_wp2_with (refine wpList_store_m rfl (.tmp 3) (.tmp 8) rfl w1.heap.size rfl (mtold a x0 x1 x2 x3 0) none 0 0 rfl th w1.heap.size (Nat.le_refl _) ?_; intro w2 bx2 th2 b2 hh2 sz2; clear sz2 hh2)
  have B2 := B1.keep hg (((Below.refl _ _).alloc (Nat.le_refl _) _).trans b2)
  clear th b2 B1 hw
  generalize hb : w1.heap.size = b at bx2 th2 hlt ⊢
  clear hb
  go_loopw [4, 9] (fun _ i wr => ∃ (j : Nat), j ≤ 4 ∧ i = .int .i64 (j : Int) ∧ Beside w0 w wr g (l.drop (1 + 3 * j)) ∧ BoxM wr b (mtold a x0 x1 x2 x3 j) none 0 0 ∧ ThereM wr b) (fun _ i _ => 4 - (intOf i).toNat)
  case atStart => exact ⟨0, by omega, rfl, B2, bx2, th2⟩
  case round =>
    clear B2 bx2 th2
    obtain ⟨j, hj, rfl, B, bx, th⟩ := hrel
    have hbg : b ≠ g := by omega
    obtain ⟨X, x, y, hR⟩ := B.rd
    have hc : j = 0 ∨ j = 1 ∨ j = 2 ∨ j = 3 ∨ j = 4 := by omega
    rcases hc with rfl | rfl | rfl | rfl | rfl
    · go_wp2_with fail
      refine (mnumber_of 3 3 x0 w0 g X x y _ rfl (by omega) H0 _ hR).mono ?_
      rintro e w3 ⟨rfl, hQ, hT⟩
      rw [List.drop_drop] at hQ
      have B3 := B.step hg hQ hT
      have bx3 := bx.turn hT hbg
      have th3 := there_turn th hT hbg
      have c7 := bx3.c7
      have f7 := ThereM.at_ th3 7 (by omega)
      have hend := hid (show Beside w0 w (w3.setCells b 7 [.int .i64 x0]) g (l.drop (1 + 3 * 1)) ∧ BoxM (w3.setCells b 7 [.int .i64 x0]) b (mtold a x0 x1 x2 x3 1) none 0 0 ∧ ThereM (w3.setCells b 7 [.int .i64 x0]) b from ⟨B3.sets hg hfar b hlt 7 _, setM7 bx3 th3 x0, ThereM.sets th3 7 _⟩)
      clear B bx th hR hQ hT B3 bx3 th3
      go_wp2
      go_roundw
      case rel => exact ⟨1, by omega, rfl, hend.out.1, hend.out.2.1, hend.out.2.2⟩
      case measure => simp [intOf]
    · go_wp2_with fail
      refine (mnumber_of 3 3 x1 w0 g X x y _ rfl (by omega) H1 _ hR).mono ?_
      rintro e w3 ⟨rfl, hQ, hT⟩
      rw [List.drop_drop] at hQ
      have B3 := B.step hg hQ hT
      have bx3 := bx.turn hT hbg
      have th3 := there_turn th hT hbg
      have c8 := bx3.c8
      have f8 := ThereM.at_ th3 8 (by omega)
      have hend := hid (show Beside w0 w (w3.setCells b 8 [.int .i64 x1]) g (l.drop (1 + 3 * 2)) ∧ BoxM (w3.setCells b 8 [.int .i64 x1]) b (mtold a x0 x1 x2 x3 2) none 0 0 ∧ ThereM (w3.setCells b 8 [.int .i64 x1]) b from ⟨B3.sets hg hfar b hlt 8 _, setM8 bx3 th3 x1, ThereM.sets th3 8 _⟩)
      clear B bx th hR hQ hT B3 bx3 th3
      go_wp2
      go_roundw
      case rel => exact ⟨2, by omega, rfl, hend.out.1, hend.out.2.1, hend.out.2.2⟩
      case measure => simp [intOf]
    · go_wp2_with fail
      refine (mnumber_of 3 3 x2 w0 g X x y _ rfl (by omega) H2 _ hR).mono ?_
      rintro e w3 ⟨rfl, hQ, hT⟩
      rw [List.drop_drop] at hQ
      have B3 := B.step hg hQ hT
      have bx3 := bx.turn hT hbg
      have th3 := there_turn th hT hbg
      have c9 := bx3.c9
      have f9 := ThereM.at_ th3 9 (by omega)
      have hend := hid (show Beside w0 w (w3.setCells b 9 [.int .i64 x2]) g (l.drop (1 + 3 * 3)) ∧ BoxM (w3.setCells b 9 [.int .i64 x2]) b (mtold a x0 x1 x2 x3 3) none 0 0 ∧ ThereM (w3.setCells b 9 [.int .i64 x2]) b from ⟨B3.sets hg hfar b hlt 9 _, setM9 bx3 th3 x2, ThereM.sets th3 9 _⟩)
      clear B bx th hR hQ hT B3 bx3 th3
      go_wp2
      go_roundw
      case rel => exact ⟨3, by omega, rfl, hend.out.1, hend.out.2.1, hend.out.2.2⟩
      case measure => simp [intOf]
    · go_wp2_with fail
      refine (mnumber_of 3 3 x3 w0 g X x y _ rfl (by omega) H3 _ hR).mono ?_
      rintro e w3 ⟨rfl, hQ, hT⟩
      rw [List.drop_drop] at hQ
      have B3 := B.step hg hQ hT
      have bx3 := bx.turn hT hbg
      have th3 := there_turn th hT hbg
      have c10 := bx3.c10
      have f10 := ThereM.at_ th3 10 (by omega)
      have hend := hid (show Beside w0 w (w3.setCells b 10 [.int .i64 x3]) g (l.drop (1 + 3 * 4)) ∧ BoxM (w3.setCells b 10 [.int .i64 x3]) b (mtold a x0 x1 x2 x3 4) none 0 0 ∧ ThereM (w3.setCells b 10 [.int .i64 x3]) b from ⟨B3.sets hg hfar b hlt 10 _, setM10 bx3 th3 x3, ThereM.sets th3 10 _⟩)
      clear B bx th hR hQ hT B3 bx3 th3
      go_wp2
      go_roundw
      case rel => exact ⟨4, by omega, rfl, hend.out.1, hend.out.2.1, hend.out.2.2⟩
      case measure => simp [intOf]
    · have thr := B.th
      have hT := B.tu
      clear B hR
      have one : True := trivial
      go_wp2_with (first
        | (refine wpList_load_m rfl (.tmp 3) rfl b rfl bx ?_)
        | (refine wpList_store_m rfl (.tmp 2) (.tmp 18) rfl w.heap.size rfl (mtold a x0 x1 x2 x3 4) none 0 0 rfl thr w.heap.size (Nat.le_refl _) ?_; intro w9 bx9 th9 b9 hh9 sz9))
      exact bodyPost_ret (results_m rfl rfl bx9) rfl ⟨none, 0, 0, by rw [HD.out], by rw [HD.out]; rfl, by rw [HD.out]; exact OwO.nil _ _, hT.other hh9 (Nat.le_refl _) (b9.mono (Nat.le_of_lt hg))⟩
end Go.Proofs.YtdhfnacdjjdijaaGreat
