/-
  The program's read: the operation that bytes begin with, as far as it can be told.
-/
import Derived.Test.YtndmblhkmgnpcaaGreatOS
import Derived.Test.YtndmblhkmgnpcaaGreatOI
import Derived.Deep.RegionHeld
namespace Go.Proofs.YtndmblhkmgnpcaaGreat
open Go.RowKit
set_option linter.unusedVariables false
set_option linter.unusedSimpArgs false


/-- The boxes that the closures of takers hold: the operation's pointer, and what takes an id, a row, a label. -/
structure Tak (W : World) (g b h0 h1 h2 h3 : Nat) : Prop where
  c0 : W.cell? ⟨h0, 0, none⟩ = some (.pointer (some ⟨b, 0, none⟩))
  c1 : W.cell? ⟨h1, 0, none⟩ = some (.func (.func 131) #[.pointer (some ⟨g, 0, none⟩)] #[])
  c2 : W.cell? ⟨h2, 0, none⟩ = some (.func (.func 134) #[.pointer (some ⟨g, 0, none⟩)] #[])
  c3 : W.cell? ⟨h3, 0, none⟩ = some (.func (.func 135) #[.pointer (some ⟨g, 0, none⟩)] #[])
  n0 : h0 ≠ g ∧ h0 ≠ b
  n1 : h1 ≠ g ∧ h1 ≠ b
  n2 : h2 ≠ g ∧ h2 ≠ b
  n3 : h3 ≠ g ∧ h3 ≠ b
theorem Tak.turn {W W' : World} {g b h0 h1 h2 h3 : Nat} (h : Tak W g b h0 h1 h2 h3) (hT : Turn g W W') : Tak W' g b h0 h1 h2 h3 :=
  ⟨hT.cell (p := ⟨h0, 0, none⟩) h.n0.1 h.c0, hT.cell (p := ⟨h1, 0, none⟩) h.n1.1 h.c1, hT.cell (p := ⟨h2, 0, none⟩) h.n2.1 h.c2, hT.cell (p := ⟨h3, 0, none⟩) h.n3.1 h.c3, h.n0, h.n1, h.n2, h.n3⟩
theorem Tak.sets {W : World} {g b h0 h1 h2 h3 : Nat} (h : Tak W g b h0 h1 h2 h3) (off : Nat) (vs : List Value) : Tak (W.setCells b off vs) g b h0 h1 h2 h3 :=
  ⟨cell_other (fun k hk => heap_setCells b vs off W k hk) (p := ⟨h0, 0, none⟩) h.n0.2 h.c0, cell_other (fun k hk => heap_setCells b vs off W k hk) (p := ⟨h1, 0, none⟩) h.n1.2 h.c1, cell_other (fun k hk => heap_setCells b vs off W k hk) (p := ⟨h2, 0, none⟩) h.n2.2 h.c2, cell_other (fun k hk => heap_setCells b vs off W k hk) (p := ⟨h3, 0, none⟩) h.n3.2 h.c3, h.n0, h.n1, h.n2, h.n3⟩
theorem Tak.drew {W : World} {g b h0 h1 h2 h3 : Nat} (h : Tak W g b h0 h1 h2 h3) : Tak W.drew g b h0 h1 h2 h3 := ⟨h.c0, h.c1, h.c2, h.c3, h.n0, h.n1, h.n2, h.n3⟩
/-- What is left as it was but for the two boxes. -/
structure Turn2 (g b : Nat) (w w' : World) : Prop where
  size : w.heap.size ≤ w'.heap.size
  heap : ∀ k, k < w.heap.size → k ≠ g → k ≠ b → w'.heap[k]? = w.heap[k]?
theorem Turn2.refl (g b : Nat) (w : World) : Turn2 g b w w := ⟨Nat.le_refl _, fun _ _ _ _ => rfl⟩
theorem Turn2.drew {g b : Nat} {w w' : World} (h : Turn2 g b w w') : Turn2 g b w w'.drew := ⟨h.size, h.heap⟩
theorem Turn2.turn {g b : Nat} {w a c : World} (h : Turn2 g b w a) (k : Turn g a c) : Turn2 g b w c :=
  ⟨Nat.le_trans h.size k.size, fun i hi hg hb => (k.heap i (Nat.lt_of_lt_of_le hi h.size) hg).trans (h.heap i hi hg hb)⟩
theorem Turn2.sets {g b : Nat} {w a : World} (h : Turn2 g b w a) (off : Nat) (vs : List Value) : Turn2 g b w (a.setCells b off vs) :=
  ⟨by rw [size_setCells]; exact h.size, fun i hi hg hb => (heap_setCells b vs off a i hb).trans (h.heap i hi hg hb)⟩

set_option maxRecDepth 100000 in
set_option maxHeartbeats 800000 in
theorem takers_any (g b : Nat) (w : World) (hg : g < w.heap.size) (hb : b < w.heap.size) :
    Calls Tryz.prog 133 #[.pointer (some ⟨b, 0, none⟩), .func (.func 131) #[.pointer (some ⟨g, 0, none⟩)] #[], .func (.func 134) #[.pointer (some ⟨g, 0, none⟩)] #[], .func (.func 135) #[.pointer (some ⟨g, 0, none⟩)] #[]] w fun e w' => ∃ h0 h1 h2 h3, e = .returned (.agg #[.nilFunc, .func (.func 153) #[] #[.pointer (some ⟨h1, 0, none⟩), .pointer (some ⟨h0, 0, none⟩), .pointer (some ⟨h2, 0, none⟩)], .func (.func 154) #[] #[], .func (.func 155) #[] #[.pointer (some ⟨h3, 0, none⟩), .pointer (some ⟨h0, 0, none⟩)]]) ∧ Tak w' g b h0 h1 h2 h3 ∧ Below w.heap.size w w' := by
  have hi : (Tryz.prog.info? 176).map (·.size) = some 4 := by kernel_rfl
  obtain ⟨X, hX⟩ : ∃ X, X = (((w.alloc (.cells #[.pointer (some ⟨b, 0, none⟩)] 178)).alloc (.cells #[.func (.func 131) #[.pointer (some ⟨g, 0, none⟩)] #[]] 175)).alloc (.cells #[.func (.func 134) #[.pointer (some ⟨g, 0, none⟩)] #[]] 179)).alloc (.cells #[.func (.func 135) #[.pointer (some ⟨g, 0, none⟩)] #[]] 180) := ⟨_, rfl⟩
  have ht := there4_new X .nilFunc .nilFunc .nilFunc .nilFunc 176
  have hbX : Below w.heap.size w X := by rw [hX]; go_grown
  have hs : X.heap.size = w.heap.size + 1 + 1 + 1 + 1 := by rw [hX]; simp
  have k0 : (X.alloc (.cells #[.nilFunc, .nilFunc, .nilFunc, .nilFunc] 176)).cell? ⟨w.heap.size, 0, none⟩ = some (.pointer (some ⟨b, 0, none⟩)) := by rw [hX]; simp [go_sem]
  have k1 : (X.alloc (.cells #[.nilFunc, .nilFunc, .nilFunc, .nilFunc] 176)).cell? ⟨w.heap.size + 1, 0, none⟩ = some (.func (.func 131) #[.pointer (some ⟨g, 0, none⟩)] #[]) := by rw [hX]; simp [go_sem]
  have k2 : (X.alloc (.cells #[.nilFunc, .nilFunc, .nilFunc, .nilFunc] 176)).cell? ⟨w.heap.size + 1 + 1, 0, none⟩ = some (.func (.func 134) #[.pointer (some ⟨g, 0, none⟩)] #[]) := by rw [hX]; simp [go_sem]
  have k3 : (X.alloc (.cells #[.nilFunc, .nilFunc, .nilFunc, .nilFunc] 176)).cell? ⟨w.heap.size + 1 + 1 + 1, 0, none⟩ = some (.func (.func 135) #[.pointer (some ⟨g, 0, none⟩)] #[]) := by rw [hX]; simp [go_sem]
  have hbY : Below w.heap.size w (X.alloc (.cells #[.nilFunc, .nilFunc, .nilFunc, .nilFunc] 176)) := below_al hbX _
  rw [hs] at ht
  subst hX
  have H := hid (show _ ∧ _ ∧ _ ∧ _ ∧ _ ∧ _ from ⟨ht, k0, k1, k2, k3, hbY⟩)
  clear ht k0 k1 k2 k3 hbX hbY hs
  go_enter Tryz.func133, Tryz.ntmps133
  go_wp2_with (refine wpList_store_4 rfl 176 _ Tryz.underlying176 rfl hi (.tmp 8) (.tmp 11) rfl _ rfl _ _ _ _ rfl (by simp [Value.oneCell']) H.out.1 w.heap.size (by omega) ?_; intro w1 s0 s1 s2 s3 b1 hh)
  exact bodyPost_ret (v := .agg #[.nilFunc, .func (.func 153) #[] #[.pointer (some ⟨w.heap.size + 1, 0, none⟩), .pointer (some ⟨w.heap.size, 0, none⟩), .pointer (some ⟨w.heap.size + 1 + 1, 0, none⟩)], .func (.func 154) #[] #[], .func (.func 155) #[] #[.pointer (some ⟨w.heap.size + 1 + 1 + 1, 0, none⟩), .pointer (some ⟨w.heap.size, 0, none⟩)]]) (by simp [results, Tryz.results133, go_sem, s0, s1, s2, s3]) rfl
    ⟨w.heap.size, w.heap.size + 1, w.heap.size + 1 + 1, w.heap.size + 1 + 1 + 1, rfl, ⟨cell_other hh (p := ⟨w.heap.size, 0, none⟩) (by simp; omega) H.out.2.1, cell_other hh (p := ⟨w.heap.size + 1, 0, none⟩) (by simp) H.out.2.2.1, cell_other hh (p := ⟨w.heap.size + 1 + 1, 0, none⟩) (by simp) H.out.2.2.2.1, cell_other hh (p := ⟨w.heap.size + 1 + 1 + 1, 0, none⟩) (by simp) H.out.2.2.2.2.1, by omega, by omega, by omega, by omega⟩, H.out.2.2.2.2.2.trans b1⟩

theorem Two.drew {w0 W : World} {g b : Nat} {l : List UInt8} {o : Opd} {A : Option Addr} {n c : Nat} (h : Two w0 W g b l o A n c) : Two w0 W.drew g b l o A n c := h.keep ((Below.refl _ _).drew)
theorem Two.lt {w0 W : World} {g b : Nat} {l : List UInt8} {o : Opd} {A : Option Addr} {n c : Nat} (h : Two w0 W g b l o A n c) : b < W.heap.size := World.block_lt_of_cell? W _ h.bx.c0

set_option maxRecDepth 100000 in
theorem takers2_any (w : World) :
    Calls Tryz.prog 154 #[] w fun e w' => e = .returned (.tuple #[]) ∧ w = w' := by
  go_enter Tryz.func154, Tryz.ntmps154
  go_wp2
  go_end0
  exact ⟨rfl, rfl⟩
end Go.Proofs.YtndmblhkmgnpcaaGreat

namespace Go.Proofs.YtndmblhkmgnpcaaGreat
open Go.RowKit
set_option linter.unusedVariables false
set_option linter.unusedSimpArgs false


set_option maxRecDepth 100000 in
set_option maxHeartbeats 3200000 in
theorem takers1_of (q : Bool) (x0 x1 x5 x6 : Int) (r : List Int) (M k : Nat) (g b h0 h1 h2 h3 : Nat) (w0 : World) (l : List UInt8) (o : Opd) (A : Option Addr) (n c : Nat)
    (hx : Hid (okI (l.take 13) = q ∧ pick q (gL (l.take 13)) = x0 ∧ pick q (gC (l.take 13)) = x1 ∧ pick q (gK (l.take 13)) = x5 ∧ pick q (gN (l.take 13)) = x6)) (hr : Hid (getV ((l.drop 13).take (4 * M)) = r ∧ r.length = k)) (hM : Hid ((M : Int) = o.fm)) (hM5 : M ≤ 64) (w : World) (h2w : Two w0 w g b l o A n c) (ht : Tak w g b h0 h1 h2 h3) :
    Calls Tryz.prog 153 #[.pointer (some ⟨h1, 0, none⟩), .pointer (some ⟨h0, 0, none⟩), .pointer (some ⟨h2, 0, none⟩)] w fun e w' => e = .returned (.tuple #[]) ∧ (∃ A' c', Two w0 w' g b (l.drop (13 + 4 * M)) { o with al := x0, ac := x1, ak := x5, an := x6, row := r } A' k c' ∧ OwnI w' w.heap.size 21 A' c' r) ∧ Turn2 g b w w' := by
  have hd := h2w.drew
  have htd := ht.drew
  have hlt := h2w.lt
  have hS0 : w.drew.cell? ⟨h0, 0, none⟩ = some (.pointer (some ⟨b, 0, none⟩)) ∧ w.drew.cell? ⟨h1, 0, none⟩ = some (.func (.func 131) #[.pointer (some ⟨g, 0, none⟩)] #[]) := ⟨htd.c0, htd.c1⟩
  have HT := hid htd
  have HD := hid hd
  clear ht h2w hd htd
  go_enter Tryz.func153, Tryz.ntmps153
  go_wp2_with fail
  refine wp_region_held_drew (S := fun w' => w'.cell? ⟨h0, 0, none⟩ = some (.pointer (some ⟨b, 0, none⟩)) ∧ w'.cell? ⟨h1, 0, none⟩ = some (.func (.func 131) #[.pointer (some ⟨g, 0, none⟩)] #[])) (by kernel_rfl) hS0 (fun hHeld => ?_)
  refine wpAnyH_take (i := 0) (v := ?_) rfl (by kernel_rfl) (by kernel_rfl) (by kernel_rfl) (fun _ _ _ h => h) (Or.inl ⟨by rfl, ?_⟩) hHeld ?_
  rotate_left
  · intro w' hSw
    (try dsimp only at hSw)
    obtain ⟨k0, k1⟩ := hSw
    go_simp <;> with_reducible rfl
  (try simp only [Act.put, List.setIfInBounds_toArray, List.set_cons_zero, List.set_cons_succ])
  refine wpAnyH_take (i := 1) (v := ?_) rfl (by kernel_rfl) (by kernel_rfl) (by kernel_rfl) (fun _ _ _ h => h) (Or.inl ⟨by rfl, ?_⟩) hHeld ?_
  rotate_left
  · intro w' hSw
    (try dsimp only at hSw)
    obtain ⟨k0, k1⟩ := hSw
    go_simp <;> with_reducible rfl
  (try simp only [Act.put, List.setIfInBounds_toArray, List.set_cons_zero, List.set_cons_succ])
  refine wpAnyH_ready (rs := [2]) (by kernel_rfl) (by simp) ?_
  refine AllReadyH.cons rfl (fun K hK => ?_) AllReadyH.nil
  go_simp
  obtain ⟨B, m, d, hr0⟩ := HD.out.rd
  go_wp2_with (go_at_call 131; refine (id_of q x0 x1 x5 x6 w0 g B m d l hx _ hr0).mono ?_; rintro e w1 ⟨rfl, hR, hT⟩)
  have ht1 := HT.out.turn hT
  have HW := hid (HD.out.turn hT hR)
  have HU := hid (((Turn2.refl g b w).drew).turn hT)
  refine hK.out _ _ ⟨ht1.c0, ht1.c1⟩ (fun hHeld2 => ?_)
  clear hK K hR hT hr0 hHeld
  refine wpAnyH_take (i := 3) (v := ?_) rfl (by kernel_rfl) (by kernel_rfl) (by kernel_rfl) (fun _ _ _ h => h) (Or.inl ⟨by rfl, ?_⟩) hHeld2 ?_
  rotate_left
  · intro w' hSw
    (try dsimp only at hSw)
    obtain ⟨k0, k1⟩ := hSw
    go_simp <;> with_reducible rfl
  (try simp only [Act.put, List.setIfInBounds_toArray, List.set_cons_zero, List.set_cons_succ])
  refine wpAnyH_take (i := 4) (v := ?_) rfl (by kernel_rfl) (by kernel_rfl) (by kernel_rfl) (fun _ _ _ h => h) (Or.inl ⟨by rfl, ?_⟩) hHeld2 ?_
  rotate_left
  · intro w' hSw
    (try dsimp only at hSw)
    obtain ⟨k0, k1⟩ := hSw
    go_simp <;> with_reducible rfl
  (try simp only [Act.put, List.setIfInBounds_toArray, List.set_cons_zero, List.set_cons_succ])
  refine wpAnyH_ready (rs := [5]) (by kernel_rfl) (by simp) ?_
  refine AllReadyH.cons rfl (fun K hK => ?_) AllReadyH.nil
  rw [if_pos (by rfl)]
  refine wp_store_mid 28 (.tmp 7) (.tmp 5) rfl b 10 (List.toArray [.int .u8 x0, .int .u32 x1, .int .u8 x5, .int .i64 x6]) rfl rfl (fun j hj => by have := HW.out.th (10 + j) (by simp at hj; omega); simpa using this) (by kernel_rfl) (by simp [Value.oneCell']) ?_
  (try simp only [Act.put, List.setIfInBounds_toArray, List.set_cons_zero, List.set_cons_succ, List.toList_toArray])
  have ht2 := ht1.sets 10 [.int .u8 x0, .int .u32 x1, .int .u8 x5, .int .i64 x6]
  refine hK.out _ _ ⟨ht2.c0, ht2.c1⟩ (fun hHeld3 => ?_)
  clear hK K
  refine wpAnyH_done (by kernel_rfl) ?_ _
  have HW2 := hid (HW.out.sets 10 [.int .u8 x0, .int .u32 x1, .int .u8 x5, .int .i64 x6] (set_aft HW.out.bx HW.out.th x0 x1 x5 x6))
  have HU2 := hid (HU.out.sets 10 [.int .u8 x0, .int .u32 x1, .int .u8 x5, .int .i64 x6])
  have HT2 := hid ht2
  clear hHeld2 hHeld3 ht1 ht2 HW HU HT HD
  generalize World.setCells _ b 10 _ = W3 at HW2 HU2 HT2 ⊢
  go_simp
  have hd := HW2.out.drew
  have htd := HT2.out.drew
  have hS1 : W3.drew.cell? ⟨h0, 0, none⟩ = some (.pointer (some ⟨b, 0, none⟩)) ∧ W3.drew.cell? ⟨h2, 0, none⟩ = some (.func (.func 134) #[.pointer (some ⟨g, 0, none⟩)] #[]) ∧ W3.drew.cell? ⟨b, 9, none⟩ = some (.int .i64 o.fm) := ⟨htd.c0, htd.c2, hd.bx.c9⟩
  have HT := hid htd
  have HD := hid hd
  clear htd hd
  go_wp2_with fail
  refine wp_region_held_drew (S := fun w' => w'.cell? ⟨h0, 0, none⟩ = some (.pointer (some ⟨b, 0, none⟩)) ∧ w'.cell? ⟨h2, 0, none⟩ = some (.func (.func 134) #[.pointer (some ⟨g, 0, none⟩)] #[]) ∧ w'.cell? ⟨b, 9, none⟩ = some (.int .i64 o.fm)) (by kernel_rfl) hS1 (fun hHeld => ?_)
  refine wpAnyH_take (i := 0) (v := ?_) rfl (by kernel_rfl) (by kernel_rfl) (by kernel_rfl) (fun _ _ _ h => h) (Or.inl ⟨by rfl, ?_⟩) hHeld ?_
  rotate_left
  · intro w' hSw
    (try dsimp only at hSw)
    obtain ⟨k0, k1, k2⟩ := hSw
    go_simp <;> with_reducible rfl
  (try simp only [Act.put, List.setIfInBounds_toArray, List.set_cons_zero, List.set_cons_succ])
  refine wpAnyH_take (i := 1) (v := ?_) rfl (by kernel_rfl) (by kernel_rfl) (by kernel_rfl) (fun _ _ _ h => h) (Or.inl ⟨by rfl, ?_⟩) hHeld ?_
  rotate_left
  · intro w' hSw
    (try dsimp only at hSw)
    obtain ⟨k0, k1, k2⟩ := hSw
    go_simp <;> with_reducible rfl
  (try simp only [Act.put, List.setIfInBounds_toArray, List.set_cons_zero, List.set_cons_succ])
  refine wpAnyH_take (i := 2) (v := ?_) rfl (by kernel_rfl) (by kernel_rfl) (by kernel_rfl) (fun _ _ _ h => h) (Or.inl ⟨by rfl, ?_⟩) hHeld ?_
  rotate_left
  · intro w' hSw
    (try dsimp only at hSw)
    obtain ⟨k0, k1, k2⟩ := hSw
    go_simp <;> with_reducible rfl
  (try simp only [Act.put, List.setIfInBounds_toArray, List.set_cons_zero, List.set_cons_succ])
  refine wpAnyH_take (i := 3) (v := ?_) rfl (by kernel_rfl) (by kernel_rfl) (by kernel_rfl) (fun _ _ _ h => h) (Or.inl ⟨by rfl, ?_⟩) hHeld ?_
  rotate_left
  · intro w' hSw
    (try dsimp only at hSw)
    obtain ⟨k0, k1, k2⟩ := hSw
    go_simp <;> with_reducible rfl
  (try simp only [Act.put, List.setIfInBounds_toArray, List.set_cons_zero, List.set_cons_succ])
  refine wpAnyH_take (i := 4) (v := ?_) rfl (by kernel_rfl) (by kernel_rfl) (by kernel_rfl) (fun _ _ _ h => h) (Or.inl ⟨by rfl, ?_⟩) hHeld ?_
  rotate_left
  · intro w' hSw
    (try dsimp only at hSw)
    obtain ⟨k0, k1, k2⟩ := hSw
    go_simp <;> with_reducible rfl
  (try simp only [Act.put, List.setIfInBounds_toArray, List.set_cons_zero, List.set_cons_succ])
  refine wpAnyH_take (i := 5) (v := ?_) rfl (by kernel_rfl) (by kernel_rfl) (by kernel_rfl) (fun _ _ _ h => h) (Or.inl ⟨by rfl, ?_⟩) hHeld ?_
  rotate_left
  · intro w' hSw
    (try dsimp only at hSw)
    obtain ⟨k0, k1, k2⟩ := hSw
    go_simp <;> with_reducible rfl
  (try simp only [Act.put, List.setIfInBounds_toArray, List.set_cons_zero, List.set_cons_succ])
  refine wpAnyH_take (i := 6) (v := ?_) rfl (by kernel_rfl) (by kernel_rfl) (by kernel_rfl) (fun _ _ _ h => h) (Or.inl ⟨by rfl, ?_⟩) hHeld ?_
  rotate_left
  · intro w' hSw
    (try dsimp only at hSw)
    obtain ⟨k0, k1, k2⟩ := hSw
    go_simp <;> with_reducible rfl
  (try simp only [Act.put, List.setIfInBounds_toArray, List.set_cons_zero, List.set_cons_succ])
  refine wpAnyH_ready (rs := [7]) (by kernel_rfl) (by simp) ?_
  refine AllReadyH.cons rfl (fun K hK => ?_) AllReadyH.nil
  go_simp
  obtain ⟨B, m, d, hr0⟩ := HD.out.rd
  go_wp2_with (go_at_call 134; refine (row_of M o.fm w0 g B m d (l.drop 13) hM hM5 _ hr0).mono ?_; rintro e w4 ⟨⟨A', c', rfl, ho⟩, hR, hT⟩)
  rw [hr.out.1] at ho
  have ht1 := HT.out.turn hT
  have hW := HD.out.turn hT hR
  have HU := hid ((HU2.out.drew).turn hT)
  have s16 := hW.bx.c16
  have f16 := hW.th.at_ 16 (by omega)
  have hlen : (getV ((l.drop 13).take (4 * M))).length = k := by rw [hr.out.1, hr.out.2]
  refine hK.out _ _ ⟨ht1.c0, ht1.c2, hW.bx.c9⟩ (fun hHeld2 => ?_)
  have HW := hid hW
  clear hK K hR hT hr0 hHeld hW
  refine wpAnyH_take (i := 8) (v := ?_) rfl (by kernel_rfl) (by kernel_rfl) (by kernel_rfl) (fun _ _ _ h => h) (Or.inl ⟨by rfl, ?_⟩) hHeld2 ?_
  rotate_left
  · intro w' hSw
    (try dsimp only at hSw)
    obtain ⟨k0, k1, k2⟩ := hSw
    go_simp <;> with_reducible rfl
  (try simp only [Act.put, List.setIfInBounds_toArray, List.set_cons_zero, List.set_cons_succ])
  refine wpAnyH_take (i := 9) (v := ?_) rfl (by kernel_rfl) (by kernel_rfl) (by kernel_rfl) (fun _ _ _ h => h) (Or.inl ⟨by rfl, ?_⟩) hHeld2 ?_
  rotate_left
  · intro w' hSw
    (try dsimp only at hSw)
    obtain ⟨k0, k1, k2⟩ := hSw
    go_simp <;> with_reducible rfl
  (try simp only [Act.put, List.setIfInBounds_toArray, List.set_cons_zero, List.set_cons_succ])
  refine wpAnyH_ready (rs := [10]) (by kernel_rfl) (by simp) ?_
  refine AllReadyH.cons rfl (fun K hK => ?_) AllReadyH.nil
  go_simp
  show K _ (World.setCells w4 b 16 [.slice A' k c'])
  have HX := hid (HW.out.sets 16 [.slice A' k c'] (set_row HW.out.bx HW.out.th A' k c' r))
  have HY := hid (HU.out.sets 16 [.slice A' k c'])
  have ht2 := ht1.sets 16 [.slice A' k c']
  have hle : w.heap.size ≤ W3.drew.heap.size := HU2.out.size
  have HO := hid (OwnI.base hle (ho.other (W' := World.setCells w4 b 16 [.slice A' k c']) (fun j hj => heap_setCells b _ 16 w4 j hj) (Nat.lt_of_lt_of_le hlt hle)))
  refine hK.out _ _ ⟨ht2.c0, ht2.c2, HX.out.bx.c9⟩ (fun hHeld3 => ?_)
  clear hK K
  refine wpAnyH_done (by kernel_rfl) ?_ _
  rw [List.drop_drop] at HX
  clear hHeld2 hHeld3 ht1 ht2 HW HU HT HD HU2 HT2 HW2 ho s16 f16 hS1
  generalize World.setCells _ b 16 _ = W5 at HX HY HO ⊢
  go_simp
  go_wp2
  go_end0
  exact ⟨rfl, ⟨A', c', HX.out, HO.out⟩, HY.out⟩
end Go.Proofs.YtndmblhkmgnpcaaGreat

namespace Go.Proofs.YtndmblhkmgnpcaaGreat
open Go.RowKit
set_option linter.unusedVariables false
set_option linter.unusedSimpArgs false


set_option maxRecDepth 100000 in
set_option maxHeartbeats 1600000 in
theorem takers3_of (x y : Int) (g b h0 h1 h2 h3 : Nat) (w0 : World) (l : List UInt8) (o : Opd) (A : Option Addr) (n c : Nat) (hx : Hid ((vl (l.take 1) : Int) = x ∧ (vl ((l.drop 1).take 4) : Int) = y)) (w : World) (h2w : Two w0 w g b l o A n c) (ht : Tak w g b h0 h1 h2 h3) :
    Calls Tryz.prog 155 #[.pointer (some ⟨h3, 0, none⟩), .pointer (some ⟨h0, 0, none⟩)] w fun e w' => e = .returned (.tuple #[]) ∧ Two w0 w' g b (l.drop 5) { o with tl := x, tc := y } A n c ∧ Turn2 g b w w' := by
  have hd := h2w.drew
  have htd := ht.drew
  have hS0 : w.drew.cell? ⟨h0, 0, none⟩ = some (.pointer (some ⟨b, 0, none⟩)) ∧ w.drew.cell? ⟨h3, 0, none⟩ = some (.func (.func 135) #[.pointer (some ⟨g, 0, none⟩)] #[]) := ⟨htd.c0, htd.c3⟩
  have HT := hid htd
  have HD := hid hd
  clear ht h2w hd htd
  go_enter Tryz.func155, Tryz.ntmps155
  go_wp2_with fail
  refine wp_region_held_drew (S := fun w' => w'.cell? ⟨h0, 0, none⟩ = some (.pointer (some ⟨b, 0, none⟩)) ∧ w'.cell? ⟨h3, 0, none⟩ = some (.func (.func 135) #[.pointer (some ⟨g, 0, none⟩)] #[])) (by kernel_rfl) hS0 (fun hHeld => ?_)
  refine wpAnyH_take (i := 0) (v := ?_) rfl (by kernel_rfl) (by kernel_rfl) (by kernel_rfl) (fun _ _ _ h => h) (Or.inl ⟨by rfl, ?_⟩) hHeld ?_
  rotate_left
  · intro w' hSw
    (try dsimp only at hSw)
    obtain ⟨k0, k1⟩ := hSw
    go_simp <;> with_reducible rfl
  (try simp only [Act.put, List.setIfInBounds_toArray, List.set_cons_zero, List.set_cons_succ])
  refine wpAnyH_take (i := 1) (v := ?_) rfl (by kernel_rfl) (by kernel_rfl) (by kernel_rfl) (fun _ _ _ h => h) (Or.inl ⟨by rfl, ?_⟩) hHeld ?_
  rotate_left
  · intro w' hSw
    (try dsimp only at hSw)
    obtain ⟨k0, k1⟩ := hSw
    go_simp <;> with_reducible rfl
  (try simp only [Act.put, List.setIfInBounds_toArray, List.set_cons_zero, List.set_cons_succ])
  refine wpAnyH_ready (rs := [2]) (by kernel_rfl) (by simp) ?_
  refine AllReadyH.cons rfl (fun K hK => ?_) AllReadyH.nil
  go_simp
  obtain ⟨B, m, d, hr⟩ := HD.out.rd
  go_wp2_with (go_at_call 135; refine (label_of x y w0 g B m d l hx _ hr).mono ?_; rintro e w1 ⟨rfl, hR, hT⟩)
  have ht1 := HT.out.turn hT
  have HW := hid (HD.out.turn hT hR)
  have HU := hid (((Turn2.refl g b w).drew).turn hT)
  refine hK.out _ _ ⟨ht1.c0, ht1.c3⟩ (fun hHeld2 => ?_)
  clear hK K hR hT hr hHeld
  refine wpAnyH_take (i := 3) (v := ?_) rfl (by kernel_rfl) (by kernel_rfl) (by kernel_rfl) (fun _ _ _ h => h) (Or.inl ⟨by rfl, ?_⟩) hHeld2 ?_
  rotate_left
  · intro w' hSw
    (try dsimp only at hSw)
    obtain ⟨k0, k1⟩ := hSw
    go_simp <;> with_reducible rfl
  (try simp only [Act.put, List.setIfInBounds_toArray, List.set_cons_zero, List.set_cons_succ])
  refine wpAnyH_take (i := 4) (v := ?_) rfl (by kernel_rfl) (by kernel_rfl) (by kernel_rfl) (fun _ _ _ h => h) (Or.inl ⟨by rfl, ?_⟩) hHeld2 ?_
  rotate_left
  · intro w' hSw
    (try dsimp only at hSw)
    obtain ⟨k0, k1⟩ := hSw
    go_simp <;> with_reducible rfl
  (try simp only [Act.put, List.setIfInBounds_toArray, List.set_cons_zero, List.set_cons_succ])
  refine wpAnyH_ready (rs := [5]) (by kernel_rfl) (by simp) ?_
  refine AllReadyH.cons rfl (fun K hK => ?_) AllReadyH.nil
  rw [if_pos (by rfl)]
  refine wp_store_mid 24 (.tmp 6) (.tmp 4) rfl b 14 (List.toArray [.int .u8 x, .int .u32 y]) rfl rfl (fun j hj => by have := HW.out.th (14 + j) (by simp at hj; omega); simpa using this) (by kernel_rfl) (by simp [Value.oneCell']) ?_
  (try simp only [Act.put, List.setIfInBounds_toArray, List.set_cons_zero, List.set_cons_succ, List.toList_toArray])
  have ht2 := ht1.sets 14 [.int .u8 x, .int .u32 y]
  refine hK.out _ _ ⟨ht2.c0, ht2.c3⟩ (fun hHeld3 => ?_)
  clear hK K
  refine wpAnyH_done (by kernel_rfl) ?_ _
  have HW2 := hid (HW.out.sets 14 [.int .u8 x, .int .u32 y] (set_to HW.out.bx HW.out.th x y))
  have HU2 := hid (HU.out.sets 14 [.int .u8 x, .int .u32 y])
  clear hHeld2 hHeld3 ht1 ht2
  generalize World.setCells _ b 14 _ = W3 at HW2 HU2 ⊢
  go_simp
  go_wp2
  go_end0
  exact ⟨rfl, HW2.out, HU2.out⟩
end Go.Proofs.YtndmblhkmgnpcaaGreat

namespace Go.Proofs.YtndmblhkmgnpcaaGreat
open Go.RowKit
set_option linter.unusedVariables false
set_option linter.unusedSimpArgs false

theorem vl_byte (l : List UInt8) : 0 ≤ (vl (l.take 1) : Int) ∧ (vl (l.take 1) : Int) < 256 := by
  have h1 := vl_lt (l.take 1)
  have h2 : 256 ^ (l.take 1).length ≤ 256 ^ 1 := Nat.pow_le_pow_right (by decide) (by rw [List.length_take]; omega)
  simp only [Nat.reducePow] at h2
  omega
/-- The boxes of read as they are made. -/
theorem two_new (w : World) (A : Option Addr) (n c : Nat) (l : List UInt8) (hr : Rd w A c l) (hn : l.length = n) (Z : Array Value) (t1 t2 t3 : TypeId) :
    Two w (((w.alloc (.cells Z t1)).alloc (.cells #[.slice A n c] t2)).alloc (.cells #[.int .u8 0, .int .u8 0, .int .u32 0, .int .u8 0, .int .i64 0, .int .u8 0, .int .u32 0, .int .u8 0, .int .i64 0, .int .i64 0, .int .u8 0, .int .u32 0, .int .u8 0, .int .i64 0, .int .u8 0, .int .u32 0, .slice none 0 0] t3)) (w.heap.size + 1) (w.heap.size + 1 + 1) l zO none 0 0 := by
  obtain ⟨X, hX⟩ : ∃ X, X = (w.alloc (.cells Z t1)).alloc (.cells #[.slice A n c] t2) := ⟨_, rfl⟩
  have hs : X.heap.size = w.heap.size + 1 + 1 := by rw [hX]; simp
  have hc : X.cell? ⟨w.heap.size + 1, 0, none⟩ = some (.slice A n c) := by rw [hX]; simp [go_sem]
  have hf : X.frozen? ⟨w.heap.size + 1, 0, none⟩ = false := by rw [hX]; simp [go_sem]
  have hb : Below w.heap.size w X := by rw [hX]; go_grown
  rw [← hX]
  have hR : Rdr w X (w.heap.size + 1) A n c l := ⟨hc, hf, hr, hn, hb, by omega⟩
  have e := boxO_new X zO none 0 0 t3
  have t := thereO_new X #[.int .u8 0, .int .u8 0, .int .u32 0, .int .u8 0, .int .i64 0, .int .u8 0, .int .u32 0, .int .u8 0, .int .i64 0, .int .i64 0, .int .u8 0, .int .u32 0, .int .u8 0, .int .i64 0, .int .u8 0, .int .u32 0, .slice none 0 0] rfl t3
  rw [hs] at e t
  exact ⟨⟨A, n, c, hR.keep ((Below.refl _ _).alloc (Nat.le_refl _) _)⟩, e, t, by omega, by omega⟩
/-- The result's box besides. -/
theorem res_new (w : World) (Z : Array Value) (hZ : Z.size = 17) (o1 o2 : Obj) (t : TypeId) : ThereO (((w.alloc (.cells Z t)).alloc o1).alloc o2) w.heap.size :=
  (thereO_new w Z hZ t).keep (((Below.refl _ _).alloc (Nat.le_refl _) o1).alloc (by simp) o2)
theorem ThereO.sets2 {W : World} {g b : Nat} (h : ThereO W g) (hb : g ≠ b) (off : Nat) (vs : List Value) : ThereO (W.setCells b off vs) g := there_other h (fun k hk => heap_setCells b vs off W k hk) hb
theorem ThereO.turn2 {g b d : Nat} {w w' : World} (h : ThereO w d) (hT : Turn2 g b w w') (hg : d ≠ g) (hb : d ≠ b) : ThereO w' d := fun j hj => by
  obtain ⟨h1, h2⟩ := h j hj
  obtain ⟨u, hu⟩ := Option.isSome_iff_exists.1 h1
  have hl := World.block_lt_of_cell? w _ hu
  refine ⟨by rw [World.cell?_of_block (w := w) (hT.heap d hl hg hb), hu]; rfl, ?_⟩
  rw [World.frozen?_of_block (w := w) (hT.heap d hl hg hb)]; exact h2

theorem rd_head {l : List UInt8} {y0 y1 y2 y3 y4 y5 y6 y7 y8 y9 : Int} {q1 q2 : Bool} (H0 : (vl (l.take 1) : Int) = y0) (H1 : okH ((l.drop 1).take 6) = q1 ∧ pick q1 (gL ((l.drop 1).take 6)) = y1 ∧ pick q1 (gC ((l.drop 1).take 6)) = y2 ∧ pick q1 (gK ((l.drop 1).take 6)) = y3) (H4 : (vl ((l.drop 7).take 3) : Int) = y4)
    (H5 : okI ((l.drop 10).take 13) = q2 ∧ pick q2 (gL ((l.drop 10).take 13)) = y5 ∧ pick q2 (gC ((l.drop 10).take 13)) = y6 ∧ pick q2 (gK ((l.drop 10).take 13)) = y7 ∧ pick q2 (gN ((l.drop 10).take 13)) = y8) (H9 : (vl ((l.drop 23).take 1) : Int) = y9) : rdHead l = ⟨y0, y1, y2, y3, y4, y5, y6, y7, y8, y9, 0, 0, 0, 0, 0, 0, []⟩ := by
  obtain ⟨rfl, rfl, rfl, rfl⟩ := H1
  obtain ⟨rfl, rfl, rfl, rfl, rfl⟩ := H5
  subst H0 H4 H9
  rfl

set_option maxRecDepth 100000 in
set_option maxHeartbeats 6400000 in
theorem read_of (O : Opd) (A : Option Addr) (n c : Nat) (l : List UInt8) (hn : Hid (l.length = n)) (hO : Hid (rdO l = O)) (w : World) (hr : Rd w A c l) :
    Calls Tryz.prog 106 #[.slice A n c] w fun e w' => ∃ A' k c', e = .returned (.agg #[.int .u8 O.kd, .int .u8 O.l, .int .u32 O.c, .int .u8 O.k, .int .i64 O.s, .int .u8 O.fl, .int .u32 O.fc, .int .u8 O.fk, .int .i64 O.fn, .int .i64 O.fm, .int .u8 O.al, .int .u32 O.ac, .int .u8 O.ak, .int .i64 O.an, .int .u8 O.tl, .int .u32 O.tc, .slice A' k c']) ∧ O.row.length = k ∧ OwnI w' w.heap.size 21 A' c' O.row ∧ Below w.heap.size w w' := by
  obtain ⟨y0, hy0⟩ : ∃ y0, (vl (l.take 1) : Int) = y0 := ⟨_, rfl⟩
  obtain ⟨q1, y1, y2, y3, hy1⟩ : ∃ q1 y1 y2 y3, okH ((l.drop 1).take 6) = q1 ∧ pick q1 (gL ((l.drop 1).take 6)) = y1 ∧ pick q1 (gC ((l.drop 1).take 6)) = y2 ∧ pick q1 (gK ((l.drop 1).take 6)) = y3 := ⟨_, _, _, _, rfl, rfl, rfl, rfl⟩
  obtain ⟨y4, hy4⟩ : ∃ y4, (vl ((l.drop 7).take 3) : Int) = y4 := ⟨_, rfl⟩
  obtain ⟨q2, y5, y6, y7, y8, hy5⟩ : ∃ q2 y5 y6 y7 y8, okI ((l.drop 10).take 13) = q2 ∧ pick q2 (gL ((l.drop 10).take 13)) = y5 ∧ pick q2 (gC ((l.drop 10).take 13)) = y6 ∧ pick q2 (gK ((l.drop 10).take 13)) = y7 ∧ pick q2 (gN ((l.drop 10).take 13)) = y8 := ⟨_, _, _, _, _, rfl, rfl, rfl, rfl, rfl⟩
  obtain ⟨y9, hy9⟩ : ∃ y9, (vl ((l.drop 23).take 1) : Int) = y9 := ⟨_, rfl⟩
  have hH := rd_head hy0 hy1 hy4 hy5 hy9
  have y00 : 0 ≤ y0 := by rw [← hy0]; exact (vl_byte l).1
  have y01 : y0 < 256 := by rw [← hy0]; exact (vl_byte l).2
  have y90 : 0 ≤ y9 := by rw [← hy9]; exact (vl_byte _).1
  have H0 := hid hy0
  have H1 := hid hy1
  have H4 := hid hy4
  have H5 := hid hy5
  have H9 := hid hy9
  have hO1 := hO.out
  rw [rdO, hH] at hO1
  have HH := hid hO1
  clear hO1 hO
  have HT0 := hid (two_new w A n c l hr hn.out #[.int .u8 0, .int .u8 0, .int .u32 0, .int .u8 0, .int .i64 0, .int .u8 0, .int .u32 0, .int .u8 0, .int .i64 0, .int .i64 0, .int .u8 0, .int .u32 0, .int .u8 0, .int .i64 0, .int .u8 0, .int .u32 0, .slice none 0 0] 33 173 33)
  have HZ0 := hid (res_new w #[.int .u8 0, .int .u8 0, .int .u32 0, .int .u8 0, .int .i64 0, .int .u8 0, .int .u32 0, .int .u8 0, .int .i64 0, .int .i64 0, .int .u8 0, .int .u32 0, .int .u8 0, .int .i64 0, .int .u8 0, .int .u32 0, .slice none 0 0] rfl (.cells #[.slice A n c] 173) (.cells #[.int .u8 0, .int .u8 0, .int .u32 0, .int .u8 0, .int .i64 0, .int .u8 0, .int .u32 0, .int .u8 0, .int .i64 0, .int .i64 0, .int .u8 0, .int .u32 0, .int .u8 0, .int .i64 0, .int .u8 0, .int .u32 0, .slice none 0 0] 33) 33)
  clear hy0 hy1 hy4 hy5 hy9 hH hr hn
  go_enter Tryz.func106, Tryz.ntmps106
  go_wp2_with fail
  generalize hX : World.alloc _ _ = X0
  rw [hX] at HT0 HZ0
  clear hX
  obtain ⟨B0, m0, d0, hr0⟩ := HT0.out.rd
  refine (number_of 1 1 y0 w (w.heap.size + 1) B0 m0 d0 l rfl (by omega) H0 _ hr0).mono ?_
  rintro e w1 ⟨rfl, hR, hT⟩
  have T1 := HT0.out.turn hT hR
  have Z1 := HZ0.out.turn hT (by omega)
  have s0 := T1.bx.c0
  have f0 := T1.th.at_ 0 (by omega)
  have HT1 := hid (T1.sets 0 [.int .u8 y0] (set_kd T1.bx T1.th y0))
  have HZ1 := hid (Z1.sets2 (b := (w.heap.size + 1 + 1)) (by omega) 0 [.int .u8 y0])
  clear T1 Z1 hR hT HT0 HZ0 hr0
  go_wp2_with fail
  generalize hX : (World.setCell w1 _ _) = X1
  rw [show World.setCells w1 (w.heap.size + 1 + 1) 0 [.int .u8 y0] = X1 from hX] at HT1 HZ1
  clear hX s0 f0
  obtain ⟨B1, m1, d1, hr1⟩ := HT1.out.rd
  refine (handle_of q1 y1 y2 y3 w (w.heap.size + 1) B1 m1 d1 (l.drop 1) H1 _ hr1).mono ?_
  rintro e w2 ⟨rfl, hR, hT⟩
  simp only [List.drop_drop, Nat.reduceAdd] at hR
  have T2 := HT1.out.turn hT hR
  have Z2 := HZ1.out.turn hT (by omega)
  have s0 := T2.bx.c1
  have f0 := T2.th.at_ 1 (by omega)
  have s1 := T2.bx.c2
  have f1 := T2.th.at_ 2 (by omega)
  have s2 := T2.bx.c3
  have f2 := T2.th.at_ 3 (by omega)
  have HT2 := hid (T2.sets 1 [.int .u8 y1, .int .u32 y2, .int .u8 y3] (set_by T2.bx T2.th y1 y2 y3))
  have HZ2 := hid (Z2.sets2 (b := (w.heap.size + 1 + 1)) (by omega) 1 [.int .u8 y1, .int .u32 y2, .int .u8 y3])
  clear T2 Z2 hR hT HT1 HZ1 hr1
  go_wp2_with fail
  generalize hX : (World.setCell (World.setCell (World.setCell w2 _ _) _ _) _ _) = X2
  rw [show World.setCells w2 (w.heap.size + 1 + 1) 1 [.int .u8 y1, .int .u32 y2, .int .u8 y3] = X2 from hX] at HT2 HZ2
  clear hX s0 f0 s1 f1 s2 f2
  obtain ⟨B2, m2, d2, hr2⟩ := HT2.out.rd
  refine (number_of 3 3 y4 w (w.heap.size + 1) B2 m2 d2 (l.drop 7) rfl (by omega) H4 _ hr2).mono ?_
  rintro e w3 ⟨rfl, hR, hT⟩
  simp only [List.drop_drop, Nat.reduceAdd] at hR
  have T3 := HT2.out.turn hT hR
  have Z3 := HZ2.out.turn hT (by omega)
  have s0 := T3.bx.c4
  have f0 := T3.th.at_ 4 (by omega)
  have HT3 := hid (T3.sets 4 [.int .i64 y4] (set_s T3.bx T3.th y4))
  have HZ3 := hid (Z3.sets2 (b := (w.heap.size + 1 + 1)) (by omega) 4 [.int .i64 y4])
  clear T3 Z3 hR hT HT2 HZ2 hr2
  go_wp2_with fail
  generalize hX : (World.setCell w3 _ _) = X3
  rw [show World.setCells w3 (w.heap.size + 1 + 1) 4 [.int .i64 y4] = X3 from hX] at HT3 HZ3
  clear hX s0 f0
  obtain ⟨B3, m3, d3, hr3⟩ := HT3.out.rd
  refine (id_of q2 y5 y6 y7 y8 w (w.heap.size + 1) B3 m3 d3 (l.drop 10) H5 _ hr3).mono ?_
  rintro e w4 ⟨rfl, hR, hT⟩
  simp only [List.drop_drop, Nat.reduceAdd] at hR
  have T4 := HT3.out.turn hT hR
  have Z4 := HZ3.out.turn hT (by omega)
  have s0 := T4.bx.c5
  have f0 := T4.th.at_ 5 (by omega)
  have s1 := T4.bx.c6
  have f1 := T4.th.at_ 6 (by omega)
  have s2 := T4.bx.c7
  have f2 := T4.th.at_ 7 (by omega)
  have s3 := T4.bx.c8
  have f3 := T4.th.at_ 8 (by omega)
  have HT4 := hid (T4.sets 5 [.int .u8 y5, .int .u32 y6, .int .u8 y7, .int .i64 y8] (set_from T4.bx T4.th y5 y6 y7 y8))
  have HZ4 := hid (Z4.sets2 (b := (w.heap.size + 1 + 1)) (by omega) 5 [.int .u8 y5, .int .u32 y6, .int .u8 y7, .int .i64 y8])
  clear T4 Z4 hR hT HT3 HZ3 hr3
  go_wp2_with fail
  generalize hX : (World.setCell (World.setCell (World.setCell (World.setCell w4 _ _) _ _) _ _) _ _) = X4
  rw [show World.setCells w4 (w.heap.size + 1 + 1) 5 [.int .u8 y5, .int .u32 y6, .int .u8 y7, .int .i64 y8] = X4 from hX] at HT4 HZ4
  clear hX s0 f0 s1 f1 s2 f2 s3 f3
  obtain ⟨B4, m4, d4, hr4⟩ := HT4.out.rd
  refine (number_of 1 1 y9 w (w.heap.size + 1) B4 m4 d4 (l.drop 23) rfl (by omega) H9 _ hr4).mono ?_
  rintro e w5 ⟨rfl, hR, hT⟩
  simp only [List.drop_drop, Nat.reduceAdd] at hR
  have T5 := HT4.out.turn hT hR
  have Z5 := HZ4.out.turn hT (by omega)
  have s0 := T5.bx.c9
  have f0 := T5.th.at_ 9 (by omega)
  have HT5 := hid (T5.sets 9 [.int .i64 y9] (set_fm T5.bx T5.th y9))
  have HZ5 := hid (Z5.sets2 (b := (w.heap.size + 1 + 1)) (by omega) 9 [.int .i64 y9])
  clear T5 Z5 hR hT HT4 HZ4 hr4
  have HB := hid (HT5.out.bx)
  have c0 := HB.out.c0
  have c9 := HB.out.c9
  clear HB
  generalize hX : World.setCells w5 (w.heap.size + 1 + 1) 9 [.int .i64 y9] = X5 at HT5 HZ5 c0 c9
  have hX' : World.setCell w5 ⟨(w.heap.size + 1 + 1), 9, none⟩ (.int .i64 y9) = X5 := hX
  go_wp2_with (fail)
  clear hX hX' c9 s0 f0
  obtain ⟨v, hv⟩ : ∃ v, szO y0 y9 = v := ⟨_, rfl⟩
  refine (size_of v y0 y9 (hid hv) _).mono ?_
  rintro e w6 ⟨rfl, rfl⟩
  have HH2 := HH.out
  rw [rdTail, hv] at HH2
  by_cases hv0 : v = 0
  · rw [if_pos hv0] at HH2
    subst hv0
    have hOe : O = ⟨y0, y1, y2, y3, y4, y5, y6, y7, y8, y9, 0, 0, 0, 0, 0, 0, []⟩ := HH2.symm
    subst hOe
    have HZ := HZ5
    have HX := HT5
    clear HZ5 HT5 HH HH2 hv c0
    go_wp2_with (first
      | (refine wpList_load_o rfl (.tmp 4) rfl _ rfl HX.out.bx ?_)
      | (refine wpList_store_o rfl (.tmp 2) (.tmp 44) rfl w.heap.size rfl ⟨y0, y1, y2, y3, y4, y5, y6, y7, y8, y9, 0, 0, 0, 0, 0, 0, []⟩ none 0 0 rfl HZ.out w.heap.size (Nat.le_refl _) ?_; intro w9 bx9 th9 b9 hh9 sz9))
    exact bodyPost_ret (results_o rfl rfl bx9) rfl ⟨none, 0, 0, rfl, rfl, OwnI.nil _ _ _, by obtain ⟨B7, m7, d7, hr7⟩ := HX.out.rd; exact hr7.old.trans b9⟩

  rw [if_neg hv0] at HH2
  have hm : 1 ≤ y9 ∧ y9 ≤ 64 ∧ (y0 = 1 ∨ y0 = 2 ∨ y0 = 3) ∧ 0 < v := by
    rw [szO] at hv
    split at hv
    · rename_i hm
      refine ⟨hm.1, hm.2, ?_, ?_⟩ <;> (split at hv; · first | omega | exact .inl (by assumption))
      all_goals (split at hv; · first | omega | exact .inr (.inl (by assumption)))
      all_goals (split at hv; · first | omega | exact .inr (.inr (by assumption)))
      all_goals omega
    · omega
  obtain ⟨hm1, hm2, hk, hvp⟩ := hm
  obtain ⟨M, hM⟩ : ∃ M : Nat, (M : Int) = y9 := ⟨y9.toNat, by omega⟩
  have hM5 : M ≤ 64 := by omega
  have HM := hid hM
  have hMt : y9.toNat = M := by omega
  rw [hMt] at HH2
  have hlt5 := HT5.out.lt
  have hS0 : X5.drew.cell? ⟨(w.heap.size + 1 + 1), 0, none⟩ = some (.int .u8 y0) := c0
  clear hM hv hv0 HH hMt hm1 hm2 y90 y01
  have S := True.intro
  rcases hk with hk | hk | hk
  · have HK := hid hk
    rw [if_pos hk] at HH2
    obtain ⟨q3, x0, x1, x5, x6, hx⟩ : ∃ q3 x0 x1 x5 x6, okI ((l.drop 24).take 13) = q3 ∧ pick q3 (gL ((l.drop 24).take 13)) = x0 ∧ pick q3 (gC ((l.drop 24).take 13)) = x1 ∧ pick q3 (gK ((l.drop 24).take 13)) = x5 ∧ pick q3 (gN ((l.drop 24).take 13)) = x6 := ⟨_, _, _, _, _, rfl, rfl, rfl, rfl, rfl⟩
    obtain ⟨r, k, hr2⟩ : ∃ r k, getV (((l.drop 24).drop 13).take (4 * M)) = r ∧ r.length = k := ⟨_, _, rfl, rfl⟩
    rw [hx.1, hx.2.1, hx.2.2.1, hx.2.2.2.1, hx.2.2.2.2, hr2.1] at HH2
    have hOe : O = ⟨y0, y1, y2, y3, y4, y5, y6, y7, y8, y9, x0, x1, x5, x6, 0, 0, r⟩ := HH2.symm
    have HX1 := hid hx
    have HR1 := hid hr2
    subst hOe
    clear hx hr2 HH2 hk
    go_wp2_with fail
    refine wp_region_held_drew (S := fun w' => w'.cell? ⟨(w.heap.size + 1 + 1), 0, none⟩ = some (.int .u8 y0)) (by kernel_rfl) hS0 (fun hHeld => ?_)
    refine wpAnyH_take (i := 0) (v := ?_) rfl (by kernel_rfl) (by kernel_rfl) (by kernel_rfl) (fun _ _ _ h => h) (Or.inl ⟨by rfl, ?_⟩) hHeld ?_
    rotate_left
    · intro w' hSw
      (try dsimp only at hSw)
      go_simp <;> with_reducible rfl
    (try simp only [Act.put, List.setIfInBounds_toArray, List.set_cons_zero, List.set_cons_succ])
    refine wpAnyH_take (i := 1) (v := ?_) rfl (by kernel_rfl) (by kernel_rfl) (by kernel_rfl) (fun _ _ _ h => h) (Or.inl ⟨by rfl, ?_⟩) hHeld ?_
    rotate_left
    · intro w' hSw
      (try dsimp only at hSw)
      go_simp <;> with_reducible rfl
    (try simp only [Act.put, List.setIfInBounds_toArray, List.set_cons_zero, List.set_cons_succ])
    refine wpAnyH_take (i := 2) (v := ?_) rfl (by kernel_rfl) (by kernel_rfl) (by kernel_rfl) (fun _ _ _ h => h) (Or.inl ⟨by rfl, ?_⟩) hHeld ?_
    rotate_left
    · intro w' hSw
      (try dsimp only at hSw)
      go_simp <;> with_reducible rfl
    (try simp only [Act.put, List.setIfInBounds_toArray, List.set_cons_zero, List.set_cons_succ])
    refine wpAnyH_take (i := 3) (v := ?_) rfl (by kernel_rfl) (by kernel_rfl) (by kernel_rfl) (fun _ _ _ h => h) (Or.inl ⟨by rfl, ?_⟩) hHeld ?_
    rotate_left
    · intro w' hSw
      (try dsimp only at hSw)
      go_simp <;> with_reducible rfl
    (try simp only [Act.put, List.setIfInBounds_toArray, List.set_cons_zero, List.set_cons_succ])
    refine wpAnyH_take (i := 4) (v := ?_) rfl (by kernel_rfl) (by kernel_rfl) (by kernel_rfl) (fun _ _ _ h => h) (Or.inl ⟨by rfl, ?_⟩) hHeld ?_
    rotate_left
    · intro w' hSw
      (try dsimp only at hSw)
      go_simp <;> with_reducible rfl
    (try simp only [Act.put, List.setIfInBounds_toArray, List.set_cons_zero, List.set_cons_succ])
    refine wpAnyH_take (i := 5) (v := ?_) rfl (by kernel_rfl) (by kernel_rfl) (by kernel_rfl) (fun _ _ _ h => h) (Or.inl ⟨by rfl, ?_⟩) hHeld ?_
    rotate_left
    · intro w' hSw
      (try dsimp only at hSw)
      go_simp <;> with_reducible rfl
    (try simp only [Act.put, List.setIfInBounds_toArray, List.set_cons_zero, List.set_cons_succ])
    refine wpAnyH_take (i := 7) (v := ?_) rfl (by kernel_rfl) (by kernel_rfl) (by kernel_rfl) (fun _ _ _ h => h) (Or.inl ⟨by rfl, ?_⟩) hHeld ?_
    rotate_left
    · intro w' hSw
      (try dsimp only at hSw)
      go_simp <;> with_reducible rfl
    (try simp only [Act.put, List.setIfInBounds_toArray, List.set_cons_zero, List.set_cons_succ])
    refine wpAnyH_take (i := 8) (v := ?_) rfl (by kernel_rfl) (by kernel_rfl) (by kernel_rfl) (fun _ _ _ h => h) (Or.inl ⟨by rfl, ?_⟩) hHeld ?_
    rotate_left
    · intro w' hSw
      (try dsimp only at hSw)
      go_simp <;> with_reducible rfl
    (try simp only [Act.put, List.setIfInBounds_toArray, List.set_cons_zero, List.set_cons_succ])
    refine wpAnyH_ready (rs := [6]) (by kernel_rfl) (by simp) ?_
    refine AllReadyH.cons rfl (fun K hK => ?_) AllReadyH.nil
    go_simp
    go_wp2_with (go_at_call 133; refine (takers_any (w.heap.size + 1) (w.heap.size + 1 + 1) X5.drew (by exact Nat.lt_of_succ_lt hlt5) hlt5).mono ?_; rintro e w7 ⟨h0, h1, h2, h3, rfl, hTk, b7⟩)
    have HT7 := hid (HT5.out.drew.keep b7)
    have HZ7 := hid (HZ5.out.keep (((Below.refl _ X5).drew).trans b7))
    have hs7 : X5.heap.size ≤ w7.heap.size := b7.size
    refine hK.out _ _ HT7.out.bx.c0 (fun hHeld2 => ?_)
    clear hK K hHeld
    refine wpAnyH_take (i := 9) (v := .func (.func 153) #[] #[.pointer (some ⟨h1, 0, none⟩), .pointer (some ⟨h0, 0, none⟩), .pointer (some ⟨h2, 0, none⟩)]) rfl (by kernel_rfl) (by kernel_rfl) (by kernel_rfl) (fun _ _ _ h => h) (Or.inl ⟨by rfl, ?_⟩) hHeld2 ?_
    · intro w' hSw
      have hk9 := HK.out
      have hix := index_74 w'
      go_simp
    (try simp only [Act.put, List.setIfInBounds_toArray, List.set_cons_zero, List.set_cons_succ])
    refine wpAnyH_ready (rs := [10]) (by kernel_rfl) (by simp) ?_
    refine AllReadyH.cons rfl (fun K hK => ?_) AllReadyH.nil
    go_simp
    go_wp2_with (go_at_call 153; refine (takers1_of q3 x0 x1 x5 x6 r M k (w.heap.size + 1) (w.heap.size + 1 + 1) h0 h1 h2 h3 w (l.drop 24) ⟨y0, y1, y2, y3, y4, y5, y6, y7, y8, y9, 0, 0, 0, 0, 0, 0, []⟩ none 0 0 HX1 HR1 HM hM5 _ HT7.out hTk).mono ?_; rintro e w8 ⟨rfl, ⟨A', c', hTw, hOwn⟩, hU⟩)
    have HX := hid hTw
    have HZ := hid (HZ7.out.turn2 hU (by omega) (by omega))
    have HW := hid hOwn
    refine hK.out _ _ HX.out.bx.c0 (fun hHeld3 => ?_)
    clear hK K hHeld2
    refine wpAnyH_done (by kernel_rfl) ?_ _
    clear hHeld3
    go_simp
    go_wp2_with (first
      | (refine wpList_load_o rfl (.tmp 4) rfl _ rfl HX.out.bx ?_)
      | (refine wpList_store_o rfl (.tmp 2) (.tmp 44) rfl w.heap.size rfl ⟨y0, y1, y2, y3, y4, y5, y6, y7, y8, y9, x0, x1, x5, x6, 0, 0, r⟩ A' k c' rfl HZ.out w.heap.size (Nat.le_refl _) ?_; intro w9 bx9 th9 b9 hh9 sz9))
    exact bodyPost_ret (results_o rfl rfl bx9) rfl ⟨A', k, c', rfl, HR1.out.2, (HW.out.other hh9 (by omega)).base (by omega), by obtain ⟨B7, m7, d7, hr7⟩ := HX.out.rd; exact hr7.old.trans b9⟩
  · have HK := hid hk
    rw [if_neg (by omega), if_neg (by omega)] at HH2
    have hOe : O = ⟨y0, y1, y2, y3, y4, y5, y6, y7, y8, y9, 0, 0, 0, 0, 0, 0, []⟩ := HH2.symm
    subst hOe
    clear HH2 hk
    go_wp2_with fail
    refine wp_region_held_drew (S := fun w' => w'.cell? ⟨(w.heap.size + 1 + 1), 0, none⟩ = some (.int .u8 y0)) (by kernel_rfl) hS0 (fun hHeld => ?_)
    refine wpAnyH_take (i := 0) (v := ?_) rfl (by kernel_rfl) (by kernel_rfl) (by kernel_rfl) (fun _ _ _ h => h) (Or.inl ⟨by rfl, ?_⟩) hHeld ?_
    rotate_left
    · intro w' hSw
      (try dsimp only at hSw)
      go_simp <;> with_reducible rfl
    (try simp only [Act.put, List.setIfInBounds_toArray, List.set_cons_zero, List.set_cons_succ])
    refine wpAnyH_take (i := 1) (v := ?_) rfl (by kernel_rfl) (by kernel_rfl) (by kernel_rfl) (fun _ _ _ h => h) (Or.inl ⟨by rfl, ?_⟩) hHeld ?_
    rotate_left
    · intro w' hSw
      (try dsimp only at hSw)
      go_simp <;> with_reducible rfl
    (try simp only [Act.put, List.setIfInBounds_toArray, List.set_cons_zero, List.set_cons_succ])
    refine wpAnyH_take (i := 2) (v := ?_) rfl (by kernel_rfl) (by kernel_rfl) (by kernel_rfl) (fun _ _ _ h => h) (Or.inl ⟨by rfl, ?_⟩) hHeld ?_
    rotate_left
    · intro w' hSw
      (try dsimp only at hSw)
      go_simp <;> with_reducible rfl
    (try simp only [Act.put, List.setIfInBounds_toArray, List.set_cons_zero, List.set_cons_succ])
    refine wpAnyH_take (i := 3) (v := ?_) rfl (by kernel_rfl) (by kernel_rfl) (by kernel_rfl) (fun _ _ _ h => h) (Or.inl ⟨by rfl, ?_⟩) hHeld ?_
    rotate_left
    · intro w' hSw
      (try dsimp only at hSw)
      go_simp <;> with_reducible rfl
    (try simp only [Act.put, List.setIfInBounds_toArray, List.set_cons_zero, List.set_cons_succ])
    refine wpAnyH_take (i := 4) (v := ?_) rfl (by kernel_rfl) (by kernel_rfl) (by kernel_rfl) (fun _ _ _ h => h) (Or.inl ⟨by rfl, ?_⟩) hHeld ?_
    rotate_left
    · intro w' hSw
      (try dsimp only at hSw)
      go_simp <;> with_reducible rfl
    (try simp only [Act.put, List.setIfInBounds_toArray, List.set_cons_zero, List.set_cons_succ])
    refine wpAnyH_take (i := 5) (v := ?_) rfl (by kernel_rfl) (by kernel_rfl) (by kernel_rfl) (fun _ _ _ h => h) (Or.inl ⟨by rfl, ?_⟩) hHeld ?_
    rotate_left
    · intro w' hSw
      (try dsimp only at hSw)
      go_simp <;> with_reducible rfl
    (try simp only [Act.put, List.setIfInBounds_toArray, List.set_cons_zero, List.set_cons_succ])
    refine wpAnyH_take (i := 7) (v := ?_) rfl (by kernel_rfl) (by kernel_rfl) (by kernel_rfl) (fun _ _ _ h => h) (Or.inl ⟨by rfl, ?_⟩) hHeld ?_
    rotate_left
    · intro w' hSw
      (try dsimp only at hSw)
      go_simp <;> with_reducible rfl
    (try simp only [Act.put, List.setIfInBounds_toArray, List.set_cons_zero, List.set_cons_succ])
    refine wpAnyH_take (i := 8) (v := ?_) rfl (by kernel_rfl) (by kernel_rfl) (by kernel_rfl) (fun _ _ _ h => h) (Or.inl ⟨by rfl, ?_⟩) hHeld ?_
    rotate_left
    · intro w' hSw
      (try dsimp only at hSw)
      go_simp <;> with_reducible rfl
    (try simp only [Act.put, List.setIfInBounds_toArray, List.set_cons_zero, List.set_cons_succ])
    refine wpAnyH_ready (rs := [6]) (by kernel_rfl) (by simp) ?_
    refine AllReadyH.cons rfl (fun K hK => ?_) AllReadyH.nil
    go_simp
    go_wp2_with (go_at_call 133; refine (takers_any (w.heap.size + 1) (w.heap.size + 1 + 1) X5.drew (by exact Nat.lt_of_succ_lt hlt5) hlt5).mono ?_; rintro e w7 ⟨h0, h1, h2, h3, rfl, hTk, b7⟩)
    have HT7 := hid (HT5.out.drew.keep b7)
    have HZ7 := hid (HZ5.out.keep (((Below.refl _ X5).drew).trans b7))
    have hs7 : X5.heap.size ≤ w7.heap.size := b7.size
    refine hK.out _ _ HT7.out.bx.c0 (fun hHeld2 => ?_)
    clear hK K hHeld
    refine wpAnyH_take (i := 9) (v := .func (.func 154) #[] #[]) rfl (by kernel_rfl) (by kernel_rfl) (by kernel_rfl) (fun _ _ _ h => h) (Or.inl ⟨by rfl, ?_⟩) hHeld2 ?_
    · intro w' hSw
      have hk9 := HK.out
      have hix := index_74 w'
      go_simp
    (try simp only [Act.put, List.setIfInBounds_toArray, List.set_cons_zero, List.set_cons_succ])
    refine wpAnyH_ready (rs := [10]) (by kernel_rfl) (by simp) ?_
    refine AllReadyH.cons rfl (fun K hK => ?_) AllReadyH.nil
    go_simp
    go_wp2_with (go_at_call 154; refine (takers2_any _).mono ?_; rintro e w8 ⟨rfl, rfl⟩)
    have HX := HT7
    have HZ := HZ7
    refine hK.out _ _ HX.out.bx.c0 (fun hHeld3 => ?_)
    clear hK K hHeld2
    refine wpAnyH_done (by kernel_rfl) ?_ _
    clear hHeld3
    go_simp
    go_wp2_with (first
      | (refine wpList_load_o rfl (.tmp 4) rfl _ rfl HX.out.bx ?_)
      | (refine wpList_store_o rfl (.tmp 2) (.tmp 44) rfl w.heap.size rfl ⟨y0, y1, y2, y3, y4, y5, y6, y7, y8, y9, 0, 0, 0, 0, 0, 0, []⟩ none 0 0 rfl HZ.out w.heap.size (Nat.le_refl _) ?_; intro w9 bx9 th9 b9 hh9 sz9))
    exact bodyPost_ret (results_o rfl rfl bx9) rfl ⟨none, 0, 0, rfl, rfl, OwnI.nil _ _ _, by obtain ⟨B7, m7, d7, hr7⟩ := HX.out.rd; exact hr7.old.trans b9⟩
  · have HK := hid hk
    rw [if_neg (by omega), if_pos hk] at HH2
    obtain ⟨x, y, hx⟩ : ∃ x y, (vl ((l.drop 24).take 1) : Int) = x ∧ (vl (((l.drop 24).drop 1).take 4) : Int) = y := ⟨_, _, rfl, rfl⟩
    rw [hx.1, hx.2] at HH2
    have hOe : O = ⟨y0, y1, y2, y3, y4, y5, y6, y7, y8, y9, 0, 0, 0, 0, x, y, []⟩ := HH2.symm
    have HX1 := hid hx
    subst hOe
    clear hx HH2 hk
    go_wp2_with fail
    refine wp_region_held_drew (S := fun w' => w'.cell? ⟨(w.heap.size + 1 + 1), 0, none⟩ = some (.int .u8 y0)) (by kernel_rfl) hS0 (fun hHeld => ?_)
    refine wpAnyH_take (i := 0) (v := ?_) rfl (by kernel_rfl) (by kernel_rfl) (by kernel_rfl) (fun _ _ _ h => h) (Or.inl ⟨by rfl, ?_⟩) hHeld ?_
    rotate_left
    · intro w' hSw
      (try dsimp only at hSw)
      go_simp <;> with_reducible rfl
    (try simp only [Act.put, List.setIfInBounds_toArray, List.set_cons_zero, List.set_cons_succ])
    refine wpAnyH_take (i := 1) (v := ?_) rfl (by kernel_rfl) (by kernel_rfl) (by kernel_rfl) (fun _ _ _ h => h) (Or.inl ⟨by rfl, ?_⟩) hHeld ?_
    rotate_left
    · intro w' hSw
      (try dsimp only at hSw)
      go_simp <;> with_reducible rfl
    (try simp only [Act.put, List.setIfInBounds_toArray, List.set_cons_zero, List.set_cons_succ])
    refine wpAnyH_take (i := 2) (v := ?_) rfl (by kernel_rfl) (by kernel_rfl) (by kernel_rfl) (fun _ _ _ h => h) (Or.inl ⟨by rfl, ?_⟩) hHeld ?_
    rotate_left
    · intro w' hSw
      (try dsimp only at hSw)
      go_simp <;> with_reducible rfl
    (try simp only [Act.put, List.setIfInBounds_toArray, List.set_cons_zero, List.set_cons_succ])
    refine wpAnyH_take (i := 3) (v := ?_) rfl (by kernel_rfl) (by kernel_rfl) (by kernel_rfl) (fun _ _ _ h => h) (Or.inl ⟨by rfl, ?_⟩) hHeld ?_
    rotate_left
    · intro w' hSw
      (try dsimp only at hSw)
      go_simp <;> with_reducible rfl
    (try simp only [Act.put, List.setIfInBounds_toArray, List.set_cons_zero, List.set_cons_succ])
    refine wpAnyH_take (i := 4) (v := ?_) rfl (by kernel_rfl) (by kernel_rfl) (by kernel_rfl) (fun _ _ _ h => h) (Or.inl ⟨by rfl, ?_⟩) hHeld ?_
    rotate_left
    · intro w' hSw
      (try dsimp only at hSw)
      go_simp <;> with_reducible rfl
    (try simp only [Act.put, List.setIfInBounds_toArray, List.set_cons_zero, List.set_cons_succ])
    refine wpAnyH_take (i := 5) (v := ?_) rfl (by kernel_rfl) (by kernel_rfl) (by kernel_rfl) (fun _ _ _ h => h) (Or.inl ⟨by rfl, ?_⟩) hHeld ?_
    rotate_left
    · intro w' hSw
      (try dsimp only at hSw)
      go_simp <;> with_reducible rfl
    (try simp only [Act.put, List.setIfInBounds_toArray, List.set_cons_zero, List.set_cons_succ])
    refine wpAnyH_take (i := 7) (v := ?_) rfl (by kernel_rfl) (by kernel_rfl) (by kernel_rfl) (fun _ _ _ h => h) (Or.inl ⟨by rfl, ?_⟩) hHeld ?_
    rotate_left
    · intro w' hSw
      (try dsimp only at hSw)
      go_simp <;> with_reducible rfl
    (try simp only [Act.put, List.setIfInBounds_toArray, List.set_cons_zero, List.set_cons_succ])
    refine wpAnyH_take (i := 8) (v := ?_) rfl (by kernel_rfl) (by kernel_rfl) (by kernel_rfl) (fun _ _ _ h => h) (Or.inl ⟨by rfl, ?_⟩) hHeld ?_
    rotate_left
    · intro w' hSw
      (try dsimp only at hSw)
      go_simp <;> with_reducible rfl
    (try simp only [Act.put, List.setIfInBounds_toArray, List.set_cons_zero, List.set_cons_succ])
    refine wpAnyH_ready (rs := [6]) (by kernel_rfl) (by simp) ?_
    refine AllReadyH.cons rfl (fun K hK => ?_) AllReadyH.nil
    go_simp
    go_wp2_with (go_at_call 133; refine (takers_any (w.heap.size + 1) (w.heap.size + 1 + 1) X5.drew (by exact Nat.lt_of_succ_lt hlt5) hlt5).mono ?_; rintro e w7 ⟨h0, h1, h2, h3, rfl, hTk, b7⟩)
    have HT7 := hid (HT5.out.drew.keep b7)
    have HZ7 := hid (HZ5.out.keep (((Below.refl _ X5).drew).trans b7))
    have hs7 : X5.heap.size ≤ w7.heap.size := b7.size
    refine hK.out _ _ HT7.out.bx.c0 (fun hHeld2 => ?_)
    clear hK K hHeld
    refine wpAnyH_take (i := 9) (v := .func (.func 155) #[] #[.pointer (some ⟨h3, 0, none⟩), .pointer (some ⟨h0, 0, none⟩)]) rfl (by kernel_rfl) (by kernel_rfl) (by kernel_rfl) (fun _ _ _ h => h) (Or.inl ⟨by rfl, ?_⟩) hHeld2 ?_
    · intro w' hSw
      have hk9 := HK.out
      have hix := index_74 w'
      go_simp
    (try simp only [Act.put, List.setIfInBounds_toArray, List.set_cons_zero, List.set_cons_succ])
    refine wpAnyH_ready (rs := [10]) (by kernel_rfl) (by simp) ?_
    refine AllReadyH.cons rfl (fun K hK => ?_) AllReadyH.nil
    go_simp
    go_wp2_with (go_at_call 155; refine (takers3_of x y (w.heap.size + 1) (w.heap.size + 1 + 1) h0 h1 h2 h3 w (l.drop 24) ⟨y0, y1, y2, y3, y4, y5, y6, y7, y8, y9, 0, 0, 0, 0, 0, 0, []⟩ none 0 0 HX1 _ HT7.out hTk).mono ?_; rintro e w8 ⟨rfl, hTw, hU⟩)
    have HX := hid hTw
    have HZ := hid (HZ7.out.turn2 hU (by omega) (by omega))
    refine hK.out _ _ HX.out.bx.c0 (fun hHeld3 => ?_)
    clear hK K hHeld2
    refine wpAnyH_done (by kernel_rfl) ?_ _
    clear hHeld3
    go_simp
    go_wp2_with (first
      | (refine wpList_load_o rfl (.tmp 4) rfl _ rfl HX.out.bx ?_)
      | (refine wpList_store_o rfl (.tmp 2) (.tmp 44) rfl w.heap.size rfl ⟨y0, y1, y2, y3, y4, y5, y6, y7, y8, y9, 0, 0, 0, 0, x, y, []⟩ none 0 0 rfl HZ.out w.heap.size (Nat.le_refl _) ?_; intro w9 bx9 th9 b9 hh9 sz9))
    exact bodyPost_ret (results_o rfl rfl bx9) rfl ⟨none, 0, 0, rfl, rfl, OwnI.nil _ _ _, by obtain ⟨B7, m7, d7, hr7⟩ := HX.out.rd; exact hr7.old.trans b9⟩
end Go.Proofs.YtndmblhkmgnpcaaGreat
