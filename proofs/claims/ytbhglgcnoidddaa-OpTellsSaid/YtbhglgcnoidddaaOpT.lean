/-
  The closures that take what stands behind an operation's span.
-/
import Derived.Test.YtbhglgcnoidddaaOpS
import Derived.Test.YtbhglgcnoidddaaOpL
import Derived.Deep.RegionHeld
namespace Go.Proofs.Ytbhglgcnoidddaa
open Go.RowKit
set_option linter.unusedVariables false
set_option linter.unusedSimpArgs false


/-- The boxes that the closures of takers hold: the operation's pointer, and what takes an id, a row, a label. -/
structure Tak (W : World) (g b h0 h1 h2 h3 : Nat) : Prop where
  c0 : W.cell? ⟨h0, 0, none⟩ = some (.pointer (some ⟨b, 0, none⟩))
  c1 : W.cell? ⟨h1, 0, none⟩ = some (.func (.func 42) #[.pointer (some ⟨g, 0, none⟩)] #[])
  c2 : W.cell? ⟨h2, 0, none⟩ = some (.func (.func 44) #[.pointer (some ⟨g, 0, none⟩)] #[])
  c3 : W.cell? ⟨h3, 0, none⟩ = some (.func (.func 45) #[.pointer (some ⟨g, 0, none⟩)] #[])
  n0 : h0 ≠ g ∧ h0 ≠ b
  n1 : h1 ≠ g ∧ h1 ≠ b
  n2 : h2 ≠ g ∧ h2 ≠ b
  n3 : h3 ≠ g ∧ h3 ≠ b
theorem Tak.turn {W W' : World} {g b h0 h1 h2 h3 : Nat} (h : Tak W g b h0 h1 h2 h3) (hT : Turn g W W') : Tak W' g b h0 h1 h2 h3 :=
  ⟨hT.cell (p := ⟨h0, 0, none⟩) h.n0.1 h.c0, hT.cell (p := ⟨h1, 0, none⟩) h.n1.1 h.c1, hT.cell (p := ⟨h2, 0, none⟩) h.n2.1 h.c2, hT.cell (p := ⟨h3, 0, none⟩) h.n3.1 h.c3, h.n0, h.n1, h.n2, h.n3⟩
theorem Tak.sets {W : World} {g b h0 h1 h2 h3 : Nat} (h : Tak W g b h0 h1 h2 h3) (off : Nat) (vs : List Value) : Tak (W.setCells b off vs) g b h0 h1 h2 h3 :=
  ⟨cell_other (fun k hk => heap_setCells b vs off W k hk) (p := ⟨h0, 0, none⟩) h.n0.2 h.c0, cell_other (fun k hk => heap_setCells b vs off W k hk) (p := ⟨h1, 0, none⟩) h.n1.2 h.c1, cell_other (fun k hk => heap_setCells b vs off W k hk) (p := ⟨h2, 0, none⟩) h.n2.2 h.c2, cell_other (fun k hk => heap_setCells b vs off W k hk) (p := ⟨h3, 0, none⟩) h.n3.2 h.c3, h.n0, h.n1, h.n2, h.n3⟩
theorem Tak.drew {W : World} {g b h0 h1 h2 h3 : Nat} (h : Tak W g b h0 h1 h2 h3) : Tak W.drew g b h0 h1 h2 h3 := ⟨h.c0, h.c1, h.c2, h.c3, h.n0, h.n1, h.n2, h.n3⟩
/-- What is left as it was but for the two boxes. -/
structure Turn2 (g b : Nat) (w w' : World) : Prop where
  size : w.heap.size ≤ w'.heap.size
  heap : ∀ k, k < w.heap.size → k ≠ g → k ≠ b → w'.heap[k]? = w.heap[k]?
theorem Turn2.refl (g b : Nat) (w : World) : Turn2 g b w w := ⟨Nat.le_refl _, fun _ _ _ _ => rfl⟩
theorem Turn2.drew {g b : Nat} {w w' : World} (h : Turn2 g b w w') : Turn2 g b w w'.drew := ⟨h.size, h.heap⟩
theorem Turn2.turn {g b : Nat} {w a c : World} (h : Turn2 g b w a) (k : Turn g a c) : Turn2 g b w c :=
  ⟨Nat.le_trans h.size k.size, fun i hi hg hb => (k.heap i (Nat.lt_of_lt_of_le hi h.size) hg).trans (h.heap i hi hg hb)⟩
theorem Turn2.sets {g b : Nat} {w a : World} (h : Turn2 g b w a) (off : Nat) (vs : List Value) : Turn2 g b w (a.setCells b off vs) :=
  ⟨by rw [size_setCells]; exact h.size, fun i hi hg hb => (heap_setCells b vs off a i hb).trans (h.heap i hi hg hb)⟩

set_option maxRecDepth 100000 in
set_option maxHeartbeats 800000 in
theorem takers_any (g b : Nat) (w : World) (hg : g < w.heap.size) (hb : b < w.heap.size) :
    Calls Try.prog 43 #[.pointer (some ⟨b, 0, none⟩), .func (.func 42) #[.pointer (some ⟨g, 0, none⟩)] #[], .func (.func 44) #[.pointer (some ⟨g, 0, none⟩)] #[], .func (.func 45) #[.pointer (some ⟨g, 0, none⟩)] #[]] w fun e w' => ∃ h0 h1 h2 h3, e = .returned (.agg #[.nilFunc, .func (.func 76) #[] #[.pointer (some ⟨h1, 0, none⟩), .pointer (some ⟨h0, 0, none⟩), .pointer (some ⟨h2, 0, none⟩)], .func (.func 77) #[] #[], .func (.func 78) #[] #[.pointer (some ⟨h3, 0, none⟩), .pointer (some ⟨h0, 0, none⟩)]]) ∧ Tak w' g b h0 h1 h2 h3 ∧ Below w.heap.size w w' := by
  have hi : (Try.prog.info? 74).map (·.size) = some 4 := by kernel_rfl
  obtain ⟨X, hX⟩ : ∃ X, X = (((w.alloc (.cells #[.pointer (some ⟨b, 0, none⟩)] 76)).alloc (.cells #[.func (.func 42) #[.pointer (some ⟨g, 0, none⟩)] #[]] 29)).alloc (.cells #[.func (.func 44) #[.pointer (some ⟨g, 0, none⟩)] #[]] 77)).alloc (.cells #[.func (.func 45) #[.pointer (some ⟨g, 0, none⟩)] #[]] 78) := ⟨_, rfl⟩
  have ht := there4_new X .nilFunc .nilFunc .nilFunc .nilFunc 74
  have hbX : Below w.heap.size w X := by rw [hX]; go_grown
  have hs : X.heap.size = w.heap.size + 1 + 1 + 1 + 1 := by rw [hX]; simp
  have k0 : (X.alloc (.cells #[.nilFunc, .nilFunc, .nilFunc, .nilFunc] 74)).cell? ⟨w.heap.size, 0, none⟩ = some (.pointer (some ⟨b, 0, none⟩)) := by rw [hX]; simp [go_sem]
  have k1 : (X.alloc (.cells #[.nilFunc, .nilFunc, .nilFunc, .nilFunc] 74)).cell? ⟨w.heap.size + 1, 0, none⟩ = some (.func (.func 42) #[.pointer (some ⟨g, 0, none⟩)] #[]) := by rw [hX]; simp [go_sem]
  have k2 : (X.alloc (.cells #[.nilFunc, .nilFunc, .nilFunc, .nilFunc] 74)).cell? ⟨w.heap.size + 1 + 1, 0, none⟩ = some (.func (.func 44) #[.pointer (some ⟨g, 0, none⟩)] #[]) := by rw [hX]; simp [go_sem]
  have k3 : (X.alloc (.cells #[.nilFunc, .nilFunc, .nilFunc, .nilFunc] 74)).cell? ⟨w.heap.size + 1 + 1 + 1, 0, none⟩ = some (.func (.func 45) #[.pointer (some ⟨g, 0, none⟩)] #[]) := by rw [hX]; simp [go_sem]
  have hbY : Below w.heap.size w (X.alloc (.cells #[.nilFunc, .nilFunc, .nilFunc, .nilFunc] 74)) := below_al hbX _
  rw [hs] at ht
  subst hX
  have H := hid (show _ ∧ _ ∧ _ ∧ _ ∧ _ ∧ _ from ⟨ht, k0, k1, k2, k3, hbY⟩)
  clear ht k0 k1 k2 k3 hbX hbY hs
  go_enter Try.func43, Try.ntmps43
  go_wp2_with (refine wpList_store_4 rfl 74 _ Try.underlying74 rfl hi (.tmp 8) (.tmp 11) rfl _ rfl _ _ _ _ rfl (by simp [Value.oneCell']) H.out.1 w.heap.size (by omega) ?_; intro w1 s0 s1 s2 s3 b1 hh)
  exact bodyPost_ret (v := .agg #[.nilFunc, .func (.func 76) #[] #[.pointer (some ⟨w.heap.size + 1, 0, none⟩), .pointer (some ⟨w.heap.size, 0, none⟩), .pointer (some ⟨w.heap.size + 1 + 1, 0, none⟩)], .func (.func 77) #[] #[], .func (.func 78) #[] #[.pointer (some ⟨w.heap.size + 1 + 1 + 1, 0, none⟩), .pointer (some ⟨w.heap.size, 0, none⟩)]]) (by simp [results, Try.results43, go_sem, s0, s1, s2, s3]) rfl
    ⟨w.heap.size, w.heap.size + 1, w.heap.size + 1 + 1, w.heap.size + 1 + 1 + 1, rfl, ⟨cell_other hh (p := ⟨w.heap.size, 0, none⟩) (by simp; omega) H.out.2.1, cell_other hh (p := ⟨w.heap.size + 1, 0, none⟩) (by simp) H.out.2.2.1, cell_other hh (p := ⟨w.heap.size + 1 + 1, 0, none⟩) (by simp) H.out.2.2.2.1, cell_other hh (p := ⟨w.heap.size + 1 + 1 + 1, 0, none⟩) (by simp) H.out.2.2.2.2.1, by omega, by omega, by omega, by omega⟩, H.out.2.2.2.2.2.trans b1⟩

theorem Two.drew {w0 W : World} {g b : Nat} {l : List UInt8} {o : Opd} {A : Option Addr} {n c : Nat} (h : Two w0 W g b l o A n c) : Two w0 W.drew g b l o A n c := h.keep ((Below.refl _ _).drew)
theorem Two.lt {w0 W : World} {g b : Nat} {l : List UInt8} {o : Opd} {A : Option Addr} {n c : Nat} (h : Two w0 W g b l o A n c) : b < W.heap.size := World.block_lt_of_cell? W _ h.bx.c0

set_option maxRecDepth 100000 in
theorem takers2_any (w : World) :
    Calls Try.prog 77 #[] w fun e w' => e = .returned (.tuple #[]) ∧ w = w' := by
  go_enter Try.func77, Try.ntmps77
  go_wp2
  go_end0
  exact ⟨rfl, rfl⟩
end Go.Proofs.Ytbhglgcnoidddaa
