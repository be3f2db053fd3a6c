/-
  What the reader's other methods take: ids, rows, labels.
-/
import Derived.Test.YtbhglgcnoidddaaOpQ
namespace Go.Proofs.Ytbhglgcnoidddaa
open Go.RowKit
set_option linter.unusedVariables false
set_option linter.unusedSimpArgs false

/-- What lies from a block on lies from an elder one on. -/
theorem OwnI.base {w : World} {base base' : Nat} (hb : base' ≤ base) {e : TypeId} {A : Option Addr} {c : Nat} {l : List Int} (h : OwnI w base e A c l) : OwnI w base' e A c l := by
  obtain ⟨⟨h0, h1⟩, h2⟩ := h
  refine ⟨⟨h0, ?_⟩, h2⟩
  rcases h1 with h | ⟨g, cap, cur, hv, hbg, r⟩
  · exact .inl h
  · exact .inr ⟨g, cap, cur, hv, Nat.le_trans hb hbg, r⟩

set_option maxRecDepth 100000 in
set_option maxHeartbeats 1600000 in
theorem id_of (q : Bool) (x0 x1 x5 x6 : Int) (w0 : World) (g : Nat) (A : Option Addr) (n c : Nat) (l : List UInt8) (hx : Hid (okI (l.take 13) = q ∧ pick q (gL (l.take 13)) = x0 ∧ pick q (gC (l.take 13)) = x1 ∧ pick q (gK (l.take 13)) = x5 ∧ pick q (gN (l.take 13)) = x6)) (w : World) (hr : Rdr w0 w g A n c l) :
    Calls Try.prog 42 #[.pointer (some ⟨g, 0, none⟩)] w fun e w' => e = .returned (.agg #[.int .u8 x0, .int .u32 x1, .int .u8 x5, .int .i64 x6]) ∧ (∃ B m d, Rdr w0 w' g B m d (l.drop 13)) ∧ Turn g w w' := by
  obtain ⟨p, hp⟩ : ∃ p, (l.take 13).length = p := ⟨_, rfl⟩
  have HP := hid hp
  clear hp
  have hi : (Try.prog.info? 28).map (·.size) = some 4 := by kernel_rfl
  have hg := hr.lt
  have hfar := hr.far
  have hr' := hr.keep ((Below.refl _ _).alloc (Nat.le_refl _) (.cells #[.int .u8 0, .int .u32 0, .int .u8 0, .int .i64 0] 28))
  have ht := there_new w #[.int .u8 0, .int .u32 0, .int .u8 0, .int .i64 0] 28 4 rfl
  have hT0 : Turn g w (w.alloc (.cells #[.int .u8 0, .int .u32 0, .int .u8 0, .int .i64 0] 28)) := (Turn.below (Below.refl _ _) (Nat.le_of_lt hg)).alloc hg _
  have hs0 : (w.alloc (.cells #[.int .u8 0, .int .u32 0, .int .u8 0, .int .i64 0] 28)).heap.size = w.heap.size + 1 := by simp
  go_enter Try.func42, Try.ntmps42
  go_wp2_with fail
  refine (take_of 13 p 13 w0 g A n c l rfl HP _ hr').mono ?_
  rintro e w1 ⟨rfl, hr1, ⟨B, m, d, hR⟩, hT⟩
  have hT1 := hT0.trans hT
  have ht1 := there_turn ht hT (by omega)
  have hs1 := hT.size
  rw [hs0] at hs1
  clear hr hr' ht hT0 hT
  go_wp2_with fail
  refine (get_id q x0 x1 x5 x6 A p c (l.take 13) HP hx _ hr1).mono ?_
  rintro e w2 ⟨rfl, b2⟩
  replace hR := hR.keep b2
  have hT2 := hT1.trans (Turn.below b2 (by omega))
  have ht2 := there_keep ht1 b2
  have hs2 := b2.size
  have ht3 := there_new w2 #[.int .u8 0, .int .u32 0, .int .u8 0, .int .i64 0] 28 4 rfl
  have hR3 := hR.keep ((Below.refl _ _).alloc (Nat.le_refl _) (.cells #[.int .u8 0, .int .u32 0, .int .u8 0, .int .i64 0] 28))
  have hT3 := hT2.alloc hg (.cells #[.int .u8 0, .int .u32 0, .int .u8 0, .int .i64 0] 28)
  have ht4 := there_keep ht2 ((Below.refl _ _).alloc (Nat.le_refl _) (.cells #[.int .u8 0, .int .u32 0, .int .u8 0, .int .i64 0] 28))
  clear hr1 hT1 ht1 hR hT2 ht2 b2
  go_wp2_with (first
    | (refine wpList_store_n rfl 28 _ Try.underlying28 rfl [.int .u8 x0, .int .u32 x1, .int .u8 x5, .int .i64 x6] hi (.tmp 3) (.tmp 9) rfl w2.heap.size rfl rfl (by simp [Value.oneCell']) ht3 w2.heap.size (Nat.le_refl _) ?_; intro w3 r3 _ b3 h3 z3; have s0 : w3.cell? ⟨w2.heap.size, 0, none⟩ = _ := r3 0 _ rfl; have s1 : w3.cell? ⟨w2.heap.size, 1, none⟩ = _ := r3 1 _ rfl; have s2 : w3.cell? ⟨w2.heap.size, 2, none⟩ = _ := r3 2 _ rfl; have s3 : w3.cell? ⟨w2.heap.size, 3, none⟩ = _ := r3 3 _ rfl)
    | (refine wpList_store_n rfl 28 _ Try.underlying28 rfl [.int .u8 x0, .int .u32 x1, .int .u8 x5, .int .i64 x6] hi (.tmp 2) (.tmp 11) rfl w.heap.size rfl rfl (by simp [Value.oneCell']) (there_other ht4 h3 (by omega)) w.heap.size (Nat.le_refl _) ?_; intro w4 r4 _ b4 h4 z4; have u0 : w4.cell? ⟨w.heap.size, 0, none⟩ = _ := r4 0 _ rfl; have u1 : w4.cell? ⟨w.heap.size, 1, none⟩ = _ := r4 1 _ rfl; have u2 : w4.cell? ⟨w.heap.size, 2, none⟩ = _ := r4 2 _ rfl; have u3 : w4.cell? ⟨w.heap.size, 3, none⟩ = _ := r4 3 _ rfl))
  exact bodyPost_ret (v := .agg #[.int .u8 x0, .int .u32 x1, .int .u8 x5, .int .i64 x6]) (by simp [results, Try.results42, go_sem, u0, u1, u2, u3]) rfl ⟨rfl, ⟨B, m, d, (hR3.other h3 (by omega) (b3.mono (by omega))).other h4 (by omega) (b4.mono (by omega))⟩, (hT3.other h3 (by omega) (b3.mono (by omega))).other h4 (by omega) (b4.mono (by omega))⟩

set_option maxRecDepth 100000 in
set_option maxHeartbeats 1600000 in
theorem row_of (M : Nat) (m : Int) (w0 : World) (g : Nat) (A : Option Addr) (n c : Nat) (l : List UInt8) (hm : Hid ((M : Int) = m)) (hM : M ≤ 64) (w : World) (hr : Rdr w0 w g A n c l) :
    Calls Try.prog 44 #[.pointer (some ⟨g, 0, none⟩), .int .i64 m] w fun e w' => (∃ A' c', e = .returned (.slice A' (getV (l.take (4 * M))).length c') ∧ OwnI w' w.heap.size 21 A' c' (getV (l.take (4 * M)))) ∧ (∃ B m d, Rdr w0 w' g B m d (l.drop (4 * M))) ∧ Turn g w w' := by
  obtain ⟨p, hp⟩ : ∃ p, (l.take (4 * M)).length = p := ⟨_, rfl⟩
  have HP := hid hp
  obtain ⟨q, hq⟩ : ∃ q : Int, 4 * m = q := ⟨_, rfl⟩
  have m0 : 0 ≤ m := by rw [← hm.out]; omega
  have m1 : m ≤ 64 := by rw [← hm.out]; omega
  have hqk : q = ((4 * M : Nat) : Int) := by rw [← hq, ← hm.out]; omega
  have HQ := hid hqk
  have hg := hr.lt
  clear hp hqk
  go_enter Try.func44, Try.ntmps44
  go_wp2_with fail
  refine (take_of (4 * M) p q w0 g A n c l HQ.out HP _ hr).mono ?_
  rintro e w1 ⟨rfl, hr1, ⟨B, m', d, hR⟩, hT⟩
  go_wp2_with fail
  refine (rget_any A p c (l.take (4 * M)) HP _ hr1).mono ?_
  rintro e w2 ⟨A', c', rfl, ho, b2⟩
  have hR2 := hR.keep b2
  have hT2 := hT.trans (Turn.below b2 (by have := hT.size; omega))
  have ho2 := OwnI.base hT.size ho
  clear hR hT ho b2 hr1 hr
  go_wp2
  go_ret
  exact ⟨⟨A', c', rfl, ho2⟩, ⟨B, m', d, hR2⟩, hT2⟩

set_option maxRecDepth 100000 in
set_option maxHeartbeats 1600000 in
theorem label_of (x y : Int) (w0 : World) (g : Nat) (A : Option Addr) (n c : Nat) (l : List UInt8) (hx : Hid ((vl (l.take 1) : Int) = x ∧ (vl ((l.drop 1).take 4) : Int) = y)) (w : World) (hr : Rdr w0 w g A n c l) :
    Calls Try.prog 45 #[.pointer (some ⟨g, 0, none⟩)] w fun e w' => e = .returned (.agg #[.int .u8 x, .int .u32 y]) ∧ (∃ B m d, Rdr w0 w' g B m d (l.drop 5)) ∧ Turn g w w' := by
  have HX := hid hx.out.1
  have HY := hid hx.out.2
  have x0 : 0 ≤ x := by rw [← HX.out]; omega
  have x1 : x < 256 := by
    have h1 := vl_lt (l.take 1)
    have h2 : 256 ^ (l.take 1).length ≤ 256 ^ 1 := Nat.pow_le_pow_right (by decide) (by rw [List.length_take]; omega)
    rw [← HX.out]
    simp only [Nat.reducePow] at h2
    omega
  have y0 : 0 ≤ y := by rw [← HY.out]; omega
  have y1 : y < 4294967296 := by
    have h1 := vl_lt ((l.drop 1).take 4)
    have h2 : 256 ^ ((l.drop 1).take 4).length ≤ 256 ^ 4 := Nat.pow_le_pow_right (by decide) (by rw [List.length_take]; omega)
    rw [← HY.out]
    simp only [Nat.reducePow] at h2
    omega
  have hi : (Try.prog.info? 24).map (·.size) = some 2 := by kernel_rfl
  have hg := hr.lt
  have hfar := hr.far
  have hr' := hr.keep ((Below.refl _ _).alloc (Nat.le_refl _) (.cells #[.int .u8 0, .int .u32 0] 24))
  have ht := there_new w #[.int .u8 0, .int .u32 0] 24 2 rfl
  have hT0 : Turn g w (w.alloc (.cells #[.int .u8 0, .int .u32 0] 24)) := (Turn.below (Below.refl _ _) (Nat.le_of_lt hg)).alloc hg _
  have hs0 : (w.alloc (.cells #[.int .u8 0, .int .u32 0] 24)).heap.size = w.heap.size + 1 := by simp
  clear hx
  go_enter Try.func45, Try.ntmps45
  go_wp2_with fail
  refine (number_of 1 1 x w0 g A n c l rfl (by omega) HX _ hr').mono ?_
  rintro e w1 ⟨rfl, ⟨B, m, d, hR⟩, hT⟩
  have hT1 := hT0.trans hT
  have ht1 := there_turn ht hT (by omega)
  have hs1 := hT.size
  rw [hs0] at hs1
  clear hr hr' ht hT0 hT
  go_wp2_with fail
  refine (number_of 4 4 y w0 g B m d (l.drop 1) rfl (by omega) HY _ hR).mono ?_
  rintro e w2 ⟨rfl, ⟨B2, m2, d2, hR2⟩, hT⟩
  have hT2 := hT1.trans hT
  have ht2 := there_turn ht1 hT (by omega)
  have hs2 := hT.size
  rw [List.drop_drop] at hR2
  clear hR hT1 ht1 hT
  go_wp2_with (refine wpList_store_n rfl 24 _ Try.underlying24 rfl [.int .u8 x, .int .u32 y] hi (.tmp 2) (.tmp 9) rfl w.heap.size rfl rfl (by simp [Value.oneCell']) ht2 w.heap.size (Nat.le_refl _) ?_; intro w4 r4 _ b4 h4 z4; have u0 : w4.cell? ⟨w.heap.size, 0, none⟩ = _ := r4 0 _ rfl; have u1 : w4.cell? ⟨w.heap.size, 1, none⟩ = _ := r4 1 _ rfl)
  exact bodyPost_ret (v := .agg #[.int .u8 x, .int .u32 y]) (by simp [results, Try.results45, go_sem, u0, u1]) rfl ⟨rfl, ⟨B2, m2, d2, hR2.other h4 (by omega) (b4.mono (by omega))⟩, hT2.other h4 (by omega) (b4.mono (by omega))⟩
end Go.Proofs.Ytbhglgcnoidddaa
