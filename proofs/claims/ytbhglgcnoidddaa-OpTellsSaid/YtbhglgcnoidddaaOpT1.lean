/-
  The closures that take what stands behind an operation's span: an id and a row.
-/
import Derived.Test.YtbhglgcnoidddaaOpT
import Derived.Deep.RegionHeld
namespace Go.Proofs.Ytbhglgcnoidddaa
open Go.RowKit
set_option linter.unusedVariables false
set_option linter.unusedSimpArgs false


set_option maxRecDepth 100000 in
set_option maxHeartbeats 3200000 in
theorem takers1_of (q : Bool) (x0 x1 x5 x6 : Int) (r : List Int) (M k : Nat) (g b h0 h1 h2 h3 : Nat) (w0 : World) (l : List UInt8) (o : Opd) (A : Option Addr) (n c : Nat)
    (hx : Hid (okI (l.take 13) = q ∧ pick q (gL (l.take 13)) = x0 ∧ pick q (gC (l.take 13)) = x1 ∧ pick q (gK (l.take 13)) = x5 ∧ pick q (gN (l.take 13)) = x6)) (hr : Hid (getV ((l.drop 13).take (4 * M)) = r ∧ r.length = k)) (hM : Hid ((M : Int) = o.fm)) (hM5 : M ≤ 64) (w : World) (h2w : Two w0 w g b l o A n c) (ht : Tak w g b h0 h1 h2 h3) :
    Calls Try.prog 76 #[.pointer (some ⟨h1, 0, none⟩), .pointer (some ⟨h0, 0, none⟩), .pointer (some ⟨h2, 0, none⟩)] w fun e w' => e = .returned (.tuple #[]) ∧ (∃ A' c', Two w0 w' g b (l.drop (13 + 4 * M)) { o with al := x0, ac := x1, ak := x5, an := x6, row := r } A' k c' ∧ OwnI w' w.heap.size 21 A' c' r) ∧ Turn2 g b w w' := by
  have hd := h2w.drew
  have htd := ht.drew
  have hlt := h2w.lt
  have hS0 : w.drew.cell? ⟨h0, 0, none⟩ = some (.pointer (some ⟨b, 0, none⟩)) ∧ w.drew.cell? ⟨h1, 0, none⟩ = some (.func (.func 42) #[.pointer (some ⟨g, 0, none⟩)] #[]) := ⟨htd.c0, htd.c1⟩
  have HT := hid htd
  have HD := hid hd
  clear ht h2w hd htd
  go_enter Try.func76, Try.ntmps76
  go_wp2_with fail
  refine wp_region_held_drew (S := fun w' => w'.cell? ⟨h0, 0, none⟩ = some (.pointer (some ⟨b, 0, none⟩)) ∧ w'.cell? ⟨h1, 0, none⟩ = some (.func (.func 42) #[.pointer (some ⟨g, 0, none⟩)] #[])) (by kernel_rfl) hS0 (fun hHeld => ?_)
  refine wpAnyH_take (i := 0) (v := ?_) rfl (by kernel_rfl) (by kernel_rfl) (by kernel_rfl) (fun _ _ _ h => h) (Or.inl ⟨by rfl, ?_⟩) hHeld ?_
  rotate_left
  · intro w' hSw
    (try dsimp only at hSw)
    obtain ⟨k0, k1⟩ := hSw
    go_simp <;> with_reducible rfl
  (try simp only [Act.put, List.setIfInBounds_toArray, List.set_cons_zero, List.set_cons_succ])
  refine wpAnyH_take (i := 1) (v := ?_) rfl (by kernel_rfl) (by kernel_rfl) (by kernel_rfl) (fun _ _ _ h => h) (Or.inl ⟨by rfl, ?_⟩) hHeld ?_
  rotate_left
  · intro w' hSw
    (try dsimp only at hSw)
    obtain ⟨k0, k1⟩ := hSw
    go_simp <;> with_reducible rfl
  (try simp only [Act.put, List.setIfInBounds_toArray, List.set_cons_zero, List.set_cons_succ])
  refine wpAnyH_ready (rs := [2]) (by kernel_rfl) (by simp) ?_
  refine AllReadyH.cons rfl (fun K hK => ?_) AllReadyH.nil
  go_simp
  obtain ⟨B, m, d, hr0⟩ := HD.out.rd
  go_wp2_with (go_at_call 42; refine (id_of q x0 x1 x5 x6 w0 g B m d l hx _ hr0).mono ?_; rintro e w1 ⟨rfl, hR, hT⟩)
  have ht1 := HT.out.turn hT
  have HW := hid (HD.out.turn hT hR)
  have HU := hid (((Turn2.refl g b w).drew).turn hT)
  refine hK.out _ _ ⟨ht1.c0, ht1.c1⟩ (fun hHeld2 => ?_)
  clear hK K hR hT hr0 hHeld
  refine wpAnyH_take (i := 3) (v := ?_) rfl (by kernel_rfl) (by kernel_rfl) (by kernel_rfl) (fun _ _ _ h => h) (Or.inl ⟨by rfl, ?_⟩) hHeld2 ?_
  rotate_left
  · intro w' hSw
    (try dsimp only at hSw)
    obtain ⟨k0, k1⟩ := hSw
    go_simp <;> with_reducible rfl
  (try simp only [Act.put, List.setIfInBounds_toArray, List.set_cons_zero, List.set_cons_succ])
  refine wpAnyH_take (i := 4) (v := ?_) rfl (by kernel_rfl) (by kernel_rfl) (by kernel_rfl) (fun _ _ _ h => h) (Or.inl ⟨by rfl, ?_⟩) hHeld2 ?_
  rotate_left
  · intro w' hSw
    (try dsimp only at hSw)
    obtain ⟨k0, k1⟩ := hSw
    go_simp <;> with_reducible rfl
  (try simp only [Act.put, List.setIfInBounds_toArray, List.set_cons_zero, List.set_cons_succ])
  refine wpAnyH_ready (rs := [5]) (by kernel_rfl) (by simp) ?_
  refine AllReadyH.cons rfl (fun K hK => ?_) AllReadyH.nil
  rw [if_pos (by rfl)]
  refine wp_store_mid 28 (.tmp 7) (.tmp 5) rfl b 10 (List.toArray [.int .u8 x0, .int .u32 x1, .int .u8 x5, .int .i64 x6]) rfl rfl (fun j hj => by have := HW.out.th (10 + j) (by simp at hj; omega); simpa using this) (by kernel_rfl) (by simp [Value.oneCell']) ?_
  (try simp only [Act.put, List.setIfInBounds_toArray, List.set_cons_zero, List.set_cons_succ, List.toList_toArray])
  have ht2 := ht1.sets 10 [.int .u8 x0, .int .u32 x1, .int .u8 x5, .int .i64 x6]
  refine hK.out _ _ ⟨ht2.c0, ht2.c1⟩ (fun hHeld3 => ?_)
  clear hK K
  refine wpAnyH_done (by kernel_rfl) ?_ _
  have HW2 := hid (HW.out.sets 10 [.int .u8 x0, .int .u32 x1, .int .u8 x5, .int .i64 x6] (set_aft HW.out.bx HW.out.th x0 x1 x5 x6))
  have HU2 := hid (HU.out.sets 10 [.int .u8 x0, .int .u32 x1, .int .u8 x5, .int .i64 x6])
  have HT2 := hid ht2
  clear hHeld2 hHeld3 ht1 ht2 HW HU HT HD
  generalize World.setCells _ b 10 _ = W3 at HW2 HU2 HT2 ⊢
  go_simp
  have hd := HW2.out.drew
  have htd := HT2.out.drew
  have hS1 : W3.drew.cell? ⟨h0, 0, none⟩ = some (.pointer (some ⟨b, 0, none⟩)) ∧ W3.drew.cell? ⟨h2, 0, none⟩ = some (.func (.func 44) #[.pointer (some ⟨g, 0, none⟩)] #[]) ∧ W3.drew.cell? ⟨b, 9, none⟩ = some (.int .i64 o.fm) := ⟨htd.c0, htd.c2, hd.bx.c9⟩
  have HT := hid htd
  have HD := hid hd
  clear htd hd
  go_wp2_with fail
  refine wp_region_held_drew (S := fun w' => w'.cell? ⟨h0, 0, none⟩ = some (.pointer (some ⟨b, 0, none⟩)) ∧ w'.cell? ⟨h2, 0, none⟩ = some (.func (.func 44) #[.pointer (some ⟨g, 0, none⟩)] #[]) ∧ w'.cell? ⟨b, 9, none⟩ = some (.int .i64 o.fm)) (by kernel_rfl) hS1 (fun hHeld => ?_)
  refine wpAnyH_take (i := 0) (v := ?_) rfl (by kernel_rfl) (by kernel_rfl) (by kernel_rfl) (fun _ _ _ h => h) (Or.inl ⟨by rfl, ?_⟩) hHeld ?_
  rotate_left
  · intro w' hSw
    (try dsimp only at hSw)
    obtain ⟨k0, k1, k2⟩ := hSw
    go_simp <;> with_reducible rfl
  (try simp only [Act.put, List.setIfInBounds_toArray, List.set_cons_zero, List.set_cons_succ])
  refine wpAnyH_take (i := 1) (v := ?_) rfl (by kernel_rfl) (by kernel_rfl) (by kernel_rfl) (fun _ _ _ h => h) (Or.inl ⟨by rfl, ?_⟩) hHeld ?_
  rotate_left
  · intro w' hSw
    (try dsimp only at hSw)
    obtain ⟨k0, k1, k2⟩ := hSw
    go_simp <;> with_reducible rfl
  (try simp only [Act.put, List.setIfInBounds_toArray, List.set_cons_zero, List.set_cons_succ])
  refine wpAnyH_take (i := 2) (v := ?_) rfl (by kernel_rfl) (by kernel_rfl) (by kernel_rfl) (fun _ _ _ h => h) (Or.inl ⟨by rfl, ?_⟩) hHeld ?_
  rotate_left
  · intro w' hSw
    (try dsimp only at hSw)
    obtain ⟨k0, k1, k2⟩ := hSw
    go_simp <;> with_reducible rfl
  (try simp only [Act.put, List.setIfInBounds_toArray, List.set_cons_zero, List.set_cons_succ])
  refine wpAnyH_take (i := 3) (v := ?_) rfl (by kernel_rfl) (by kernel_rfl) (by kernel_rfl) (fun _ _ _ h => h) (Or.inl ⟨by rfl, ?_⟩) hHeld ?_
  rotate_left
  · intro w' hSw
    (try dsimp only at hSw)
    obtain ⟨k0, k1, k2⟩ := hSw
    go_simp <;> with_reducible rfl
  (try simp only [Act.put, List.setIfInBounds_toArray, List.set_cons_zero, List.set_cons_succ])
  refine wpAnyH_take (i := 4) (v := ?_) rfl (by kernel_rfl) (by kernel_rfl) (by kernel_rfl) (fun _ _ _ h => h) (Or.inl ⟨by rfl, ?_⟩) hHeld ?_
  rotate_left
  · intro w' hSw
    (try dsimp only at hSw)
    obtain ⟨k0, k1, k2⟩ := hSw
    go_simp <;> with_reducible rfl
  (try simp only [Act.put, List.setIfInBounds_toArray, List.set_cons_zero, List.set_cons_succ])
  refine wpAnyH_take (i := 5) (v := ?_) rfl (by kernel_rfl) (by kernel_rfl) (by kernel_rfl) (fun _ _ _ h => h) (Or.inl ⟨by rfl, ?_⟩) hHeld ?_
  rotate_left
  · intro w' hSw
    (try dsimp only at hSw)
    obtain ⟨k0, k1, k2⟩ := hSw
    go_simp <;> with_reducible rfl
  (try simp only [Act.put, List.setIfInBounds_toArray, List.set_cons_zero, List.set_cons_succ])
  refine wpAnyH_take (i := 6) (v := ?_) rfl (by kernel_rfl) (by kernel_rfl) (by kernel_rfl) (fun _ _ _ h => h) (Or.inl ⟨by rfl, ?_⟩) hHeld ?_
  rotate_left
  · intro w' hSw
    (try dsimp only at hSw)
    obtain ⟨k0, k1, k2⟩ := hSw
    go_simp <;> with_reducible rfl
  (try simp only [Act.put, List.setIfInBounds_toArray, List.set_cons_zero, List.set_cons_succ])
  refine wpAnyH_ready (rs := [7]) (by kernel_rfl) (by simp) ?_
  refine AllReadyH.cons rfl (fun K hK => ?_) AllReadyH.nil
  go_simp
  obtain ⟨B, m, d, hr0⟩ := HD.out.rd
  go_wp2_with (go_at_call 44; refine (row_of M o.fm w0 g B m d (l.drop 13) hM hM5 _ hr0).mono ?_; rintro e w4 ⟨⟨A', c', rfl, ho⟩, hR, hT⟩)
  rw [hr.out.1] at ho
  have ht1 := HT.out.turn hT
  have hW := HD.out.turn hT hR
  have HU := hid ((HU2.out.drew).turn hT)
  have s16 := hW.bx.c16
  have f16 := hW.th.at_ 16 (by omega)
  have hlen : (getV ((l.drop 13).take (4 * M))).length = k := by rw [hr.out.1, hr.out.2]
  refine hK.out _ _ ⟨ht1.c0, ht1.c2, hW.bx.c9⟩ (fun hHeld2 => ?_)
  have HW := hid hW
  clear hK K hR hT hr0 hHeld hW
  refine wpAnyH_take (i := 8) (v := ?_) rfl (by kernel_rfl) (by kernel_rfl) (by kernel_rfl) (fun _ _ _ h => h) (Or.inl ⟨by rfl, ?_⟩) hHeld2 ?_
  rotate_left
  · intro w' hSw
    (try dsimp only at hSw)
    obtain ⟨k0, k1, k2⟩ := hSw
    go_simp <;> with_reducible rfl
  (try simp only [Act.put, List.setIfInBounds_toArray, List.set_cons_zero, List.set_cons_succ])
  refine wpAnyH_take (i := 9) (v := ?_) rfl (by kernel_rfl) (by kernel_rfl) (by kernel_rfl) (fun _ _ _ h => h) (Or.inl ⟨by rfl, ?_⟩) hHeld2 ?_
  rotate_left
  · intro w' hSw
    (try dsimp only at hSw)
    obtain ⟨k0, k1, k2⟩ := hSw
    go_simp <;> with_reducible rfl
  (try simp only [Act.put, List.setIfInBounds_toArray, List.set_cons_zero, List.set_cons_succ])
  refine wpAnyH_ready (rs := [10]) (by kernel_rfl) (by simp) ?_
  refine AllReadyH.cons rfl (fun K hK => ?_) AllReadyH.nil
  go_simp
  show K _ (World.setCells w4 b 16 [.slice A' k c'])
  have HX := hid (HW.out.sets 16 [.slice A' k c'] (set_row HW.out.bx HW.out.th A' k c' r))
  have HY := hid (HU.out.sets 16 [.slice A' k c'])
  have ht2 := ht1.sets 16 [.slice A' k c']
  have hle : w.heap.size ≤ W3.drew.heap.size := HU2.out.size
  have HO := hid (OwnI.base hle (ho.other (W' := World.setCells w4 b 16 [.slice A' k c']) (fun j hj => heap_setCells b _ 16 w4 j hj) (Nat.lt_of_lt_of_le hlt hle)))
  refine hK.out _ _ ⟨ht2.c0, ht2.c2, HX.out.bx.c9⟩ (fun hHeld3 => ?_)
  clear hK K
  refine wpAnyH_done (by kernel_rfl) ?_ _
  rw [List.drop_drop] at HX
  clear hHeld2 hHeld3 ht1 ht2 HW HU HT HD HU2 HT2 HW2 ho s16 f16 hS1
  generalize World.setCells _ b 16 _ = W5 at HX HY HO ⊢
  go_simp
  go_wp2
  go_end0
  exact ⟨rfl, ⟨A', c', HX.out, HO.out⟩, HY.out⟩
end Go.Proofs.Ytbhglgcnoidddaa
