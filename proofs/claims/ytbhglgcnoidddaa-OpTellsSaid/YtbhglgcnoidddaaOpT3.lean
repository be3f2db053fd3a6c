/-
  The closures that take what stands behind an operation's span: a label.
-/
import Derived.Test.YtbhglgcnoidddaaOpT
import Derived.Deep.RegionHeld
namespace Go.Proofs.Ytbhglgcnoidddaa
open Go.RowKit
set_option linter.unusedVariables false
set_option linter.unusedSimpArgs false


set_option maxRecDepth 100000 in
set_option maxHeartbeats 1600000 in
theorem takers3_of (x y : Int) (g b h0 h1 h2 h3 : Nat) (w0 : World) (l : List UInt8) (o : Opd) (A : Option Addr) (n c : Nat) (hx : Hid ((vl (l.take 1) : Int) = x ∧ (vl ((l.drop 1).take 4) : Int) = y)) (w : World) (h2w : Two w0 w g b l o A n c) (ht : Tak w g b h0 h1 h2 h3) :
    Calls Try.prog 78 #[.pointer (some ⟨h3, 0, none⟩), .pointer (some ⟨h0, 0, none⟩)] w fun e w' => e = .returned (.tuple #[]) ∧ Two w0 w' g b (l.drop 5) { o with tl := x, tc := y } A n c ∧ Turn2 g b w w' := by
  have hd := h2w.drew
  have htd := ht.drew
  have hS0 : w.drew.cell? ⟨h0, 0, none⟩ = some (.pointer (some ⟨b, 0, none⟩)) ∧ w.drew.cell? ⟨h3, 0, none⟩ = some (.func (.func 45) #[.pointer (some ⟨g, 0, none⟩)] #[]) := ⟨htd.c0, htd.c3⟩
  have HT := hid htd
  have HD := hid hd
  clear ht h2w hd htd
  go_enter Try.func78, Try.ntmps78
  go_wp2_with fail
  refine wp_region_held_drew (S := fun w' => w'.cell? ⟨h0, 0, none⟩ = some (.pointer (some ⟨b, 0, none⟩)) ∧ w'.cell? ⟨h3, 0, none⟩ = some (.func (.func 45) #[.pointer (some ⟨g, 0, none⟩)] #[])) (by kernel_rfl) hS0 (fun hHeld => ?_)
  refine wpAnyH_take (i := 0) (v := ?_) rfl (by kernel_rfl) (by kernel_rfl) (by kernel_rfl) (fun _ _ _ h => h) (Or.inl ⟨by rfl, ?_⟩) hHeld ?_
  rotate_left
  · intro w' hSw
    (try dsimp only at hSw)
    obtain ⟨k0, k1⟩ := hSw
    go_simp <;> with_reducible rfl
  (try simp only [Act.put, List.setIfInBounds_toArray, List.set_cons_zero, List.set_cons_succ])
  refine wpAnyH_take (i := 1) (v := ?_) rfl (by kernel_rfl) (by kernel_rfl) (by kernel_rfl) (fun _ _ _ h => h) (Or.inl ⟨by rfl, ?_⟩) hHeld ?_
  rotate_left
  · intro w' hSw
    (try dsimp only at hSw)
    obtain ⟨k0, k1⟩ := hSw
    go_simp <;> with_reducible rfl
  (try simp only [Act.put, List.setIfInBounds_toArray, List.set_cons_zero, List.set_cons_succ])
  refine wpAnyH_ready (rs := [2]) (by kernel_rfl) (by simp) ?_
  refine AllReadyH.cons rfl (fun K hK => ?_) AllReadyH.nil
  go_simp
  obtain ⟨B, m, d, hr⟩ := HD.out.rd
  go_wp2_with (go_at_call 45; refine (label_of x y w0 g B m d l hx _ hr).mono ?_; rintro e w1 ⟨rfl, hR, hT⟩)
  have ht1 := HT.out.turn hT
  have HW := hid (HD.out.turn hT hR)
  have HU := hid (((Turn2.refl g b w).drew).turn hT)
  refine hK.out _ _ ⟨ht1.c0, ht1.c3⟩ (fun hHeld2 => ?_)
  clear hK K hR hT hr hHeld
  refine wpAnyH_take (i := 3) (v := ?_) rfl (by kernel_rfl) (by kernel_rfl) (by kernel_rfl) (fun _ _ _ h => h) (Or.inl ⟨by rfl, ?_⟩) hHeld2 ?_
  rotate_left
  · intro w' hSw
    (try dsimp only at hSw)
    obtain ⟨k0, k1⟩ := hSw
    go_simp <;> with_reducible rfl
  (try simp only [Act.put, List.setIfInBounds_toArray, List.set_cons_zero, List.set_cons_succ])
  refine wpAnyH_take (i := 4) (v := ?_) rfl (by kernel_rfl) (by kernel_rfl) (by kernel_rfl) (fun _ _ _ h => h) (Or.inl ⟨by rfl, ?_⟩) hHeld2 ?_
  rotate_left
  · intro w' hSw
    (try dsimp only at hSw)
    obtain ⟨k0, k1⟩ := hSw
    go_simp <;> with_reducible rfl
  (try simp only [Act.put, List.setIfInBounds_toArray, List.set_cons_zero, List.set_cons_succ])
  refine wpAnyH_ready (rs := [5]) (by kernel_rfl) (by simp) ?_
  refine AllReadyH.cons rfl (fun K hK => ?_) AllReadyH.nil
  rw [if_pos (by rfl)]
  refine wp_store_mid 24 (.tmp 6) (.tmp 4) rfl b 14 (List.toArray [.int .u8 x, .int .u32 y]) rfl rfl (fun j hj => by have := HW.out.th (14 + j) (by simp at hj; omega); simpa using this) (by kernel_rfl) (by simp [Value.oneCell']) ?_
  (try simp only [Act.put, List.setIfInBounds_toArray, List.set_cons_zero, List.set_cons_succ, List.toList_toArray])
  have ht2 := ht1.sets 14 [.int .u8 x, .int .u32 y]
  refine hK.out _ _ ⟨ht2.c0, ht2.c3⟩ (fun hHeld3 => ?_)
  clear hK K
  refine wpAnyH_done (by kernel_rfl) ?_ _
  have HW2 := hid (HW.out.sets 14 [.int .u8 x, .int .u32 y] (set_to HW.out.bx HW.out.th x y))
  have HU2 := hid (HU.out.sets 14 [.int .u8 x, .int .u32 y])
  clear hHeld2 hHeld3 ht1 ht2
  generalize World.setCells _ b 14 _ = W3 at HW2 HU2 ⊢
  go_simp
  go_wp2
  go_end0
  exact ⟨rfl, HW2.out, HU2.out⟩
end Go.Proofs.Ytbhglgcnoidddaa
