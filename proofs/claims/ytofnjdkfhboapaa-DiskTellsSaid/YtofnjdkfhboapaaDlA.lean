/-
  Layer 12's laws: full, reads.
-/
import Derived.Test.YtofnjdkfhboapaaDpS
import Derived.Deep.RegionHeld
namespace Go.Proofs.Ytofnjdkfhboapaa
open Go.RowKit
set_option linter.unusedVariables false
set_option linter.unusedSimpArgs false

def fullB (b : UInt8) : List UInt8 := List.replicate 128 b
theorem fullB_len (b : UInt8) : (fullB b).length = 128 := by simp [fullB]
def partB (b : UInt8) (j : Nat) : List UInt8 := List.replicate j b ++ List.replicate (128 - j) 0
theorem partB_len (b : UInt8) {j : Nat} (hj : j ≤ 128) : (partB b j).length = 128 := by simp [partB]; omega
theorem partB_set (b : UInt8) {j : Nat} (hj : j < 128) : (partB b j).set j b = partB b (j + 1) := by
  rw [partB, List.set_append_right _ _ (by simp), List.length_replicate, Nat.sub_self, show 128 - j = 128 - (j + 1) + 1 by omega, List.replicate_succ, List.set_cons_zero, partB, List.replicate_succ']
  simp
theorem partB_all (b : UInt8) : partB b 128 = fullB b := by simp [partB, fullB]
theorem partB_none (b : UInt8) : partB b 0 = List.replicate 128 0 := by simp [partB]
theorem u8s_set (l : List UInt8) (j : Nat) (b : UInt8) : u8s (l.set j b) = (u8s l).set j (.int .u8 (b.toNat : Int)) := by simp [u8s, List.map_set]
/-- A byte of a row of the call's own, written. -/
theorem Own.put {w : World} {base : Nat} {e : TypeId} {g c : Nat} {l : List UInt8} (h : Own w base e (some ⟨g, 0, none⟩) c l) (j : Nat) (b : UInt8) : Own (w.setCell ⟨g, j, none⟩ (.int .u8 (b.toNat : Int))) base e (some ⟨g, 0, none⟩) c (l.set j b) := by
  have r1 := (World.ownsRow.stored h j (.int .u8 (b.toNat : Int))).1
  unfold Own
  rw [u8s_set, List.length_set]
  exact r1
theorem Own.slot {w : World} {base : Nat} {e : TypeId} {g c : Nat} {l : List UInt8} (h : Own w base e (some ⟨g, 0, none⟩) c l) (j : Nat) (hj : j < l.length) :
    w.cell? ⟨g, j, none⟩ = some (.int .u8 (l[j].toNat : Int)) ∧ w.frozen? ⟨g, j, none⟩ = false ∧ base ≤ g ∧ g < w.heap.size := by
  obtain ⟨g', hA, hbb, hbs, _, hc, hz⟩ := row_at h (by omega)
  injection hA with hA
  injection hA with hA
  subst hA
  exact ⟨hc j _ (by simp [u8s, hj]), hz j, hbb, hbs⟩

/-- The call hands back 128 bytes of its own. -/
def RetF8 (w : World) (l : List UInt8) (e : Ending) (w' : World) : Prop := ∃ g, e = .returned (.slice (some ⟨g, 0, none⟩) 128 128) ∧ Own w' w.heap.size 5 (some ⟨g, 0, none⟩) 128 l ∧ Below w.heap.size w w'
set_option maxRecDepth 100000 in
theorem full_of (b : UInt8) (z : Int) (hz : Hid ((b.toNat : Int) = z)) (w : World) :
    Calls Try.prog 10 #[.int .u8 z] w (RetF8 w (fullB b)) := by
  have mk := make_128 w
  have ow := Own.lit w (base := w.heap.size) 5 (List.replicate 128 0) (Nat.le_refl _) (by simp)
  have hb0 := below1 w (.cells (u8s (List.replicate 128 0)).toArray 5)
  have hl : (List.replicate 128 (0 : UInt8)).length = 128 := by simp
  rw [← partB_none b] at mk ow hb0 hl
  rw [hl] at ow
  go_enter Try.func10, Try.ntmps10
  go_wp2
  generalize World.alloc w _ = W at mk ow hb0 ⊢
  clear mk
  go_loopw [4] (fun i wr => ∃ (j : Nat), j ≤ 128 ∧ i = .int .i64 (j : Int) ∧ Own wr w.heap.size 5 (some ⟨w.heap.size, 0, none⟩) 128 (partB b j) ∧ Below w.heap.size w wr) (fun i _ => 128 - (intOf i).toNat)
  case atStart => exact ⟨0, by omega, rfl, ow, hb0⟩
  case round =>
    clear ow hb0
    obtain ⟨j, hj, rfl, ho, hb⟩ := hrel
    by_cases hlt : j < 128
    · have hlt2 : (j : Int) < 128 := by omega
      obtain ⟨hc, hf, hg0, hg1⟩ := ho.slot j (by rw [partB_len b hj]; omega)
      have ho2 := ho.put j b
      rw [partB_set b hlt, hz.out] at ho2
      have hb2 := hb.setCell (p := ⟨w.heap.size, j, none⟩) hg0 (.int .u8 z)
      have HO := hid ho2
      have HB := hid hb2
      clear ho ho2 hb hb2 hg0 hg1
      generalize (partB b j)[j]'_ = v at hc
      go_wp2
      go_roundw
      case rel => exact ⟨j + 1, by omega, by go_num, HO.out, HB.out⟩
      case measure => simp [intOf]; omega
    · have hlt2 : ¬ (j : Int) < 128 := by omega
      obtain rfl : j = 128 := by omega
      rw [partB_all] at ho
      go_wp2
      go_ret
      exact ⟨w.heap.size, by simp, ho, hb⟩

set_option maxRecDepth 100000 in
set_option maxHeartbeats 800000 in
theorem reads_of (q : Bool) (d : Dsk) (A : Option Addr) (n c : Nat) (a : Int) (b : UInt8) (z : Int) (hz : Hid ((b.toNat : Int) = z)) (hn : Hid (d.se.length = n)) (h5 : n ≤ 9000) (hq : Hid ((decide (readE d a = 0) && (readV d a == fullB b)) = q)) (w : World) (hr : RdS w A c d.se) :
    Calls Try.prog 30 #[.agg #[.slice A n c, .int .i64 d.st, .int .i64 d.lf, .bool d.dd], .int .i64 a, .int .u8 z] w fun e w' => e = .returned (.bool q) ∧ Below w.heap.size w w' := by
  obtain ⟨v, hv⟩ : ∃ v, readV d a = v := ⟨_, rfl⟩
  obtain ⟨m, hm⟩ : ∃ m, v.length = m := ⟨_, rfl⟩
  obtain ⟨k, hk⟩ : ∃ k, readE d a = k := ⟨_, rfl⟩
  have h := hq.out
  rw [hv, hk] at h
  have HV := hid hv
  have HM := hid hm
  have HK := hid hk
  have HQ := hid h
  have xa := boxK_new w d A n c 24
  have hb0 := below1 w (.cells (#[.slice A n c, .int .i64 d.st, .int .i64 d.lf, .bool d.dd]) 24)
  have HR := hid (hr.keep hb0)
  clear hq hv hk hm h hr
  go_enter Try.func30, Try.ntmps30
  have one : True := trivial
  go_wp2_with (clear one; generalize World.alloc w _ = W at xa hb0 HR ⊢; refine wpList_load_k rfl (.tmp 3) rfl w.heap.size rfl xa ?_)
  refine (dread_of d A n c a v m k hn h5 HV HM HK _ HR.out).mono ?_
  rintro e w1 ⟨A1, c1, rfl, ho1, b1⟩
  have hb1 := below_in hb0 b1
  clear xa hb0 b1
  by_cases k0 : k = 0
  · subst k0
    obtain ⟨u, hu⟩ : ∃ u, (v == fullB b) = u := ⟨_, rfl⟩
    obtain rfl : u = q := by rw [← HQ.out, ← hu] <;> simp
    go_wp2_with fail
    have k1 := fun w' (h : Below w1.heap.size w1 w') => rd_string HM (ho1.rd.keep h)
    have S0 : Below w1.heap.size w1 w1.drew := (Below.refl _ w1).drew
    go_region_held (fun w' => Below w1.heap.size w1 w') (with_reducible (first | assumption | exact S0 | exact below_in S0 (by assumption)))
      ((go_at_call 10; refine (full_of b z hz _).mono ?_; rintro e w5 ⟨g5, rfl, ho5, b5⟩; have s1 := rd_string (hid (fullB_len b)) ho5.rd; have hb5 := below_in hb1 (below_in S0 b5)))
    go_wp2
    go_ret
    exact ⟨ret_bool (by rw [← hu] <;> simp), hb5⟩
  · have d0 : (k == 0) = false := by simpa using k0
    obtain rfl : false = q := by rw [← HQ.out]; simp [k0]
    go_wp2_with fail
    refine wp_region_past (by kernel_rfl) (by kernel_rfl) ?_
    repeat (go_big_quiet_step (fail))
    refine wpQuiet_nil ?_
    rintro _ ⟨⟨w7, hx⟩, rfl⟩
    have hb7 := below_in hb1 hx
    clear hx
    go_wp2
    go_ret
    exact ⟨rfl, hb7⟩
end Go.Proofs.Ytofnjdkfhboapaa
