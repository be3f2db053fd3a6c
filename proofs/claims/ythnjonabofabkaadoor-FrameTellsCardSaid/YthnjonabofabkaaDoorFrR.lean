/-
  The contracts of the document's own answers of layer 8: Long, Class, Framed, Seal.
-/
import Derived.Test.YthnjonabofabkaaDoorFrE
import Derived.Test.YthnjonabofabkaaDoorNumG
import Derived.Test.YthnjonabofabkaaDoorSumR
namespace Go.Proofs.YthnjonabofabkaaDoor
open Go.RowKit
set_option linter.unusedVariables false

set_option maxRecDepth 100000 in
set_option maxHeartbeats 800000 in
theorem rlong_of (n z : Nat) (hn : n ≤ 1000) (h : Hid (cl n = z)) (w : World) :
    Calls Tryd.prog 26 #[.int .i64 (n : Int)] w fun e w' => e = .returned (.int .i64 (z : Int)) ∧ Below w.heap.size w w' := by
  obtain ⟨m, p, hm, hp⟩ : ∃ m p, enc n = m ∧ m.length = p := ⟨_, _, rfl, rfl⟩
  have HB := hid (show enc n = m ∧ m.length = p from ⟨hm, hp⟩)
  have hp3 := enc_small hn
  rw [hm, hp] at hp3
  have hn1 : (n : Int) ≤ 1000 := by omega
  have hp1 : (p : Int) ≤ 3 := by omega
  have HC : Hid ((1 + (p : Int) + (n : Int) + 3 ≤ 64 ∧ (z : Int) = 64) ∨ (¬ 1 + (p : Int) + (n : Int) + 3 ≤ 64 ∧ 1 + (p : Int) + (n : Int) + 3 ≤ 256 ∧ (z : Int) = 256) ∨ (¬ 1 + (p : Int) + (n : Int) + 3 ≤ 64 ∧ ¬ 1 + (p : Int) + (n : Int) + 3 ≤ 256 ∧ (z : Int) = 1024)) := by
    have hz := h.out
    rw [cl, hm, hp] at hz
    unfold Hid
    split at hz
    · exact .inl ⟨by omega, by omega⟩
    · split at hz
      · exact .inr (.inl ⟨by omega, by omega, by omega⟩)
      · exact .inr (.inr ⟨by omega, by omega, by omega⟩)
  clear hm hp hp3 h
  rcases HC.out with ⟨h1, h2⟩ | ⟨h1, h2, h3⟩ | ⟨h1, h2, h3⟩
  all_goals
    have HZ := hid (show (z : Int) = _ by assumption)
    go_enter Tryd.func26, Tryd.ntmps26
    go_wp2_with fail
    refine (nbytes_of n m p HB (lt_most hn) _).mono ?_
    rintro e w1 ⟨A, c, rfl, hr, hb⟩
    clear hr
    go_wp2
    go_ret
    exact ⟨ret_int HZ.out.symm, hb⟩

set_option maxHeartbeats 400000 in
theorem rclass_of (n v e : Int) (h : Hid (clV n = v ∧ clE n = e)) (w : World) :
    Calls Tryd.prog 16 #[.int .i64 n] w fun x w' => x = .returned (.tuple #[.int .i64 v, .int .i64 e]) ∧ Below w.heap.size w w' := by
  obtain ⟨rfl, rfl⟩ := h.out
  clear h
  by_cases hn : 0 ≤ n ∧ n ≤ 1000
  · obtain ⟨m, rfl⟩ : ∃ m : Nat, n = (m : Int) := ⟨n.toNat, by omega⟩
    have hm : m ≤ 1000 := by omega
    obtain ⟨z, hz⟩ : ∃ z, cl m = z := ⟨_, rfl⟩
    have H := hid (show clV (m : Int) = (z : Int) ∧ clE (m : Int) = 0 by rw [← hz]; exact cl_yes hm)
    have HZ := hid hz
    have hm1 : (m : Int) ≤ 1000 := by omega
    clear hz hn
    go_enter Tryd.func16, Tryd.ntmps16
    go_wp2_with fail
    refine (rlong_of m z hm HZ _).mono ?_
    rintro e w1 ⟨rfl, hb⟩
    go_wp2
    go_ret2
    exact ⟨by rw [H.out.1, H.out.2]; rfl, hb⟩
  · have H := hid (cl_not hn)
    by_cases h0 : n < 0
    · clear hn
      go_enter Tryd.func16, Tryd.ntmps16
      go_wp2
      go_ret2
      exact ⟨by rw [H.out.1, H.out.2]; rfl, Below.refl _ _⟩
    · have h1 : 1000 < n := by omega
      clear hn
      go_enter Tryd.func16, Tryd.ntmps16
      go_wp2
      go_ret2
      exact ⟨by rw [H.out.1, H.out.2]; rfl, Below.refl _ _⟩

/-- The frame as far as j zeros behind the body. -/
def frz (l : List UInt8) (j : Nat) : List UInt8 := hd8 l.length ++ l ++ List.replicate j 0
theorem frz_step (l : List UInt8) (j : Nat) : frz l j ++ [0] = frz l (j + 1) := by
  rw [frz, frz, List.replicate_succ', List.append_assoc]
theorem frz_length (l : List UInt8) (j : Nat) : (frz l j).length = 1 + (enc l.length).length + l.length + j := by
  simp [frz, hd8_length]
  omega

set_option maxHeartbeats 2000000 in
theorem framed_of (z : Nat) (F : List UInt8) (A : Option Addr) (n c : Nat) (l : List UInt8) (hn : Hid (l.length = n)) (h : n ≤ 1000) (hz : Hid (fr l = F ∧ cl n = z)) (w : World) (hr : Rd w A c l) :
    Calls Tryd.prog 21 #[.slice A n c] w fun e w' => ∃ A' c', e = .returned (.slice A' z c') ∧ Own w' w.heap.size 5 A' c' F ∧ Below w.heap.size w w' := by
  obtain ⟨m, p, q, hm, hp, hq⟩ : ∃ m p q, enc n = m ∧ m.length = p ∧ pad n = q := ⟨_, _, _, rfl, rfl, rfl⟩
  have HB := hid (show enc n = m ∧ m.length = p from ⟨hm, hp⟩)
  have HZ := hid hz.out.2
  have hpq := pad_eq h
  have hk1 := cl_le n
  have hk2 := cl_ge n
  rw [hm, hp, hq, hz.out.2] at hpq
  rw [hz.out.2] at hk1 hk2
  have hp3 := enc_small h
  rw [hm, hp] at hp3
  have H0 : Hid ([181] ++ m ++ l = frz l 0) := by
    unfold Hid
    rw [frz, hn.out, hd8, hm]
    simp
  have HL : Hid (∀ j, (frz l j).length = 1 + p + n + j) := hid fun j => by rw [frz_length, hn.out, hm, hp]
  have HS := hid (fun j => frz_step l j)
  have HF : Hid (frz l q ++ three (sm first (frz l q)) = F) := by
    have e : frz l q = fr0 l := by rw [frz, fr0, hn.out, hq]
    unfold Hid
    rw [e]
    exact hz.out.1
  obtain ⟨i0, hi0, hz0, hz1, hz2⟩ := info_parts info_u8
  have hn1 : (n : Int) ≤ 1000 := by omega
  clear hm hp hq hz
  go_enter Tryd.func21, Tryd.ntmps21
  go_wp2_with fail
  have ho := Own.lit w 5 [181] (Nat.le_refl _) (by simp)
  have b0 := (Below.refl w.heap.size w).alloc (Nat.le_refl _) (.cells (u8s [181]).toArray 5)
  refine (nbytes_of n m p HB (lt_most h) _).mono ?_
  rintro e w1 ⟨A1, c1, rfl, hr1, b1⟩
  replace ho := ho.keep b1
  replace b1 := b0.trans (b1.mono b0.size)
  clear b0
  have hl1 := hid (show ([181] ++ m).length = 1 + p by simp [HB.out.2]; omega)
  go_wp2_with (first
    | (at_builtin; refine wpList_append_rd rfl (.tmp 4) (.tmp 7) 23 rfl w.heap.size 5 Tryd.underlying23 hi0 hz0 hz1 hz2 (some ⟨w.heap.size, 0, none⟩) 1 1 [181] (hid rfl) rfl ho A1 p c1 m (hid HB.out.2) rfl hr1 (by omega) b1.size ?_; intro A2 c2 w2 hown2 b2; replace b2 := b1.trans b2)
    | (at_builtin; refine wpList_append_rd rfl (.tmp 9) (.tmp 10) 23 rfl w.heap.size 5 Tryd.underlying23 hi0 hz0 hz1 hz2 A2 (1 + p) c2 ([181] ++ m) hl1 rfl hown2 A n c l hn rfl (hr.keep b2) (by omega) b2.size ?_; intro A3 c3 w3 hown3 b3; replace b3 := b2.trans b3))
  rw [H0.out] at hown3
  clear hown2 b2 hl1 b1 ho hr1 H0 HB
  go_loopg [3] q (fun g b wr => ∃ (j : Nat) (A' : Option Addr) (c' : Nat), j + g = q ∧ b = .slice A' (1 + p + n + j) c' ∧ Own wr w.heap.size 5 A' c' (frz l j) ∧ Below w.heap.size w wr)
  case atStart => exact ⟨0, A3, c3, by omega, rfl, hown3, b3⟩
  case round =>
    clear hown3 b3
    obtain ⟨j, A', c', hj, rfl, hown, hb⟩ := hrel
    go_wp2_with fail
    refine (rlong_of n z h HZ _).mono ?_
    rintro e w4 ⟨rfl, b4⟩
    replace hown := hown.keep b4
    replace hb := hb.trans (b4.mono hb.size)
    have HLJ := hid (HL.out j)
    clear b4
    by_cases h0 : gk = 0
    · subst h0
      have ej : j = q := by omega
      subst ej
      have ht : ¬ (1 + (p : Int) + (n : Int) + (j : Int) < (z : Int) - 3) := by omega
      have hm := sm_lt first_lt (frz l j)
      generalize frz l j = G at hown HLJ HF hm
      clear HL HS HZ hr hn
      go_wp2_with fail
      have HL2 := hid (show G.length = z - 3 by rw [HLJ.out]; omega)
      refine (refof_any _ (z - 3) _ G HL2 _ hown.rd).mono ?_
      rintro e w5 ⟨rfl, rfl⟩
      go_wp2_with fail
      unfold sumOf
      refine (refbytes_any (sm first G) (by omega) _).mono ?_
      rintro e w5 ⟨rfl, rfl⟩
      have hr3 := lit_rd w4 (three (sm first G)) (by rw [three_length]; omega)
      have hown5 := hown.keep ((Below.refl w4.heap.size w4).alloc (Nat.le_refl _) (.cells (u8s (three (sm first G))).toArray 5))
      have b5 := hb.alloc hb.size (.cells (u8s (three (sm first G))).toArray 5)
      rw [three_length] at hr3
      go_wp2_with (at_builtin; refine wpList_append_rd rfl (.tmp 22) (.tmp 25) _ rfl w.heap.size 5 Tryd.underlying23 hi0 hz0 hz1 hz2 _ (z - 3) c' G HL2 rfl hown5 _ 3 3 (three (sm first G)) (hid (three_length _)) rfl hr3 (by omega) b5.size ?_; intro A6 c6 w6 hown6 b6; replace b6 := b5.trans b6)
      go_ret
      rw [HF.out] at hown6
      exact ⟨A6, c6, ret_slice (by omega), hown6, b6⟩
    · have ht : (1 + (p : Int) + (n : Int) + (j : Int) < (z : Int) - 3) := by omega
      have hone := (own_one w4 0 0 (hid rfl)).rd
      have hown5 := hown.keep ((Below.refl w4.heap.size w4).alloc (Nat.le_refl _) (.cells #[.int .u8 0] 5))
      have b5 := hb.alloc hb.size (.cells #[.int .u8 0] 5)
      go_wp2_with (at_builtin; refine wpList_append_rd rfl (.tmp 19) (.tmp 20) _ rfl w.heap.size 5 Tryd.underlying23 hi0 hz0 hz1 hz2 A' (1 + p + n + j) c' (frz l j) HLJ rfl hown5 (some ⟨w4.heap.size, 0, none⟩) 1 1 [0] (hid rfl) rfl hone (by omega) b5.size ?_; intro A6 c6 w6 hown6 b6; replace b6 := b5.trans b6)
      rw [HS.out j] at hown6
      go_roundg (gk - 1)
      case measure => omega
      case rel => exact ⟨j + 1, A6, c6, by omega, rfl, hown6, b6⟩

set_option maxHeartbeats 400000 in
theorem rseal_of (L : List UInt8) (k : Nat) (j : Int) (A : Option Addr) (n c : Nat) (l : List UInt8) (hn : Hid (l.length = n)) (hj : Hid (seB l = L ∧ L.length = k ∧ seE l = j)) (w : World) (hr : Rd w A c l) :
    Calls Tryd.prog 13 #[.slice A n c] w (RetOwn w L k j) := by
  obtain ⟨rfl, rfl, rfl⟩ := hj.out
  clear hj
  by_cases h : n ≤ 1000
  · have hl : l.length ≤ 1000 := by rw [hn.out]; exact h
    obtain ⟨z, hz⟩ : ∃ z, cl n = z := ⟨_, rfl⟩
    obtain ⟨F, hF⟩ : ∃ F, fr l = F := ⟨_, rfl⟩
    have HF : Hid (fr l = F ∧ cl n = z) := hid ⟨hF, hz⟩
    have e := se_yes hl
    rw [hn.out, hz, hF] at e
    have HS := hid e
    have h1 : (n : Int) ≤ 1000 := by omega
    clear hl hz hF e
    go_enter Tryd.func13, Tryd.ntmps13
    go_wp2_with fail
    refine (framed_of z F A n c l hn h HF _ hr).mono ?_
    rintro e w1 ⟨A1, c1, rfl, hown, hb⟩
    go_wp2
    go_ret2
    exact ⟨A1, c1, by rw [HS.out.1, HS.out.2.1, HS.out.2.2]; rfl, by rw [HS.out.1]; exact hown, hb⟩
  · have H := hid (se_no (l := l) (by rw [hn.out]; exact h))
    have h1 : (1000 : Int) < (n : Int) := by omega
    clear h
    go_enter Tryd.func13, Tryd.ntmps13
    go_wp2
    go_ret2
    exact ⟨none, 0, by rw [H.out.1, H.out.2.2]; rfl, by rw [H.out.1]; exact Own.nil _ _ _, Below.refl _ _⟩
end Go.Proofs.YthnjonabofabkaaDoor
