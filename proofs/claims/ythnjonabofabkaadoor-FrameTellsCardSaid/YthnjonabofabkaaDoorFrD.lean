/-
  The contract of frame.Seal.
-/
import Derived.Test.YthnjonabofabkaaDoorFrC
namespace Go.Proofs.YthnjonabofabkaaDoor
open Go.RowKit
set_option linter.unusedVariables false

def seB (l : List UInt8) : List UInt8 := if l.length ≤ 1000 then fr l else []
def seE (l : List UInt8) : Int := if l.length ≤ 1000 then 0 else 4
theorem se_yes {l : List UInt8} (h : l.length ≤ 1000) : seB l = fr l ∧ (fr l).length = cl l.length ∧ seE l = 0 := by
  refine ⟨by rw [seB, if_pos h], fr_length h, by rw [seE, if_pos h]⟩
theorem se_no {l : List UInt8} (h : ¬ l.length ≤ 1000) : seB l = [] ∧ ([] : List UInt8).length = 0 ∧ seE l = 4 := by
  refine ⟨by rw [seB, if_neg h], rfl, by rw [seE, if_neg h]⟩
theorem class_of (n v e : Int) (h : Hid (clV n = v ∧ clE n = e)) (w : World) (ht : Tab w) :
    Calls Tryd.prog 10 #[.int .i64 n] w fun x w' => x = .returned (.tuple #[.int .i64 v, .int .i64 e]) ∧ w = w' := by
  obtain ⟨rfl, rfl⟩ := h.out
  exact class_any n w ht

/-- What the copy into the midst makes. -/
theorem splice_mid (n : Nat) (l : List UInt8) (p : Nat) : splice (hd8 n ++ List.replicate (l.length + p) 0) (hd8 n).length l = hd8 n ++ l ++ List.replicate p 0 := by
  rw [splice, List.take_left, List.append_assoc]
  congr 2
  rw [List.drop_append, List.drop_eq_nil_of_le (by omega)]
  simp

theorem own_form {w : World} {base : Nat} {e : TypeId} {A : Option Addr} {c : Nat} {l : List UInt8} (h : Own w base e A c l) (h0 : 0 < l.length) : ∃ g, A = some ⟨g, 0, none⟩ := by
  obtain ⟨g, cap, hv, _⟩ := World.ownsRow.form h h0
  injection hv with h1 h2 h3
  exact ⟨g, h1⟩

/-- What lies from a block on lies from an elder one on. -/
theorem own_base {w : World} {base base' : Nat} (hb : base' ≤ base) {e : TypeId} {A : Option Addr} {c : Nat} {l : List UInt8} (h : Own w base e A c l) : Own w base' e A c l := by
  obtain ⟨h0, h1⟩ := h
  refine ⟨h0, ?_⟩
  rcases h1 with h | ⟨g, cap, cur, hv, hbg, r⟩
  · exact .inl h
  · exact .inr ⟨g, cap, cur, hv, Nat.le_trans hb hbg, r⟩
theorem own_cap {w : World} {base : Nat} {e : TypeId} {A : Option Addr} {c n : Nat} {l : List UInt8} (hn : Hid (l.length = n)) (h : Own w base e A c l) : n ≤ c := by
  have := h.rd.len
  rw [hn.out] at this
  exact this

set_option maxHeartbeats 1000000 in
theorem seal_of (L : List UInt8) (k : Nat) (j : Int) (A : Option Addr) (n c : Nat) (l : List UInt8) (hn : Hid (l.length = n)) (hj : Hid (seB l = L ∧ L.length = k ∧ seE l = j)) (w : World) (hr : Rd w A c l) (ht : Tab w) :
    Calls Tryd.prog 9 #[.slice A n c] w (RetOwn w L k j) := by
  obtain ⟨rfl, rfl, rfl⟩ := hj.out
  clear hj
  have hc2 : (c : Int) ≤ 9223372036854775807 := by have := hr.cap; omega
  have hc1 : (n : Int) ≤ c := by have := hr.len; have := hn.out; omega
  by_cases h : n ≤ 1000
  · have hl : l.length ≤ 1000 := by rw [hn.out]; exact h
    obtain ⟨k, hk⟩ : ∃ k, cl n = k := ⟨_, rfl⟩
    obtain ⟨m, p, q, hm, hp, hq⟩ : ∃ m p q, enc n = m ∧ m.length = p ∧ pad n = q := ⟨_, _, _, rfl, rfl, rfl⟩
    have HC := hid (show clV (n : Int) = (k : Int) ∧ clE (n : Int) = 0 by rw [← hk]; exact cl_yes h)
    have HP := hid (show putB (n : Int) = m ∧ m.length = p ∧ putE (n : Int) = 0 from ⟨by rw [putB_of (lt_most h), hm], hp, by simp [putE, may_of (lt_most h)]⟩)
    have hpq := pad_eq h
    have hkk := cl_le n
    have hk64 := cl_ge n
    rw [hm, hp, hq, hk] at hpq
    rw [hk] at hkk hk64
    have hp3 := enc_small h
    rw [hm, hp] at hp3
    have HF : Hid (fr0 l = 181 :: m ++ l ++ List.replicate q 0 ∧ (fr l).length = k ∧ seB l = fr l ∧ seE l = 0) := by
      have e := se_yes hl
      rw [hn.out, hk] at e
      refine ⟨?_, e.2.1, e.1, e.2.2⟩
      rw [fr0, hn.out, hd8, hm, hq]
    have HS : Hid (splice ([181] ++ m ++ List.replicate (n + q) 0) (1 + p) l = fr0 l ∧ (fr0 l).length = 1 + p + n + q) := by
      have e := splice_mid n l q
      rw [hd8_length, hm, hp, hn.out] at e
      refine ⟨?_, ?_⟩
      · rw [HF.out.1]
        rw [hd8, hm] at e
        exact e
      · rw [HF.out.1]
        simp [hp, hn.out]
        omega
    have HZ := hid (show ((n + q : Nat) : Int) = (k : Int) - (1 + (p : Int)) - 3 by omega)
    obtain ⟨i0, hi0, hz0, hz1, hz2⟩ := info_parts info_u8
    clear hl hk hm hp hq
    go_enter Tryd.func9, Tryd.ntmps9
    go_wp2_with fail
    refine (class_of (n : Int) (k : Int) 0 HC _ ht).mono ?_
    rintro e w1 ⟨rfl, rfl⟩
    go_wp2_with fail
    refine (put_of (n : Int) m p 0 HP _).mono ?_
    rintro e w1 ⟨A1, c1, rfl, hr1, b1⟩
    go_wp2_with (first
      | (at_builtin; refine wpList_append_rd rfl (.tmp 27) (.tmp 28) _ rfl w.heap.size 5 Tryd.underlying23 hi0 hz0 hz1 hz2 (some ⟨w1.heap.size, 0, none⟩) 1 1 [181] (hid rfl) rfl (Own.lit w1 5 [181] b1.size (by simp)) A1 p c1 m (hid HP.out.2.1) rfl (hr1.alloc _) (by omega) (by simp; have := b1.size; omega) ?_; intro A2 c2 w2 hown2 b2; replace b2 := (b1.alloc b1.size _).trans b2; have hl2 := hid (show ([181] ++ m).length = 1 + p by simp [HP.out.2.1]; omega))
      | (at_builtin; refine wpList_append_zeros rfl (.tmp 30) (.tmp 35) 23 3 rfl w.heap.size 5 Tryd.underlying23 Tryd.underlying3 hi0 hz0 hz1 hz2 A2 (1 + p) c2 ([181] ++ m) hl2 rfl hown2 .i64 (↑k - (1 + ↑p) - 3) (n + q) HZ rfl (by omega) (by omega) b2.size ?_; intro A3 c3 w3 hown3 b3; replace b3 := b2.trans b3; have hl3 := hid (show ([181] ++ m ++ List.replicate (n + q) 0).length = 1 + p + (n + q) by rw [List.length_append, hl2.out, List.length_replicate]); obtain ⟨g, rfl⟩ := own_form hown3 (by rw [hl3.out]; omega); have hc3 := own_cap hl3 hown3; have hc4 : c3 ≤ 9223372036854775807 := hown3.rd.cap; have hc5 : ¬ (1 + p = c3) := (by omega))
      | (refine wpList_copy_rd rfl (.tmp 40) (.tmp 41) 23 rfl w.heap.size 5 Tryd.underlying23 hi0 hz1 g (1 + p) _ _ rfl (1 + p + (n + q)) c3 _ hl3 hown3 A n c l hn rfl (hr.keep (b3.mono (Nat.le_refl _))) (by omega) (by omega) ?_; intro w4 hown4 b4; replace b4 := b3.trans b4))
    rw [HS.out.1] at hown4
    have hl4 := hid (show (fr0 l).length = 1 + p + (n + q) by rw [HS.out.2]; omega)
    have HF0 := hid (show fr l = fr0 l ++ three (sm first (fr0 l)) from rfl)
    have HFL := hid (show (fr0 l).length + 3 = k by rw [HS.out.2]; omega)
    generalize fr0 l = F at hown4 hl4 HF0 HFL
    have hm := sm_lt first_lt F
    clear hown2 hown3 hl2 hl3 b2 b3 HS HZ HP HC hr hn hr1 b1
    refine (of_any _ _ _ F hl4 _ hown4.rd).mono ?_
    rintro e w5 ⟨rfl, rfl⟩
    go_wp2_with fail
    unfold sumOf
    refine (bytes_any (sm first F) (by omega) _).mono ?_
    rintro e w5 ⟨rfl, rfl⟩
    have hr3 := lit_rd w4 (three (sm first F)) (by rw [three_length]; omega)
    have hown5 := hown4.keep ((Below.refl w4.heap.size w4).alloc (Nat.le_refl _) (.cells (u8s (three (sm first F))).toArray 5))
    have b5 := b4.alloc b4.size (.cells (u8s (three (sm first F))).toArray 5)
    rw [three_length] at hr3
    go_wp2_with (at_builtin; refine wpList_append_rd rfl (.tmp 43) (.tmp 46) _ rfl w.heap.size 5 Tryd.underlying23 hi0 hz0 hz1 hz2 _ (1 + p + (n + q)) c3 F hl4 rfl hown5 _ 3 3 (three (sm first F)) (hid (three_length _)) rfl hr3 (by omega) b5.size ?_; intro A6 c6 w6 hown6 b6; replace b6 := b5.trans b6)
    go_ret2
    refine ⟨A6, c6, ?_, ?_, b6⟩
    · rw [HF.out.2.2.1, HF.out.2.2.2, HF.out.2.1, ← HFL.out, hl4.out]
      rfl
    · rw [HF.out.2.2.1, HF0.out]
      exact hown6
  · have H := hid (se_no (l := l) (by rw [hn.out]; exact h))
    have HC := hid (cl_not (n := (n : Int)) (by omega))
    clear h
    go_enter Tryd.func9, Tryd.ntmps9
    go_wp2_with fail
    refine (class_of (n : Int) 0 4 HC _ ht).mono ?_
    rintro e w1 ⟨rfl, rfl⟩
    go_wp2
    go_ret2
    exact ⟨none, 0, by rw [H.out.1, H.out.2.2]; rfl, by rw [H.out.1]; exact Own.nil _ _ _, Below.refl _ _⟩
end Go.Proofs.YthnjonabofabkaaDoor
