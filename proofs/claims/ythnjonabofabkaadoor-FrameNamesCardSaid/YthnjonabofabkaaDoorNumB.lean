/-
  The contracts of num.Size, num.made, num.Put, num.Get.
-/
import Derived.Test.YthnjonabofabkaaDoorNumA
namespace Go.Proofs.YthnjonabofabkaaDoor
open Go.RowKit
set_option linter.unusedVariables false

def may (n : Int) : Bool := decide (0 ≤ n) && decide (n < 72057594037927936)
def putB (n : Int) : List UInt8 := if may n then enc n.toNat else []
def putE (n : Int) : Int := if may n then 0 else 2
def sz (n : Int) : Int := (putB n).length
theorem may_nat {n : Int} (h : may n = true) : ∃ m : Nat, n = (m : Int) ∧ m < 72057594037927936 ∧ putB n = enc m := by
  have h' := h
  simp only [may, Bool.and_eq_true, decide_eq_true_eq] at h'
  exact ⟨n.toNat, by omega, by omega, by simp [putB, h]⟩
theorem may_of {m : Nat} (h : m < 72057594037927936) : may (m : Int) = true := by simp [may]; omega
theorem putB_of {m : Nat} (h : m < 72057594037927936) : putB (m : Int) = enc m := by simp [putB, may_of h]
theorem putB_length (n : Int) : (putB n).length ≤ 8 := by
  unfold putB
  split
  · rename_i h
    obtain ⟨m, rfl, hm, _⟩ := may_nat h
    exact (enc_bounds hm).2
  · simp

set_option maxHeartbeats 400000 in
theorem size_any (n : Int) (w : World) :
    Calls Tryd.prog 20 #[.int .i64 n] w fun e w' => e = .returned (.int .i64 (sz n)) ∧ w = w' := by
  by_cases h0 : n < 0
  · have H := hid (show sz n = 0 by simp [sz, putB, may]; omega)
    go_enter Tryd.func20, Tryd.ntmps20
    go_wp2
    go_ret
    exact ⟨ret_int H.out.symm, rfl⟩
  · by_cases h1 : 72057594037927936 ≤ n
    · have H := hid (show sz n = 0 by simp [sz, putB, may]; omega)
      go_enter Tryd.func20, Tryd.ntmps20
      go_wp2
      go_ret
      exact ⟨ret_int H.out.symm, rfl⟩
    · have hm : may n = true := by simp [may]; omega
      obtain ⟨m, rfl, hlt, hp⟩ := may_nat hm
      by_cases h2 : m < 248
      · have H := hid (show sz (m : Int) = 1 by rw [sz, hp, enc_length_low h2]; rfl)
        clear hp hm
        go_enter Tryd.func20, Tryd.ntmps20
        go_wp2
        go_ret
        exact ⟨ret_int H.out.symm, rfl⟩
      · have H := hid (show sz (m : Int) = 1 + bl m by rw [sz, hp, enc_length_high (by omega)]; omega)
        have hb := bl_le7 hlt
        clear hp hm
        go_enter Tryd.func20, Tryd.ntmps20
        go_wp2_with (go_at_call 30; refine (following_any m hlt _).mono ?_; rintro e w' ⟨rfl, rfl⟩)
        go_ret
        exact ⟨ret_int H.out.symm, rfl⟩

/-- The call hands back a slice of bytes that it made. -/
def RetRd (w : World) (l : List UInt8) (e : Ending) (w' : World) : Prop := ∃ A c, e = .returned (.slice A l.length c) ∧ Rd w' A c l ∧ Below w.heap.size w w'
def RetPut (w : World) (l : List UInt8) (k : Int) (e : Ending) (w' : World) : Prop := ∃ A c, e = .returned (.tuple #[.slice A l.length c, .int .i64 k]) ∧ Rd w' A c l ∧ Below w.heap.size w w'

theorem info_u8 : (Tryd.prog.info? 5).map (fun i => (i.zero, i.size, i.bytes)) = some (some (.int .u8 0), 1, 1) := by kernel_rfl

set_option maxHeartbeats 400000 in
theorem made_any (x : UInt8) (A : Option Addr) (n c : Nat) (l : List UInt8) (hn : Hid (l.length = n)) (hlen : n ≤ 1000) (w : World) (hr : Rd w A c l) :
    Calls Tryd.prog 27 #[.int .u8 (x.toNat : Int), .slice A n c] w (RetRd w (x :: l)) := by
  obtain ⟨i0, hi0, hz0, hz1, hz2⟩ := info_parts info_u8
  go_enter Tryd.func27, Tryd.ntmps27
  go_wp2_with (at_builtin; refine wpList_append_rd rfl (.tmp 6) (.tmp 7) _ rfl w.heap.size 5 Tryd.underlying23 hi0 hz0 hz1 hz2 (some ⟨w.heap.size, 0, none⟩) 1 1 [x] (hid rfl) rfl (Own.lit w 5 [x] (Nat.le_refl _) (by simp)) A n c l hn rfl (hr.alloc _) (by omega) (by simp) ?_; intro A' c' w1 hown hb)
  go_ret
  refine ⟨A', c', ?_, hown.rd, ((Below.refl _ _).alloc (Nat.le_refl _) _).trans hb⟩
  have e := hn.out
  subst e
  congr 2
  simp
  omega

theorem made_of (y : Int) (x : UInt8) (hx : Hid ((x.toNat : Int) = y)) (A : Option Addr) (n c : Nat) (l : List UInt8) (hn : Hid (l.length = n)) (hlen : n ≤ 1000) (w : World) (hr : Rd w A c l) :
    Calls Tryd.prog 27 #[.int .u8 y, .slice A n c] w (RetRd w (x :: l)) := by
  have e := hx.out
  subst e
  exact made_any x A n c l hn hlen w hr

theorem digits_of (n k : Nat) (ki : Int) (hki : Hid ((k : Int) = ki)) (hn : n < 72057594037927936) (hk : k ≤ 8) (w : World) :
    Calls Tryd.prog 28 #[.int .i64 (n : Int), .int .i64 ki] w fun e w' => e = .returned (.slice (some ⟨w.heap.size, 0, none⟩) k k) ∧ w' = w.alloc (.cells (u8s (dg k n)).toArray 5) := by
  have e := hki.out
  subst e
  exact digits_any n k hn hk w

set_option maxHeartbeats 800000 in
theorem put_any (n : Int) (w : World) :
    Calls Tryd.prog 17 #[.int .i64 n] w (RetPut w (putB n) (putE n)) := by
  cases hm : may n
  · have H := hid (show putB n = [] by simp [putB, hm])
    have H1 := hid (show putE n = 2 by simp [putE, hm])
    have hs : sz n = 0 := by simp [sz, putB, hm]
    clear hm
    go_enter Tryd.func17, Tryd.ntmps17
    go_wp2_with (go_at_call 20; refine (size_any n _).mono ?_; rintro e w' ⟨rfl, rfl⟩)
    go_ret2
    exact ⟨none, 0, by rw [H.out, H1.out]; rfl, by rw [H.out]; exact Rd.nil _, Below.refl _ _⟩
  · obtain ⟨m, rfl, hlt, hp⟩ := may_nat hm
    have H1 := hid (show putE (m : Int) = 0 by simp [putE, hm])
    clear hm
    by_cases h2 : m < 248
    · have hs : sz (m : Int) = 1 := by rw [sz, hp, enc_length_low h2]; rfl
      have H := hid hp
      have HE := hid (enc_low h2)
      have hx : ((UInt8.ofNat m).toNat : Int) = m := by rw [ofNat_toNat (by omega)]
      have HX := hid hx
      have hm2 : (m : Int) ≤ 247 := by omega
      clear hp hx hlt h2
      go_enter Tryd.func17, Tryd.ntmps17
      go_wp2_with (go_at_call 20; refine (size_any (m : Int) _).mono ?_; rintro e w' ⟨rfl, rfl⟩)
      refine (made_of (m : Int) (UInt8.ofNat m) HX none 0 0 [] (hid rfl) (by omega) _ (Rd.nil _)).mono ?_
      rintro e w' ⟨A, c, rfl, hr, hb⟩
      go_wp2
      go_ret2
      exact ⟨A, c, by rw [H.out, HE.out, H1.out]; rfl, by rw [H.out, HE.out]; exact hr, hb⟩
    · have hs : sz (m : Int) = 1 + bl m := by rw [sz, hp, enc_length_high (by omega)]; omega
      have H := hid hp
      have HE := hid (enc_high (n := m) (by omega))
      have hb7 := bl_le7 hlt
      have hb1 := bl_pos (show 0 < m by omega)
      have t0 : ((1 + (bl m : Int)) == 0) = false := by simp; omega
      have t1 : ((1 + (bl m : Int)) == 1) = false := by simp; omega
      clear hp h2
      go_enter Tryd.func17, Tryd.ntmps17
      go_wp2_with (go_at_call 20; refine (size_any (m : Int) _).mono ?_; rintro e w' ⟨rfl, rfl⟩)
      have HK := hid (show ((bl m : Nat) : Int) = 1 + (bl m : Int) - 1 by omega)
      refine (digits_of m (bl m) _ HK hlt (by omega) _).mono ?_
      rintro e w' ⟨rfl, rfl⟩
      go_wp2_with fail
      have HX := hid (show ((UInt8.ofNat (247 + bl m)).toNat : Int) = 247 + (1 + (bl m : Int)) - 1 by rw [ofNat_toNat (by omega)]; omega)
      have hown := Own.lit w 5 (dg (bl m) m) (Nat.le_refl _) (by rw [dg_length]; omega)
      have hr0 := hown.rd
      rw [dg_length] at hr0
      refine (made_of _ (UInt8.ofNat (247 + bl m)) HX _ (bl m) (bl m) (dg (bl m) m) (hid (dg_length _ _)) (by omega) _ hr0).mono ?_
      rintro e w' ⟨A, c, rfl, hr, hb⟩
      go_wp2
      go_ret2
      exact ⟨A, c, by rw [H.out, HE.out, H1.out]; rfl, by rw [H.out, HE.out]; exact hr, ((Below.refl _ _).alloc (Nat.le_refl _) _).trans (hb.mono (by simp))⟩

def gN (l : List UInt8) : Int := match getP l with | some (n, _) => n | none => 0
def gS (l : List UInt8) : Int := match getP l with | some (_, s) => s | none => 0
def gE (l : List UInt8) : Int := match getP l with | some _ => 0 | none => 8

theorem get_test (x : UInt8) (r : List UInt8) (h : told x ≤ (x :: r).length) : (sz (rvI ((x :: r).take (told x))) = told x) ↔ fits (rv ((x :: r).take (told x))) (told x) = true := by
  have ht := told_bounds x
  have hl : ((x :: r).take (told x)).length = told x := by rw [List.length_take]; omega
  by_cases h8 : told x ≤ 8
  · rw [rvI_rv (by omega)]
    have hlt : rv ((x :: r).take (told x)) < 72057594037927936 := by
      match hd : (x :: r).take (told x), hl with
      | [], hl => simp at hl; omega
      | [b], _ => rw [rv_one]; have := b.toNat_lt; omega
      | b :: c :: l, hl =>
        rw [rv_more]
        have := vl_lt (c :: l)
        have : 256 ^ (c :: l).length ≤ 256 ^ 7 := Nat.pow_le_pow_right (by decide) (by simp at hl ⊢; omega)
        omega
    simp only [sz, putB_of hlt, fits, Bool.and_eq_true, decide_eq_true_eq]
    omega
  · have := putB_length (rvI ((x :: r).take (told x)))
    simp only [sz, fits, Bool.and_eq_true, decide_eq_true_eq]
    omega

set_option maxHeartbeats 800000 in
theorem get_any (A : Option Addr) (n c : Nat) (l : List UInt8) (hn : Hid (l.length = n)) (w : World) (hr : Rd w A c l) :
    Calls Tryd.prog 34 #[.slice A n c] w fun e w' => e = .returned (.tuple #[.int .i64 (gN l), .int .i64 (gS l), .int .i64 (gE l)]) ∧ w = w' := by
  have hc2 : (c : Int) ≤ 9223372036854775807 := by have := hr.cap; omega
  have hc1 : (n : Int) ≤ c := by have := hr.len; have := hn.out; omega
  match l with
  | [] =>
    have e := hn.out
    simp at e
    subst e
    clear hr hn
    go_enter Tryd.func34, Tryd.ntmps34
    go_wp2
    go_ret3
    exact ⟨rfl, rfl⟩
  | x :: r =>
    obtain ⟨b, o, rfl, hcell⟩ := hr.at_ (by simp)
    have ht := told_bounds x
    have hn0 : (0 : Int) < n := by have := hn.out; simp at this; omega
    have hnz : ((n : Int) == 0) = false := by simp; omega
    have h0 := hcell 0 (by simp)
    simp only [Nat.add_zero, List.getElem_cons_zero] at h0
    have ht1 : (1 : Int) ≤ told x := by omega
    have ht9 : (told x : Int) ≤ 9 := by omega
    have e := hn.out
    by_cases hlt : n < told x
    · have HN := hid (show getP (x :: r) = none by rw [getP, if_pos (by omega)])
      clear hcell hr e ht
      go_enter Tryd.func34, Tryd.ntmps34
      go_wp2_with (go_at_call 35; refine (told_any x _).mono ?_; rintro e w' ⟨rfl, rfl⟩)
      go_ret3
      exact ⟨by rw [gN, gS, gE, HN.out]; rfl, rfl⟩
    · have hge : (told x : Int) ≤ n := by omega
      have htest := get_test x r (by omega)
      obtain ⟨d, hd⟩ : ∃ d, (x :: r).take (told x) = x :: d := by
        obtain ⟨k, hk⟩ : ∃ k, told x = k + 1 := ⟨told x - 1, by omega⟩
        rw [hk]; exact ⟨_, rfl⟩
      have hdl : (x :: d).length = told x := by rw [← hd, List.length_take]; omega
      have HDL := hid hdl
      have hcd : Hid (∀ j (h : j < (x :: d).length), w.cell? ⟨b, o + j, none⟩ = some (.int .u8 ((x :: d)[j].toNat : Int))) := by
        intro j hj
        have hj2 : j < (x :: r).length := by omega
        rw [hcell j hj2]
        simp only [← hd, List.getElem_take]
      rw [hd] at htest
      have hv := value_any b o c x d (told x) w HDL (by omega) (by omega) hc2 hcd.out
      have HV := hid hv
      have hgp : getP (x :: r) = if fits (rv (x :: d)) (told x) = true then some (rv (x :: d), told x) else none := by rw [getP, if_neg (by omega), hd]
      by_cases hf : fits (rv (x :: d)) (told x) = true
      · have hs := htest.2 hf
        rw [if_pos hf] at hgp
        have h8 : told x ≤ 8 := by simp only [fits, Bool.and_eq_true, decide_eq_true_eq] at hf; exact hf.1
        have HI := hid (rvI_rv (l := x :: d) (by omega))
        have HG := hid hgp
        clear hgp hf htest hcell hr e hd hdl hlt hv ht h8
        go_enter Tryd.func34, Tryd.ntmps34
        go_wp2_with (first | (go_at_call 35; refine (told_any x _).mono ?_; rintro e w' ⟨rfl, rfl⟩) | (go_at_call 36; refine Calls.mono HV.out ?_; rintro e w' ⟨rfl, rfl⟩) | (go_at_call 20; refine (size_any _ _).mono ?_; rintro e w' ⟨rfl, rfl⟩))
        go_ret3
        exact ⟨by rw [gN, gS, gE, HG.out, HI.out]; rfl, rfl⟩
      · have hs : ¬ (sz (rvI (x :: d)) = told x) := fun h => hf (htest.1 h)
        rw [if_neg hf] at hgp
        have HG := hid hgp
        have hs1 : (sz (rvI (x :: d)) != (told x : Int)) = true := by simpa using hs
        clear hgp hf htest hcell hr e hd hdl hlt hv ht hs
        go_enter Tryd.func34, Tryd.ntmps34
        go_wp2_with (first | (go_at_call 35; refine (told_any x _).mono ?_; rintro e w' ⟨rfl, rfl⟩) | (go_at_call 36; refine Calls.mono HV.out ?_; rintro e w' ⟨rfl, rfl⟩) | (go_at_call 20; refine (size_any _ _).mono ?_; rintro e w' ⟨rfl, rfl⟩))
        go_ret3
        exact ⟨by rw [gN, gS, gE, HG.out]; rfl, rfl⟩
end Go.Proofs.YthnjonabofabkaaDoor
