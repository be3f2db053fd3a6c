/-
  The plain mathematics between an id's bytes and what bytes tell: there and back.
-/
import Derived.Test.YtbhglgcnoidddaaIdG
namespace Go.Proofs.Ytbhglgcnoidddaa
set_option linter.unusedVariables false
set_option linter.unusedSimpArgs false

theorem four_of {l : List UInt8} (h : l.length = 4) : ∃ a b c d, l = [a, b, c, d] := by
  match l, h with
  | [a, b, c, d], _ => exact ⟨a, b, c, d, rfl⟩

theorem iby_take (a b d n : Nat) : (iby a b d n).take 6 = hby a b d := by
  rw [iby, List.take_append_of_le_length (by rw [hby_length]; omega), List.take_of_length_le (by rw [hby_length]; omega)]
theorem iby_drop (a b d n : Nat) : (iby a b d n).drop 6 = dg 7 n := by
  rw [iby, List.drop_append_of_le_length (by rw [hby_length]; omega), List.drop_of_length_le (by rw [hby_length]; omega), List.nil_append]
theorem iby_parts (a b d n : Nat) (ha : a < 256) (hb : b < 4294967296) (hd : d < 256) (hn : n < 72057594037927936) :
    gL (iby a b d n) = a ∧ gC (iby a b d n) = b ∧ gK (iby a b d n) = d ∧ gN (iby a b d n) = n := by
  obtain ⟨x, y, z, u, h4⟩ := four_of (dg_length 4 b)
  have hv : vl [x, y, z, u] = b := by rw [← h4]; exact vl_dg 4 b (by simpa using hb)
  have e : iby a b d n = UInt8.ofNat a :: x :: y :: z :: u :: UInt8.ofNat d :: dg 7 n := by simp [iby, hby, h4]
  refine ⟨?_, ?_, ?_, ?_⟩
  · rw [e, gL]
    show (((UInt8.ofNat a).toNat : Nat) : Int) = a
    rw [ofNat_toNat ha]
  · rw [e, gC]
    show ((vl [x, y, z, u] : Nat) : Int) = b
    rw [hv]
  · rw [e, gK]
    show (((UInt8.ofNat d).toNat : Nat) : Int) = d
    rw [ofNat_toNat hd]
  · rw [gN, iby_drop, vl_dg 7 n (by simpa using hn)]

theorem back_parts {l : List UInt8} (h : l.length = 13) : iby (gL l).toNat (gC l).toNat (gK l).toNat (gN l).toNat = l := by
  match l, h with
  | b0 :: b1 :: b2 :: b3 :: b4 :: b5 :: r, h =>
    have hr : r.length = 7 := by simpa using h
    have e0 : (gL (b0 :: b1 :: b2 :: b3 :: b4 :: b5 :: r)).toNat = b0.toNat := rfl
    have e1 : (gC (b0 :: b1 :: b2 :: b3 :: b4 :: b5 :: r)).toNat = vl [b1, b2, b3, b4] := rfl
    have e5 : (gK (b0 :: b1 :: b2 :: b3 :: b4 :: b5 :: r)).toNat = b5.toNat := rfl
    have e6 : (gN (b0 :: b1 :: b2 :: b3 :: b4 :: b5 :: r)).toNat = vl r := rfl
    have h4 := dg_vl [b1, b2, b3, b4]
    have h7 := dg_vl r
    rw [hr] at h7
    rw [e0, e1, e5, e6, iby, hby, h7]
    show [UInt8.ofNat b0.toNat] ++ dg 4 (vl [b1, b2, b3, b4]) ++ [UInt8.ofNat b5.toNat] ++ r = _
    rw [show dg 4 (vl [b1, b2, b3, b4]) = [b1, b2, b3, b4] from h4, UInt8.ofNat_toNat, UInt8.ofNat_toNat]
    rfl
end Go.Proofs.Ytbhglgcnoidddaa
