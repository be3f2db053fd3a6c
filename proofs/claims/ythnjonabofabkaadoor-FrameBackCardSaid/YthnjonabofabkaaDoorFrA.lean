/-
  The contracts of num.Put, num.Size, num.Get under names; of the document's own Bytes of layer 2.
-/
import Derived.Test.YthnjonabofabkaaDoorNumB
namespace Go.Proofs.YthnjonabofabkaaDoor
open Go.RowKit
set_option linter.unusedVariables false

theorem rd_string {w : World} {A : Option Addr} {n c : Nat} {l : List UInt8} (hn : Hid (l.length = n)) (h : Rd w A c l) : (convert 23 9 (.slice A n c)).run Tryd.prog w = .ok (.string ⟨l.toArray⟩) w := by
  have e := hn.out
  subst e
  exact h.str _ _ 5 Tryd.underlying23 Tryd.underlying5 Tryd.underlying9

/-- Put, its answer under names. -/
def RetOk (w : World) (l : List UInt8) (k : Nat) (j : Int) (e : Ending) (w' : World) : Prop := ∃ A c, e = .returned (.tuple #[.slice A k c, .int .i64 j]) ∧ Rd w' A c l ∧ Below w.heap.size w w'
theorem put_of (n : Int) (l : List UInt8) (k : Nat) (j : Int) (h : Hid (putB n = l ∧ l.length = k ∧ putE n = j)) (w : World) :
    Calls Tryd.prog 17 #[.int .i64 n] w (RetOk w l k j) := by
  obtain ⟨rfl, rfl, rfl⟩ := h.out
  exact put_any n w
theorem size_of (n k : Int) (h : Hid (sz n = k)) (w : World) :
    Calls Tryd.prog 20 #[.int .i64 n] w fun e w' => e = .returned (.int .i64 k) ∧ w = w' := by
  have e := h.out
  subst e
  exact size_any n w

theorem getP_none {l : List UInt8} (h : getP l = none) : gN l = 0 ∧ gS l = 0 ∧ gE l = 8 := by simp [gN, gS, gE, h]
theorem getP_of {l : List UInt8} {n s : Nat} (h : getP l = some (n, s)) : gN l = n ∧ gS l = s ∧ gE l = 0 := by simp [gN, gS, gE, h]
theorem get_of (x y z : Int) (A : Option Addr) (n c : Nat) (l : List UInt8) (hn : Hid (l.length = n)) (h : Hid (gN l = x ∧ gS l = y ∧ gE l = z)) (w : World) (hr : Rd w A c l) :
    Calls Tryd.prog 34 #[.slice A n c] w fun e w' => e = .returned (.tuple #[.int .i64 x, .int .i64 y, .int .i64 z]) ∧ w = w' := by
  obtain ⟨rfl, rfl, rfl⟩ := h.out
  exact get_any A n c l hn w hr

theorem bl_eq {n k : Nat} (h1 : 256 ^ k ≤ n) (h2 : n < 256 ^ (k + 1)) : bl n = k + 1 := by
  have a := bl_big h1
  have b := bl_le _ _ h2
  omega
theorem lit_rd (w : World) (l : List UInt8) (hl : l.length ≤ 1000) : Rd (w.alloc (.cells (u8s l).toArray 5)) (some ⟨w.heap.size, 0, none⟩) l.length l := (Own.lit w 5 l (Nat.le_refl _) hl).rd
theorem dg_cons : ∀ (k n : Nat), dg (k + 1) n = UInt8.ofNat (n / 256 ^ k % 256) :: dg k n
  | 0, n => by simp [dg]
  | k + 1, n => by
    rw [dg, dg_cons k (n / 256), dg, List.cons_append, Nat.div_div_eq_div_mul]
    congr 3
    rw [Nat.pow_succ, Nat.mul_comm]
theorem ret_slice {A : Option Addr} {n m c : Nat} (h : n = m) : Ending.returned (.slice A n c) = .returned (.slice A m c) := by rw [h]
theorem own_one (w : World) (x : UInt8) (y : Int) (h : Hid ((x.toNat : Int) = y)) : Own (w.alloc (.cells #[.int .u8 y] 5)) w.heap.size 5 (some ⟨w.heap.size, 0, none⟩) 1 [x] := by
  have e := h.out
  subst e
  exact Own.lit w 5 [x] (Nat.le_refl _) (by simp)

set_option maxHeartbeats 1000000 in
theorem nbytes_any (n : Nat) (hn : n < 72057594037927936) (w : World) :
    Calls Tryd.prog 31 #[.int .i64 (n : Int)] w (RetRd w (enc n)) := by
  by_cases h2 : n < 248
  · have HE := hid (enc_low h2)
    have HX := hid (show ((UInt8.ofNat n).toNat : Int) = n by rw [ofNat_toNat (by omega)])
    have hm2 : (n : Int) < 248 := by omega
    clear hn h2
    go_enter Tryd.func31, Tryd.ntmps31
    go_wp2
    go_ret
    exact ⟨_, 1, by rw [HE.out]; rfl, by rw [HE.out]; exact (own_one w _ _ HX).rd, (Below.refl _ _).alloc (Nat.le_refl _) _⟩
  · have HE := hid (enc_high (n := n) (by omega))
    have hbl := bl_le7 hn
    have hm2 : ¬ (n : Int) < 248 := by omega
    have hnn : (n : Int) < 72057594037927936 := by omega
    have HB := hid hbl
    obtain ⟨i0, hi0, hz0, hz1, hz2⟩ := info_parts info_u8
    clear hn h2 hbl
    go_enter Tryd.func31, Tryd.ntmps31
    go_wp2
    go_loopg [3, 4, 5] n (fun g l k m wr => ∃ (j : Nat) (A : Option Addr) (c : Nat), g ≤ n ∧ l = .slice A j c ∧ Rd wr A c (dg j n) ∧ k = .int .i64 (247 + (j : Int)) ∧ m = .int .i64 (g : Int) ∧ g = n / 256 ^ j ∧ j + bl g = bl n ∧ Below w.heap.size w wr)
    case atStart => exact ⟨0, none, 0, Nat.le_refl _, rfl, Rd.nil _, rfl, rfl, by simp, by omega, Below.refl _ _⟩
    case round =>
      obtain ⟨j, A, c, hg, rfl, hr, rfl, rfl, hgd, hj, hb⟩ := hrel
      have hj7 : j ≤ 7 := by have := HB.out; omega
      have HJ := hid hj
      have HG := hid hgd
      have HL := hid (dg_length j n)
      clear hj hgd
      by_cases h0 : gk = 0
      · subst h0
        rw [bl_zero] at HJ
        have hj8 : (j : Int) ≤ 7 := by omega
        have HX := hid (show ((UInt8.ofNat (247 + j)).toNat : Int) = 247 + (j : Int) by rw [ofNat_toNat (by omega)]; omega)
        go_wp2_with (at_builtin; refine wpList_append_rd rfl (.tmp 26) (.tmp 27) _ rfl wr.heap.size 5 Tryd.underlying23 hi0 hz0 hz1 hz2 (some ⟨wr.heap.size, 0, none⟩) 1 1 [UInt8.ofNat (247 + j)] (hid rfl) rfl (own_one wr _ _ HX) A j c (dg j n) HL rfl (hr.alloc _) (by omega) (by simp) ?_; intro A' c' w1 hown hb1)
        go_ret
        have ej : j = bl n := by have := HJ.out; omega
        refine ⟨A', c', ?_, ?_, (hb.alloc hb.size _).trans (hb1.mono hb.size)⟩
        · exact ret_slice (by rw [HE.out, ← ej, List.length_cons, dg_length]; omega)
        · have := hown.rd
          rw [HE.out, ← ej]
          exact this
      · have hp : 0 < gk := by omega
        have hp2 : (0 : Int) < (gk : Int) := by omega
        have hgn : (gk : Int) < 72057594037927936 := by omega
        have HS := hid (bl_succ hp)
        have HX := hid (show ((UInt8.ofNat (gk % 256)).toNat : Int) = (gk : Int) % 256 by rw [ofNat_toNat (by omega)]; omega)
        have HC := hid (dg_cons j n)
        clear h0
        go_wp2_with (at_builtin; refine wpList_append_rd rfl (.tmp 19) (.tmp 20) _ rfl wr.heap.size 5 Tryd.underlying23 hi0 hz0 hz1 hz2 (some ⟨wr.heap.size, 0, none⟩) 1 1 [UInt8.ofNat (gk % 256)] (hid rfl) rfl (own_one wr _ _ HX) A j c (dg j n) HL rfl (hr.alloc _) (by omega) (by simp) ?_; intro A' c' w1 hown hb1)
        go_roundg (gk / 256)
        case measure => omega
        case rel =>
          have hr1 := hown.rd
          have hg2 := HG.out
          refine ⟨j + 1, A', c', by omega, by first | rfl | rw [Nat.add_comm], ?_, by go_num, by go_num, by rw [hg2, Nat.div_div_eq_div_mul, Nat.pow_succ], by have := HJ.out; have := HS.out; omega, (hb.alloc hb.size _).trans (hb1.mono hb.size)⟩
          rw [HC.out, ← hg2]
          exact hr1

theorem nbytes_of (n : Nat) (l : List UInt8) (k : Nat) (h : Hid (enc n = l ∧ l.length = k)) (hn : n < 72057594037927936) (w : World) :
    Calls Tryd.prog 31 #[.int .i64 (n : Int)] w fun e w' => ∃ A c, e = .returned (.slice A k c) ∧ Rd w' A c l ∧ Below w.heap.size w w' := by
  obtain ⟨rfl, rfl⟩ := h.out
  exact nbytes_any n hn w

end Go.Proofs.YthnjonabofabkaaDoor
