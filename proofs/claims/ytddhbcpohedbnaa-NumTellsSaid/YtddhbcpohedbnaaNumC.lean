/-
  What the laws of layer 2 share: is, bad, alive.
-/
import Derived.Test.YtddhbcpohedbnaaNumB
namespace Go.Proofs.Ytddhbcpohedbnaa
open Go.RowKit
set_option linter.unusedVariables false

theorem rd_string {w : World} {A : Option Addr} {n c : Nat} {l : List UInt8} (hn : Hid (l.length = n)) (h : Rd w A c l) : (convert 25 9 (.slice A n c)).run Try.prog w = .ok (.string ⟨l.toArray⟩) w := by
  have e := hn.out
  subst e
  exact h.str _ _ 5 Try.underlying25 Try.underlying5 Try.underlying9

/-- Put, its answer under names. -/
def RetOk (w : World) (l : List UInt8) (k : Nat) (j : Int) (e : Ending) (w' : World) : Prop := ∃ A c, e = .returned (.tuple #[.slice A k c, .int .i64 j]) ∧ Rd w' A c l ∧ Below w.heap.size w w'
theorem put_of (n : Int) (l : List UInt8) (k : Nat) (j : Int) (h : Hid (putB n = l ∧ l.length = k ∧ putE n = j)) (w : World) :
    Calls Try.prog 8 #[.int .i64 n] w (RetOk w l k j) := by
  obtain ⟨rfl, rfl, rfl⟩ := h.out
  exact put_any n w
theorem size_of (n k : Int) (h : Hid (sz n = k)) (w : World) :
    Calls Try.prog 11 #[.int .i64 n] w fun e w' => e = .returned (.int .i64 k) ∧ w = w' := by
  have e := h.out
  subst e
  exact size_any n w

set_option maxHeartbeats 400000 in
theorem is_yes (n : Int) (A : Option Addr) (k c : Nat) (l : List UInt8) (hk : Hid (l.length = k)) (hp : Hid (may n = true ∧ putB n = l)) (w : World) (hr : Rd w A c l) :
    Calls Try.prog 19 #[.int .i64 n, .slice A k c] w fun e w' => e = .returned (.bool true) ∧ Below w.heap.size w w' := by
  have HP := hid (show putB n = l ∧ l.length = k ∧ putE n = 0 from ⟨hp.out.2, hk.out, by simp [putE, hp.out.1]⟩)
  have HS := hid (show sz n = (k : Int) by rw [sz, hp.out.2, hk.out])
  go_enter Try.func19, Try.ntmps19
  go_wp2_with fail
  refine (put_of n l k 0 HP w).mono ?_
  rintro e w' ⟨A1, c1, rfl, hr1, hb⟩
  have s1 := rd_string hk hr1
  have s2 := rd_string hk (hr.keep hb)
  go_wp2_with (go_at_call 11; refine (size_of n (k : Int) HS _).mono ?_; rintro e w' ⟨rfl, rfl⟩)
  go_ret
  exact ⟨rfl, hb⟩

theorem getP_none {l : List UInt8} (h : getP l = none) : gN l = 0 ∧ gS l = 0 ∧ gE l = 8 := by simp [gN, gS, gE, h]
theorem getP_of {l : List UInt8} {n s : Nat} (h : getP l = some (n, s)) : gN l = n ∧ gS l = s ∧ gE l = 0 := by simp [gN, gS, gE, h]
theorem get_of (x y z : Int) (A : Option Addr) (n c : Nat) (l : List UInt8) (hn : Hid (l.length = n)) (h : Hid (gN l = x ∧ gS l = y ∧ gE l = z)) (w : World) (hr : Rd w A c l) :
    Calls Try.prog 7 #[.slice A n c] w fun e w' => e = .returned (.tuple #[.int .i64 x, .int .i64 y, .int .i64 z]) ∧ w = w' := by
  obtain ⟨rfl, rfl, rfl⟩ := h.out
  exact get_any A n c l hn w hr

set_option maxHeartbeats 400000 in
theorem bad_yes (A : Option Addr) (n c : Nat) (l : List UInt8) (hn : Hid (l.length = n)) (h : Hid (getP l = none)) (w : World) (hr : Rd w A c l) :
    Calls Try.prog 10 #[.slice A n c] w fun e w' => e = .returned (.bool true) ∧ w = w' := by
  have HG := hid (getP_none h.out)
  go_enter Try.func10, Try.ntmps10
  go_wp2_with (go_at_call 7; refine (get_of 0 0 8 A n c l hn HG _ hr).mono ?_; rintro e w' ⟨rfl, rfl⟩)
  go_ret
  exact ⟨rfl, rfl⟩

theorem bl_eq {n k : Nat} (h1 : 256 ^ k ≤ n) (h2 : n < 256 ^ (k + 1)) : bl n = k + 1 := by
  have a := bl_big h1
  have b := bl_le _ _ h2
  omega
theorem lit_rd (w : World) (l : List UInt8) (hl : l.length ≤ 1000) : Rd (w.alloc (.cells (u8s l).toArray 5)) (some ⟨w.heap.size, 0, none⟩) l.length l := (Own.lit w 5 l (Nat.le_refl _) hl).rd
theorem enc_of {n k : Nat} {l : List UInt8} (h0 : 248 ≤ n) (h1 : 256 ^ k ≤ n) (h2 : n < 256 ^ (k + 1)) (h3 : n < 72057594037927936) (hl : (UInt8.ofNat (247 + (k + 1)) :: dg (k + 1) n) = l) : may (n : Int) = true ∧ putB (n : Int) = l := by
  refine ⟨may_of h3, ?_⟩
  rw [putB_of h3, enc_high h0, bl_eq h1 h2, hl]
theorem enc_0 : may 0 = true ∧ putB 0 = [0] := ⟨by decide, by rw [show (0 : Int) = ((0 : Nat) : Int) from rfl, putB_of (by omega), enc_low (by omega)]; rfl⟩
theorem enc_247 : may 247 = true ∧ putB 247 = [247] := ⟨by decide, by rw [show (247 : Int) = ((247 : Nat) : Int) from rfl, putB_of (by omega), enc_low (by omega)]; rfl⟩
theorem enc_248 : may 248 = true ∧ putB 248 = [248, 248] := enc_of (n := 248) (k := 0) (by omega) (by omega) (by omega) (by omega) (by decide)
theorem enc_256 : may 256 = true ∧ putB 256 = [249, 1, 0] := enc_of (n := 256) (k := 1) (by omega) (by omega) (by omega) (by omega) (by decide)
theorem enc_65536 : may 65536 = true ∧ putB 65536 = [250, 1, 0, 0] := enc_of (n := 65536) (k := 2) (by omega) (by omega) (by omega) (by omega) (by decide)

set_option maxHeartbeats 800000 in
theorem alive_any (w : World) :
    Calls Try.prog 9 #[] w fun e w' => e = .returned (.bool true) ∧ Below w.heap.size w w' := by
  have H1 := hid enc_0
  have H2 := hid enc_247
  have H3 := hid enc_248
  have H4 := hid enc_256
  have H5 := hid enc_65536
  go_enter Try.func9, Try.ntmps9
  go_wp2_with fail
  go_call is_yes 0 _ 1 1 [0] (hid rfl) H1 _ (lit_rd w [0] (by simp)) as e w1 ⟨rfl, b1⟩
  go_wp2_with fail
  go_call is_yes 247 _ 1 1 [247] (hid rfl) H2 _ (lit_rd w1 [247] (by simp)) as e w2 ⟨rfl, b2⟩
  go_wp2_with fail
  go_call is_yes 248 _ 2 2 [248, 248] (hid rfl) H3 _ (lit_rd w2 [248, 248] (by simp)) as e w3 ⟨rfl, b3⟩
  go_wp2_with fail
  go_call is_yes 256 _ 3 3 [249, 1, 0] (hid rfl) H4 _ (lit_rd w3 [249, 1, 0] (by simp)) as e w4 ⟨rfl, b4⟩
  go_wp2_with fail
  go_call is_yes 65536 _ 4 4 [250, 1, 0, 0] (hid rfl) H5 _ (lit_rd w4 [250, 1, 0, 0] (by simp)) as e w5 ⟨rfl, b5⟩
  go_wp2_with fail
  go_ret
  have s1 := b1.size
  have s2 := b2.size
  have s3 := b3.size
  have s4 := b4.size
  simp only [World.size_alloc] at s1 s2 s3 s4
  have c1 := ((Below.refl w.heap.size w).alloc (Nat.le_refl _) _).trans (b1.mono (by simp))
  have c2 := (c1.alloc (by omega) _).trans (b2.mono (by simp; omega))
  have c3 := (c2.alloc (by omega) _).trans (b3.mono (by simp; omega))
  have c4 := (c3.alloc (by omega) _).trans (b4.mono (by simp; omega))
  have c5 := (c4.alloc (by omega) _).trans (b5.mono (by simp; omega))
  exact ⟨rfl, c5⟩
end Go.Proofs.Ytddhbcpohedbnaa
