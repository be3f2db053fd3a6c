/-
  The document's own answer of layer 10: operations that bytes from a place on tell.
-/
import Derived.Test.YtdhfnacdjjdijaaGreatMlI
import Derived.Test.YtdhfnacdjjdijaaGreatOK
namespace Go.Proofs.YtdhfnacdjjdijaaGreat
open Go.RowKit
set_option linter.unusedVariables false
set_option linter.unusedSimpArgs false

theorem gQ_nil : gQ [] = false := by
  cases h : gQ []
  · rfl
  · rw [gQ, Bool.and_eq_true] at h
    have h1 := (opb_length h.1).2.1
    have h2 := (preB_iff.1 h.2).length_le
    simp only [List.length_nil] at h2
    omega
theorem rfO_nil (k : Nat) : rfO k [] = [] := by
  cases k with
  | zero => rfl
  | succ k => rw [rfO, gQ_nil]; rfl

set_option maxRecDepth 100000 in
set_option maxHeartbeats 3200000 in
theorem rread_of (k f : Nat) (u v : Int) (A : Option Addr) (n c : Nat) (l : List UInt8) (hu : u = (f : Int)) (hv : v = (k : Int)) (hk : k ≤ 4) (hf : f ≤ 20) (hn : Hid (l.length = n)) (w : World) (hr : Rd w A c l) :
    Calls Tryz.prog 33 #[.slice A n c, .int .i64 u, .int .i64 v] w fun e w' => ∃ A' m c', e = .returned (.slice A' m c') ∧ Hid ((rfO k (l.drop f)).length = m) ∧ OwO w' w.heap.size A' c' (rfO k (l.drop f)) ∧ Below w.heap.size w w' := by
  have hc2 : (c : Int) ≤ 9223372036854775807 := by have := hr.cap; omega
  have hc1 : (n : Int) ≤ c := by have := hr.len; have := hn.out; omega
  subst hu hv
  obtain ⟨R, hR⟩ : ∃ R, rfO k (l.drop f) = R := ⟨_, rfl⟩
  have HRR := hid hR
  rw [hR]
  have HR := hid hr
  clear hr hR
  go_enter Tryz.func33, Tryz.ntmps33
  go_wp2
  go_loopw [1, 7, 8] (fun a v i wr => ∃ (j p : Nat) (A' : Option Addr) (c' : Nat) (r : List Opd), j ≤ k ∧ i = .int .i64 (j : Int) ∧ a = .int .i64 (p : Int) ∧ v = .slice A' j c' ∧ Hid (r.length = j) ∧ Hid (r ++ rfO (k - j) (l.drop p) = R) ∧ Hid (p ≤ n ∨ p ≤ 20) ∧ OwO wr w.heap.size A' c' r ∧ Below w.heap.size w wr) (fun _ _ i _ => k - (intOf i).toNat)
  case atStart => exact ⟨0, f, none, 0, [], by omega, rfl, rfl, rfl, hid rfl, hid HRR.out, hid (.inr hf), OwO.nil _ _, Below.refl _ _⟩
  case round =>
    obtain ⟨j, p, A', c', r, hj, rfl, rfl, rfl, hrl, hrr, hp, ho, hb⟩ := hrel
    by_cases hjk : j < k
    · have hlt2 : (j : Int) < (k : Int) := by omega
      by_cases hpn : p ≤ n
      · have hpn2 : (p : Int) ≤ (n : Int) := by omega
        obtain ⟨D, hrun, hrD⟩ := cut_run HR.out hn.out p hpn
        obtain ⟨t, ht⟩ : ∃ t, l.drop p = t := ⟨_, rfl⟩
        have hlen : t.length = n - p := by rw [← ht, List.length_drop, hn.out]
        have hrr1 := hrr.out
        rw [show k - j = (k - j - 1) + 1 by omega, ht, rfO] at hrr1
        have hlz := gZ_le t
        have hgg := got_g t
        have hdd : (t.drop (gZ t)) = l.drop (p + gZ t) := by rw [← ht, List.drop_drop]
        rw [hdd] at hrr1
        rw [ht] at hrD
        obtain ⟨y, hy⟩ : ∃ y, gO t = y := ⟨_, rfl⟩
        obtain ⟨z, hz⟩ : ∃ z, gZ t = z := ⟨_, rfl⟩
        obtain ⟨q, hq⟩ : ∃ q, gQ t = q := ⟨_, rfl⟩
        rw [hy, hz, hq] at hgg
        rw [hy, hz, hq] at hrr1
        rw [hz] at hlz
        have HG := hid hgg
        have HX := hid hrr1
        have HT := hid hlen
        have hrd := hrD.keep hb
        have hzn : p + z ≤ n := by omega
        clear hgg hrr1 hrr hdd ht hy hz hq hrD
        go_wp2_with fail
        refine (rget9_of D (n - p) (c - p) t HT _ hrd).mono ?_
        rintro e w1 ⟨o1, A1, k1, c1, z1, j1, rfl, hgot, hk1, ho1, b1⟩
        obtain ⟨rfl, rfl, rfl⟩ := Got.one hgot HG.out
        have HK := hid hk1
        have hb1 := below_in hb b1
        have hO1 := ho.keep b1
        have ho1' := OwnI.base hb.size ho1
        have th := thereO_new w1 #[.int .u8 0, .int .u8 0, .int .u32 0, .int .u8 0, .int .i64 0, .int .u8 0, .int .u32 0, .int .u8 0, .int .i64 0, .int .i64 0, .int .u8 0, .int .u32 0, .int .u8 0, .int .i64 0, .int .u8 0, .int .u32 0, .slice none 0 0] rfl 58
        clear hrd hgot HG hk1 ho1 ho hb b1 hrun
        cases q
        · have HY := hid (show r = R by rw [← HX.out]; simp)
          clear HX
          go_wp2_with (refine wpList_store_o rfl (.tmp 9) (.tmp 28) rfl w1.heap.size rfl o1 A1 k1 c1 rfl th w1.heap.size (Nat.le_refl _) ?_; intro w2 bx2 th2 b2 hh2 sz2; clear sz2 hh2; have b12 : Below w1.heap.size w1 w2 := ((Below.refl _ _).alloc (Nat.le_refl _) _).trans b2)
          go_ret
          exact ⟨A', j, c', rfl, hid (by rw [← HY.out]; exact hrl.out), by rw [← HY.out]; exact hO1.keep b12, below_in hb1 b12⟩
        · have HY := hid (show (r ++ [o1]) ++ rfO (k - j - 1) (l.drop (p + z)) = R by rw [← HX.out]; simp)
          clear HX
          have one : True := trivial
          have two : True := trivial
          have three : True := trivial
          go_wp2_with (first
            | (clear one; refine wpList_store_o rfl (.tmp 9) (.tmp 28) rfl w1.heap.size rfl o1 A1 k1 c1 rfl th w1.heap.size (Nat.le_refl _) ?_; intro w2 bx2 th2 b2 hh2 sz2; clear sz2 hh2; have b12 : Below w1.heap.size w1 w2 := ((Below.refl _ _).alloc (Nat.le_refl _) _).trans b2; have hb2 := below_in hb1 b12; have hO2 := hO1.keep b12; have ho2 := ho1'.keep b12; have hs2 := hb2.size)
            | (clear two; refine wpList_load_o rfl (.tmp 9) rfl _ rfl bx2 ?_)
            | (at_builtin; clear three; refine wpList_append_o rfl (.tmp 34) (.tmp 36) rfl w.heap.size A' j c' r hrl rfl o1 A1 k1 c1 HK _ rfl hO2 ho2 _ rfl rfl (by omega) hs2 ?_; intro A4 c4 w4 ho4 b4))
          have hb4 := hb2.trans b4
          clear hO1 ho1' th th2 bx2 b2 b12 hb2 hO2 ho2 b4
          go_roundw
          case rel => exact ⟨j + 1, p + z, A4, c4, r ++ [o1], by omega, by go_num, by go_num, rfl, hid (by rw [List.length_append, hrl.out]; rfl), hid (by rw [show k - (j + 1) = k - j - 1 by omega]; exact HY.out), hid (.inl hzn), ho4, hb4⟩
          case measure => simp [intOf]; omega
      · have hpn2 : ¬ (p : Int) ≤ (n : Int) := by omega
        have HY := hid (show r = R by
          have := hrr.out
          rwa [List.drop_eq_nil_of_le (by rw [hn.out]; omega), rfO_nil, List.append_nil] at this)
        go_wp2
        go_ret
        exact ⟨A', j, c', rfl, hid (by rw [← HY.out]; exact hrl.out), by rw [← HY.out]; exact ho, hb⟩
    · have ej : j = k := by omega
      subst ej
      have hlt2 : ¬ ((j : Nat) : Int) < (j : Int) := by omega
      have HY := hid (show r = R by
        have := hrr.out
        rwa [Nat.sub_self, rfO, List.append_nil] at this)
      go_wp2
      go_ret
      exact ⟨A', j, c', rfl, hid (by rw [← HY.out]; exact hrl.out), by rw [← HY.out]; exact ho, hb⟩
end Go.Proofs.YtdhfnacdjjdijaaGreat
