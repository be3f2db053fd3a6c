/-
  The contracts of Clone, Hide (both) and of the reference's Blanked.
-/
import Derived.Test.YtikcknngcdjnhaaRunO
import Derived.Laws.OwnMore
import Derived.Lib.SliceRun
namespace Go.Proofs.Ytikcknngcdjnhaa
open Go.RowKit
set_option linter.unusedVariables false

theorem OwnI.own_at {w : World} {base : Nat} {e : TypeId} {A : Option Addr} {c : Nat} {l : List Int} (h : OwnI w base e A c l) (hp : 0 < l.length) :
    ∃ g, A = some ⟨g, 0, none⟩ ∧ base ≤ g ∧ (∀ j (h : j < l.length), w.cell? ⟨g, j, none⟩ = some (.int .i32 l[j])) ∧ (∀ j, w.frozen? ⟨g, j, none⟩ = false) ∧
      (∀ j x, -2147483648 ≤ x → x ≤ 2147483647 → OwnI (w.setCell ⟨g, j, none⟩ (.int .i32 x)) base e A c (l.set j x)) := by
  obtain ⟨b, o, hA, hc⟩ := h.ri.at_ hp
  have h1 := h.1
  rcases h1.2 with ⟨hv, hn⟩ | ⟨g, cap, cur, hv, hbg, hg, hnc, hcm, hcs, htk⟩
  · rw [i32s_length] at hn; omega
  · injection hv with e1 e2 e3
    subst e1
    injection hA with hA
    injection hA with hb ho
    subst hb ho
    refine ⟨g, rfl, hbg, fun j hj => by have := hc j hj; rwa [Nat.zero_add] at this, fun j => frozen_of_row w g j cur e hg, fun j x x0 x1 => ⟨?_, ?_⟩⟩
    · have hs := (World.ownsRow.stored (show w.ownsRow base e 1 (.slice (some ⟨g, 0, none⟩) (i32s l).length c) (i32s l).length (i32s l) from h1) j (.int .i32 x)).1
      have e2 : (i32s l).set j (.int .i32 x) = i32s (l.set j x) := by simp [i32s, List.map_set]
      unfold OwnV
      rw [← e2, List.length_set]
      exact hs
    · intro y hy
      rcases List.mem_or_eq_of_mem_set hy with hy | rfl
      · exact h.2 y hy
      · exact ⟨x0, x1⟩

/-- The call hands back a row of its own. -/
def RetOwn (w : World) (l : List Int) (n : Nat) (e : Ending) (w' : World) : Prop := ∃ A c, e = .returned (.slice A n c) ∧ OwnI w' w.heap.size 21 A c l ∧ Below w.heap.size w w'

set_option maxHeartbeats 400000 in
theorem clone_any (A : Option Addr) (n c : Nat) (l : List Int) (hn : Hid (l.length = n)) (h5 : n ≤ 10000) (w : World) (hr : Ri w A c l) :
    Calls Try.prog 22 #[.slice A n c] w (RetOwn w l n) := by
  obtain ⟨i0, hi0, hz0, hz1, hz2⟩ := info_parts info_i32
  match A with
  | none =>
    have hl := hr.none
    have e := hn.out
    subst hl
    have HN := hid e
    clear hr hn e
    go_enter Try.func22, Try.ntmps22
    have hq := Lib.run_eql_slice_nil (P := Try.prog) w 22 21 none n c 0 0 Try.underlying22
    go_wp2
    go_ret
    exact ⟨none, 0, by rw [← HN.out]; rfl, OwnI.nil _ _ _, Below.refl _ _⟩
  | some a =>
    have HR := hid hr
    have hq := Lib.run_eql_slice_nil (P := Try.prog) w 22 21 (some a) n c 0 0 Try.underlying22
    clear hr
    go_enter Try.func22, Try.ntmps22
    go_wp2_with (at_builtin; refine wpList_append_i rfl (.tmp 5) (.tmp 6) _ rfl w.heap.size 21 Try.underlying22 hi0 hz0 hz1 hz2 (some ⟨w.heap.size, 0, none⟩) 0 0 [] (hid rfl) rfl (OwnI.lit w 21 [] In32.nil (Nat.le_refl _) (by simp)) (some a) n c l hn rfl (HR.out.alloc _) (by omega) (by simp) ?_; intro A' c' w1 hown hb)
    go_ret
    exact ⟨A', c', by simp, hown, ((Below.refl _ _).alloc (Nat.le_refl _) _).trans hb⟩

/-- What stands there when j places are gone through. -/
def mix (l : List Int) (p : List Bool) (j : Nat) : List Int := hid2 (l.take j) (p.take j) ++ l.drop j
theorem hid2_length (l : List Int) (p : List Bool) (h : p.length = l.length) : (hid2 l p).length = l.length := by simp [hid2, h]
theorem hid2_snoc (l : List Int) (p : List Bool) (j : Nat) (h1 : j < l.length) (h2 : j < p.length) : hid2 (l.take (j + 1)) (p.take (j + 1)) = hid2 (l.take j) (p.take j) ++ [if p[j] then -1 else l[j]] := by
  rw [List.take_succ_eq_append_getElem h1, List.take_succ_eq_append_getElem h2, hid2, List.zipWith_append (by simp; omega)]
  rfl
theorem mix_start (l : List Int) (p : List Bool) : mix l p 0 = l := by simp [mix, hid2]
theorem mix_end (l : List Int) (p : List Bool) (h : p.length = l.length) : mix l p l.length = hid2 l p := by
  rw [mix, List.take_of_length_le (Nat.le_refl _), List.take_of_length_le (by omega), List.drop_of_length_le (Nat.le_refl _), List.append_nil]
theorem mix_length (l : List Int) (p : List Bool) (j : Nat) (h : p.length = l.length) (hj : j ≤ l.length) : (mix l p j).length = l.length := by
  rw [mix, List.length_append, hid2_length _ _ (by simp [h]), List.length_take, List.length_drop]
  omega
theorem mix_keep (l : List Int) (p : List Bool) (j : Nat) (h : p.length = l.length) (hj : j < l.length) (hp : p[j]'(by omega) = false) : mix l p (j + 1) = mix l p j := by
  rw [mix, mix, hid2_snoc l p j hj (by omega), hp, List.append_assoc, List.drop_eq_getElem_cons hj]
  rfl
theorem mix_set (l : List Int) (p : List Bool) (j : Nat) (h : p.length = l.length) (hj : j < l.length) (hp : p[j]'(by omega) = true) : mix l p (j + 1) = (mix l p j).set j (-1) := by
  have hl : (hid2 (l.take j) (p.take j)).length = j := by rw [hid2_length _ _ (by simp [h]), List.length_take]; omega
  rw [mix, mix, hid2_snoc l p j hj (by omega), hp, List.append_assoc, List.drop_eq_getElem_cons hj, List.set_append_right _ _ (by omega), hl, Nat.sub_self]
  rfl
theorem hidE_bad {l : List Int} (p : List Bool) {z : Int} (h : chk l = z) (hz : z ≠ 0) : hidE l p = z ∧ hidV l p = [] := by
  have : hidE l p = z := by rw [hidE, if_neg (by rw [h]; exact hz), h]
  exact ⟨this, by rw [hidV, if_neg (by rw [this]; exact hz)]⟩
theorem hidE_arg {l : List Int} {p : List Bool} (h : chk l = 0) (hp : p.length ≠ l.length) : hidE l p = 2 ∧ hidV l p = [] := by
  have : hidE l p = 2 := by rw [hidE, if_pos h, if_neg hp]
  exact ⟨this, by rw [hidV, if_neg (by rw [this]; decide)]⟩
theorem hidE_ok {l : List Int} {p : List Bool} (h : chk l = 0) (hp : p.length = l.length) : hidE l p = 0 ∧ hidV l p = hid2 l p := by
  have : hidE l p = 0 := by rw [hidE, if_pos h, if_pos hp]
  exact ⟨this, by rw [hidV, if_pos this]⟩

/-- .. and it is the call's own still. -/
def RetRowOwn (w : World) (l : List Int) (z : Int) (e : Ending) (w' : World) : Prop := ∃ A c, e = .returned (.tuple #[.slice A l.length c, .int .i64 z]) ∧ OwnI w' w.heap.size 21 A c l ∧ Below w.heap.size w w'
theorem ret_own {w w' : World} {A : Option Addr} {n c : Nat} {q l : List Int} {y z : Int} (h : Hid (q = l ∧ y = z ∧ q.length = n)) (hr : OwnI w' w.heap.size 21 A c q) (hb : Below w.heap.size w w') : RetRowOwn w l z (.returned (.tuple #[.slice A n c, .int .i64 y])) w' := by
  obtain ⟨rfl, rfl, rfl⟩ := h.out
  exact ⟨A, c, rfl, hr, hb⟩
theorem ret_own_nil {w w' : World} {l : List Int} {y z : Int} (h : Hid (y = z ∧ l = [])) (hb : Below w.heap.size w w') : RetRowOwn w l z (.returned (.tuple #[.slice none 0 0, .int .i64 y])) w' :=
  ret_own (q := []) (hid ⟨h.out.2.symm, h.out.1, rfl⟩) (OwnI.nil _ _ _) hb

set_option maxRecDepth 100000 in
set_option maxHeartbeats 1000000 in
theorem hide_any (A : Option Addr) (n c : Nat) (l : List Int) (hn : Hid (l.length = n)) (B : Option Addr) (m d : Nat) (p : List Bool) (hm : Hid (p.length = m)) (w : World) (hr : Ri w A c l) (hq : Rb w B d p) :
    Calls Try.prog 8 #[.slice A n c, .slice B m d] w (RetRowOwn w (hidV l p) (hidE l p)) := by
  obtain ⟨z, hz⟩ : ∃ z, chk l = z := ⟨_, rfl⟩
  have HZ := hid hz
  by_cases h0 : z = 0
  · subst h0
    by_cases hnm : m = n
    · subst hnm
      have hlen : p.length = l.length := by rw [hm.out, hn.out]
      have H := hid (hidE_ok hz hlen)
      have HL := hid hlen
      have h64 : m ≤ 64 := by have := (chk_zero.1 hz).1; rw [hn.out] at this; exact this
      have hd2 : (d : Int) ≤ 9223372036854775807 := by have := hq.cap; omega
      have hd1 : (m : Int) ≤ d := by have := hq.len; have := hm.out; omega
      have HQ := hid hq
      clear hz hlen hq
      go_enter Try.func8, Try.ntmps8
      go_wp2_with fail
      refine (check_of 0 A m c l hn HZ _ hr).mono ?_
      rintro e w' ⟨rfl, rfl⟩
      go_wp2_with fail
      refine (clone_any A m c l hn (by omega) _ hr).mono ?_
      rintro e w1 ⟨A1, c1, rfl, hown, hb1⟩
      have hcap : (m : Int) ≤ (c1 : Int) := by have := hown.ri.len; have := hn.out; omega
      have hcap2 : (c1 : Int) ≤ 9223372036854775807 := by have := hown.ri.cap; omega
      go_wp2
      go_loopw [8, 9, 24] (fun x y i wr => ∃ j : Nat, j ≤ m ∧ i = .int .i64 (j : Int) ∧ OwnI wr w.heap.size 21 A1 c1 (mix l p j) ∧ Below w.heap.size w wr) (fun _ _ i _ => m - (intOf i).toNat)
      case atStart => exact ⟨0, by omega, rfl, by rw [mix_start]; exact hown, hb1⟩
      case round =>
        obtain ⟨j, hj, rfl, hown2, hb⟩ := hrel
        by_cases hlt : j < m
        · have hl := hn.out
          have hl2 := hm.out
          obtain ⟨b, o, rfl, hcell⟩ := HQ.out.at_ (by omega)
          have h1 := keep hb (hcell j (by omega))
          have hk := mix_keep l p j HL.out (by omega)
          have hs := mix_set l p j HL.out (by omega)
          have hml := mix_length l p j HL.out (by omega)
          generalize p[j]'(by omega) = x at h1 hk hs
          have hlt2 : (j : Int) < (m : Int) := by omega
          obtain ⟨g, rfl, hg, hc3, hf3, hs3⟩ := hown2.own_at (by omega)
          have hc4 := hc3 j (by omega)
          have hf4 := hf3 j
          have hs4 := hs3 j (-1) (by omega) (by omega)
          generalize (mix l p j)[j]'(by omega) = y at hc4
          clear hcell hl hl2 hml hc3 hf3 hs3
          cases x
          · have HK := hid (hk rfl)
            clear hk hs
            go_wp2_with fail
            go_roundw
            case rel => exact ⟨j + 1, by omega, by go_num, by rw [HK.out]; exact hown2, hb⟩
            case measure => simp [intOf]; omega
          · have HK := hid (hs rfl)
            clear hk hs
            go_wp2_with fail
            go_roundw
            case rel => exact ⟨j + 1, by omega, by go_num, by rw [HK.out]; exact hs4, hb.setCell (p := ⟨g, j, none⟩) hg _⟩
            case measure => simp [intOf]; omega
        · have hlt2 : ¬ (j : Int) < (m : Int) := by omega
          have ej : j = l.length := by have := hn.out; omega
          have HE := hid (show mix l p j = hid2 l p by rw [ej]; exact mix_end l p HL.out)
          have HM := hid (show (mix l p j).length = m by rw [mix_length l p j HL.out (by omega), hn.out])
          clear ej
          go_wp2
          go_ret2
          exact ret_own (hid ⟨by rw [HE.out, H.out.2], H.out.1.symm, HM.out⟩) hown2 hb
    · have H := hid (hidE_arg (p := p) hz (by rw [hm.out, hn.out]; exact hnm))
      have hnm2 : ¬ (m : Int) = n := by omega
      clear hz hnm
      go_enter Try.func8, Try.ntmps8
      go_wp2_with (go_at_call 14; refine (check_of 0 A n c l hn HZ _ hr).mono ?_; rintro e w' ⟨rfl, rfl⟩)
      go_ret2
      exact ret_own_nil (hid ⟨H.out.1.symm, H.out.2⟩) (Below.refl _ _)
  · have H := hid (hidE_bad p hz h0)
    have hz2 : (z != 0) = true := by simpa using h0
    clear hz h0
    go_enter Try.func8, Try.ntmps8
    go_wp2_with (go_at_call 14; refine (check_of z A n c l hn HZ _ hr).mono ?_; rintro e w' ⟨rfl, rfl⟩)
    go_ret2
    exact ret_own_nil (hid ⟨H.out.1.symm, H.out.2⟩) (Below.refl _ _)

/-- The call hands back a row that it made. -/
def RetRi (w : World) (l : List Int) (e : Ending) (w' : World) : Prop := ∃ A c, e = .returned (.slice A l.length c) ∧ Ri w' A c l ∧ Below w.heap.size w w'

set_option maxRecDepth 100000 in
set_option maxHeartbeats 1000000 in
theorem blanked_any (A : Option Addr) (n c : Nat) (l : List Int) (hn : Hid (l.length = n)) (h5 : n ≤ 1000) (B : Option Addr) (d : Nat) (p : List Bool) (hm : Hid (p.length = n)) (w : World) (hr : Ri w A c l) (hq : Rb w B d p) :
    Calls Try.prog 34 #[.slice A n c, .slice B n d] w (RetRi w (hid2 l p)) := by
  obtain ⟨i0, hi0, hz0, hz1, hz2⟩ := info_parts info_i32
  have hc2 : (c : Int) ≤ 9223372036854775807 := by have := hr.cap; omega
  have hc1 : (n : Int) ≤ c := by have := hr.len; have := hn.out; omega
  have hd2 : (d : Int) ≤ 9223372036854775807 := by have := hq.cap; omega
  have hd1 : (n : Int) ≤ d := by have := hq.len; have := hm.out; omega
  have HR := hid hr
  have HQ := hid hq
  clear hr hq
  go_enter Try.func34, Try.ntmps34
  go_wp2
  go_loopw [5, 6] (fun v i wr => ∃ (j : Nat) (E : Option Addr) (f : Nat), j ≤ n ∧ i = .int .i64 (j : Int) ∧ v = .slice E j f ∧ Hid ((hid2 (l.take j) (p.take j)).length = j) ∧ OwnI wr w.heap.size 21 E f (hid2 (l.take j) (p.take j)) ∧ Below w.heap.size w wr) (fun _ i _ => n - (intOf i).toNat)
  case atStart => exact ⟨0, none, 0, by omega, rfl, rfl, hid rfl, OwnI.nil _ _ _, Below.refl _ _⟩
  case round =>
    obtain ⟨j, E, f, hj, rfl, rfl, hw, hown, hb⟩ := hrel
    by_cases hlt : j < n
    · have hl := hn.out
      have hl2 := hm.out
      obtain ⟨b, o, rfl, hcell⟩ := HR.out.at_ (by omega)
      obtain ⟨b1, o1, rfl, hcell1⟩ := HQ.out.at_ (by omega)
      have h1 := keep hb (hcell j (by omega))
      have h2 := keep hb (hcell1 j (by omega))
      have hs := hid2_snoc l p j (by omega) (by omega)
      obtain ⟨hx0, hx1⟩ := HR.out.in32.at_ (j := j) (by omega)
      generalize l[j]'(by omega) = x at h1 hs hx0 hx1
      generalize p[j]'(by omega) = y at h2 hs
      have hlt2 : (j : Int) < (n : Int) := by omega
      have hk : (hid2 (l.take (j + 1)) (p.take (j + 1))).length = j + 1 := by rw [hs, List.length_append, hw.out]; rfl
      have HK := hid hk
      clear hcell hcell1 hl hl2 hk
      cases y
      · have HS := hid (show hid2 (l.take (j + 1)) (p.take (j + 1)) = hid2 (l.take j) (p.take j) ++ [x] from hs)
        clear hs
        go_wp2_with (at_builtin; refine wpList_append_i rfl (.tmp 20) (.tmp 25) _ rfl w.heap.size 21 Try.underlying22 hi0 hz0 hz1 hz2 E j f (hid2 (l.take j) (p.take j)) hw rfl (hown.keep ((Below.refl _ _).alloc (Nat.le_refl _) _)) (some ⟨wr.heap.size, 0, none⟩) 1 1 [x] (hid rfl) rfl (lit_one wr 21 x hx0 hx1) (by omega) (Nat.le_trans hb.size (by simp)) ?_; intro A' c' w2 hown2 b2)
        go_roundw
        case rel => exact ⟨j + 1, A', c', by omega, by go_num, rfl, HK, by rw [HS.out]; exact hown2, (hb.alloc hb.size _).trans b2⟩
        case measure => simp [intOf]; omega
      · have HS := hid (show hid2 (l.take (j + 1)) (p.take (j + 1)) = hid2 (l.take j) (p.take j) ++ [-1] from hs)
        clear hs
        go_wp2_with (at_builtin; refine wpList_append_i rfl (.tmp 17) (.tmp 18) _ rfl w.heap.size 21 Try.underlying22 hi0 hz0 hz1 hz2 E j f (hid2 (l.take j) (p.take j)) hw rfl (hown.keep ((Below.refl _ _).alloc (Nat.le_refl _) _)) (some ⟨wr.heap.size, 0, none⟩) 1 1 [-1] (hid rfl) rfl (lit_one wr 21 (-1) (by omega) (by omega)) (by omega) (Nat.le_trans hb.size (by simp)) ?_; intro A' c' w2 hown2 b2)
        go_roundw
        case rel => exact ⟨j + 1, A', c', by omega, by go_num, rfl, HK, by rw [HS.out]; exact hown2, (hb.alloc hb.size _).trans b2⟩
        case measure => simp [intOf]; omega
    · have e1 : l.take j = l := List.take_of_length_le (by have := hn.out; omega)
      have e2 : p.take j = p := List.take_of_length_le (by have := hm.out; omega)
      have hlt2 : ¬ (j : Int) < (n : Int) := by omega
      rw [e1, e2] at hw hown
      clear e1 e2
      go_wp2
      go_ret
      exact ⟨E, f, by rw [hw.out]; rfl, hown.ri, hb⟩

set_option maxHeartbeats 400000 in
theorem refhide_any (A : Option Addr) (n c : Nat) (l : List Int) (hn : Hid (l.length = n)) (B : Option Addr) (m d : Nat) (p : List Bool) (hm : Hid (p.length = m)) (w : World) (hr : Ri w A c l) (hq : Rb w B d p) :
    Calls Try.prog 18 #[.slice A n c, .slice B m d] w (RetRow w (hidV l p) (hidE l p)) := by
  obtain ⟨z, hz⟩ : ∃ z, chk l = z := ⟨_, rfl⟩
  have HZ := hid hz
  by_cases h0 : z = 0
  · subst h0
    by_cases hnm : m = n
    · subst hnm
      have hlen : p.length = l.length := by rw [hm.out, hn.out]
      have H := hid (hidE_ok hz hlen)
      have h64 : m ≤ 1000 := by have := (chk_zero.1 hz).1; rw [hn.out] at this; omega
      clear hz hlen
      go_enter Try.func18, Try.ntmps18
      go_wp2_with fail
      refine (refcheck_of 0 A m c l hn HZ _ hr).mono ?_
      rintro e w' ⟨rfl, rfl⟩
      go_wp2_with fail
      refine (blanked_any A m c l hn h64 B d p hm _ hr hq).mono ?_
      rintro e w1 ⟨A1, c1, rfl, hr1, hb1⟩
      go_wp2
      go_ret2
      exact ret_row (hid ⟨H.out.2.symm, H.out.1.symm, rfl⟩) hr1 hb1
    · have H := hid (hidE_arg (p := p) hz (by rw [hm.out, hn.out]; exact hnm))
      have hnm2 : ¬ (n : Int) = m := by omega
      clear hz hnm
      go_enter Try.func18, Try.ntmps18
      go_wp2_with (go_at_call 20; refine (refcheck_of 0 A n c l hn HZ _ hr).mono ?_; rintro e w' ⟨rfl, rfl⟩)
      go_ret2
      exact ret_row_nil (hid ⟨H.out.1.symm, H.out.2⟩) (Below.refl _ _)
  · have H := hid (hidE_bad p hz h0)
    have hz2 : (z != 0) = true := by simpa using h0
    clear hz h0
    go_enter Try.func18, Try.ntmps18
    go_wp2_with (go_at_call 20; refine (refcheck_of z A n c l hn HZ _ hr).mono ?_; rintro e w' ⟨rfl, rfl⟩)
    go_ret2
    exact ret_row_nil (hid ⟨H.out.1.symm, H.out.2⟩) (Below.refl _ _)
end Go.Proofs.Ytikcknngcdjnhaa
