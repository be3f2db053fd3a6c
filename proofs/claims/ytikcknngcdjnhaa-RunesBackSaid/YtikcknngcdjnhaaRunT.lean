/-
  The contracts of Text (both).
-/
import Derived.Test.YtikcknngcdjnhaaRunY
namespace Go.Proofs.Ytikcknngcdjnhaa
open Go.RowKit Go.Shelf
set_option linter.unusedVariables false

/-- The call hands back a text, and an error. -/
def RetText (w : World) (m : List UInt8) (z : Int) (e : Ending) (w' : World) : Prop := e = .returned (.tuple #[.string ⟨m.toArray⟩, .int .i64 z]) ∧ Below w.heap.size w w'
theorem ret_text {w w' : World} {q m : List UInt8} {y z : Int} (h : Hid (q = m ∧ y = z)) (hb : Below w.heap.size w w') : RetText w m z (.returned (.tuple #[.string ⟨q.toArray⟩, .int .i64 y])) w' := by
  obtain ⟨rfl, rfl⟩ := h.out
  exact ⟨rfl, hb⟩
theorem ret_text_nil {w w' : World} {m : List UInt8} {y z : Int} (h : Hid (y = z ∧ m = [])) (hb : Below w.heap.size w w') : RetText w m z (.returned (.tuple #[.string ⟨#[]⟩, .int .i64 y])) w' :=
  ret_text (q := []) (hid ⟨h.out.2.symm, h.out.1⟩) hb

theorem text_take (l : List Int) (m : List UInt8) (j : Nat) (h : j < l.length) : text (l.take (j + 1)) m = text (l.take j) m ++ one m l[j] := by
  rw [List.take_succ_eq_append_getElem h, text_snoc]
theorem one_blank (m : List UInt8) : one m (-1) = m := rfl
theorem one_rune (m : List UInt8) {x : Int} (h : 0 ≤ x) : one m x = bts x := by rw [one, if_neg (by omega)]
theorem textV_bad {l : List Int} (m : List UInt8) {z : Int} (h : chk l = z) (hz : z ≠ 0) : textV l m = [] := by rw [textV, if_neg (by rw [h]; exact hz)]
theorem textV_ok {l : List Int} (m : List UInt8) (h : chk l = 0) : textV l m = text l m := by rw [textV, if_pos h]
theorem fresh_bld (w : World) : Bld (w.alloc (.cells #[.pointer none, .slice none 0 0] 53)) w.heap.size (.pointer none) [] :=
  ⟨none, 0, (by show (w.heap.push _)[w.heap.size]? = _; simp), Own.nil _ _ _⟩
theorem rune_at {l : List Int} (h : l.all okN = true) {j : Nat} (hj : j < l.length) : l[j] = -1 ∨ isR l[j] = true := by
  have := (okN_iff _).1 (List.all_eq_true.1 h _ (List.getElem_mem hj))
  rw [isR_iff]
  omega

set_option maxRecDepth 100000 in
set_option maxHeartbeats 1000000 in
theorem text_any (A : Option Addr) (n c : Nat) (l : List Int) (hn : Hid (l.length = n)) (s : ByteArray) (m : List UInt8) (q : Nat) (hm : Hid (s.data.toList = m ∧ m.length = q)) (hq : q ≤ 1000) (w : World) (hr : Ri w A c l) :
    Calls Try.prog 9 #[.slice A n c, .string s] w (RetText w (textV l m) (chk l)) := by
  obtain ⟨z, hz⟩ : ∃ z, chk l = z := ⟨_, rfl⟩
  have HZ := hid hz
  by_cases h0 : z = 0
  · subst h0
    have HT := hid (textV_ok m hz)
    have h64 : n ≤ 64 := by have := (chk_zero.1 hz).1; rw [hn.out] at this; exact this
    have hok := hid (chk_zero.1 hz).2
    have hc2 : (c : Int) ≤ 9223372036854775807 := by have := hr.cap; omega
    have hc1 : (n : Int) ≤ c := by have := hr.len; have := hn.out; omega
    have HR := hid hr
    clear hz
    go_enter Try.func9, Try.ntmps9
    go_wp2_with fail
    refine (check_of 0 A n c l hn HZ _ hr).mono ?_
    rintro e w' ⟨rfl, rfl⟩
    clear hr
    go_wp2
    go_loopw [9, 17] (fun x i wr => ∃ (j k : Nat) (p : Value), j ≤ n ∧ i = .int .i64 (j : Int) ∧ Hid ((text (l.take j) m).length = k) ∧ Hid (k ≤ j * 1004) ∧ Hid (Fresh p w.heap.size) ∧ Bld wr w.heap.size p (text (l.take j) m) ∧ Below w.heap.size w wr) (fun _ i _ => n - (intOf i).toNat)
    case atStart => exact ⟨0, 0, .pointer none, by omega, rfl, hid rfl, hid (Nat.zero_le _), hid (.inl rfl), fresh_bld w, (Below.refl _ _).alloc (Nat.le_refl _) _⟩
    case round =>
      obtain ⟨j, k, p, hj, rfl, hk, hle, hf, hbld, hb⟩ := hrel
      by_cases hlt : j < n
      · have hl := hn.out
        obtain ⟨b, o, rfl, hcell⟩ := HR.out.at_ (by omega)
        have h1 := keep hb (hcell j (by omega))
        have hv := rune_at hok.out (j := j) (by omega)
        have hs := text_take l m j (by omega)
        generalize l[j]'(by omega) = x at h1 hv hs
        have hlt2 : (j : Int) < (n : Int) := by omega
        have hk1 : k ≤ 64256 := by have := hle.out; omega
        clear hcell hl
        rcases hv with rfl | hx
        · have HS := hid (show text (l.take (j + 1)) m = text (l.take j) m ++ m from hs)
          have HK := hid (show (text (l.take (j + 1)) m).length = k + q by rw [HS.out, List.length_append, hk.out, hm.out.2])
          have HL := hid (show k + q ≤ (j + 1) * 1004 by have := hle.out; omega)
          clear hs
          go_wp2_with fail
          refine (wstr_any w.heap.size p (text (l.take j) m) k hk (by omega) s m q hm (by omega) _ hf.out hbld).mono ?_
          rintro e w1 ⟨⟨v, rfl⟩, hbld1, hb1⟩
          rw [← HS.out] at hbld1
          go_wp2
          go_roundw
          case rel => exact ⟨j + 1, k + q, _, by omega, by go_num, HK, HL, hid (.inr rfl), hbld1, hb.trans hb1⟩
          case measure => simp [intOf]; omega
        · have hx0 := ((isR_iff x).1 hx).1
          have hx3 : ¬ x = -1 := by omega
          have HS := hid (show text (l.take (j + 1)) m = text (l.take j) m ++ bts x by rw [hs, one_rune m hx0])
          obtain ⟨r, hr1⟩ : ∃ r, (bts x).length = r := ⟨_, rfl⟩
          have hr2 : r ≤ 4 := by rw [← hr1]; exact (bts_length x).2
          have HK := hid (show (text (l.take (j + 1)) m).length = k + r by rw [HS.out, List.length_append, hk.out, hr1])
          have HL := hid (show k + r ≤ (j + 1) * 1004 by have := hle.out; omega)
          have H1 := hid hr1
          have HX := hid hx
          clear hs hr1 hx
          go_wp2_with fail
          refine (wrune_any w.heap.size p (text (l.take j) m) k hk (by omega) x HX.out r H1 _ hf.out hbld).mono ?_
          rintro e w1 ⟨⟨v, rfl⟩, hbld1, hb1⟩
          rw [← HS.out] at hbld1
          go_wp2
          go_roundw
          case rel => exact ⟨j + 1, k + r, _, by omega, by go_num, HK, HL, hid (.inr rfl), hbld1, hb.trans hb1⟩
          case measure => simp [intOf]; omega
      · have ej : l.take j = l := List.take_of_length_le (by have := hn.out; omega)
        have hlt2 : ¬ (j : Int) < (n : Int) := by omega
        rw [ej] at hbld
        clear ej
        go_wp2_with fail
        refine (string_any w.heap.size p (text l m) _ hf.out hbld).mono ?_
        rintro e w1 ⟨rfl, hb1⟩
        go_wp2
        go_ret2
        exact ret_text (hid ⟨HT.out.symm, HZ.out.symm⟩) (hb.trans hb1)
  · have H := hid (textV_bad m hz h0)
    have hz2 : (z != 0) = true := by simpa using h0
    clear hz h0
    go_enter Try.func9, Try.ntmps9
    go_wp2_with (go_at_call 14; refine (check_of z A n c l hn HZ _ hr).mono ?_; rintro e w' ⟨rfl, rfl⟩)
    go_ret2
    exact ret_text_nil (hid ⟨HZ.out.symm, H.out⟩) (Below.refl _ _)

set_option maxRecDepth 100000 in
set_option maxHeartbeats 1000000 in
theorem reftext_any (A : Option Addr) (n c : Nat) (l : List Int) (hn : Hid (l.length = n)) (s : ByteArray) (m : List UInt8) (q : Nat) (hm : Hid (s.data.toList = m ∧ m.length = q)) (hq : q ≤ 1000) (w : World) (hr : Ri w A c l) :
    Calls Try.prog 19 #[.slice A n c, .string s] w (RetText w (textV l m) (chk l)) := by
  obtain ⟨i0, hi0, hz0, hz1, hz2⟩ := info_parts info_u8
  obtain ⟨z, hz⟩ : ∃ z, chk l = z := ⟨_, rfl⟩
  have HZ := hid hz
  by_cases h0 : z = 0
  · subst h0
    have HT := hid (textV_ok m hz)
    have h64 : n ≤ 64 := by have := (chk_zero.1 hz).1; rw [hn.out] at this; exact this
    have hok := hid (chk_zero.1 hz).2
    have hc2 : (c : Int) ≤ 9223372036854775807 := by have := hr.cap; omega
    have hc1 : (n : Int) ≤ c := by have := hr.len; have := hn.out; omega
    have HR := hid hr
    clear hz
    go_enter Try.func19, Try.ntmps19
    go_wp2_with fail
    refine (refcheck_of 0 A n c l hn HZ _ hr).mono ?_
    rintro e w' ⟨rfl, rfl⟩
    clear hr
    go_wp2
    go_loopw [7, 8] (fun x i wr => ∃ (j k : Nat) (B : Option Addr) (d : Nat), j ≤ n ∧ i = .int .i64 (j : Int) ∧ x = .slice B k d ∧ Hid ((text (l.take j) m).length = k) ∧ Hid (k ≤ j * 1004) ∧ Own wr w.heap.size 5 B d (text (l.take j) m) ∧ Below w.heap.size w wr) (fun _ i _ => n - (intOf i).toNat)
    case atStart => exact ⟨0, 0, none, 0, by omega, rfl, rfl, hid rfl, hid (Nat.zero_le _), Own.nil _ _ _, Below.refl _ _⟩
    case round =>
      obtain ⟨j, k, B, d, hj, rfl, rfl, hk, hle, hown, hb⟩ := hrel
      by_cases hlt : j < n
      · have hl := hn.out
        obtain ⟨b, o, rfl, hcell⟩ := HR.out.at_ (by omega)
        have h1 := keep hb (hcell j (by omega))
        have hv := rune_at hok.out (j := j) (by omega)
        have hs := text_take l m j (by omega)
        generalize l[j]'(by omega) = x at h1 hv hs
        have hlt2 : (j : Int) < (n : Int) := by omega
        have hk1 : k ≤ 64256 := by have := hle.out; omega
        clear hcell hl
        rcases hv with rfl | hx
        · have HS := hid (show text (l.take (j + 1)) m = text (l.take j) m ++ m from hs)
          have HK := hid (show (text (l.take (j + 1)) m).length = k + q by rw [HS.out, List.length_append, hk.out, hm.out.2])
          have HL := hid (show k + q ≤ (j + 1) * 1004 by have := hle.out; omega)
          clear hs
          go_wp2_with (at_builtin; refine wpList_append_str rfl (.tmp 25) (.tmp 26) _ _ rfl w.heap.size 5 Try.underlying26 Try.underlying9 hi0 hz0 hz1 hz2 B k d (text (l.take j) m) hk rfl hown s m q hm rfl (by omega) hb.size ?_; intro B' d' w1 hown1 hb1)
          rw [← HS.out] at hown1
          go_roundw
          case rel => exact ⟨j + 1, k + q, B', d', by omega, by go_num, rfl, HK, HL, hown1, hb.trans hb1⟩
          case measure => simp [intOf]; omega
        · have hx0 := ((isR_iff x).1 hx).1
          have hx1 := ((isR_iff x).1 hx).2.1
          have hx3 : ¬ x < 0 := by omega
          obtain ⟨bx, hbx⟩ : ∃ bx, bts x = bx := ⟨_, rfl⟩
          have HS := hid (show text (l.take (j + 1)) m = text (l.take j) m ++ bx by rw [hs, one_rune m hx0, hbx])
          obtain ⟨r, hr1⟩ : ∃ r, bx.length = r := ⟨_, rfl⟩
          have hr2 : r ≤ 4 := by rw [← hr1, ← hbx]; exact (bts_length x).2
          have HK := hid (show (text (l.take (j + 1)) m).length = k + r by rw [HS.out, List.length_append, hk.out, hr1])
          have HL := hid (show k + r ≤ (j + 1) * 1004 by have := hle.out; omega)
          have H1 := hid hr1
          have HX := hid (show bts x = bx ∧ bx.length = r ∧ isR x = true from ⟨hbx, hr1, hx⟩)
          clear hs hr1 hx hbx
          go_wp2_with fail
          refine (refbytes_of x bx r HX _).mono ?_
          rintro e w1 ⟨B1, d1, rfl, hrd, hb1⟩
          have hown0 := hown.keep hb1
          have hs1 : w.heap.size ≤ w1.heap.size := Nat.le_trans hb.size hb1.size
          have hrd := hrd
          go_wp2_with (at_builtin; refine wpList_append_rd rfl (.tmp 28) (.tmp 34) _ rfl w.heap.size 5 Try.underlying26 hi0 hz0 hz1 hz2 B k d (text (l.take j) m) hk rfl hown0 B1 r d1 bx H1 (by rw [← H1.out]; rfl) hrd (by omega) hs1 ?_; intro B' d' w2 hown1 hb2)
          rw [← HS.out] at hown1
          go_roundw
          case rel => exact ⟨j + 1, k + r, B', d', by omega, by go_num, rfl, HK, HL, hown1, (below_step hb hb1).trans hb2⟩
          case measure => simp [intOf]; omega
      · have ej : l.take j = l := List.take_of_length_le (by have := hn.out; omega)
        have hlt2 : ¬ (j : Int) < (n : Int) := by omega
        rw [ej] at hown hk
        clear ej
        have hst := rd_string hk hown.rd
        go_wp2
        go_ret2
        exact ret_text (hid ⟨HT.out.symm, HZ.out.symm⟩) hb
  · have H := hid (textV_bad m hz h0)
    have hz2 : (z != 0) = true := by simpa using h0
    clear hz h0
    go_enter Try.func19, Try.ntmps19
    go_wp2_with (go_at_call 20; refine (refcheck_of z A n c l hn HZ _ hr).mono ?_; rintro e w' ⟨rfl, rfl⟩)
    go_ret2
    exact ret_text_nil (hid ⟨HZ.out.symm, H.out⟩) (Below.refl _ _)
end Go.Proofs.Ytikcknngcdjnhaa
