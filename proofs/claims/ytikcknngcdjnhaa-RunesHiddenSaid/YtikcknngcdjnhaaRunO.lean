/-
  The contract of the reference's Of.
-/
import Derived.Test.YtikcknngcdjnhaaRunF
import Derived.Deep.LoopGhost
namespace Go.Proofs.Ytikcknngcdjnhaa
open Go.RowKit
set_option linter.unusedVariables false

/-- The call hands back a row that it made, and an error. -/
def RetRow (w : World) (l : List Int) (z : Int) (e : Ending) (w' : World) : Prop := ∃ A c, e = .returned (.tuple #[.slice A l.length c, .int .i64 z]) ∧ Ri w' A c l ∧ Below w.heap.size w w'
theorem ret_row {w w' : World} {A : Option Addr} {n c : Nat} {q l : List Int} {y z : Int} (h : Hid (q = l ∧ y = z ∧ q.length = n)) (hr : Ri w' A c q) (hb : Below w.heap.size w w') : RetRow w l z (.returned (.tuple #[.slice A n c, .int .i64 y])) w' := by
  obtain ⟨rfl, rfl, rfl⟩ := h.out
  exact ⟨A, c, rfl, hr, hb⟩
theorem ret_row_nil {w w' : World} {l : List Int} {y z : Int} (h : Hid (y = z ∧ l = [])) (hb : Below w.heap.size w w') : RetRow w l z (.returned (.tuple #[.slice none 0 0, .int .i64 y])) w' :=
  ret_row (q := []) (hid ⟨h.out.2.symm, h.out.1, rfl⟩) (Ri.nil _) hb

/-- How far a reading has come. -/
def Sofar (l : List UInt8) (j : Nat) (pre : List Int) : Prop := j ≤ l.length ∧ pre.length ≤ j ∧ ofR l = (ofR (l.drop j)).map (pre ++ ·)
theorem sofar_start (l : List UInt8) : Sofar l 0 [] := by
  refine ⟨Nat.zero_le _, Nat.le_refl _, ?_⟩
  simp
theorem sofar_bad {l : List UInt8} {j : Nat} {pre : List Int} (h : Sofar l j pre) (hj : j < l.length) (hf : fst (l.drop j) = none) : ofE l = 3 ∧ ofV l = [] := by
  refine of_none ?_
  rw [h.2.2, ofR_none (by intro e; have := congrArg List.length e; simp at this; omega) hf]
  rfl
theorem sofar_step {l : List UInt8} {j : Nat} {pre : List Int} (h : Sofar l j pre) (hj : j < l.length) {n : Int} {k : Nat} (hf : fst (l.drop j) = some (n, k)) : Sofar l (j + k) (pre ++ [n]) ∧ 0 ≤ n ∧ n ≤ 1114111 ∧ 1 ≤ k ∧ j + k ≤ l.length := by
  have hne : l.drop j ≠ [] := by intro e; have := congrArg List.length e; simp at this; omega
  obtain ⟨h1, h2, h3, h4⟩ := fst_spec hne hf
  have hr := (isR_iff n).1 h1
  rw [List.length_drop] at h4
  refine ⟨⟨by omega, by rw [List.length_append]; simp; have := h.2.1; omega, ?_⟩, hr.1, hr.2.1, h3, by omega⟩
  rw [h.2.2, ofR_step hne hf, List.drop_drop, Option.map_map]
  congr 1
  funext x
  simp
theorem sofar_end {l : List UInt8} {j : Nat} {pre : List Int} (h : Sofar l j pre) (hj : l.length ≤ j) : ofR l = some pre := by
  rw [h.2.2, List.drop_of_length_le hj, ofR_nil]
  simp

theorem wrap_i32 {n : Int} (h0 : 0 ≤ n) (h1 : n ≤ 1114111) : IntKind.i32.wrap n = n := by
  rw [IntKind.wrap_i32]
  omega

theorem first_of (s : ByteArray) (l : List UInt8) (x y : Int) (hxy : Hid (fN l = x ∧ fS l = y)) (hs : Hid (s.data.toList = l)) (h0 : 0 < s.size) (h1 : s.size ≤ 100000) (w : World) :
    Calls Try.prog 31 #[.string s] w fun e w' => e = .returned (.tuple #[.int .i64 x, .int .i64 y]) ∧ Below w.heap.size w w' := by
  obtain ⟨rfl, rfl⟩ := hxy.out
  exact first_any s l hs h0 h1 w

set_option maxRecDepth 100000 in
set_option maxHeartbeats 1000000 in
theorem refof_any (s : ByteArray) (l : List UInt8) (hs : Hid (s.data.toList = l)) (h1 : s.size ≤ 10000) (w : World) :
    Calls Try.prog 15 #[.string s] w (RetRow w (ofV l) (ofE l)) := by
  obtain ⟨i0, hi0, hz0, hz1, hz2⟩ := info_parts info_i32
  have hlen : l.length = s.size := by rw [← hs.out]; simp
  have HL := hid hlen
  clear hlen
  go_enter Try.func15, Try.ntmps15
  go_wp2
  go_loopg [0, 4, 5, 6] s.size (fun gk v0 v4 v5 v6 wr => ∃ (j : Nat) (s' : ByteArray) (pre : List Int) (k : Nat) (A : Option Addr) (c : Nat), gk = s'.size ∧ v0 = .string s' ∧ Hid (s'.data.toList = l.drop j) ∧ Hid (Sofar l j pre) ∧ Hid (pre.length = k) ∧ v4 = .slice A k c ∧ OwnI wr w.heap.size 21 A c pre ∧ Below w.heap.size w wr)
  case atStart => exact ⟨0, s, [], 0, none, 0, rfl, rfl, hid (by simp [hs.out]), hid (sofar_start l), hid rfl, rfl, OwnI.nil _ _ _, Below.refl _ _⟩
  case round =>
    obtain ⟨j, s', pre, k, A, c, hg, rfl, hd, hf, hk, rfl, hown, hb⟩ := hrel
    have hsz : s'.size = l.length - j := by
      have := congrArg List.length hd.out
      simpa using this
    have hj := hf.out.1
    have hl := HL.out
    by_cases h0 : 0 < s'.size
    · obtain ⟨L, hL⟩ : ∃ L, l.drop j = L := ⟨_, rfl⟩
      have hne : s'.toList.isEmpty = false := by
        cases he : s'.toList with
        | nil =>
          have h3 := ByteArray.toList_eq s'
          rw [he] at h3
          have h4 := congrArg List.length h3
          simp at h4
          omega
        | cons a t => rfl
      have HD := hid (show s'.data.toList = L by rw [← hL]; exact hd.out)
      have hj2 : j < l.length := by omega
      cases hfst : fst L with
      | none =>
        have HF := hid (f_none hfst)
        have hs10 : s'.size ≤ 10000 := by omega
        have H := hid (sofar_bad hf.out hj2 (by rw [hL]; exact hfst))
        clear hL hl hsz hj hj2 hfst
        go_wp2_with (go_at_call 31; refine (first_of s' L 0 0 HF HD h0 (by omega) _).mono ?_; rintro e w1 ⟨rfl, b1⟩)
        go_ret2
        exact ret_row_nil (hid ⟨H.out.1.symm, H.out.2⟩) (hb.trans (b1.mono hb.size))
      | some q =>
        obtain ⟨n, m⟩ := q
        have HF := hid (f_some hfst)
        obtain ⟨hst, hn0, hn1, hm0, hm1⟩ := sofar_step hf.out hj2 (by rw [hL]; exact hfst)
        have HS := hid hst
        have hk2 : k ≤ 10000 := by have := hf.out.2.1; have := hk.out; omega
        have hms : m ≤ s'.size := by omega
        have HK := hid (show (pre ++ [n]).length = k + 1 by rw [List.length_append, hk.out]; rfl)
        have HE := hid (data_drop s' L HD.out m _ rfl)
        have HE2 := hid (show L.drop m = l.drop (j + m) by rw [← hL, List.drop_drop])
        have hms2 : (m : Int) ≤ (s'.size : Int) := by omega
        have hms3 : (s'.extract m s'.size).size < s'.size := by rw [ByteArray.size_extract]; omega
        have hs10 : s'.size ≤ 10000 := by omega
        have hm9 : ((m : Int) == 0) = false := by simp; omega
        clear hL hl hsz hj hj2 hfst hst hm1
        go_wp2_with fail
        refine (first_of s' L n m HF HD h0 (by omega) _).mono ?_
        rintro e w1 ⟨rfl, b1⟩
        have hown1 := hown.keep b1
        replace hb := hb.trans (b1.mono hb.size)
        clear b1 hown
        go_wp2_with (at_builtin; refine wpList_append_i rfl (.tmp 16) (.tmp 19) _ rfl w.heap.size 21 Try.underlying22 hi0 hz0 hz1 hz2 A k c pre hk rfl (hown1.keep ((Below.refl _ _).alloc (Nat.le_refl _) _)) (some ⟨w1.heap.size, 0, none⟩) 1 1 [n] (hid rfl) rfl (lit_one w1 21 n (by omega) (by omega)) (by omega) (Nat.le_trans hb.size (by simp)) ?_; intro A' c' w2 hown2 b2)
        go_roundg (s'.extract m s'.size).size
        case measure => omega
        case rel => exact ⟨j + m, _, pre ++ [n], k + 1, A', c', rfl, rfl, hid (by rw [HE.out, HE2.out]), HS, HK, rfl, hown2, (hb.alloc hb.size _).trans b2⟩
    · have hz : s' = ByteArray.empty := by
        apply ByteArray.ext
        apply Array.ext'
        have h3 : s'.data.toList.length = 0 := by
          rw [hd.out, List.length_drop]
          omega
        rw [List.eq_nil_of_length_eq_zero h3]
        rfl
      have HO := hid (sofar_end hf.out (by omega))
      have hk2 : k ≤ 10000 := by have := hf.out.2.1; have := hk.out; omega
      subst hz
      clear hd hsz hg h0 hl
      by_cases hbig : 64 < k
      · have H := hid (of_many HO.out (by rw [hk.out]; exact hbig))
        have hb2 : (64 : Int) < k := by omega
        go_wp2
        go_ret2
        exact ret_row_nil (hid ⟨H.out.1.symm, H.out.2⟩) hb
      · have H := hid (of_some HO.out (by rw [hk.out]; omega))
        have hb2 : ¬ (64 : Int) < k := by omega
        go_wp2
        go_ret2
        exact ret_row (hid ⟨H.out.2.symm, H.out.1.symm, hk.out⟩) hown.ri hb
end Go.Proofs.Ytikcknngcdjnhaa
