/-
  Records: mathematics of the three laws that ask no reference: what is put is got; without one block, in another order, or with a block of another start or number it is no record; how many blocks hangs on the kinds and the count.
-/
import Derived.Test.YtndmblhkmgnpcaaGreatRcM
namespace Go.Proofs.YtndmblhkmgnpcaaGreat
open Go.RowKit
set_option linter.unusedVariables false
set_option linter.unusedSimpArgs false

theorem put_ris {r : Rec} {s t : Int} (hr : Recr r) (h : putE r s t = 0) : Ris (putL r s t) r s t := by
  unfold putE at h
  by_cases h1 : mayR r = true
  · rw [if_pos h1] at h
    by_cases h2 : mayHd s t 0 (nbl (rcb r)) = true
    · exact ⟨hr, h1, h2, by rw [putL, if_pos h1, if_pos h2]⟩
    · rw [if_neg h2] at h; cases h
  · rw [if_neg h1] at h; cases h
theorem put_none {r : Rec} {s t : Int} (h : putE r s t ≠ 0) : putL r s t = [] := by
  unfold putE at h
  unfold putL
  by_cases h1 : mayR r = true
  · rw [if_pos h1] at h ⊢
    by_cases h2 : mayHd s t 0 (nbl (rcb r)) = true
    · rw [if_pos h2] at h; exact absurd rfl h
    · rw [if_neg h2]
  · rw [if_neg h1]
theorem Ris.len {l : List (List UInt8)} {r : Rec} {s n : Int} (h : Ris l r s n) : l.length = nbl (rcb r) := by
  rw [← h.eq, blks_length]
/-- Each block's head. -/
theorem Ris.at_ {l : List (List UInt8)} {r : Rec} {s n : Int} (h : Ris l r s n) (i : Nat) (hi : i < l.length) : okHd l[i] = true ∧ hS l[i] = s ∧ hN l[i] = n ∧ hI l[i] = i ∧ hF l[i] = l.length ∧ l[i].length = 128 := by
  have hl := h.len
  obtain ⟨hr, hm, hd, rfl⟩ := h
  have hh := mayHd_iff.1 hd
  have hi2 : mayHd s n i (nbl (rcb r)) = true := mayHd_iff.2 ⟨hh.1, hh.2.1, hh.2.2.1, by omega, by omega⟩
  rw [blks_get]
  obtain ⟨a, b, c, d, e⟩ := okHd_blk hi2
  exact ⟨a, b, c, d, by rw [hl]; exact e, blk_length _ _ _ _⟩
/-- Without one block it is no record. -/
theorem ris_cut {l : List (List UInt8)} {r : Rec} {s n : Int} (h : Ris l r s n) {k : Nat} (hk : k < l.length) {r' : Rec} {s' n' : Int} : ¬ Ris (l.take k ++ l.drop (k + 1)) r' s' n' := by
  intro h'
  have hp := h'.pos.1
  have hlen : (l.take k ++ l.drop (k + 1)).length = l.length - 1 := by simp; omega
  have a' := (h'.at_ 0 (by omega)).2.2.2.2.1
  obtain ⟨y, hy, hm⟩ : ∃ y, (l.take k ++ l.drop (k + 1))[0]'(by omega) = y ∧ y ∈ l := ⟨_, rfl, by
    have := List.getElem_mem (l := l.take k ++ l.drop (k + 1)) (n := 0) (by omega)
    rcases List.mem_append.1 this with h | h
    · exact List.mem_of_mem_take h
    · exact List.mem_of_mem_drop h⟩
  rw [hy, hlen] at a'
  obtain ⟨i, hi, rfl⟩ := List.mem_iff_getElem.1 hm
  have a := (h.at_ i hi).2.2.2.2.1
  omega
/-- Nor with another block in a place. -/
theorem ris_place {l m : List (List UInt8)} {r : Rec} {s n : Int} (h : Ris l r s n) {j k : Nat} (hj : j < l.length) (hk : k < m.length) (hjk : j ≠ k) (e : m[k] = l[j]) {r' : Rec} {s' n' : Int} : ¬ Ris m r' s' n' := by
  intro h'
  have a' := (h'.at_ k hk).2.2.2.1
  have a := (h.at_ j hj).2.2.2.1
  rw [e] at a'
  omega
/-- Nor with a block of another start or number. -/
theorem ris_mixed {l x m : List (List UInt8)} {r r1 : Rec} {s n s1 n1 : Int} (h : Ris l r s n) (h1 : Ris x r1 s1 n1) (hne : s ≠ s1 ∨ n ≠ n1) {j k : Nat} (hj : j < l.length) (hk : k < x.length) (hjm : j < m.length) (hkm : k < m.length) (e : m[j] = l[j]) (e1 : m[k] = x[k]) {r' : Rec} {s' n' : Int} : ¬ Ris m r' s' n' := by
  intro h'
  have a := h.at_ j hj
  have a1 := h1.at_ k hk
  have b := h'.at_ j hjm
  have b1 := h'.at_ k hkm
  rw [e] at b
  rw [e1] at b1
  rcases hne with hne | hne
  · exact hne (a.2.1.symm.trans (b.2.1.trans (b1.2.1.symm.trans a1.2.1)))
  · exact hne (a.2.2.1.symm.trans (b.2.2.1.trans (b1.2.2.1.symm.trans a1.2.2.1)))
theorem got_of {l : List (List UInt8)} {r : Rec} {s n : Int} (h : Ris l r s n) {r' : Rec} {s' n' i f j : Int} (hg : GotR l r' s' n' i f j) : r' = r ∧ s' = s ∧ n' = n ∧ i = 0 ∧ f = l.length ∧ j = 0 := by
  rcases hg with ⟨h1, h2, h3, h4⟩ | ⟨h1, _⟩
  · obtain ⟨rfl, rfl, rfl⟩ := h.one h1
    exact ⟨rfl, rfl, rfl, h2, h3, h4⟩
  · exact absurd h (h1 _ _ _)
theorem got_not {l : List (List UInt8)} (h : ∀ r s n, ¬ Ris l r s n) {r' : Rec} {s' n' i f j : Int} (hg : GotR l r' s' n' i f j) : r' = zR ∧ s' = 0 ∧ n' = 0 ∧ i = 0 ∧ f = 0 ∧ j = 8 := by
  rcases hg with ⟨h1, _⟩ | ⟨_, h2⟩
  · exact absurd h1 (h _ _ _)
  · exact h2
/-- How many blocks. -/
theorem nbl_one {r : Rec} (h : mayR r = true) (hk : r.kd ≠ 2) : nbl (rcb r) = 1 := by
  have := (rcb_length h).2.2.1 hk
  unfold nbl
  omega
theorem nbl_alike {a b : Rec} (ha : mayR a = true) (hb : mayR b = true) (h1 : a.kd = b.kd) (h2 : a.op.kd = b.op.kd) (h3 : a.op.fm = b.op.fm) : nbl (rcb a) = nbl (rcb b) := by
  by_cases hk : a.kd = 2
  · have x := (rcb_length ha).2.2.2 hk
    have y := (rcb_length hb).2.2.2 (by omega)
    rw [h2, h3] at x
    unfold nbl
    omega
  · rw [nbl_one ha hk, nbl_one hb (by omega)]
end Go.Proofs.YtndmblhkmgnpcaaGreat
