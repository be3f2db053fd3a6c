/-
  Layer 12's laws: mathematics: what a write turns, and what it leaves; writes in a row.
-/
import Derived.Test.YtofnjdkfhboapaaDkG
namespace Go.Proofs.Ytofnjdkfhboapaa
open Go.RowKit
set_option linter.unusedVariables false
set_option linter.unusedSimpArgs false

def doneK (d : Dsk) : Bool := !d.dd && (d.lf != 0)
theorem done_yes {d : Dsk} (h : doneK d = true) : d.dd = false ∧ d.lf ≠ 0 := by simpa [doneK] using h
theorem done_no {d : Dsk} (h : doneK d = false) : d.dd = true ∨ d.lf = 0 := by
  cases hd : d.dd with
  | true => exact .inl rfl
  | false => right; simpa [doneK, hd] using h
theorem written_done {d : Dsk} (h : doneK d = true) (a : Int) (y : List UInt8) : writtenK d a y = ⟨withS d.se a y, d.st, if 0 < d.lf then d.lf - 1 else d.lf, false⟩ := by
  obtain ⟨h1, h2⟩ := done_yes h
  rw [writtenK, if_neg (by simp [h1, h2]), h1]
theorem written_not {d : Dsk} (h : doneK d = false) (a : Int) (y : List UInt8) : writtenK d a y = ⟨d.se, d.st, d.lf, true⟩ := by
  rw [writtenK, if_pos (done_no h)]
theorem tail_parts {d : Dsk} (h : mayD d = true) : secsB d.se = true ∧ 0 ≤ d.st ∧ d.st < 2147483648 ∧ -1 ≤ d.lf ∧ d.lf < 2147483648 ∧ (d.dd = true → d.lf = 0) := by
  rw [mayD, Bool.and_eq_true] at h
  obtain ⟨h0, h1⟩ := h
  simp only [tailD, Bool.and_eq_true, decide_eq_true_eq] at h1
  refine ⟨h0, h1.1.1.1.1, h1.1.1.1.2, h1.1.1.2, h1.1.2, fun hd => ?_⟩
  have := h1.2
  rw [hd] at this
  simpa using this
theorem may_of {d : Dsk} (h0 : secsB d.se = true) (h1 : 0 ≤ d.st) (h2 : d.st < 2147483648) (h3 : -1 ≤ d.lf) (h4 : d.lf < 2147483648) (h5 : d.dd = true → d.lf = 0) : mayD d = true := by
  rw [mayD, h0, Bool.true_and, tailD]
  cases hd : d.dd with
  | false => simp [h1, h2, h3, h4]
  | true => simp [h1, h2, h3, h4, h5 hd]
theorem may_written {d : Dsk} (h : mayD d = true) {a : Int} {y : List UInt8} (h0 : 0 ≤ a) (h1 : a < 6146) (hy : y.length = 128) : mayD (writtenK d a y) = true := by
  obtain ⟨t0, t1, t2, t3, t4, t5⟩ := tail_parts h
  cases hd : doneK d with
  | true =>
    rw [written_done hd]
    obtain ⟨g1, g2⟩ := done_yes hd
    refine may_of (secs_with t0 h0 h1 hy) t1 t2 ?_ ?_ (fun h => by cases h)
    · simp only; split <;> omega
    · simp only; split <;> omega
  | false =>
    rw [written_not hd]
    refine may_of t0 t1 t2 t3 t4 fun _ => ?_
    rcases done_no hd with h | h
    · exact t5 h
    · exact h
theorem write_0 {d : Dsk} {a : Int} {y : List UInt8} (h : writeE d a y = 0) : mayD d = true ∧ 0 ≤ a ∧ a < 6146 ∧ y.length = 128 ∧ writeV d a y = writtenK d a y := by
  have hv : writeV d a y = writtenK d a y := by rw [writeV, if_pos h]
  rw [writeE] at h
  split at h
  · rename_i hm
    split at h
    · rename_i h2
      exact ⟨hm, h2.1, h2.2.1, h2.2.2, hv⟩
    · omega
  · omega
theorem write_not {d : Dsk} {a : Int} {y : List UInt8} (h : writeE d a y ≠ 0) : writeV d a y = zK := by rw [writeV, if_neg h]
theorem readE_may {d e : Dsk} (hd : mayD d = true) (he : mayD e = true) (o : Int) : readE d o = readE e o := by rw [readE, readE, if_pos hd, if_pos he]
theorem readV_same {d e : Dsk} (hd : mayD d = true) (he : mayD e = true) (h : d.se = e.se) (o : Int) : readV d o = readV e o := by rw [readV, readV, readE_may hd he, h]
/-- What is read behind a write. -/
theorem read_done {d : Dsk} (h : mayD d = true) (hd : doneK d = true) {a : Int} {y : List UInt8} (h0 : 0 ≤ a) (h1 : a < 6146) (hy : y.length = 128) (o : Int) : readV (writtenK d a y) o = if o = a then y else readV d o := by
  have hm := may_written h h0 h1 hy
  rw [readV, readV, readE_may hm h]
  by_cases ho : o = a
  · subst ho
    rw [if_pos rfl, (read_ok h ⟨h0, h1⟩).1, if_pos rfl, written_done hd]
    simp only [atS_with, if_true]
  · rw [if_neg ho]
    split
    · rw [written_done hd]
      simp only [atS_with, if_neg ho]
    · rfl
end Go.Proofs.Ytofnjdkfhboapaa
