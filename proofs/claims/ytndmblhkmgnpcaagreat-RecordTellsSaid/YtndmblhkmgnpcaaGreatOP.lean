/-
  The mathematics of layer 9, what the program's and the document's texts share: when two operations are the same, a beginning, what Get has to tell.
-/
import Derived.Test.YtndmblhkmgnpcaaGreatOA
import Derived.Test.YtndmblhkmgnpcaaGreatRH
namespace Go.Proofs.YtndmblhkmgnpcaaGreat
set_option linter.unusedVariables false
set_option linter.unusedSimpArgs false

def sameO (a b : Opd) : Bool := (a.kd == b.kd) && sameH a.l a.c a.k b.l b.c b.k && (a.s == b.s) && sameS a.fl a.fc a.fk a.fn a.fm b.fl b.fc b.fk b.fn b.fm && sameI a.al a.ac a.ak a.an b.al b.ac b.ak b.an && sameL a.tl a.tc b.tl b.tc && sameRow a.row b.row
theorem sameO_self (a : Opd) : sameO a a = true := by simp [sameO, sameH, sameS, sameI, sameL, sameRow]

def preB (l m : List UInt8) : Bool := decide (m.length ≤ l.length) && (l.take m.length == m)
theorem preB_iff {l m : List UInt8} : preB l m = true ↔ m <+: l := by
  simp only [preB, Bool.and_eq_true, decide_eq_true_eq, beq_iff_eq]
  constructor
  · rintro ⟨_, h⟩
    exact List.prefix_iff_eq_take.2 h.symm
  · intro h
    exact ⟨h.length_le, (List.prefix_iff_eq_take.1 h).symm⟩


/-- What Get has to tell. -/
def Got (l : List UInt8) (o : Opd) (z j : Int) : Prop := (Begins l o ∧ z = ((opb o).length : Int) ∧ j = 0) ∨ ((∀ o', ¬ Begins l o') ∧ o = zO ∧ z = 0 ∧ j = 8)
theorem Got.one {l : List UInt8} {o o' : Opd} {z z' j j' : Int} (h : Got l o z j) (h' : Got l o' z' j') : o = o' ∧ z = z' ∧ j = j' := by
  rcases h with ⟨h1, h2, h3⟩ | ⟨h1, h2, h3, h4⟩
  · rcases h' with ⟨k1, k2, k3⟩ | ⟨k1, k2, k3, k4⟩
    · obtain rfl := begins_one h1 k1
      exact ⟨rfl, h2.trans k2.symm, h3.trans k3.symm⟩
    · exact absurd h1 (k1 _)
  · rcases h' with ⟨k1, k2, k3⟩ | ⟨k1, k2, k3, k4⟩
    · exact absurd k1 (h1 _)
    · exact ⟨h2.trans k2.symm, h3.trans k3.symm, h4.trans k4.symm⟩

theorem pick_r {q : Bool} {x b : Int} (h0 : 0 ≤ x) (h1 : x ≤ b) : 0 ≤ pick q x ∧ pick q x ≤ b := by
  cases q
  · exact ⟨by rw [pick_false]; omega, by rw [pick_false]; omega⟩
  · exact ⟨h0, h1⟩
theorem han_r (q : Bool) (l : List UInt8) : Han (pick q (gL l)) (pick q (gC l)) (pick q (gK l)) := by
  have h1 := gL_range l
  have h2 := gC_range l
  have h3 := gK_range l
  exact ⟨⟨(pick_r h1.1 h1.2).1, (pick_r h1.1 h1.2).2, (pick_r (b := 4294967295) h2.1 (by omega)).1, (pick_r h2.1 (by omega)).2⟩, (pick_r h3.1 h3.2).1, (pick_r h3.1 h3.2).2⟩
theorem idn_r (q : Bool) {l : List UInt8} (h : l.length ≤ 13) : Idn (pick q (gL l)) (pick q (gC l)) (pick q (gK l)) (pick q (gN l)) := by
  have h1 := gN_range l h
  have := pick_r (q := q) h1.1 (b := 9223372036854775807) (by omega)
  exact ⟨han_r q l, by unfold In64; omega⟩
theorem han_0 : Han 0 0 0 := ⟨⟨by omega, by omega, by omega, by omega⟩, by omega, by omega⟩
theorem idn_0 : Idn 0 0 0 0 := ⟨han_0, by simp [In64]⟩
theorem vl_r (l : List UInt8) (k : Nat) (hk : k ≤ 4) : 0 ≤ (vl (l.take k) : Int) ∧ (vl (l.take k) : Int) < 256 ^ k := by
  have h1 := vl_lt (l.take k)
  have h2 : 256 ^ (l.take k).length ≤ 256 ^ k := Nat.pow_le_pow_right (by decide) (by rw [List.length_take]; omega)
  have e : ((256 ^ k : Nat) : Int) = (256 : Int) ^ k := by simp
  omega
theorem tail_r (kd m : Int) (t : List UInt8) : Idn (rdTail kd m t).1.1 (rdTail kd m t).1.2.1 (rdTail kd m t).1.2.2.1 (rdTail kd m t).1.2.2.2 ∧ Lab (rdTail kd m t).2.1.1 (rdTail kd m t).2.1.2 ∧ In32 (rdTail kd m t).2.2 := by
  have d1 := vl_r t 1 (by omega)
  have d4 := vl_r (t.drop 1) 4 (by omega)
  simp only [Int.reducePow] at d1 d4
  unfold rdTail
  split
  · exact ⟨idn_0, han_0.lab, In32.nil⟩
  · split
    · refine ⟨idn_r _ (by rw [List.length_take]; omega), han_0.lab, ?_⟩
      show In32 (getV _)
      unfold getV
      split
      · exact rows_in32 _
      · exact In32.nil
    · split
      · exact ⟨idn_0, ⟨d1.1, by show (vl (t.take 1) : Int) ≤ 255; omega, d4.1, by show (vl ((t.drop 1).take 4) : Int) ≤ 4294967295; omega⟩, In32.nil⟩
      · exact ⟨idn_0, han_0.lab, In32.nil⟩
theorem rdO_r (l : List UInt8) : Opr (rdO l) := by
  have a := vl_r l 1 (by omega)
  have b := vl_r (l.drop 7) 3 (by omega)
  have c := vl_r (l.drop 23) 1 (by omega)
  simp only [Int.reducePow] at a b c
  obtain ⟨hI, hL, hR⟩ := tail_r (rdHead l).kd (rdHead l).fm (l.drop 24)
  refine ⟨a.1, by show (vl (l.take 1) : Int) ≤ 255; omega, han_r _ _, ?_, ⟨idn_r _ (by rw [List.length_take]; omega), ?_⟩, hI, hL, hR⟩
  · show In64 ((vl ((l.drop 7).take 3) : Nat) : Int)
    unfold In64; omega
  · show In64 ((vl ((l.drop 23).take 1) : Nat) : Int)
    unfold In64; omega

end Go.Proofs.YtndmblhkmgnpcaaGreat
