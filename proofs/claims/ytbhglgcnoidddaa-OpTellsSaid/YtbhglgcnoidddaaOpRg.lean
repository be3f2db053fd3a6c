/-
  The document's own Get of layer 9: its mathematics.
-/
import Derived.Test.YtbhglgcnoidddaaOpRh
import Derived.Test.YtbhglgcnoidddaaOpBy
import Derived.Test.YtbhglgcnoidddaaOpW
import Derived.Test.YtbhglgcnoidddaaRunH
namespace Go.Proofs.Ytbhglgcnoidddaa
open Go.RowKit
set_option linter.unusedVariables false
set_option linter.unusedSimpArgs false

def refHead (b : List UInt8) : Opd :=
  { kd := (vl (b.take 1) : Int)
    l := gL ((b.drop 1).take 6), c := gC ((b.drop 1).take 6), k := gK ((b.drop 1).take 6)
    s := (vl ((b.drop 7).take 3) : Int)
    fl := gL ((b.drop 10).take 13), fc := gC ((b.drop 10).take 13), fk := gK ((b.drop 10).take 13), fn := gN ((b.drop 10).take 13)
    fm := (vl ((b.drop 23).take 1) : Int)
    al := 0, ac := 0, ak := 0, an := 0, tl := 0, tc := 0, row := [] }
/-- What the bytes of an operation are like: its head, its tail. -/
structure Cuts (b : List UInt8) (o : Opd) : Prop where
  head : refHead b = { o with al := 0, ac := 0, ak := 0, an := 0, tl := 0, tc := 0, row := [] }
  len : (opb o).length ≤ b.length
  sz : szO o.kd o.fm = ((opb o).length : Int)
  ne : szO o.kd o.fm ≠ 0
  tak : b.take (opb o).length = opb o
  aft : o.kd = 1 → gL ((b.drop 24).take 13) = o.al ∧ gC ((b.drop 24).take 13) = o.ac ∧ gK ((b.drop 24).take 13) = o.ak ∧ gN ((b.drop 24).take 13) = o.an
  row : o.kd = 1 → ((b.drop 37).take (4 * o.fm.toNat)) = wide o.row ∧ chk o.row = 0 ∧ o.tl = 0 ∧ o.tc = 0
  non : o.kd = 2 → o = refHead b
  lab : o.kd = 3 → (vl ((b.drop 24).take 1) : Int) = o.tl ∧ (vl ((b.drop 25).take 4) : Int) = o.tc ∧ o = { refHead b with tl := o.tl, tc := o.tc }
  ins : o.kd = 1 → o = { refHead b with al := o.al, ac := o.ac, ak := o.ak, an := o.an, row := o.row }
theorem cuts {b : List UInt8} {o : Opd} (h : Begins b o) : Cuts b o := by
  obtain ⟨r, hm, t, rfl⟩ := h
  have m := maid hm
  have e0 : opb o ++ t = nB 1 o.kd ++ (hB o.l o.c o.k ++ (nB 3 o.s ++ (iB o.fl o.fc o.fk o.fn ++ (nB 1 o.fm ++ (tailO o ++ t))))) := by simp [opb, headO]
  have p0 : (opb o ++ t).take 1 = nB 1 o.kd := by rw [e0]; exact List.take_left' (nB_length _ _)
  have p1 : ((opb o ++ t).drop 1).take 6 = hB o.l o.c o.k := by rw [e0]; exact mid _ _ _ (nB_length _ _) (hB_length _ _ _)
  have p2 : ((opb o ++ t).drop 7).take 3 = nB 3 o.s := by
    rw [e0, ← List.append_assoc]; exact mid _ _ _ (by simp [nB_length, hB_length]) (nB_length _ _)
  have p3 : ((opb o ++ t).drop 10).take 13 = iB o.fl o.fc o.fk o.fn := by
    rw [e0, ← List.append_assoc, ← List.append_assoc]; exact mid _ _ _ (by simp [nB_length, hB_length]) (iB_length _ _ _ _)
  have p4 : ((opb o ++ t).drop 23).take 1 = nB 1 o.fm := by
    rw [e0, ← List.append_assoc, ← List.append_assoc, ← List.append_assoc]; exact mid _ _ _ (by simp [nB_length, hB_length, iB_length]) (nB_length _ _)
  have p5 : (opb o ++ t).drop 24 = tailO o ++ t := by
    rw [opb, List.append_assoc]; exact List.drop_left' (headO_length o)
  have p6 : (opb o ++ t).drop 37 = (tailO o ++ t).drop 13 := by rw [← p5, List.drop_drop]
  have p7 : (opb o ++ t).drop 25 = (tailO o ++ t).drop 1 := by rw [← p5, List.drop_drop]
  have k0 := r.k0
  have k1 := r.k1
  have m1 := m.m1
  have m2 := m.m2
  have s1 := m.s1
  have s2 := m.s2
  have hfn := mayI_n (mayS_I m.hs)
  have q0 : ((vl (nB 1 o.kd) : Nat) : Int) = o.kd := vl_nB k0 (by simp; omega)
  have q2 : ((vl (nB 3 o.s) : Nat) : Int) = o.s := vl_nB (by omega) (by simp; omega)
  have q4 : ((vl (nB 1 o.fm) : Nat) : Int) = o.fm := vl_nB (by omega) (by simp; omega)
  obtain ⟨a1, a2, a3⟩ := gH_parts r.han
  obtain ⟨b1, b2, b3, b4⟩ := gI_parts (n := o.fn) r.spn.idn.han (by omega) (by omega)
  have hsz := opb_length hm
  have hH : refHead (opb o ++ t) = { o with al := 0, ac := 0, ak := 0, an := 0, tl := 0, tc := 0, row := [] } := by
    simp only [refHead, p0, p1, p2, p3, p4, q0, q2, q4, a1, a2, a3, b1, b2, b3, b4]
  refine ⟨hH, by rw [List.length_append]; omega, hsz.1.symm, hsz.2.2.2, List.take_left' rfl, ?_, ?_, ?_, ?_, ?_⟩
  · intro hk
    rw [p5, tailO, if_pos hk, List.append_assoc, List.take_left' (iB_length _ _ _ _)]
    rcases Bool.or_eq_true _ _ |>.mp (m.ins hk).1 with hz | hz
    · obtain ⟨z1, z2, z3, z4⟩ := sameI_zero hz
      rw [z1, z2, z3, z4]
      decide
    · have hn := mayI_n hz
      exact gI_parts (n := o.an) r.aft.han (by omega) (by omega)
  · intro hk
    obtain ⟨i1, i2, i3, i4, i5⟩ := m.ins hk
    rw [p6, tailO, if_pos hk, List.append_assoc]
    exact ⟨mid _ _ _ (iB_length _ _ _ _) (by rw [wide_length]; omega), i3, i4, i5⟩
  · intro hk
    have i1 := m.oth (by omega)
    have i2 := m.del hk
    rw [hH]
    obtain ⟨⟨j1, j2, j3, j4⟩, j5⟩ := i1
    obtain ⟨j6, j7⟩ := i2
    cases o
    simp only at j1 j2 j3 j4 j5 j6 j7
    subst j1 j2 j3 j4 j5 j6 j7
    rfl
  · intro hk
    obtain ⟨l0, l1, c0, c1⟩ := r.lab
    have hT : tailO o = nB 1 o.tl ++ nB 4 o.tc := by rw [tailO, if_neg (by omega), if_pos hk]
    rw [p5, p7, hT, List.append_assoc, List.take_left' (nB_length _ _), mid _ _ _ (nB_length _ _) (nB_length _ _)]
    refine ⟨vl_nB l0 (by simp; omega), vl_nB c0 (by simp; omega), ?_⟩
    obtain ⟨⟨j1, j2, j3, j4⟩, j5⟩ := m.oth (by omega)
    rw [hH]
    cases o
    simp only at j1 j2 j3 j4 j5
    subst j1 j2 j3 j4 j5
    rfl
  · intro hk
    obtain ⟨i1, i2, i3, i4, i5⟩ := m.ins hk
    rw [hH]
    cases o
    simp only at i4 i5
    subst i4 i5
    rfl
end Go.Proofs.Ytbhglgcnoidddaa
