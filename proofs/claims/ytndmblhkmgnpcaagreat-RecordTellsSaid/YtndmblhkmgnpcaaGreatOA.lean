/-
  An operation in a box; the program's Check and what it asks.
-/
import Derived.Test.YtndmblhkmgnpcaaGreatIA
import Derived.Test.YtndmblhkmgnpcaaGreatRA
import Derived.BigRegion
import Derived.Deep.MidRow
import Derived.Deep.WholeRow
namespace Go.Proofs.YtndmblhkmgnpcaaGreat
set_option linter.unusedVariables false
set_option linter.unusedSimpArgs false

structure Opd where
  kd : Int
  l : Int
  c : Int
  k : Int
  s : Int
  fl : Int
  fc : Int
  fk : Int
  fn : Int
  fm : Int
  al : Int
  ac : Int
  ak : Int
  an : Int
  tl : Int
  tc : Int
  row : List Int

@[reducible] def zO : Opd := ⟨0, 0, 0, 0, 0, 0, 0, 0, 0, 0, 0, 0, 0, 0, 0, 0, []⟩

/-- The numbers of a handle, an id, a span, an operation are of their kinds. -/
structure Han (l c k : Int) : Prop where
  lab : Lab l c
  k0 : 0 ≤ k
  k1 : k ≤ 255
def In64 (n : Int) : Prop := -9223372036854775808 ≤ n ∧ n ≤ 9223372036854775807
structure Idn (l c k n : Int) : Prop where
  han : Han l c k
  n64 : In64 n
structure Spn (l c k n m : Int) : Prop where
  idn : Idn l c k n
  m64 : In64 m
structure Opr (o : Opd) : Prop where
  k0 : 0 ≤ o.kd
  k1 : o.kd ≤ 255
  han : Han o.l o.c o.k
  s64 : In64 o.s
  spn : Spn o.fl o.fc o.fk o.fn o.fm
  aft : Idn o.al o.ac o.ak o.an
  lab : Lab o.tl o.tc
  r32 : In32 o.row
theorem zO_r : Opr zO := ⟨by decide, by decide, ⟨⟨by decide, by decide, by decide, by decide⟩, by decide, by decide⟩, by simp [In64], ⟨⟨⟨⟨by decide, by decide, by decide, by decide⟩, by decide, by decide⟩, by simp [In64]⟩, by simp [In64]⟩, ⟨⟨⟨by decide, by decide, by decide, by decide⟩, by decide, by decide⟩, by simp [In64]⟩, ⟨by decide, by decide, by decide, by decide⟩, In32.nil⟩

def aftB (o : Opd) : Bool := sameI o.al o.ac o.ak o.an 0 0 0 0 || mayI o.al o.ak o.an
def rowB (o : Opd) : Bool := decide ((o.row.length : Int) = o.fm) && decide (chk o.row = 0)
def nonB (o : Opd) : Bool := sameI o.al o.ac o.ak o.an 0 0 0 0 && decide (o.row.length = 0)
def headB (o : Opd) : Bool := mayH o.l o.k && decide (1 ≤ o.s) && decide (o.s < 16777216) && mayS o.fl o.fk o.fn o.fm
def tailB (o : Opd) : Bool :=
  if o.kd = 1 then sameH o.fl o.fc o.fk o.l o.c o.k && aftB o && rowB o && sameL o.tl o.tc 0 0
  else if o.kd = 2 then nonB o && sameL o.tl o.tc 0 0
  else if o.kd = 3 then nonB o && mayL o.tl else false
def mayO (o : Opd) : Bool := headB o && tailB o

/-- How many bytes. -/
def szO (kd m : Int) : Int := if 1 ≤ m ∧ m ≤ 64 then (if kd = 1 then 37 + 4 * m else if kd = 2 then 24 else if kd = 3 then 29 else 0) else 0

def iB (l c k n : Int) : List UInt8 := iby l.toNat c.toNat k.toNat n.toNat
def hB (l c k : Int) : List UInt8 := hby l.toNat c.toNat k.toNat
def nB (k : Nat) (n : Int) : List UInt8 := dg k n.toNat
theorem iB_length (l c k n : Int) : (iB l c k n).length = 13 := iby_length _ _ _ _
theorem hB_length (l c k : Int) : (hB l c k).length = 6 := hby_length _ _ _
theorem nB_length (k : Nat) (n : Int) : (nB k n).length = k := dg_length _ _

/-- An operation's bytes: those of every one, and what stands behind them. -/
def headO (o : Opd) : List UInt8 := nB 1 o.kd ++ (hB o.l o.c o.k ++ (nB 3 o.s ++ (iB o.fl o.fc o.fk o.fn ++ nB 1 o.fm)))
def tailO (o : Opd) : List UInt8 := if o.kd = 1 then iB o.al o.ac o.ak o.an ++ wide o.row else if o.kd = 3 then nB 1 o.tl ++ nB 4 o.tc else []
def opb (o : Opd) : List UInt8 := headO o ++ tailO o
theorem headO_length (o : Opd) : (headO o).length = 24 := by simp [headO, nB_length, hB_length, iB_length]
theorem iB_zero : iB 0 0 0 0 = List.replicate 13 0 := rfl

theorem and4 {a b c d : Bool} (h : (a && b && c && d) = true) : a = true ∧ b = true ∧ c = true ∧ d = true := by
  revert h; cases a <;> cases b <;> cases c <;> cases d <;> simp

theorem sameI_zero {a b c d : Int} (h : sameI a b c d 0 0 0 0 = true) : a = 0 ∧ b = 0 ∧ c = 0 ∧ d = 0 := by
  simp [sameI] at h; omega
theorem sameL_zero {a b : Int} (h : sameL a b 0 0 = true) : a = 0 ∧ b = 0 := by
  simp [sameL] at h; omega

/-- What an operation that may be is like. -/
structure Maid (o : Opd) : Prop where
  hh : mayH o.l o.k = true
  s1 : 1 ≤ o.s
  s2 : o.s < 16777216
  hs : mayS o.fl o.fk o.fn o.fm = true
  m1 : 1 ≤ o.fm
  m2 : o.fm ≤ 64
  kd : o.kd = 1 ∨ o.kd = 2 ∨ o.kd = 3
  ins : o.kd = 1 → aftB o = true ∧ (o.row.length : Int) = o.fm ∧ chk o.row = 0 ∧ o.tl = 0 ∧ o.tc = 0
  oth : o.kd ≠ 1 → (o.al = 0 ∧ o.ac = 0 ∧ o.ak = 0 ∧ o.an = 0) ∧ o.row = []
  del : o.kd = 2 → o.tl = 0 ∧ o.tc = 0
theorem maid {o : Opd} (h : mayO o = true) : Maid o := by
  simp only [mayO, Bool.and_eq_true] at h
  obtain ⟨h1, h2⟩ := h
  obtain ⟨a, b, c, d⟩ := and4 h1
  have d' := d
  simp only [mayS, Bool.and_eq_true, decide_eq_true_eq] at d'
  refine ⟨a, by simpa using b, by simpa using c, d, d'.2.1, d'.2.2.1, ?_, ?_, ?_, ?_⟩
  · simp only [tailB] at h2
    split at h2
    · rename_i h; exact .inl h
    · split at h2
      · rename_i h; exact .inr (.inl h)
      · split at h2
        · rename_i h; exact .inr (.inr h)
        · cases h2
  · intro hk
    simp only [tailB, hk, if_true] at h2
    obtain ⟨e1, e2, e3, e4⟩ := and4 h2
    simp only [rowB, Bool.and_eq_true, decide_eq_true_eq] at e3
    have e5 := sameL_zero e4
    exact ⟨e2, e3.1, e3.2, e5.1, e5.2⟩
  · intro hk
    simp only [tailB, if_neg hk] at h2
    have hn : nonB o = true := by
      split at h2
      · simp only [Bool.and_eq_true] at h2; exact h2.1
      · split at h2
        · simp only [Bool.and_eq_true] at h2; exact h2.1
        · cases h2
    simp only [nonB, Bool.and_eq_true, decide_eq_true_eq] at hn
    exact ⟨sameI_zero hn.1, List.eq_nil_of_length_eq_zero hn.2⟩
  · intro hk
    have hk1 : ¬ o.kd = 1 := by omega
    simp only [tailB, hk, if_neg (show ¬ (2 : Int) = 1 by decide), if_true, Bool.and_eq_true] at h2
    exact sameL_zero h2.2

theorem opb_length {o : Opd} (h : mayO o = true) : ((opb o).length : Int) = szO o.kd o.fm ∧ 24 ≤ (opb o).length ∧ (opb o).length ≤ 293 ∧ szO o.kd o.fm ≠ 0 := by
  have m := maid h
  have m1 := m.m1
  have m2 := m.m2
  have hsz : szO o.kd o.fm = if o.kd = 1 then 37 + 4 * o.fm else if o.kd = 2 then 24 else if o.kd = 3 then 29 else 0 := if_pos ⟨m1, m2⟩
  rw [hsz, opb, List.length_append, headO_length, tailO]
  rcases m.kd with hk | hk | hk
  · have hr := (m.ins hk).2.1
    rw [if_pos hk, if_pos hk, List.length_append, iB_length, wide_length]
    omega
  · simp [hk]
  · simp [hk, nB_length]

/-- A piece in the midst. -/
theorem mid {α : Type} (p q r : List α) {i n : Nat} (hi : p.length = i) (hn : q.length = n) : ((p ++ (q ++ r)).drop i).take n = q := by
  subst hi hn
  rw [List.drop_left, List.take_left]

/-- What bytes tell, as the program takes them. -/
def rdTail (kd m : Int) (t : List UInt8) : (Int × Int × Int × Int) × (Int × Int) × List Int :=
  if szO kd m = 0 then ((0, 0, 0, 0), (0, 0), [])
  else if kd = 1 then ((pick (okI (t.take 13)) (gL (t.take 13)), pick (okI (t.take 13)) (gC (t.take 13)), pick (okI (t.take 13)) (gK (t.take 13)), pick (okI (t.take 13)) (gN (t.take 13))), (0, 0), getV ((t.drop 13).take (4 * m.toNat)))
  else if kd = 3 then ((0, 0, 0, 0), ((vl (t.take 1) : Int), (vl ((t.drop 1).take 4) : Int)), [])
  else ((0, 0, 0, 0), (0, 0), [])
def rdHead (b : List UInt8) : Opd :=
  { kd := (vl (b.take 1) : Int)
    l := pick (okH ((b.drop 1).take 6)) (gL ((b.drop 1).take 6)), c := pick (okH ((b.drop 1).take 6)) (gC ((b.drop 1).take 6)), k := pick (okH ((b.drop 1).take 6)) (gK ((b.drop 1).take 6))
    s := (vl ((b.drop 7).take 3) : Int)
    fl := pick (okI ((b.drop 10).take 13)) (gL ((b.drop 10).take 13)), fc := pick (okI ((b.drop 10).take 13)) (gC ((b.drop 10).take 13)), fk := pick (okI ((b.drop 10).take 13)) (gK ((b.drop 10).take 13)), fn := pick (okI ((b.drop 10).take 13)) (gN ((b.drop 10).take 13))
    fm := (vl ((b.drop 23).take 1) : Int)
    al := 0, ac := 0, ak := 0, an := 0, tl := 0, tc := 0, row := [] }
def putTail (o : Opd) (t : (Int × Int × Int × Int) × (Int × Int) × List Int) : Opd := { o with al := t.1.1, ac := t.1.2.1, ak := t.1.2.2.1, an := t.1.2.2.2, tl := t.2.1.1, tc := t.2.1.2, row := t.2.2 }
def rdO (b : List UInt8) : Opd := putTail (rdHead b) (rdTail (rdHead b).kd (rdHead b).fm (b.drop 24))

/-- b begins with the bytes of o, which may be. -/
structure Begins (b : List UInt8) (o : Opd) : Prop where
  r : Opr o
  may : mayO o = true
  pre : opb o <+: b

theorem gH_parts {l c k : Int} (h : Han l c k) : gL (hB l c k) = l ∧ gC (hB l c k) = c ∧ gK (hB l c k) = k := by
  obtain ⟨⟨g1, g2, g3, g4⟩, g5, g6⟩ := h
  obtain ⟨x, y, z, u, h4⟩ := four_of (dg_length 4 c.toNat)
  have hv : vl [x, y, z, u] = c.toNat := by rw [← h4]; exact vl_dg 4 _ (by simp only [Nat.reducePow]; omega)
  have e : hB l c k = [UInt8.ofNat l.toNat, x, y, z, u, UInt8.ofNat k.toNat] := by simp [hB, hby, h4]
  refine ⟨?_, ?_, ?_⟩
  · rw [e, gL]
    show (((UInt8.ofNat l.toNat).toNat : Nat) : Int) = l
    rw [ofNat_toNat (by omega)]; omega
  · rw [e, gC]
    show ((vl [x, y, z, u] : Nat) : Int) = c
    rw [hv]; omega
  · rw [e, gK]
    show (((UInt8.ofNat k.toNat).toNat : Nat) : Int) = k
    rw [ofNat_toNat (by omega)]; omega
theorem gI_parts {l c k n : Int} (h : Han l c k) (n0 : 0 ≤ n) (n1 : n < 72057594037927936) : gL (iB l c k n) = l ∧ gC (iB l c k n) = c ∧ gK (iB l c k n) = k ∧ gN (iB l c k n) = n := by
  obtain ⟨⟨g1, g2, g3, g4⟩, g5, g6⟩ := h
  obtain ⟨e1, e2, e3, e4⟩ := iby_parts l.toNat c.toNat k.toNat n.toNat (by omega) (by omega) (by omega) (by omega)
  unfold iB
  omega
theorem okH_hB {l c k : Int} (h : Han l c k) (hm : mayH l k = true) : okH (hB l c k) = true := by
  obtain ⟨e1, e2, e3⟩ := gH_parts h
  rw [okH, e1, e3, hm, hB_length]
  rfl
theorem mayI_n {l k n : Int} (hm : mayI l k n = true) : 1 ≤ n ∧ n ≤ 1099511627776 := by
  simp only [mayI, Bool.and_eq_true, decide_eq_true_eq] at hm
  exact hm.2
theorem okI_iB {l c k n : Int} (h : Han l c k) (hm : mayI l k n = true) : okI (iB l c k n) = true := by
  have hn := mayI_n hm
  obtain ⟨e1, e2, e3, e4⟩ := gI_parts (n := n) h (by omega) (by omega)
  rw [okI, e1, e3, e4, hm, iB_length]
  rfl
theorem mayS_I {l k n m : Int} (h : mayS l k n m = true) : mayI l k n = true := by
  simp only [mayS, Bool.and_eq_true] at h
  exact h.1
theorem vl_nB {k : Nat} {n : Int} (h0 : 0 ≤ n) (h1 : n < 256 ^ k) : ((vl (nB k n) : Nat) : Int) = n := by
  have : n.toNat < 256 ^ k := by
    have e : ((256 ^ k : Nat) : Int) = (256 : Int) ^ k := by simp
    omega
  rw [nB, vl_dg k _ this]
  omega

/-- What is put is read. -/
theorem rdO_of {b : List UInt8} {o : Opd} (h : Begins b o) : rdO b = o := by
  obtain ⟨r, hm, t, rfl⟩ := h
  have m := maid hm
  have e0 : opb o ++ t = nB 1 o.kd ++ (hB o.l o.c o.k ++ (nB 3 o.s ++ (iB o.fl o.fc o.fk o.fn ++ (nB 1 o.fm ++ (tailO o ++ t))))) := by simp [opb, headO]
  have p0 : (opb o ++ t).take 1 = nB 1 o.kd := by rw [e0]; exact List.take_left' (nB_length _ _)
  have p1 : ((opb o ++ t).drop 1).take 6 = hB o.l o.c o.k := by rw [e0]; exact mid _ _ _ (nB_length _ _) (hB_length _ _ _)
  have p2 : ((opb o ++ t).drop 7).take 3 = nB 3 o.s := by
    rw [e0, ← List.append_assoc]; exact mid _ _ _ (by simp [nB_length, hB_length]) (nB_length _ _)
  have p3 : ((opb o ++ t).drop 10).take 13 = iB o.fl o.fc o.fk o.fn := by
    rw [e0, ← List.append_assoc, ← List.append_assoc]; exact mid _ _ _ (by simp [nB_length, hB_length]) (iB_length _ _ _ _)
  have p4 : ((opb o ++ t).drop 23).take 1 = nB 1 o.fm := by
    rw [e0, ← List.append_assoc, ← List.append_assoc, ← List.append_assoc]; exact mid _ _ _ (by simp [nB_length, hB_length, iB_length]) (nB_length _ _)
  have p5 : (opb o ++ t).drop 24 = tailO o ++ t := by
    rw [opb, List.append_assoc]; exact List.drop_left' (headO_length o)
  have k0 := r.k0
  have k1 := r.k1
  have m1 := m.m1
  have m2 := m.m2
  have s1 := m.s1
  have s2 := m.s2
  have hfn := mayI_n (mayS_I m.hs)
  have q0 : ((vl (nB 1 o.kd) : Nat) : Int) = o.kd := vl_nB k0 (by simp; omega)
  have q2 : ((vl (nB 3 o.s) : Nat) : Int) = o.s := vl_nB (by omega) (by simp; omega)
  have q4 : ((vl (nB 1 o.fm) : Nat) : Int) = o.fm := vl_nB (by omega) (by simp; omega)
  obtain ⟨a1, a2, a3⟩ := gH_parts r.han
  have a0 := okH_hB r.han m.hh
  obtain ⟨b1, b2, b3, b4⟩ := gI_parts (n := o.fn) r.spn.idn.han (by omega) (by omega)
  have b0 := okI_iB r.spn.idn.han (mayS_I m.hs)
  have hsz := (opb_length hm).2.2.2
  have hH : rdHead (opb o ++ t) = { o with al := 0, ac := 0, ak := 0, an := 0, tl := 0, tc := 0, row := [] } := by
    simp only [rdHead, p0, p1, p2, p3, p4, q0, q2, q4, a0, a1, a2, a3, b0, b1, b2, b3, b4, pick_true]
  rw [rdO, hH, p5]
  have hT : rdTail o.kd o.fm (tailO o ++ t) = ((o.al, o.ac, o.ak, o.an), (o.tl, o.tc), o.row) := by
    rw [rdTail, if_neg hsz]
    rcases m.kd with hk | hk | hk
    · obtain ⟨i1, i2, i3, i4, i5⟩ := m.ins hk
      rw [if_pos hk, tailO, if_pos hk, List.append_assoc]
      have u0 : (iB o.al o.ac o.ak o.an ++ (wide o.row ++ t)).take 13 = iB o.al o.ac o.ak o.an := List.take_left' (iB_length _ _ _ _)
      have u1 : ((iB o.al o.ac o.ak o.an ++ (wide o.row ++ t)).drop 13).take (4 * o.fm.toNat) = wide o.row := mid _ _ _ (iB_length _ _ _ _) (by rw [wide_length]; omega)
      rw [u0, u1]
      have hrow : getV (wide o.row) = o.row := by
        have e := (get_put i3).2.1
        rwa [putV, if_pos i3] at e
      rw [hrow, i4, i5]
      rcases Bool.or_eq_true _ _ |>.mp i1 with hz | hz
      · obtain ⟨z1, z2, z3, z4⟩ := sameI_zero hz
        rw [z1, z2, z3, z4]
        have hf : okI (iB 0 0 0 0) = false := by decide
        rw [hf]
        rfl
      · have hn := mayI_n hz
        obtain ⟨c1, c2, c3, c4⟩ := gI_parts (n := o.an) r.aft.han (by omega) (by omega)
        rw [okI_iB r.aft.han hz, c1, c2, c3, c4]
        rfl
    · have i1 := m.oth (by omega)
      have i2 := m.del hk
      rw [if_neg (by omega), if_neg (by omega)]
      rw [i1.1.1, i1.1.2.1, i1.1.2.2.1, i1.1.2.2.2, i1.2, i2.1, i2.2]
    · have i1 := m.oth (by omega)
      obtain ⟨l0, l1, c0, c1⟩ := r.lab
      rw [if_neg (by omega), if_pos hk, tailO, if_neg (by omega), if_pos hk, List.append_assoc]
      have u0 : (nB 1 o.tl ++ (nB 4 o.tc ++ t)).take 1 = nB 1 o.tl := List.take_left' (nB_length _ _)
      have u1 : ((nB 1 o.tl ++ (nB 4 o.tc ++ t)).drop 1).take 4 = nB 4 o.tc := mid _ _ _ (nB_length _ _) (nB_length _ _)
      rw [u0, u1, vl_nB l0 (by simp; omega), vl_nB c0 (by simp; omega)]
      rw [i1.1.1, i1.1.2.1, i1.1.2.2.1, i1.1.2.2.2, i1.2]
  rw [hT]
  rfl
theorem begins_one {b : List UInt8} {o o' : Opd} (h : Begins b o) (h' : Begins b o') : o = o' := (rdO_of h).symm.trans (rdO_of h')
end Go.Proofs.YtndmblhkmgnpcaaGreat

namespace Go.Proofs.YtndmblhkmgnpcaaGreat
open Go.RowKit
set_option linter.unusedVariables false
set_option linter.unusedSimpArgs false

/-- The cells of an operation that lies in a block. -/
structure BoxO (W : World) (b : Nat) (o : Opd) (A : Option Addr) (n c : Nat) : Prop where
  c0 : W.cell? ⟨b, 0, none⟩ = some (.int .u8 o.kd)
  c1 : W.cell? ⟨b, 1, none⟩ = some (.int .u8 o.l)
  c2 : W.cell? ⟨b, 2, none⟩ = some (.int .u32 o.c)
  c3 : W.cell? ⟨b, 3, none⟩ = some (.int .u8 o.k)
  c4 : W.cell? ⟨b, 4, none⟩ = some (.int .i64 o.s)
  c5 : W.cell? ⟨b, 5, none⟩ = some (.int .u8 o.fl)
  c6 : W.cell? ⟨b, 6, none⟩ = some (.int .u32 o.fc)
  c7 : W.cell? ⟨b, 7, none⟩ = some (.int .u8 o.fk)
  c8 : W.cell? ⟨b, 8, none⟩ = some (.int .i64 o.fn)
  c9 : W.cell? ⟨b, 9, none⟩ = some (.int .i64 o.fm)
  c10 : W.cell? ⟨b, 10, none⟩ = some (.int .u8 o.al)
  c11 : W.cell? ⟨b, 11, none⟩ = some (.int .u32 o.ac)
  c12 : W.cell? ⟨b, 12, none⟩ = some (.int .u8 o.ak)
  c13 : W.cell? ⟨b, 13, none⟩ = some (.int .i64 o.an)
  c14 : W.cell? ⟨b, 14, none⟩ = some (.int .u8 o.tl)
  c15 : W.cell? ⟨b, 15, none⟩ = some (.int .u32 o.tc)
  c16 : W.cell? ⟨b, 16, none⟩ = some (.slice A n c)
theorem BoxO.keep {W W' : World} {b : Nat} {o : Opd} {A : Option Addr} {n c : Nat} (h : BoxO W b o A n c) (hb : Below W.heap.size W W') : BoxO W' b o A n c :=
  ⟨Go.Proofs.YtndmblhkmgnpcaaGreat.keep hb h.c0, Go.Proofs.YtndmblhkmgnpcaaGreat.keep hb h.c1, Go.Proofs.YtndmblhkmgnpcaaGreat.keep hb h.c2, Go.Proofs.YtndmblhkmgnpcaaGreat.keep hb h.c3, Go.Proofs.YtndmblhkmgnpcaaGreat.keep hb h.c4, Go.Proofs.YtndmblhkmgnpcaaGreat.keep hb h.c5, Go.Proofs.YtndmblhkmgnpcaaGreat.keep hb h.c6, Go.Proofs.YtndmblhkmgnpcaaGreat.keep hb h.c7, Go.Proofs.YtndmblhkmgnpcaaGreat.keep hb h.c8, Go.Proofs.YtndmblhkmgnpcaaGreat.keep hb h.c9, Go.Proofs.YtndmblhkmgnpcaaGreat.keep hb h.c10, Go.Proofs.YtndmblhkmgnpcaaGreat.keep hb h.c11, Go.Proofs.YtndmblhkmgnpcaaGreat.keep hb h.c12, Go.Proofs.YtndmblhkmgnpcaaGreat.keep hb h.c13, Go.Proofs.YtndmblhkmgnpcaaGreat.keep hb h.c14, Go.Proofs.YtndmblhkmgnpcaaGreat.keep hb h.c15, Go.Proofs.YtndmblhkmgnpcaaGreat.keep hb h.c16⟩
theorem boxO_new (w : World) (o : Opd) (A : Option Addr) (n c : Nat) (t : TypeId) : BoxO (w.alloc (.cells #[.int .u8 o.kd, .int .u8 o.l, .int .u32 o.c, .int .u8 o.k, .int .i64 o.s, .int .u8 o.fl, .int .u32 o.fc, .int .u8 o.fk, .int .i64 o.fn, .int .i64 o.fm, .int .u8 o.al, .int .u32 o.ac, .int .u8 o.ak, .int .i64 o.an, .int .u8 o.tl, .int .u32 o.tc, .slice A n c] t)) w.heap.size o A n c := by
  constructor <;> simp [go_sem]

/-- Its cells as one range; what is loaded whole, and stored whole. -/
theorem BoxO.range {W : World} {b : Nat} {o : Opd} {A : Option Addr} {n c : Nat} (h : BoxO W b o A n c) : W.rangeAt b 0 [.int .u8 o.kd, .int .u8 o.l, .int .u32 o.c, .int .u8 o.k, .int .i64 o.s, .int .u8 o.fl, .int .u32 o.fc, .int .u8 o.fk, .int .i64 o.fn, .int .i64 o.fm, .int .u8 o.al, .int .u32 o.ac, .int .u8 o.ak, .int .i64 o.an, .int .u8 o.tl, .int .u32 o.tc, .slice A n c] := fun j v hv => by
  match j, hv with
  | 0, hv => cases hv; exact h.c0
  | 1, hv => cases hv; exact h.c1
  | 2, hv => cases hv; exact h.c2
  | 3, hv => cases hv; exact h.c3
  | 4, hv => cases hv; exact h.c4
  | 5, hv => cases hv; exact h.c5
  | 6, hv => cases hv; exact h.c6
  | 7, hv => cases hv; exact h.c7
  | 8, hv => cases hv; exact h.c8
  | 9, hv => cases hv; exact h.c9
  | 10, hv => cases hv; exact h.c10
  | 11, hv => cases hv; exact h.c11
  | 12, hv => cases hv; exact h.c12
  | 13, hv => cases hv; exact h.c13
  | 14, hv => cases hv; exact h.c14
  | 15, hv => cases hv; exact h.c15
  | 16, hv => cases hv; exact h.c16
  | j + 17, hv => simp at hv
theorem boxO_of {W : World} {b : Nat} {o : Opd} {A : Option Addr} {n c : Nat} (h : W.rangeAt b 0 [.int .u8 o.kd, .int .u8 o.l, .int .u32 o.c, .int .u8 o.k, .int .i64 o.s, .int .u8 o.fl, .int .u32 o.fc, .int .u8 o.fk, .int .i64 o.fn, .int .i64 o.fm, .int .u8 o.al, .int .u32 o.ac, .int .u8 o.ak, .int .i64 o.an, .int .u8 o.tl, .int .u32 o.tc, .slice A n c]) : BoxO W b o A n c :=
  ⟨h 0 _ rfl, h 1 _ rfl, h 2 _ rfl, h 3 _ rfl, h 4 _ rfl, h 5 _ rfl, h 6 _ rfl, h 7 _ rfl, h 8 _ rfl, h 9 _ rfl, h 10 _ rfl, h 11 _ rfl, h 12 _ rfl, h 13 _ rfl, h 14 _ rfl, h 15 _ rfl, h 16 _ rfl⟩
theorem info_O : (Tryz.prog.info? 33).map (·.size) = some 17 := by kernel_rfl
theorem wpList_load_o {ops : Array Oper} {rest : List Oper} {op : Oper} {a : Act} {W : World} {Q : Exit → Act → World → Prop} (hwt : Region.wanted op (yielded ops a.tmps) = true) (x : Operand) (ho : op.op = .load 33 x)
    (b : Nat) (hx : a.eval x = .pointer (some ⟨b, 0, none⟩)) {o : Opd} {A : Option Addr} {n c : Nat} (hB : BoxO W b o A n c) (h : wpList Tryz.prog ops Q rest (a.put op.dst (.agg #[.int .u8 o.kd, .int .u8 o.l, .int .u32 o.c, .int .u8 o.k, .int .i64 o.s, .int .u8 o.fl, .int .u32 o.fc, .int .u8 o.fk, .int .i64 o.fn, .int .i64 o.fm, .int .u8 o.al, .int .u32 o.ac, .int .u8 o.ak, .int .i64 o.an, .int .u8 o.tl, .int .u32 o.tc, .slice A n c])) W) : wpList Tryz.prog ops Q (op :: rest) a W := by
  refine wpList_step fun K hK => ?_
  rw [if_pos hwt]
  exact wp_load_mid 33 x ho b 0 hx _ _ hB.range Tryz.underlying33 rfl info_O (hK _ _ h)
theorem yields_load_o {ops : Array Oper} {S : World → Prop} {op : Oper} {a : Act} (hw : Region.wanted op (yielded ops a.tmps) = true) (x : Operand) (ho : op.op = .load 33 x)
    (b : Nat) (hx : a.eval x = .pointer (some ⟨b, 0, none⟩)) {o : Opd} {A : Option Addr} {n c : Nat} (hS : ∀ w, S w → BoxO w b o A n c) : YieldsIf Tryz.prog ops S op (.agg #[.int .u8 o.kd, .int .u8 o.l, .int .u32 o.c, .int .u8 o.k, .int .i64 o.s, .int .u8 o.fl, .int .u32 o.fc, .int .u8 o.fk, .int .i64 o.fn, .int .i64 o.fm, .int .u8 o.al, .int .u32 o.ac, .int .u8 o.ak, .int .i64 o.an, .int .u8 o.tl, .int .u32 o.tc, .slice A n c]) a :=
  yieldsIf_load_mid hw 33 x ho b 0 hx _ _ (fun w h => (hS w h).range) Tryz.underlying33 rfl info_O

theorem heap_setCells (b : Nat) : ∀ (vs : List Value) (o : Nat) (w : World) (k : Nat), k ≠ b → (w.setCells b o vs).heap[k]? = w.heap[k]?
  | [], _, _, _, _ => rfl
  | v :: r, o, w, k, hk => by
    rw [World.setCells, heap_setCells b r (o + 1) _ k hk, Below.heap_setCell _ _ _ _ hk]
theorem below_setCells (b base : Nat) (hb : base ≤ b) : ∀ (vs : List Value) (o : Nat) (w : World), Below base w (w.setCells b o vs)
  | [], _, w => Below.refl _ _
  | v :: r, o, w => by
    rw [World.setCells]
    exact ((Below.refl base w).setCell hb v).trans (below_setCells b base hb r (o + 1) _)
theorem size_setCells (b : Nat) : ∀ (vs : List Value) (o : Nat) (w : World), (w.setCells b o vs).heap.size = w.heap.size
  | [], _, _ => rfl
  | v :: r, o, w => by
    rw [World.setCells, size_setCells b r (o + 1)]
    simp [World.setCell]

/-- There is room for a whole operation in a block. -/
def ThereO (W : World) (b : Nat) : Prop := W.there b 0 17
theorem ThereO.keep {W W' : World} {b : Nat} (h : ThereO W b) (hb : Below W.heap.size W W') : ThereO W' b := fun j hj => by
  obtain ⟨h1, h2⟩ := h j hj
  obtain ⟨u, hu⟩ := Option.isSome_iff_exists.1 h1
  exact ⟨by rw [Go.Proofs.YtndmblhkmgnpcaaGreat.keep hb hu]; rfl, keepz hb hu h2⟩
theorem thereO_new (w : World) (cs : Array Value) (hc : cs.size = 17) (t : TypeId) : ThereO (w.alloc (.cells cs t)) w.heap.size := fun j hj => by
  refine ⟨?_, ?_⟩
  · rw [cell_of_row _ _ _ cs t (0, 0) (heap_alloc_last w _)]
    simp; omega
  · exact frozen_of_row _ _ _ _ _ (heap_alloc_last w _)
theorem wpList_store_o {ops : Array Oper} {rest : List Oper} {op : Oper} {a : Act} {W : World} {Q : Exit → Act → World → Prop} (hgd : op.guard = none) (x y : Operand) (ho : op.op = .store 33 x y)
    (b : Nat) (hx : a.eval x = .pointer (some ⟨b, 0, none⟩)) (o : Opd) (A : Option Addr) (n c : Nat) (hy : a.eval y = .agg #[.int .u8 o.kd, .int .u8 o.l, .int .u32 o.c, .int .u8 o.k, .int .i64 o.s, .int .u8 o.fl, .int .u32 o.fc, .int .u8 o.fk, .int .i64 o.fn, .int .i64 o.fm, .int .u8 o.al, .int .u32 o.ac, .int .u8 o.ak, .int .i64 o.an, .int .u8 o.tl, .int .u32 o.tc, .slice A n c]) (ht : ThereO W b) (base : Nat) (hb : base ≤ b)
    (h : ∀ W', BoxO W' b o A n c → ThereO W' b → Below base W W' → (∀ k, k ≠ b → W'.heap[k]? = W.heap[k]?) → W'.heap.size = W.heap.size → wpList Tryz.prog ops Q rest (a.put op.dst undef) W') : wpList Tryz.prog ops Q (op :: rest) a W := by
  refine wpList_store_mid hgd 33 x y ho b 0 _ hx hy ht info_O (by simp [Value.oneCell']) ?_
  refine h _ (boxO_of (World.rangeAt_setCells_same W b 0 _ ht)) (World.there_setCells ht b 0 _) (below_setCells b base hb _ _ _) (fun k hk => heap_setCells b _ _ _ k hk) (size_setCells b _ _ _)

/-- What lies in other blocks. -/
theorem cell_other {W W' : World} {b : Nat} (hh : ∀ k, k ≠ b → W'.heap[k]? = W.heap[k]?) {p : Addr} (hp : p.block ≠ b) {v : Value} (hc : W.cell? p = some v) : W'.cell? p = some v := by
  rw [World.cell?_of_block (w := W) (hh p.block hp)]; exact hc
theorem BoxO.other {W W' : World} {b : Nat} (hh : ∀ k, k ≠ b → W'.heap[k]? = W.heap[k]?) {g : Nat} (hg : g ≠ b) {o : Opd} {A : Option Addr} {n c : Nat} (h : BoxO W g o A n c) : BoxO W' g o A n c :=
  boxO_of fun j v hv => cell_other hh (p := ⟨g, 0 + j, none⟩) hg (h.range j v hv)
theorem OwnI.other {W W' : World} {b : Nat} (hh : ∀ k, k ≠ b → W'.heap[k]? = W.heap[k]?) {base : Nat} (hb : b < base) {e : TypeId} {A : Option Addr} {c : Nat} {l : List Int} (h : OwnI W base e A c l) : OwnI W' base e A c l := by
  obtain ⟨⟨h0, h1⟩, h2⟩ := h
  refine ⟨⟨h0, ?_⟩, h2⟩
  rcases h1 with h | ⟨g, cap, cur, hv, hbg, hg, r⟩
  · exact .inl h
  · exact .inr ⟨g, cap, cur, hv, hbg, by rw [hh g (by omega)]; exact hg, r⟩

theorem chkL_j (j : Int) (l c : Int) (h : Hid (er (mayL l) = j)) (w : World) :
    Calls Tryz.prog 86 #[.agg #[.int .u8 l, .int .u32 c]] w fun e w' => e = .returned (.int .i64 j) ∧ Below w.heap.size w w' := by
  rw [← h.out]; exact check_any l c w
theorem chkH_j (j : Int) (l c k : Int) (h : Hid (er (mayH l k) = j)) (w : World) :
    Calls Tryz.prog 60 #[.agg #[.int .u8 l, .int .u32 c, .int .u8 k]] w fun e w' => e = .returned (.int .i64 j) ∧ Below w.heap.size w w' := by
  rw [← h.out]; exact checkHandle_any l c k w
theorem chkI_j (j : Int) (l c k n : Int) (h : Hid (er (mayI l k n) = j)) (w : World) :
    Calls Tryz.prog 144 #[.agg #[.int .u8 l, .int .u32 c, .int .u8 k, .int .i64 n]] w fun e w' => e = .returned (.int .i64 j) ∧ Below w.heap.size w w' := by
  rw [← h.out]; exact check_id l c k n w
theorem chkS_j (j : Int) (l c k n m : Int) (h : Hid (er (mayS l k n m) = j)) (w : World) :
    Calls Tryz.prog 112 #[.agg #[.int .u8 l, .int .u32 c, .int .u8 k, .int .i64 n, .int .i64 m]] w fun e w' => e = .returned (.int .i64 j) ∧ Below w.heap.size w w' := by
  rw [← h.out]; exact checkSpan_any l c k n m w
theorem er_t : er true = 0 := rfl
theorem er_f : er false = 8 := rfl

set_option maxHeartbeats 400000 in
theorem afterMay_of (q : Bool) (l c k n : Int) (hq : Hid ((sameI l c k n 0 0 0 0 || mayI l k n) = q)) (w : World) :
    Calls Tryz.prog 113 #[.agg #[.int .u8 l, .int .u32 c, .int .u8 k, .int .i64 n]] w fun e w' => e = .returned (.bool q) ∧ Below w.heap.size w w' := by
  obtain ⟨z, hz⟩ : ∃ z, sameI l c k n 0 0 0 0 = z := ⟨_, rfl⟩
  have hE : ∀ W, (binOp .eql 28 (.agg #[.int .u8 l, .int .u32 c, .int .u8 k, .int .i64 n]) (.agg #[.int .u8 0, .int .u32 0, .int .u8 0, .int .i64 0])).run Tryz.prog W = .ok (.bool z) W := fun W => by rw [← hz]; exact eql_id W _ _ _ _ _ _ _ _
  have h := hq.out
  rw [hz] at h
  clear hz hq
  cases z
  · obtain ⟨m, hm⟩ : ∃ m, mayI l k n = m := ⟨_, rfl⟩
    have HM := hid hm
    have HQ := hid (show m = q by rw [← hm]; simpa using h)
    clear h hm
    cases m
    · have HJ := hid (show er (mayI l k n) = 8 by rw [HM.out]; rfl)
      go_enter Tryz.func113, Tryz.ntmps113
      go_wp2_with fail
      go_call chkI_j 8 l c k n HJ _ as e w1 ⟨rfl, b1⟩
      go_wp2
      go_ret
      exact ⟨by rw [← HQ.out]; rfl, past_alloc b1⟩
    · have HJ := hid (show er (mayI l k n) = 0 by rw [HM.out]; rfl)
      go_enter Tryz.func113, Tryz.ntmps113
      go_wp2_with fail
      go_call chkI_j 0 l c k n HJ _ as e w1 ⟨rfl, b1⟩
      go_wp2
      go_ret
      exact ⟨by rw [← HQ.out]; rfl, past_alloc b1⟩
  · have HQ := hid (show true = q by simpa using h)
    clear h
    go_enter Tryz.func113, Tryz.ntmps113
    go_wp2
    go_ret
    exact ⟨by rw [← HQ.out]; rfl, by go_grown⟩

set_option maxHeartbeats 400000 in
theorem rowMay_of (q : Bool) (o : Opd) (A : Option Addr) (n c : Nat) (hn : Hid (o.row.length = n)) (hq : Hid (rowB o = q)) (w : World) (hr : Ri w A c o.row) :
    Calls Tryz.prog 114 #[.agg #[.int .u8 o.kd, .int .u8 o.l, .int .u32 o.c, .int .u8 o.k, .int .i64 o.s, .int .u8 o.fl, .int .u32 o.fc, .int .u8 o.fk, .int .i64 o.fn, .int .i64 o.fm, .int .u8 o.al, .int .u32 o.ac, .int .u8 o.ak, .int .i64 o.an, .int .u8 o.tl, .int .u32 o.tc, .slice A n c]] w fun e w' => e = .returned (.bool q) ∧ Below w.heap.size w w' := by
  by_cases h : (n : Int) = o.fm
  · have d1 : ((n : Int) == o.fm) = true := by simpa using h
    obtain ⟨j, hj⟩ : ∃ j, chk o.row = j := ⟨_, rfl⟩
    have HJ := hid hj
    have HQ := hid (show decide (j = 0) = q by rw [← hq.out, rowB, hj, hn.out, decide_eq_true h]; rfl)
    clear hj hq h
    have hr1 := hr.alloc (.cells #[.int .u8 o.kd, .int .u8 o.l, .int .u32 o.c, .int .u8 o.k, .int .i64 o.s, .int .u8 o.fl, .int .u32 o.fc, .int .u8 o.fk, .int .i64 o.fn, .int .i64 o.fm, .int .u8 o.al, .int .u32 o.ac, .int .u8 o.ak, .int .i64 o.an, .int .u8 o.tl, .int .u32 o.tc, .slice A n c] 33)
    go_enter Tryz.func114, Tryz.ntmps114
    go_wp2_with fail
    go_call check_of j A n c o.row hn HJ _ hr1 as e w1 ⟨rfl, rfl⟩
    go_wp2
    go_ret
    exact ⟨ret_bool (by rw [← HQ.out, Bool.beq_eq_decide_eq]), by go_grown⟩
  · have d1 : ((n : Int) == o.fm) = false := by simpa using h
    have HQ := hid (show false = q by rw [← hq.out, rowB, hn.out, decide_eq_false h]; rfl)
    clear hq h hr hn
    go_enter Tryz.func114, Tryz.ntmps114
    go_wp2
    go_ret
    exact ⟨ret_bool HQ.out, by go_grown⟩

set_option maxHeartbeats 400000 in
theorem addsNothing_of (q : Bool) (o : Opd) (A : Option Addr) (n c : Nat) (hn : Hid (o.row.length = n)) (hq : Hid (nonB o = q)) (w : World) :
    Calls Tryz.prog 115 #[.agg #[.int .u8 o.kd, .int .u8 o.l, .int .u32 o.c, .int .u8 o.k, .int .i64 o.s, .int .u8 o.fl, .int .u32 o.fc, .int .u8 o.fk, .int .i64 o.fn, .int .i64 o.fm, .int .u8 o.al, .int .u32 o.ac, .int .u8 o.ak, .int .i64 o.an, .int .u8 o.tl, .int .u32 o.tc, .slice A n c]] w fun e w' => e = .returned (.bool q) ∧ Below w.heap.size w w' := by
  obtain ⟨z, hz⟩ : ∃ z, sameI o.al o.ac o.ak o.an 0 0 0 0 = z := ⟨_, rfl⟩
  have hE : ∀ W, (binOp .eql 28 (.agg #[.int .u8 (o.al), .int .u32 (o.ac), .int .u8 (o.ak), .int .i64 (o.an)]) (.agg #[.int .u8 0, .int .u32 0, .int .u8 0, .int .i64 0])).run Tryz.prog W = .ok (.bool z) W := fun W => by rw [← hz]; exact eql_id W _ _ _ _ _ _ _ _
  have h := hq.out
  rw [nonB, hz, hn.out] at h
  clear hz hq hn
  have HQ := hid h
  clear h
  cases z
  · go_enter Tryz.func115, Tryz.ntmps115
    go_wp2
    go_ret
    exact ⟨ret_bool HQ.out, by go_grown⟩
  · go_enter Tryz.func115, Tryz.ntmps115
    go_wp2
    go_ret
    exact ⟨ret_bool (by rw [← HQ.out, Bool.true_and, Bool.beq_eq_decide_eq]; simp [decide_eq_decide]), by go_grown⟩
end Go.Proofs.YtndmblhkmgnpcaaGreat
