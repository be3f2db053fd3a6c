/-
  The mathematics of layer 10: mail as eleven numbers and operations; what may be mail; its bytes, what bytes tell, there and back. Nothing here runs the program.
-/
import Derived.Test.YtdhfnacdjjdijaaGreatOP
namespace Go.Proofs.YtdhfnacdjjdijaaGreat
set_option linter.unusedVariables false
set_option linter.unusedSimpArgs false

structure Mld where
  kd : Int
  us : Int
  se : Int
  co : Int
  fr : Int
  tt : Int
  ak : Int
  t0 : Int
  t1 : Int
  t2 : Int
  t3 : Int
  ops : List Opd

@[reducible] def zM : Mld := ⟨0, 0, 0, 0, 0, 0, 0, 0, 0, 0, 0, []⟩

/-- The numbers are of their kinds. -/
structure Mlr (m : Mld) : Prop where
  k0 : 0 ≤ m.kd
  k1 : m.kd ≤ 255
  us : In64 m.us
  se : In64 m.se
  co : In64 m.co
  fr : In64 m.fr
  tt : In64 m.tt
  a0 : 0 ≤ m.ak
  a1 : m.ak ≤ 255
  t0 : In64 m.t0
  t1 : In64 m.t1
  t2 : In64 m.t2
  t3 : In64 m.t3
  ops : ∀ o ∈ m.ops, Opr o
theorem in64_0 : In64 0 := by simp [In64]
theorem zM_r : Mlr zM := ⟨by decide, by decide, in64_0, in64_0, in64_0, in64_0, in64_0, by decide, by decide, in64_0, in64_0, in64_0, in64_0, fun o h => by cases h⟩

/-! ### The same -/
theorem sameO_eq {a b : Opd} (h : sameO a b = true) : a = b := by
  obtain ⟨⟩ := a
  obtain ⟨⟩ := b
  simp [sameO, sameH, sameS, sameI, sameL, sameRow] at h
  simp [h]
def sameOs : List Opd → List Opd → Bool
  | [], [] => true
  | a :: l, b :: m => sameO a b && sameOs l m
  | _, _ => false
theorem sameOs_self : ∀ l : List Opd, sameOs l l = true
  | [] => rfl
  | a :: l => by rw [sameOs, sameO_self, sameOs_self l]; rfl
theorem sameOs_eq : ∀ {l m : List Opd}, sameOs l m = true → l = m
  | [], [], _ => rfl
  | a :: l, b :: m, h => by
    rw [sameOs, Bool.and_eq_true] at h
    rw [sameO_eq h.1, sameOs_eq h.2]
  | [], _ :: _, h => by cases h
  | _ :: _, [], h => by cases h
theorem sameOs_len {l m : List Opd} (h : l.length ≠ m.length) : sameOs l m = false := by
  rw [Bool.eq_false_iff]
  intro e
  exact h (by rw [sameOs_eq e])
theorem sameOs_at {l m : List Opd} {j : Nat} (hl : j < l.length) (hm : j < m.length) (h : sameO l[j] m[j] = false) : sameOs l m = false := by
  rw [Bool.eq_false_iff]
  intro e
  have e2 := sameOs_eq e
  subst e2
  rw [sameO_self] at h
  cases h
theorem sameOs_all {l m : List Opd} (hlen : l.length = m.length) (h : ∀ j (hl : j < l.length) (hm : j < m.length), sameO l[j] m[j] = true) : sameOs l m = true := by
  have : l = m := List.ext_getElem hlen fun j hl hm => sameO_eq (h j hl hm)
  rw [this, sameOs_self]
def sameM (a b : Mld) : Bool := (a.kd == b.kd) && (a.us == b.us) && (a.se == b.se) && (a.co == b.co) && (a.fr == b.fr) && (a.tt == b.tt) && (a.ak == b.ak) && ((a.t0 == b.t0) && (a.t1 == b.t1) && (a.t2 == b.t2) && (a.t3 == b.t3)) && sameOs a.ops b.ops
theorem sameM_self (a : Mld) : sameM a a = true := by simp [sameM, sameOs_self]
theorem sameM_eq {a b : Mld} (h : sameM a b = true) : a = b := by
  obtain ⟨⟩ := a
  obtain ⟨⟩ := b
  simp only [sameM, Bool.and_eq_true, beq_iff_eq] at h
  obtain ⟨⟨⟨⟨⟨⟨⟨⟨h1, h2⟩, h3⟩, h4⟩, h5⟩, h6⟩, h7⟩, ⟨⟨⟨h8, h9⟩, h10⟩, h11⟩⟩, h12⟩ := h
  have h13 := sameOs_eq h12
  subst h1 h2 h3 h4 h5 h6 h7 h8 h9 h10 h11 h13
  rfl

/-! ### What may be -/
def countB (n : Int) : Bool := decide (0 ≤ n) && decide (n < 16777216)
def codeB (n : Int) : Bool := decide (0 ≤ n) && decide (n < 65536)
def askB (n : Int) : Bool := n == 1 || n == 2
def opsB (l : List Opd) : Bool := l.all mayO
def plH : List Opd → Bool
  | [] => false
  | o :: _ => plB1 o.row
where plB1 (l : List Int) : Bool := l.all fun x => !(x == -1)

/-- What mail of a kind has beside its kind: nothing else; whether that may be; its bytes; so read. -/
def onlyM (k : Int) (m : Mld) : Mld :=
  if k = 1 then { zM with us := m.us }
  else if k = 2 then { zM with ops := m.ops }
  else if k = 3 then { zM with fr := m.fr }
  else if k = 4 then { zM with ak := m.ak }
  else if k = 6 ∨ k = 10 then { zM with co := m.co }
  else if k = 7 then { zM with se := m.se, co := m.co }
  else if k = 8 then { zM with fr := m.fr, tt := m.tt, ops := m.ops }
  else if k = 9 then { zM with ak := m.ak, t0 := m.t0, t1 := m.t1, t2 := m.t2, t3 := m.t3 }
  else zM
def mayK (k : Int) (m : Mld) : Bool :=
  if k = 1 then decide (0 ≤ m.us) && decide (m.us < 256)
  else if k = 2 then decide (m.ops.length = 1) && opsB m.ops && plH m.ops
  else if k = 3 then countB m.fr
  else if k = 4 then askB m.ak
  else if k = 6 ∨ k = 10 then codeB m.co
  else if k = 7 then countB m.se && !(m.se == 0) && codeB m.co
  else if k = 8 then countB m.fr && countB m.tt && decide (m.ops.length ≤ 3) && opsB m.ops
  else if k = 9 then askB m.ak && (countB m.t0 && countB m.t1 && countB m.t2 && countB m.t3)
  else true
def isK (k : Int) : Bool := decide (1 ≤ k) && decide (k ≤ 10)
def onlyF (m : Mld) : Mld := { onlyM m.kd m with kd := m.kd }
def mayM (m : Mld) : Bool := isK m.kd && mayK m.kd m && sameM m (onlyF m)
def opsb (l : List Opd) : List UInt8 := l.flatMap opb
def tailK (k : Int) (m : Mld) : List UInt8 :=
  if k = 1 then nB 1 m.us
  else if k = 2 then opsb m.ops
  else if k = 3 then nB 3 m.fr
  else if k = 4 then nB 1 m.ak
  else if k = 6 ∨ k = 10 then nB 2 m.co
  else if k = 7 then nB 3 m.se ++ nB 2 m.co
  else if k = 8 then nB 3 m.fr ++ (nB 3 m.tt ++ (nB 1 (m.ops.length : Int) ++ opsb m.ops))
  else if k = 9 then nB 1 m.ak ++ (nB 3 m.t0 ++ (nB 3 m.t1 ++ (nB 3 m.t2 ++ nB 3 m.t3)))
  else []
def mlb (m : Mld) : List UInt8 := nB 1 m.kd ++ tailK m.kd m

theorem isK_iff {k : Int} : isK k = true ↔ k = 1 ∨ k = 2 ∨ k = 3 ∨ k = 4 ∨ k = 5 ∨ k = 6 ∨ k = 7 ∨ k = 8 ∨ k = 9 ∨ k = 10 := by
  simp [isK]; omega

theorem opsb_cons (o : Opd) (l : List Opd) : opsb (o :: l) = opb o ++ opsb l := by simp [opsb]
theorem opsb_take (l : List Opd) (j : Nat) (h : j < l.length) : opsb (l.take (j + 1)) = opsb (l.take j) ++ opb l[j] := by
  rw [List.take_succ_eq_append_getElem h, opsb, List.flatMap_append]; simp [opsb]
theorem opsB_at {l : List Opd} (h : opsB l = true) {j : Nat} (hj : j < l.length) : mayO l[j] = true := List.all_eq_true.1 h _ (List.getElem_mem hj)
theorem opsb_le : ∀ {l : List Opd}, opsB l = true → (opsb l).length ≤ 293 * l.length
  | [], _ => by simp [opsb]
  | o :: l, h => by
    have h' : mayO o = true ∧ opsB l = true := by simpa [opsB] using h
    have h1 := opsb_le h'.2
    have h2 := (opb_length h'.1).2.2.1
    rw [opsb_cons, List.length_append, List.length_cons]
    omega

/-! ### What an operation is read as -/
def gQ (l : List UInt8) : Bool := mayO (rdO l) && preB l (opb (rdO l))
def gO (l : List UInt8) : Opd := if gQ l then rdO l else zO
def gZ (l : List UInt8) : Nat := if gQ l then (opb (rdO l)).length else 0
theorem gO_r (l : List UInt8) : Opr (gO l) := by
  unfold gO
  split
  · exact rdO_r l
  · exact zO_r
theorem got_g (l : List UInt8) : Got l (gO l) (gZ l : Int) (if gQ l then 0 else 8) := by
  unfold gO gZ
  by_cases h : gQ l = true
  · rw [if_pos h, if_pos h, if_pos h]
    have h' := h
    simp only [gQ, Bool.and_eq_true] at h'
    exact .inl ⟨⟨rdO_r l, h'.1, preB_iff.1 h'.2⟩, rfl, rfl⟩
  · rw [if_neg h, if_neg h, if_neg h]
    refine .inr ⟨fun o' hb => h ?_, rfl, rfl, rfl⟩
    have e := rdO_of hb
    simp only [gQ, Bool.and_eq_true, e]
    exact ⟨hb.may, preB_iff.2 hb.pre⟩
theorem gZ_le (l : List UInt8) : gZ l ≤ l.length := by
  unfold gZ
  split
  · rename_i h
    simp only [gQ, Bool.and_eq_true] at h
    exact (preB_iff.1 h.2).length_le
  · omega
theorem g_of {o : Opd} {r : List UInt8} (hr : Opr o) (hm : mayO o = true) : gQ (opb o ++ r) = true ∧ gO (opb o ++ r) = o ∧ gZ (opb o ++ r) = (opb o).length := by
  have hb : Begins (opb o ++ r) o := ⟨hr, hm, List.prefix_append _ _⟩
  have e := rdO_of hb
  have hq : gQ (opb o ++ r) = true := by
    simp only [gQ, Bool.and_eq_true, e]
    exact ⟨hm, preB_iff.2 hb.pre⟩
  exact ⟨hq, by rw [gO, if_pos hq, e], by rw [gZ, if_pos hq, e]⟩
/-- So many operations, and what is left. -/
def tkO : Nat → List UInt8 → List Opd
  | 0, _ => []
  | k + 1, l => gO l :: tkO k (l.drop (gZ l))
def tkR : Nat → List UInt8 → List UInt8
  | 0, l => l
  | k + 1, l => tkR k (l.drop (gZ l))
theorem tkO_len : ∀ (k : Nat) (l : List UInt8), (tkO k l).length = k
  | 0, _ => rfl
  | k + 1, l => by rw [tkO, List.length_cons, tkO_len]
theorem tkO_r : ∀ (k : Nat) (l : List UInt8), ∀ o ∈ tkO k l, Opr o
  | 0, _, o, h => by cases h
  | k + 1, l, o, h => by
    rw [tkO] at h
    rcases List.mem_cons.1 h with h | h
    · rw [h]; exact gO_r l
    · exact tkO_r k _ o h
theorem tk_snoc : ∀ (k : Nat) (l : List UInt8), tkO (k + 1) l = tkO k l ++ [gO (tkR k l)] ∧ tkR (k + 1) l = (tkR k l).drop (gZ (tkR k l))
  | 0, l => ⟨rfl, rfl⟩
  | k + 1, l => by
    obtain ⟨h1, h2⟩ := tk_snoc k (l.drop (gZ l))
    refine ⟨?_, ?_⟩
    · rw [tkO, h1, tkO, List.cons_append, tkR]
    · rw [tkR, h2]; rfl
theorem tkO_of : ∀ (l : List Opd), (∀ o ∈ l, Opr o) → opsB l = true → tkO l.length (opsb l) = l
  | [], _, _ => rfl
  | o :: l, hr, hm => by
    have h' : mayO o = true ∧ opsB l = true := by simpa [opsB] using hm
    obtain ⟨_, e1, e2⟩ := g_of (r := opsb l) (hr o (by simp)) h'.1
    rw [List.length_cons, tkO, opsb_cons, e1, e2, List.drop_left, tkO_of l (fun x hx => hr x (by simp [hx])) h'.2]
/-- As the document's own reads them: it ends at what is none. -/
def rfO : Nat → List UInt8 → List Opd
  | 0, _ => []
  | k + 1, l => if gQ l then gO l :: rfO k (l.drop (gZ l)) else []
theorem rfO_r : ∀ (k : Nat) (l : List UInt8), ∀ o ∈ rfO k l, Opr o
  | 0, _, o, h => by cases h
  | k + 1, l, o, h => by
    rw [rfO] at h
    split at h
    · rcases List.mem_cons.1 h with h | h
      · rw [h]; exact gO_r l
      · exact rfO_r k _ o h
    · cases h
theorem rfO_of : ∀ (l : List Opd), (∀ o ∈ l, Opr o) → opsB l = true → rfO l.length (opsb l) = l
  | [], _, _ => rfl
  | o :: l, hr, hm => by
    have h' : mayO o = true ∧ opsB l = true := by simpa [opsB] using hm
    obtain ⟨e0, e1, e2⟩ := g_of (r := opsb l) (hr o (by simp)) h'.1
    rw [List.length_cons, rfO, opsb_cons, if_pos e0, e1, e2, List.drop_left, rfO_of l (fun x hx => hr x (by simp [hx])) h'.2]

/-! ### Reading -/
def nu (k : Nat) (l : List UInt8) : Int := (vl (l.take k) : Int)
theorem nu_of {k : Nat} {n : Int} (r : List UInt8) (h0 : 0 ≤ n) (h1 : n < 256 ^ k) : nu k (nB k n ++ r) = n ∧ (nB k n ++ r).drop k = r := by
  have hl := nB_length k n
  refine ⟨?_, ?_⟩
  · rw [nu, List.take_left' hl, vl_nB h0 h1]
  · rw [List.drop_left' hl]
theorem nu_all {k : Nat} {n : Int} (h0 : 0 ≤ n) (h1 : n < 256 ^ k) : nu k (nB k n) = n := by
  have := (nu_of [] h0 h1).1
  rwa [List.append_nil] at this
theorem nu_r (k : Nat) (hk : k ≤ 4) (l : List UInt8) : 0 ≤ nu k l ∧ nu k l < 256 ^ k := vl_r l k hk
theorem nu_64 (k : Nat) (hk : k ≤ 3) (l : List UInt8) : In64 (nu k l) := by
  have h := nu_r k (by omega) l
  have : (256 : Int) ^ k ≤ 256 ^ 3 := by
    have : (256 : Nat) ^ k ≤ 256 ^ 3 := Nat.pow_le_pow_right (by decide) hk
    have e : ((256 ^ k : Nat) : Int) = (256 : Int) ^ k := by simp
    have e3 : ((256 ^ 3 : Nat) : Int) = (256 : Int) ^ 3 := by simp
    omega
  unfold In64
  omega

/-- What the bytes behind a kind tell; f reads operations. -/
def rdK (f : Nat → List UInt8 → List Opd) (k : Int) (r : List UInt8) : Mld :=
  if k = 1 then { zM with us := nu 1 r }
  else if k = 2 then { zM with ops := f 1 r }
  else if k = 3 then { zM with fr := nu 3 r }
  else if k = 4 then { zM with ak := nu 1 r }
  else if k = 6 ∨ k = 10 then { zM with co := nu 2 r }
  else if k = 7 then { zM with se := nu 3 r, co := nu 2 (r.drop 3) }
  else if k = 8 then { zM with fr := nu 3 r, tt := nu 3 (r.drop 3), ops := f (nu 1 (r.drop 6)).toNat (r.drop 7) }
  else if k = 9 then { zM with ak := nu 1 r, t0 := nu 3 (r.drop 1), t1 := nu 3 (r.drop 4), t2 := nu 3 (r.drop 7), t3 := nu 3 (r.drop 10) }
  else zM
theorem rdK_r {f : Nat → List UInt8 → List Opd} (hf : ∀ n l, ∀ o ∈ f n l, Opr o) (k : Int) (r : List UInt8) : Mlr (rdK f k r) := by
  have n1 := nu_64 1 (by omega)
  have n2 := nu_64 2 (by omega)
  have n3 := nu_64 3 (by omega)
  have u1 : ∀ l, 0 ≤ nu 1 l ∧ nu 1 l ≤ 255 := fun l => by have := nu_r 1 (by omega) l; simp only [Int.reducePow] at this; omega
  have z := zM_r
  unfold rdK
  split
  · exact { z with us := n1 _ }
  split
  · exact { z with ops := hf _ _ }
  split
  · exact { z with fr := n3 _ }
  split
  · exact { z with a0 := (u1 _).1, a1 := (u1 _).2 }
  split
  · exact { z with co := n2 _ }
  split
  · exact { z with se := n3 _, co := n2 _ }
  split
  · exact { z with fr := n3 _, tt := n3 _, ops := hf _ _ }
  split
  · exact { z with a0 := (u1 _).1, a1 := (u1 _).2, t0 := n3 _, t1 := n3 _, t2 := n3 _, t3 := n3 _ }
  · exact z
theorem mlr_kd {m : Mld} (h : Mlr m) {k : Int} (h0 : 0 ≤ k) (h1 : k ≤ 255) : Mlr { m with kd := k } := { h with k0 := h0, k1 := h1 }
def rdM (f : Nat → List UInt8 → List Opd) (b : List UInt8) : Mld := if isK (nu 1 b) then { rdK f (nu 1 b) (b.drop 1) with kd := nu 1 b } else zM
theorem rdM_r {f : Nat → List UInt8 → List Opd} (hf : ∀ n l, ∀ o ∈ f n l, Opr o) (b : List UInt8) : Mlr (rdM f b) := by
  have u1 := nu_r 1 (by omega) b
  simp only [Int.reducePow] at u1
  unfold rdM
  split
  · exact mlr_kd (rdK_r hf _ _) u1.1 (by omega)
  · exact zM_r

theorem countB_iff {n : Int} : countB n = true ↔ 0 ≤ n ∧ n < 16777216 := by simp [countB]
theorem codeB_iff {n : Int} : codeB n = true ↔ 0 ≤ n ∧ n < 65536 := by simp [codeB]
theorem askB_iff {n : Int} : askB n = true ↔ n = 1 ∨ n = 2 := by simp [askB]

/-- There and back, behind the kind. -/
theorem rdK_of {f : Nat → List UInt8 → List Opd} (hf : ∀ l : List Opd, (∀ o ∈ l, Opr o) → opsB l = true → l.length ≤ 3 → f l.length (opsb l) = l) {m : Mld} (hr : ∀ o ∈ m.ops, Opr o) (hk : isK m.kd = true) (hm : mayK m.kd m = true) :
    rdK f m.kd (tailK m.kd m) = onlyM m.kd m := by
  obtain ⟨k, us, se, co, fr, tt, ak, t0, t1, t2, t3, ops⟩ := m
  simp only at hr hk hm ⊢
  have c3 : ∀ {n : Int}, countB n = true → 0 ≤ n ∧ n < 256 ^ 3 := fun h => by have := countB_iff.1 h; simp only [Int.reducePow]; omega
  have c2 : ∀ {n : Int}, codeB n = true → 0 ≤ n ∧ n < 256 ^ 2 := fun h => by have := codeB_iff.1 h; simp only [Int.reducePow]; omega
  have c1 : ∀ {n : Int}, askB n = true → 0 ≤ n ∧ n < 256 ^ 1 := fun h => by have := askB_iff.1 h; simp only [Int.reducePow]; omega
  rcases isK_iff.1 hk with rfl | rfl | rfl | rfl | rfl | rfl | rfl | rfl | rfl | rfl
  · have h : 0 ≤ us ∧ us < 256 := by simpa [mayK] using hm
    have e := nu_all (k := 1) h.1 (by simpa using h.2)
    simp [rdK, tailK, onlyM, e]
  · simp only [mayK, if_pos, Bool.and_eq_true, decide_eq_true_eq, show ¬ (2 : Int) = 1 by decide, if_false, if_true] at hm
    have e := hf ops hr hm.1.2 (by omega)
    rw [hm.1.1] at e
    simp [rdK, tailK, onlyM, e]
  · have h := c3 (show countB fr = true by simpa [mayK] using hm)
    have e := nu_all h.1 h.2
    simp [rdK, tailK, onlyM, e]
  · have h := c1 (show askB ak = true by simpa [mayK] using hm)
    have e := nu_all h.1 h.2
    simp [rdK, tailK, onlyM, e]
  · simp [rdK, tailK, onlyM]
  · have h := c2 (show codeB co = true by simpa [mayK] using hm)
    have e := nu_all h.1 h.2
    simp [rdK, tailK, onlyM, e]
  · have h : (countB se = true ∧ ¬ se = 0) ∧ codeB co = true := by simpa [mayK] using hm
    have h1 := c3 h.1.1
    have h2 := c2 h.2
    have e := nu_of (nB 2 co) h1.1 h1.2
    have e2 := nu_all h2.1 h2.2
    simp [rdK, tailK, onlyM, e.1, e.2, e2]
  · have h : ((countB fr = true ∧ countB tt = true) ∧ ops.length ≤ 3) ∧ opsB ops = true := by simpa [mayK] using hm
    have h1 := c3 h.1.1.1
    have h2 := c3 h.1.1.2
    have h3 : 0 ≤ (ops.length : Int) ∧ (ops.length : Int) < 256 ^ 1 := by have := h.1.2; simp only [Int.reducePow]; omega
    have e1 := nu_of (nB 3 tt ++ (nB 1 (ops.length : Int) ++ opsb ops)) h1.1 h1.2
    have e2 := nu_of (nB 1 (ops.length : Int) ++ opsb ops) h2.1 h2.2
    have e3 := nu_of (opsb ops) h3.1 h3.2
    have ef := hf ops hr h.2 h.1.2
    have d6 : ∀ l : List UInt8, l.drop 6 = (l.drop 3).drop 3 := fun l => by rw [List.drop_drop]
    have d7 : ∀ l : List UInt8, l.drop 7 = ((l.drop 3).drop 3).drop 1 := fun l => by rw [List.drop_drop, List.drop_drop]
    have e0 : tailK 8 ⟨8, us, se, co, fr, tt, ak, t0, t1, t2, t3, ops⟩ = nB 3 fr ++ (nB 3 tt ++ (nB 1 (ops.length : Int) ++ opsb ops)) := rfl
    have e9 : ∀ r, rdK f 8 r = { zM with fr := nu 3 r, tt := nu 3 (r.drop 3), ops := f (nu 1 (r.drop 6)).toNat (r.drop 7) } := fun r => rfl
    rw [e0, e9, d6, d7, e1.1, e1.2, e2.1, e2.2, e3.1, e3.2, Int.toNat_natCast, ef]
    rfl
  · have h : askB ak = true ∧ ((countB t0 = true ∧ countB t1 = true) ∧ countB t2 = true) ∧ countB t3 = true := by simpa [mayK] using hm
    have h0 := c1 h.1
    have h1 := c3 h.2.1.1.1
    have h2 := c3 h.2.1.1.2
    have h3 := c3 h.2.1.2
    have h4 := c3 h.2.2
    have e0 := nu_of (nB 3 t0 ++ (nB 3 t1 ++ (nB 3 t2 ++ nB 3 t3))) h0.1 h0.2
    have e1 := nu_of (nB 3 t1 ++ (nB 3 t2 ++ nB 3 t3)) h1.1 h1.2
    have e2 := nu_of (nB 3 t2 ++ nB 3 t3) h2.1 h2.2
    have e3 := nu_of (nB 3 t3) h3.1 h3.2
    have e4 := nu_all h4.1 h4.2
    have d4 : ∀ l : List UInt8, l.drop 4 = (l.drop 1).drop 3 := fun l => by rw [List.drop_drop]
    have d7 : ∀ l : List UInt8, l.drop 7 = ((l.drop 1).drop 3).drop 3 := fun l => by rw [List.drop_drop, List.drop_drop]
    have d10 : ∀ l : List UInt8, l.drop 10 = (((l.drop 1).drop 3).drop 3).drop 3 := fun l => by rw [List.drop_drop, List.drop_drop, List.drop_drop]
    have ek : tailK 9 ⟨9, us, se, co, fr, tt, ak, t0, t1, t2, t3, ops⟩ = nB 1 ak ++ (nB 3 t0 ++ (nB 3 t1 ++ (nB 3 t2 ++ nB 3 t3))) := rfl
    have e9 : ∀ r, rdK f 9 r = { zM with ak := nu 1 r, t0 := nu 3 (r.drop 1), t1 := nu 3 (r.drop 4), t2 := nu 3 (r.drop 7), t3 := nu 3 (r.drop 10) } := fun r => rfl
    rw [ek, e9, d4, d7, d10, e0.1, e0.2, e1.1, e1.2, e2.1, e2.2, e3.1, e3.2, e4]
    rfl
  · have h := c2 (show codeB co = true by simpa [mayK] using hm)
    have e := nu_all h.1 h.2
    simp [rdK, tailK, onlyM, e]

/-- l is the bytes of m, which may be. -/
structure Mis (l : List UInt8) (m : Mld) : Prop where
  r : Mlr m
  may : mayM m = true
  eq : mlb m = l
theorem mayM_parts {m : Mld} (h : mayM m = true) : isK m.kd = true ∧ mayK m.kd m = true ∧ m = onlyF m := by
  simp only [mayM, Bool.and_eq_true] at h
  exact ⟨h.1.1, h.1.2, sameM_eq h.2⟩
theorem rdM_of {f : Nat → List UInt8 → List Opd} (hf : ∀ l : List Opd, (∀ o ∈ l, Opr o) → opsB l = true → l.length ≤ 3 → f l.length (opsb l) = l) {l : List UInt8} {m : Mld} (h : Mis l m) : rdM f l = m := by
  obtain ⟨h1, h2, h3⟩ := mayM_parts h.may
  have hk := isK_iff.1 h1
  have e := nu_of (k := 1) (n := m.kd) (tailK m.kd m) (by omega) (by simp only [Int.reducePow]; omega)
  have hb : l = nB 1 m.kd ++ tailK m.kd m := h.eq.symm
  rw [rdM, hb, e.1, e.2, if_pos h1, rdK_of hf h.r.ops h1 h2]
  exact h3.symm
def rdP (l : List UInt8) : Mld := rdM tkO l
def rdR (l : List UInt8) : Mld := rdM (fun n r => rfO (min n 4) r) l
theorem rdP_of {l : List UInt8} {m : Mld} (h : Mis l m) : rdP l = m := rdM_of (fun l h1 h2 _ => tkO_of l h1 h2) h
theorem rdR_of {l : List UInt8} {m : Mld} (h : Mis l m) : rdR l = m := rdM_of (fun l h1 h2 h3 => by rw [show min l.length 4 = l.length by omega]; exact rfO_of l h1 h2) h
theorem rdP_r (l : List UInt8) : Mlr (rdP l) := rdM_r tkO_r l
theorem rdR_r (l : List UInt8) : Mlr (rdR l) := rdM_r (fun n l => rfO_r _ l) l
theorem mis_one {l : List UInt8} {m m' : Mld} (h : Mis l m) (h' : Mis l m') : m = m' := (rdP_of h).symm.trans (rdP_of h')

/-- What Get has to tell. -/
def Gom (l : List UInt8) (m : Mld) (j : Int) : Prop := (Mis l m ∧ j = 0) ∨ ((∀ m', ¬ Mis l m') ∧ m = zM ∧ j = 90)
theorem Gom.one {l : List UInt8} {m m' : Mld} {j j' : Int} (h : Gom l m j) (h' : Gom l m' j') : m = m' ∧ j = j' := by
  rcases h with ⟨h1, h2⟩ | ⟨h1, h2, h3⟩
  · rcases h' with ⟨k1, k2⟩ | ⟨k1, k2, k3⟩
    · exact ⟨mis_one h1 k1, h2.trans k2.symm⟩
    · exact absurd h1 (k1 _)
  · rcases h' with ⟨k1, k2⟩ | ⟨k1, k2, k3⟩
    · exact absurd k1 (h1 _)
    · exact ⟨h2.trans k2.symm, h3.trans k3.symm⟩

/-! ### How many bytes -/
def szM (m : Mld) : Nat := 1 + (if m.kd = 1 then 1 else if m.kd = 2 then (opsb m.ops).length else if m.kd = 3 then 3 else if m.kd = 4 then 1 else if m.kd = 6 ∨ m.kd = 10 then 2 else if m.kd = 7 then 5 else if m.kd = 8 then 7 + (opsb m.ops).length else if m.kd = 9 then 13 else 0)
theorem mlb_len (m : Mld) : (mlb m).length = szM m := by
  rw [mlb, List.length_append, nB_length, szM, tailK]
  congr 1
  split
  · exact nB_length _ _
  split
  · rfl
  split
  · exact nB_length _ _
  split
  · exact nB_length _ _
  split
  · exact nB_length _ _
  split
  · simp [nB_length]
  split
  · simp [nB_length]; omega
  split
  · simp [nB_length]
  · rfl
theorem szM_le {m : Mld} (h : mayM m = true) : szM m ≤ 900 ∧ (opsb m.ops).length < szM m := by
  obtain ⟨h1, h2, h3⟩ := mayM_parts h
  obtain ⟨k, us, se, co, fr, tt, ak, t0, t1, t2, t3, ops⟩ := m
  simp only at h1 h2
  have e0 : (onlyF ⟨k, us, se, co, fr, tt, ak, t0, t1, t2, t3, ops⟩).ops = ops := by rw [← h3]
  simp only [szM]
  rcases isK_iff.1 h1 with rfl | rfl | rfl | rfl | rfl | rfl | rfl | rfl | rfl | rfl
  case inr.inl =>
    have h2' : (ops.length = 1 ∧ opsB ops = true) ∧ plH ops = true := by simpa [mayK] using h2
    have := opsb_le h2'.1.2
    rw [h2'.1.1] at this
    simp; omega
  case inr.inr.inr.inr.inr.inr.inr.inl =>
    have h2' : ((countB fr = true ∧ countB tt = true) ∧ ops.length ≤ 3) ∧ opsB ops = true := by simpa [mayK] using h2
    have := opsb_le h2'.2
    simp; omega
  all_goals
    have e1 : ops = [] := e0.symm
    subst e1
    simp [opsb]

/-! ### As the document's own asks -/
def bareM (m : Mld) : Mld :=
  { kd := m.kd, us := if m.kd = 1 then 0 else m.us, se := if m.kd = 7 then 0 else m.se, co := if m.kd = 6 ∨ m.kd = 7 ∨ m.kd = 10 then 0 else m.co, fr := if m.kd = 3 ∨ m.kd = 8 then 0 else m.fr, tt := if m.kd = 8 then 0 else m.tt, ak := if m.kd = 4 ∨ m.kd = 9 then 0 else m.ak,
    t0 := if m.kd = 9 then 0 else m.t0, t1 := if m.kd = 9 then 0 else m.t1, t2 := if m.kd = 9 then 0 else m.t2, t3 := if m.kd = 9 then 0 else m.t3, ops := if m.kd = 2 ∨ m.kd = 8 then [] else m.ops }
def opsL (l : List Opd) : Bool := decide (l.length ≤ 3) && opsB l
def numB (m : Mld) : Bool := decide (0 ≤ m.us) && decide (m.us ≤ 255) && countB m.se && codeB m.co && countB m.fr && countB m.tt && (countB m.t0 && countB m.t1 && countB m.t2 && countB m.t3) && opsL m.ops
def lastB (m : Mld) : Bool := if m.kd = 2 then decide (m.ops.length = 1) && plH m.ops else if m.kd = 4 ∨ m.kd = 9 then askB m.ak else !(m.kd == 7) || decide (0 < m.se)
def rmayB (m : Mld) : Bool := isK m.kd && sameM (bareM m) { zM with kd := m.kd } && numB m && lastB m
theorem rmay_eq (m : Mld) : rmayB m = mayM m := by
  rw [Bool.eq_iff_iff]
  obtain ⟨k, us, se, co, fr, tt, ak, t0, t1, t2, t3, ops⟩ := m
  constructor
  · intro h
    simp only [rmayB, Bool.and_eq_true] at h
    obtain ⟨⟨⟨h1, h2⟩, h3⟩, h4⟩ := h
    have h2 := sameM_eq h2
    simp only [mayM, Bool.and_eq_true]
    simp only [numB, Bool.and_eq_true] at h3
    rcases isK_iff.1 h1 with rfl | rfl | rfl | rfl | rfl | rfl | rfl | rfl | rfl | rfl
    all_goals
      simp [bareM] at h2
      refine ⟨⟨h1, ?_⟩, ?_⟩
      · simp [mayK, lastB, opsL, numB] at h3 h4 ⊢ <;> simp_all [countB, codeB, askB] <;> omega
      · simp_all [onlyF, onlyM, sameM_self]
  · intro h
    obtain ⟨h1, h2, h3⟩ := mayM_parts h
    simp only [rmayB, Bool.and_eq_true]
    rcases isK_iff.1 h1 with rfl | rfl | rfl | rfl | rfl | rfl | rfl | rfl | rfl | rfl
    all_goals
      simp [onlyF, onlyM] at h3
      simp [mayK] at h2
      refine ⟨⟨⟨h1, ?_⟩, ?_⟩, ?_⟩
      · simp_all [bareM, sameM, sameOs]
      · simp_all [numB, opsL, countB, codeB, askB, opsB]
        try omega
      · simp_all [lastB, countB, codeB, askB]
        try omega
end Go.Proofs.YtdhfnacdjjdijaaGreat
