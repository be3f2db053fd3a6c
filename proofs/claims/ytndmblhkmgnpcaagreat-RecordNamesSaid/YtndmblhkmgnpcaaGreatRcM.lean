/-
  Records: mathematics: which may be, their bytes, their blocks, and what blocks tell.
-/
import Derived.Test.YtndmblhkmgnpcaaGreatOP
import Derived.Test.YtndmblhkmgnpcaaGreatOD
import Derived.Test.YtndmblhkmgnpcaaGreatGA
namespace Go.Proofs.YtndmblhkmgnpcaaGreat
open Go.RowKit
set_option linter.unusedVariables false
set_option linter.unusedSimpArgs false

structure Rec where
  kd : Int
  us : Int
  op : Opd
  co : Int
  gr : Gr
structure Recr (r : Rec) : Prop where
  k0 : 0 ≤ r.kd
  k1 : r.kd ≤ 255
  us : In64 r.us
  op : Opr r.op
  co : In64 r.co
  gr : r.gr.typed
theorem in64_0 : In64 0 := by simp [In64]
theorem zG_t : Gr.typed zG := ⟨in64_0, ⟨by decide, by decide, by decide, by decide⟩⟩
def zR : Rec := ⟨0, 0, zO, 0, zG⟩
theorem zR_r : Recr zR := ⟨by decide, by decide, in64_0, zO_r, in64_0, zG_t⟩
def eqG (a b : Gr) : Bool := sameG a.u a.l a.c a.ok b.u b.l b.c b.ok
theorem eqG_eq {a b : Gr} (h : eqG a b = true) : a = b := by
  obtain ⟨u, l, c, k⟩ := a
  obtain ⟨u', l', c', k'⟩ := b
  simp only [eqG, sameG, Bool.and_eq_true, beq_iff_eq] at h
  obtain ⟨⟨⟨rfl, rfl⟩, rfl⟩, rfl⟩ := h
  rfl
theorem eqG_self (a : Gr) : eqG a a = true := sameG_refl _ _ _ _
theorem sameO_is {a b : Opd} (h : sameO a b = true) : a = b := by
  obtain ⟨⟩ := a
  obtain ⟨⟩ := b
  simp [sameO, sameH, sameS, sameI, sameL, sameRow] at h
  simp [h]
def sameR (a b : Rec) : Bool := (a.kd == b.kd) && (a.us == b.us) && sameO a.op b.op && (a.co == b.co) && eqG a.gr b.gr
theorem sameR_self (a : Rec) : sameR a a = true := by simp [sameR, sameO_self, eqG_self]
theorem sameR_eq {a b : Rec} (h : sameR a b = true) : a = b := by
  obtain ⟨k, u, o, c, g⟩ := a
  obtain ⟨k', u', o', c', g'⟩ := b
  simp only [sameR, Bool.and_eq_true, beq_iff_eq] at h
  obtain ⟨⟨⟨⟨rfl, rfl⟩, ho⟩, rfl⟩, hg⟩ := h
  rw [sameO_is ho, eqG_eq hg]

/-- An operation that is zero, but for who made it. -/
def byO (l c k : Int) : Opd := { zO with l := l, c := c, k := k }
def noneO (o : Opd) : Bool := sameO { o with l := 0, c := 0, k := 0 } zO
theorem noneO_eq {o : Opd} (h : noneO o = true) : o = byO o.l o.c o.k := by
  have e := sameO_is h
  obtain ⟨a1, a2, a3, a4, a5, a6, a7, a8, a9, a10, a11, a12, a13, a14, a15, a16, a17⟩ := o
  simp only [zO, Opd.mk.injEq] at e
  simp only [byO, zO, Opd.mk.injEq]
  simp_all
theorem noneO_by (l c k : Int) : noneO (byO l c k) = true := sameO_self zO
def mayR (r : Rec) : Bool :=
  if r.kd = 1 then noneO r.op && mayH r.op.l r.op.k && decide (0 ≤ r.us) && decide (r.us ≤ 255) && decide (r.co = 0) && eqG r.gr zG
  else if r.us = 0 then
    if r.kd = 2 then mayO r.op && plB r.op.row && decide (0 ≤ r.co) && decide (r.co < 65536) && eqG r.gr zG
    else decide (r.kd = 3) && sameO r.op zO && decide (r.co = 0) && mayG r.gr
  else false
theorem mayR_cases {r : Rec} (h : mayR r = true) :
    (∃ l c k us, r = ⟨1, us, byO l c k, 0, zG⟩ ∧ mayH l k = true ∧ 0 ≤ us ∧ us ≤ 255) ∨ (∃ o co, r = ⟨2, 0, o, co, zG⟩ ∧ mayO o = true ∧ plB o.row = true ∧ 0 ≤ co ∧ co < 65536) ∨ (∃ g, r = ⟨3, 0, zO, 0, g⟩ ∧ mayG g = true) := by
  obtain ⟨k, u, o, c, g⟩ := r
  unfold mayR at h
  dsimp only at h
  by_cases h1 : k = 1
  · rw [if_pos h1] at h
    subst h1
    simp only [Bool.and_eq_true, decide_eq_true_eq] at h
    obtain ⟨⟨⟨⟨⟨h1, h2⟩, h3⟩, h4⟩, rfl⟩, h6⟩ := h
    refine .inl ⟨o.l, o.c, o.k, u, ?_, h2, h3, h4⟩
    rw [← noneO_eq h1, eqG_eq h6]
  · rw [if_neg h1] at h
    by_cases hu : u = 0
    · rw [if_pos hu] at h
      subst hu
      by_cases h2 : k = 2
      · rw [if_pos h2] at h
        subst h2
        simp only [Bool.and_eq_true, decide_eq_true_eq] at h
        obtain ⟨⟨⟨⟨h1, h2⟩, h3⟩, h4⟩, h6⟩ := h
        exact .inr (.inl ⟨o, c, by rw [eqG_eq h6], h1, h2, h3, h4⟩)
      · rw [if_neg h2] at h
        simp only [Bool.and_eq_true, decide_eq_true_eq] at h
        obtain ⟨⟨⟨rfl, h8⟩, rfl⟩, h6⟩ := h
        exact .inr (.inr ⟨g, by rw [sameO_is h8], h6⟩)
    · rw [if_neg hu] at h
      cases h
theorem mayR_1 {l c k us : Int} (h : mayH l k = true) (h0 : 0 ≤ us) (h1 : us ≤ 255) : mayR ⟨1, us, byO l c k, 0, zG⟩ = true := by
  simp [mayR, noneO_by, eqG_self, h0, h1]
  exact h
theorem mayR_2 {o : Opd} {co : Int} (h : mayO o = true) (hp : plB o.row = true) (h0 : 0 ≤ co) (h1 : co < 65536) : mayR ⟨2, 0, o, co, zG⟩ = true := by
  simp [mayR, h, hp, h0, h1, eqG_self]
theorem mayR_3 {g : Gr} (h : mayG g = true) : mayR ⟨3, 0, zO, 0, g⟩ = true := by
  simp [mayR, h, sameO_self]

/-! ### Bytes -/
def tailR (r : Rec) : List UInt8 := if r.kd = 1 then hB r.op.l r.op.c r.op.k ++ nB 1 r.us else if r.kd = 2 then nB 2 r.co ++ opb r.op else gby r.gr.u.toNat r.gr.ok r.gr.l.toNat r.gr.c.toNat
def rcb (r : Rec) : List UInt8 := nB 1 r.kd ++ tailR r
theorem rcb_1 (l c k us : Int) : rcb ⟨1, us, byO l c k, 0, zG⟩ = nB 1 1 ++ (hB l c k ++ nB 1 us) := rfl
theorem rcb_2 (o : Opd) (co : Int) : rcb ⟨2, 0, o, co, zG⟩ = nB 1 2 ++ (nB 2 co ++ opb o) := rfl
theorem rcb_3 (g : Gr) : rcb ⟨3, 0, zO, 0, g⟩ = nB 1 3 ++ gby g.u.toNat g.ok g.l.toNat g.c.toNat := rfl
theorem rcb_length {r : Rec} (h : mayR r = true) : 8 ≤ (rcb r).length ∧ (rcb r).length ≤ 296 ∧ (r.kd ≠ 2 → (rcb r).length = 8) ∧ (r.kd = 2 → ((rcb r).length : Int) = 3 + szO r.op.kd r.op.fm) := by
  rcases mayR_cases h with ⟨l, c, k, us, rfl, h1, h2, h3⟩ | ⟨o, co, rfl, h1, h2, h3, h4⟩ | ⟨g, rfl, h1⟩
  · rw [rcb_1]; simp [nB_length, hB_length]
  · have hl := opb_length h1
    rw [rcb_2]
    simp only [List.length_append, nB_length]
    refine ⟨by omega, by omega, fun h => absurd rfl h, fun _ => ?_⟩
    rw [← hl.1]
    omega
  · rw [rcb_3]; simp [nB_length, gby_length]

/-! ### Blocks -/
def nbl (b : List UInt8) : Nat := (b.length + 118) / 119
def hdb (s n i f : Int) : List UInt8 := nB 4 s ++ (nB 3 n ++ (nB 1 i ++ nB 1 f))
def pcs (b : List UInt8) (i : Nat) : List UInt8 := (b.drop (i * 119)).take 119
def pad (x : List UInt8) : List UInt8 := x ++ List.replicate (119 - x.length) 0
def blk (s n : Int) (b : List UInt8) (i : Nat) : List UInt8 := hdb s n i (nbl b) ++ pad (pcs b i)
def blks (s n : Int) (b : List UInt8) : List (List UInt8) := (List.range (nbl b)).map (blk s n b)
theorem hdb_length (s n i f : Int) : (hdb s n i f).length = 9 := by simp [hdb, nB_length]
theorem pcs_length (b : List UInt8) (i : Nat) : (pcs b i).length ≤ 119 := by simp [pcs]; omega
theorem pad_length (b : List UInt8) (i : Nat) : (pad (pcs b i)).length = 119 := by
  have := pcs_length b i
  simp [pad]; omega
theorem blk_length (s n : Int) (b : List UInt8) (i : Nat) : (blk s n b i).length = 128 := by
  simp [blk, hdb_length, pad_length]
theorem blks_length (s n : Int) (b : List UInt8) : (blks s n b).length = nbl b := by simp [blks]
theorem blks_get (s n : Int) (b : List UInt8) (i : Nat) (h : i < (blks s n b).length) : (blks s n b)[i] = blk s n b i := by simp [blks]
theorem blks_cap (s n : Int) (b : List UInt8) : ∀ x ∈ blks s n b, x.length = 128 := by
  intro x hx
  simp only [blks, List.mem_map] at hx
  obtain ⟨i, _, rfl⟩ := hx
  exact blk_length s n b i
def textOf (L : List (List UInt8)) : List UInt8 := (L.map (·.drop 9)).flatten
theorem blk_drop (s n : Int) (b : List UInt8) (i : Nat) : (blk s n b i).drop 9 = pad (pcs b i) := by
  rw [blk, List.drop_left' (hdb_length s n i (nbl b))]
theorem text_upto (b : List UInt8) : ∀ k, (k = 0 ∨ (k - 1) * 119 ≤ b.length) → ((List.range k).map fun i => pad (pcs b i)).flatten = b.take (k * 119) ++ List.replicate (k * 119 - b.length) 0
  | 0, _ => by simp
  | k + 1, h => by
    have hk : k * 119 ≤ b.length := by omega
    rw [List.range_succ, List.map_append, List.flatten_append, text_upto b k (by omega)]
    have e0 : k * 119 - b.length = 0 := by omega
    simp only [List.map_cons, List.map_nil, List.flatten_cons, List.flatten_nil, List.append_nil, e0, List.replicate_zero]
    rw [pad, ← List.append_assoc, pcs, ← List.take_add]
    have e1 : k * 119 + 119 = (k + 1) * 119 := by omega
    have e2 : 119 - ((b.drop (k * 119)).take 119).length = (k + 1) * 119 - b.length := by simp; omega
    rw [e1, e2]
theorem text_blks (s n : Int) (b : List UInt8) : textOf (blks s n b) = b ++ List.replicate (nbl b * 119 - b.length) 0 := by
  have e : (blks s n b).map (·.drop 9) = (List.range (nbl b)).map fun i => pad (pcs b i) := by
    rw [blks, List.map_map]
    exact List.map_congr_left fun i _ => blk_drop s n b i
  have h1 : b.length ≤ nbl b * 119 := by unfold nbl; omega
  rw [textOf, e, text_upto b (nbl b) (by unfold nbl; omega), List.take_of_length_le h1]

/-! ### Heads -/
def mayHd (s n i f : Int) : Bool := decide (1 ≤ s) && decide (s < 2147483648) && decide (1 ≤ n) && decide (n < 16777216) && decide (1 ≤ f) && decide (f ≤ 4) && decide (0 ≤ i) && decide (i < f)
theorem mayHd_iff {s n i f : Int} : mayHd s n i f = true ↔ (1 ≤ s ∧ s < 2147483648) ∧ (1 ≤ n ∧ n < 16777216) ∧ (1 ≤ f ∧ f ≤ 4) ∧ 0 ≤ i ∧ i < f := by
  simp only [mayHd, Bool.and_eq_true, decide_eq_true_eq]
  omega
def hS (b : List UInt8) : Int := (vl (b.take 4) : Int)
def hN (b : List UInt8) : Int := (vl ((b.drop 4).take 3) : Int)
def hI (b : List UInt8) : Int := (vl ((b.drop 7).take 1) : Int)
def hF (b : List UInt8) : Int := (vl ((b.drop 8).take 1) : Int)
def okHd (b : List UInt8) : Bool := decide (b.length = 128) && mayHd (hS b) (hN b) (hI b) (hF b)
theorem hd_parts {s n i f : Int} (h : mayHd s n i f = true) (x : List UInt8) : hS (hdb s n i f ++ x) = s ∧ hN (hdb s n i f ++ x) = n ∧ hI (hdb s n i f ++ x) = i ∧ hF (hdb s n i f ++ x) = f := by
  have hh := mayHd_iff.1 h
  refine ⟨?_, ?_, ?_, ?_⟩
  · rw [hS, hdb]
    have := mid [] (nB 4 s) (nB 3 n ++ (nB 1 i ++ nB 1 f) ++ x) (i := 0) (n := 4) rfl (nB_length _ _)
    rw [List.nil_append, List.drop_zero] at this
    rw [List.append_assoc, this]
    exact vl_nB (by omega) (by omega)
  · rw [hN, hdb]
    have := mid (nB 4 s) (nB 3 n) (nB 1 i ++ nB 1 f ++ x) (i := 4) (n := 3) (nB_length _ _) (nB_length _ _)
    rw [show nB 4 s ++ (nB 3 n ++ (nB 1 i ++ nB 1 f)) ++ x = nB 4 s ++ (nB 3 n ++ (nB 1 i ++ nB 1 f ++ x)) by simp only [List.append_assoc], this]
    exact vl_nB (by omega) (by omega)
  · rw [hI, hdb]
    have := mid (nB 4 s ++ nB 3 n) (nB 1 i) (nB 1 f ++ x) (i := 7) (n := 1) (by simp [nB_length]) (nB_length _ _)
    rw [show nB 4 s ++ (nB 3 n ++ (nB 1 i ++ nB 1 f)) ++ x = (nB 4 s ++ nB 3 n) ++ (nB 1 i ++ (nB 1 f ++ x)) by simp only [List.append_assoc], this]
    exact vl_nB (by omega) (by omega)
  · rw [hF, hdb]
    have := mid (nB 4 s ++ (nB 3 n ++ nB 1 i)) (nB 1 f) x (i := 8) (n := 1) (by simp [nB_length]) (nB_length _ _)
    rw [show nB 4 s ++ (nB 3 n ++ (nB 1 i ++ nB 1 f)) ++ x = (nB 4 s ++ (nB 3 n ++ nB 1 i)) ++ (nB 1 f ++ x) by simp only [List.append_assoc], this]
    exact vl_nB (by omega) (by omega)
theorem okHd_blk {s n : Int} {b : List UInt8} {i : Nat} (h : mayHd s n i (nbl b) = true) : okHd (blk s n b i) = true ∧ hS (blk s n b i) = s ∧ hN (blk s n b i) = n ∧ hI (blk s n b i) = i ∧ hF (blk s n b i) = nbl b := by
  have hp := hd_parts h (pad (pcs b i))
  rw [← blk] at hp
  refine ⟨?_, hp⟩
  rw [okHd, hp.1, hp.2.1, hp.2.2.1, hp.2.2.2, h, blk_length]
  rfl

/-! ### What bytes tell -/
def rdRec (t : List UInt8) : Rec :=
  if (vl (t.take 1) : Int) = 1 then ⟨1, (vl ((t.drop 7).take 1) : Int), byO (pick (okH ((t.drop 1).take 6)) (gL ((t.drop 1).take 6))) (pick (okH ((t.drop 1).take 6)) (gC ((t.drop 1).take 6))) (pick (okH ((t.drop 1).take 6)) (gK ((t.drop 1).take 6))), 0, zG⟩
  else if (vl (t.take 1) : Int) = 2 then ⟨2, 0, rdO (t.drop 3), (vl ((t.drop 1).take 2) : Int), zG⟩
  else if (vl (t.take 1) : Int) = 3 then ⟨3, 0, zO, 0, pickG (okG ((t.drop 1).take 7)) (gg ((t.drop 1).take 7))⟩
  else ⟨(vl (t.take 1) : Int), 0, zO, 0, zG⟩
theorem first_is (k : Int) (h0 : 0 ≤ k) (h1 : k < 256) (z : List UInt8) : (vl ((nB 1 k ++ z).take 1) : Int) = k := by
  rw [List.take_left' (nB_length 1 k)]
  exact vl_nB h0 (by omega)
theorem rdRec_of {t : List UInt8} {r : Rec} (hr : Recr r) (hm : mayR r = true) (hp : rcb r <+: t) : rdRec t = r := by
  obtain ⟨z, rfl⟩ := hp
  rcases mayR_cases hm with ⟨l, c, k, us, rfl, h1, h2, h3⟩ | ⟨o, co, rfl, h1, h2, h3, h4⟩ | ⟨g, rfl, h1⟩
  · have hh : Han l c k := hr.op.han
    rw [rcb_1, List.append_assoc]
    have e0 := first_is 1 (by omega) (by omega) (hB l c k ++ nB 1 us ++ z)
    have e1 : ((nB 1 1 ++ (hB l c k ++ nB 1 us ++ z)).drop 1).take 6 = hB l c k := by
      rw [List.append_assoc]; exact mid _ _ _ (nB_length _ _) (hB_length _ _ _)
    have e2 : ((nB 1 1 ++ (hB l c k ++ nB 1 us ++ z)).drop 7).take 1 = nB 1 us := by
      rw [show nB 1 1 ++ (hB l c k ++ nB 1 us ++ z) = (nB 1 1 ++ hB l c k) ++ (nB 1 us ++ z) by simp only [List.append_assoc]]
      exact mid _ _ _ (by simp [nB_length, hB_length]) (nB_length _ _)
    obtain ⟨g1, g2, g3⟩ := gH_parts hh
    rw [rdRec, if_pos e0, e1, e2, okH_hB hh h1, pick_true, pick_true, pick_true, g1, g2, g3, vl_nB h2 (by omega)]
  · rw [rcb_2, List.append_assoc]
    have e0 := first_is 2 (by omega) (by omega) (nB 2 co ++ opb o ++ z)
    have e1 : ((nB 1 2 ++ (nB 2 co ++ opb o ++ z)).drop 1).take 2 = nB 2 co := by
      rw [List.append_assoc]; exact mid _ _ _ (nB_length _ _) (nB_length _ _)
    have e2 : (nB 1 2 ++ (nB 2 co ++ opb o ++ z)).drop 3 = opb o ++ z := by
      rw [show nB 1 2 ++ (nB 2 co ++ opb o ++ z) = (nB 1 2 ++ nB 2 co) ++ (opb o ++ z) by simp only [List.append_assoc]]
      exact List.drop_left' (by simp [nB_length])
    rw [rdRec, if_neg (by rw [e0]; omega), if_pos e0, e1, e2, vl_nB h3 (by omega), rdO_of ⟨hr.op, h1, ⟨z, rfl⟩⟩]
  · rw [rcb_3, List.append_assoc]
    have e0 := first_is 3 (by omega) (by omega) (gby g.u.toNat g.ok g.l.toNat g.c.toNat ++ z)
    have e1 : ((nB 1 3 ++ (gby g.u.toNat g.ok g.l.toNat g.c.toNat ++ z)).drop 1).take 7 = gby g.u.toNat g.ok g.l.toNat g.c.toNat := mid _ _ _ (nB_length _ _) (gby_length _ _ _ _)
    have hg : Gr.typed ⟨g.u, g.l, g.c, g.ok⟩ := hr.gr
    obtain ⟨p1, p2, _⟩ := gput_get hg h1
    have e2 : pb ⟨g.u, g.l, g.c, g.ok⟩ = gby g.u.toNat g.ok g.l.toNat g.c.toNat := by rw [pb, if_pos h1]
    rw [e2] at p1 p2
    rw [rdRec, if_neg (by rw [e0]; omega), if_neg (by rw [e0]; omega), if_pos e0, e1, p1, p2]
    rfl
theorem rcb_one {t : List UInt8} {r r' : Rec} (hr : Recr r) (hm : mayR r = true) (hp : rcb r <+: t) (hr' : Recr r') (hm' : mayR r' = true) (hp' : rcb r' <+: t) : r = r' :=
  (rdRec_of hr hm hp).symm.trans (rdRec_of hr' hm' hp')
/-- These are the blocks of a record that may be, by a start and a number. -/
structure Ris (l : List (List UInt8)) (r : Rec) (s n : Int) : Prop where
  rr : Recr r
  may : mayR r = true
  hd : mayHd s n 0 (nbl (rcb r)) = true
  eq : blks s n (rcb r) = l
theorem nbl_r {r : Rec} (h : mayR r = true) : 1 ≤ nbl (rcb r) ∧ nbl (rcb r) ≤ 3 := by
  have := rcb_length h
  unfold nbl
  omega
theorem Ris.pre {l : List (List UInt8)} {r : Rec} {s n : Int} (h : Ris l r s n) : rcb r <+: textOf l := by
  rw [← h.eq, text_blks]; exact ⟨_, rfl⟩
theorem Ris.pos {l : List (List UInt8)} {r : Rec} {s n : Int} (h : Ris l r s n) : 1 ≤ l.length ∧ l.length ≤ 3 := by
  rw [← h.eq, blks_length]; exact nbl_r h.may
theorem Ris.head {l : List (List UInt8)} {r : Rec} {s n : Int} (h : Ris l r s n) (h0 : 0 < l.length) : okHd l[0] = true ∧ hS l[0] = s ∧ hN l[0] = n ∧ hI l[0] = 0 ∧ hF l[0] = nbl (rcb r) := by
  obtain ⟨hr, hm, hd, rfl⟩ := h
  rw [blks_get]
  exact okHd_blk hd
theorem Ris.one {l : List (List UInt8)} {r r' : Rec} {s n s' n' : Int} (h : Ris l r s n) (h' : Ris l r' s' n') : r = r' ∧ s = s' ∧ n = n' := by
  have e := rcb_one h.rr h.may h.pre h'.rr h'.may h'.pre
  have h0 : 0 < l.length := h.pos.1
  have a := h.head h0
  have a' := h'.head h0
  exact ⟨e, a.2.1.symm.trans a'.2.1, a.2.2.1.symm.trans a'.2.2.1⟩
/-- What Get has to tell. -/
def GotR (l : List (List UInt8)) (r : Rec) (s n i f j : Int) : Prop := (Ris l r s n ∧ i = 0 ∧ f = l.length ∧ j = 0) ∨ ((∀ r' s' n', ¬ Ris l r' s' n') ∧ r = zR ∧ s = 0 ∧ n = 0 ∧ i = 0 ∧ f = 0 ∧ j = 8)
theorem GotR.one {l : List (List UInt8)} {r r' : Rec} {s n i f j s' n' i' f' j' : Int} (h : GotR l r s n i f j) (h' : GotR l r' s' n' i' f' j') : r = r' ∧ s = s' ∧ n = n' ∧ i = i' ∧ f = f' ∧ j = j' := by
  rcases h with ⟨h1, h2, h3, h4⟩ | ⟨h1, h2, h3, h4, h5, h6, h7⟩
  · rcases h' with ⟨k1, k2, k3, k4⟩ | ⟨k1, k2, k3, k4, k5, k6, k7⟩
    · obtain ⟨rfl, rfl, rfl⟩ := h1.one k1
      exact ⟨rfl, rfl, rfl, h2.trans k2.symm, h3.trans k3.symm, h4.trans k4.symm⟩
    · exact absurd h1 (k1 _ _ _)
  · rcases h' with ⟨k1, k2, k3, k4⟩ | ⟨k1, k2, k3, k4, k5, k6, k7⟩
    · exact absurd k1 (h1 _ _ _)
    · exact ⟨h2.trans k2.symm, h3.trans k3.symm, h4.trans k4.symm, h5.trans k5.symm, h6.trans k6.symm, h7.trans k7.symm⟩
/-- What bytes tell: the record r, if q. -/
structure Tel (t : List UInt8) (r : Rec) (q : Bool) : Prop where
  rr : Recr r
  may : q = true → mayR r = true
  one : ∀ r', Recr r' → mayR r' = true → rcb r' <+: t → q = true ∧ r' = r
def putL (r : Rec) (s t : Int) : List (List UInt8) := if mayR r = true then (if mayHd s t 0 (nbl (rcb r)) = true then blks s t (rcb r) else []) else []
def putE (r : Rec) (s t : Int) : Int := if mayR r = true then (if mayHd s t 0 (nbl (rcb r)) = true then 0 else 2) else 8
end Go.Proofs.YtndmblhkmgnpcaaGreat
