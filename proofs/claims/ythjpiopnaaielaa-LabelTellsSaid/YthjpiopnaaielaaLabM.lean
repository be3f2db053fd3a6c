import Derived.Test.YthjpiopnaaielaaLabC
namespace Go.Proofs.Ythjpiopnaaielaa
open Go.RowKit
set_option linter.unusedVariables false

theorem an_nat (a b : Nat) (ha : a < 4294967296) (hb : b < 4294967296) : an a b = ((a &&& b : Nat) : Int) := u32_and_nat a b ha hb
theorem or_nat (a b : Nat) (ha : a < 4294967296) (hb : b < 4294967296) : orr a b = ((a ||| b : Nat) : Int) := u32_or_nat a b ha hb

theorem nat_of {c : Int} (h0 : 0 ≤ c) (h1 : c ≤ 4294967295) : ∃ n : Nat, c = n ∧ n < 4294967296 := ⟨c.toNat, by omega, by omega⟩

theorem and_lt {a b : Nat} (ha : a < 4294967296) : a &&& b < 4294967296 := Nat.lt_of_le_of_lt Nat.and_le_left ha
theorem or_lt {a b : Nat} (ha : a < 4294967296) (hb : b < 4294967296) : a ||| b < 4294967296 := Nat.or_lt_two_pow (n := 32) ha hb

/-- At or below, as it is: the level's order, and no category that the other lacks. -/
theorem leqB_nat (l l' : Int) (a b : Nat) (ha : a < 4294967296) (hb : b < 4294967296) : leqB l a l' b = true ↔ l ≤ l' ∧ a &&& b = a := by
  unfold leqB mn
  rw [an_nat a b ha hb, Bool.and_eq_true, beq_iff_eq, beq_iff_eq]
  refine and_congr ?_ ?_
  · split <;> omega
  · omega

theorem and_trans {a b c : Nat} (h1 : a &&& b = a) (h2 : b &&& c = b) : a &&& c = a := by
  rw [← h1, Nat.and_assoc, h2]

theorem and_or {a b c : Nat} : (a ||| b) &&& c = a ||| b ↔ a &&& c = a ∧ b &&& c = b := by
  constructor
  · intro h
    constructor
    · apply Nat.eq_of_testBit_eq; intro i
      have := congrArg (fun n => n.testBit i) h
      simp only [Nat.testBit_and, Nat.testBit_or] at this ⊢
      cases h1 : a.testBit i <;> cases h2 : c.testBit i <;> simp_all
    · apply Nat.eq_of_testBit_eq; intro i
      have := congrArg (fun n => n.testBit i) h
      simp only [Nat.testBit_and, Nat.testBit_or] at this ⊢
      cases h1 : b.testBit i <;> cases h2 : c.testBit i <;> simp_all
  · rintro ⟨h1, h2⟩
    rw [Nat.and_or_distrib_right, h1, h2]

theorem and_and {a b c : Nat} : c &&& (a &&& b) = c ↔ c &&& a = c ∧ c &&& b = c := by
  constructor
  · intro h
    constructor
    · apply Nat.eq_of_testBit_eq; intro i
      have := congrArg (fun n => n.testBit i) h
      simp only [Nat.testBit_and] at this ⊢
      cases h1 : a.testBit i <;> cases h2 : c.testBit i <;> simp_all
    · apply Nat.eq_of_testBit_eq; intro i
      have := congrArg (fun n => n.testBit i) h
      simp only [Nat.testBit_and] at this ⊢
      cases h1 : b.testBit i <;> cases h2 : c.testBit i <;> simp_all
  · rintro ⟨h1, h2⟩
    rw [← Nat.and_assoc, h1, h2]

theorem or_eq_right {a b : Nat} : a ||| b = b ↔ a &&& b = a := by
  constructor
  · intro h; apply Nat.eq_of_testBit_eq; intro i
    have := congrArg (fun n => n.testBit i) h
    simp only [Nat.testBit_and, Nat.testBit_or] at this ⊢
    cases h1 : a.testBit i <;> cases h2 : b.testBit i <;> simp_all
  · intro h; apply Nat.eq_of_testBit_eq; intro i
    have := congrArg (fun n => n.testBit i) h
    simp only [Nat.testBit_and, Nat.testBit_or] at this ⊢
    cases h1 : a.testBit i <;> cases h2 : b.testBit i <;> simp_all

structure Lab (l c : Int) : Prop where
  l0 : 0 ≤ l
  l1 : l ≤ 255
  c0 : 0 ≤ c
  c1 : c ≤ 4294967295

theorem leq_refl {l c : Int} (h : Lab l c) : leqB l c l c = true := by
  obtain ⟨a, rfl, ha⟩ := nat_of h.c0 h.c1
  exact (leqB_nat l l a a ha ha).2 ⟨by omega, Nat.and_self a⟩

theorem leq_anti {l c l' c' : Int} (h : Lab l c) (h' : Lab l' c') (h1 : leqB l c l' c' = true) (h2 : leqB l' c' l c = true) : l = l' ∧ c = c' := by
  obtain ⟨a, rfl, ha⟩ := nat_of h.c0 h.c1
  obtain ⟨b, rfl, hb⟩ := nat_of h'.c0 h'.c1
  have h3 := (leqB_nat l l' a b ha hb).1 h1
  have h4 := (leqB_nat l' l b a hb ha).1 h2
  rw [Nat.and_comm] at h4
  omega

theorem leq_trans {l c l' c' l'' c'' : Int} (h : Lab l c) (h' : Lab l' c') (h'' : Lab l'' c'') (h1 : leqB l c l' c' = true) (h2 : leqB l' c' l'' c'' = true) : leqB l c l'' c'' = true := by
  obtain ⟨a, rfl, ha⟩ := nat_of h.c0 h.c1
  obtain ⟨b, rfl, hb⟩ := nat_of h'.c0 h'.c1
  obtain ⟨c, rfl, hc⟩ := nat_of h''.c0 h''.c1
  have h3 := (leqB_nat l l' a b ha hb).1 h1
  have h4 := (leqB_nat l' l'' b c hb hc).1 h2
  exact (leqB_nat l l'' a c ha hc).2 ⟨by omega, and_trans h3.2 h4.2⟩

theorem leq_least {l c : Int} (h : Lab l c) : leqB 0 0 l c = true := by
  obtain ⟨a, rfl, ha⟩ := nat_of h.c0 h.c1
  exact (leqB_nat 0 l 0 a (by omega) ha).2 ⟨h.l0, Nat.zero_and a⟩

theorem leq_greatest {l c : Int} (h : Lab l c) (hl : l ≤ 15) : leqB l c 15 4294967295 = true := by
  obtain ⟨a, rfl, ha⟩ := nat_of h.c0 h.c1
  refine (leqB_nat l 15 a 4294967295 ha (by omega)).2 ⟨hl, ?_⟩
  have := Nat.and_two_pow_sub_one_eq_mod a 32
  simp only [Nat.reducePow, Nat.reduceSub] at this
  rw [this]; omega

theorem leq_join {l c l' c' l'' c'' : Int} (h : Lab l c) (h' : Lab l' c') (h'' : Lab l'' c'') :
    leqB (mx l l') (orr c c') l'' c'' = (leqB l c l'' c'' && leqB l' c' l'' c'') := by
  obtain ⟨a, rfl, ha⟩ := nat_of h.c0 h.c1
  obtain ⟨b, rfl, hb⟩ := nat_of h'.c0 h'.c1
  obtain ⟨c, rfl, hc⟩ := nat_of h''.c0 h''.c1
  rw [or_nat a b ha hb, Bool.eq_iff_iff, Bool.and_eq_true, leqB_nat _ _ _ _ (or_lt ha hb) hc, leqB_nat _ _ _ _ ha hc, leqB_nat _ _ _ _ hb hc, and_or]
  have : mx l l' ≤ l'' ↔ l ≤ l'' ∧ l' ≤ l'' := by unfold mx; split <;> omega
  rw [this]; exact and_and_and_comm

theorem leq_meet {l c l' c' l'' c'' : Int} (h : Lab l c) (h' : Lab l' c') (h'' : Lab l'' c'') :
    leqB l'' c'' (mn l l') (an c c') = (leqB l'' c'' l c && leqB l'' c'' l' c') := by
  obtain ⟨a, rfl, ha⟩ := nat_of h.c0 h.c1
  obtain ⟨b, rfl, hb⟩ := nat_of h'.c0 h'.c1
  obtain ⟨c, rfl, hc⟩ := nat_of h''.c0 h''.c1
  rw [an_nat a b ha hb, Bool.eq_iff_iff, Bool.and_eq_true, leqB_nat _ _ _ _ hc (and_lt ha), leqB_nat _ _ _ _ hc ha, leqB_nat _ _ _ _ hc hb, and_and]
  have : l'' ≤ mn l l' ↔ l'' ≤ l ∧ l'' ≤ l' := by unfold mn; split <;> omega
  rw [this]; exact and_and_and_comm

theorem Lab.join {l c l' c' : Int} (h : Lab l c) (h' : Lab l' c') : Lab (mx l l') (orr c c') := by
  have k := h.l0; have k1 := h.l1; have k2 := h'.l0; have k3 := h'.l1
  obtain ⟨a, rfl, ha⟩ := nat_of h.c0 h.c1
  obtain ⟨b, rfl, hb⟩ := nat_of h'.c0 h'.c1
  have := or_lt ha hb
  refine ⟨?_, ?_, ?_, ?_⟩ <;> first | (unfold mx; split <;> omega) | (rw [or_nat a b ha hb]; omega)
theorem Lab.meet {l c l' c' : Int} (h : Lab l c) (h' : Lab l' c') : Lab (mn l l') (an c c') := by
  have k := h.l0; have k1 := h.l1; have k2 := h'.l0; have k3 := h'.l1
  obtain ⟨a, rfl, ha⟩ := nat_of h.c0 h.c1
  obtain ⟨b, rfl, hb⟩ := nat_of h'.c0 h'.c1
  have := @and_lt a b ha
  refine ⟨?_, ?_, ?_, ?_⟩ <;> first | (unfold mn; split <;> omega) | (rw [an_nat a b ha hb]; omega)

theorem leq_join_left {l c l' c' : Int} (h : Lab l c) (h' : Lab l' c') : leqB l c (mx l l') (orr c c') = true := by
  have := leq_join h h' (h.join h')
  rw [leq_refl (h.join h')] at this
  revert this; cases leqB l c (mx l l') (orr c c') <;> simp
theorem leq_join_right {l c l' c' : Int} (h : Lab l c) (h' : Lab l' c') : leqB l' c' (mx l l') (orr c c') = true := by
  have := leq_join h h' (h.join h')
  rw [leq_refl (h.join h')] at this
  revert this; cases leqB l' c' (mx l l') (orr c c') <;> simp
theorem leq_meet_left {l c l' c' : Int} (h : Lab l c) (h' : Lab l' c') : leqB (mn l l') (an c c') l c = true := by
  have := leq_meet h h' (h.meet h')
  rw [leq_refl (h.meet h')] at this
  revert this; cases leqB (mn l l') (an c c') l c <;> simp
theorem leq_meet_right {l c l' c' : Int} (h : Lab l c) (h' : Lab l' c') : leqB (mn l l') (an c c') l' c' = true := by
  have := leq_meet h h' (h.meet h')
  rw [leq_refl (h.meet h')] at this
  revert this; cases leqB (mn l l') (an c c') l' c' <;> simp
theorem join_eq {l c l' c' : Int} (h : Lab l c) (h' : Lab l' c') : (mx l l' == l' && orr c c' == c') = leqB l c l' c' := by
  obtain ⟨a, rfl, ha⟩ := nat_of h.c0 h.c1
  obtain ⟨b, rfl, hb⟩ := nat_of h'.c0 h'.c1
  rw [Bool.eq_iff_iff, leqB_nat _ _ _ _ ha hb, Bool.and_eq_true, beq_iff_eq, beq_iff_eq, or_nat a b ha hb]
  refine and_congr (by unfold mx; split <;> omega) ?_
  rw [← or_eq_right]; omega
theorem meet_eq {l c l' c' : Int} : (mn l l' == l && an c c' == c) = leqB l c l' c' := rfl
end Go.Proofs.Ythjpiopnaaielaa
