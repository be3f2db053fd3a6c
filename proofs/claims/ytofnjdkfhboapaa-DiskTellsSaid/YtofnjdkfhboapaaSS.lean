/-
  Words for slices of structs, over any program ('Rds', 'Owns'): what such a slice reads as; one of the call's own; append; slices that came in. (Stage 6's, for greater structs.)
-/
import Derived.Test.YtofnjdkfhboapaaMem
import Derived.OpenShut
import Derived.Laws.OwnMore
import Derived.Maps.AppendAt
import Derived.Deep.AppendLies
import Derived.Deep.Slices
import Derived.OwnWalk
namespace Go.Proofs.Ytofnjdkfhboapaa
open Go.RowKit Go.ChangeShapes Go.WideShapes Go.ChangeAt Go.Deep
set_option linter.unusedVariables false
set_option linter.unusedSimpArgs false

/-! ### Lists of cells -/
def flat {α : Type} (f : α → List Value) : List α → List Value
  | [] => []
  | x :: l => f x ++ flat f l
section
variable {α : Type} {f : α → List Value} {s : Nat}
theorem flat_length (hs : ∀ x, (f x).length = s) : ∀ l : List α, (flat f l).length = l.length * s
  | [] => by simp [flat]
  | x :: l => by rw [flat, List.length_append, hs, flat_length hs l, List.length_cons, Nat.succ_mul, Nat.add_comm]
theorem flat_append (l m : List α) : flat f (l ++ m) = flat f l ++ flat f m := by
  induction l with
  | nil => rfl
  | cons x l ih => rw [List.cons_append, flat, flat, ih, List.append_assoc]
theorem flat_at (hs : ∀ x, (f x).length = s) : ∀ (l : List α) (j : Nat) (h : j < l.length) (i : Nat), i < s → (flat f l)[j * s + i]? = (f l[j])[i]?
  | x :: l, 0, h, i, hi => by
    rw [flat, List.getElem?_append_left (by rw [hs]; omega), Nat.zero_mul, Nat.zero_add]
    rfl
  | x :: l, j + 1, h, i, hi => by
    have hj : j < l.length := by simp at h; omega
    rw [flat, List.getElem?_append_right (by rw [hs, Nat.succ_mul]; omega), hs, show (j + 1) * s + i - s = j * s + i by rw [Nat.succ_mul]; omega, flat_at hs l j hj i hi]
    rfl
theorem flat_one (h1 : ∀ x, ∀ u ∈ f x, u.oneCell' = true) : ∀ l : List α, ∀ u ∈ flat f l, u.oneCell' = true
  | [], u, h => by cases h
  | x :: l, u, h => by
    rw [flat] at h
    rcases List.mem_append.1 h with h | h
    · exact h1 x u h
    · exact flat_one h1 l u h

/-- The slice '.slice A l.length c' reads as the structs l. -/
def Rds (f : α → List Value) (w : World) (A : Option Addr) (c : Nat) (l : List α) : Prop :=
  l.length ≤ c ∧ c ≤ maxLen ∧ (0 < l.length → ∃ b o, A = some ⟨b, o, none⟩ ∧ ∀ j u, (flat f l)[j]? = some u → w.cell? ⟨b, o + j, none⟩ = some u)
theorem Rds.nil (w : World) : Rds f w none 0 [] := ⟨Nat.le_refl _, Nat.zero_le _, fun h => absurd h (by simp)⟩
theorem Rds.keep {w w' : World} (hb : Below w.heap.size w w') {A : Option Addr} {c : Nat} {l : List α} (h : Rds f w A c l) : Rds f w' A c l :=
  ⟨h.1, h.2.1, fun hl => by
    obtain ⟨b, o, hA, hc⟩ := h.2.2 hl
    exact ⟨b, o, hA, fun j u hu => Go.Proofs.Ytofnjdkfhboapaa.keep hb (hc j u hu)⟩⟩
theorem Rds.cap {w : World} {A : Option Addr} {c : Nat} {l : List α} (h : Rds f w A c l) : c ≤ 9223372036854775807 := h.2.1
/-- From each struct's cells to all. -/
theorem rds_of_each (hs : ∀ x, (f x).length = s) (hs0 : 0 < s) {w : World} {b o : Nat} {l : List α} (h : ∀ j (hj : j < l.length), ∀ i u, (f l[j])[i]? = some u → w.cell? ⟨b, o + (j * s + i), none⟩ = some u) :
    ∀ j u, (flat f l)[j]? = some u → w.cell? ⟨b, o + j, none⟩ = some u := fun j u hu => by
  have hlt : j < l.length * s := by
    have := (List.getElem?_eq_some_iff.1 hu).1
    rwa [flat_length hs] at this
  have hq : j / s < l.length := (Nat.div_lt_iff_lt_mul hs0).2 hlt
  have hj : j = j / s * s + j % s := by rw [Nat.mul_comm]; exact (Nat.div_add_mod j s).symm
  rw [hj, flat_at hs l (j / s) hq (j % s) (Nat.mod_lt _ hs0)] at hu
  rw [hj]
  exact h _ hq _ _ hu
theorem Rds.each (hs : ∀ x, (f x).length = s) {w : World} {b o : Nat} {c : Nat} {l : List α} (h : ∀ j u, (flat f l)[j]? = some u → w.cell? ⟨b, o + j, none⟩ = some u) (j : Nat) (hj : j < l.length) (i : Nat) (hi : i < s) (u : Value) (hu : (f l[j])[i]? = some u) :
    w.cell? ⟨b, o + (j * s + i), none⟩ = some u := h _ _ (by rw [flat_at hs l j hj i hi]; exact hu)

/-- A slice of the call's own (it lies in a block from 'base' on). -/
def Owns (f : α → List Value) (s : Nat) (w : World) (base : Nat) (e : TypeId) (A : Option Addr) (c : Nat) (l : List α) : Prop := w.ownsRow base e s (.slice A l.length c) l.length (flat f l)
theorem Owns.nil (w : World) (base : Nat) (e : TypeId) : Owns f s w base e none 0 [] := World.ownsRow_nil w base e s
theorem Owns.lit (hs : ∀ x, (f x).length = s) (hs5 : s ≤ 20) (w : World) {base : Nat} (e : TypeId) (l : List α) (hb : base ≤ w.heap.size) (hm : l.length ≤ 1000) : Owns f s (w.alloc (.cells (flat f l).toArray e)) base e (some ⟨w.heap.size, 0, none⟩) l.length l := by
  have h := World.ownsRow_lit (base := base) (e := e) (size := s) w (flat f l).toArray l.length hb (by unfold maxLen; omega) (by simp [flat_length hs])
  simpa [Owns] using h
theorem Owns.rd (hs : ∀ x, (f x).length = s) {w : World} {base : Nat} {e : TypeId} {A : Option Addr} {c : Nat} {l : List α} (h : Owns f s w base e A c l) : Rds f w A c l := by
  obtain ⟨h0, h1⟩ := h
  rcases h1 with ⟨hv, hn⟩ | ⟨g, cap, cur, hv, hbg, hg, hnc, hcm, hcs, htk⟩
  · injection hv with h1 h2 h3
    have : l = [] := List.eq_nil_of_length_eq_zero hn
    subst this h1 h3
    exact Rds.nil w
  · injection hv with h1 h2 h3
    subst h1 h3
    refine ⟨hnc, hcm, fun hp => ⟨g, 0, rfl, fun j u hu => ?_⟩⟩
    rw [Nat.zero_add, cell_of_row w g j cur e (0, 0) hg]
    have hj : j < l.length * s := by
      have := (List.getElem?_eq_some_iff.1 hu).1
      rwa [flat_length hs] at this
    have : (cur.toList.take (l.length * s))[j]? = (flat f l)[j]? := by rw [htk]
    rw [List.getElem?_take, if_pos hj] at this
    rw [← Array.getElem?_toList, this, hu]
theorem Owns.block {w : World} {base : Nat} {e : TypeId} {A : Option Addr} {c : Nat} {l : List α} (h : Owns f s w base e A c l) : ∀ k, (Value.slice A l.length c).ownBlock = some k → base ≤ k := fun k hk => (h.lt k hk).1
theorem Owns.keep {w w' : World} {base : Nat} {e : TypeId} {A : Option Addr} {c : Nat} {l : List α} (h : Owns f s w base e A c l) (hb : Below w.heap.size w w') : Owns f s w' base e A c l := by
  obtain ⟨h0, h1⟩ := h
  refine ⟨h0, ?_⟩
  rcases h1 with h | ⟨g, cap, cur, hv, hbg, hg, r⟩
  · exact .inl h
  · have hlt : g < w.heap.size := by
      rcases Nat.lt_or_ge g w.heap.size with h' | h'
      · exact h'
      · rw [Array.getElem?_eq_none h'] at hg; cases hg
    exact .inr ⟨g, cap, cur, hv, hbg, by rw [hb.block g hlt]; exact hg, r⟩
theorem Owns.mono {w : World} {base base' : Nat} {e : TypeId} {A : Option Addr} {c : Nat} {l : List α} (h : Owns f s w base e A c l) (hb : base' ≤ base) : Owns f s w base' e A c l := by
  obtain ⟨h0, h1⟩ := h
  refine ⟨h0, ?_⟩
  rcases h1 with h | ⟨g, cap, cur, hv, hbg, r⟩
  · exact .inl h
  · exact .inr ⟨g, cap, cur, hv, Nat.le_trans hb hbg, r⟩

theorem run_append_s {P : Program} {w : World} {base : Nat} {t ty e : TypeId} {i : TypeInfo} {z : Value} {by_ : Nat} (hs : ∀ x, (f x).length = s) (hs0 : 0 < s) (h1 : ∀ x, ∀ u ∈ f x, u.oneCell' = true) (ht : P.underlying t = some (.slice e)) (hi : P.info? e = some i) (hz : i.zero = some z) (hzs : z.cells.size = s) (hsize : i.size = s) (hby : i.bytes = by_) (hb8 : by_ ≤ 1000)
    {A : Option Addr} {c : Nat} {l : List α} (hown : Owns f s w base e A c l) {A1 : Option Addr} {c1 : Nat} {m : List α} (hr : Rds f w A1 c1 m) (hlen : l.length + m.length ≤ 10000) (hbase : base ≤ w.heap.size) :
    ∃ A' c' w', (Builtin.append_ #[t, t] ty #[.slice A l.length c, .slice A1 m.length c1]).run P w = .ok (.slice A' (l.length + m.length) c') w' ∧ Owns f s w' base e A' c' (l ++ m) ∧ Below base w w' ∧ w.grownBy w' (Value.slice A l.length c).ownBlock := by
  have key : ∀ ad : Addr, (∀ j u, (flat f m)[j]? = some u → w.cell? (ad.add j) = some u) → ∃ A' c' w', (Builtin.append_ #[t, t] ty #[.slice A l.length c, .slice (some ad) m.length c1]).run P w = .ok (.slice A' (l.length + m.length) c') w' ∧ Owns f s w' base e A' c' (l ++ m) ∧ Below base w w' ∧ w.grownBy w' (Value.slice A l.length c).ownBlock := by
    intro ad hc
    have hbb : (l.length + m.length) * by_ ≤ 140737488355328 := Nat.le_trans (Nat.mul_le_mul hlen hb8) (by omega)
    obtain ⟨v', w', hrun, h2, h3, _, _⟩ := run_append_own_at (P := P) w base t ty e i z s by_ ht hi hz hsize hby hzs hs0 _ _ _ hown ad m.length c1 (flat f m) (flat_length hs m) hc (flat_one h1 m) (by unfold maxLen; omega) hbb hbase
    have hb : Below base w w' := (Below.refl _ _).grown h3 hbase hown.block
    obtain ⟨A', c', hv⟩ : ∃ A' c', v' = .slice A' (l.length + m.length) c' := by
      rcases h2.2 with ⟨hv, hn⟩ | ⟨g, cap, cur, hv, _⟩
      · exact ⟨none, 0, by rw [hv, hn]⟩
      · exact ⟨_, _, hv⟩
    subst hv
    refine ⟨A', c', w', hrun, ?_, hb, h3⟩
    unfold Owns
    rw [List.length_append, flat_append]
    exact h2
  match A1 with
  | some ad =>
    refine key ad fun j u hu => ?_
    have hj : 0 < m.length := by
      have := (List.getElem?_eq_some_iff.1 hu).1
      rw [flat_length hs] at this
      rcases Nat.eq_zero_or_pos m.length with h0 | h0
      · rw [h0] at this; omega
      · exact h0
    obtain ⟨b, o, hA, hc⟩ := hr.2.2 hj
    injection hA with hA
    subst hA
    rw [Addr.add_lit, hc j u hu]
  | none =>
    have hl : m = [] := by
      rcases Nat.eq_zero_or_pos m.length with h0 | h0
      · exact List.eq_nil_of_length_eq_zero h0
      · obtain ⟨b, o, hA, _⟩ := hr.2.2 h0
        cases hA
    subst hl
    refine ⟨A, c, w, ?_, by simpa using hown, Below.refl _ _, ⟨rfl, rfl, rfl, Nat.le_refl _, fun _ _ _ => rfl⟩⟩
    rcases hown.2 with ⟨hv, hn⟩ | ⟨g, cap, cur, hv, _, _, hnc, _⟩
    · injection hv with h1 h2 h3
      subst h1 h3
      simp [Builtin.append_, run_underlying ht, sizeOf, typeInfo, hi, Builtin.lenOf, Builtin.firstCells, hn]
    · injection hv with h1 h2 h3
      subst h1 h3
      simp [Builtin.append_, run_underlying ht, sizeOf, typeInfo, hi, Builtin.lenOf, Builtin.firstCells, hnc, storeCells]

/-- append, at a plain region's list of operations; and at a step of a region that draws. -/
theorem wpList_append_s {P : Program} {w : World} {ops : Array Oper} {rest : List Oper} {o : Oper} {a : Act} {Q : Exit → Act → World → Prop} (hgd : o.guard = none) (x0 x : Operand) (t : TypeId)
    (ho : o.op = .call { callee := .builtin .append, args := #[x0, x], argTypes := #[t, t] })
    (base : Nat) (e : TypeId) {i : TypeInfo} {z : Value} {by_ : Nat} (hs : ∀ x, (f x).length = s) (hs0 : 0 < s) (h1 : ∀ x, ∀ u ∈ f x, u.oneCell' = true) (ht : P.underlying t = some (.slice e)) (hi : P.info? e = some i) (hz : i.zero = some z) (hzs : z.cells.size = s) (hsize : i.size = s) (hby : i.bytes = by_) (hb8 : by_ ≤ 1000)
    (A : Option Addr) (n c : Nat) (l : List α) (hn : Hid (l.length = n)) (hs' : a.eval x0 = .slice A n c) (hown : Owns f s w base e A c l)
    (A1 : Option Addr) (n1 c1 : Nat) (m : List α) (hn1 : Hid (m.length = n1)) (hx : a.eval x = .slice A1 n1 c1) (hr : Rds f w A1 c1 m) (hlen : n + n1 ≤ 10000) (hbase : base ≤ w.heap.size)
    (h : ∀ A' c' w', Owns f s w' base e A' c' (l ++ m) → Below base w w' → w.grownBy w' (Value.slice A l.length c).ownBlock → wpList P ops Q rest (a.put o.dst (.slice A' (n + n1) c')) w') : wpList P ops Q (o :: rest) a w := by
  refine wpList_plain hgd fun K hK => ?_
  have hn' := hn.out
  have hn1' := hn1.out
  subst hn' hn1'
  obtain ⟨A', c', w', hrun, h2, h3, h4⟩ := run_append_s (P := P) (ty := o.type) hs hs0 h1 ht hi hz hzs hsize hby hb8 hown hr hlen hbase
  unfold Oper.wp execOp
  simp only [ho, resolve, invoke, builtin, Sem.run_bind, Sem.run_pure, Result.andThen_ok, List.map_toArray, List.map_cons, List.map_nil, hs', hx, hrun]
  exact hK _ _ (h A' c' w' h2 h3 h4)
theorem step_append_s {P : Program} {w : World} {ops : Array Oper} {o : Oper} {a : Act} {K : Act → World → Prop} {Q : Exit → Act → World → Prop} {E : Prop} (hgd : o.guard = none) (x0 x : Operand) (t : TypeId)
    (ho : o.op = .call { callee := .builtin .append, args := #[x0, x], argTypes := #[t, t] })
    (base : Nat) (e : TypeId) {i : TypeInfo} {z : Value} {by_ : Nat} (hs : ∀ x, (f x).length = s) (hs0 : 0 < s) (h1 : ∀ x, ∀ u ∈ f x, u.oneCell' = true) (ht : P.underlying t = some (.slice e)) (hi : P.info? e = some i) (hz : i.zero = some z) (hzs : z.cells.size = s) (hsize : i.size = s) (hby : i.bytes = by_) (hb8 : by_ ≤ 1000)
    (A : Option Addr) (n c : Nat) (l : List α) (hn : Hid (l.length = n)) (hs' : a.eval x0 = .slice A n c) (hown : Owns f s w base e A c l)
    (A1 : Option Addr) (n1 c1 : Nat) (m : List α) (hn1 : Hid (m.length = n1)) (hx : a.eval x = .slice A1 n1 c1) (hr : Rds f w A1 c1 m) (hlen : n + n1 ≤ 10000) (hbase : base ≤ w.heap.size)
    (h : ∀ A' c' w', Owns f s w' base e A' c' (l ++ m) → Below base w w' → w.grownBy w' (Value.slice A l.length c).ownBlock → K (a.put o.dst (.slice A' (n + n1) c')) w') :
    if Region.wanted o (yielded ops a.tmps) = true then Oper.wp P o a w K Q else E := by
  have hw : Region.wanted o (yielded ops a.tmps) = true := by simp [Region.wanted, hgd]
  rw [if_pos hw]
  have hn' := hn.out
  have hn1' := hn1.out
  subst hn' hn1'
  obtain ⟨A', c', w', hrun, h2, h3, h4⟩ := run_append_s (P := P) (ty := o.type) hs hs0 h1 ht hi hz hzs hsize hby hb8 hown hr hlen hbase
  unfold Oper.wp execOp
  simp only [ho, resolve, invoke, builtin, Sem.run_bind, Sem.run_pure, Result.andThen_ok, List.map_toArray, List.map_cons, List.map_nil, hs', hx, hrun]
  exact h A' c' w' h2 h3 h4

theorem list_choice {p : Nat → α → Prop} : ∀ n, (∀ j, j < n → ∃ x, p j x) → ∃ l : List α, l.length = n ∧ ∀ j (hj : j < l.length), p j l[j]
  | 0, _ => ⟨[], rfl, fun j hj => by simp at hj⟩
  | n + 1, h => by
    obtain ⟨l, hl, hp⟩ := list_choice n fun j hj => h j (by omega)
    obtain ⟨x, hx⟩ := h n (by omega)
    refine ⟨l ++ [x], by simp [hl], fun j hj => ?_⟩
    by_cases e : j < l.length
    · rw [List.getElem_append_left e]; exact hp j e
    · have e2 : j = n := by simp at hj; omega
      subst e2
      rw [List.getElem_append_right (by omega)]
      simpa using hx

/-- A slice of structs that came in. -/
theorem trod_rs {H : Type} {enc : TypeId × Value → H} {P : Program} {W : World} {base : Nat} {spare : Nat → Bool} {held : Bool} {t e : TypeId} {fuel : Nat} {cs : List Value} {x : DataW H × List MemPlace} {T : α → Prop}
    (ht : P.underlying t = some (.slice e)) (hc : P.cellsOf e = s) (hs : ∀ x, (f x).length = s) (hs0 : 0 < s)
    (hE : ∀ fuel cs x, DataW.trod enc P W base spare held fuel e cs = some x → ∃ y, cs = f y ∧ T y)
    (h : DataW.trod enc P W base spare held fuel t cs = some x) : ∃ (A : Option Addr) (n c : Nat) (l : List α), cs = [.slice A n c] ∧ Hid (l.length = n) ∧ Rds f W A c l ∧ ∀ y ∈ l, T y := by
  rcases open_slice ht h with ⟨hcs, hx⟩ | ⟨a, len, cap, m, n, D, Pl, hcs, hb, hl, hm, hmm, hx, hi⟩
  · exact ⟨none, 0, 0, [], hcs, hid rfl, Rds.nil W, fun y hy => by cases hy⟩
  · have each : ∀ j, j < len → ∃ y : α, (∀ i u, (f y)[i]? = some u → W.cell? (a.add (j * s + i)) = some u) ∧ T y := by
      intro j hj
      obtain ⟨cs', h1, h2⟩ := hi j (by rw [hmm]; split <;> omega)
      rw [hc] at h1
      obtain ⟨y, rfl, hy⟩ := hE _ _ _ h2
      obtain ⟨_, hcl, hat⟩ := World.cells?_some h1
      refine ⟨y, fun i u hu => ?_, hy⟩
      have hil : i < s := by
        have := (List.getElem?_eq_some_iff.1 hu).1
        rwa [hs] at this
      rw [← Go.Deep.add_add, hat i hil, hu]
    obtain ⟨l, hlen, hp⟩ := list_choice len each
    refine ⟨some a, len, cap, l, hcs, hid hlen, ⟨by omega, hm, fun h0 => ?_⟩, fun y hy => ?_⟩
    · obtain ⟨ab, ao, spot⟩ := a
      have hspot : spot = none := by
        have h00 : 0 < (f l[0]).length := by rw [hs]; exact hs0
        have := (hp 0 h0).1 0 _ (List.getElem?_eq_getElem h00)
        simpa [Addr.add] using World.cell?_spot this
      subst hspot
      exact ⟨ab, ao, rfl, rds_of_each hs hs0 fun j hj i u hu => by have := (hp j hj).1 i u hu; rwa [Addr.add_lit] at this⟩
    · obtain ⟨j, hj, rfl⟩ := List.mem_iff_getElem.1 hy
      exact (hp j hj).2
end
end Go.Proofs.Ytofnjdkfhboapaa
