/-
  append that says which block alone it turns; rows of two kinds lie apart.
-/
import Derived.Test.YtbigppdaoakkfaaGrO
namespace Go.Proofs.Ytbigppdaoakkfaa
open Go.RowKit Go.ChangeShapes Go.WideShapes Go.ChangeAt Go.Deep
set_option linter.unusedVariables false
set_option linter.unusedSimpArgs false

section
variable {α : Type} {f : α → List Value} {s : Nat}
theorem run_append_g {P : Program} {w : World} {base : Nat} {t ty e : TypeId} {i : TypeInfo} {z : Value} {by_ : Nat} (hs : ∀ x, (f x).length = s) (hs0 : 0 < s) (h1 : ∀ x, ∀ u ∈ f x, u.oneCell' = true) (ht : P.underlying t = some (.slice e)) (hi : P.info? e = some i) (hz : i.zero = some z) (hzs : z.cells.size = s) (hsize : i.size = s) (hby : i.bytes = by_) (hb8 : by_ ≤ 100)
    {A : Option Addr} {c : Nat} {l : List α} (hown : Owns f s w base e A c l) {A1 : Option Addr} {c1 : Nat} {m : List α} (hr : Rds f w A1 c1 m) (hlen : l.length + m.length ≤ 10000) (hbase : base ≤ w.heap.size) :
    ∃ A' c' w', (Builtin.append_ #[t, t] ty #[.slice A l.length c, .slice A1 m.length c1]).run P w = .ok (.slice A' (l.length + m.length) c') w' ∧ Owns f s w' base e A' c' (l ++ m) ∧ Below base w w' ∧ w.grownBy w' (Value.slice A l.length c).ownBlock := by
  have key : ∀ ad : Addr, (∀ j u, (flat f m)[j]? = some u → w.cell? (ad.add j) = some u) → ∃ A' c' w', (Builtin.append_ #[t, t] ty #[.slice A l.length c, .slice (some ad) m.length c1]).run P w = .ok (.slice A' (l.length + m.length) c') w' ∧ Owns f s w' base e A' c' (l ++ m) ∧ Below base w w' ∧ w.grownBy w' (Value.slice A l.length c).ownBlock := by
    intro ad hc
    have hbb : (l.length + m.length) * by_ ≤ 140737488355328 := Nat.le_trans (Nat.mul_le_mul hlen hb8) (by omega)
    obtain ⟨v', w', hrun, h2, h3, _, _⟩ := run_append_own_at (P := P) w base t ty e i z s by_ ht hi hz hsize hby hzs hs0 _ _ _ hown ad m.length c1 (flat f m) (flat_length hs m) hc (flat_one h1 m) (by unfold maxLen; omega) hbb hbase
    have hb : Below base w w' := (Below.refl _ _).grown h3 hbase hown.block
    obtain ⟨A', c', hv⟩ : ∃ A' c', v' = .slice A' (l.length + m.length) c' := by
      rcases h2.2 with ⟨hv, hn⟩ | ⟨g, cap, cur, hv, _⟩
      · exact ⟨none, 0, by rw [hv, hn]⟩
      · exact ⟨_, _, hv⟩
    subst hv
    refine ⟨A', c', w', hrun, ?_, hb, h3⟩
    unfold Owns
    rw [List.length_append, flat_append]
    exact h2
  match A1 with
  | some ad =>
    refine key ad fun j u hu => ?_
    have hj : 0 < m.length := by
      have := (List.getElem?_eq_some_iff.1 hu).1
      rw [flat_length hs] at this
      rcases Nat.eq_zero_or_pos m.length with h0 | h0
      · rw [h0] at this; omega
      · exact h0
    obtain ⟨b, o, hA, hc⟩ := hr.2.2 hj
    injection hA with hA
    subst hA
    rw [Addr.add_lit, hc j u hu]
  | none =>
    have hl : m = [] := by
      rcases Nat.eq_zero_or_pos m.length with h0 | h0
      · exact List.eq_nil_of_length_eq_zero h0
      · obtain ⟨b, o, hA, _⟩ := hr.2.2 h0
        cases hA
    subst hl
    refine ⟨A, c, w, ?_, by simpa using hown, Below.refl _ _, World.grownBy.refl _ _⟩
    rcases hown.2 with ⟨hv, hn⟩ | ⟨g, cap, cur, hv, _, _, hnc, _⟩
    · injection hv with h1 h2 h3
      subst h1 h3
      simp [Builtin.append_, run_underlying ht, sizeOf, typeInfo, hi, Builtin.lenOf, Builtin.firstCells, hn]
    · injection hv with h1 h2 h3
      subst h1 h3
      simp [Builtin.append_, run_underlying ht, sizeOf, typeInfo, hi, Builtin.lenOf, Builtin.firstCells, hnc, storeCells]

/-- append, at a plain region's list of operations; and at a step of a region that draws. -/
theorem wpList_append_g {P : Program} {w : World} {ops : Array Oper} {rest : List Oper} {o : Oper} {a : Act} {Q : Exit → Act → World → Prop} (hgd : o.guard = none) (x0 x : Operand) (t : TypeId)
    (ho : o.op = .call { callee := .builtin .append, args := #[x0, x], argTypes := #[t, t] })
    (base : Nat) (e : TypeId) {i : TypeInfo} {z : Value} {by_ : Nat} (hs : ∀ x, (f x).length = s) (hs0 : 0 < s) (h1 : ∀ x, ∀ u ∈ f x, u.oneCell' = true) (ht : P.underlying t = some (.slice e)) (hi : P.info? e = some i) (hz : i.zero = some z) (hzs : z.cells.size = s) (hsize : i.size = s) (hby : i.bytes = by_) (hb8 : by_ ≤ 100)
    (A : Option Addr) (n c : Nat) (l : List α) (hn : Hid (l.length = n)) (hs' : a.eval x0 = .slice A n c) (hown : Owns f s w base e A c l)
    (A1 : Option Addr) (n1 c1 : Nat) (m : List α) (hn1 : Hid (m.length = n1)) (hx : a.eval x = .slice A1 n1 c1) (hr : Rds f w A1 c1 m) (hlen : n + n1 ≤ 10000) (hbase : base ≤ w.heap.size)
    (h : ∀ A' c' w', Owns f s w' base e A' c' (l ++ m) → Below base w w' → w.grownBy w' (Value.slice A n c).ownBlock → wpList P ops Q rest (a.put o.dst (.slice A' (n + n1) c')) w') : wpList P ops Q (o :: rest) a w := by
  refine wpList_plain hgd fun K hK => ?_
  have hn' := hn.out
  have hn1' := hn1.out
  subst hn' hn1'
  obtain ⟨A', c', w', hrun, h2, h3, h4⟩ := run_append_g (P := P) (ty := o.type) hs hs0 h1 ht hi hz hzs hsize hby hb8 hown hr hlen hbase
  unfold Oper.wp execOp
  simp only [ho, resolve, invoke, builtin, Sem.run_bind, Sem.run_pure, Result.andThen_ok, List.map_toArray, List.map_cons, List.map_nil, hs', hx, hrun]
  exact hK _ _ (h A' c' w' h2 h3 h4)
theorem step_append_g {P : Program} {w : World} {ops : Array Oper} {o : Oper} {a : Act} {K : Act → World → Prop} {Q : Exit → Act → World → Prop} {E : Prop} (hgd : o.guard = none) (x0 x : Operand) (t : TypeId)
    (ho : o.op = .call { callee := .builtin .append, args := #[x0, x], argTypes := #[t, t] })
    (base : Nat) (e : TypeId) {i : TypeInfo} {z : Value} {by_ : Nat} (hs : ∀ x, (f x).length = s) (hs0 : 0 < s) (h1 : ∀ x, ∀ u ∈ f x, u.oneCell' = true) (ht : P.underlying t = some (.slice e)) (hi : P.info? e = some i) (hz : i.zero = some z) (hzs : z.cells.size = s) (hsize : i.size = s) (hby : i.bytes = by_) (hb8 : by_ ≤ 100)
    (A : Option Addr) (n c : Nat) (l : List α) (hn : Hid (l.length = n)) (hs' : a.eval x0 = .slice A n c) (hown : Owns f s w base e A c l)
    (A1 : Option Addr) (n1 c1 : Nat) (m : List α) (hn1 : Hid (m.length = n1)) (hx : a.eval x = .slice A1 n1 c1) (hr : Rds f w A1 c1 m) (hlen : n + n1 ≤ 10000) (hbase : base ≤ w.heap.size)
    (h : ∀ A' c' w', Owns f s w' base e A' c' (l ++ m) → Below base w w' → w.grownBy w' (Value.slice A n c).ownBlock → K (a.put o.dst (.slice A' (n + n1) c')) w') :
    if Region.wanted o (yielded ops a.tmps) = true then Oper.wp P o a w K Q else E := by
  have hw : Region.wanted o (yielded ops a.tmps) = true := by simp [Region.wanted, hgd]
  rw [if_pos hw]
  have hn' := hn.out
  have hn1' := hn1.out
  subst hn' hn1'
  obtain ⟨A', c', w', hrun, h2, h3, h4⟩ := run_append_g (P := P) (ty := o.type) hs hs0 h1 ht hi hz hzs hsize hby hb8 hown hr hlen hbase
  unfold Oper.wp execOp
  simp only [ho, resolve, invoke, builtin, Sem.run_bind, Sem.run_pure, Result.andThen_ok, List.map_toArray, List.map_cons, List.map_nil, hs', hx, hrun]
  exact h A' c' w' h2 h3 h4

end
theorem rows_off {w : World} {base base' : Nat} {e e' : TypeId} {s s' : Nat} {A : Option Addr} {n c : Nat} {xs : List Value} {B : Option Addr} {m d : Nat} {ys : List Value} (h : w.ownsRow base e s (.slice A n c) n xs) (he : e ≠ e') (h' : w.ownsRow base' e' s' (.slice B m d) m ys) :
    (Value.slice A n c).ownBlock = none ∨ (Value.slice A n c).ownBlock ≠ (Value.slice B m d).ownBlock := by
  rcases h.2 with ⟨hv, _⟩ | ⟨g, cap, cur, hv, _, hg, _⟩
  · rw [hv]; exact .inl rfl
  · rw [hv]
    exact .inr fun hh => rows_apart hg he h' (by rw [← hh]; rfl)
theorem lit_e1 (w : World) (g : Nat) (hg : w.heap.size = g) (k : Int) : RdE (w.alloc (.cells #[.int .i64 k] 26)) (some ⟨g, 0, none⟩) 1 [k] := by
  subst hg
  exact lit_e w [k] (by simp)
theorem ec_one (x : Int) : ∀ u ∈ ec x, u.oneCell' = true := fun u hu => by
  simp only [ec, List.mem_cons, List.not_mem_nil, or_false] at hu
  subst hu
  rfl
theorem info_E : (Try.prog.info? 26).map (fun i => (i.zero, i.size, i.bytes)) = some (some (.int .i64 0), 1, 8) := by kernel_rfl
def OwnE (w : World) (base : Nat) (E : Option Addr) (e : Nat) (es : List Int) : Prop := Owns ec 1 w base 26 E e es
/-- A row is kept where another of another kind is appended to. -/
theorem OwnC.off {w w' : World} {base base' : Nat} {A : Option Addr} {c : Nat} {us : List Cl} (h : OwnC w base A c us) {t : TypeId} (ht : 34 ≠ t) {s : Nat} {E : Option Addr} {j e : Nat} {ys : List Value} (hE : w.ownsRow base' t s (.slice E j e) j ys) (hg : w.grownBy w' (Value.slice E j e).ownBlock) : OwnC w' base A c us :=
  ⟨World.ownsRow.kept h.1 hg (rows_off h.1 ht hE), h.2⟩
theorem OwnQ.off {w w' : World} {base base' : Nat} {A : Option Addr} {c : Nat} {us : List Qt} (h : OwnQ w base A c us) {t : TypeId} (ht : 67 ≠ t) {s : Nat} {E : Option Addr} {j e : Nat} {ys : List Value} (hE : w.ownsRow base' t s (.slice E j e) j ys) (hg : w.grownBy w' (Value.slice E j e).ownBlock) : OwnQ w' base A c us :=
  ⟨World.ownsRow.kept h.1 hg (rows_off h.1 ht hE), h.2⟩
end Go.Proofs.Ytbigppdaoakkfaa
