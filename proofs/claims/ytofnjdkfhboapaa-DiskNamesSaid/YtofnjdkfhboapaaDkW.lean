/-
  Words of layer 12: sectors in a slice (each with its bytes), such as came in, and such as are the call's own; a disk in a box.
-/
import Derived.Test.YtofnjdkfhboapaaDkM
import Derived.Test.YtofnjdkfhboapaaSS
import Derived.Test.YtofnjdkfhboapaaDkB
namespace Go.Proofs.Ytofnjdkfhboapaa
open Go.RowKit Go.ChangeShapes Go.WideShapes Go.ChangeAt
set_option linter.unusedVariables false
set_option linter.unusedSimpArgs false

/-- A sector as it lies. -/
structure Sx where
  a : Int
  A : Option Addr
  c : Nat
  l : List UInt8
def fk (x : Sx) : List Value := [.int .i64 x.a, .slice x.A x.l.length x.c]
def toS (x : Sx) : Sct := ⟨x.a, x.l⟩
theorem fk_len (x : Sx) : (fk x).length = 2 := rfl
theorem fk_one (x : Sx) : ∀ u ∈ fk x, u.oneCell' = true := fun u hu => by
  simp only [fk, List.mem_cons, List.not_mem_nil, or_false] at hu
  rcases hu with rfl | rfl <;> rfl
theorem info_Sc : (Try.prog.info? 56).map (fun i => (i.zero, i.size, i.bytes)) = some (some (.agg #[.int .i64 0, .slice none 0 0]), 2, 32) := by kernel_rfl
def RdS (w : World) (A : Option Addr) (c : Nat) (L : List Sct) : Prop := ∃ xs : List Sx, xs.map toS = L ∧ Rds fk w A c xs ∧ ∀ x ∈ xs, Rd w x.A x.c x.l
theorem RdS.keep {w w' : World} (hb : Below w.heap.size w w') {A : Option Addr} {c : Nat} {L : List Sct} (h : RdS w A c L) : RdS w' A c L := by
  obtain ⟨xs, h1, h2, h3⟩ := h
  exact ⟨xs, h1, h2.keep hb, fun x hx => (h3 x hx).keep hb⟩
theorem RdS.nil (w : World) : RdS w none 0 [] := ⟨[], rfl, Rds.nil w, fun x hx => (by cases hx)⟩
theorem RdS.len {w : World} {A : Option Addr} {c : Nat} {L : List Sct} (h : RdS w A c L) : L.length ≤ c := by
  obtain ⟨xs, rfl, h2, h3⟩ := h
  rw [List.length_map]; exact h2.1
theorem RdS.cap {w : World} {A : Option Addr} {c : Nat} {L : List Sct} (h : RdS w A c L) : c ≤ 9223372036854775807 := by
  obtain ⟨xs, rfl, h2, h3⟩ := h
  exact h2.2.1
theorem RdS.at_ {w : World} {A : Option Addr} {c : Nat} {L : List Sct} (h : RdS w A c L) (hp : 0 < L.length) :
    ∃ b o, A = some ⟨b, o, none⟩ ∧ ∀ j (hj : j < L.length), ∃ X x, w.cell? ⟨b, o + j * 2, none⟩ = some (.int .i64 L[j].a) ∧ w.cell? ⟨b, o + j * 2 + 1, none⟩ = some (.slice X L[j].b.length x) ∧ Rd w X x L[j].b := by
  obtain ⟨xs, rfl, h2, h3⟩ := h
  rw [List.length_map] at hp
  obtain ⟨b, o, hA, hc⟩ := h2.2.2 hp
  refine ⟨b, o, hA, fun j hj => ?_⟩
  have hj' : j < xs.length := by rwa [List.length_map] at hj
  have e : (xs.map toS)[j] = toS xs[j] := by simp
  rw [e]
  refine ⟨xs[j].A, xs[j].c, ?_, ?_, h3 _ (List.getElem_mem hj')⟩
  · have := Rds.each (c := c) fk_len hc j hj' 0 (by omega) (.int .i64 xs[j].a) rfl
    rwa [Nat.add_zero] at this
  · exact Rds.each (c := c) fk_len hc j hj' 1 (by omega) (.slice xs[j].A xs[j].l.length xs[j].c) rfl
def OwS (w : World) (base : Nat) (A : Option Addr) (c : Nat) (L : List Sct) : Prop := ∃ xs : List Sx, xs.map toS = L ∧ Owns fk 2 w base 56 A c xs ∧ ∀ x ∈ xs, Own w base 5 x.A x.c x.l
theorem OwS.nil (w : World) (base : Nat) : OwS w base none 0 [] := ⟨[], rfl, Owns.nil w base _, fun x hx => (by cases hx)⟩
theorem OwS.keep {w w' : World} {base : Nat} {A : Option Addr} {c : Nat} {L : List Sct} (h : OwS w base A c L) (hb : Below w.heap.size w w') : OwS w' base A c L := by
  obtain ⟨xs, h1, h2, h3⟩ := h
  exact ⟨xs, h1, h2.keep hb, fun x hx => (h3 x hx).keep hb⟩
theorem OwS.rd {w : World} {base : Nat} {A : Option Addr} {c : Nat} {L : List Sct} (h : OwS w base A c L) : RdS w A c L := by
  obtain ⟨xs, h1, h2, h3⟩ := h
  exact ⟨xs, h1, h2.rd fk_len, fun x hx => (h3 x hx).rd⟩
theorem own_monob {w : World} {base base' : Nat} {e : TypeId} {A : Option Addr} {c : Nat} {l : List UInt8} (h : Own w base e A c l) (hb : base' ≤ base) : Own w base' e A c l := by
  obtain ⟨h0, h1⟩ := h
  refine ⟨h0, ?_⟩
  rcases h1 with h | ⟨g, cap, cur, hv, hbg, r⟩
  · exact .inl h
  · exact .inr ⟨g, cap, cur, hv, Nat.le_trans hb hbg, r⟩
theorem OwS.base {w : World} {base base' : Nat} {A : Option Addr} {c : Nat} {L : List Sct} (h : OwS w base A c L) (hb : base' ≤ base) : OwS w base' A c L := by
  obtain ⟨xs, h1, h2, h3⟩ := h
  exact ⟨xs, h1, h2.mono hb, fun x hx => own_monob (h3 x hx) hb⟩
theorem own_growns {w w' : World} {base base2 : Nat} {A A2 : Option Addr} {c c2 : Nat} {l : List UInt8} {xs : List Sx} (h : Own w base 5 A c l) (ho : Owns fk 2 w base2 56 A2 c2 xs) (hg : w.grownBy w' (Value.slice A2 xs.length c2).ownBlock) : Own w' base 5 A c l := by
  refine World.ownsRow.kept h hg ?_
  obtain ⟨_, h1⟩ := h
  rcases h1 with ⟨hv, _⟩ | ⟨g, cap, cur, hv, _, hg1, _⟩
  · rw [hv]; exact .inl rfl
  · refine .inr fun e => ?_
    rw [hv] at e
    obtain ⟨_, h2⟩ := ho
    rcases h2 with ⟨hv2, _⟩ | ⟨g2, cap2, cur2, hv2, _, hg2, _⟩
    · rw [hv2] at e; cases e
    · rw [hv2] at e
      simp only [Value.ownBlock, Option.some.injEq] at e
      subst e
      rw [hg1] at hg2
      simp at hg2
/-- append of one sector, with bytes of its own, onto such a slice. -/
theorem run_append_k {w1 : World} {base : Nat} {A : Option Addr} {c : Nat} {L : List Sct} (n : Nat) (hn : L.length = n) (hown : OwS w1 base A c L) (a : Int) {B : Option Addr} {m d : Nat} {y : List UInt8} (hm : y.length = m) (hrow : Own w1 base 5 B d y) (hlen : n + 1 ≤ 10000) (hbase : base ≤ w1.heap.size) :
    ∃ A' c' w', (Builtin.append_ #[22, 22] 22 #[.slice A n c, .slice (some ⟨w1.heap.size, 0, none⟩) 1 1]).run Try.prog (w1.alloc (.cells #[.int .i64 a, .slice B m d] 56)) = .ok (.slice A' (n + 1) c') w' ∧ OwS w' base A' c' (L ++ [⟨a, y⟩]) ∧ Below base w1 w' := by
  obtain ⟨xs, h1, h2, h3⟩ := hown
  obtain ⟨i0, hi0, hz0, hz1, hz2⟩ := info_parts info_Sc
  subst hn hm
  have hb0 : Below w1.heap.size w1 (w1.alloc (.cells #[.int .i64 a, .slice B y.length d] 56)) := (Below.refl _ _).alloc (Nat.le_refl _) _
  have hlit := (Owns.lit fk_len (by omega) w1 (base := base) 56 [⟨a, B, d, y⟩] hbase (by simp)).rd fk_len
  have h2' := h2.keep hb0
  have hl : L.length = xs.length := by rw [← h1, List.length_map]
  obtain ⟨A', c', w', hrun, k1, k2, k3⟩ := run_append_s (P := Try.prog) (ty := 22) fk_len (by omega) fk_one Try.underlying22 hi0 hz0 rfl hz1 hz2 (by omega) h2' hlit (by simp; omega) (by simp; omega)
  rw [← hl] at hrun k3
  refine ⟨A', c', w', hrun, ⟨xs ++ [⟨a, B, d, y⟩], by rw [List.map_append, h1]; rfl, k1, fun x hx => ?_⟩, (hb0.mono hbase).trans k2⟩
  rw [hl] at k3
  have ho := fun (x : Sx) (hx : Own w1 base 5 x.A x.c x.l) => own_growns (hx.keep hb0) h2' k3
  rcases List.mem_append.1 hx with hx | hx
  · exact ho x (h3 x hx)
  · obtain rfl := List.mem_singleton.1 hx
    exact ho ⟨a, B, d, y⟩ hrow
theorem wpList_append_k {w : World} {ops : Array Oper} {rest : List Oper} {o : Oper} {ac : Act} {Q : Exit → Act → World → Prop} (hgd : o.guard = none) (x0 x : Operand)
    (ho : o.op = .call { callee := .builtin .append, args := #[x0, x], argTypes := #[22, 22] }) (hty : o.type = 22)
    (base : Nat) (A : Option Addr) (n c : Nat) (L : List Sct) (hn : Hid (L.length = n)) (hs' : ac.eval x0 = .slice A n c) (a : Int) (y : List UInt8) (B : Option Addr) (m d : Nat) (hm : Hid (y.length = m)) (w1 : World) (hw : w = w1.alloc (.cells #[.int .i64 a, .slice B m d] 56)) (hown : OwS w1 base A c L) (hrow : Own w1 base 5 B d y) (g : Nat) (hg : g = w1.heap.size)
    (hx : ac.eval x = .slice (some ⟨g, 0, none⟩) 1 1) (hlen : n + 1 ≤ 10000) (hbase : base ≤ w1.heap.size)
    (h : ∀ A' c' w', OwS w' base A' c' (L ++ [⟨a, y⟩]) → Below base w1 w' → wpList Try.prog ops Q rest (ac.put o.dst (.slice A' (n + 1) c')) w') : wpList Try.prog ops Q (o :: rest) ac w := by
  refine wpList_plain hgd fun K hK => ?_
  subst hw hg
  obtain ⟨A', c', w', hrun, h2, h3⟩ := run_append_k n hn.out hown a hm.out hrow hlen hbase
  unfold Oper.wp execOp
  simp only [ho, hty, resolve, invoke, builtin, Sem.run_bind, Sem.run_pure, Result.andThen_ok, List.map_toArray, List.map_cons, List.map_nil, hs', hx, hrun]
  exact hK _ _ (h A' c' w' h2 h3)

theorem step_append_k {w : World} {ops : Array Oper} {o : Oper} {ac : Act} {K : Act → World → Prop} {Q : Exit → Act → World → Prop} {E : Prop} (hgd : o.guard = none) (x0 x : Operand)
    (ho : o.op = .call { callee := .builtin .append, args := #[x0, x], argTypes := #[22, 22] }) (hty : o.type = 22)
    (base : Nat) (A : Option Addr) (n c : Nat) (L : List Sct) (hn : Hid (L.length = n)) (hs' : ac.eval x0 = .slice A n c) (a : Int) (y : List UInt8) (B : Option Addr) (m d : Nat) (hm : Hid (y.length = m)) (w1 : World) (hw : w = w1.alloc (.cells #[.int .i64 a, .slice B m d] 56)) (hown : OwS w1 base A c L) (hrow : Own w1 base 5 B d y) (g : Nat) (hg : g = w1.heap.size)
    (hx : ac.eval x = .slice (some ⟨g, 0, none⟩) 1 1) (hlen : n + 1 ≤ 10000) (hbase : base ≤ w1.heap.size)
    (h : ∀ A' c' w', OwS w' base A' c' (L ++ [⟨a, y⟩]) → Below base w1 w' → K (ac.put o.dst (.slice A' (n + 1) c')) w') :
    if Region.wanted o (yielded ops ac.tmps) = true then Oper.wp Try.prog o ac w K Q else E := by
  have hwt : Region.wanted o (yielded ops ac.tmps) = true := by simp [Region.wanted, hgd]
  rw [if_pos hwt]
  subst hw hg
  obtain ⟨A', c', w', hrun, h2, h3⟩ := run_append_k n hn.out hown a hm.out hrow hlen hbase
  unfold Oper.wp execOp
  simp only [ho, hty, resolve, invoke, builtin, Sem.run_bind, Sem.run_pure, Result.andThen_ok, List.map_toArray, List.map_cons, List.map_nil, hs', hx, hrun]
  exact h A' c' w' h2 h3
/-- A slice of sectors of the call's own, whose bytes are its own too, or lay there at w0. -/
def MxS (w0 : World) (base : Nat) (w : World) (A : Option Addr) (c : Nat) (L : List Sct) : Prop := ∃ xs : List Sx, xs.map toS = L ∧ Owns fk 2 w base 56 A c xs ∧ (∀ x ∈ xs, Rd w0 x.A x.c x.l ∨ Own w base 5 x.A x.c x.l) ∧ Below w0.heap.size w0 w ∧ w0.heap.size ≤ base ∧ base ≤ w.heap.size
theorem MxS.nil (w0 : World) (base : Nat) (w : World) (hb : Below w0.heap.size w0 w) (h1 : w0.heap.size ≤ base) (h2 : base ≤ w.heap.size) : MxS w0 base w none 0 [] := ⟨[], rfl, Owns.nil w _ _, fun x hx => (by cases hx), hb, h1, h2⟩
theorem MxS.keep {w0 w w' : World} {base : Nat} {A : Option Addr} {c : Nat} {L : List Sct} (h : MxS w0 base w A c L) (hb : Below w.heap.size w w') : MxS w0 base w' A c L := by
  obtain ⟨xs, h1, h2, h3, h4, h5, h6⟩ := h
  exact ⟨xs, h1, h2.keep hb, fun x hx => (h3 x hx).imp id (fun h => h.keep hb), h4.trans (hb.mono h4.size), h5, Nat.le_trans h6 hb.size⟩
theorem MxS.be {w0 w : World} {base : Nat} {A : Option Addr} {c : Nat} {L : List Sct} (h : MxS w0 base w A c L) : Below w0.heap.size w0 w := h.choose_spec.2.2.2.1
theorem MxS.base_le {w0 w : World} {base : Nat} {A : Option Addr} {c : Nat} {L : List Sct} (h : MxS w0 base w A c L) : base ≤ w.heap.size := h.choose_spec.2.2.2.2.2
theorem MxS.rd {w0 w : World} {base : Nat} {A : Option Addr} {c : Nat} {L : List Sct} (h : MxS w0 base w A c L) : RdS w A c L := by
  obtain ⟨xs, h1, h2, h3, h4, _⟩ := h
  exact ⟨xs, h1, h2.rd fk_len, fun x hx => (h3 x hx).elim (fun h => h.keep h4) (fun h => h.rd)⟩
theorem run_append_m {w0 w1 : World} {base : Nat} {A : Option Addr} {c : Nat} {L : List Sct} (n : Nat) (hn : L.length = n) (hown : MxS w0 base w1 A c L) (a : Int) {B : Option Addr} {m d : Nat} {y : List UInt8} (hm : y.length = m) (hrow : Rd w0 B d y ∨ Own w1 base 5 B d y) (hlen : n + 1 ≤ 10000) :
    ∃ A' c' w', (Builtin.append_ #[22, 22] 22 #[.slice A n c, .slice (some ⟨w1.heap.size, 0, none⟩) 1 1]).run Try.prog (w1.alloc (.cells #[.int .i64 a, .slice B m d] 56)) = .ok (.slice A' (n + 1) c') w' ∧ MxS w0 base w' A' c' (L ++ [⟨a, y⟩]) ∧ Below base w1 w' := by
  obtain ⟨xs, h1, h2, h3, h4, h5, hbase⟩ := hown
  obtain ⟨i0, hi0, hz0, hz1, hz2⟩ := info_parts info_Sc
  subst hn hm
  have hb0 : Below w1.heap.size w1 (w1.alloc (.cells #[.int .i64 a, .slice B y.length d] 56)) := (Below.refl _ _).alloc (Nat.le_refl _) _
  have hlit := (Owns.lit fk_len (by omega) w1 (base := base) 56 [⟨a, B, d, y⟩] hbase (by simp)).rd fk_len
  have h2' := h2.keep hb0
  have hl : L.length = xs.length := by rw [← h1, List.length_map]
  obtain ⟨A', c', w', hrun, k1, k2, k3⟩ := run_append_s (P := Try.prog) (ty := 22) fk_len (by omega) fk_one Try.underlying22 hi0 hz0 rfl hz1 hz2 (by omega) h2' hlit (by simp; omega) (by simp; omega)
  rw [← hl] at hrun k3
  have b2 := (hb0.mono hbase).trans k2
  refine ⟨A', c', w', hrun, ⟨xs ++ [⟨a, B, d, y⟩], by rw [List.map_append, h1]; rfl, k1, fun x hx => ?_, h4.trans (b2.mono h5), h5, Nat.le_trans hbase b2.size⟩, b2⟩
  rw [hl] at k3
  have ho := fun (x : Sx) (hx : Own w1 base 5 x.A x.c x.l) => own_growns (hx.keep hb0) h2' k3
  rcases List.mem_append.1 hx with hx | hx
  · exact (h3 x hx).imp id (ho x)
  · obtain rfl := List.mem_singleton.1 hx
    exact hrow.imp id (ho ⟨a, B, d, y⟩)
theorem wpList_append_m {w : World} {ops : Array Oper} {rest : List Oper} {o : Oper} {ac : Act} {Q : Exit → Act → World → Prop} (hgd : o.guard = none) (x0 x : Operand)
    (ho : o.op = .call { callee := .builtin .append, args := #[x0, x], argTypes := #[22, 22] }) (hty : o.type = 22)
    (w0 : World) (base : Nat) (A : Option Addr) (n c : Nat) (L : List Sct) (hn : Hid (L.length = n)) (hs' : ac.eval x0 = .slice A n c) (a : Int) (y : List UInt8) (B : Option Addr) (m d : Nat) (hm : Hid (y.length = m)) (w1 : World) (hw : w = w1.alloc (.cells #[.int .i64 a, .slice B m d] 56)) (hown : MxS w0 base w1 A c L) (hrow : Rd w0 B d y ∨ Own w1 base 5 B d y) (g : Nat) (hg : g = w1.heap.size)
    (hx : ac.eval x = .slice (some ⟨g, 0, none⟩) 1 1) (hlen : n + 1 ≤ 10000)
    (h : ∀ A' c' w', MxS w0 base w' A' c' (L ++ [⟨a, y⟩]) → Below base w1 w' → wpList Try.prog ops Q rest (ac.put o.dst (.slice A' (n + 1) c')) w') : wpList Try.prog ops Q (o :: rest) ac w := by
  refine wpList_plain hgd fun K hK => ?_
  subst hw hg
  obtain ⟨A', c', w', hrun, h2, h3⟩ := run_append_m n hn.out hown a hm.out hrow hlen
  unfold Oper.wp execOp
  simp only [ho, hty, resolve, invoke, builtin, Sem.run_bind, Sem.run_pure, Result.andThen_ok, List.map_toArray, List.map_cons, List.map_nil, hs', hx, hrun]
  exact hK _ _ (h A' c' w' h2 h3)

theorem made_0 (n : Nat) : madeCells #[.int .u8 0] n = (u8s (List.replicate n 0)).toArray := by
  refine Array.ext (by simp [madeCells, u8s]) fun k h1 h2 => ?_
  simp [madeCells, u8s, Nat.mod_one]
/-- 128 zeros made. -/
theorem make_128 (W : World) : (Instr.makeSlice 30 (.int .i64 128) (.int .i64 128)).run Try.prog W = .ok (.slice (some ⟨W.heap.size, 0, none⟩) 128 128) (W.alloc (.cells (u8s (List.replicate 128 0)).toArray 5)) := by
  obtain ⟨i, hi, hz, hs, hb⟩ := info_parts info_u8
  have h := run_make (P := Try.prog) W 30 5 i _ Try.underlying30 hi hz .i64 .i64 128 128 (by omega) (Int.le_refl _) (by rw [hb]; omega) (by omega)
  have e : madeCells (Value.int .u8 0).cells (Int.toNat 128 * 1) = (u8s (List.replicate 128 0)).toArray := by
    have ec : (Value.int .u8 0).cells = #[.int .u8 0] := by simp [go_sem]
    rw [ec]
    exact made_0 128
  rw [hs, e] at h
  exact h

/-! ### A disk in a box -/
theorem range_keep {w w' : World} {b o : Nat} {cs : List Value} (h : w.rangeAt b o cs) (hb : Below w.heap.size w w') : w'.rangeAt b o cs := fun j v hv => Go.Proofs.Ytofnjdkfhboapaa.keep hb (h j v hv)
theorem range_new (w : World) (cs : Array Value) (t : TypeId) : (w.alloc (.cells cs t)).rangeAt w.heap.size 0 cs.toList := fun j v hv => by
  rw [Nat.zero_add, cell_of_row _ _ _ cs t (0, 0) (heap_alloc_last w _)]
  simpa using hv
def BoxK (W : World) (b : Nat) (d : Dsk) (A : Option Addr) (n c : Nat) : Prop := W.rangeAt b 0 ([.slice A n c, .int .i64 d.st, .int .i64 d.lf, .bool d.dd])
theorem BoxK.keep {W W' : World} {b : Nat} {d : Dsk} {A : Option Addr} {n c : Nat} (h : BoxK W b d A n c) (hb : Below W.heap.size W W') : BoxK W' b d A n c := range_keep h hb
theorem boxK_new (w : World) (d : Dsk) (A : Option Addr) (n c : Nat) (t : TypeId) : BoxK (w.alloc (.cells (#[.slice A n c, .int .i64 d.st, .int .i64 d.lf, .bool d.dd]) t)) w.heap.size d A n c := range_new w _ t
theorem BoxK.sl {W : World} {b : Nat} {d : Dsk} {A : Option Addr} {n c : Nat} (h : BoxK W b d A n c) : W.cell? ⟨b, 0, none⟩ = some (.slice A n c) := h 0 _ rfl
theorem BoxK.s {W : World} {b : Nat} {d : Dsk} {A : Option Addr} {n c : Nat} (h : BoxK W b d A n c) : W.cell? ⟨b, 1, none⟩ = some (.int .i64 d.st) := h 1 _ rfl
theorem BoxK.l {W : World} {b : Nat} {d : Dsk} {A : Option Addr} {n c : Nat} (h : BoxK W b d A n c) : W.cell? ⟨b, 2, none⟩ = some (.int .i64 d.lf) := h 2 _ rfl
theorem BoxK.d {W : World} {b : Nat} {d : Dsk} {A : Option Addr} {n c : Nat} (h : BoxK W b d A n c) : W.cell? ⟨b, 3, none⟩ = some (.bool d.dd) := h 3 _ rfl
end Go.Proofs.Ytofnjdkfhboapaa
