/-
  The words of layer 10: mail in a box; operations in a slice, each with its row; such as came in, and such as are the call's own.
-/
import Derived.Test.YtdhfnacdjjdijaaGreatMlM
import Derived.Test.YtdhfnacdjjdijaaGreatMlS
import Derived.Test.YtdhfnacdjjdijaaGreatOF
import Derived.Test.YtdhfnacdjjdijaaGreatOT
import Derived.Test.YtdhfnacdjjdijaaGreatOS
namespace Go.Proofs.YtdhfnacdjjdijaaGreat
open Go.RowKit Go.ChangeShapes Go.WideShapes Go.ChangeAt
set_option linter.unusedVariables false
set_option linter.unusedSimpArgs false

/-! ### Operations in a slice -/
/-- An operation as it lies: with its row's place and room. -/
structure Opx where
  o : Opd
  A : Option Addr
  c : Nat
def fx (x : Opx) : List Value := [.int .u8 (x.o).kd, .int .u8 (x.o).l, .int .u32 (x.o).c, .int .u8 (x.o).k, .int .i64 (x.o).s, .int .u8 (x.o).fl, .int .u32 (x.o).fc, .int .u8 (x.o).fk, .int .i64 (x.o).fn, .int .i64 (x.o).fm, .int .u8 (x.o).al, .int .u32 (x.o).ac, .int .u8 (x.o).ak, .int .i64 (x.o).an, .int .u8 (x.o).tl, .int .u32 (x.o).tc, .slice (x.A) (x.o.row.length) (x.c)]
theorem fx_len (x : Opx) : (fx x).length = 17 := rfl
theorem fx_one (x : Opx) : ∀ u ∈ fx x, u.oneCell' = true := fun u hu => by
  simp only [fx, List.mem_cons, List.not_mem_nil, or_false] at hu
  rcases hu with rfl | rfl | rfl | rfl | rfl | rfl | rfl | rfl | rfl | rfl | rfl | rfl | rfl | rfl | rfl | rfl | rfl <;> rfl
theorem info_Op : (Tryz.prog.info? 58).map (fun i => (i.zero, i.size, i.bytes)) = some (some (.agg #[.int .u8 0, .int .u8 0, .int .u32 0, .int .u8 0, .int .i64 0, .int .u8 0, .int .u32 0, .int .u8 0, .int .i64 0, .int .i64 0, .int .u8 0, .int .u32 0, .int .u8 0, .int .i64 0, .int .u8 0, .int .u32 0, .slice none 0 0]), 17, 112) := by kernel_rfl

def RdO (w : World) (A : Option Addr) (c : Nat) (l : List Opd) : Prop := ∃ xs : List Opx, xs.map (·.o) = l ∧ Rds fx w A c xs ∧ ∀ x ∈ xs, Ri w x.A x.c x.o.row
theorem RdO.keep {w w' : World} (hb : Below w.heap.size w w') {A : Option Addr} {c : Nat} {l : List Opd} (h : RdO w A c l) : RdO w' A c l := by
  obtain ⟨xs, h1, h2, h3⟩ := h
  exact ⟨xs, h1, h2.keep hb, fun x hx => (h3 x hx).keep hb⟩
theorem RdO.nil (w : World) : RdO w none 0 [] := ⟨[], rfl, Rds.nil w, fun x hx => by cases hx⟩
theorem RdO.alloc {w : World} (o : Obj) {A : Option Addr} {c : Nat} {l : List Opd} (h : RdO w A c l) : RdO (w.alloc o) A c l := h.keep ((Below.refl _ _).alloc (Nat.le_refl _) _)
theorem RdO.len {w : World} {A : Option Addr} {c : Nat} {l : List Opd} (h : RdO w A c l) : l.length ≤ c := by
  obtain ⟨xs, rfl, h2, h3⟩ := h
  rw [List.length_map]; exact h2.1
theorem RdO.cap {w : World} {A : Option Addr} {c : Nat} {l : List Opd} (h : RdO w A c l) : c ≤ 9223372036854775807 := by
  obtain ⟨xs, rfl, h2, h3⟩ := h
  exact h2.2.1
theorem RdO.at_ {w : World} {A : Option Addr} {c : Nat} {l : List Opd} (h : RdO w A c l) (hp : 0 < l.length) :
    ∃ b o, A = some ⟨b, o, none⟩ ∧ ∀ j (hj : j < l.length), ∃ B d, w.rangeAt b (o + j * 17) ([.int .u8 (l[j]).kd, .int .u8 (l[j]).l, .int .u32 (l[j]).c, .int .u8 (l[j]).k, .int .i64 (l[j]).s, .int .u8 (l[j]).fl, .int .u32 (l[j]).fc, .int .u8 (l[j]).fk, .int .i64 (l[j]).fn, .int .i64 (l[j]).fm, .int .u8 (l[j]).al, .int .u32 (l[j]).ac, .int .u8 (l[j]).ak, .int .i64 (l[j]).an, .int .u8 (l[j]).tl, .int .u32 (l[j]).tc, .slice B ((l[j]).row.length) d]) ∧ Ri w B d l[j].row := by
  obtain ⟨xs, rfl, h2, h3⟩ := h
  rw [List.length_map] at hp
  obtain ⟨b, o, hA, hc⟩ := h2.2.2 hp
  refine ⟨b, o, hA, fun j hj => ?_⟩
  have hj' : j < xs.length := by rwa [List.length_map] at hj
  have e : (xs.map (·.o))[j] = xs[j].o := by simp
  rw [e]
  refine ⟨xs[j].A, xs[j].c, fun i v hv => ?_, h3 _ (List.getElem_mem hj')⟩
  have hi : i < 17 := (List.getElem?_eq_some_iff.1 hv).1
  rw [Nat.add_assoc]
  exact Rds.each (c := c) fx_len hc j hj' i hi v hv
theorem RdO.none {w : World} {c : Nat} {l : List Opd} (h : RdO w none c l) : l = [] := by
  rcases Nat.eq_zero_or_pos l.length with h0 | h0
  · exact List.eq_nil_of_length_eq_zero h0
  · obtain ⟨b, o, hA, _⟩ := h.at_ h0
    cases hA

theorem range_keep {w w' : World} {b o : Nat} {cs : List Value} (h : w.rangeAt b o cs) (hb : Below w.heap.size w w') : w'.rangeAt b o cs := fun j v hv => Go.Proofs.YtdhfnacdjjdijaaGreat.keep hb (h j v hv)

/-- One operation loaded out of a slice. -/
theorem wpList_load_e {ops : Array Oper} {rest : List Oper} {op : Oper} {a : Act} {W : World} {Q : Exit → Act → World → Prop} (hwt : Region.wanted op (yielded ops a.tmps) = true) (x : Operand) (ho : op.op = .load 58 x)
    (b off : Nat) (hx : a.eval x = .pointer (some ⟨b, off, none⟩)) {o : Opd} {A : Option Addr} {n c : Nat} (hR : W.rangeAt b off ([.int .u8 o.kd, .int .u8 o.l, .int .u32 o.c, .int .u8 o.k, .int .i64 o.s, .int .u8 o.fl, .int .u32 o.fc, .int .u8 o.fk, .int .i64 o.fn, .int .i64 o.fm, .int .u8 o.al, .int .u32 o.ac, .int .u8 o.ak, .int .i64 o.an, .int .u8 o.tl, .int .u32 o.tc, .slice A n c])) (h : wpList Tryz.prog ops Q rest (a.put op.dst (.agg #[.int .u8 o.kd, .int .u8 o.l, .int .u32 o.c, .int .u8 o.k, .int .i64 o.s, .int .u8 o.fl, .int .u32 o.fc, .int .u8 o.fk, .int .i64 o.fn, .int .i64 o.fm, .int .u8 o.al, .int .u32 o.ac, .int .u8 o.ak, .int .i64 o.an, .int .u8 o.tl, .int .u32 o.tc, .slice A n c])) W) : wpList Tryz.prog ops Q (op :: rest) a W := by
  refine wpList_step fun K hK => ?_
  rw [if_pos hwt]
  exact wp_load_mid 58 x ho b off hx _ _ hR Tryz.underlying58 rfl info_O (hK _ _ h)

/-- Operations of the call's own, their rows too. -/
def OwO (w : World) (base : Nat) (A : Option Addr) (c : Nat) (l : List Opd) : Prop := ∃ xs : List Opx, xs.map (·.o) = l ∧ Owns fx 17 w base 58 A c xs ∧ ∀ x ∈ xs, OwnI w base 21 x.A x.c x.o.row
theorem OwO.nil (w : World) (base : Nat) : OwO w base none 0 [] := ⟨[], rfl, Owns.nil w base _, fun x hx => by cases hx⟩
theorem OwO.keep {w w' : World} {base : Nat} {A : Option Addr} {c : Nat} {l : List Opd} (h : OwO w base A c l) (hb : Below w.heap.size w w') : OwO w' base A c l := by
  obtain ⟨xs, h1, h2, h3⟩ := h
  exact ⟨xs, h1, h2.keep hb, fun x hx => (h3 x hx).keep hb⟩
theorem OwO.rd {w : World} {base : Nat} {A : Option Addr} {c : Nat} {l : List Opd} (h : OwO w base A c l) : RdO w A c l := by
  obtain ⟨xs, h1, h2, h3⟩ := h
  exact ⟨xs, h1, h2.rd fx_len, fun x hx => (h3 x hx).ri⟩
theorem OwO.base {w : World} {base base' : Nat} {A : Option Addr} {c : Nat} {l : List Opd} (h : OwO w base A c l) (hb : base' ≤ base) : OwO w base' A c l := by
  obtain ⟨xs, h1, h2, h3⟩ := h
  exact ⟨xs, h1, h2.mono hb, fun x hx => (h3 x hx).base hb⟩

/-- A row stays where something is put behind operations: their blocks are of other types. -/
theorem OwnI.grown {w w' : World} {base base2 : Nat} {A A2 : Option Addr} {c c2 : Nat} {l : List Int} {xs : List Opx} (h : OwnI w base 21 A c l) (ho : Owns fx 17 w base2 58 A2 c2 xs) (hg : w.grownBy w' (Value.slice A2 xs.length c2).ownBlock) : OwnI w' base 21 A c l := by
  refine ⟨World.ownsRow.kept h.1 hg ?_, h.2⟩
  obtain ⟨⟨_, h1⟩, _⟩ := h
  rcases h1 with ⟨hv, _⟩ | ⟨g, cap, cur, hv, _, hg1, _⟩
  · rw [hv]; exact .inl rfl
  · refine .inr fun e => ?_
    rw [hv] at e
    obtain ⟨_, h2⟩ := ho
    rcases h2 with ⟨hv2, _⟩ | ⟨g2, cap2, cur2, hv2, _, hg2, _⟩
    · rw [hv2] at e; cases e
    · rw [hv2] at e
      simp only [Value.ownBlock, Option.some.injEq] at e
      subst e
      rw [hg1] at hg2
      simp at hg2

/-- append of one operation, in a block of its own, onto such a slice. -/
theorem wpList_append_o {w : World} {ops : Array Oper} {rest : List Oper} {o : Oper} {a : Act} {Q : Exit → Act → World → Prop} (hgd : o.guard = none) (x0 x : Operand)
    (ho : o.op = .call { callee := .builtin .append, args := #[x0, x], argTypes := #[25, 25] })
    (base : Nat) (A : Option Addr) (n c : Nat) (l : List Opd) (hn : Hid (l.length = n)) (hs' : a.eval x0 = .slice A n c) (y : Opd) (B : Option Addr) (m d : Nat) (hm : Hid (y.row.length = m)) (w1 : World) (hw : w = w1.alloc (.cells (#[.int .u8 y.kd, .int .u8 y.l, .int .u32 y.c, .int .u8 y.k, .int .i64 y.s, .int .u8 y.fl, .int .u32 y.fc, .int .u8 y.fk, .int .i64 y.fn, .int .i64 y.fm, .int .u8 y.al, .int .u32 y.ac, .int .u8 y.ak, .int .i64 y.an, .int .u8 y.tl, .int .u32 y.tc, .slice B m d]) 58)) (hown : OwO w1 base A c l) (hrow : OwnI w1 base 21 B d y.row) (g : Nat) (hg : g = w1.heap.size)
    (hx : a.eval x = .slice (some ⟨g, 0, none⟩) 1 1) (hlen : n + 1 ≤ 10000) (hbase : base ≤ w1.heap.size)
    (h : ∀ A' c' w', OwO w' base A' c' (l ++ [y]) → Below base w1 w' → wpList Tryz.prog ops Q rest (a.put o.dst (.slice A' (n + 1) c')) w') : wpList Tryz.prog ops Q (o :: rest) a w := by
  obtain ⟨xs, h1, h2, h3⟩ := hown
  obtain ⟨i0, hi0, hz0, hz1, hz2⟩ := info_parts info_Op
  have hn' := hn.out
  have hm' := hm.out
  subst hw hg hm'
  have hb0 : Below w1.heap.size w1 (w1.alloc (.cells (#[.int .u8 y.kd, .int .u8 y.l, .int .u32 y.c, .int .u8 y.k, .int .i64 y.s, .int .u8 y.fl, .int .u32 y.fc, .int .u8 y.fk, .int .i64 y.fn, .int .i64 y.fm, .int .u8 y.al, .int .u32 y.ac, .int .u8 y.ak, .int .i64 y.an, .int .u8 y.tl, .int .u32 y.tc, .slice B (y.row.length) d]) 58)) := (Below.refl _ _).alloc (Nat.le_refl _) _
  have hlit := (Owns.lit fx_len (by omega) w1 (base := base) 58 [⟨y, B, d⟩] hbase (by simp)).rd fx_len
  refine wpList_append_s hgd x0 x 25 ho base 58 fx_len (by omega) fx_one Tryz.underlying25 hi0 hz0 rfl hz1 hz2 (by omega) A n c xs (hid (by rw [← hn', ← h1, List.length_map])) hs' (h2.keep hb0) _ 1 1 [⟨y, B, d⟩] (hid rfl) hx hlit (by omega) (by simp; omega) ?_
  intro A' c' w' k1 k2 k3
  refine h A' c' w' ⟨xs ++ [⟨y, B, d⟩], by rw [List.map_append, h1]; rfl, k1, fun x hx => ?_⟩ ((hb0.mono hbase).trans k2)
  have h2' := h2.keep hb0
  rcases List.mem_append.1 hx with hx | hx
  · exact ((h3 x hx).keep hb0).grown h2' k3
  · obtain rfl := List.mem_singleton.1 hx
    exact (hrow.keep hb0).grown h2' k3

/-! ### Mail in a box -/
structure BoxM (W : World) (b : Nat) (m : Mld) (A : Option Addr) (n c : Nat) : Prop where
  c0 : W.cell? ⟨b, 0, none⟩ = some (.int .u8 m.kd)
  c1 : W.cell? ⟨b, 1, none⟩ = some (.int .i64 m.us)
  c2 : W.cell? ⟨b, 2, none⟩ = some (.int .i64 m.se)
  c3 : W.cell? ⟨b, 3, none⟩ = some (.int .i64 m.co)
  c4 : W.cell? ⟨b, 4, none⟩ = some (.int .i64 m.fr)
  c5 : W.cell? ⟨b, 5, none⟩ = some (.int .i64 m.tt)
  c6 : W.cell? ⟨b, 6, none⟩ = some (.int .u8 m.ak)
  c7 : W.cell? ⟨b, 7, none⟩ = some (.int .i64 m.t0)
  c8 : W.cell? ⟨b, 8, none⟩ = some (.int .i64 m.t1)
  c9 : W.cell? ⟨b, 9, none⟩ = some (.int .i64 m.t2)
  c10 : W.cell? ⟨b, 10, none⟩ = some (.int .i64 m.t3)
  c11 : W.cell? ⟨b, 11, none⟩ = some (.slice A n c)
theorem BoxM.keep {W W' : World} {b : Nat} {m : Mld} {A : Option Addr} {n c : Nat} (h : BoxM W b m A n c) (hb : Below W.heap.size W W') : BoxM W' b m A n c :=
  ⟨Go.Proofs.YtdhfnacdjjdijaaGreat.keep hb h.c0, Go.Proofs.YtdhfnacdjjdijaaGreat.keep hb h.c1, Go.Proofs.YtdhfnacdjjdijaaGreat.keep hb h.c2, Go.Proofs.YtdhfnacdjjdijaaGreat.keep hb h.c3, Go.Proofs.YtdhfnacdjjdijaaGreat.keep hb h.c4, Go.Proofs.YtdhfnacdjjdijaaGreat.keep hb h.c5, Go.Proofs.YtdhfnacdjjdijaaGreat.keep hb h.c6, Go.Proofs.YtdhfnacdjjdijaaGreat.keep hb h.c7, Go.Proofs.YtdhfnacdjjdijaaGreat.keep hb h.c8, Go.Proofs.YtdhfnacdjjdijaaGreat.keep hb h.c9, Go.Proofs.YtdhfnacdjjdijaaGreat.keep hb h.c10, Go.Proofs.YtdhfnacdjjdijaaGreat.keep hb h.c11⟩
theorem boxM_new (w : World) (m : Mld) (A : Option Addr) (n c : Nat) (t : TypeId) : BoxM (w.alloc (.cells (#[.int .u8 m.kd, .int .i64 m.us, .int .i64 m.se, .int .i64 m.co, .int .i64 m.fr, .int .i64 m.tt, .int .u8 m.ak, .int .i64 m.t0, .int .i64 m.t1, .int .i64 m.t2, .int .i64 m.t3, .slice A n c]) t)) w.heap.size m A n c := by
  constructor <;> simp [go_sem]
theorem BoxM.range {W : World} {b : Nat} {m : Mld} {A : Option Addr} {n c : Nat} (h : BoxM W b m A n c) : W.rangeAt b 0 ([.int .u8 m.kd, .int .i64 m.us, .int .i64 m.se, .int .i64 m.co, .int .i64 m.fr, .int .i64 m.tt, .int .u8 m.ak, .int .i64 m.t0, .int .i64 m.t1, .int .i64 m.t2, .int .i64 m.t3, .slice A n c]) := fun j v hv => by
  match j, hv with
  | 0, hv => cases hv; exact h.c0
  | 1, hv => cases hv; exact h.c1
  | 2, hv => cases hv; exact h.c2
  | 3, hv => cases hv; exact h.c3
  | 4, hv => cases hv; exact h.c4
  | 5, hv => cases hv; exact h.c5
  | 6, hv => cases hv; exact h.c6
  | 7, hv => cases hv; exact h.c7
  | 8, hv => cases hv; exact h.c8
  | 9, hv => cases hv; exact h.c9
  | 10, hv => cases hv; exact h.c10
  | 11, hv => cases hv; exact h.c11
  | j + 12, hv => simp at hv
theorem boxM_of {W : World} {b : Nat} {m : Mld} {A : Option Addr} {n c : Nat} (h : W.rangeAt b 0 ([.int .u8 m.kd, .int .i64 m.us, .int .i64 m.se, .int .i64 m.co, .int .i64 m.fr, .int .i64 m.tt, .int .u8 m.ak, .int .i64 m.t0, .int .i64 m.t1, .int .i64 m.t2, .int .i64 m.t3, .slice A n c])) : BoxM W b m A n c :=
  ⟨h 0 _ rfl, h 1 _ rfl, h 2 _ rfl, h 3 _ rfl, h 4 _ rfl, h 5 _ rfl, h 6 _ rfl, h 7 _ rfl, h 8 _ rfl, h 9 _ rfl, h 10 _ rfl, h 11 _ rfl⟩
theorem info_M : (Tryz.prog.info? 27).map (·.size) = some 12 := by kernel_rfl
theorem info_told : (Tryz.prog.info? 24).map (·.size) = some 4 := by kernel_rfl
theorem wpList_load_m {ops : Array Oper} {rest : List Oper} {op : Oper} {a : Act} {W : World} {Q : Exit → Act → World → Prop} (hwt : Region.wanted op (yielded ops a.tmps) = true) (x : Operand) (ho : op.op = .load 27 x)
    (b : Nat) (hx : a.eval x = .pointer (some ⟨b, 0, none⟩)) {m : Mld} {A : Option Addr} {n c : Nat} (hB : BoxM W b m A n c) (h : wpList Tryz.prog ops Q rest (a.put op.dst (.agg #[.int .u8 m.kd, .int .i64 m.us, .int .i64 m.se, .int .i64 m.co, .int .i64 m.fr, .int .i64 m.tt, .int .u8 m.ak, .int .i64 m.t0, .int .i64 m.t1, .int .i64 m.t2, .int .i64 m.t3, .slice A n c])) W) : wpList Tryz.prog ops Q (op :: rest) a W := by
  refine wpList_step fun K hK => ?_
  rw [if_pos hwt]
  exact wp_load_mid 27 x ho b 0 hx _ _ hB.range Tryz.underlying27 rfl info_M (hK _ _ h)
theorem yields_load_m {ops : Array Oper} {S : World → Prop} {op : Oper} {a : Act} (hw : Region.wanted op (yielded ops a.tmps) = true) (x : Operand) (ho : op.op = .load 27 x)
    (b : Nat) (hx : a.eval x = .pointer (some ⟨b, 0, none⟩)) {m : Mld} {A : Option Addr} {n c : Nat} (hS : ∀ w, S w → BoxM w b m A n c) : YieldsIf Tryz.prog ops S op (.agg #[.int .u8 m.kd, .int .i64 m.us, .int .i64 m.se, .int .i64 m.co, .int .i64 m.fr, .int .i64 m.tt, .int .u8 m.ak, .int .i64 m.t0, .int .i64 m.t1, .int .i64 m.t2, .int .i64 m.t3, .slice A n c]) a :=
  yieldsIf_load_mid hw 27 x ho b 0 hx _ _ (fun w h => (hS w h).range) Tryz.underlying27 rfl info_M
/-- The four counts, loaded as an array. -/
theorem BoxM.told {W : World} {b : Nat} {m : Mld} {A : Option Addr} {n c : Nat} (h : BoxM W b m A n c) : W.rangeAt b 7 [.int .i64 m.t0, .int .i64 m.t1, .int .i64 m.t2, .int .i64 m.t3] := fun j v hv => by
  match j, hv with
  | 0, hv => cases hv; exact h.c7
  | 1, hv => cases hv; exact h.c8
  | 2, hv => cases hv; exact h.c9
  | 3, hv => cases hv; exact h.c10
  | j + 4, hv => simp at hv
theorem wpList_load_t {ops : Array Oper} {rest : List Oper} {op : Oper} {a : Act} {W : World} {Q : Exit → Act → World → Prop} (hwt : Region.wanted op (yielded ops a.tmps) = true) (x : Operand) (ho : op.op = .load 24 x)
    (b : Nat) (hx : a.eval x = .pointer (some ⟨b, 7, none⟩)) {m : Mld} {A : Option Addr} {n c : Nat} (hB : BoxM W b m A n c) (h : wpList Tryz.prog ops Q rest (a.put op.dst (.agg #[.int .i64 m.t0, .int .i64 m.t1, .int .i64 m.t2, .int .i64 m.t3])) W) : wpList Tryz.prog ops Q (op :: rest) a W := by
  refine wpList_step fun K hK => ?_
  rw [if_pos hwt]
  exact wp_load_mid 24 x ho b 7 hx _ _ hB.told Tryz.underlying24 rfl info_told (hK _ _ h)

/-- There is room for mail in a block. -/
def ThereM (W : World) (b : Nat) : Prop := W.there b 0 12
theorem ThereM.keep {W W' : World} {b : Nat} (h : ThereM W b) (hb : Below W.heap.size W W') : ThereM W' b := there_keep h hb
theorem thereM_new (w : World) (cs : Array Value) (hc : cs.size = 12) (t : TypeId) : ThereM (w.alloc (.cells cs t)) w.heap.size := there_new w cs t 12 hc
theorem ThereM.at_ {W : World} {b : Nat} (h : ThereM W b) (j : Nat) (hj : j < 12) : W.frozen? ⟨b, j, none⟩ = false := by
  have := (h j hj).2
  rwa [Nat.zero_add] at this
theorem ThereM.lt {W : World} {b : Nat} (h : ThereM W b) : b < W.heap.size := by
  obtain ⟨u, hu⟩ := Option.isSome_iff_exists.1 (h 0 (by omega)).1
  exact World.block_lt_of_cell? W _ hu
theorem wpList_store_m {ops : Array Oper} {rest : List Oper} {op : Oper} {a : Act} {W : World} {Q : Exit → Act → World → Prop} (hgd : op.guard = none) (x y : Operand) (ho : op.op = .store 27 x y)
    (b : Nat) (hx : a.eval x = .pointer (some ⟨b, 0, none⟩)) (m : Mld) (A : Option Addr) (n c : Nat) (hy : a.eval y = .agg #[.int .u8 m.kd, .int .i64 m.us, .int .i64 m.se, .int .i64 m.co, .int .i64 m.fr, .int .i64 m.tt, .int .u8 m.ak, .int .i64 m.t0, .int .i64 m.t1, .int .i64 m.t2, .int .i64 m.t3, .slice A n c]) (ht : ThereM W b) (base : Nat) (hb : base ≤ b)
    (h : ∀ W', BoxM W' b m A n c → ThereM W' b → Below base W W' → (∀ k, k ≠ b → W'.heap[k]? = W.heap[k]?) → W'.heap.size = W.heap.size → wpList Tryz.prog ops Q rest (a.put op.dst undef) W') : wpList Tryz.prog ops Q (op :: rest) a W := by
  refine wpList_store_mid hgd 27 x y ho b 0 _ hx hy ht info_M (by simp [Value.oneCell']) ?_
  refine h _ (boxM_of (World.rangeAt_setCells_same W b 0 _ ht)) (World.there_setCells ht b 0 _) (below_setCells b base hb _ _ _) (fun k hk => heap_setCells b _ _ _ k hk) (size_setCells b _ _ _)
theorem BoxM.other {W W' : World} {b : Nat} (hh : ∀ k, k ≠ b → W'.heap[k]? = W.heap[k]?) {g : Nat} (hg : g ≠ b) {m : Mld} {A : Option Addr} {n c : Nat} (h : BoxM W g m A n c) : BoxM W' g m A n c :=
  boxM_of fun j v hv => cell_other hh (p := ⟨g, 0 + j, none⟩) hg (h.range j v hv)
theorem ThereM.other {W W' : World} {b : Nat} (hh : ∀ k, k ≠ b → W'.heap[k]? = W.heap[k]?) {g : Nat} (hg : g ≠ b) (h : ThereM W g) : ThereM W' g := there_other h hh hg
theorem results_m {fn : Func} {p : Tmp} (h : fn.results = #[.cell p 27]) {tmps : Array Value} {w : World} {b : Nat} (hp : tmps.getD p undef = .pointer (some ⟨b, 0, none⟩)) {m : Mld} {A : Option Addr} {n c : Nat} (bx : BoxM w b m A n c) : (results fn tmps).run Tryz.prog w = .ok (.agg #[.int .u8 m.kd, .int .i64 m.us, .int .i64 m.se, .int .i64 m.co, .int .i64 m.fr, .int .i64 m.tt, .int .u8 m.ak, .int .i64 m.t0, .int .i64 m.t1, .int .i64 m.t2, .int .i64 m.t3, .slice A n c]) w := by
  have hl := run_loadVar_mid (P := Tryz.prog) w b 0 27 _ _ bx.range Tryz.underlying27 rfl info_M
  simp only [results, h]
  rw [Array.getD_eq_getD_getElem?] at hp
  simp [Sem.run_bind, hp, asAddr, hl]
theorem results_m2 {fn : Func} {p u : Tmp} (h : fn.results = #[.cell p 27, .tmp u]) {tmps : Array Value} {w : World} {b : Nat} (hp : tmps.getD p undef = .pointer (some ⟨b, 0, none⟩)) {m : Mld} {A : Option Addr} {n c : Nat} (bx : BoxM w b m A n c) : (results fn tmps).run Tryz.prog w = .ok (.tuple #[.agg #[.int .u8 m.kd, .int .i64 m.us, .int .i64 m.se, .int .i64 m.co, .int .i64 m.fr, .int .i64 m.tt, .int .u8 m.ak, .int .i64 m.t0, .int .i64 m.t1, .int .i64 m.t2, .int .i64 m.t3, .slice A n c], tmps.getD u undef]) w := by
  have hl := run_loadVar_mid (P := Tryz.prog) w b 0 27 _ _ bx.range Tryz.underlying27 rfl info_M
  simp only [results, h]
  rw [Array.getD_eq_getD_getElem?] at hp
  simp [Sem.run_bind, hp, asAddr, hl]
end Go.Proofs.YtdhfnacdjjdijaaGreat
