/-
  Words for slices whose elements take one cell each, over any program: what a slice reads as ('RdV'; of int32 'Ri', of bool 'Rb'); a slice of the call's own ('OwnV', 'OwnI'); append of one onto the other; such slices that came in.
-/
import Derived.Test.YtofnjdkfhboapaaBase
import Derived.OpenShut
import Derived.Laws.IdiomStrings
import Derived.Laws.BytesArg
import Derived.Laws.OwnMore
import Derived.Maps.AppendAt
import Derived.Deep.AppendLies
import Derived.OwnWalk
import Derived.ArgAppend
import Derived.Lib.AppendStr
import Derived.Laws.MakeOwn
namespace Go.Proofs.Ytofnjdkfhboapaa
open Go.RowKit Go.ChangeShapes Go.WideShapes Go.ChangeAt
set_option linter.unusedVariables false

/-- The slice '.slice A l.length c' reads as the bytes l. -/
def Rd (w : World) (A : Option Addr) (c : Nat) (l : List UInt8) : Prop :=
  l.length ≤ c ∧ c ≤ maxLen ∧ (0 < l.length → ∃ b o, A = some ⟨b, o, none⟩ ∧ ∀ j (h : j < l.length), w.cell? ⟨b, o + j, none⟩ = some (.int .u8 (l[j].toNat : Int)))

theorem Rd.nil (w : World) : Rd w none 0 [] := ⟨Nat.le_refl _, Nat.zero_le _, fun h => absurd h (by simp)⟩
theorem Rd.len {w : World} {A : Option Addr} {c : Nat} {l : List UInt8} (h : Rd w A c l) : l.length ≤ c := h.1
theorem Rd.cap {w : World} {A : Option Addr} {c : Nat} {l : List UInt8} (h : Rd w A c l) : c ≤ 9223372036854775807 := h.2.1
theorem Rd.keep {w w' : World} (hb : Below w.heap.size w w') {A : Option Addr} {c : Nat} {l : List UInt8} (h : Rd w A c l) : Rd w' A c l :=
  ⟨h.1, h.2.1, fun hl => by
    obtain ⟨b, o, hA, hc⟩ := h.2.2 hl
    exact ⟨b, o, hA, fun j hj => Go.Proofs.Ytofnjdkfhboapaa.keep hb (hc j hj)⟩⟩
theorem Rd.alloc {w : World} (o : Obj) {A : Option Addr} {c : Nat} {l : List UInt8} (h : Rd w A c l) : Rd (w.alloc o) A c l := h.keep ((Below.refl _ _).alloc (Nat.le_refl _) _)
theorem Rd.drew {w : World} {A : Option Addr} {c : Nat} {l : List UInt8} (h : Rd w A c l) : Rd w.drew A c l := h
theorem Rd.take {w : World} {A : Option Addr} {c : Nat} {l : List UInt8} (h : Rd w A c l) (k : Nat) : Rd w A c (l.take k) := by
  have hl : (l.take k).length ≤ l.length := by rw [List.length_take]; omega
  refine ⟨by have := h.1; omega, h.2.1, fun hp => ?_⟩
  obtain ⟨b, o, hA, hc⟩ := h.2.2 (by omega)
  exact ⟨b, o, hA, fun j hj => by rw [hc j (by omega)]; simp⟩
theorem Rd.at_ {w : World} {A : Option Addr} {c : Nat} {l : List UInt8} (h : Rd w A c l) (hp : 0 < l.length) :
    ∃ b o, A = some ⟨b, o, none⟩ ∧ ∀ j (h : j < l.length), w.cell? ⟨b, o + j, none⟩ = some (.int .u8 (l[j].toNat : Int)) := h.2.2 hp

/-- string(b). -/
theorem Rd.str {P : Program} {w : World} {A : Option Addr} {c : Nat} {l : List UInt8} (h : Rd w A c l) (src dst e : TypeId) (hs : P.underlying src = some (.slice e)) (he : P.underlying e = some (.int .u8)) (hd : P.underlying dst = some .string) :
    (convert src dst (.slice A l.length c)).run P w = .ok (.string ⟨l.toArray⟩) w := by
  match A with
  | none =>
    have hl : l = [] := by
      rcases Nat.eq_zero_or_pos l.length with h0 | h0
      · exact List.eq_nil_of_length_eq_zero h0
      · obtain ⟨b, o, hA, _⟩ := h.2.2 h0
        cases hA
    subst hl
    exact run_convert_bytes_nil (P := P) w src e hs he 0 c dst hd
  | some a =>
    refine run_convert_bytes_back (P := P) w src dst e a c l hs he hd fun j hj => ?_
    obtain ⟨b, o, hA, hc⟩ := h.2.2 (by omega)
    injection hA with hA
    subst hA
    rw [Addr.add_lit]
    exact hc j hj

def u8s (l : List UInt8) : List Value := l.map fun b => .int .u8 (b.toNat : Int)
theorem u8s_append (l m : List UInt8) : u8s (l ++ m) = u8s l ++ u8s m := by simp [u8s]
theorem u8s_length (l : List UInt8) : (u8s l).length = l.length := by simp [u8s]

/-- A slice of bytes of the call's own (it lies in a block from 'base' on). -/
def Own (w : World) (base : Nat) (e : TypeId) (A : Option Addr) (c : Nat) (l : List UInt8) : Prop := w.ownsRow base e 1 (.slice A l.length c) l.length (u8s l)

theorem Own.nil (w : World) (base : Nat) (e : TypeId) : Own w base e none 0 [] := World.ownsRow_nil w base e 1
theorem Own.lit (w : World) {base : Nat} (e : TypeId) (l : List UInt8) (hb : base ≤ w.heap.size) (hm : l.length ≤ 1000) : Own (w.alloc (.cells (u8s l).toArray e)) base e (some ⟨w.heap.size, 0, none⟩) l.length l := by
  have h := World.ownsRow_lit (base := base) (e := e) (size := 1) w (u8s l).toArray l.length hb (by unfold maxLen; omega) (by simp [u8s_length])
  simpa [Own] using h
theorem Own.rd {w : World} {base : Nat} {e : TypeId} {A : Option Addr} {c : Nat} {l : List UInt8} (h : Own w base e A c l) : Rd w A c l := by
  obtain ⟨h0, h1⟩ := h
  rcases h1 with ⟨hv, hn⟩ | ⟨g, cap, cur, hv, hbg, hg, hnc, hcm, hcs, htk⟩
  · injection hv with h1 h2 h3
    have : l = [] := List.eq_nil_of_length_eq_zero hn
    subst this h1 h3
    exact Rd.nil w
  · injection hv with h1 h2 h3
    subst h1 h3
    refine ⟨hnc, hcm, fun hp => ⟨g, 0, rfl, fun j hj => ?_⟩⟩
    rw [Nat.zero_add, cell_of_row w g j cur e (0, 0) hg]
    have : (cur.toList.take (l.length * 1))[j]? = (u8s l)[j]? := by rw [htk]
    rw [List.getElem?_take, if_pos (by omega)] at this
    rw [← Array.getElem?_toList, this]
    simp [u8s, List.getElem?_eq_getElem hj]
theorem Own.block {w : World} {base : Nat} {e : TypeId} {A : Option Addr} {c : Nat} {l : List UInt8} (h : Own w base e A c l) : ∀ k, (Value.slice A l.length c).ownBlock = some k → base ≤ k := fun k hk => (h.lt k hk).1

/-- Behind a call that makes memory alone it is the call's own as before. -/
theorem Own.keep {w w' : World} {base : Nat} {e : TypeId} {A : Option Addr} {c : Nat} {l : List UInt8} (h : Own w base e A c l) (hb : Below w.heap.size w w') : Own w' base e A c l := by
  obtain ⟨h0, h1⟩ := h
  refine ⟨h0, ?_⟩
  rcases h1 with h | ⟨g, cap, cur, hv, hbg, hg, r⟩
  · exact .inl h
  · have hlt : g < w.heap.size := by
      rcases Nat.lt_or_ge g w.heap.size with h' | h'
      · exact h'
      · rw [Array.getElem?_eq_none h'] at hg; cases hg
    exact .inr ⟨g, cap, cur, hv, hbg, by rw [hb.block g hlt]; exact hg, r⟩

theorem run_append_rd {P : Program} {w : World} {base : Nat} {t ty e : TypeId} {i : TypeInfo} (ht : P.underlying t = some (.slice e)) (hi : P.info? e = some i) (hz : i.zero = some (.int .u8 0)) (hsize : i.size = 1) (hby : i.bytes = 1)
    {A : Option Addr} {c : Nat} {l : List UInt8} (hown : Own w base e A c l) {A1 : Option Addr} {c1 : Nat} {m : List UInt8} (hr : Rd w A1 c1 m) (hlen : l.length + m.length ≤ 100000) (hbase : base ≤ w.heap.size) :
    ∃ A' c' w', (Builtin.append_ #[t, t] ty #[.slice A l.length c, .slice A1 m.length c1]).run P w = .ok (.slice A' (l.length + m.length) c') w' ∧ Own w' base e A' c' (l ++ m) ∧ Below base w w' := by
  have key : ∀ ad : Addr, (∀ j u, (u8s m)[j]? = some u → w.cell? (ad.add j) = some u) → ∃ A' c' w', (Builtin.append_ #[t, t] ty #[.slice A l.length c, .slice (some ad) m.length c1]).run P w = .ok (.slice A' (l.length + m.length) c') w' ∧ Own w' base e A' c' (l ++ m) ∧ Below base w w' := by
    intro ad hc
    obtain ⟨v', w', hrun, h2, h3, _, _⟩ := run_append_own_at (P := P) w base t ty e i (.int .u8 0) 1 1 ht hi hz hsize hby rfl (by omega) _ _ _ hown ad m.length c1 (u8s m) (by simp [u8s_length]) hc
      (fun u hu => by simp only [u8s, List.mem_map] at hu; obtain ⟨b, _, rfl⟩ := hu; rfl) (by unfold maxLen; omega) (by omega) hbase
    have hb : Below base w w' := (Below.refl _ _).grown h3 hbase hown.block
    rw [← u8s_append] at h2
    obtain ⟨A', c', hv⟩ : ∃ A' c', v' = .slice A' (l.length + m.length) c' := by
      rcases h2.2 with ⟨hv, hn⟩ | ⟨g, cap, cur, hv, _⟩
      · exact ⟨none, 0, by rw [hv, hn]⟩
      · exact ⟨_, _, hv⟩
    subst hv
    refine ⟨A', c', w', hrun, ?_, hb⟩
    unfold Own
    rw [List.length_append]
    exact h2
  match A1 with
  | some ad =>
    refine key ad fun j u hu => ?_
    have hj : j < m.length := by
      have := (List.getElem?_eq_some_iff.1 hu).1
      simpa [u8s_length] using this
    obtain ⟨b, o, hA, hc⟩ := hr.2.2 (by omega)
    injection hA with hA
    subst hA
    rw [Addr.add_lit, hc j hj]
    simpa [u8s, List.getElem?_eq_getElem hj] using hu
  | none =>
    have hl : m = [] := by
      rcases Nat.eq_zero_or_pos m.length with h0 | h0
      · exact List.eq_nil_of_length_eq_zero h0
      · obtain ⟨b, o, hA, _⟩ := hr.2.2 h0
        cases hA
    subst hl
    refine ⟨A, c, w, ?_, by simpa using hown, Below.refl _ _⟩
    rcases hown.2 with ⟨hv, hn⟩ | ⟨g, cap, cur, hv, _, _, hnc, _⟩
    · injection hv with h1 h2 h3
      subst h1 h3
      simp [Builtin.append_, run_underlying ht, sizeOf, typeInfo, hi, Builtin.lenOf, Builtin.firstCells, hn]
    · injection hv with h1 h2 h3
      subst h1 h3
      simp [Builtin.append_, run_underlying ht, sizeOf, typeInfo, hi, Builtin.lenOf, Builtin.firstCells, hnc, storeCells]

/-- At a plain region's list of operations. -/
theorem wpList_append_rd {P : Program} {w : World} {ops : Array Oper} {rest : List Oper} {o : Oper} {a : Act} {Q : Exit → Act → World → Prop} (hgd : o.guard = none) (s x : Operand) (t : TypeId)
    (ho : o.op = .call { callee := .builtin .append, args := #[s, x], argTypes := #[t, t] })
    (base : Nat) (e : TypeId) {i : TypeInfo} (ht : P.underlying t = some (.slice e)) (hi : P.info? e = some i) (hz : i.zero = some (.int .u8 0)) (hsize : i.size = 1) (hby : i.bytes = 1)
    (A : Option Addr) (n c : Nat) (l : List UInt8) (hn : Hid (l.length = n)) (hs : a.eval s = .slice A n c) (hown : Own w base e A c l)
    (A1 : Option Addr) (n1 c1 : Nat) (m : List UInt8) (hn1 : Hid (m.length = n1)) (hx : a.eval x = .slice A1 n1 c1) (hr : Rd w A1 c1 m) (hlen : n + n1 ≤ 100000) (hbase : base ≤ w.heap.size)
    (h : ∀ A' c' w', Own w' base e A' c' (l ++ m) → Below base w w' → wpList P ops Q rest (a.put o.dst (.slice A' (n + n1) c')) w') : wpList P ops Q (o :: rest) a w := by
  refine wpList_plain hgd fun K hK => ?_
  have hn' := hn.out
  have hn1' := hn1.out
  subst hn' hn1'
  obtain ⟨A', c', w', hr, h2, h3⟩ := run_append_rd (P := P) (ty := o.type) ht hi hz hsize hby hown hr hlen hbase
  unfold Oper.wp execOp
  simp only [ho, resolve, invoke, builtin, Sem.run_bind, Sem.run_pure, Result.andThen_ok, List.map_toArray, List.map_cons, List.map_nil, hs, hx, hr]
  exact hK _ _ (h A' c' w' h2 h3)

/-- A slice of bytes that came in. -/
theorem open_rd {H : Type} {enc : TypeId × Value → H} {P : Program} {t e : TypeId} {W : World} {base b0 : Nat} {spare : Nat → Bool} {held : Bool} {v : Value} {d : DataW H} {p : List MemPlace} {r : Reach}
    (ht : P.underlying t = some (.slice e)) (he : P.underlying e = some (.int .u8)) (hc : P.cellsOf e = 1)
    (hv : Value.okWide P W r b0 t v) (h : DataW.Trod enc P W base spare held t v d p) : ∃ (A : Option Addr) (n c : Nat) (l : List UInt8), v = .slice A n c ∧ Hid (l.length = n) ∧ Rd W A c l := by
  obtain ⟨a1, len, cap, rfl⟩ := okWide_slice ht hv
  obtain ⟨fuel, hf⟩ := h
  rcases open_ints ht he hc hf with ⟨hcs, hx⟩ | ⟨a, len', cap', zs, hcs, _, hl, hm, hz, hx, hcell, hwz⟩
  · simp [Value.cells] at hcs
    obtain ⟨rfl, rfl, rfl⟩ := hcs
    exact ⟨none, 0, 0, [], rfl, hid rfl, Rd.nil W⟩
  · simp [Value.cells] at hcs
    obtain ⟨rfl, rfl, rfl⟩ := hcs
    have hzl : len ≤ zs.length := by rw [hz]; split <;> omega
    have hlen : ((zs.take len).map fun n => UInt8.ofNat n.toNat).length = len := by simp; omega
    refine ⟨some a, len, cap, (zs.take len).map fun n => UInt8.ofNat n.toNat, rfl, hid hlen, by omega, hm, fun hp => ?_⟩
    obtain ⟨ab, ao, spot⟩ := a
    have hspot : spot = none := by simpa [Addr.add] using World.cell?_spot (hcell 0 (by omega))
    subst hspot
    refine ⟨ab, ao, rfl, fun j hj => ?_⟩
    rw [hlen] at hj
    have hcj := hcell j (by omega)
    rw [Addr.add_lit] at hcj
    rw [hcj]
    have hb := range_u8 hwz j
    simp only [List.getElem_map, List.getElem_take]
    have e : zs.getD j 0 = zs[j]'(by omega) := by simp [List.getD, List.getElem?_eq_getElem (show j < zs.length by omega)]
    rw [List.getD_eq_getElem?_getD] at e
    rw [e] at hb
    rw [List.getD_eq_getElem?_getD, e]
    congr 2
    simp only [UInt8.toNat_ofNat']
    omega
end Go.Proofs.Ytofnjdkfhboapaa

namespace Go.Proofs.Ytofnjdkfhboapaa
open Go.RowKit Go.ChangeShapes Go.WideShapes Go.ChangeAt
set_option linter.unusedVariables false

theorem quiet_same {P : Program} {f : FuncId} {args : Array Value} {w : World} {x : Past w} {v : Value}
    (h : Calls P f args x.1 fun e w' => e = .returned v ∧ x.1 = w') : Calls P f args x.1 fun e w'' => e = .returned v ∧ ∃ y : Past w, w'' = y.1 :=
  h.mono fun _ w' ⟨he, hb⟩ => ⟨he, x, hb.symm⟩

/-- The slice '.slice A l.length c' reads as the values l. -/
def RdV (w : World) (A : Option Addr) (c : Nat) (l : List Value) : Prop :=
  l.length ≤ c ∧ c ≤ maxLen ∧ (0 < l.length → ∃ b o, A = some ⟨b, o, none⟩ ∧ ∀ j (h : j < l.length), w.cell? ⟨b, o + j, none⟩ = some l[j])
theorem RdV.nil (w : World) : RdV w none 0 [] := ⟨Nat.le_refl _, Nat.zero_le _, fun h => absurd h (by simp)⟩
theorem RdV.keep {w w' : World} (hb : Below w.heap.size w w') {A : Option Addr} {c : Nat} {l : List Value} (h : RdV w A c l) : RdV w' A c l :=
  ⟨h.1, h.2.1, fun hl => by
    obtain ⟨b, o, hA, hc⟩ := h.2.2 hl
    exact ⟨b, o, hA, fun j hj => Go.Proofs.Ytofnjdkfhboapaa.keep hb (hc j hj)⟩⟩

/-- A slice of the call's own (it lies in a block from 'base' on). -/
def OwnV (w : World) (base : Nat) (e : TypeId) (A : Option Addr) (c : Nat) (l : List Value) : Prop := w.ownsRow base e 1 (.slice A l.length c) l.length l
theorem OwnV.nil (w : World) (base : Nat) (e : TypeId) : OwnV w base e none 0 [] := World.ownsRow_nil w base e 1
theorem OwnV.lit (w : World) {base : Nat} (e : TypeId) (l : List Value) (hb : base ≤ w.heap.size) (hm : l.length ≤ 10000) : OwnV (w.alloc (.cells l.toArray e)) base e (some ⟨w.heap.size, 0, none⟩) l.length l := by
  have h := World.ownsRow_lit (base := base) (e := e) (size := 1) w l.toArray l.length hb (by unfold maxLen; omega) (by simp)
  simpa [OwnV] using h
theorem OwnV.rd {w : World} {base : Nat} {e : TypeId} {A : Option Addr} {c : Nat} {l : List Value} (h : OwnV w base e A c l) : RdV w A c l := by
  obtain ⟨h0, h1⟩ := h
  rcases h1 with ⟨hv, hn⟩ | ⟨g, cap, cur, hv, hbg, hg, hnc, hcm, hcs, htk⟩
  · injection hv with h1 h2 h3
    have : l = [] := List.eq_nil_of_length_eq_zero hn
    subst this h1 h3
    exact RdV.nil w
  · injection hv with h1 h2 h3
    subst h1 h3
    refine ⟨hnc, hcm, fun hp => ⟨g, 0, rfl, fun j hj => ?_⟩⟩
    rw [Nat.zero_add, cell_of_row w g j cur e (0, 0) hg]
    have : (cur.toList.take (l.length * 1))[j]? = l[j]? := by rw [htk]
    rw [List.getElem?_take, if_pos (by omega)] at this
    rw [← Array.getElem?_toList, this]
    simp [List.getElem?_eq_getElem hj]
theorem OwnV.block {w : World} {base : Nat} {e : TypeId} {A : Option Addr} {c : Nat} {l : List Value} (h : OwnV w base e A c l) : ∀ k, (Value.slice A l.length c).ownBlock = some k → base ≤ k := fun k hk => (h.lt k hk).1
theorem OwnV.keep {w w' : World} {base : Nat} {e : TypeId} {A : Option Addr} {c : Nat} {l : List Value} (h : OwnV w base e A c l) (hb : Below w.heap.size w w') : OwnV w' base e A c l := by
  obtain ⟨h0, h1⟩ := h
  refine ⟨h0, ?_⟩
  rcases h1 with h | ⟨g, cap, cur, hv, hbg, hg, r⟩
  · exact .inl h
  · have hlt : g < w.heap.size := by
      rcases Nat.lt_or_ge g w.heap.size with h' | h'
      · exact h'
      · rw [Array.getElem?_eq_none h'] at hg; cases hg
    exact .inr ⟨g, cap, cur, hv, hbg, by rw [hb.block g hlt]; exact hg, r⟩

theorem run_append_v {P : Program} {w : World} {base : Nat} {t ty e : TypeId} {i : TypeInfo} {z : Value} {by_ : Nat} (ht : P.underlying t = some (.slice e)) (hi : P.info? e = some i) (hz : i.zero = some z) (hzs : z.cells.size = 1) (hsize : i.size = 1) (hby : i.bytes = by_) (hb8 : by_ ≤ 8)
    {A : Option Addr} {c : Nat} {l : List Value} (hown : OwnV w base e A c l) {A1 : Option Addr} {c1 : Nat} {m : List Value} (hr : RdV w A1 c1 m) (h1 : ∀ u ∈ m, u.oneCell' = true) (hlen : l.length + m.length ≤ 100000) (hbase : base ≤ w.heap.size) :
    ∃ A' c' w', (Builtin.append_ #[t, t] ty #[.slice A l.length c, .slice A1 m.length c1]).run P w = .ok (.slice A' (l.length + m.length) c') w' ∧ OwnV w' base e A' c' (l ++ m) ∧ Below base w w' := by
  have key : ∀ ad : Addr, (∀ j u, m[j]? = some u → w.cell? (ad.add j) = some u) → ∃ A' c' w', (Builtin.append_ #[t, t] ty #[.slice A l.length c, .slice (some ad) m.length c1]).run P w = .ok (.slice A' (l.length + m.length) c') w' ∧ OwnV w' base e A' c' (l ++ m) ∧ Below base w w' := by
    intro ad hc
    have hbb : (l.length + m.length) * by_ ≤ 140737488355328 := Nat.le_trans (Nat.mul_le_mul hlen hb8) (by omega)
    obtain ⟨v', w', hrun, h2, h3, _, _⟩ := run_append_own_at (P := P) w base t ty e i z 1 by_ ht hi hz hsize hby hzs (by omega) _ _ _ hown ad m.length c1 m (by simp) hc h1 (by unfold maxLen; omega) hbb hbase
    have hb : Below base w w' := (Below.refl _ _).grown h3 hbase hown.block
    obtain ⟨A', c', hv⟩ : ∃ A' c', v' = .slice A' (l.length + m.length) c' := by
      rcases h2.2 with ⟨hv, hn⟩ | ⟨g, cap, cur, hv, _⟩
      · exact ⟨none, 0, by rw [hv, hn]⟩
      · exact ⟨_, _, hv⟩
    subst hv
    refine ⟨A', c', w', hrun, ?_, hb⟩
    unfold OwnV
    rw [List.length_append]
    exact h2
  match A1 with
  | some ad =>
    refine key ad fun j u hu => ?_
    have hj : j < m.length := (List.getElem?_eq_some_iff.1 hu).1
    obtain ⟨b, o, hA, hc⟩ := hr.2.2 (by omega)
    injection hA with hA
    subst hA
    rw [Addr.add_lit, hc j hj]
    simpa [List.getElem?_eq_getElem hj] using hu
  | none =>
    have hl : m = [] := by
      rcases Nat.eq_zero_or_pos m.length with h0 | h0
      · exact List.eq_nil_of_length_eq_zero h0
      · obtain ⟨b, o, hA, _⟩ := hr.2.2 h0
        cases hA
    subst hl
    refine ⟨A, c, w, ?_, by simpa using hown, Below.refl _ _⟩
    rcases hown.2 with ⟨hv, hn⟩ | ⟨g, cap, cur, hv, _, _, hnc, _⟩
    · injection hv with h1 h2 h3
      subst h1 h3
      simp [Builtin.append_, run_underlying ht, sizeOf, typeInfo, hi, Builtin.lenOf, Builtin.firstCells, hn]
    · injection hv with h1 h2 h3
      subst h1 h3
      simp [Builtin.append_, run_underlying ht, sizeOf, typeInfo, hi, Builtin.lenOf, Builtin.firstCells, hnc, storeCells]

/-! ### int32 -/
def i32s (l : List Int) : List Value := l.map fun x => .int .i32 x
theorem i32s_append (l m : List Int) : i32s (l ++ m) = i32s l ++ i32s m := by simp [i32s]
theorem i32s_length (l : List Int) : (i32s l).length = l.length := by simp [i32s]
theorem i32s_one (l : List Int) : ∀ u ∈ i32s l, u.oneCell' = true := fun u hu => by
  simp only [i32s, List.mem_map] at hu
  obtain ⟨b, _, rfl⟩ := hu
  rfl
/-- The numbers are int32's. -/
def In32 (l : List Int) : Prop := ∀ x ∈ l, -2147483648 ≤ x ∧ x ≤ 2147483647
theorem In32.at_ {l : List Int} (h : In32 l) {j : Nat} (hj : j < l.length) : -2147483648 ≤ l[j] ∧ l[j] ≤ 2147483647 := h _ (List.getElem_mem hj)
theorem In32.nil : In32 [] := fun x hx => by cases hx
theorem In32.one {x : Int} (h0 : -2147483648 ≤ x) (h1 : x ≤ 2147483647) : In32 [x] := fun y hy => by
  simp only [List.mem_singleton] at hy
  subst hy
  exact ⟨h0, h1⟩
theorem In32.append {l m : List Int} (h : In32 l) (k : In32 m) : In32 (l ++ m) := fun x hx => by
  rcases List.mem_append.1 hx with hx | hx
  · exact h x hx
  · exact k x hx
def Ri (w : World) (A : Option Addr) (c : Nat) (l : List Int) : Prop := RdV w A c (i32s l) ∧ In32 l
theorem Ri.nil (w : World) : Ri w none 0 [] := ⟨RdV.nil w, In32.nil⟩
theorem Ri.len {w : World} {A : Option Addr} {c : Nat} {l : List Int} (h : Ri w A c l) : l.length ≤ c := by have := h.1.1; rwa [i32s_length] at this
theorem Ri.cap {w : World} {A : Option Addr} {c : Nat} {l : List Int} (h : Ri w A c l) : c ≤ 9223372036854775807 := h.1.2.1
theorem Ri.in32 {w : World} {A : Option Addr} {c : Nat} {l : List Int} (h : Ri w A c l) : In32 l := h.2
theorem Ri.keep {w w' : World} (hb : Below w.heap.size w w') {A : Option Addr} {c : Nat} {l : List Int} (h : Ri w A c l) : Ri w' A c l := ⟨RdV.keep hb h.1, h.2⟩
theorem Ri.alloc {w : World} (o : Obj) {A : Option Addr} {c : Nat} {l : List Int} (h : Ri w A c l) : Ri (w.alloc o) A c l := h.keep ((Below.refl _ _).alloc (Nat.le_refl _) _)
theorem Ri.at_ {w : World} {A : Option Addr} {c : Nat} {l : List Int} (h : Ri w A c l) (hp : 0 < l.length) :
    ∃ b o, A = some ⟨b, o, none⟩ ∧ ∀ j (h : j < l.length), w.cell? ⟨b, o + j, none⟩ = some (.int .i32 l[j]) := by
  obtain ⟨b, o, hA, hc⟩ := h.1.2.2 (by rw [i32s_length]; exact hp)
  refine ⟨b, o, hA, fun j hj => ?_⟩
  rw [hc j (by rw [i32s_length]; exact hj)]
  simp [i32s]
theorem Ri.none {w : World} {c : Nat} {l : List Int} (h : Ri w none c l) : l = [] := by
  rcases Nat.eq_zero_or_pos l.length with h0 | h0
  · exact List.eq_nil_of_length_eq_zero h0
  · obtain ⟨b, o, hA, _⟩ := h.at_ h0
    cases hA

def OwnI (w : World) (base : Nat) (e : TypeId) (A : Option Addr) (c : Nat) (l : List Int) : Prop := OwnV w base e A c (i32s l) ∧ In32 l
theorem OwnI.nil (w : World) (base : Nat) (e : TypeId) : OwnI w base e none 0 [] := ⟨OwnV.nil w base e, In32.nil⟩
theorem OwnI.ri {w : World} {base : Nat} {e : TypeId} {A : Option Addr} {c : Nat} {l : List Int} (h : OwnI w base e A c l) : Ri w A c l := ⟨OwnV.rd h.1, h.2⟩
theorem OwnI.keep {w w' : World} {base : Nat} {e : TypeId} {A : Option Addr} {c : Nat} {l : List Int} (h : OwnI w base e A c l) (hb : Below w.heap.size w w') : OwnI w' base e A c l := ⟨OwnV.keep h.1 hb, h.2⟩
theorem OwnI.lit (w : World) {base : Nat} (e : TypeId) (l : List Int) (h2 : In32 l) (hb : base ≤ w.heap.size) (hm : l.length ≤ 10000) : OwnI (w.alloc (.cells (i32s l).toArray e)) base e (some ⟨w.heap.size, 0, none⟩) l.length l := by
  have h := OwnV.lit w e (i32s l) hb (by rw [i32s_length]; exact hm)
  rw [i32s_length] at h
  exact ⟨h, h2⟩
theorem lit_i (w : World) (e : TypeId) (l : List Int) (h2 : In32 l) (hm : l.length ≤ 10000) : Ri (w.alloc (.cells (i32s l).toArray e)) (some ⟨w.heap.size, 0, none⟩) l.length l := (OwnI.lit w e l h2 (Nat.le_refl _) hm).ri
/-- A number's slice of one. -/
theorem lit_i1 (w : World) (e : TypeId) (x : Int) (h0 : -2147483648 ≤ x) (h1 : x ≤ 2147483647) : Ri (w.alloc (.cells #[.int .i32 x] e)) (some ⟨w.heap.size, 0, none⟩) 1 [x] := lit_i w e [x] (In32.one h0 h1) (by simp)

/-- At a plain region's list of operations. -/
theorem wpList_append_i {P : Program} {w : World} {ops : Array Oper} {rest : List Oper} {o : Oper} {a : Act} {Q : Exit → Act → World → Prop} (hgd : o.guard = none) (s x : Operand) (t : TypeId)
    (ho : o.op = .call { callee := .builtin .append, args := #[s, x], argTypes := #[t, t] })
    (base : Nat) (e : TypeId) {i : TypeInfo} (ht : P.underlying t = some (.slice e)) (hi : P.info? e = some i) (hz : i.zero = some (.int .i32 0)) (hsize : i.size = 1) (hby : i.bytes = 4)
    (A : Option Addr) (n c : Nat) (l : List Int) (hn : Hid (l.length = n)) (hs : a.eval s = .slice A n c) (hown : OwnI w base e A c l)
    (A1 : Option Addr) (n1 c1 : Nat) (m : List Int) (hn1 : Hid (m.length = n1)) (hx : a.eval x = .slice A1 n1 c1) (hr : Ri w A1 c1 m) (hlen : n + n1 ≤ 100000) (hbase : base ≤ w.heap.size)
    (h : ∀ A' c' w', OwnI w' base e A' c' (l ++ m) → Below base w w' → wpList P ops Q rest (a.put o.dst (.slice A' (n + n1) c')) w') : wpList P ops Q (o :: rest) a w := by
  refine wpList_plain hgd fun K hK => ?_
  have hn' := hn.out
  have hn1' := hn1.out
  subst hn' hn1'
  obtain ⟨A', c', w', hrun, h2, h3⟩ := run_append_v (P := P) (ty := o.type) ht hi hz rfl hsize hby (by omega) hown.1 hr.1 (i32s_one m) (by rw [i32s_length, i32s_length]; exact hlen) hbase
  rw [← i32s_append] at h2
  rw [i32s_length, i32s_length] at hrun
  unfold Oper.wp execOp
  simp only [ho, resolve, invoke, builtin, Sem.run_bind, Sem.run_pure, Result.andThen_ok, List.map_toArray, List.map_cons, List.map_nil, hs, hx, hrun]
  exact hK _ _ (h A' c' w' ⟨h2, hown.2.append hr.2⟩ h3)

/-- A slice of int32 that came in. -/
theorem open_ri {H : Type} {enc : TypeId × Value → H} {P : Program} {t e : TypeId} {W : World} {base b0 : Nat} {spare : Nat → Bool} {held : Bool} {v : Value} {d : DataW H} {p : List MemPlace} {r : Reach}
    (ht : P.underlying t = some (.slice e)) (he : P.underlying e = some (.int .i32)) (hc : P.cellsOf e = 1)
    (hv : Value.okWide P W r b0 t v) (h : DataW.Trod enc P W base spare held t v d p) : ∃ (A : Option Addr) (n c : Nat) (l : List Int), v = .slice A n c ∧ Hid (l.length = n) ∧ Ri W A c l := by
  obtain ⟨a1, len, cap, rfl⟩ := okWide_slice ht hv
  obtain ⟨fuel, hf⟩ := h
  rcases open_ints ht he hc hf with ⟨hcs, hx⟩ | ⟨a, len', cap', zs, hcs, _, hl, hm, hz, hx, hcell, hwz⟩
  · simp [Value.cells] at hcs
    obtain ⟨rfl, rfl, rfl⟩ := hcs
    exact ⟨none, 0, 0, [], rfl, hid rfl, Ri.nil W⟩
  · simp [Value.cells] at hcs
    obtain ⟨rfl, rfl, rfl⟩ := hcs
    have hzl : len ≤ zs.length := by rw [hz]; split <;> omega
    have hlen : (zs.take len).length = len := by rw [List.length_take]; omega
    have hb : ∀ x ∈ zs, -2147483648 ≤ x ∧ x ≤ 2147483647 := fun x hx => by
      exact bounds_i32 (hwz x hx)
    refine ⟨some a, len, cap, zs.take len, rfl, hid hlen, ⟨by rw [i32s_length]; omega, hm, fun hp => ?_⟩, fun x hx => hb x (List.mem_of_mem_take hx)⟩
    rw [i32s_length, hlen] at hp
    obtain ⟨ab, ao, spot⟩ := a
    have hspot : spot = none := by simpa [Addr.add] using World.cell?_spot (hcell 0 (by omega))
    subst hspot
    refine ⟨ab, ao, rfl, fun j hj => ?_⟩
    rw [i32s_length, hlen] at hj
    have hcj := hcell j (by omega)
    rw [Addr.add_lit] at hcj
    rw [hcj]
    simp [i32s, List.getD, List.getElem?_eq_getElem (show j < zs.length by omega)]

/-! ### bool -/
def bls (l : List Bool) : List Value := l.map fun x => .bool x
theorem bls_length (l : List Bool) : (bls l).length = l.length := by simp [bls]
def Rb (w : World) (A : Option Addr) (c : Nat) (l : List Bool) : Prop := RdV w A c (bls l)
theorem Rb.nil (w : World) : Rb w none 0 [] := RdV.nil w
theorem Rb.len {w : World} {A : Option Addr} {c : Nat} {l : List Bool} (h : Rb w A c l) : l.length ≤ c := by have := h.1; rwa [bls_length] at this
theorem Rb.cap {w : World} {A : Option Addr} {c : Nat} {l : List Bool} (h : Rb w A c l) : c ≤ 9223372036854775807 := h.2.1
theorem Rb.keep {w w' : World} (hb : Below w.heap.size w w') {A : Option Addr} {c : Nat} {l : List Bool} (h : Rb w A c l) : Rb w' A c l := RdV.keep hb h
theorem Rb.at_ {w : World} {A : Option Addr} {c : Nat} {l : List Bool} (h : Rb w A c l) (hp : 0 < l.length) :
    ∃ b o, A = some ⟨b, o, none⟩ ∧ ∀ j (h : j < l.length), w.cell? ⟨b, o + j, none⟩ = some (.bool l[j]) := by
  obtain ⟨b, o, hA, hc⟩ := h.2.2 (by rw [bls_length]; exact hp)
  refine ⟨b, o, hA, fun j hj => ?_⟩
  rw [hc j (by rw [bls_length]; exact hj)]
  simp [bls]
theorem lit_b (w : World) (e : TypeId) (l : List Bool) (hm : l.length ≤ 10000) : Rb (w.alloc (.cells (bls l).toArray e)) (some ⟨w.heap.size, 0, none⟩) l.length l := by
  have h := (OwnV.lit w e (bls l) (Nat.le_refl _) (by rw [bls_length]; exact hm)).rd
  rwa [bls_length] at h

/-- A slice of bool that came in. -/
theorem open_rb {H : Type} {enc : TypeId × Value → H} {P : Program} {t e : TypeId} {W : World} {base b0 : Nat} {spare : Nat → Bool} {held : Bool} {v : Value} {d : DataW H} {p : List MemPlace} {r : Reach}
    (ht : P.underlying t = some (.slice e)) (he : P.underlying e = some .bool) (hc : P.cellsOf e = 1)
    (hv : Value.okWide P W r b0 t v) (h : DataW.Trod enc P W base spare held t v d p) : ∃ (A : Option Addr) (n c : Nat) (l : List Bool), v = .slice A n c ∧ Hid (l.length = n) ∧ Rb W A c l := by
  obtain ⟨a1, len, cap, rfl⟩ := okWide_slice ht hv
  obtain ⟨fuel, hf⟩ := h
  rcases DataW.trod_slice ht hf with ⟨hcs, hx⟩ | ⟨a, len', cap', elems, rest, n, _, hcs, hx, hb, hl, hm, hlen, hel, _⟩
  · simp [Value.cells] at hcs
    obtain ⟨rfl, rfl, rfl⟩ := hcs
    exact ⟨none, 0, 0, [], rfl, hid rfl, Rb.nil W⟩
  · simp [Value.cells] at hcs
    obtain ⟨rfl, rfl, rfl⟩ := hcs
    have each : ∀ j, j < len → ∃ x : Bool, W.cell? (a.add j) = some (.bool x) := by
      intro j hj
      have hE := hel j hj
      rw [List.getElem?_eq_getElem (by rw [hlen]; exact hj), hc, Nat.mul_one, Option.bind_eq_some_iff] at hE
      obtain ⟨cs, h1, h2⟩ := hE
      obtain ⟨x, rfl, _⟩ := DataW.trod_bool he h2
      exact ⟨x, cell_of_cells?_one h1⟩
    have hlen2 : ((List.range len).map fun j => match W.cell? (a.add j) with | some (.bool x) => x | _ => false).length = len := by simp
    refine ⟨some a, len, cap, (List.range len).map fun j => match W.cell? (a.add j) with | some (.bool x) => x | _ => false, rfl, hid hlen2, by rw [bls_length, hlen2]; omega, hm, fun hp => ?_⟩
    rw [bls_length, hlen2] at hp
    obtain ⟨ab, ao, spot⟩ := a
    have hspot : spot = none := by
      obtain ⟨x, hx⟩ := each 0 hp
      simpa [Addr.add] using World.cell?_spot hx
    subst hspot
    refine ⟨ab, ao, rfl, fun j hj => ?_⟩
    rw [bls_length, hlen2] at hj
    obtain ⟨x, hx⟩ := each j hj
    rw [Addr.add_lit] at hx
    rw [hx]
    simp [bls, Addr.add_lit, hx]
end Go.Proofs.Ytofnjdkfhboapaa
