/-
  Words for slices of bytes, over any program: append of zeros (made for it) onto a slice of the call's own; copy into the midst of one; what is cut off a slice.
-/
import Derived.Test.YtbhglgcnoidddaaRunA
import Derived.Lib.AppendZerosOnto
import Derived.Laws.CopyOwn
namespace Go.Proofs.Ytbhglgcnoidddaa
open Go.RowKit
set_option linter.unusedVariables false

theorem zero_cells (k : Nat) : Builtin.zeroCells #[Value.int .u8 0] k = (u8s (List.replicate k 0)).toArray := by
  apply Array.ext
  · simp [Builtin.zeroCells, u8s]
  · intro i h1 h2
    have h3 : i % 1 = 0 := Nat.mod_one i
    simp [Builtin.zeroCells, u8s, h3]

theorem u8s_one (l : List UInt8) : ∀ u ∈ u8s l, u.oneCell' = true := by
  intro u hu
  simp only [u8s, List.mem_map] at hu
  obtain ⟨b, _, rfl⟩ := hu
  rfl

theorem run_append_zeros_own {P : Program} {w : World} {base : Nat} {t tn ty e : TypeId} {i : TypeInfo} {kq kn : IntKind} (ht : P.underlying t = some (.slice e)) (htn : P.underlying tn = some (.int kn)) (hi : P.info? e = some i) (hz : i.zero = some (.int .u8 0)) (hsize : i.size = 1) (hby : i.bytes = 1)
    {A : Option Addr} {c : Nat} {l : List UInt8} (hown : Own w base e A c l) (h0 : 0 < l.length) (k : Nat) (hlen : l.length + k ≤ 100000) (hbase : base ≤ w.heap.size) :
    ∃ A' c' w', (Builtin.append_ #[t, tn] ty #[.slice A l.length c, .int kq (k : Int)]).run P w = .ok (.slice A' (l.length + k) c') w' ∧ Own w' base e A' c' (l ++ List.replicate k 0) ∧ Below base w w' := by
  obtain ⟨hx, hform⟩ := hown
  rcases hform with ⟨hv, hn⟩ | ⟨g, cap, cur, hv, hbg, hg, hnc, hcm, hcs, htake⟩
  · omega
  · injection hv with e1 e2 e3
    subst e1 e3
    have hw : IntKind.i64.wrap (k : Int) = k := by rw [IntKind.wrap_i64]; omega
    have hneg : ¬ ((k : Int) < 0) := by omega
    have h48 : ¬ (281474976710656 < (k : Int)) := by omega
    rw [Nat.mul_one] at hcs htake
    by_cases hroom : l.length + k ≤ c
    · have hfit : l.length + (u8s (List.replicate k 0)).length ≤ cur.size := by rw [u8s_length, List.length_replicate, hcs]; exact hroom
      have hst := run_storeCells_at P g l.length e (u8s (List.replicate k 0)) 0 cur w hg (by simpa using hfit) (u8s_one _)
      simp only [Nat.add_zero] at hst
      refine ⟨some ⟨g, 0, none⟩, c, w.setRow g (cur.toList.take l.length ++ u8s (List.replicate k 0) ++ cur.toList.drop (l.length + (u8s (List.replicate k 0)).length)).toArray, ?_, ?_, ?_⟩
      · by_cases hk : k = 0
        · subst hk
          have hw0 : IntKind.i64.wrap 0 = 0 := by rw [IntKind.wrap_i64]; omega
          simp only [List.replicate_zero, u8s, List.map_nil] at hst ⊢
          simp [Builtin.append_, run_underlying ht, run_underlying htn, sizeOf, typeInfo, hi, hsize, hby, asInt, asIntOf, hw0, hnc, Addr.add_lit, hst]
        · have hks : ¬ (k * 1 = 0) := by omega
          simp [Builtin.append_, run_underlying ht, run_underlying htn, sizeOf, typeInfo, zeroValue, hi, hz, hsize, hby, asInt, asIntOf, hw, hneg, h48, hk, hroom, Addr.add_lit, Value.cells, zero_cells, hst]
      · refine ⟨by simp [u8s_length], .inr ⟨g, c, _, by simp, hbg, setRow_heap w g cur _ e _ hg, by simpa using hroom, hcm, ?_, ?_⟩⟩
        · simp [u8s_length]
          omega
        · rw [htake, u8s_append]
          simp only [Nat.mul_one, List.length_append, List.length_replicate]
          exact List.take_left' (by simp [u8s_length])
      · exact below_setRow (Below.refl _ _) hbg _
    · have hk : 0 < k := by omega
      have holds : ∀ j u, (u8s l)[j]? = some u → w.cell? ((⟨g, 0, none⟩ : Addr).add j) = some u := World.ownsRow.cells (g := g) (n := l.length) (e := e) (size := 1) (base := base) (v := .slice (some ⟨g, 0, none⟩) l.length c) ⟨hx, .inr ⟨g, c, cur, rfl, hbg, hg, hnc, hcm, by rw [Nat.mul_one]; exact hcs, by rw [Nat.mul_one]; exact htake⟩⟩ rfl
      have hold := run_firstCells_some (P := P) w.drew i.size l.length ⟨g, 0, none⟩ l.length c (u8s l) (by rw [hsize]; simpa using hx) holds
      have hr := Lib.run_append_grow_zeros (P := P) w t tn ty e i _ kq kn ht htn hi hz (some ⟨g, 0, none⟩) l.length c (u8s l) hold k hk (by rw [hsize]; omega) (by omega) (by omega) (by rw [hby]; omega) (by rw [hby]; exact growslice_fits (by omega) (by omega))
      have hge := grownCap_ge w (l.length + k) c e
      have hcm' : grownCap w (l.length + k) c e ≤ maxLen := grownCap_le_maxLen w _ _ _ (by unfold maxLen; omega)
      refine ⟨_, _, _, hr, ?_, ?_⟩
      · refine ⟨by simp [u8s_length], .inr ⟨w.heap.size, grownCap w (l.length + k) c e, _, by simp, hbase, heap_alloc_new w.drew _, by simpa using hge, hcm', ?_, ?_⟩⟩
        · simp only [Value.cells, zero_cells, Array.size_append, List.size_toArray, u8s_length, List.length_replicate, Nat.mul_one]
          omega
        · rw [u8s_append]
          simp only [Value.cells, zero_cells, Array.toList_append, List.append_assoc, Nat.mul_one, List.length_append, List.length_replicate]
          rw [← List.append_assoc]
          exact List.take_left' (by simp [u8s_length])
      · exact ((Below.refl base w).drew).alloc hbase _

/-- append(s, make([]byte, k)...) at a plain region's list of operations. -/
theorem wpList_append_zeros {P : Program} {w : World} {ops : Array Oper} {rest : List Oper} {o : Oper} {a : Act} {Q : Exit → Act → World → Prop} (hgd : o.guard = none) (s x : Operand) (t tn : TypeId)
    (ho : o.op = .call { callee := .builtin .append, args := #[s, x], argTypes := #[t, tn] })
    (base : Nat) (e : TypeId) {i : TypeInfo} {kn : IntKind} (ht : P.underlying t = some (.slice e)) (htn : P.underlying tn = some (.int kn)) (hi : P.info? e = some i) (hz : i.zero = some (.int .u8 0)) (hsize : i.size = 1) (hby : i.bytes = 1)
    (A : Option Addr) (n c : Nat) (l : List UInt8) (hn : Hid (l.length = n)) (hs : a.eval s = .slice A n c) (hown : Own w base e A c l)
    (kq : IntKind) (z : Int) (k : Nat) (hk : Hid ((k : Int) = z)) (hx : a.eval x = .int kq z) (h0 : 0 < n) (hlen : n + k ≤ 100000) (hbase : base ≤ w.heap.size)
    (h : ∀ A' c' w', Own w' base e A' c' (l ++ List.replicate k 0) → Below base w w' → wpList P ops Q rest (a.put o.dst (.slice A' (n + k) c')) w') : wpList P ops Q (o :: rest) a w := by
  refine wpList_plain hgd fun K hK => ?_
  have hn' := hn.out
  have hk' := hk.out
  subst hn' hk'
  obtain ⟨A', c', w', hr, h2, h3⟩ := run_append_zeros_own (P := P) (ty := o.type) (kq := kq) ht htn hi hz hsize hby hown h0 k hlen hbase
  unfold Oper.wp execOp
  simp only [ho, resolve, invoke, builtin, Sem.run_bind, Sem.run_pure, Result.andThen_ok, List.map_toArray, List.map_cons, List.map_nil, hs, hx, hr]
  exact hK _ _ (h A' c' w' h2 h3)

theorem splice_take {α : Type} (L cs : List α) (n off : Nat) (h : off + cs.length ≤ n) (hn : n ≤ L.length) : (splice L off cs).take n = splice (L.take n) off cs := by
  apply List.ext_getElem?
  intro j
  simp only [splice, List.getElem?_take, List.getElem?_append, List.length_take, List.getElem?_drop]
  have e1 : min off L.length = off := by omega
  have e2 : min off (min n L.length) = off := by omega
  rw [e1, e2]
  by_cases hj : j < n
  · rw [if_pos hj]
    by_cases h1 : j < off
    · rw [if_pos h1, if_pos h1, if_pos h1, if_pos h1]
      try rw [if_pos hj]
    · rw [if_neg h1, if_neg h1]
      by_cases h2 : j - off < cs.length
      · rw [if_pos h2, if_pos h2]
      · rw [if_neg h2, if_neg h2, if_pos (by omega)]
  · rw [if_neg hj, if_neg (by omega), if_neg (by omega), if_neg (by omega)]
theorem splice_u8s (L m : List UInt8) (off : Nat) : splice (u8s L) off (u8s m) = u8s (splice L off m) := by
  simp [splice, u8s, List.map_take, List.map_drop]

/-- copy(s[off:], m) into a row of the call's own. -/
theorem wpList_copy_rd {P : Program} {w : World} {ops : Array Oper} {rest : List Oper} {o : Oper} {a : Act} {Q : Exit → Act → World → Prop} (hgd : o.guard = none) (d s : Operand) (t : TypeId)
    (ho : o.op = .call { callee := .builtin .copy, args := #[d, s], argTypes := #[t, t] }) (base : Nat) (e : TypeId) {i : TypeInfo} (ht : P.underlying t = some (.slice e)) (hi : P.info? e = some i) (hsize : i.size = 1)
    (g off dLen dCap : Nat) (hd : a.eval d = .slice (some ⟨g, off, none⟩) dLen dCap) (n c : Nat) (L : List UInt8) (hn : Hid (L.length = n)) (hown : Own w base e (some ⟨g, 0, none⟩) c L)
    (A1 : Option Addr) (n1 c1 : Nat) (m : List UInt8) (hn1 : Hid (m.length = n1)) (hs : a.eval s = .slice A1 n1 c1) (hr : Rd w A1 c1 m) (hfit : n1 ≤ dLen) (hle : off + n1 ≤ n)
    (h : ∀ w', Own w' base e (some ⟨g, 0, none⟩) c (splice L off m) → Below base w w' → wpList P ops Q rest (a.put o.dst (goInt n1)) w') : wpList P ops Q (o :: rest) a w := by
  have hn' := hn.out
  have hn1' := hn1.out
  subst hn' hn1'
  obtain ⟨hx, hform⟩ := hown
  rcases hform with ⟨hv, hn0⟩ | ⟨g', cap, cur, hv, hbg, hg, hnc, hcm, hcs, htake⟩
  · injection hv with e1 e2 e3
    cases e1
  · injection hv with e1 e2 e3
    injection e1 with e1
    injection e1 with e1
    subst e1 e3
    rw [Nat.mul_one] at hcs htake
    have e5 : cur.toList.length = c := by simpa using hcs
    refine wpList_copy_splice hgd d s t t ho e ht (by rw [hi]; simp [hsize]) (some ⟨g, off, none⟩) A1 dLen dCap m.length c1 hd hs g off cur.toList e (by simpa using hg) (u8s m) (by rw [u8s_length]; exact (Nat.min_eq_left hfit).symm) ?_ ?_ (u8s_one _) base w (Below.refl _ _) hbg ?_
    · intro hp
      rw [u8s_length] at hp
      obtain ⟨b, o1, hA, hc⟩ := hr.2.2 hp
      refine ⟨rfl, _, hA, fun j v hj => ?_⟩
      have hjl : j < m.length := by
        have := (List.getElem?_eq_some_iff.1 hj).1
        rwa [u8s_length] at this
      rw [Addr.add_lit, hc j hjl]
      simpa [u8s, List.getElem?_eq_getElem hjl] using hj
    · rw [u8s_length, e5]
      omega
    · intro w' hh hb
      rw [u8s_length]
      refine h w' ⟨?_, .inr ⟨g, c, _, ?_, hbg, hh.out, ?_, hcm, ?_, ?_⟩⟩ hb
      · rw [u8s_length, length_splice _ _ _ hle, Nat.mul_one]
      · rw [length_splice _ _ _ hle]
      · rw [length_splice _ _ _ hle]; exact hnc
      · rw [List.size_toArray, length_splice _ _ _ (by rw [u8s_length, e5]; omega), e5, Nat.mul_one]
      · rw [length_splice _ _ _ hle, Nat.mul_one]
        show (splice cur.toList off (u8s m)).take L.length = _
        rw [splice_take _ _ _ _ (by rw [u8s_length]; exact hle) (by rw [e5]; exact hnc), htake, splice_u8s]

/-- append at an operation that hangs on a guard which lets it by. -/
theorem wpList_append_rd_w {P : Program} {w : World} {ops : Array Oper} {rest : List Oper} {o : Oper} {a : Act} {Q : Exit → Act → World → Prop} (hwt : Region.wanted o (yielded ops a.tmps) = true) (s x : Operand) (t : TypeId)
    (ho : o.op = .call { callee := .builtin .append, args := #[s, x], argTypes := #[t, t] })
    (base : Nat) (e : TypeId) {i : TypeInfo} (ht : P.underlying t = some (.slice e)) (hi : P.info? e = some i) (hz : i.zero = some (.int .u8 0)) (hsize : i.size = 1) (hby : i.bytes = 1)
    (A : Option Addr) (n c : Nat) (l : List UInt8) (hn : Hid (l.length = n)) (hs : a.eval s = .slice A n c) (hown : Own w base e A c l)
    (A1 : Option Addr) (n1 c1 : Nat) (m : List UInt8) (hn1 : Hid (m.length = n1)) (hx : a.eval x = .slice A1 n1 c1) (hr : Rd w A1 c1 m) (hlen : n + n1 ≤ 100000) (hbase : base ≤ w.heap.size)
    (h : ∀ A' c' w', Own w' base e A' c' (l ++ m) → Below base w w' → wpList P ops Q rest (a.put o.dst (.slice A' (n + n1) c')) w') : wpList P ops Q (o :: rest) a w := by
  refine wpList_step fun K hK => ?_
  rw [if_pos hwt]
  have hn' := hn.out
  have hn1' := hn1.out
  subst hn' hn1'
  obtain ⟨A', c', w', hr, h2, h3⟩ := run_append_rd (P := P) (ty := o.type) ht hi hz hsize hby hown hr hlen hbase
  unfold Oper.wp execOp
  simp only [ho, resolve, invoke, builtin, Sem.run_bind, Sem.run_pure, Result.andThen_ok, List.map_toArray, List.map_cons, List.map_nil, hs, hx, hr]
  exact hK _ _ (h A' c' w' h2 h3)

end Go.Proofs.Ytbhglgcnoidddaa
