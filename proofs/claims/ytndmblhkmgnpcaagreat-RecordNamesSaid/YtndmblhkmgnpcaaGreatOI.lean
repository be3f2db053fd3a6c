/-
  The bytes that each operation has: head.
-/
import Derived.Test.YtndmblhkmgnpcaaGreatRA
import Derived.Lib.AppendZerosOnto
import Derived.Laws.CopyOwn
import Derived.Test.YtndmblhkmgnpcaaGreatOA
import Derived.Lib.AppendZeros
import Derived.Test.YtndmblhkmgnpcaaGreatIQ
import Derived.Deep.RegionHeld
namespace Go.Proofs.YtndmblhkmgnpcaaGreat
open Go.RowKit
set_option linter.unusedVariables false

theorem zero_cells (k : Nat) : Builtin.zeroCells #[Value.int .u8 0] k = (u8s (List.replicate k 0)).toArray := by
  apply Array.ext
  · simp [Builtin.zeroCells, u8s]
  · intro i h1 h2
    have h3 : i % 1 = 0 := Nat.mod_one i
    simp [Builtin.zeroCells, u8s, h3]

theorem u8s_one (l : List UInt8) : ∀ u ∈ u8s l, u.oneCell' = true := by
  intro u hu
  simp only [u8s, List.mem_map] at hu
  obtain ⟨b, _, rfl⟩ := hu
  rfl

theorem run_append_zeros_own {P : Program} {w : World} {base : Nat} {t tn ty e : TypeId} {i : TypeInfo} {kq kn : IntKind} (ht : P.underlying t = some (.slice e)) (htn : P.underlying tn = some (.int kn)) (hi : P.info? e = some i) (hz : i.zero = some (.int .u8 0)) (hsize : i.size = 1) (hby : i.bytes = 1)
    {A : Option Addr} {c : Nat} {l : List UInt8} (hown : Own w base e A c l) (h0 : 0 < l.length) (k : Nat) (hlen : l.length + k ≤ 100000) (hbase : base ≤ w.heap.size) :
    ∃ A' c' w', (Builtin.append_ #[t, tn] ty #[.slice A l.length c, .int kq (k : Int)]).run P w = .ok (.slice A' (l.length + k) c') w' ∧ Own w' base e A' c' (l ++ List.replicate k 0) ∧ Below base w w' := by
  obtain ⟨hx, hform⟩ := hown
  rcases hform with ⟨hv, hn⟩ | ⟨g, cap, cur, hv, hbg, hg, hnc, hcm, hcs, htake⟩
  · omega
  · injection hv with e1 e2 e3
    subst e1 e3
    have hw : IntKind.i64.wrap (k : Int) = k := by rw [IntKind.wrap_i64]; omega
    have hneg : ¬ ((k : Int) < 0) := by omega
    have h48 : ¬ (281474976710656 < (k : Int)) := by omega
    rw [Nat.mul_one] at hcs htake
    by_cases hroom : l.length + k ≤ c
    · have hfit : l.length + (u8s (List.replicate k 0)).length ≤ cur.size := by rw [u8s_length, List.length_replicate, hcs]; exact hroom
      have hst := run_storeCells_at P g l.length e (u8s (List.replicate k 0)) 0 cur w hg (by simpa using hfit) (u8s_one _)
      simp only [Nat.add_zero] at hst
      refine ⟨some ⟨g, 0, none⟩, c, w.setRow g (cur.toList.take l.length ++ u8s (List.replicate k 0) ++ cur.toList.drop (l.length + (u8s (List.replicate k 0)).length)).toArray, ?_, ?_, ?_⟩
      · by_cases hk : k = 0
        · subst hk
          have hw0 : IntKind.i64.wrap 0 = 0 := by rw [IntKind.wrap_i64]; omega
          simp only [List.replicate_zero, u8s, List.map_nil] at hst ⊢
          simp [Builtin.append_, run_underlying ht, run_underlying htn, sizeOf, typeInfo, hi, hsize, hby, asInt, asIntOf, hw0, hnc, Addr.add_lit, hst]
        · have hks : ¬ (k * 1 = 0) := by omega
          simp [Builtin.append_, run_underlying ht, run_underlying htn, sizeOf, typeInfo, zeroValue, hi, hz, hsize, hby, asInt, asIntOf, hw, hneg, h48, hk, hroom, Addr.add_lit, Value.cells, zero_cells, hst]
      · refine ⟨by simp [u8s_length], .inr ⟨g, c, _, by simp, hbg, setRow_heap w g cur _ e _ hg, by simpa using hroom, hcm, ?_, ?_⟩⟩
        · simp [u8s_length]
          omega
        · rw [htake, u8s_append]
          simp only [Nat.mul_one, List.length_append, List.length_replicate]
          exact List.take_left' (by simp [u8s_length])
      · exact below_setRow (Below.refl _ _) hbg _
    · have hk : 0 < k := by omega
      have holds : ∀ j u, (u8s l)[j]? = some u → w.cell? ((⟨g, 0, none⟩ : Addr).add j) = some u := World.ownsRow.cells (g := g) (n := l.length) (e := e) (size := 1) (base := base) (v := .slice (some ⟨g, 0, none⟩) l.length c) ⟨hx, .inr ⟨g, c, cur, rfl, hbg, hg, hnc, hcm, by rw [Nat.mul_one]; exact hcs, by rw [Nat.mul_one]; exact htake⟩⟩ rfl
      have hold := run_firstCells_some (P := P) w.drew i.size l.length ⟨g, 0, none⟩ l.length c (u8s l) (by rw [hsize]; simpa using hx) holds
      have hr := Lib.run_append_grow_zeros (P := P) w t tn ty e i _ kq kn ht htn hi hz (some ⟨g, 0, none⟩) l.length c (u8s l) hold k hk (by rw [hsize]; omega) (by omega) (by omega) (by rw [hby]; omega) (by rw [hby]; exact growslice_fits (by omega) (by omega))
      have hge := grownCap_ge w (l.length + k) c e
      have hcm' : grownCap w (l.length + k) c e ≤ maxLen := grownCap_le_maxLen w _ _ _ (by unfold maxLen; omega)
      refine ⟨_, _, _, hr, ?_, ?_⟩
      · refine ⟨by simp [u8s_length], .inr ⟨w.heap.size, grownCap w (l.length + k) c e, _, by simp, hbase, heap_alloc_new w.drew _, by simpa using hge, hcm', ?_, ?_⟩⟩
        · simp only [Value.cells, zero_cells, Array.size_append, List.size_toArray, u8s_length, List.length_replicate, Nat.mul_one]
          omega
        · rw [u8s_append]
          simp only [Value.cells, zero_cells, Array.toList_append, List.append_assoc, Nat.mul_one, List.length_append, List.length_replicate]
          rw [← List.append_assoc]
          exact List.take_left' (by simp [u8s_length])
      · exact ((Below.refl base w).drew).alloc hbase _

/-- append(s, make([]byte, k)...) at a plain region's list of operations. -/
theorem wpList_append_zeros {P : Program} {w : World} {ops : Array Oper} {rest : List Oper} {o : Oper} {a : Act} {Q : Exit → Act → World → Prop} (hgd : o.guard = none) (s x : Operand) (t tn : TypeId)
    (ho : o.op = .call { callee := .builtin .append, args := #[s, x], argTypes := #[t, tn] })
    (base : Nat) (e : TypeId) {i : TypeInfo} {kn : IntKind} (ht : P.underlying t = some (.slice e)) (htn : P.underlying tn = some (.int kn)) (hi : P.info? e = some i) (hz : i.zero = some (.int .u8 0)) (hsize : i.size = 1) (hby : i.bytes = 1)
    (A : Option Addr) (n c : Nat) (l : List UInt8) (hn : Hid (l.length = n)) (hs : a.eval s = .slice A n c) (hown : Own w base e A c l)
    (kq : IntKind) (z : Int) (k : Nat) (hk : Hid ((k : Int) = z)) (hx : a.eval x = .int kq z) (h0 : 0 < n) (hlen : n + k ≤ 100000) (hbase : base ≤ w.heap.size)
    (h : ∀ A' c' w', Own w' base e A' c' (l ++ List.replicate k 0) → Below base w w' → wpList P ops Q rest (a.put o.dst (.slice A' (n + k) c')) w') : wpList P ops Q (o :: rest) a w := by
  refine wpList_plain hgd fun K hK => ?_
  have hn' := hn.out
  have hk' := hk.out
  subst hn' hk'
  obtain ⟨A', c', w', hr, h2, h3⟩ := run_append_zeros_own (P := P) (ty := o.type) (kq := kq) ht htn hi hz hsize hby hown h0 k hlen hbase
  unfold Oper.wp execOp
  simp only [ho, resolve, invoke, builtin, Sem.run_bind, Sem.run_pure, Result.andThen_ok, List.map_toArray, List.map_cons, List.map_nil, hs, hx, hr]
  exact hK _ _ (h A' c' w' h2 h3)

theorem splice_take {α : Type} (L cs : List α) (n off : Nat) (h : off + cs.length ≤ n) (hn : n ≤ L.length) : (splice L off cs).take n = splice (L.take n) off cs := by
  apply List.ext_getElem?
  intro j
  simp only [splice, List.getElem?_take, List.getElem?_append, List.length_take, List.getElem?_drop]
  have e1 : min off L.length = off := by omega
  have e2 : min off (min n L.length) = off := by omega
  rw [e1, e2]
  by_cases hj : j < n
  · rw [if_pos hj]
    by_cases h1 : j < off
    · rw [if_pos h1, if_pos h1, if_pos h1, if_pos h1]
      try rw [if_pos hj]
    · rw [if_neg h1, if_neg h1]
      by_cases h2 : j - off < cs.length
      · rw [if_pos h2, if_pos h2]
      · rw [if_neg h2, if_neg h2, if_pos (by omega)]
  · rw [if_neg hj, if_neg (by omega), if_neg (by omega), if_neg (by omega)]
theorem splice_u8s (L m : List UInt8) (off : Nat) : splice (u8s L) off (u8s m) = u8s (splice L off m) := by
  simp [splice, u8s, List.map_take, List.map_drop]

/-- copy(s[off:], m) into a row of the call's own. -/
theorem wpList_copy_rd {P : Program} {w : World} {ops : Array Oper} {rest : List Oper} {o : Oper} {a : Act} {Q : Exit → Act → World → Prop} (hgd : o.guard = none) (d s : Operand) (t : TypeId)
    (ho : o.op = .call { callee := .builtin .copy, args := #[d, s], argTypes := #[t, t] }) (base : Nat) (e : TypeId) {i : TypeInfo} (ht : P.underlying t = some (.slice e)) (hi : P.info? e = some i) (hsize : i.size = 1)
    (g off dLen dCap : Nat) (hd : a.eval d = .slice (some ⟨g, off, none⟩) dLen dCap) (n c : Nat) (L : List UInt8) (hn : Hid (L.length = n)) (hown : Own w base e (some ⟨g, 0, none⟩) c L)
    (A1 : Option Addr) (n1 c1 : Nat) (m : List UInt8) (hn1 : Hid (m.length = n1)) (hs : a.eval s = .slice A1 n1 c1) (hr : Rd w A1 c1 m) (hfit : n1 ≤ dLen) (hle : off + n1 ≤ n)
    (h : ∀ w', Own w' base e (some ⟨g, 0, none⟩) c (splice L off m) → Below base w w' → wpList P ops Q rest (a.put o.dst (goInt n1)) w') : wpList P ops Q (o :: rest) a w := by
  have hn' := hn.out
  have hn1' := hn1.out
  subst hn' hn1'
  obtain ⟨hx, hform⟩ := hown
  rcases hform with ⟨hv, hn0⟩ | ⟨g', cap, cur, hv, hbg, hg, hnc, hcm, hcs, htake⟩
  · injection hv with e1 e2 e3
    cases e1
  · injection hv with e1 e2 e3
    injection e1 with e1
    injection e1 with e1
    subst e1 e3
    rw [Nat.mul_one] at hcs htake
    have e5 : cur.toList.length = c := by simpa using hcs
    refine wpList_copy_splice hgd d s t t ho e ht (by rw [hi]; simp [hsize]) (some ⟨g, off, none⟩) A1 dLen dCap m.length c1 hd hs g off cur.toList e (by simpa using hg) (u8s m) (by rw [u8s_length]; exact (Nat.min_eq_left hfit).symm) ?_ ?_ (u8s_one _) base w (Below.refl _ _) hbg ?_
    · intro hp
      rw [u8s_length] at hp
      obtain ⟨b, o1, hA, hc⟩ := hr.2.2 hp
      refine ⟨rfl, _, hA, fun j v hj => ?_⟩
      have hjl : j < m.length := by
        have := (List.getElem?_eq_some_iff.1 hj).1
        rwa [u8s_length] at this
      rw [Addr.add_lit, hc j hjl]
      simpa [u8s, List.getElem?_eq_getElem hjl] using hj
    · rw [u8s_length, e5]
      omega
    · intro w' hh hb
      rw [u8s_length]
      refine h w' ⟨?_, .inr ⟨g, c, _, ?_, hbg, hh.out, ?_, hcm, ?_, ?_⟩⟩ hb
      · rw [u8s_length, length_splice _ _ _ hle, Nat.mul_one]
      · rw [length_splice _ _ _ hle]
      · rw [length_splice _ _ _ hle]; exact hnc
      · rw [List.size_toArray, length_splice _ _ _ (by rw [u8s_length, e5]; omega), e5, Nat.mul_one]
      · rw [length_splice _ _ _ hle, Nat.mul_one]
        show (splice cur.toList off (u8s m)).take L.length = _
        rw [splice_take _ _ _ _ (by rw [u8s_length]; exact hle) (by rw [e5]; exact hnc), htake, splice_u8s]

/-- append at an operation that hangs on a guard which lets it by. -/
theorem wpList_append_rd_w {P : Program} {w : World} {ops : Array Oper} {rest : List Oper} {o : Oper} {a : Act} {Q : Exit → Act → World → Prop} (hwt : Region.wanted o (yielded ops a.tmps) = true) (s x : Operand) (t : TypeId)
    (ho : o.op = .call { callee := .builtin .append, args := #[s, x], argTypes := #[t, t] })
    (base : Nat) (e : TypeId) {i : TypeInfo} (ht : P.underlying t = some (.slice e)) (hi : P.info? e = some i) (hz : i.zero = some (.int .u8 0)) (hsize : i.size = 1) (hby : i.bytes = 1)
    (A : Option Addr) (n c : Nat) (l : List UInt8) (hn : Hid (l.length = n)) (hs : a.eval s = .slice A n c) (hown : Own w base e A c l)
    (A1 : Option Addr) (n1 c1 : Nat) (m : List UInt8) (hn1 : Hid (m.length = n1)) (hx : a.eval x = .slice A1 n1 c1) (hr : Rd w A1 c1 m) (hlen : n + n1 ≤ 100000) (hbase : base ≤ w.heap.size)
    (h : ∀ A' c' w', Own w' base e A' c' (l ++ m) → Below base w w' → wpList P ops Q rest (a.put o.dst (.slice A' (n + n1) c')) w') : wpList P ops Q (o :: rest) a w := by
  refine wpList_step fun K hK => ?_
  rw [if_pos hwt]
  have hn' := hn.out
  have hn1' := hn1.out
  subst hn' hn1'
  obtain ⟨A', c', w', hr, h2, h3⟩ := run_append_rd (P := P) (ty := o.type) ht hi hz hsize hby hown hr hlen hbase
  unfold Oper.wp execOp
  simp only [ho, resolve, invoke, builtin, Sem.run_bind, Sem.run_pure, Result.andThen_ok, List.map_toArray, List.map_cons, List.map_nil, hs, hx, hr]
  exact hK _ _ (h A' c' w' h2 h3)

end Go.Proofs.YtndmblhkmgnpcaaGreat

namespace Go.Proofs.YtndmblhkmgnpcaaGreat
open Go.RowKit
set_option linter.unusedVariables false
set_option linter.unusedSimpArgs false

def fill (n k : Nat) : Nat → Array Value
  | 0 => madeCells #[.int .u8 0] k
  | j + 1 => (fill n k j).setIfInBounds j (.int .u8 ((n : Int) / 2 ^ (8 * (k - 1 - j)) % 256))
theorem fill_size (n k : Nat) : ∀ j, (fill n k j).size = k
  | 0 => by simp [fill, size_madeCells]
  | j + 1 => by simp [fill, fill_size n k j]
theorem fill_at {n k j : Nat} (h : j < k) : ∃ v, (fill n k j)[j]? = some v := ⟨_, Array.getElem?_eq_getElem (by rw [fill_size]; exact h)⟩
theorem fill_get (n k : Nat) : ∀ j i, i < j → i < k → (fill n k j)[i]? = some (.int .u8 ((n : Int) / 2 ^ (8 * (k - 1 - i)) % 256))
  | j + 1, i, h, hk => by
    rw [fill, Array.getElem?_setIfInBounds]
    by_cases e : j = i
    · subst e; simp [fill_size, hk]
    · rw [if_neg e]; exact fill_get n k j i (by omega) hk
theorem dg_get : ∀ (k n i : Nat) (h : i < (dg k n).length), ((dg k n)[i].toNat : Int) = (n : Int) / 2 ^ (8 * (k - 1 - i)) % 256
  | 0, n, i, h => by simp [dg] at h
  | k + 1, n, i, h => by
    have hl := dg_length k (n / 256)
    simp only [dg, List.getElem_append]
    rw [dg_length] at h
    by_cases hi : i < (dg k (n / 256)).length
    · rw [dif_pos hi, dg_get k (n / 256) i hi]
      have e : 8 * (k + 1 - 1 - i) = 8 + 8 * (k - 1 - i) := by omega
      rw [e, Int.pow_add, Int.natCast_ediv, Int.ediv_ediv_of_nonneg (by decide)]
      rfl
    · rw [dif_neg hi]
      have e : i = k := by omega
      subst e
      simp
theorem fill_done (n k : Nat) : fill n k k = (u8s (dg k n)).toArray := by
  apply Array.ext_getElem?
  intro i
  by_cases hi : i < k
  · rw [fill_get n k k i hi hi]
    have hd : i < (dg k n).length := by rw [dg_length]; exact hi
    simp [u8s, List.getElem?_eq_getElem hd, dg_get k n i hd]
  · rw [Array.getElem?_eq_none (by rw [fill_size]; omega), Array.getElem?_eq_none (by simp [u8s, dg_length]; omega)]

set_option maxRecDepth 100000 in
set_option maxHeartbeats 800000 in
theorem digits_of (x : Nat) (z : Int) (k : Nat) (v : Int) (hz : Hid ((x : Int) = z)) (z0 : 0 ≤ z) (z1 : z < 9223372036854775808) (hv : Hid (v = (k : Int))) (hk : k ≤ 7) (w : World) :
    Calls Tryz.prog 138 #[.int .i64 z, .int .i64 v] w fun e w' => e = .returned (.slice (some ⟨w.heap.size, 0, none⟩) k k) ∧ w' = w.alloc (.cells (u8s (dg k x)).toArray 5) := by
  obtain ⟨i0, hi0, hz0, hz1, hz2⟩ := info_parts info_u8
  have hv7 : v ≤ 7 := by rw [hv.out]; omega
  have hmk := fun W : World => run_make (P := Tryz.prog) W 51 5 i0 _ Tryz.underlying51 hi0 hz0 .i64 .i64 (k : Int) (k : Int) (by omega) (by omega) (by rw [hz2]; omega) (by omega)
  obtain rfl := hv.out
  go_enter Tryz.func138, Tryz.ntmps138
  go_wp2
  clear hmk hi0 hz0 hz1 hz2
  go_loopw [6, 11] (fun u i wr => ∃ j : Nat, j ≤ k ∧ i = .int .i64 (j : Int) ∧ wr = w.alloc (.cells (fill x k j) 5)) (fun _ i _ => k - (intOf i).toNat)
  case atStart => exact ⟨0, Nat.zero_le _, rfl, rfl⟩
  case round =>
    obtain ⟨j, hj, rfl, rfl⟩ := hrel
    by_cases hlt : j < k
    · obtain ⟨v0, hv0⟩ := fill_at (n := x) hlt
      obtain ⟨y, hy⟩ : ∃ y : Int, (k : Int) - 1 - (j : Int) = y := ⟨_, rfl⟩
      have hy0 : 0 ≤ y := by omega
      have hy1 : y ≤ 6 := by omega
      have HS := hid (show z / 2 ^ (8 * y).toNat % 256 = (x : Int) / 2 ^ (8 * (k - 1 - j)) % 256 by rw [hz.out, show (8 * y).toNat = 8 * (k - 1 - j) by omega])
      go_wp2
      go_roundw
      case rel => exact ⟨j + 1, by omega, by go_num, by rw [fill, ← HS.out]⟩
      case measure => simp [intOf]; omega
    · have hf := hid (fill_done x k)
      have ej : j = k := by omega
      subst ej
      go_wp2
      go_ret
      exact ⟨rfl, by rw [hf.out]⟩

set_option maxRecDepth 100000 in
set_option maxHeartbeats 800000 in
theorem grow_of (k : Nat) (z : Int) (hz : Hid ((k : Int) = z)) (h0 : 0 < k) (hk : k ≤ 10000) (w : World) :
    Calls Tryz.prog 85 #[.slice none 0 0, .int .i64 z] w fun e w' => ∃ g c, e = .returned (.slice (some ⟨g, 0, none⟩) 0 c) ∧ Own w' w.heap.size 5 (some ⟨g, 0, none⟩) c [] ∧ Below w.heap.size w w' := by
  obtain ⟨i0, hi0, hz0, hz1, hz2⟩ := info_parts info_u8
  have hr := Lib.run_append_nil_zeros (P := Tryz.prog) w 51 3 51 5 i0 _ .i64 .i64 Tryz.underlying51 Tryz.underlying3 hi0 hz0 k h0 (by omega) (by omega) (by rw [hz2]; omega)
  rw [hz.out] at hr
  have hge := grownCap_ge w k 0 5
  have hcm : grownCap w k 0 5 ≤ maxLen := grownCap_le_maxLen w _ _ _ (by unfold maxLen; omega)
  have hown : Own (w.drew.alloc (.cells (Builtin.zeroCells (Value.int .u8 0).cells k ++ Builtin.zeroCells (Value.int .u8 0).cells (grownCap w k 0 5 - k)) 5)) w.heap.size 5 (some ⟨w.heap.size, 0, none⟩) (grownCap w k 0 5) [] :=
    ⟨by simp [u8s], .inr ⟨w.heap.size, grownCap w k 0 5, _, by simp, Nat.le_refl _, heap_alloc_new w.drew _, Nat.zero_le _, hcm, by
      simp only [Value.cells, zero_cells, Array.size_append, List.size_toArray, u8s_length, List.length_replicate, Nat.mul_one]
      omega, by simp [u8s]⟩⟩
  have hB : Below w.heap.size w (w.drew.alloc (.cells (Builtin.zeroCells (Value.int .u8 0).cells k ++ Builtin.zeroCells (Value.int .u8 0).cells (grownCap w k 0 5 - k)) 5)) := ((Below.refl _ w).drew).alloc (Nat.le_refl _) _
  have HC := hid hcm
  have hc9 : (grownCap w k 0 5 : Int) ≤ 9223372036854775807 := by unfold maxLen at hcm; omega
  have z0 : 0 < z := by rw [← hz.out]; omega
  have z1 : z ≤ 10000 := by rw [← hz.out]; omega
  clear hcm
  generalize grownCap w k 0 5 = cap at *
  generalize w.drew.alloc _ = W at *
  have HR := hid hr
  clear hr
  go_enter Tryz.func85, Tryz.ntmps85
  go_wp2_with (at_builtin; refine Lib.wpList_append_run _ rfl (.tmp 20) (.tmp 21) 51 3 rfl (.slice none 0 0) (.int .i64 z) rfl rfl _ _ HR.out ?_)
  go_ret
  exact ⟨_, _, rfl, hown, hB⟩

/-- Slices of bytes that lie side by side in a row. -/
def Parts (w : World) (g : Nat) (ls : List (List UInt8)) : Prop := ∀ j (h : j < ls.length), ∃ A c, w.cell? ⟨g, j, none⟩ = some (.slice A (ls[j]).length c) ∧ Rd w A c ls[j]
theorem flat_take {ls : List (List UInt8)} {j : Nat} (h : j < ls.length) : (ls.take (j + 1)).flatten = (ls.take j).flatten ++ ls[j] := by
  rw [List.take_succ_eq_append_getElem h, List.flatten_append]
  simp
theorem flat_le (ls : List (List UInt8)) (j : Nat) : (ls.take j).flatten.length ≤ ls.flatten.length := by
  have := congrArg (fun l => l.flatten.length) (List.take_append_drop j ls)
  simp only [List.flatten_append, List.length_append] at this
  omega

set_option maxRecDepth 100000 in
set_option maxHeartbeats 1600000 in
theorem concat_of (g m k : Nat) (ls : List (List UInt8)) (L : List UInt8) (hm : Hid (ls.length = m)) (hL : Hid (ls.flatten = L ∧ L.length = k)) (h0 : 0 < k) (h5 : k ≤ 1000) (hm5 : m ≤ 100) (w : World) (hp : Parts w g ls) :
    Calls Tryz.prog 58 #[.slice (some ⟨g, 0, none⟩) m m] w fun e w' => ∃ A c, e = .returned (.slice A k c) ∧ Own w' w.heap.size 5 A c L ∧ Below w.heap.size w w' := by
  obtain ⟨i0, hi0, hz0, hz1, hz2⟩ := info_parts info_u8
  have HP := hid hp
  have HF := hid (flat_le ls)
  clear hp
  go_enter Tryz.func58, Tryz.ntmps58
  go_wp2
  go_loop [3, 5, 11] (fun s x i => ∃ (j : Nat) (y : Int), j ≤ m ∧ i = .int .i64 (j : Int) ∧ s = .int .i64 y ∧ Hid (((ls.take j).flatten.length : Int) = y) ∧ 0 ≤ y ∧ y ≤ 1000) (fun _ _ i => m - (intOf i).toNat)
  case atStart => exact ⟨0, 0, by omega, rfl, rfl, hid (by simp), by omega, by omega⟩
  case round =>
    obtain ⟨j, y, hj, rfl, rfl, hy, y0, y1⟩ := hrel
    by_cases hlt : j < m
    · have hl := hm.out
      obtain ⟨A, c, h1, h2⟩ := HP.out j (by omega)
      rw [show (⟨g, j, none⟩ : Addr) = ⟨g, 0 + j, none⟩ by simp] at h1
      have hs := flat_take (ls := ls) (j := j) (by omega)
      have hle := HF.out (j + 1)
      rw [hs, List.length_append] at hle
      generalize ls[j]'(by omega) = l at h1 h2 hs hle
      obtain ⟨q, hq⟩ : ∃ q, l.length = q := ⟨_, rfl⟩
      rw [hq] at h1 hle
      have hx := h2.cap
      have hx2 := h2.len
      have hyq : y + (q : Int) ≤ 1000 := by have := hy.out; have := hL.out; rw [hL.out.1] at hle; omega
      have HS := hid (show (((ls.take (j + 1)).flatten.length : Nat) : Int) = y + (q : Int) by rw [hs, List.length_append, hq]; have := hy.out; omega)
      have hlt2 : (j : Int) < (m : Int) := by omega
      have h1' : w.cell? ⟨g, j, none⟩ = some (.slice A q c) := by simpa using h1
      clear hl hle hs h2 h1 hx hx2 hq
      go_wp2
      go_round
      case rel => exact ⟨j + 1, y + (q : Int), by omega, by go_num, rfl, HS, by omega, by omega⟩
      case measure => simp [intOf]; omega
    · have hlt2 : ¬ (j : Int) < (m : Int) := by omega
      have ej : ls.take j = ls := List.take_of_length_le (by have := hm.out; omega)
      have hyk : (k : Int) = y := by have := hy.out; rw [ej, hL.out.1, hL.out.2] at this; exact this
      have HY := hid hyk
      have HFL := hid hL.out.1
      clear ej hyk hy
      go_wp2_with fail
      refine (grow_of k y HY h0 (by omega) _).mono ?_
      rintro e w1 ⟨g1, c1, rfl, ho1, b1⟩
      go_wp2
      go_loopw [6, 8, 27] (fun b x i wr => ∃ (j q : Nat) (B : Option Addr) (d : Nat), j ≤ m ∧ i = .int .i64 (j : Int) ∧ b = .slice B q d ∧ Hid ((ls.take j).flatten.length = q) ∧ q ≤ 1000 ∧ Own wr w.heap.size 5 B d (ls.take j).flatten ∧ Below w.heap.size w wr) (fun _ _ i _ => m - (intOf i).toNat)
      case atStart => exact ⟨0, 0, some ⟨g1, 0, none⟩, c1, by omega, rfl, rfl, hid (by simp), by omega, by simpa using ho1, b1⟩
      case round =>
        obtain ⟨j, q, B, d, hj, rfl, rfl, hq, hq5, ho, hb⟩ := hrel
        by_cases hlt : j < m
        · have hl := hm.out
          obtain ⟨A, c, h1, h2⟩ := HP.out j (by omega)
          have hs := flat_take (ls := ls) (j := j) (by omega)
          have hle := HF.out (j + 1)
          rw [hs, List.length_append] at hle
          generalize ls[j]'(by omega) = l at h1 h2 hs hle
          obtain ⟨p, hp⟩ : ∃ p, l.length = p := ⟨_, rfl⟩
          rw [hp] at h1 hle
          replace h1 := keep hb h1
          replace h2 := h2.keep hb
          have hpq : q + p ≤ 1000 := by have := hq.out; have := hL.out; rw [hL.out.1] at hle; omega
          have HS := hid hs
          have HP2 := hid hp
          have hlt2 : (j : Int) < (m : Int) := by omega
          clear hl hle hs hp
          go_wp2_with (at_builtin; refine wpList_append_rd rfl (.tmp 31) (.tmp 32) _ rfl w.heap.size 5 Tryz.underlying51 hi0 hz0 hz1 hz2 B q d _ hq rfl ho A p c l HP2 rfl h2 (by omega) hb.size ?_; intro B' d' w2 ho2 b2)
          go_roundw
          case rel => exact ⟨j + 1, q + p, B', d', by omega, by go_num, rfl, hid (by rw [HS.out, List.length_append, hq.out, HP2.out]), hpq, by rw [HS.out]; exact ho2, hb.trans b2⟩
          case measure => simp [intOf]; omega
        · have hlt2 : ¬ (j : Int) < (m : Int) := by omega
          have ej : ls.take j = ls := List.take_of_length_le (by have := hm.out; omega)
          have HE := hid (show (ls.take j).flatten = L ∧ q = k by rw [ej]; refine ⟨HFL.out, ?_⟩; have := hq.out; rw [ej, HFL.out, hL.out.2] at this; exact this.symm)
          rw [HE.out.1] at ho
          obtain rfl := HE.out.2
          clear ej
          go_wp2
          go_ret
          exact ⟨B, d, rfl, ho, hb⟩
end Go.Proofs.YtndmblhkmgnpcaaGreat

namespace Go.Proofs.YtndmblhkmgnpcaaGreat
open Go.RowKit
set_option linter.unusedVariables false
set_option linter.unusedSimpArgs false

theorem below_al {w X : World} (h : Below w.heap.size w X) (o : Obj) : Below w.heap.size w (X.alloc o) := h.alloc h.size o

set_option maxHeartbeats 1600000 in
theorem putId_own (L : List UInt8) (m : Nat) (j : Int) (l c k n : Int) (a b d : Nat) (h : Hid (Hn l c k a b d)) (hL : Hid ((if mayI l k n = true then iby a b d n.toNat else []) = L ∧ L.length = m ∧ er (mayI l k n) = j)) (w : World) :
    Calls Tryz.prog 137 #[.agg #[.int .u8 l, .int .u32 c, .int .u8 k, .int .i64 n]] w fun e w' => ∃ A' c', e = .returned (.tuple #[.slice A' m c', .int .i64 j]) ∧ Own w' w.heap.size 5 A' c' L ∧ Below w.heap.size w w' := by
  go_enter Tryz.func137, Tryz.ntmps137
  cases hq : mayI l k n
  · obtain ⟨h1, h2, h3⟩ := hL.out
    rw [if_neg (by simp [hq])] at h1
    rw [hq] at h3
    subst h1 h2 h3
    have HQ := hid hq
    clear hq hL
    go_wp2_with fail
    refine (check_id l c k n _).mono ?_
    rw [HQ.out]
    rintro e w1 ⟨rfl, b1⟩
    go_wp2_with fail
    go_ret2
    exact ⟨none, 0, rfl, Own.nil _ _ _, below_in (by go_grown) b1⟩
  · obtain ⟨h1, h2, h3⟩ := hL.out
    rw [if_pos hq] at h1
    rw [hq] at h3
    rw [← h1, iby_length] at h2
    subst h1 h2 h3
    have hn : 1 ≤ n ∧ n ≤ 1099511627776 := by simp [mayI] at hq; omega
    have n0 : 0 ≤ n := by omega
    have n1 : n < 9223372036854775808 := by omega
    have HN := hid (show ((n.toNat : Nat) : Int) = n by omega)
    have HQ := hid hq
    clear hq hL hn
    go_wp2_with fail
    refine (check_id l c k n _).mono ?_
    rw [HQ.out]
    rintro e w1 ⟨rfl, b1⟩
    have hb : Below w.heap.size w w1 := below_in (by go_grown) b1
    (have x0 : w1.cell? ⟨w.heap.size, 0, none⟩ = some (.int .u8 l) := (keep b1 (by simp)); have x1 : w1.cell? ⟨w.heap.size, 1, none⟩ = some (.int .u32 c) := (keep b1 (by simp)); have x2 : w1.cell? ⟨w.heap.size, 2, none⟩ = some (.int .u8 k) := (keep b1 (by simp)); have x3 : w1.cell? ⟨w.heap.size, 3, none⟩ = some (.int .i64 n) := (keep b1 (by simp)))
    clear b1
    go_wp2_with fail
    (have y0 := fun w' (h : Below w1.heap.size w1 w') => keep h x0; have y1 := fun w' (h : Below w1.heap.size w1 w') => keep h x1; have y2 := fun w' (h : Below w1.heap.size w1 w') => keep h x2; have y3 := fun w' (h : Below w1.heap.size w1 w') => keep h x3)
    clear x0 x1 x2 x3
    go_region_held (fun w' => Below w1.heap.size w1 w') (first | assumption | exact (Below.refl _ _).drew | exact Below.trans (w := w1) (by assumption) hb2 | exact (below_step (wo := w1) (W := w1.drew) (Below.refl _ _).drew hb1).trans hb2 | exact below_step (by assumption) hb1) (first | (go_at_call 108; refine (handleBytes_any l c k a b d h _).mono ?_; rintro e w2 ⟨A1, c1, rfl, ho, hb1⟩) | (go_at_call 136; refine (put_any w1.heap.size A1 6 c1 (hby a b d) (hid (hby_length _ _ _)) n.toNat n HN n0 n1 7 7 (hid rfl) _ (by omega) (by omega) (ho.mono (by first | exact Nat.le_refl _ | exact Below.size (by assumption))) (by exact Below.size (w := w1) (by assumption))).mono ?_; rintro e w3 ⟨A2, c2, rfl, ho2, hb2⟩))
    have hB : Below w1.heap.size w1 w3 := by assumption
    go_wp2
    go_ret2
    exact ⟨A2, c2, rfl, ho2.mono hb.size, below_in hb hB⟩

/-- An id, a handle, a row that may be put: its bytes. -/
theorem putI_of (l c k n : Int) (hh : Idn l c k n) (hm : mayI l k n = true) (w : World) :
    Calls Tryz.prog 137 #[.agg #[.int .u8 l, .int .u32 c, .int .u8 k, .int .i64 n]] w fun e w' => ∃ A' c', e = .returned (.tuple #[.slice A' 13 c', .int .i64 0]) ∧ Own w' w.heap.size 5 A' c' (iB l c k n) ∧ Below w.heap.size w w' :=
  putId_own (iB l c k n) 13 0 l c k n _ _ _ (hid (hn_of hh.han.lab hh.han.k0 hh.han.k1)) (hid ⟨by rw [hm]; rfl, iB_length _ _ _ _, by rw [hm]; rfl⟩) w
theorem putH_of (l c k : Int) (hh : Han l c k) (hm : mayH l k = true) (w : World) :
    Calls Tryz.prog 80 #[.agg #[.int .u8 l, .int .u32 c, .int .u8 k]] w fun e w' => ∃ A' c', e = .returned (.tuple #[.slice A' 6 c', .int .i64 0]) ∧ Rd w' A' c' (hB l c k) ∧ Below w.heap.size w w' :=
  putHandle_of (hB l c k) 6 0 l c k _ _ _ (hid (hn_of hh.lab hh.k0 hh.k1)) (hid ⟨by rw [hm]; rfl, hB_length _ _ _, by rw [hm]; rfl⟩) w
theorem putR_of (A : Option Addr) (n c : Nat) (l : List Int) (k : Nat) (hn : Hid (l.length = n)) (hk : Hid ((wide l).length = k)) (hc : chk l = 0) (w : World) (hr : Ri w A c l) :
    Calls Tryz.prog 140 #[.slice A n c] w fun e w' => ∃ A' c', e = .returned (.tuple #[.slice A' k c', .int .i64 0]) ∧ Rd w' A' c' (wide l) ∧ Below w.heap.size w w' := by
  refine (rput_any A n c l hn w hr).mono ?_
  rintro e w' ⟨A', c', rfl, h1, h2⟩
  have e1 : putV l = wide l := by rw [putV, if_pos hc]
  rw [e1] at h1 ⊢
  rw [hc, hk.out]
  exact ⟨A', c', rfl, h1, h2⟩

/-- Four cells stored whole. -/
theorem wpList_store_4 {ops : Array Oper} {rest : List Oper} {op : Oper} {a : Act} {W : World} {Q : Exit → Act → World → Prop} (hgd : op.guard = none) (t : TypeId) (d : TypeDesc) (hu : Tryz.prog.underlying t = some d) (hd : d.isRow = true) (hi : (Tryz.prog.info? t).map (·.size) = some 4) (x y : Operand) (ho : op.op = .store t x y)
    (b : Nat) (hx : a.eval x = .pointer (some ⟨b, 0, none⟩)) (v0 v1 v2 v3 : Value) (hy : a.eval y = .agg #[v0, v1, v2, v3]) (h1 : #[v0, v1, v2, v3].all (·.oneCell') = true) (ht : W.there b 0 4) (base : Nat) (hb : base ≤ b)
    (h : ∀ W', W'.cell? ⟨b, 0, none⟩ = some v0 → W'.cell? ⟨b, 1, none⟩ = some v1 → W'.cell? ⟨b, 2, none⟩ = some v2 → W'.cell? ⟨b, 3, none⟩ = some v3 → Below base W W' → (∀ k, k ≠ b → W'.heap[k]? = W.heap[k]?) → wpList Tryz.prog ops Q rest (a.put op.dst undef) W') : wpList Tryz.prog ops Q (op :: rest) a W := by
  refine wpList_store_mid hgd t x y ho b 0 _ hx hy ht hi h1 ?_
  have hs := World.rangeAt_setCells_same W b 0 [v0, v1, v2, v3] ht
  exact h _ (hs 0 _ rfl) (hs 1 _ rfl) (hs 2 _ rfl) (hs 3 _ rfl) (below_setCells b base hb _ _ _) (fun k hk => heap_setCells b _ _ _ k hk)
theorem there4_new (w : World) (v0 v1 v2 v3 : Value) (t : TypeId) : (w.alloc (.cells #[v0, v1, v2, v3] t)).there w.heap.size 0 4 := fun j hj => by
  refine ⟨?_, ?_⟩
  · rw [cell_of_row _ _ _ _ t (0, 0) (heap_alloc_last w _)]
    simp; omega
  · exact frozen_of_row _ _ _ _ _ (heap_alloc_last w _)

theorem digitsL_of (k : Nat) (v z : Int) (x : Nat) (hz : Hid ((x : Int) = z)) (z0 : 0 ≤ z) (z1 : z < 9223372036854775808) (hv : v = (k : Int)) (hk : k ≤ 7) (w : World) :
    Calls Tryz.prog 138 #[.int .i64 z, .int .i64 v] w fun e w' => ∃ A, e = .returned (.slice A k k) ∧ Own w' w.heap.size 5 A k (dg k x) ∧ Below w.heap.size w w' := by
  refine (digits_of x z k v hz z0 z1 (hid hv) hk w).mono ?_
  rintro e w' ⟨rfl, rfl⟩
  have h := Own.lit w 5 (dg k x) (Nat.le_refl _) (by rw [dg_length]; omega)
  rw [dg_length] at h
  exact ⟨_, rfl, h, (Below.refl _ _).alloc (Nat.le_refl _) _⟩

theorem zeros_own (w : World) : Own (w.alloc (.cells (madeCells #[Value.int .u8 0] 13) 5)) w.heap.size 5 (some ⟨w.heap.size, 0, none⟩) 13 (iB 0 0 0 0) := by
  have e : madeCells #[Value.int .u8 0] 13 = (u8s (iB 0 0 0 0)).toArray := by
    apply Array.ext'
    rw [toList_madeCells_one, iB_zero]
    simp [u8s]
  rw [e]
  exact Own.lit w 5 (iB 0 0 0 0) (Nat.le_refl _) (by rw [iB_length]; omega)

set_option maxRecDepth 100000 in
set_option maxHeartbeats 800000 in
theorem afterBytes_of (l c k n : Int) (hh : Idn l c k n) (hm : Hid ((sameI l c k n 0 0 0 0 || mayI l k n) = true)) (w : World) :
    Calls Tryz.prog 141 #[.agg #[.int .u8 l, .int .u32 c, .int .u8 k, .int .i64 n]] w fun e w' => ∃ A' c', e = .returned (.slice A' 13 c') ∧ Own w' w.heap.size 5 A' c' (iB l c k n) ∧ Below w.heap.size w w' := by
  obtain ⟨z, hz⟩ : ∃ z, sameI l c k n 0 0 0 0 = z := ⟨_, rfl⟩
  have hE : ∀ W, (binOp .eql 28 (.agg #[.int .u8 l, .int .u32 c, .int .u8 k, .int .i64 n]) (.agg #[.int .u8 0, .int .u32 0, .int .u8 0, .int .i64 0])).run Tryz.prog W = .ok (.bool z) W := fun W => by rw [← hz]; exact eql_id W _ _ _ _ _ _ _ _
  cases z
  · have hI : mayI l k n = true := by have := hm.out; rw [hz] at this; simpa using this
    have HI := hid hI
    clear hz hm hI
    go_enter Tryz.func141, Tryz.ntmps141
    go_wp2_with fail
    refine (putI_of l c k n hh HI.out _).mono ?_
    rintro e w1 ⟨A1, c1, rfl, ho, b1⟩
    go_wp2
    go_ret
    exact ⟨A1, c1, rfl, ho.mono (by simp), past_alloc b1⟩
  · obtain ⟨rfl, rfl, rfl, rfl⟩ := sameI_zero hz
    clear hz hm hh
    obtain ⟨i0, hi0, hz0, hz1, hz2⟩ := info_parts info_u8
    have hmk := fun W : World => run_make (P := Tryz.prog) W 51 5 i0 _ Tryz.underlying51 hi0 hz0 .i64 .i64 13 13 (by omega) (by omega) (by rw [hz2]; omega) (by omega)
    have ho := zeros_own (w.alloc (.cells #[.int .u8 0, .int .u32 0, .int .u8 0, .int .i64 0] 28))
    rw [show (w.alloc (.cells #[.int .u8 0, .int .u32 0, .int .u8 0, .int .i64 0] 28)).heap.size = w.heap.size + 1 by simp] at ho
    have HO := hid ho
    clear ho
    go_enter Tryz.func141, Tryz.ntmps141
    go_wp2
    go_ret
    exact ⟨_, _, rfl, HO.out.mono (by omega), by go_grown⟩

set_option maxRecDepth 100000 in
set_option maxHeartbeats 800000 in
theorem tails_any (o : Opd) (A : Option Addr) (n c : Nat) (w : World) :
    Calls Tryz.prog 110 #[.agg #[.int .u8 o.kd, .int .u8 o.l, .int .u32 o.c, .int .u8 o.k, .int .i64 o.s, .int .u8 o.fl, .int .u32 o.fc, .int .u8 o.fk, .int .i64 o.fn, .int .i64 o.fm, .int .u8 o.al, .int .u32 o.ac, .int .u8 o.ak, .int .i64 o.an, .int .u8 o.tl, .int .u32 o.tc, .slice A n c]] w fun e w' => e = .returned (.agg #[.nilFunc, .func (.func 139) #[] #[.pointer (some ⟨w.heap.size, 0, none⟩)], .func (.func 142) #[] #[], .func (.func 143) #[] #[.pointer (some ⟨w.heap.size, 0, none⟩)]]) ∧ BoxO w' w.heap.size o A n c ∧ Below w.heap.size w w' := by
  have hi : (Tryz.prog.info? 156).map (·.size) = some 4 := by kernel_rfl
  have ht := there4_new (w.alloc (.cells #[.int .u8 o.kd, .int .u8 o.l, .int .u32 o.c, .int .u8 o.k, .int .i64 o.s, .int .u8 o.fl, .int .u32 o.fc, .int .u8 o.fk, .int .i64 o.fn, .int .i64 o.fm, .int .u8 o.al, .int .u32 o.ac, .int .u8 o.ak, .int .i64 o.an, .int .u8 o.tl, .int .u32 o.tc, .slice A n c] 33)) .nilFunc .nilFunc .nilFunc .nilFunc 156
  rw [World.size_alloc] at ht
  have bx := (boxO_new w o A n c 33).keep ((Below.refl _ _).alloc (Nat.le_refl _) (.cells #[.nilFunc, .nilFunc, .nilFunc, .nilFunc] 156))
  go_enter Tryz.func110, Tryz.ntmps110
  go_wp2_with (refine wpList_store_4 rfl 156 _ Tryz.underlying156 rfl hi (.tmp 2) (.tmp 5) rfl (w.heap.size + 1) rfl _ _ _ _ rfl (by simp [Value.oneCell']) ht w.heap.size (by omega) ?_; intro w1 s0 s1 s2 s3 b1 hh)
  exact bodyPost_ret (v := .agg #[.nilFunc, .func (.func 139) #[] #[.pointer (some ⟨w.heap.size, 0, none⟩)], .func (.func 142) #[] #[], .func (.func 143) #[] #[.pointer (some ⟨w.heap.size, 0, none⟩)]]) (by simp [results, Tryz.results110, go_sem, s0, s1, s2, s3]) rfl ⟨rfl, bx.other hh (by omega), (show Below w.heap.size w _ by go_grown).trans b1⟩

set_option maxHeartbeats 800000 in
theorem tails1_of (m : Nat) (o : Opd) (g : Nat) (A : Option Addr) (n c : Nat) (hn : Hid (o.row.length = n)) (hr : Opr o) (hm : mayO o = true) (hk : o.kd = 1) (hl : Hid ((tailO o).length = m)) (w : World) (bx : BoxO w g o A n c) (hri : Ri w A c o.row) :
    Calls Tryz.prog 139 #[.pointer (some ⟨g, 0, none⟩)] w fun e w' => ∃ A' c', e = .returned (.slice A' m c') ∧ Rd w' A' c' (tailO o) ∧ Below w.heap.size w w' := by
  obtain ⟨i0, hi0, hz0, hz1, hz2⟩ := info_parts info_u8
  have md := maid hm
  have ht : tailO o = iB o.al o.ac o.ak o.an ++ wide o.row := if_pos hk
  obtain ⟨k, hk2⟩ : ∃ k, (wide o.row).length = k := ⟨_, rfl⟩
  have hmk : 13 + k = m := by rw [← hl.out, ht, List.length_append, iB_length, hk2]
  have hk5 : k ≤ 256 := by rw [← hk2, wide_length]; have := (md.ins hk).2.1; have := md.m2; omega
  have hc := (md.ins hk).2.2.1
  have ha := hid (md.ins hk).1
  have haf := hr.aft
  have HT := hid ht
  have HK := hid hk2
  have HM := hid hmk
  clear hm hk hl hr md ht hk2 hmk
  have bx1 := bx
  obtain ⟨s0, s1, s2, s3, s4, s5, s6, s7, s8, s9, s10, s11, s12, s13, s14, s15, s16⟩ := bx1
  go_enter Tryz.func139, Tryz.ntmps139
  go_wp2_with fail
  refine (putR_of A n c o.row k hn HK hc _ hri).mono ?_
  rintro e w1 ⟨A1, c1, rfl, hr1, b1⟩
  clear s0 s1 s2 s3 s4 s5 s6 s7 s8 s9 s10 s11 s12 s13 s14 s15 s16
  replace bx := bx.keep b1
  obtain ⟨s0, s1, s2, s3, s4, s5, s6, s7, s8, s9, s10, s11, s12, s13, s14, s15, s16⟩ := bx
  go_wp2_with fail
  refine (afterBytes_of _ _ _ _ haf ha _).mono ?_
  rintro e w2 ⟨A2, c2, rfl, ho2, b2⟩
  clear s0 s1 s2 s3 s4 s5 s6 s7 s8 s9 s10 s11 s12 s13 s14 s15 s16
  replace hr1 := hr1.keep b2
  have hb := below_in b1 b2
  go_wp2_with (at_builtin; refine wpList_append_rd rfl (.tmp 12) (.tmp 13) _ rfl w1.heap.size 5 Tryz.underlying51 hi0 hz0 hz1 hz2 A2 13 c2 _ (hid (iB_length _ _ _ _)) rfl ho2 A1 k c1 _ HK rfl hr1 (by omega) b2.size ?_; intro A3 c3 w3 ho3 b3)
  go_ret
  refine ⟨A3, c3, by rw [HM.out]; rfl, by rw [HT.out]; exact ho3.rd, hb.trans (b3.mono b1.size)⟩

theorem tails2_any (w : World) :
    Calls Tryz.prog 142 #[] w fun e w' => e = .returned (.slice none 0 0) ∧ w = w' := by
  go_enter Tryz.func142, Tryz.ntmps142
  go_wp2
  go_ret
  exact ⟨rfl, rfl⟩
end Go.Proofs.YtndmblhkmgnpcaaGreat

namespace Go.Proofs.YtndmblhkmgnpcaaGreat
open Go.RowKit
set_option linter.unusedVariables false
set_option linter.unusedSimpArgs false

set_option maxRecDepth 100000 in
set_option maxHeartbeats 1600000 in
theorem tails3_of (o : Opd) (g : Nat) (A : Option Addr) (n c : Nat) (hr : Opr o) (hk : o.kd = 3) (w : World) (bx : BoxO w g o A n c) :
    Calls Tryz.prog 143 #[.pointer (some ⟨g, 0, none⟩)] w fun e w' => ∃ A' c', e = .returned (.slice A' 5 c') ∧ Rd w' A' c' (tailO o) ∧ Below w.heap.size w w' := by
  obtain ⟨i0, hi0, hz0, hz1, hz2⟩ := info_parts info_u8
  obtain ⟨l0, l1, c0, c1⟩ := hr.lab
  have ht : tailO o = nB 1 o.tl ++ nB 4 o.tc := by rw [tailO, if_neg (by omega), if_pos hk]
  have HT := hid ht
  have HL := hid (show ((o.tl.toNat : Nat) : Int) = o.tl by omega)
  have HC := hid (show ((o.tc.toNat : Nat) : Int) = o.tc by omega)
  have hl1 : IntKind.i64.wrap o.tl = o.tl := by rw [IntKind.wrap_i64]; omega
  have hl2 : IntKind.i64.wrap o.tc = o.tc := by rw [IntKind.wrap_i64]; omega
  have hl9 : o.tl < 9223372036854775808 := by omega
  have hc9 : o.tc < 9223372036854775808 := by omega
  clear hr hk ht
  obtain ⟨s0, s1, s2, s3, s4, s5, s6, s7, s8, s9, s10, s11, s12, s13, s14, s15, s16⟩ := bx
  (have q0 := fun w' (h : Below w.heap.size w w') => keep h s0; have q1 := fun w' (h : Below w.heap.size w w') => keep h s1; have q2 := fun w' (h : Below w.heap.size w w') => keep h s2; have q3 := fun w' (h : Below w.heap.size w w') => keep h s3; have q4 := fun w' (h : Below w.heap.size w w') => keep h s4; have q5 := fun w' (h : Below w.heap.size w w') => keep h s5; have q6 := fun w' (h : Below w.heap.size w w') => keep h s6; have q7 := fun w' (h : Below w.heap.size w w') => keep h s7; have q8 := fun w' (h : Below w.heap.size w w') => keep h s8; have q9 := fun w' (h : Below w.heap.size w w') => keep h s9; have q10 := fun w' (h : Below w.heap.size w w') => keep h s10; have q11 := fun w' (h : Below w.heap.size w w') => keep h s11; have q12 := fun w' (h : Below w.heap.size w w') => keep h s12; have q13 := fun w' (h : Below w.heap.size w w') => keep h s13; have q14 := fun w' (h : Below w.heap.size w w') => keep h s14; have q15 := fun w' (h : Below w.heap.size w w') => keep h s15; have q16 := fun w' (h : Below w.heap.size w w') => keep h s16)
  clear q0 q1 q2 q3 q4 q5 q6 q7 q8 q9 q10 q11 q12 q13
  clear s0 s1 s2 s3 s4 s5 s6 s7 s8 s9 s10 s11 s12 s13 s14 s15 s16
  clear q16
  have S0 : Below w.heap.size w w.drew := (Below.refl _ _).drew
  go_enter Tryz.func143, Tryz.ntmps143
  go_wp2_with fail
  go_region_held_law (fun w' => Below w.heap.size w w') (with_reducible (first | assumption | exact S0 | exact below_step S0 hb1 | exact below_step S0 hb2 | exact below_step (below_step S0 hb1) hb2 | exact below_step (below_step S0 hb2) hb1 | exact (below_step (below_step S0 hb1) hb2).trans hb3 | exact (below_step (below_step S0 hb2) hb1).trans hb3))
    (first
      | (refine step_append_rd rfl (.tmp 6) (.tmp 11) _ (by rfl) w.heap.size 5 Tryz.underlying51 hi0 hz0 hz1 hz2 A1 1 1 (nB 1 o.tl) (hid (nB_length _ _)) (by rfl) ((ho1.mono (Nat.le_refl _)).keep hb2) A2 4 4 (nB 4 o.tc) (hid (nB_length _ _)) (by rfl) ho2.rd (by omega) (by exact Below.size (w := w) (by assumption)) ?_; intro A' c' w4 ho hb3)
      | (refine step_append_rd rfl (.tmp 6) (.tmp 11) _ (by rfl) w.heap.size 5 Tryz.underlying51 hi0 hz0 hz1 hz2 A1 1 1 (nB 1 o.tl) (hid (nB_length _ _)) (by rfl) (ho1.mono hb2.size) A2 4 4 (nB 4 o.tc) (hid (nB_length _ _)) (by rfl) (ho2.rd.keep hb1) (by omega) (by exact Below.size (w := w) (by assumption)) ?_; intro A' c' w4 ho hb3)
      | (go_simp; go_at_call 138; have tX := fun W => digitsL_of 1 1 o.tl o.tl.toNat HL l0 hl9 rfl (by omega) W; with_reducible refine (tX _).mono ?_; clear tX; rintro e w2 ⟨A1, rfl, ho1, hb1⟩)
      | (go_simp; go_at_call 138; have tX := fun W => digitsL_of 4 4 o.tc o.tc.toNat HC c0 hc9 rfl (by omega) W; with_reducible refine (tX _).mono ?_; clear tX; rintro e w3 ⟨A2, rfl, ho2, hb2⟩))
  all_goals
    have hB : Below w.heap.size w w4 := by assumption
    clear q14 q15 S0 ho1 ho2 hb1 hb2 hb3
    go_simp
    go_wp2
    go_ret
    exact ⟨A', c', rfl, by rw [HT.out]; exact ho.rd, hB⟩

end Go.Proofs.YtndmblhkmgnpcaaGreat

namespace Go.Proofs.YtndmblhkmgnpcaaGreat
open Go.RowKit
set_option linter.unusedVariables false
set_option linter.unusedSimpArgs false

theorem nB_one {z : Int} (h0 : 0 ≤ z) (h1 : z ≤ 255) : nB 1 z = [UInt8.ofNat z.toNat] := by
  have : z.toNat % 256 = z.toNat := by omega
  rw [nB, dg, dg, this]
  rfl
theorem lit_kd (w : World) (z : Int) (h0 : 0 ≤ z) (h1 : z ≤ 255) : Rd (w.alloc (.cells #[.int .u8 z] 5)) (some ⟨w.heap.size, 0, none⟩) 1 (nB 1 z) := by
  have e : ((UInt8.ofNat z.toNat).toNat : Int) = z := by rw [ofNat_toNat (by omega)]; omega
  have := lit_rd w [UInt8.ofNat z.toNat] (by simp)
  rw [nB_one h0 h1]
  simp only [u8s, List.map_cons, List.map_nil, e] at this
  exact this

set_option maxHeartbeats 800000 in
theorem concat5 (o : Opd) (a0 a1 a2 a3 a4 : Option Addr) (d0 d1 d2 d3 d4 : Nat) (w : World) (g : Nat) (hg : w.heap.size = g) (h0 : Rd w a0 d0 (nB 1 o.kd)) (h1 : Rd w a1 d1 (hB o.l o.c o.k)) (h2 : Rd w a2 d2 (nB 3 o.s)) (h3 : Rd w a3 d3 (iB o.fl o.fc o.fk o.fn)) (h4 : Rd w a4 d4 (nB 1 o.fm)) :
    Calls Tryz.prog 58 #[.slice (some ⟨g, 0, none⟩) 5 5] (w.alloc (.cells #[.slice a0 1 d0, .slice a1 6 d1, .slice a2 3 d2, .slice a3 13 d3, .slice a4 1 d4] 51)) fun e w' => ∃ A c, e = .returned (.slice A 24 c) ∧ Own w' w.heap.size 5 A c (headO o) ∧ Below (w.alloc (.cells #[.slice a0 1 d0, .slice a1 6 d1, .slice a2 3 d2, .slice a3 13 d3, .slice a4 1 d4] 51)).heap.size (w.alloc (.cells #[.slice a0 1 d0, .slice a1 6 d1, .slice a2 3 d2, .slice a3 13 d3, .slice a4 1 d4] 51)) w' := by
  subst hg
  generalize hW : w.alloc _ = W
  have hc : ∀ (j : Nat) (v : Value), ([.slice a0 1 d0, .slice a1 6 d1, .slice a2 3 d2, .slice a3 13 d3, .slice a4 1 d4] : List Value)[j]? = some v → W.cell? ⟨w.heap.size, j, none⟩ = some v := fun j v hv => by
    subst hW
    rw [cell_of_row _ _ j _ _ (0, 0) (heap_alloc_last w _)]
    simpa using hv
  have hb : Below w.heap.size w W := by subst hW; exact (Below.refl _ _).alloc (Nat.le_refl _) _
  have hp : Parts W w.heap.size [nB 1 o.kd, hB o.l o.c o.k, nB 3 o.s, iB o.fl o.fc o.fk o.fn, nB 1 o.fm] := by
    intro j hj
    match j, hj with
    | 0, _ => exact ⟨a0, d0, by simpa [nB_length] using hc 0 _ rfl, h0.keep hb⟩
    | 1, _ => exact ⟨a1, d1, by simpa [hB_length] using hc 1 _ rfl, h1.keep hb⟩
    | 2, _ => exact ⟨a2, d2, by simpa [nB_length] using hc 2 _ rfl, h2.keep hb⟩
    | 3, _ => exact ⟨a3, d3, by simpa [iB_length] using hc 3 _ rfl, h3.keep hb⟩
    | 4, _ => exact ⟨a4, d4, by simpa [nB_length] using hc 4 _ rfl, h4.keep hb⟩
    | j + 5, h => exact absurd h (by simp)
  refine (concat_of w.heap.size 5 24 _ (headO o) (hid rfl) (hid ⟨by simp [headO], headO_length o⟩) (by omega) (by omega) (by omega) W hp).mono ?_
  rintro e w' ⟨A, c, rfl, h, b⟩
  exact ⟨A, c, rfl, h.mono hb.size, b⟩

set_option maxRecDepth 100000 in
set_option maxHeartbeats 3200000 in
theorem head_of (o : Opd) (A : Option Addr) (n c : Nat) (hr : Opr o) (hm : mayO o = true) (w : World) :
    Calls Tryz.prog 109 #[.agg #[.int .u8 o.kd, .int .u8 o.l, .int .u32 o.c, .int .u8 o.k, .int .i64 o.s, .int .u8 o.fl, .int .u32 o.fc, .int .u8 o.fk, .int .i64 o.fn, .int .i64 o.fm, .int .u8 o.al, .int .u32 o.ac, .int .u8 o.ak, .int .i64 o.an, .int .u8 o.tl, .int .u32 o.tc, .slice A n c]] w fun e w' => ∃ A' c', e = .returned (.slice A' 24 c') ∧ Own w' w.heap.size 5 A' c' (headO o) ∧ Below w.heap.size w w' := by
  have md := maid hm
  have hh := md.hh
  have hI := mayS_I md.hs
  have han := hr.han
  have hid0 := hr.spn.idn
  have k0 := hr.k0
  have k1 := hr.k1
  have sn0 : 0 ≤ o.s := by have := md.s1; omega
  have sn9 : o.s < 9223372036854775808 := by have := md.s2; omega
  have m0 : 0 ≤ o.fm := by have := md.m1; omega
  have m9 : o.fm < 9223372036854775808 := by have := md.m2; omega
  have HS := hid (show ((o.s.toNat : Nat) : Int) = o.s by omega)
  have HM := hid (show ((o.fm.toNat : Nat) : Int) = o.fm by omega)
  have HH := hid hh
  have HI := hid hI
  clear hr hm md hh hI
  go_enter Tryz.func109, Tryz.ntmps109
  go_wp2_with fail
  refine (putH_of _ _ _ han HH.out _).mono ?_
  rintro e w1 ⟨A1, c1, rfl, hr1, b1⟩
  have bx := (boxO_new w o A n c 33).keep b1
  have hb := past_alloc b1
  have bx1 := bx
  obtain ⟨s0, s1, s2, s3, s4, s5, s6, s7, s8, s9, s10, s11, s12, s13, s14, s15, s16⟩ := bx1
  clear b1
  go_wp2_with fail
  refine (putI_of _ _ _ _ hid0 HI.out _).mono ?_
  rintro e W ⟨A2, c2, rfl, ho2, b2⟩
  replace hr1 := hr1.keep b2
  have hr2 := ho2.rd
  replace bx := bx.keep b2
  replace hb := below_in hb b2
  clear s0 s1 s2 s3 s4 s5 s6 s7 s8 s9 s10 s11 s12 s13 s14 s15 s16 ho2 b2
  obtain ⟨s0, s1, s2, s3, s4, s5, s6, s7, s8, s9, s10, s11, s12, s13, s14, s15, s16⟩ := bx
  (have q0 := fun w' (h : Below W.heap.size W w') => keep h s0; have q1 := fun w' (h : Below W.heap.size W w') => keep h s1; have q2 := fun w' (h : Below W.heap.size W w') => keep h s2; have q3 := fun w' (h : Below W.heap.size W w') => keep h s3; have q4 := fun w' (h : Below W.heap.size W w') => keep h s4; have q5 := fun w' (h : Below W.heap.size W w') => keep h s5; have q6 := fun w' (h : Below W.heap.size W w') => keep h s6; have q7 := fun w' (h : Below W.heap.size W w') => keep h s7; have q8 := fun w' (h : Below W.heap.size W w') => keep h s8; have q9 := fun w' (h : Below W.heap.size W w') => keep h s9; have q10 := fun w' (h : Below W.heap.size W w') => keep h s10; have q11 := fun w' (h : Below W.heap.size W w') => keep h s11; have q12 := fun w' (h : Below W.heap.size W w') => keep h s12; have q13 := fun w' (h : Below W.heap.size W w') => keep h s13; have q14 := fun w' (h : Below W.heap.size W w') => keep h s14; have q15 := fun w' (h : Below W.heap.size W w') => keep h s15; have q16 := fun w' (h : Below W.heap.size W w') => keep h s16)
  clear s0 s1 s2 s3 s4 s5 s6 s7 s8 s9 s10 s11 s12 s13 s14 s15 s16
  clear q1 q2 q3 q5 q6 q7 q8 q10 q11 q12 q13 q14 q15 q16
  have S0 : Below W.heap.size W W.drew := (Below.refl _ _).drew
  have S1 : Below W.heap.size W (W.alloc (.cells #[.int .u8 o.kd] 5)).drew := ((Below.refl _ _).alloc (Nat.le_refl _) _).drew
  have hr0 : Rd (W.alloc (.cells #[.int .u8 o.kd] 5)).drew (some ⟨W.heap.size, 0, none⟩) 1 (nB 1 o.kd) := lit_kd W _ k0 k1
  go_wp2_with fail
  go_region_held (fun w' => Below W.heap.size W w') (with_reducible (first | assumption | exact S0 | exact S1 | exact Below.alloc (by assumption) (Below.size (by assumption)) _))
    (first
      | (go_at_call 138; have tX := fun X => digitsL_of 3 3 o.s o.s.toNat HS sn0 sn9 rfl (by omega) X; with_reducible refine (tX _).mono ?_; clear tX; rintro e w2 ⟨A3, rfl, ho3, hb3⟩; replace ho3 : Own w2 _ 5 A3 3 (nB 3 o.s) := ho3; have cc3 := below_in (w := W) (by first | exact S1 | assumption) hb3)
      | (go_at_call 138; have tX := fun X => digitsL_of 1 1 o.fm o.fm.toNat HM m0 m9 rfl (by omega) X; with_reducible refine (tX _).mono ?_; clear tX; rintro e w3 ⟨A4, rfl, ho4, hb4⟩; replace ho4 : Own w3 _ 5 A4 1 (nB 1 o.fm) := ho4; have cc4 := below_in (w := W) (by first | exact S1 | assumption) hb4)
      | (go_at_call 58
         with_reducible refine (concat5 o _ _ _ _ _ _ _ _ _ _ _ _ ?_ ?_ ?_ ?_ ?_ ?_).mono ?_
         · simp
         · first | exact (hr0.keep hb3).keep hb4 | exact (hr0.keep hb4).keep hb3 | exact (lit_kd w2 _ k0 k1).keep hb4 | exact (lit_kd w3 _ k0 k1).keep hb3 | exact lit_kd w3 _ k0 k1 | exact lit_kd w2 _ k0 k1
         · exact hr1.keep (by with_reducible first | exact cc3 | exact cc4 | exact below_al cc3 _ | exact below_al cc4 _)
         · with_reducible first | exact ho3.rd | exact ho3.rd.keep hb4 | exact (ho3.rd.alloc _).keep hb4 | exact (ho3.rd.keep hb4).alloc _ | exact ho3.rd.alloc _
         · exact hr2.keep (by with_reducible first | exact cc3 | exact cc4 | exact below_al cc3 _ | exact below_al cc4 _)
         · with_reducible first | exact ho4.rd | exact ho4.rd.keep hb3 | exact (ho4.rd.alloc _).keep hb3 | exact (ho4.rd.keep hb3).alloc _ | exact ho4.rd.alloc _
         rintro e w9 ⟨A9, c9, rfl, ho9, b9⟩
         have cc9 := below_in (w := W) (below_al (by with_reducible first | exact cc3 | exact cc4 | exact below_al cc3 _ | exact below_al cc4 _) _) b9
         have ho := ho9.mono (Nat.le_trans hb.size (Below.size (w := W) (by with_reducible first | exact cc3 | exact cc4 | exact below_al cc3 _ | exact below_al cc4 _)))))
  all_goals
    have hB := below_in hb cc9
    clear cc9 b9 ho9 cc3 cc4 hb3 hb4 ho3 ho4 hr0 hr1 hr2 S0 S1 q0 q4 q9
    go_wp2
    go_ret
    exact ⟨A9, c9, rfl, ho, hB⟩
end Go.Proofs.YtndmblhkmgnpcaaGreat
