/-
  Words: a disk in a box, loaded and stored whole; its parts, written.
-/
import Derived.Test.YtofnjdkfhboapaaDpW
namespace Go.Proofs.Ytofnjdkfhboapaa
open Go.RowKit
set_option linter.unusedVariables false
set_option linter.unusedSimpArgs false

theorem range_mid {W : World} {b o : Nat} (p q r : List Value) (h : W.rangeAt b o (p ++ (q ++ r))) : W.rangeAt b (o + p.length) q := fun j v hv => by
  have hj : j < q.length := (List.getElem?_eq_some_iff.1 hv).1
  have := h (p.length + j) v (by rw [List.getElem?_append_right (by omega), Nat.add_sub_cancel_left, List.getElem?_append_left hj]; exact hv)
  rwa [← Nat.add_assoc] at this
theorem range_head {W : World} {b o : Nat} (p q : List Value) (h : W.rangeAt b o (p ++ q)) : W.rangeAt b o p := fun j v hv => by
  have hj : j < p.length := (List.getElem?_eq_some_iff.1 hv).1
  exact h j v (by rw [List.getElem?_append_left hj]; exact hv)
theorem range_join {W : World} {b o : Nat} (p q : List Value) (h : W.rangeAt b o p) (h' : W.rangeAt b (o + p.length) q) : W.rangeAt b o (p ++ q) := fun j v hv => by
  rcases Nat.lt_or_ge j p.length with hj | hj
  · exact h j v (by rwa [List.getElem?_append_left hj] at hv)
  · rw [List.getElem?_append_right hj] at hv
    have := h' (j - p.length) v hv
    rwa [Nat.add_assoc, Nat.add_sub_cancel' hj] at this
/-- A part of a range, written anew. -/
theorem range_set {W : World} {b : Nat} (p q r q' : List Value) (h : W.rangeAt b 0 (p ++ (q ++ r))) (ht : W.there b p.length q'.length) (hq : q'.length = q.length) : (W.setCells b p.length q').rangeAt b 0 (p ++ (q' ++ r)) := by
  refine range_join _ _ (World.rangeAt_setCells_apart (range_head _ _ h) b _ _ (.inr (.inl (by omega)))) (range_join _ _ ?_ ?_)
  · rw [Nat.zero_add]; exact World.rangeAt_setCells_same W b _ q' ht
  · refine World.rangeAt_setCells_apart ?_ b _ _ (.inr (.inr (by omega)))
    have := range_mid (p ++ q) r [] (by rw [List.append_nil, List.append_assoc]; exact h)
    rw [List.length_append, ← Nat.add_assoc] at this
    rwa [hq]
theorem there_part {W : World} {b m : Nat} (h : W.there b 0 m) (o k : Nat) (hk : o + k ≤ m) : W.there b o k := fun j hj => by
  have := h (o + j) (by omega)
  rwa [Nat.zero_add] at this
theorem there_new (w : World) (cs : Array Value) (t : TypeId) (m : Nat) (hm : cs.size = m) : (w.alloc (.cells cs t)).there w.heap.size 0 m := fun j hj => by
  refine ⟨?_, ?_⟩
  · rw [cell_of_row _ _ _ cs t (0, 0) (heap_alloc_last w _)]
    simp; omega
  · exact frozen_of_row _ _ _ _ _ (heap_alloc_last w _)
theorem there_keep {w w' : World} {b m : Nat} (h : w.there b 0 m) (hb : Below w.heap.size w w') : w'.there b 0 m := fun j hj => by
  obtain ⟨h1, h2⟩ := h j hj
  obtain ⟨u, hu⟩ := Option.isSome_iff_exists.1 h1
  exact ⟨by rw [keep hb hu]; rfl, keepz hb hu h2⟩
theorem cell_other {W W' : World} {b : Nat} (hh : ∀ k, k ≠ b → W'.heap[k]? = W.heap[k]?) {p : Addr} (hp : p.block ≠ b) {v : Value} (hc : W.cell? p = some v) : W'.cell? p = some v := by
  rw [World.cell?_of_block (w := W) (hh p.block hp)]; exact hc
theorem there_other {w w' : World} {b b' m : Nat} (h : w.there b 0 m) (hh : ∀ k, k ≠ b' → w'.heap[k]? = w.heap[k]?) (hb : b ≠ b') : w'.there b 0 m := fun j hj => by
  obtain ⟨h1, h2⟩ := h j hj
  obtain ⟨u, hu⟩ := Option.isSome_iff_exists.1 h1
  refine ⟨by rw [cell_other hh (p := ⟨b, 0 + j, none⟩) hb hu]; rfl, ?_⟩
  rw [World.frozen?_of_block (w := w) (hh b hb)]; exact h2
theorem heap_setCells (b : Nat) : ∀ (vs : List Value) (o : Nat) (w : World) (k : Nat), k ≠ b → (w.setCells b o vs).heap[k]? = w.heap[k]?
  | [], _, _, _, _ => rfl
  | v :: r, o, w, k, hk => by
    rw [World.setCells, heap_setCells b r (o + 1) _ k hk, Below.heap_setCell _ _ _ _ hk]
theorem below_setCells (b base : Nat) (hb : base ≤ b) : ∀ (vs : List Value) (o : Nat) (w : World), Below base w (w.setCells b o vs)
  | [], _, w => Below.refl _ _
  | v :: r, o, w => by
    rw [World.setCells]
    exact ((Below.refl base w).setCell hb v).trans (below_setCells b base hb r (o + 1) _)
theorem size_setCells (b : Nat) : ∀ (vs : List Value) (o : Nat) (w : World), (w.setCells b o vs).heap.size = w.heap.size
  | [], _, _ => rfl
  | v :: r, o, w => by
    rw [World.setCells, size_setCells b r (o + 1)]
    simp [World.setCell]

/-- A disk in a box that may be written. -/
structure Bk (W : World) (b : Nat) (d : Dsk) (A : Option Addr) (n c : Nat) : Prop where
  bx : BoxK W b d A n c
  th : W.there b 0 4
section
variable {W W' : World} {b : Nat} {d : Dsk} {A : Option Addr} {n c : Nat}
theorem Bk.keep (h : Bk W b d A n c) (hb : Below W.heap.size W W') : Bk W' b d A n c := ⟨h.bx.keep hb, there_keep h.th hb⟩
theorem Bk.other (h : Bk W b d A n c) {g : Nat} (hh : ∀ k, k ≠ g → W'.heap[k]? = W.heap[k]?) (hg : b ≠ g) : Bk W' b d A n c :=
  ⟨fun j v hv => cell_other hh (p := ⟨b, 0 + j, none⟩) hg (h.bx j v hv), there_other h.th hh hg⟩
theorem bk_new (w : World) (d : Dsk) (A : Option Addr) (n c : Nat) (t : TypeId) : Bk (w.alloc (.cells (#[.slice A n c, .int .i64 d.st, .int .i64 d.lf, .bool d.dd]) t)) w.heap.size d A n c := ⟨boxK_new w d A n c t, there_new w _ t 4 rfl⟩
theorem Bk.lt (h : Bk W b d A n c) : b < W.heap.size := World.block_lt_of_cell? W _ h.bx.sl
theorem Bk.fz (h : Bk W b d A n c) (j : Nat) (hj : j < 4) : W.frozen? ⟨b, j, none⟩ = false := by
  have := (h.th j hj).2
  rwa [Nat.zero_add] at this
theorem Bk.setA (h : Bk W b d A n c) (A' : Option Addr) (n' c' : Nat) (l : List Sct) : Bk (W.setCell ⟨b, 0, none⟩ (.slice A' n' c')) b { d with se := l } A' n' c' :=
  ⟨range_set [] [.slice A n c] [.int .i64 d.st, .int .i64 d.lf, .bool d.dd] [.slice A' n' c'] h.bx (there_part h.th 0 1 (by omega)) rfl, World.there_setCells h.th b 0 [.slice A' n' c']⟩
theorem Bk.setS (h : Bk W b d A n c) (z : Int) : Bk (W.setCell ⟨b, 1, none⟩ (.int .i64 z)) b { d with st := z } A n c :=
  ⟨range_set [.slice A n c] [.int .i64 d.st] [.int .i64 d.lf, .bool d.dd] [.int .i64 z] h.bx (there_part h.th 1 1 (by omega)) rfl, World.there_setCells h.th b 1 [.int .i64 z]⟩
theorem Bk.setL (h : Bk W b d A n c) (z : Int) : Bk (W.setCell ⟨b, 2, none⟩ (.int .i64 z)) b { d with lf := z } A n c :=
  ⟨range_set [.slice A n c, .int .i64 d.st] [.int .i64 d.lf] [.bool d.dd] [.int .i64 z] h.bx (there_part h.th 2 1 (by omega)) rfl, World.there_setCells h.th b 2 [.int .i64 z]⟩
theorem Bk.setD (h : Bk W b d A n c) (z : Bool) : Bk (W.setCell ⟨b, 3, none⟩ (.bool z)) b { d with dd := z } A n c :=
  ⟨range_set [.slice A n c, .int .i64 d.st, .int .i64 d.lf] [.bool d.dd] [] [.bool z] h.bx (there_part h.th 3 1 (by omega)) rfl, World.there_setCells h.th b 3 [.bool z]⟩
theorem Bk.far (h : Bk W b d A n c) {g : Nat} (hg : b ≠ g) (k : Nat) (v : Value) : Bk (W.setCell ⟨g, k, none⟩ v) b d A n c := h.other (fun _ hq => Below.heap_setCell _ _ _ _ hq) hg
theorem TwoK.bks (h : TwoK W W' d A n c) : Bk W' W.heap.size d A n c ∧ Bk W' (W.heap.size + 1) zK none 0 0 := by
  refine ⟨⟨h.xa, fun j hj => ⟨?_, ?_⟩⟩, ⟨h.xz, fun j hj => ⟨?_, ?_⟩⟩⟩
  · match j, hj with
    | 0, _ => rw [h.xa 0 _ rfl]; rfl
    | 1, _ => rw [h.xa 1 _ rfl]; rfl
    | 2, _ => rw [h.xa 2 _ rfl]; rfl
    | 3, _ => rw [h.xa 3 _ rfl]; rfl
  · rw [Nat.zero_add]; exact h.fa j hj
  · match j, hj with
    | 0, _ => rw [h.xz 0 _ rfl]; rfl
    | 1, _ => rw [h.xz 1 _ rfl]; rfl
    | 2, _ => rw [h.xz 2 _ rfl]; rfl
    | 3, _ => rw [h.xz 3 _ rfl]; rfl
  · rw [Nat.zero_add]; exact h.fz j
end

theorem info_K : (Try.prog.info? 24).map (·.size) = some 4 := by kernel_rfl
section
variable {ops : Array Oper} {rest : List Oper} {op : Oper} {a : Act} {W : World} {Q : Exit → Act → World → Prop} {S : World → Prop} {C : World → Prop} {Qa : Act → Prop}
theorem at_store (ty : TypeId) (x y : Operand) {d : Option Tmp} {t : TypeId} {p : String} {af : Array Edge} {g : Option (Nat × Bool)} (h : wpList Try.prog ops Q ({ dst := d, op := .store ty x y, type := t, pos := p, after := af, guard := g } :: rest) a W) : wpList Try.prog ops Q ({ dst := d, op := .store ty x y, type := t, pos := p, after := af, guard := g } :: rest) a W := h
theorem at_load (ty : TypeId) (x : Operand) {d : Option Tmp} {t : TypeId} {p : String} {af : Array Edge} {g : Option (Nat × Bool)} (h : wpList Try.prog ops Q ({ dst := d, op := .load ty x, type := t, pos := p, after := af, guard := g } :: rest) a W) : wpList Try.prog ops Q ({ dst := d, op := .load ty x, type := t, pos := p, after := af, guard := g } :: rest) a W := h
theorem wpList_load_k (hwt : Region.wanted op (yielded ops a.tmps) = true) (x : Operand) (ho : op.op = .load 24 x)
    (b : Nat) (hx : a.eval x = .pointer (some ⟨b, 0, none⟩)) {d : Dsk} {A : Option Addr} {n c : Nat} (hB : BoxK W b d A n c) (h : wpList Try.prog ops Q rest (a.put op.dst (.agg #[.slice A n c, .int .i64 d.st, .int .i64 d.lf, .bool d.dd])) W) : wpList Try.prog ops Q (op :: rest) a W := by
  refine wpList_step fun K hK => ?_
  rw [if_pos hwt]
  exact wp_load_mid 24 x ho b 0 hx _ _ hB Try.underlying24 rfl info_K (hK _ _ h)
theorem yields_load_k (hw : Region.wanted op (yielded ops a.tmps) = true) (x : Operand) (ho : op.op = .load 24 x)
    (b : Nat) (hx : a.eval x = .pointer (some ⟨b, 0, none⟩)) {d : Dsk} {A : Option Addr} {n c : Nat} (hS : ∀ w, S w → BoxK w b d A n c) : YieldsIf Try.prog ops S op (.agg #[.slice A n c, .int .i64 d.st, .int .i64 d.lf, .bool d.dd]) a :=
  yieldsIf_load_mid hw 24 x ho b 0 hx _ _ (fun w h => hS w h) Try.underlying24 rfl info_K
theorem quiet_load_k (hwt : Region.wanted op (yielded ops a.tmps) = true) (x : Operand) (ho : op.op = .load 24 x)
    (b : Nat) (hx : a.eval x = .pointer (some ⟨b, 0, none⟩)) {d : Dsk} {A : Option Addr} {n c : Nat} (hB : ∀ w, C w → BoxK w b d A n c) (h : wpQuiet Try.prog ops C Qa rest (a.put op.dst (.agg #[.slice A n c, .int .i64 d.st, .int .i64 d.lf, .bool d.dd]))) : wpQuiet Try.prog ops C Qa (op :: rest) a := by
  rw [wpQuiet, if_pos hwt]
  refine ⟨_, fun w hw => ?_, h⟩
  unfold Oper.quietAt
  rcases yields_load_k (ops := ops) (S := C) hwt x ho b hx hB with ⟨_, h⟩ | ⟨h, _⟩
  · rw [h w hw]; exact ⟨rfl, rfl⟩
  · rw [h] at hwt; cases hwt
theorem wpList_store_k (hgd : op.guard = none) (x y : Operand) (ho : op.op = .store 24 x y)
    (b : Nat) (hx : a.eval x = .pointer (some ⟨b, 0, none⟩)) (d : Dsk) (A : Option Addr) (n c : Nat) (hy : a.eval y = .agg #[.slice A n c, .int .i64 d.st, .int .i64 d.lf, .bool d.dd]) {d0 : Dsk} {A0 : Option Addr} {n0 c0 : Nat} (ht : Bk W b d0 A0 n0 c0) (base : Nat) (hb : base ≤ b)
    (h : ∀ W', Bk W' b d A n c → Below base W W' → (∀ k, k ≠ b → W'.heap[k]? = W.heap[k]?) → W'.heap.size = W.heap.size → wpList Try.prog ops Q rest (a.put op.dst undef) W') : wpList Try.prog ops Q (op :: rest) a W := by
  refine wpList_store_mid hgd 24 x y ho b 0 _ hx hy ht.th info_K (by simp [Value.oneCell']) ?_
  exact h _ ⟨World.rangeAt_setCells_same W b 0 _ ht.th, World.there_setCells ht.th b 0 _⟩ (below_setCells b base hb _ _ _) (fun k hk => heap_setCells b _ _ _ k hk) (size_setCells b _ _ _)
end
theorem results_k {fn : Func} {p : Tmp} (h : fn.results = #[.cell p 24]) {tmps : Array Value} {w : World} {b : Nat} (hp : tmps.getD p undef = .pointer (some ⟨b, 0, none⟩)) {d : Dsk} {A : Option Addr} {n c : Nat} (bx : BoxK w b d A n c) : (results fn tmps).run Try.prog w = .ok (.agg #[.slice A n c, .int .i64 d.st, .int .i64 d.lf, .bool d.dd]) w := by
  have hl := run_loadVar_mid (P := Try.prog) w b 0 24 _ _ bx Try.underlying24 rfl info_K
  simp only [results, h]
  rw [Array.getD_eq_getD_getElem?] at hp
  simp [Sem.run_bind, hp, asAddr, hl]
theorem results_k1 {fn : Func} {p u : Tmp} (h : fn.results = #[.cell p 24, .tmp u]) {tmps : Array Value} {w : World} {b : Nat} (hp : tmps.getD p undef = .pointer (some ⟨b, 0, none⟩)) {d : Dsk} {A : Option Addr} {n c : Nat} (bx : BoxK w b d A n c) : (results fn tmps).run Try.prog w = .ok (.tuple #[.agg #[.slice A n c, .int .i64 d.st, .int .i64 d.lf, .bool d.dd], tmps.getD u undef]) w := by
  have hl := run_loadVar_mid (P := Try.prog) w b 0 24 _ _ bx Try.underlying24 rfl info_K
  simp only [results, h]
  rw [Array.getD_eq_getD_getElem?] at hp
  simp [Sem.run_bind, hp, asAddr, hl]
end Go.Proofs.Ytofnjdkfhboapaa
