/-
  An operation in a box; the program's Check and what it asks.
-/
import Derived.Test.YtbhglgcnoidddaaOpM
import Derived.BigRegion
import Derived.Deep.MidRow
import Derived.Deep.WholeRow
namespace Go.Proofs.Ytbhglgcnoidddaa
open Go.RowKit
set_option linter.unusedVariables false
set_option linter.unusedSimpArgs false

/-- The cells of an operation that lies in a block. -/
structure BoxO (W : World) (b : Nat) (o : Opd) (A : Option Addr) (n c : Nat) : Prop where
  c0 : W.cell? ⟨b, 0, none⟩ = some (.int .u8 o.kd)
  c1 : W.cell? ⟨b, 1, none⟩ = some (.int .u8 o.l)
  c2 : W.cell? ⟨b, 2, none⟩ = some (.int .u32 o.c)
  c3 : W.cell? ⟨b, 3, none⟩ = some (.int .u8 o.k)
  c4 : W.cell? ⟨b, 4, none⟩ = some (.int .i64 o.s)
  c5 : W.cell? ⟨b, 5, none⟩ = some (.int .u8 o.fl)
  c6 : W.cell? ⟨b, 6, none⟩ = some (.int .u32 o.fc)
  c7 : W.cell? ⟨b, 7, none⟩ = some (.int .u8 o.fk)
  c8 : W.cell? ⟨b, 8, none⟩ = some (.int .i64 o.fn)
  c9 : W.cell? ⟨b, 9, none⟩ = some (.int .i64 o.fm)
  c10 : W.cell? ⟨b, 10, none⟩ = some (.int .u8 o.al)
  c11 : W.cell? ⟨b, 11, none⟩ = some (.int .u32 o.ac)
  c12 : W.cell? ⟨b, 12, none⟩ = some (.int .u8 o.ak)
  c13 : W.cell? ⟨b, 13, none⟩ = some (.int .i64 o.an)
  c14 : W.cell? ⟨b, 14, none⟩ = some (.int .u8 o.tl)
  c15 : W.cell? ⟨b, 15, none⟩ = some (.int .u32 o.tc)
  c16 : W.cell? ⟨b, 16, none⟩ = some (.slice A n c)
theorem BoxO.keep {W W' : World} {b : Nat} {o : Opd} {A : Option Addr} {n c : Nat} (h : BoxO W b o A n c) (hb : Below W.heap.size W W') : BoxO W' b o A n c :=
  ⟨Go.Proofs.Ytbhglgcnoidddaa.keep hb h.c0, Go.Proofs.Ytbhglgcnoidddaa.keep hb h.c1, Go.Proofs.Ytbhglgcnoidddaa.keep hb h.c2, Go.Proofs.Ytbhglgcnoidddaa.keep hb h.c3, Go.Proofs.Ytbhglgcnoidddaa.keep hb h.c4, Go.Proofs.Ytbhglgcnoidddaa.keep hb h.c5, Go.Proofs.Ytbhglgcnoidddaa.keep hb h.c6, Go.Proofs.Ytbhglgcnoidddaa.keep hb h.c7, Go.Proofs.Ytbhglgcnoidddaa.keep hb h.c8, Go.Proofs.Ytbhglgcnoidddaa.keep hb h.c9, Go.Proofs.Ytbhglgcnoidddaa.keep hb h.c10, Go.Proofs.Ytbhglgcnoidddaa.keep hb h.c11, Go.Proofs.Ytbhglgcnoidddaa.keep hb h.c12, Go.Proofs.Ytbhglgcnoidddaa.keep hb h.c13, Go.Proofs.Ytbhglgcnoidddaa.keep hb h.c14, Go.Proofs.Ytbhglgcnoidddaa.keep hb h.c15, Go.Proofs.Ytbhglgcnoidddaa.keep hb h.c16⟩
theorem boxO_new (w : World) (o : Opd) (A : Option Addr) (n c : Nat) (t : TypeId) : BoxO (w.alloc (.cells #[.int .u8 o.kd, .int .u8 o.l, .int .u32 o.c, .int .u8 o.k, .int .i64 o.s, .int .u8 o.fl, .int .u32 o.fc, .int .u8 o.fk, .int .i64 o.fn, .int .i64 o.fm, .int .u8 o.al, .int .u32 o.ac, .int .u8 o.ak, .int .i64 o.an, .int .u8 o.tl, .int .u32 o.tc, .slice A n c] t)) w.heap.size o A n c := by
  constructor <;> simp [go_sem]

/-- Its cells as one range; what is loaded whole, and stored whole. -/
theorem BoxO.range {W : World} {b : Nat} {o : Opd} {A : Option Addr} {n c : Nat} (h : BoxO W b o A n c) : W.rangeAt b 0 [.int .u8 o.kd, .int .u8 o.l, .int .u32 o.c, .int .u8 o.k, .int .i64 o.s, .int .u8 o.fl, .int .u32 o.fc, .int .u8 o.fk, .int .i64 o.fn, .int .i64 o.fm, .int .u8 o.al, .int .u32 o.ac, .int .u8 o.ak, .int .i64 o.an, .int .u8 o.tl, .int .u32 o.tc, .slice A n c] := fun j v hv => by
  match j, hv with
  | 0, hv => cases hv; exact h.c0
  | 1, hv => cases hv; exact h.c1
  | 2, hv => cases hv; exact h.c2
  | 3, hv => cases hv; exact h.c3
  | 4, hv => cases hv; exact h.c4
  | 5, hv => cases hv; exact h.c5
  | 6, hv => cases hv; exact h.c6
  | 7, hv => cases hv; exact h.c7
  | 8, hv => cases hv; exact h.c8
  | 9, hv => cases hv; exact h.c9
  | 10, hv => cases hv; exact h.c10
  | 11, hv => cases hv; exact h.c11
  | 12, hv => cases hv; exact h.c12
  | 13, hv => cases hv; exact h.c13
  | 14, hv => cases hv; exact h.c14
  | 15, hv => cases hv; exact h.c15
  | 16, hv => cases hv; exact h.c16
  | j + 17, hv => simp at hv
theorem boxO_of {W : World} {b : Nat} {o : Opd} {A : Option Addr} {n c : Nat} (h : W.rangeAt b 0 [.int .u8 o.kd, .int .u8 o.l, .int .u32 o.c, .int .u8 o.k, .int .i64 o.s, .int .u8 o.fl, .int .u32 o.fc, .int .u8 o.fk, .int .i64 o.fn, .int .i64 o.fm, .int .u8 o.al, .int .u32 o.ac, .int .u8 o.ak, .int .i64 o.an, .int .u8 o.tl, .int .u32 o.tc, .slice A n c]) : BoxO W b o A n c :=
  ⟨h 0 _ rfl, h 1 _ rfl, h 2 _ rfl, h 3 _ rfl, h 4 _ rfl, h 5 _ rfl, h 6 _ rfl, h 7 _ rfl, h 8 _ rfl, h 9 _ rfl, h 10 _ rfl, h 11 _ rfl, h 12 _ rfl, h 13 _ rfl, h 14 _ rfl, h 15 _ rfl, h 16 _ rfl⟩
theorem info_O : (Try.prog.info? 35).map (·.size) = some 17 := by kernel_rfl
theorem wpList_load_o {ops : Array Oper} {rest : List Oper} {op : Oper} {a : Act} {W : World} {Q : Exit → Act → World → Prop} (hwt : Region.wanted op (yielded ops a.tmps) = true) (x : Operand) (ho : op.op = .load 35 x)
    (b : Nat) (hx : a.eval x = .pointer (some ⟨b, 0, none⟩)) {o : Opd} {A : Option Addr} {n c : Nat} (hB : BoxO W b o A n c) (h : wpList Try.prog ops Q rest (a.put op.dst (.agg #[.int .u8 o.kd, .int .u8 o.l, .int .u32 o.c, .int .u8 o.k, .int .i64 o.s, .int .u8 o.fl, .int .u32 o.fc, .int .u8 o.fk, .int .i64 o.fn, .int .i64 o.fm, .int .u8 o.al, .int .u32 o.ac, .int .u8 o.ak, .int .i64 o.an, .int .u8 o.tl, .int .u32 o.tc, .slice A n c])) W) : wpList Try.prog ops Q (op :: rest) a W := by
  refine wpList_step fun K hK => ?_
  rw [if_pos hwt]
  exact wp_load_mid 35 x ho b 0 hx _ _ hB.range Try.underlying35 rfl info_O (hK _ _ h)
theorem yields_load_o {ops : Array Oper} {S : World → Prop} {op : Oper} {a : Act} (hw : Region.wanted op (yielded ops a.tmps) = true) (x : Operand) (ho : op.op = .load 35 x)
    (b : Nat) (hx : a.eval x = .pointer (some ⟨b, 0, none⟩)) {o : Opd} {A : Option Addr} {n c : Nat} (hS : ∀ w, S w → BoxO w b o A n c) : YieldsIf Try.prog ops S op (.agg #[.int .u8 o.kd, .int .u8 o.l, .int .u32 o.c, .int .u8 o.k, .int .i64 o.s, .int .u8 o.fl, .int .u32 o.fc, .int .u8 o.fk, .int .i64 o.fn, .int .i64 o.fm, .int .u8 o.al, .int .u32 o.ac, .int .u8 o.ak, .int .i64 o.an, .int .u8 o.tl, .int .u32 o.tc, .slice A n c]) a :=
  yieldsIf_load_mid hw 35 x ho b 0 hx _ _ (fun w h => (hS w h).range) Try.underlying35 rfl info_O

theorem heap_setCells (b : Nat) : ∀ (vs : List Value) (o : Nat) (w : World) (k : Nat), k ≠ b → (w.setCells b o vs).heap[k]? = w.heap[k]?
  | [], _, _, _, _ => rfl
  | v :: r, o, w, k, hk => by
    rw [World.setCells, heap_setCells b r (o + 1) _ k hk, Below.heap_setCell _ _ _ _ hk]
theorem below_setCells (b base : Nat) (hb : base ≤ b) : ∀ (vs : List Value) (o : Nat) (w : World), Below base w (w.setCells b o vs)
  | [], _, w => Below.refl _ _
  | v :: r, o, w => by
    rw [World.setCells]
    exact ((Below.refl base w).setCell hb v).trans (below_setCells b base hb r (o + 1) _)
theorem size_setCells (b : Nat) : ∀ (vs : List Value) (o : Nat) (w : World), (w.setCells b o vs).heap.size = w.heap.size
  | [], _, _ => rfl
  | v :: r, o, w => by
    rw [World.setCells, size_setCells b r (o + 1)]
    simp [World.setCell]

/-- There is room for a whole operation in a block. -/
def ThereO (W : World) (b : Nat) : Prop := W.there b 0 17
theorem ThereO.keep {W W' : World} {b : Nat} (h : ThereO W b) (hb : Below W.heap.size W W') : ThereO W' b := fun j hj => by
  obtain ⟨h1, h2⟩ := h j hj
  obtain ⟨u, hu⟩ := Option.isSome_iff_exists.1 h1
  exact ⟨by rw [Go.Proofs.Ytbhglgcnoidddaa.keep hb hu]; rfl, keepz hb hu h2⟩
theorem thereO_new (w : World) (cs : Array Value) (hc : cs.size = 17) (t : TypeId) : ThereO (w.alloc (.cells cs t)) w.heap.size := fun j hj => by
  refine ⟨?_, ?_⟩
  · rw [cell_of_row _ _ _ cs t (0, 0) (heap_alloc_last w _)]
    simp; omega
  · exact frozen_of_row _ _ _ _ _ (heap_alloc_last w _)
theorem wpList_store_o {ops : Array Oper} {rest : List Oper} {op : Oper} {a : Act} {W : World} {Q : Exit → Act → World → Prop} (hgd : op.guard = none) (x y : Operand) (ho : op.op = .store 35 x y)
    (b : Nat) (hx : a.eval x = .pointer (some ⟨b, 0, none⟩)) (o : Opd) (A : Option Addr) (n c : Nat) (hy : a.eval y = .agg #[.int .u8 o.kd, .int .u8 o.l, .int .u32 o.c, .int .u8 o.k, .int .i64 o.s, .int .u8 o.fl, .int .u32 o.fc, .int .u8 o.fk, .int .i64 o.fn, .int .i64 o.fm, .int .u8 o.al, .int .u32 o.ac, .int .u8 o.ak, .int .i64 o.an, .int .u8 o.tl, .int .u32 o.tc, .slice A n c]) (ht : ThereO W b) (base : Nat) (hb : base ≤ b)
    (h : ∀ W', BoxO W' b o A n c → ThereO W' b → Below base W W' → (∀ k, k ≠ b → W'.heap[k]? = W.heap[k]?) → W'.heap.size = W.heap.size → wpList Try.prog ops Q rest (a.put op.dst undef) W') : wpList Try.prog ops Q (op :: rest) a W := by
  refine wpList_store_mid hgd 35 x y ho b 0 _ hx hy ht info_O (by simp [Value.oneCell']) ?_
  refine h _ (boxO_of (World.rangeAt_setCells_same W b 0 _ ht)) (World.there_setCells ht b 0 _) (below_setCells b base hb _ _ _) (fun k hk => heap_setCells b _ _ _ k hk) (size_setCells b _ _ _)

/-- What lies in other blocks. -/
theorem cell_other {W W' : World} {b : Nat} (hh : ∀ k, k ≠ b → W'.heap[k]? = W.heap[k]?) {p : Addr} (hp : p.block ≠ b) {v : Value} (hc : W.cell? p = some v) : W'.cell? p = some v := by
  rw [World.cell?_of_block (w := W) (hh p.block hp)]; exact hc
theorem BoxO.other {W W' : World} {b : Nat} (hh : ∀ k, k ≠ b → W'.heap[k]? = W.heap[k]?) {g : Nat} (hg : g ≠ b) {o : Opd} {A : Option Addr} {n c : Nat} (h : BoxO W g o A n c) : BoxO W' g o A n c :=
  boxO_of fun j v hv => cell_other hh (p := ⟨g, 0 + j, none⟩) hg (h.range j v hv)
theorem OwnI.other {W W' : World} {b : Nat} (hh : ∀ k, k ≠ b → W'.heap[k]? = W.heap[k]?) {base : Nat} (hb : b < base) {e : TypeId} {A : Option Addr} {c : Nat} {l : List Int} (h : OwnI W base e A c l) : OwnI W' base e A c l := by
  obtain ⟨⟨h0, h1⟩, h2⟩ := h
  refine ⟨⟨h0, ?_⟩, h2⟩
  rcases h1 with h | ⟨g, cap, cur, hv, hbg, hg, r⟩
  · exact .inl h
  · exact .inr ⟨g, cap, cur, hv, hbg, by rw [hh g (by omega)]; exact hg, r⟩

theorem chkL_j (j : Int) (l c : Int) (h : Hid (er (mayL l) = j)) (w : World) :
    Calls Try.prog 52 #[.agg #[.int .u8 l, .int .u32 c]] w fun e w' => e = .returned (.int .i64 j) ∧ Below w.heap.size w w' := by
  rw [← h.out]; exact check_any l c w
theorem chkH_j (j : Int) (l c k : Int) (h : Hid (er (mayH l k) = j)) (w : World) :
    Calls Try.prog 47 #[.agg #[.int .u8 l, .int .u32 c, .int .u8 k]] w fun e w' => e = .returned (.int .i64 j) ∧ Below w.heap.size w w' := by
  rw [← h.out]; exact checkHandle_any l c k w
theorem chkI_j (j : Int) (l c k n : Int) (h : Hid (er (mayI l k n) = j)) (w : World) :
    Calls Try.prog 80 #[.agg #[.int .u8 l, .int .u32 c, .int .u8 k, .int .i64 n]] w fun e w' => e = .returned (.int .i64 j) ∧ Below w.heap.size w w' := by
  rw [← h.out]; exact check_id l c k n w
theorem chkS_j (j : Int) (l c k n m : Int) (h : Hid (er (mayS l k n m) = j)) (w : World) :
    Calls Try.prog 48 #[.agg #[.int .u8 l, .int .u32 c, .int .u8 k, .int .i64 n, .int .i64 m]] w fun e w' => e = .returned (.int .i64 j) ∧ Below w.heap.size w w' := by
  rw [← h.out]; exact checkSpan_any l c k n m w
theorem er_t : er true = 0 := rfl
theorem er_f : er false = 8 := rfl

set_option maxHeartbeats 400000 in
theorem afterMay_of (q : Bool) (l c k n : Int) (hq : Hid ((sameI l c k n 0 0 0 0 || mayI l k n) = q)) (w : World) :
    Calls Try.prog 49 #[.agg #[.int .u8 l, .int .u32 c, .int .u8 k, .int .i64 n]] w fun e w' => e = .returned (.bool q) ∧ Below w.heap.size w w' := by
  obtain ⟨z, hz⟩ : ∃ z, sameI l c k n 0 0 0 0 = z := ⟨_, rfl⟩
  have hE : ∀ W, (binOp .eql 28 (.agg #[.int .u8 l, .int .u32 c, .int .u8 k, .int .i64 n]) (.agg #[.int .u8 0, .int .u32 0, .int .u8 0, .int .i64 0])).run Try.prog W = .ok (.bool z) W := fun W => by rw [← hz]; exact eql_id W _ _ _ _ _ _ _ _
  have h := hq.out
  rw [hz] at h
  clear hz hq
  cases z
  · obtain ⟨m, hm⟩ : ∃ m, mayI l k n = m := ⟨_, rfl⟩
    have HM := hid hm
    have HQ := hid (show m = q by rw [← hm]; simpa using h)
    clear h hm
    cases m
    · have HJ := hid (show er (mayI l k n) = 8 by rw [HM.out]; rfl)
      go_enter Try.func49, Try.ntmps49
      go_wp2_with fail
      go_call chkI_j 8 l c k n HJ _ as e w1 ⟨rfl, b1⟩
      go_wp2
      go_ret
      exact ⟨by rw [← HQ.out]; rfl, past_alloc b1⟩
    · have HJ := hid (show er (mayI l k n) = 0 by rw [HM.out]; rfl)
      go_enter Try.func49, Try.ntmps49
      go_wp2_with fail
      go_call chkI_j 0 l c k n HJ _ as e w1 ⟨rfl, b1⟩
      go_wp2
      go_ret
      exact ⟨by rw [← HQ.out]; rfl, past_alloc b1⟩
  · have HQ := hid (show true = q by simpa using h)
    clear h
    go_enter Try.func49, Try.ntmps49
    go_wp2
    go_ret
    exact ⟨by rw [← HQ.out]; rfl, by go_grown⟩

set_option maxHeartbeats 400000 in
theorem rowMay_of (q : Bool) (o : Opd) (A : Option Addr) (n c : Nat) (hn : Hid (o.row.length = n)) (hq : Hid (rowB o = q)) (w : World) (hr : Ri w A c o.row) :
    Calls Try.prog 50 #[.agg #[.int .u8 o.kd, .int .u8 o.l, .int .u32 o.c, .int .u8 o.k, .int .i64 o.s, .int .u8 o.fl, .int .u32 o.fc, .int .u8 o.fk, .int .i64 o.fn, .int .i64 o.fm, .int .u8 o.al, .int .u32 o.ac, .int .u8 o.ak, .int .i64 o.an, .int .u8 o.tl, .int .u32 o.tc, .slice A n c]] w fun e w' => e = .returned (.bool q) ∧ Below w.heap.size w w' := by
  by_cases h : (n : Int) = o.fm
  · have d1 : ((n : Int) == o.fm) = true := by simpa using h
    obtain ⟨j, hj⟩ : ∃ j, chk o.row = j := ⟨_, rfl⟩
    have HJ := hid hj
    have HQ := hid (show decide (j = 0) = q by rw [← hq.out, rowB, hj, hn.out, decide_eq_true h]; rfl)
    clear hj hq h
    have hr1 := hr.alloc (.cells #[.int .u8 o.kd, .int .u8 o.l, .int .u32 o.c, .int .u8 o.k, .int .i64 o.s, .int .u8 o.fl, .int .u32 o.fc, .int .u8 o.fk, .int .i64 o.fn, .int .i64 o.fm, .int .u8 o.al, .int .u32 o.ac, .int .u8 o.ak, .int .i64 o.an, .int .u8 o.tl, .int .u32 o.tc, .slice A n c] 35)
    go_enter Try.func50, Try.ntmps50
    go_wp2_with fail
    go_call check_of j A n c o.row hn HJ _ hr1 as e w1 ⟨rfl, rfl⟩
    go_wp2
    go_ret
    exact ⟨ret_bool (by rw [← HQ.out, Bool.beq_eq_decide_eq]), by go_grown⟩
  · have d1 : ((n : Int) == o.fm) = false := by simpa using h
    have HQ := hid (show false = q by rw [← hq.out, rowB, hn.out, decide_eq_false h]; rfl)
    clear hq h hr hn
    go_enter Try.func50, Try.ntmps50
    go_wp2
    go_ret
    exact ⟨ret_bool HQ.out, by go_grown⟩

set_option maxHeartbeats 400000 in
theorem addsNothing_of (q : Bool) (o : Opd) (A : Option Addr) (n c : Nat) (hn : Hid (o.row.length = n)) (hq : Hid (nonB o = q)) (w : World) :
    Calls Try.prog 51 #[.agg #[.int .u8 o.kd, .int .u8 o.l, .int .u32 o.c, .int .u8 o.k, .int .i64 o.s, .int .u8 o.fl, .int .u32 o.fc, .int .u8 o.fk, .int .i64 o.fn, .int .i64 o.fm, .int .u8 o.al, .int .u32 o.ac, .int .u8 o.ak, .int .i64 o.an, .int .u8 o.tl, .int .u32 o.tc, .slice A n c]] w fun e w' => e = .returned (.bool q) ∧ Below w.heap.size w w' := by
  obtain ⟨z, hz⟩ : ∃ z, sameI o.al o.ac o.ak o.an 0 0 0 0 = z := ⟨_, rfl⟩
  have hE : ∀ W, (binOp .eql 28 (.agg #[.int .u8 (o.al), .int .u32 (o.ac), .int .u8 (o.ak), .int .i64 (o.an)]) (.agg #[.int .u8 0, .int .u32 0, .int .u8 0, .int .i64 0])).run Try.prog W = .ok (.bool z) W := fun W => by rw [← hz]; exact eql_id W _ _ _ _ _ _ _ _
  have h := hq.out
  rw [nonB, hz, hn.out] at h
  clear hz hq hn
  have HQ := hid h
  clear h
  cases z
  · go_enter Try.func51, Try.ntmps51
    go_wp2
    go_ret
    exact ⟨ret_bool HQ.out, by go_grown⟩
  · go_enter Try.func51, Try.ntmps51
    go_wp2
    go_ret
    exact ⟨ret_bool (by rw [← HQ.out, Bool.true_and, Bool.beq_eq_decide_eq]; simp [decide_eq_decide]), by go_grown⟩
end Go.Proofs.Ytbhglgcnoidddaa
