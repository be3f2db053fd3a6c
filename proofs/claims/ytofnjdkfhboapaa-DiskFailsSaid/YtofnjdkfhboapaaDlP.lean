/-
  Layer 12's laws: mathematics and words of DiskFails: two disks, one of which fails.
-/
import Derived.Test.YtofnjdkfhboapaaDlO
namespace Go.Proofs.Ytofnjdkfhboapaa
open Go.RowKit
set_option linter.unusedVariables false
set_option linter.unusedSimpArgs false

/-- Behind k writes, of which the first n are done; behind those that are done. -/
def xK (S : List Sct) (s n : Int) (k : Nat) : Dsk := ⟨S, s, if (k : Int) ≤ n then n - k else 0, decide (n < (k : Int))⟩
def yK (S : List Sct) (s : Int) : Dsk := ⟨S, s, -1, false⟩
theorem x_may {S : List Sct} {s n : Int} (hS : secsB S = true) (h0 : 0 ≤ s) (h1 : s < 2147483648) (n0 : 0 ≤ n) (n1 : n ≤ 100) (k : Nat) : mayD (xK S s n k) = true := by
  refine may_of hS h0 h1 ?_ ?_ fun h => ?_
  · simp only [xK]; split <;> omega
  · simp only [xK]; split <;> omega
  · simp only [xK, decide_eq_true_eq] at h ⊢
    rw [if_neg (by omega)]
theorem y_may {S : List Sct} {s : Int} (hS : secsB S = true) (h0 : 0 ≤ s) (h1 : s < 2147483648) : mayD (yK S s) = true :=
  may_of hS h0 h1 (by simp [yK]) (by simp [yK]) (fun h => by cases h)
theorem xK_lt {S : List Sct} {s n : Int} {k : Nat} (h : (k : Int) < n) : xK S s n k = ⟨S, s, n - k, false⟩ := by
  rw [xK, if_pos (by omega)]
  congr 1
  simp; omega
theorem xK_eq {S : List Sct} {s n : Int} {k : Nat} (h : (k : Int) = n) : xK S s n k = ⟨S, s, 0, false⟩ := by
  rw [xK, if_pos (by omega)]
  congr 1
  · omega
  · simp; omega
theorem xK_gt {S : List Sct} {s n : Int} {k : Nat} (h : n < (k : Int)) : xK S s n k = ⟨S, s, 0, true⟩ := by
  rw [xK, if_neg (by omega)]
  congr 1
  simpa using h
theorem x_write {S : List Sct} {s n : Int} (hS : secsB S = true) (h0 : 0 ≤ s) (h1 : s < 2147483648) (n0 : 0 ≤ n) (n1 : n ≤ 100) (k : Nat) {a : Int} {l : List UInt8} (a0 : 0 ≤ a) (a1 : a < 6146) (hl : l.length = 128) :
    writeE (xK S s n k) a l = 0 ∧ writeV (xK S s n k) a l = xK (if (k : Int) < n then withS S a l else S) s n (k + 1) := by
  obtain ⟨e1, e2⟩ := write_ok (x_may hS h0 h1 n0 n1 k) (a := a) (y := l) ⟨a0, a1, hl⟩
  refine ⟨e1, ?_⟩
  rw [e2]
  by_cases hk : (k : Int) < n
  · rw [if_pos hk, xK_lt hk, written_more rfl (show 0 < n - (k : Int) by omega)]
    by_cases h2 : ((k + 1 : Nat) : Int) < n
    · rw [xK_lt h2]
      congr 1
      simp; omega
    · rw [xK_eq (show ((k + 1 : Nat) : Int) = n by omega)]
      congr 1
      simp; omega
  · rw [if_neg hk]
    rw [xK_gt (show n < ((k + 1 : Nat) : Int) by omega)]
    by_cases h2 : (k : Int) = n
    · rw [xK_eq h2, written_dead (.inr rfl)]
    · rw [xK_gt (by omega), written_dead (.inl rfl)]
theorem y_write {S : List Sct} {s : Int} (hS : secsB S = true) (h0 : 0 ≤ s) (h1 : s < 2147483648) {a : Int} {l : List UInt8} (a0 : 0 ≤ a) (a1 : a < 6146) (hl : l.length = 128) :
    writeE (yK S s) a l = 0 ∧ writeV (yK S s) a l = yK (withS S a l) s := by
  obtain ⟨e1, e2⟩ := write_ok (y_may hS h0 h1) (a := a) (y := l) ⟨a0, a1, hl⟩
  refine ⟨e1, ?_⟩
  rw [e2, written_done (by simp [doneK, yK])]
  simp [yK]
theorem x_bad {S : List Sct} {s n : Int} (hS : secsB S = true) (h0 : 0 ≤ s) (h1 : s < 2147483648) (n0 : 0 ≤ n) (n1 : n ≤ 100) (k : Nat) {a : Int} (l : List UInt8) (h : ¬ (0 ≤ a ∧ a < 6146)) : writeE (xK S s n k) a l = 2 :=
  (write_arg (x_may hS h0 h1 n0 n1 k) (by omega)).1
theorem secs_if {S : List Sct} (hS : secsB S = true) {a : Int} {l : List UInt8} (a0 : 0 ≤ a) (a1 : a < 6146) (hl : l.length = 128) (p : Prop) [Decidable p] : secsB (if p then withS S a l else S) = true := by
  split
  · exact secs_with hS a0 a1 hl
  · exact hS
theorem start_same {d : Dsk} {n : Int} (n0 : 0 ≤ n) (n1 : n ≤ 100) : startE d (-1) = startE d n := by
  rw [startE, startE]
  split
  · rw [if_pos (show (-1 : Int) ≤ -1 ∧ (-1 : Int) < 2147483648 by omega), if_pos (show -1 ≤ n ∧ n < 2147483648 by omega)]
  · rfl
theorem start_0 {d : Dsk} {n : Int} (n0 : 0 ≤ n) (n1 : n ≤ 100) (h : startE d n = 0) : secsB d.se = true ∧ 0 ≤ d.st + 1 ∧ d.st + 1 < 2147483648 ∧ startV d n = xK d.se (d.st + 1) n 0 ∧ startV d (-1) = yK d.se (d.st + 1) := by
  have h' := start_same (d := d) n0 n1
  rw [h] at h'
  have e1 : startV d n = startedK d n := by rw [startV, if_pos h]
  have e2 : startV d (-1) = startedK d (-1) := by rw [startV, if_pos h']
  rw [startE] at h
  split at h
  · rename_i hm
    rw [if_pos (by omega)] at h
    split at h
    · omega
    · rename_i h9
      obtain ⟨t0, t1, t2, t3, t4, t5⟩ := tail_parts hm
      refine ⟨t0, by omega, by omega, ?_, by rw [e2]; rfl⟩
      rw [e1, startedK]
      by_cases hn : n = 0
      · rw [xK_eq (show ((0 : Nat) : Int) = n by omega), hn]
      · rw [xK_lt (show ((0 : Nat) : Int) < n by omega)]
        simp
  · omega

/-! ### The two disks in their boxes -/
structure Fl (W : World) (d : Dsk) (A : Option Addr) (n c gx gy : Nat) (X Y : Dsk) (wx : World) : Prop where
  bd : BoxK wx W.heap.size d A n c
  bx : ∃ Ax cx, Bk wx gx X Ax X.se.length cx ∧ ∃ base, OwT wx base Ax cx X.se
  by' : ∃ Ay cy, Bk wx gy Y Ay Y.se.length cy ∧ ∃ base, OwT wx base Ay cy Y.se
  tx : Tk wx gx
  ty : Tk wx gy
  ne : gx ≠ gy
  lx : W.heap.size < gx
  ly : W.heap.size < gy
  be : Below W.heap.size W wx
theorem Fl.keep {W : World} {d : Dsk} {A : Option Addr} {n c gx gy : Nat} {X Y : Dsk} {wx w' : World} (h : Fl W d A n c gx gy X Y wx) (hb : Below wx.heap.size wx w') : Fl W d A n c gx gy X Y w' := by
  obtain ⟨Ax, cx, k1, b1, o1⟩ := h.bx
  obtain ⟨Ay, cy, k2, b2, o2⟩ := h.by'
  exact ⟨h.bd.keep hb, ⟨Ax, cx, k1.keep hb, b1, o1.keep hb⟩, ⟨Ay, cy, k2.keep hb, b2, o2.keep hb⟩, h.tx.keep hb, h.ty.keep hb, h.ne, h.lx, h.ly, below_in h.be hb⟩
theorem BoxK.other {W W' : World} {b : Nat} {d : Dsk} {A : Option Addr} {n c : Nat} (h : BoxK W b d A n c) {g : Nat} (hh : ∀ k, k ≠ g → W'.heap[k]? = W.heap[k]?) (hg : b ≠ g) : BoxK W' b d A n c :=
  fun j v hv => cell_other hh (p := ⟨b, 0 + j, none⟩) hg (h j v hv)
theorem Tk.same {W W' : World} {b : Nat} (h : Tk W b) {t : TypeId} {cs : Array Value} (e : W'.heap[b]? = some (.cells cs 24 (0, 0))) : Tk W' b := ⟨cs, e⟩
theorem tk_setCells {w : World} {g : Nat} (h : Tk w g) : ∀ (vs : List Value) (o : Nat), Tk (w.setCells g o vs) g
  | [], _ => h
  | v :: r, o => by
    rw [World.setCells]
    exact tk_setCells (h.setc g o v) r (o + 1)
theorem Fl.stX {W : World} {d : Dsk} {A : Option Addr} {n c gx gy : Nat} {X Y : Dsk} {wx w' : World} (h : Fl W d A n c gx gy X Y wx) (P : Dsk) {Ap : Option Addr} {cp : Nat} (ho : ∃ base, OwT wx base Ap cp P.se) (hk : Bk w' gx P Ap P.se.length cp) (ht : Tk w' gx) (hh : ∀ k, k ≠ gx → w'.heap[k]? = wx.heap[k]?) (hb : Below W.heap.size wx w') : Fl W d A n c gx gy P Y w' := by
  obtain ⟨b0, o0⟩ := ho
  obtain ⟨Ay, cy, k2, b2, o2⟩ := h.by'
  have lx := h.lx
  exact ⟨h.bd.other hh (by omega), ⟨Ap, cp, hk, b0, o0.box h.tx hh⟩, ⟨Ay, cy, k2.other hh (Ne.symm h.ne), b2, o2.box h.tx hh⟩, ht, h.ty.other hh (Ne.symm h.ne), h.ne, h.lx, h.ly, h.be.trans hb⟩
theorem Fl.stY {W : World} {d : Dsk} {A : Option Addr} {n c gx gy : Nat} {X Y : Dsk} {wx w' : World} (h : Fl W d A n c gx gy X Y wx) (P : Dsk) {Ap : Option Addr} {cp : Nat} (ho : ∃ base, OwT wx base Ap cp P.se) (hk : Bk w' gy P Ap P.se.length cp) (ht : Tk w' gy) (hh : ∀ k, k ≠ gy → w'.heap[k]? = wx.heap[k]?) (hb : Below W.heap.size wx w') : Fl W d A n c gx gy X P w' := by
  obtain ⟨b0, o0⟩ := ho
  obtain ⟨Ax, cx, k2, b2, o2⟩ := h.bx
  have ly := h.ly
  exact ⟨h.bd.other hh (by omega), ⟨Ax, cx, k2.other hh h.ne, b2, o2.box h.ty hh⟩, ⟨Ap, cp, hk, b0, o0.box h.ty hh⟩, h.tx.other hh h.ne, ht, h.ne, h.lx, h.ly, h.be.trans hb⟩
/-- A whole disk stored, its box's kind kept. -/
theorem wpList_store_kt {ops : Array Oper} {rest : List Oper} {op : Oper} {a : Act} {W : World} {Q : Exit → Act → World → Prop} (hgd : op.guard = none) (x y : Operand) (ho : op.op = .store 24 x y)
    (b : Nat) (hx : a.eval x = .pointer (some ⟨b, 0, none⟩)) (d : Dsk) (A : Option Addr) (n c : Nat) (hy : a.eval y = .agg #[.slice A n c, .int .i64 d.st, .int .i64 d.lf, .bool d.dd]) {d0 : Dsk} {A0 : Option Addr} {n0 c0 : Nat} (ht : Bk W b d0 A0 n0 c0) (tk : Tk W b) (base : Nat) (hb : base ≤ b)
    (h : ∀ W', Bk W' b d A n c → Tk W' b → Below base W W' → (∀ k, k ≠ b → W'.heap[k]? = W.heap[k]?) → W'.heap.size = W.heap.size → wpList Try.prog ops Q rest (a.put op.dst undef) W') : wpList Try.prog ops Q (op :: rest) a W := by
  refine wpList_store_mid hgd 24 x y ho b 0 _ hx hy ht.th info_K (by simp [Value.oneCell']) ?_
  exact h _ ⟨World.rangeAt_setCells_same W b 0 _ ht.th, World.there_setCells ht.th b 0 _⟩ (tk_setCells tk _ _) (below_setCells b base hb _ _ _) (fun k hk => heap_setCells b _ _ _ k hk) (size_setCells b _ _ _)
end Go.Proofs.Ytofnjdkfhboapaa
