/-
  Three bytes of a frame that are turned: the array's comparison; the text of which the first q of three bytes are turned; when what comes of it is a frame.
-/
import Derived.Test.YthnjonabofabkaaDoorFrK
namespace Go.Proofs.YthnjonabofabkaaDoor
open Go.ChangeShapes Go.WideShapes Go.ChangeAt Go.RowKit Go.Joins
set_option linter.unusedVariables false

theorem eq_three (w : World) (a b c d e f : Int) : (Op.equalIn 10000 37 (.agg #[.int .u8 a, .int .u8 b, .int .u8 c]) (.agg #[.int .u8 d, .int .u8 e, .int .u8 f])).run Tryd.prog w = .ok (a == d && b == e && c == f) w := by
  have u5 := Tryd.underlying5
  have a5 := Tryd.isAgg5
  have z5 := Tryd.sizeOf5
  rw [show (10000 : Nat) = 9999 + 1 from rfl, Op.equalIn]
  simp only [Sem.run_bind, run_underlying Tryd.underlying37, Result.andThen_ok]
  simp only [Std.Legacy.Range.forIn_eq_forIn_range', Std.Legacy.Range.size, Nat.sub_zero, Nat.add_sub_cancel, Nat.div_one, List.range'_succ, List.range'_zero, List.forIn_cons, List.forIn_nil]
  go_simp
  by_cases h1 : a = d <;> by_cases h2 : b = e <;> by_cases h3 : c = f <;> simp [h1, h2, h3]
theorem eql_three (w : World) (a b c d e f : Int) : (binOp .eql 37 (.agg #[.int .u8 a, .int .u8 b, .int .u8 c]) (.agg #[.int .u8 d, .int .u8 e, .int .u8 f])).run Tryd.prog w = .ok (.bool (a == d && b == e && c == f)) w := by
  rw [run_eql_struct, eq_three]
  rfl

/-- A text of which the first q of three bytes behind p are turned. -/
def tl (p r : List UInt8) (x y z d e f : UInt8) : Nat → List UInt8
  | 0 => p ++ [x, y, z] ++ r
  | 1 => p ++ [x ^^^ d, y, z] ++ r
  | 2 => p ++ [x ^^^ d, y ^^^ e, z] ++ r
  | _ => p ++ [x ^^^ d, y ^^^ e, z ^^^ f] ++ r
theorem tl_length (p r : List UInt8) (x y z d e f : UInt8) (q : Nat) : (tl p r x y z d e f q).length = p.length + 3 + r.length := by
  match q with
  | 0 => simp [tl]; omega
  | 1 => simp [tl]; omega
  | 2 => simp [tl]; omega
  | q + 3 => simp [tl]; omega
theorem tl_step (p r : List UInt8) (x y z d e f : UInt8) (q : Nat) (hq : q < 3) :
    ∃ u v : UInt8, (tl p r x y z d e f q)[p.length + q]? = some u ∧ [d, e, f][q]? = some v ∧ tl p r x y z d e f (q + 1) = (tl p r x y z d e f q).set (p.length + q) (u ^^^ v) := by
  have h : q = 0 ∨ q = 1 ∨ q = 2 := by omega
  rcases h with rfl | rfl | rfl
  · exact ⟨x, d, by simp [tl], rfl, by simp [tl]⟩
  · exact ⟨y, e, by simp [tl], rfl, by simp [tl]⟩
  · exact ⟨z, f, by simp [tl], rfl, by simp [tl]⟩
theorem cut_three (l : List UInt8) (a : Nat) (h : a + 3 ≤ l.length) : ∃ p r x y z, l = p ++ [x, y, z] ++ r ∧ p.length = a := by
  refine ⟨l.take a, l.drop (a + 3), l[a], l[a + 1], l[a + 2], ?_, by rw [List.length_take]; omega⟩
  have e1 : l.drop a = l[a] :: l.drop (a + 1) := List.drop_eq_getElem_cons (by omega)
  have e2 : l.drop (a + 1) = l[a + 1] :: l.drop (a + 2) := List.drop_eq_getElem_cons (by omega)
  have e3 : l.drop (a + 2) = l[a + 2] :: l.drop (a + 3) := List.drop_eq_getElem_cons (by omega)
  rw [e3] at e2
  rw [e2] at e1
  rw [List.append_assoc]
  show l = l.take a ++ l[a] :: l[a + 1] :: l[a + 2] :: l.drop (a + 3)
  rw [← e1, List.take_append_drop]
theorem u8s_set (l : List UInt8) (j : Nat) (b : UInt8) : (u8s l).set j (.int .u8 (b.toNat : Int)) = u8s (l.set j b) := by simp [u8s, List.map_set]

theorem xor_u8 (a c : UInt8) : bits .xor .u8 (a.toNat : Int) (c.toNat : Int) = ((a ^^^ c).toNat : Int) := by
  have ha := a.toNat_lt
  have hc := c.toNat_lt
  have h := Nat.xor_lt_two_pow (n := 8) ha hc
  show IntKind.u8.wrap ((BitVec.ofInt 8 (a.toNat : Int) ^^^ BitVec.ofInt 8 (c.toNat : Int)).toNat : Int) = _
  rw [BitVec.toNat_xor, ofInt_nat ha, ofInt_nat hc, IntKind.wrap_u8, UInt8.toNat_xor]
  omega


theorem neq_three (w : World) (a b c d e f : Int) : (binOp .neq 37 (.agg #[.int .u8 a, .int .u8 b, .int .u8 c]) (.agg #[.int .u8 d, .int .u8 e, .int .u8 f])).run Tryd.prog w = .ok (.bool (!(a == d && b == e && c == f))) w := by
  rw [run_neq_struct, eq_three]
  rfl

/-- none, whatever it answers. -/
theorem none_of (q : Bool) (A : Option Addr) (n c : Nat) (l : List UInt8) (hn : Hid (l.length = n)) (h : Hid ((opP l).isNone = q)) (w : World) (hr : Rd w A c l) (ht : Tab w) :
    Calls Tryd.prog 12 #[.slice A n c] w fun e w' => e = .returned (.bool q) ∧ Below w.heap.size w w' := by
  match ho : opP l with
  | none =>
    have e : q = true := by have := h.out; rw [ho] at this; exact this.symm
    subst e
    exact none_yes A n c l hn ho w hr ht
  | some m =>
    have e : q = false := by have := h.out; rw [ho] at this; exact this.symm
    subst e
    obtain ⟨k, hk⟩ : ∃ k, m.length = k := ⟨_, rfl⟩
    have H := hid (show opB l = m ∧ m.length = k ∧ opE l = 0 from ⟨(op_yes ho).1, hk, (op_yes ho).2.2⟩)
    clear ho h
    go_enter Tryd.func12, Tryd.ntmps12
    go_wp2_with fail
    refine (open_of m k 0 A n c l hn H _ hr ht).mono ?_
    rintro e w1 ⟨A1, c1, rfl, hown, hb⟩
    clear hown
    go_wp2
    go_ret
    exact ⟨rfl, hb⟩

/-- Whether three bytes turn nothing. -/
def still (d e f : UInt8) : Bool := (d.toNat : Int) == 0 && (e.toNat : Int) == 0 && (f.toNat : Int) == 0
theorem still_iff (d e f : UInt8) : still d e f = true ↔ d = 0 ∧ e = 0 ∧ f = 0 := by
  simp only [still, Bool.and_eq_true, beq_iff_eq, and_assoc, Int.natCast_eq_zero]
  simp only [← UInt8.toNat_inj, UInt8.toNat_zero]
theorem turned_none {l p r : List UInt8} {x y z d e f : UInt8} (hl : l.length ≤ 1000) (h : fr l = p ++ [x, y, z] ++ r) : (opP (tl p r x y z d e f 3)).isNone = !still d e f := by
  show (opP (p ++ [x ^^^ d, y ^^^ e, z ^^^ f] ++ r)).isNone = _
  cases hs : still d e f
  · rw [opP_turned h (fun h' => by rw [(still_iff d e f).2 h'] at hs; cases hs)]
    rfl
  · obtain ⟨rfl, rfl, rfl⟩ := (still_iff d e f).1 hs
    have e0 : ∀ x : UInt8, x ^^^ 0 = x := fun x => by simp
    rw [e0, e0, e0, ← h, opP_fr hl]
    rfl
end Go.Proofs.YthnjonabofabkaaDoor
