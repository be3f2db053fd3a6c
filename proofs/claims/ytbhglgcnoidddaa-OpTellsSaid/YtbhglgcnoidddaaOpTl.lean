/-
  THE STATEMENT OpTells: operations are checked, compared and copied, and their bytes, and those of bytes, told, as the document's own; they stay, and what is answered is new memory; for any two operations, bytes, kind and number. No condition but the statement's own guards.
-/
import Derived.Test.YtbhglgcnoidddaaOpBy
import Derived.Test.YtbhglgcnoidddaaOpS
import Derived.Test.YtbhglgcnoidddaaRunD
import Derived.Test.YtbhglgcnoidddaaOpRk
import Derived.Test.YtbhglgcnoidddaaOpN
import Derived.Test.YtbhglgcnoidddaaOpF2
import Derived.Test.YtbhglgcnoidddaaOpO
import Derived.BigRegion
import Derived.OneCell
namespace Go.Proofs.Ytbhglgcnoidddaa
open Go.RowKit
set_option linter.unusedVariables false
set_option linter.unusedSimpArgs false

/-- The call hands back an operation whose row is its own. -/
def RetTwin (w : World) (o : Opd) (n : Nat) (e : Ending) (w' : World) : Prop := ∃ A c, e = .returned (.agg #[.int .u8 o.kd, .int .u8 o.l, .int .u32 o.c, .int .u8 o.k, .int .i64 o.s, .int .u8 o.fl, .int .u32 o.fc, .int .u8 o.fk, .int .i64 o.fn, .int .i64 o.fm, .int .u8 o.al, .int .u32 o.ac, .int .u8 o.ak, .int .i64 o.an, .int .u8 o.tl, .int .u32 o.tc, .slice A n c]) ∧ OwnI w' w.heap.size 21 A c o.row ∧ Below w.heap.size w w'
theorem rowO_self (o : Opd) : { o with row := o.row } = o := rfl
/-- The two boxes that a copy begins with. -/
structure Pair (w W : World) (o : Opd) (A : Option Addr) (n c : Nat) : Prop where
  bx : BoxO W w.heap.size o A n c
  tx : ThereO W w.heap.size
  ty : ThereO W (w.heap.size + 1)
  be : Below w.heap.size w W
  sz : W.heap.size = w.heap.size + 2
theorem pair_new (w : World) (o : Opd) (A : Option Addr) (n c : Nat) (Z : Array Value) (hZ : Z.size = 17) : Pair w ((w.alloc (.cells #[.int .u8 o.kd, .int .u8 o.l, .int .u32 o.c, .int .u8 o.k, .int .i64 o.s, .int .u8 o.fl, .int .u32 o.fc, .int .u8 o.fk, .int .i64 o.fn, .int .i64 o.fm, .int .u8 o.al, .int .u32 o.ac, .int .u8 o.ak, .int .i64 o.an, .int .u8 o.tl, .int .u32 o.tc, .slice A n c] 35)).alloc (.cells Z 35)) o A n c := by
  have e1 : (w.alloc (.cells #[.int .u8 o.kd, .int .u8 o.l, .int .u32 o.c, .int .u8 o.k, .int .i64 o.s, .int .u8 o.fl, .int .u32 o.fc, .int .u8 o.fk, .int .i64 o.fn, .int .i64 o.fm, .int .u8 o.al, .int .u32 o.ac, .int .u8 o.ak, .int .i64 o.an, .int .u8 o.tl, .int .u32 o.tc, .slice A n c] 35)).heap.size = w.heap.size + 1 := by simp [go_sem]
  have hb : ∀ (W : World) (x : Obj), Below W.heap.size W (W.alloc x) := fun W x => (Below.refl _ _).alloc (Nat.le_refl _) _
  have ty := thereO_new (w.alloc (.cells #[.int .u8 o.kd, .int .u8 o.l, .int .u32 o.c, .int .u8 o.k, .int .i64 o.s, .int .u8 o.fl, .int .u32 o.fc, .int .u8 o.fk, .int .i64 o.fn, .int .i64 o.fm, .int .u8 o.al, .int .u32 o.ac, .int .u8 o.ak, .int .i64 o.an, .int .u8 o.tl, .int .u32 o.tc, .slice A n c] 35)) Z hZ 35
  rw [e1] at ty
  exact ⟨(boxO_new w o A n c _).keep (hb _ _), (thereO_new w _ rfl _).keep (hb _ _), ty, (hb w _).trans ((hb _ _).mono (by rw [e1]; omega)), by simp [go_sem]⟩

set_option maxRecDepth 100000 in
set_option maxHeartbeats 1600000 in
theorem otwin_any (o : Opd) (A : Option Addr) (n c : Nat) (hn : Hid (o.row.length = n)) (h5 : n ≤ 10000) (w : World) (hr : Ri w A c o.row) :
    Calls Try.prog 19 #[.agg #[.int .u8 o.kd, .int .u8 o.l, .int .u32 o.c, .int .u8 o.k, .int .i64 o.s, .int .u8 o.fl, .int .u32 o.fc, .int .u8 o.fk, .int .i64 o.fn, .int .i64 o.fm, .int .u8 o.al, .int .u32 o.ac, .int .u8 o.ak, .int .i64 o.an, .int .u8 o.tl, .int .u32 o.tc, .slice A n c]] w (RetTwin w o n) := by
  have pp := pair_new w o A n c #[.int .u8 0, .int .u8 0, .int .u32 0, .int .u8 0, .int .i64 0, .int .u8 0, .int .u32 0, .int .u8 0, .int .i64 0, .int .i64 0, .int .u8 0, .int .u32 0, .int .u8 0, .int .i64 0, .int .u8 0, .int .u32 0, .slice none 0 0] rfl
  go_enter Try.func19, Try.ntmps19
  go_wp2_with fail
  generalize World.alloc (World.alloc w _) _ = W at pp ⊢
  refine (clone_any A n c o.row hn h5 _ (hr.keep pp.be)).mono ?_
  rintro e w1 ⟨A1, c1, rfl, ho, b1⟩
  have bx1 := pp.bx.keep b1
  have tx1 := pp.tx.keep b1
  have ty1 := pp.ty.keep b1
  have hbe := below_in pp.be b1
  have hlo : w.heap.size < W.heap.size := by rw [pp.sz]; omega
  have f16 := tx1.at_ 16 (by decide)
  have b16 := bx1.c16
  have bx2 := set_row bx1 tx1 A1 n c1 o.row
  have ty2 : ThereO (World.setCells w1 w.heap.size 16 [.slice A1 n c1]) (w.heap.size + 1) := there_other ty1 (fun k hk => heap_setCells w.heap.size _ 16 w1 k hk) (by omega)
  have ho2 : OwnI (World.setCells w1 w.heap.size 16 [.slice A1 n c1]) W.heap.size 21 A1 c1 o.row := ho.other (fun k hk => heap_setCells w.heap.size _ 16 w1 k hk) hlo
  have hbe2 : Below w.heap.size w (World.setCells w1 w.heap.size 16 [.slice A1 n c1]) := hbe.trans (below_setCells w.heap.size _ (Nat.le_refl _) _ 16 w1)
  have one : True := trivial
  go_wp2_with (first
    | (clear one; refine wpList_load_o rfl (.tmp 1) rfl _ rfl bx2 ?_)
    | (refine wpList_store_o rfl (.tmp 2) (.tmp 7) rfl (w.heap.size + 1) rfl o A1 n c1 rfl ty2 (w.heap.size + 1) (Nat.le_refl _) ?_; intro w4 bx4 th4 b4 hh4 sz4))
  exact bodyPost_ret (results_o rfl rfl bx4) rfl ⟨A1, c1, rfl, OwnI.base (by omega) (ho2.other hh4 (by rw [pp.sz]; omega)), hbe2.trans (b4.mono (by omega))⟩

set_option maxRecDepth 100000 in
set_option maxHeartbeats 1600000 in
theorem rtwin_any (o : Opd) (A : Option Addr) (n c : Nat) (hn : Hid (o.row.length = n)) (h5 : n ≤ 10000) (w : World) (hr : Ri w A c o.row) :
    Calls Try.prog 15 #[.agg #[.int .u8 o.kd, .int .u8 o.l, .int .u32 o.c, .int .u8 o.k, .int .i64 o.s, .int .u8 o.fl, .int .u32 o.fc, .int .u8 o.fk, .int .i64 o.fn, .int .i64 o.fm, .int .u8 o.al, .int .u32 o.ac, .int .u8 o.ak, .int .i64 o.an, .int .u8 o.tl, .int .u32 o.tc, .slice A n c]] w (RetTwin w o n) := by
  obtain ⟨i0, hi0, hz0, hz1, hz2⟩ := info_parts info_i32
  have pp := pair_new w o A n c #[.int .u8 0, .int .u8 0, .int .u32 0, .int .u8 0, .int .i64 0, .int .u8 0, .int .u32 0, .int .u8 0, .int .i64 0, .int .i64 0, .int .u8 0, .int .u32 0, .int .u8 0, .int .i64 0, .int .u8 0, .int .u32 0, .slice none 0 0] rfl
  go_enter Try.func15, Try.ntmps15
  have one : True := trivial
  have two : True := trivial
  go_wp2_with (first
    | (at_builtin; clear two; generalize World.alloc (World.alloc w _) _ = W at pp ⊢; refine wpList_append_i rfl (.const (.slice none 0 0)) (.tmp 4) _ rfl W.heap.size 21 Try.underlying33 hi0 hz0 hz1 hz2 none 0 0 [] (hid rfl) rfl (OwnI.nil _ _ _) A n c o.row hn rfl (hr.keep pp.be) (by omega) (Nat.le_refl _) ?_; intro A1 c1 w1 ho b1; rw [List.nil_append] at ho; have bx1 := pp.bx.keep b1; have tx1 := pp.tx.keep b1; have ty1 := pp.ty.keep b1; have hbe := below_in pp.be b1; have hlo : w.heap.size < W.heap.size := (by rw [pp.sz]; omega); have f16 := tx1.at_ 16 (by decide); have b16 := bx1.c16; have bx2 := set_row bx1 tx1 A1 n c1 o.row; have ty2 : ThereO (World.setCells w1 w.heap.size 16 [.slice A1 n c1]) (w.heap.size + 1) := there_other ty1 (fun k hk => heap_setCells w.heap.size _ 16 w1 k hk) (by omega); have ho2 : OwnI (World.setCells w1 w.heap.size 16 [.slice A1 n c1]) W.heap.size 21 A1 c1 o.row := ho.other (fun k hk => heap_setCells w.heap.size _ 16 w1 k hk) hlo; have hbe2 : Below w.heap.size w (World.setCells w1 w.heap.size 16 [.slice A1 n c1]) := hbe.trans (below_setCells w.heap.size _ (Nat.le_refl _) _ 16 w1))
    | (clear one; refine wpList_load_o rfl (.tmp 1) rfl _ rfl bx2 ?_)
    | (refine wpList_store_o rfl (.tmp 2) (.tmp 7) rfl (w.heap.size + 1) rfl o A1 n c1 rfl ty2 (w.heap.size + 1) (Nat.le_refl _) ?_; intro w4 bx4 th4 b4 hh4 sz4))
  exact bodyPost_ret (results_o rfl rfl bx4) rfl ⟨A1, c1, rfl, OwnI.base (by omega) (ho2.other hh4 (by rw [pp.sz]; omega)), hbe2.trans (b4.mono (by omega))⟩

set_option maxRecDepth 100000 in
set_option maxHeartbeats 800000 in
theorem rput_of (L : List UInt8) (m : Nat) (j : Int) (o : Opd) (A : Option Addr) (n c : Nat) (hn : Hid (o.row.length = n)) (hr : Opr o) (hL : Hid ((if mayO o = true then opb o else []) = L ∧ L.length = m ∧ er (mayO o) = j)) (w : World) (hri : Ri w A c o.row) :
    Calls Try.prog 17 #[.agg #[.int .u8 o.kd, .int .u8 o.l, .int .u32 o.c, .int .u8 o.k, .int .i64 o.s, .int .u8 o.fl, .int .u32 o.fc, .int .u8 o.fk, .int .i64 o.fn, .int .i64 o.fm, .int .u8 o.al, .int .u32 o.ac, .int .u8 o.ak, .int .i64 o.an, .int .u8 o.tl, .int .u32 o.tc, .slice A n c]] w fun e w' => ∃ A' c', e = .returned (.tuple #[.slice A' m c', .int .i64 j]) ∧ Rd w' A' c' L ∧ Below w.heap.size w w' := by
  have bx := boxO_new w o A n c 35
  have hm0 : -9223372036854775808 ≤ o.fm := hr.spn.m64.1
  obtain ⟨h1, h2, h3⟩ := hL.out
  cases hm : mayO o
  · rw [if_neg (by rw [hm]; simp)] at h1
    rw [hm] at h3
    subst h1 h2 h3
    have HM := hid hm
    clear hL hm
    go_enter Try.func17, Try.ntmps17
    go_wp2_with (refine wpList_load_o rfl (.tmp 1) rfl _ rfl bx ?_)
    refine (rmay_of false o A n c hn HM hm0 _ (hri.alloc _)).mono ?_
    rintro e W ⟨rfl, b1⟩
    have hb := past_alloc b1
    go_wp2
    go_ret2
    exact ⟨none, 0, rfl, Rd.nil _, hb⟩
  · rw [if_pos hm] at h1
    rw [hm] at h3
    subst h1 h3
    have HM := hid hm
    have HL := hid h2
    clear hL hm h2
    go_enter Try.func17, Try.ntmps17
    go_wp2_with (refine wpList_load_o rfl (.tmp 1) rfl _ rfl bx ?_)
    refine (rmay_of true o A n c hn HM hm0 _ (hri.alloc _)).mono ?_
    rintro e W ⟨rfl, b1⟩
    have bx1 := bx.keep b1
    have hb := past_alloc b1
    go_wp2_with (refine wpList_load_o rfl (.tmp 1) rfl _ rfl bx1 ?_)
    refine (rbytes_of m o A n c hn hr HM.out HL _ (hri.keep hb)).mono ?_
    rintro e w2 ⟨A2, c2, rfl, hr2, b2⟩
    have hb2 := below_in hb b2
    go_wp2
    go_ret2
    exact ⟨A2, c2, rfl, hr2, hb2⟩
end Go.Proofs.Ytbhglgcnoidddaa

namespace Go.Proofs.Ytbhglgcnoidddaa
open Go.ChangeShapes Go.WideShapes Go.ChangeAt Go.RowKit Go.Joins
set_option linter.unusedVariables false
set_option linter.unusedSimpArgs false

section
variable {H : Type} {enc : TypeId × Value → H} {P : Program} {w : World} {base : Nat} {spare : Nat → Bool} {held : Bool}
theorem trodAll_five {t0 t1 t2 t3 t4 : TypeId} {args : Array Value} {ds : List (DataW H)} {ps : List MemPlace} (h : DataW.TrodAll enc P w base spare held [t0, t1, t2, t3, t4] args.toList ds ps) :
    ∃ v0 v1 v2 v3 v4 d0 d1 d2 d3 d4 p0 p1 p2 p3 p4, args = #[v0, v1, v2, v3, v4] ∧ ds = [d0, d1, d2, d3, d4] ∧ ps = p0 ++ p1 ++ p2 ++ p3 ++ p4 ∧ DataW.Trod enc P w base spare held t0 v0 d0 p0 ∧ DataW.Trod enc P w base spare held t1 v1 d1 p1 ∧ DataW.Trod enc P w base spare held t2 v2 d2 p2 ∧ DataW.Trod enc P w base spare held t3 v3 d3 p3 ∧ DataW.Trod enc P w base spare held t4 v4 d4 p4 := by
  obtain ⟨v0, s0, d0, e0, p0, q0, h0, rfl, rfl, k0, r0⟩ := trodAll_cons h
  obtain ⟨v1, s1, d1, e1, p1, q1, h1, rfl, rfl, k1, r1⟩ := trodAll_cons r0
  obtain ⟨v2, s2, d2, e2, p2, q2, h2, rfl, rfl, k2, r2⟩ := trodAll_cons r1
  obtain ⟨v3, s3, d3, e3, p3, q3, h3, rfl, rfl, k3, r3⟩ := trodAll_cons r2
  obtain ⟨v4, s4, d4, e4, p4, q4, h4, rfl, rfl, k4, r4⟩ := trodAll_cons r3
  obtain ⟨rfl, rfl, rfl⟩ := trodAll_nil r4
  exact ⟨v0, v1, v2, v3, v4, d0, d1, d2, d3, d4, p0, p1, p2, p3, p4, by cases args; simp_all, rfl, by simp, k0, k1, k2, k3, k4⟩
end

theorem quiet_load_o {ops : Array Oper} {rest : List Oper} {op : Oper} {a : Act} {C : World → Prop} {Q : Act → Prop} (hwt : Region.wanted op (yielded ops a.tmps) = true) (x : Operand) (ho : op.op = .load 35 x)
    (b : Nat) (hx : a.eval x = .pointer (some ⟨b, 0, none⟩)) {o : Opd} {A : Option Addr} {n c : Nat} (hB : ∀ w, C w → BoxO w b o A n c) (h : wpQuiet Try.prog ops C Q rest (a.put op.dst (.agg #[.int .u8 o.kd, .int .u8 o.l, .int .u32 o.c, .int .u8 o.k, .int .i64 o.s, .int .u8 o.fl, .int .u32 o.fc, .int .u8 o.fk, .int .i64 o.fn, .int .i64 o.fm, .int .u8 o.al, .int .u32 o.ac, .int .u8 o.ak, .int .i64 o.an, .int .u8 o.tl, .int .u32 o.tc, .slice A n c]))) : wpQuiet Try.prog ops C Q (op :: rest) a := by
  rw [wpQuiet, if_pos hwt]
  refine ⟨_, fun w hw => ?_, h⟩
  unfold Oper.quietAt
  rcases yields_load_o (ops := ops) (S := C) hwt x ho b hx hB with ⟨_, h⟩ | ⟨h, _⟩
  · rw [h w hw]; exact ⟨rfl, rfl⟩
  · rw [h] at hwt; cases hwt
theorem BoxO.past {W : World} {b : Nat} {o : Opd} {A : Option Addr} {n c : Nat} (h : BoxO W b o A n c) : ∀ w', (∃ x : Past W, w' = x.1) → BoxO w' b o A n c := fun w' ⟨x, hx⟩ => by
  rw [hx]; exact h.keep x.2
/-- What stays from the first boxes on. -/
structure St9 (w W : World) (a b : Opd) (l : List UInt8) (A : Option Addr) (n c : Nat) (B : Option Addr) (m d : Nat) (A2 : Option Addr) (c2 : Nat) (g : Nat) (A1 : Option Addr) (c1 : Nat) (A3 : Option Addr) (c3 : Nat) : Prop where
  xa : BoxO W w.heap.size a A n c
  xb : BoxO W (w.heap.size + 1) b B m d
  xo : BoxO W g a A1 n c1
  ra : Ri W A c a.row
  rb : Ri W B d b.row
  ro : Ri W A1 c1 a.row
  rl : Rd W A2 c2 l
  rw : Rd W A3 c3 l
  be : Below w.heap.size w W
theorem St9.keep {w W W' : World} {a b : Opd} {l : List UInt8} {A : Option Addr} {n c : Nat} {B : Option Addr} {m d : Nat} {A2 : Option Addr} {c2 g : Nat} {A1 : Option Addr} {c1 : Nat} {A3 : Option Addr} {c3 : Nat} (h : St9 w W a b l A n c B m d A2 c2 g A1 c1 A3 c3) (hb : Below W.heap.size W W') : St9 w W' a b l A n c B m d A2 c2 g A1 c1 A3 c3 :=
  ⟨h.xa.keep hb, h.xb.keep hb, h.xo.keep hb, h.ra.keep hb, h.rb.keep hb, h.ro.keep hb, h.rl.keep hb, h.rw.keep hb, below_in h.be hb⟩
/-- A row of the call's own that is written, under a box. -/
structure Lp9 (w0 wr : World) (g : Nat) (o : Opd) (A : Option Addr) (k c : Nat) (ls : List Int) : Prop where
  bx : BoxO wr g o A k c
  ow : OwnI wr w0.heap.size 21 A c ls
  len : ls.length = k
  be : Below w0.heap.size w0 wr
  ne : 0 < k → ∀ h, A = some ⟨h, 0, none⟩ → h ≠ g
theorem Lp9.keep {w0 wr wr' : World} {g : Nat} {o : Opd} {A : Option Addr} {k c : Nat} {ls : List Int} (h : Lp9 w0 wr g o A k c ls) (hb : Below wr.heap.size wr wr') : Lp9 w0 wr' g o A k c ls :=
  ⟨h.bx.keep hb, h.ow.keep hb, h.len, below_in h.be hb, h.ne⟩
theorem Lp9.at_ {w0 wr : World} {g : Nat} {o : Opd} {A : Option Addr} {k c : Nat} {ls : List Int} (h : Lp9 w0 wr g o A k c ls) (j : Nat) (hj : j < k) :
    ∃ (r : Nat) (y : Int), A = some ⟨r, 0, none⟩ ∧ (-2147483648 ≤ y ∧ y ≤ 2147483647) ∧ wr.cell? ⟨r, j, none⟩ = some (.int .i32 y) ∧ wr.frozen? ⟨r, j, none⟩ = false ∧ ∀ x, -2147483648 ≤ x → x ≤ 2147483647 → Lp9 w0 (wr.setCell ⟨r, j, none⟩ (.int .i32 x)).drew g o A k c (ls.set j x) := by
  have hl := h.len
  obtain ⟨r, hA, hr, h1, h2, h3⟩ := h.ow.own_at (by omega)
  have hne := h.ne (by omega) r hA
  have hi := h.ow.ri.in32.at_ (j := j) (by omega)
  refine ⟨r, ls[j]'(by omega), hA, hi, h1 j (by omega), h2 j, fun x x0 x1 => ?_⟩
  refine Lp9.keep (wr := wr.setCell ⟨r, j, none⟩ (.int .i32 x)) ?_ ((Below.refl _ _).drew)
  exact ⟨BoxO.other (b := r) (fun k hk => Below.heap_setCell _ _ _ _ hk) (Ne.symm hne) h.bx, h3 j x x0 x1, by rw [List.length_set]; exact hl, h.be.setCell (p := ⟨r, j, none⟩) hr _, h.ne⟩
theorem lp9_new {w0 w1 w2 : World} {o : Opd} {A : Option Addr} {k c : Nat} {ls : List Int} (ho : OwnI w1 w0.heap.size 21 A c ls) (hl : ls.length = k) (hb : Below w0.heap.size w0 w1) (bx : BoxO w2 w1.heap.size o A k c) (b2 : Below w1.heap.size w1 w2) : Lp9 w0 w2 w1.heap.size o A k c ls :=
  ⟨bx, ho.keep b2, hl, below_in hb b2, fun hk h hA => by
    obtain ⟨r, hA2, _, h1, _⟩ := ho.own_at (by omega)
    rw [hA] at hA2
    cases hA2
    exact Nat.ne_of_lt (World.block_lt_of_cell? _ _ (h1 0 (by omega)))⟩

set_option maxRecDepth 100000 in
set_option maxHeartbeats 6400000 in
theorem otells_walk (a : Opd) (A : Option Addr) (n c : Nat) (b : Opd) (B : Option Addr) (m d : Nat) (A2 : Option Addr) (n2 c2 : Nat) (l : List UInt8) (kd mm : Int) (hk : 0 ≤ kd ∧ kd ≤ 255) (hm : In64 mm) (w : World) (hr : Opr a ∧ Hid (a.row.length = n) ∧ Ri w A c a.row) (hs : Opr b ∧ Hid (b.row.length = m) ∧ Ri w B d b.row) (ht : Hid (l.length = n2) ∧ Rd w A2 c2 l) :
    Calls Try.prog 4 #[.agg #[.int .u8 a.kd, .int .u8 a.l, .int .u32 a.c, .int .u8 a.k, .int .i64 a.s, .int .u8 a.fl, .int .u32 a.fc, .int .u8 a.fk, .int .i64 a.fn, .int .i64 a.fm, .int .u8 a.al, .int .u32 a.ac, .int .u8 a.ak, .int .i64 a.an, .int .u8 a.tl, .int .u32 a.tc, .slice A n c], .agg #[.int .u8 b.kd, .int .u8 b.l, .int .u32 b.c, .int .u8 b.k, .int .i64 b.s, .int .u8 b.fl, .int .u32 b.fc, .int .u8 b.fk, .int .i64 b.fn, .int .i64 b.fm, .int .u8 b.al, .int .u32 b.ac, .int .u8 b.ak, .int .i64 b.an, .int .u8 b.tl, .int .u32 b.tc, .slice B m d], .slice A2 n2 c2, .int .u8 kd, .int .i64 mm] w fun e w' => e = .returned (.bool true) ∧ Below w.heap.size w w' := by
  obtain ⟨i0, hi0, hz0, hz1, hz2⟩ := info_parts info_u8
  obtain ⟨hor, hn, hra⟩ := hr
  obtain ⟨hob, hmb, hrb⟩ := hs
  obtain ⟨hl, hrl⟩ := ht
  have e1 : (w.alloc (.cells #[.int .u8 a.kd, .int .u8 a.l, .int .u32 a.c, .int .u8 a.k, .int .i64 a.s, .int .u8 a.fl, .int .u32 a.fc, .int .u8 a.fk, .int .i64 a.fn, .int .i64 a.fm, .int .u8 a.al, .int .u32 a.ac, .int .u8 a.ak, .int .i64 a.an, .int .u8 a.tl, .int .u32 a.tc, .slice A n c] 35)).heap.size = w.heap.size + 1 := by simp [go_sem]
  have xa : BoxO ((w.alloc (.cells #[.int .u8 a.kd, .int .u8 a.l, .int .u32 a.c, .int .u8 a.k, .int .i64 a.s, .int .u8 a.fl, .int .u32 a.fc, .int .u8 a.fk, .int .i64 a.fn, .int .i64 a.fm, .int .u8 a.al, .int .u32 a.ac, .int .u8 a.ak, .int .i64 a.an, .int .u8 a.tl, .int .u32 a.tc, .slice A n c] 35)).alloc (.cells #[.int .u8 b.kd, .int .u8 b.l, .int .u32 b.c, .int .u8 b.k, .int .i64 b.s, .int .u8 b.fl, .int .u32 b.fc, .int .u8 b.fk, .int .i64 b.fn, .int .i64 b.fm, .int .u8 b.al, .int .u32 b.ac, .int .u8 b.ak, .int .i64 b.an, .int .u8 b.tl, .int .u32 b.tc, .slice B m d] 35)) w.heap.size a A n c := (boxO_new w a A n c 35).keep ((Below.refl _ _).alloc (Nat.le_refl _) _)
  have xb : BoxO ((w.alloc (.cells #[.int .u8 a.kd, .int .u8 a.l, .int .u32 a.c, .int .u8 a.k, .int .i64 a.s, .int .u8 a.fl, .int .u32 a.fc, .int .u8 a.fk, .int .i64 a.fn, .int .i64 a.fm, .int .u8 a.al, .int .u32 a.ac, .int .u8 a.ak, .int .i64 a.an, .int .u8 a.tl, .int .u32 a.tc, .slice A n c] 35)).alloc (.cells #[.int .u8 b.kd, .int .u8 b.l, .int .u32 b.c, .int .u8 b.k, .int .i64 b.s, .int .u8 b.fl, .int .u32 b.fc, .int .u8 b.fk, .int .i64 b.fn, .int .i64 b.fm, .int .u8 b.al, .int .u32 b.ac, .int .u8 b.ak, .int .i64 b.an, .int .u8 b.tl, .int .u32 b.tc, .slice B m d] 35)) (w.heap.size + 1) b B m d := by
    have := boxO_new (w.alloc (.cells #[.int .u8 a.kd, .int .u8 a.l, .int .u32 a.c, .int .u8 a.k, .int .i64 a.s, .int .u8 a.fl, .int .u32 a.fc, .int .u8 a.fk, .int .i64 a.fn, .int .i64 a.fm, .int .u8 a.al, .int .u32 a.ac, .int .u8 a.ak, .int .i64 a.an, .int .u8 a.tl, .int .u32 a.tc, .slice A n c] 35)) b B m d 35
    rw [e1] at this
    exact this
  have hbw : Below w.heap.size w ((w.alloc (.cells #[.int .u8 a.kd, .int .u8 a.l, .int .u32 a.c, .int .u8 a.k, .int .i64 a.s, .int .u8 a.fl, .int .u32 a.fc, .int .u8 a.fk, .int .i64 a.fn, .int .i64 a.fm, .int .u8 a.al, .int .u32 a.ac, .int .u8 a.ak, .int .i64 a.an, .int .u8 a.tl, .int .u32 a.tc, .slice A n c] 35)).alloc (.cells #[.int .u8 b.kd, .int .u8 b.l, .int .u32 b.c, .int .u8 b.k, .int .i64 b.s, .int .u8 b.fl, .int .u32 b.fc, .int .u8 b.fk, .int .i64 b.fn, .int .i64 b.fm, .int .u8 b.al, .int .u32 b.ac, .int .u8 b.ak, .int .i64 b.an, .int .u8 b.tl, .int .u32 b.tc, .slice B m d] 35)) := ((Below.refl _ _).alloc (Nat.le_refl _) _).alloc (by rw [e1]; omega) _
  clear e1
  by_cases d1 : (1000 : Int) < (n : Int)
  · clear hra hrb hrl xa xb hob hor
    go_enter Try.func4, Try.ntmps4
    go_wp2
    go_ret
    exact ⟨rfl, hbw⟩
  by_cases d2 : (1000 : Int) < (m : Int)
  · clear hra hrb hrl xa xb hob hor
    go_enter Try.func4, Try.ntmps4
    go_wp2
    go_ret
    exact ⟨rfl, hbw⟩
  by_cases d3 : (1000 : Int) < (n2 : Int)
  · clear hra hrb hrl xa xb hob hor
    go_enter Try.func4, Try.ntmps4
    go_wp2
    go_ret
    exact ⟨rfl, hbw⟩
  obtain ⟨L, k, j, hL⟩ : ∃ L k j, (if mayO a = true then opb a else []) = L ∧ L.length = k ∧ er (mayO a) = j := ⟨_, _, _, rfl, rfl, rfl⟩
  obtain ⟨q, hq⟩ : ∃ q, plB a.row = q := ⟨_, rfl⟩
  obtain ⟨v, hv⟩ : ∃ v, szO kd mm = v := ⟨_, rfl⟩
  obtain ⟨s, hsm⟩ : ∃ s, sameO a b = s := ⟨_, rfl⟩
  have HL := hid hL
  have HLk := hid hL.2.1
  have HJ := hid hL.2.2
  have HQ := hid hq
  have HV := hid hv
  have HS := hid hsm
  have HS1 := hid (sameO_self a)
  have hm0 : -9223372036854775808 ≤ a.fm := hor.spn.m64.1
  clear hL hq hv hsm
  go_enter Try.func4, Try.ntmps4
  go_wp2_with (refine wpList_load_o rfl (.tmp 5) rfl _ rfl xa ?_)
  generalize World.alloc (World.alloc w _) _ = W0 at xa xb hbw ⊢
  refine (rtwin_any a A n c hn (by omega) _ (hra.keep hbw)).mono ?_
  rintro e w1 ⟨A1, c1, rfl, ho1, b1⟩
  have hbw1 := below_in hbw b1
  replace xa := xa.keep b1
  replace xb := xb.keep b1
  have one : True := trivial
  have two : True := trivial
  have three : True := trivial
  go_wp2_with (first
    | (clear one; refine wpList_store_o rfl (.tmp 11) (.tmp 44) rfl w1.heap.size rfl a A1 n c1 rfl (thereO_new w1 _ rfl _) w1.heap.size (Nat.le_refl _) ?_; intro w2 bx2 th2 b2 h2 z2; clear th2 h2 z2; replace b2 := ((Below.refl w1.heap.size w1).alloc (Nat.le_refl _) _).trans b2)
    | (at_builtin; clear two; refine wpList_append_rd rfl (.const (.slice none 0 0)) (.tmp 45) 44 rfl w2.heap.size 5 Try.underlying44 hi0 hz0 hz1 hz2 none 0 0 [] (hid rfl) rfl (Own.nil _ _ _) A2 n2 c2 l hl rfl (hrl.keep (below_in hbw1 b2)) (by omega) (Nat.le_refl _) ?_; intro A3 c3 w3 ho3 b3; rw [List.nil_append] at ho3; have bx3 := bx2.keep b3)
    | (clear three; refine wpList_load_o rfl (.tmp 11) rfl _ rfl bx3 ?_))
  have b13 := below_in b2 b3
  have hbw3 := below_in hbw1 b13
  have S3 : St9 w w3 a b l A n c B m d A2 c2 w1.heap.size A1 c1 A3 c3 := ⟨xa.keep b13, xb.keep b13, bx3, hra.keep hbw3, hrb.keep hbw3, (ho1.keep b13).ri, hrl.keep hbw3, ho3.rd, hbw3⟩
  generalize w1.heap.size = g1 at *
  clear xa xb hbw hbw1 hbw3 b1 b2 b3 b13 ho1 ho3 bx2 bx3 hra hrb hrl
  refine (oput_of L k j a A1 n c1 hn hor HL _ S3.ro).mono ?_
  rintro e w4 ⟨A4, c4, rfl, hr4, b4⟩
  have S4 := S3.keep b4
  clear S3 b4
  have one : True := trivial
  go_wp2_with (clear one; refine wpList_load_o rfl (.tmp 5) rfl _ rfl S4.xa ?_)
  refine (rput_of L k j a A n c hn hor HL _ S4.ra).mono ?_
  rintro e w5 ⟨A5, c5, rfl, hr5, b5⟩
  have S5 := S4.keep b5
  replace hr4 := hr4.keep b5
  clear S4 b5
  go_wp2_with fail
  refine (oget_of A3 n2 c3 l hl _ S5.rw).mono ?_
  rintro e w6 ⟨o7, A7, k7, c7, z7, j7, rfl, hg7, hk7, ho7, b6⟩
  have HK7 := hid hk7
  have one : True := trivial
  go_wp2_with (clear one; refine wpList_store_o rfl (.tmp 17) (.tmp 60) rfl w6.heap.size rfl o7 A7 k7 c7 rfl (thereO_new w6 _ rfl _) w6.heap.size (Nat.le_refl _) ?_; intro w7 bx7 th7 b7 h7 z7'; clear th7 h7 z7'; replace b7 := ((Below.refl w6.heap.size w6).alloc (Nat.le_refl _) _).trans b7)
  have P7 := lp9_new ho7 hk7 b6 bx7 b7
  have S7 := S5.keep (below_in b6 b7)
  have hkb : (k7 : Int) ≤ 9223372036854775807 := by have := P7.ow.ri.len; have := P7.ow.ri.cap; have := P7.len; omega
  replace hr4 := hr4.keep (below_in b6 b7)
  replace hr5 := hr5.keep (below_in b6 b7)
  generalize w6.heap.size = g7 at *
  clear ho7 hk7 b6 bx7 b7
  refine (rget9_of A2 n2 c2 l hl _ S7.rl).mono ?_
  rintro e w8 ⟨o8, A8, k8, c8, z8, j8, rfl, hg8, hk8, hr8, b8⟩
  obtain ⟨rfl, rfl, rfl⟩ := hg7.one hg8
  clear hg7 hg8
  have HK8 := hid hk8
  have one : True := trivial
  have two : True := trivial
  go_wp2_with (first
    | (clear one; refine wpList_store_o rfl (.tmp 20) (.tmp 66) rfl w8.heap.size rfl o7 A8 k8 c8 rfl (thereO_new w8 _ rfl _) w8.heap.size (Nat.le_refl _) ?_; intro w9 bx9 th9 b9 h9 z9; clear th9 h9 z9; replace b9 := ((Below.refl w8.heap.size w8).alloc (Nat.le_refl _) _).trans b9; have hb9 := below_in b8 b9; have S9 := S7.keep hb9)
    | (clear two; refine wpList_load_o rfl (.tmp 11) rfl _ rfl S9.xo ?_))
  replace hr4 := hr4.keep hb9
  replace hr5 := hr5.keep hb9
  replace hr8 := hr8.keep b9
  have P9 := P7.keep hb9
  generalize w8.heap.size = g9 at *
  clear S7 P7 hb9 b8 b9
  refine (otwin_any a A1 n c1 hn (by omega) _ S9.ro).mono ?_
  rintro e w10 ⟨A10, c10, rfl, ho10, b10⟩
  have one : True := trivial
  go_wp2_with (clear one; refine wpList_store_o rfl (.tmp 23) (.tmp 70) rfl w10.heap.size rfl a A10 n c10 rfl (thereO_new w10 _ rfl _) w10.heap.size (Nat.le_refl _) ?_; intro w11 bx11 th11 b11 h11 z11; clear th11 h11 z11; replace b11 := ((Below.refl w10.heap.size w10).alloc (Nat.le_refl _) _).trans b11)
  have T11 := lp9_new ho10 hn.out b10 bx11 b11
  have hb11 := below_in b10 b11
  have S11 := S9.keep hb11
  have P11 := P9.keep hb11
  have hq9 := bx9.keep hb11
  replace hr4 := hr4.keep hb11
  replace hr5 := hr5.keep hb11
  replace hr8 := hr8.keep hb11
  generalize w10.heap.size = g10 at *
  clear ho10 bx11 b10 b11 bx9
  have y4 := fun x : Past w11 => rd_string HLk (hr4.keep x.2)
  have y5 := fun x : Past w11 => rd_string HLk (hr5.keep x.2)
  (try simp only [Act.put])
  refine wp_region_past (by kernel_rfl) (by kernel_rfl) ?_
  go_big_quiet_step (fail)
  go_big_quiet_step (fail)
  go_big_quiet_step (fail)
  go_big_quiet_step (fail)
  go_big_quiet_step (fail)
  go_big_quiet_step (fail)
  go_big_quiet_step (fail)
  go_big_quiet_step (fail)
  go_big_quiet_step (fail)
  go_big_quiet_step (fail)
  go_big_quiet_step (fail)
  refine quiet_load_o (by rfl) (.tmp 17) rfl g7 rfl P11.bx.past ?_
  (try simp only [Act.put, List.setIfInBounds_toArray, List.set_cons_zero, List.set_cons_succ])
  refine quiet_load_o (by rfl) (.tmp 20) rfl g9 rfl hq9.past ?_
  (try simp only [Act.put, List.setIfInBounds_toArray, List.set_cons_zero, List.set_cons_succ])
  go_big_quiet_step (exact quiet_below (rsame_of true o7 A7 k7 c7 HK7 o7 A8 k8 c8 HK8 (hid (sameO_self o7)) _ (P11.ow.ri.keep (Subtype.property _)) (hr8.keep (Subtype.property _))))
  go_big_quiet_step (fail)
  go_big_quiet_step (fail)
  go_big_quiet_step (fail)
  go_big_quiet_step (fail)
  go_big_quiet_step (fail)
  go_big_quiet_step (fail)
  go_big_quiet_step (fail)
  go_big_quiet_step (fail)
  go_big_quiet_step (fail)
  go_big_quiet_step (fail)
  go_big_quiet_step (fail)
  go_big_quiet_step (fail)
  refine quiet_load_o (by rfl) (.tmp 11) rfl g1 rfl S11.xo.past ?_
  (try simp only [Act.put, List.setIfInBounds_toArray, List.set_cons_zero, List.set_cons_succ])
  go_big_quiet_step (exact quiet_below (ocheck_of j a A1 n c1 hn HJ _ (S11.ro.keep (Subtype.property _))))
  refine quiet_load_o (by rfl) (.tmp 5) rfl w.heap.size rfl S11.xa.past ?_
  (try simp only [Act.put, List.setIfInBounds_toArray, List.set_cons_zero, List.set_cons_succ])
  go_big_quiet_step (exact quiet_below (rcheck_of j a A n c hn HJ hm0 _ (S11.ra.keep (Subtype.property _))))
  go_big_quiet_step (fail)
  go_big_quiet_step (fail)
  go_big_quiet_step (fail)
  refine wpQuiet_nil ?_
  intro _ hw'
  obtain ⟨x, rfl⟩ := hw'
  clear y4 y5 hr4 hr5
  have S12 := S11.keep x.2
  have T12 := T11.keep x.2
  have P12 := P11.keep x.2
  clear S11 T11 P11 hq9 hr8 hb11
  generalize x.1 = w12 at *
  go_wp2_with fail
  refine wp_region_past (by kernel_rfl) (by kernel_rfl) ?_
  refine quiet_load_o (by rfl) (.tmp 11) rfl g1 rfl S12.xo.past ?_
  (try simp only [Act.put, List.setIfInBounds_toArray, List.set_cons_zero, List.set_cons_succ])
  go_big_quiet_step (exact quiet_below (plain_of q a A1 n c1 hn HQ _ (S12.ro.keep (Subtype.property _))))
  refine quiet_load_o (by rfl) (.tmp 5) rfl w.heap.size rfl S12.xa.past ?_
  (try simp only [Act.put, List.setIfInBounds_toArray, List.set_cons_zero, List.set_cons_succ])
  go_big_quiet_step (exact quiet_below (rplain_of q a A n c hn HQ _ (S12.ra.keep (Subtype.property _))))
  go_big_quiet_step (fail)
  go_big_quiet_step (fail)
  go_big_quiet_step (fail)
  go_big_quiet_step (fail)
  go_big_quiet_step (exact quiet_same (size_of v kd mm HV _))
  go_big_quiet_step (fail)
  go_big_quiet_step (fail)
  go_big_quiet_step (exact quiet_same (rsize_of v kd mm HV _))
  go_big_quiet_step (fail)
  go_big_quiet_step (fail)
  go_big_quiet_step (fail)
  refine quiet_load_o (by rfl) (.tmp 11) rfl g1 rfl S12.xo.past ?_
  (try simp only [Act.put, List.setIfInBounds_toArray, List.set_cons_zero, List.set_cons_succ])
  refine quiet_load_o (by rfl) (.tmp 6) rfl (w.heap.size + 1) rfl S12.xb.past ?_
  (try simp only [Act.put, List.setIfInBounds_toArray, List.set_cons_zero, List.set_cons_succ])
  go_big_quiet_step (exact quiet_below (osame_of s a A1 n c1 hn b B m d hmb HS _ (S12.ro.keep (Subtype.property _)) (S12.rb.keep (Subtype.property _))))
  refine quiet_load_o (by rfl) (.tmp 5) rfl w.heap.size rfl S12.xa.past ?_
  (try simp only [Act.put, List.setIfInBounds_toArray, List.set_cons_zero, List.set_cons_succ])
  refine quiet_load_o (by rfl) (.tmp 6) rfl (w.heap.size + 1) rfl S12.xb.past ?_
  (try simp only [Act.put, List.setIfInBounds_toArray, List.set_cons_zero, List.set_cons_succ])
  go_big_quiet_step (exact quiet_below (rsame_of s a A n c hn b B m d hmb HS _ (S12.ra.keep (Subtype.property _)) (S12.rb.keep (Subtype.property _))))
  go_big_quiet_step (fail)
  go_big_quiet_step (fail)
  go_big_quiet_step (fail)
  refine quiet_load_o (by rfl) (.tmp 11) rfl g1 rfl S12.xo.past ?_
  (try simp only [Act.put, List.setIfInBounds_toArray, List.set_cons_zero, List.set_cons_succ])
  refine quiet_load_o (by rfl) (.tmp 5) rfl w.heap.size rfl S12.xa.past ?_
  (try simp only [Act.put, List.setIfInBounds_toArray, List.set_cons_zero, List.set_cons_succ])
  go_big_quiet_step (exact quiet_below (osame_of true a A1 n c1 hn a A n c hn HS1 _ (S12.ro.keep (Subtype.property _)) (S12.ra.keep (Subtype.property _))))
  go_big_quiet_step (fail)
  go_big_quiet_step (fail)
  refine quiet_load_o (by rfl) (.tmp 23) rfl g10 rfl T12.bx.past ?_
  (try simp only [Act.put, List.setIfInBounds_toArray, List.set_cons_zero, List.set_cons_succ])
  refine quiet_load_o (by rfl) (.tmp 5) rfl w.heap.size rfl S12.xa.past ?_
  (try simp only [Act.put, List.setIfInBounds_toArray, List.set_cons_zero, List.set_cons_succ])
  go_big_quiet_step (exact quiet_below (rsame_of true a A10 n c10 hn a A n c hn HS1 _ (T12.ow.ri.keep (Subtype.property _)) (S12.ra.keep (Subtype.property _))))
  go_big_quiet_step (fail)
  go_big_quiet_step (fail)
  refine wpQuiet_nil ?_
  intro _ hw'
  obtain ⟨x2, rfl⟩ := hw'
  have S13 := S12.keep x2.2
  have T13 := T12.keep x2.2
  have P13 := P12.keep x2.2
  clear S12 T12 P12
  generalize x2.1 = w13 at *
  clear P13 S13 HS HV HQ HL HLk HJ hm0 HK8 hor hob hmb hm hk
  go_wp2_with fail
  go_loopw [26] (fun i wr => ∃ (i1 : Nat) (ls : List Int), i1 ≤ n ∧ i = .int .i64 (i1 : Int) ∧ Hid (Lp9 w9 wr g10 a A10 n c10 ls)) (fun i _ => n - (intOf i).toNat)
  case atStart => exact ⟨0, a.row, by omega, rfl, hid T13⟩
  case round =>
    clear T13
    obtain ⟨i1, ls, hj, rfl, HW⟩ := hrel
    by_cases hlt : i1 < n
    · obtain ⟨r, y, rfl, hy, q0, f0, hw⟩ := HW.out.at_ i1 hlt
      have hlt2 : (i1 : Int) < (n : Int) := by omega
      have t16 := HW.out.bx.c16
      obtain ⟨y1, hy1, h0, h1⟩ : ∃ y1, IntKind.i32.wrap (y + 1) = y1 ∧ -2147483648 ≤ y1 ∧ y1 ≤ 2147483647 := ⟨_, rfl, by rw [IntKind.wrap_i32]; omega, by rw [IntKind.wrap_i32]; omega⟩
      have HWR := hid (hw y1 h0 h1)
      clear hw HW P9 S9 S5
      go_wp2_with fail
      go_region
      all_goals
        go_wp2
        go_roundw
        case rel => exact ⟨i1 + 1, _, by omega, by go_num, HWR⟩
        case measure => simp [intOf]; omega
    · have hlt2 : ¬ (i1 : Int) < (n : Int) := by omega
      have t16 := HW.out.bx.c16
      have P2 := P9.keep HW.out.be
      clear HW hj hlt P9 S9
      go_wp2_with fail
      clear t16
      go_loopw [27] (fun i wr => ∃ (i1 : Nat) (ls : List Int), i1 ≤ k7 ∧ i = .int .i64 (i1 : Int) ∧ Hid (Lp9 w5 wr g7 o7 A7 k7 c7 ls)) (fun i _ => k7 - (intOf i).toNat)
      case atStart => exact ⟨0, o7.row, by omega, rfl, hid P2⟩
      case round =>
        clear P2
        obtain ⟨i2, ls, hj, rfl, HW⟩ := hrel
        by_cases hlt : i2 < k7
        · obtain ⟨r, y, rfl, hy, q0, f0, hw⟩ := HW.out.at_ i2 hlt
          have hlt2 : (i2 : Int) < (k7 : Int) := by omega
          have t16 := HW.out.bx.c16
          obtain ⟨y1, hy1, h0, h1⟩ : ∃ y1, IntKind.i32.wrap (y + 1) = y1 ∧ -2147483648 ≤ y1 ∧ y1 ≤ 2147483647 := ⟨_, rfl, by rw [IntKind.wrap_i32]; omega, by rw [IntKind.wrap_i32]; omega⟩
          have HWR := hid (hw y1 h0 h1)
          clear hw HW S5
          go_wp2_with fail
          go_region
          all_goals
            go_wp2
            go_roundw
            case rel => exact ⟨i2 + 1, _, by omega, by go_num, HWR⟩
            case measure => simp [intOf]; omega
        · have hlt2 : ¬ (i2 : Int) < (k7 : Int) := by omega
          have t16 := HW.out.bx.c16
          have SE := S5.keep HW.out.be
          clear HW hj hlt S5
          go_wp2_with (first
            | (refine wpList_load_o rfl (.tmp 11) rfl _ rfl SE.xo ?_)
            | (refine wpList_load_o rfl (.tmp 5) rfl _ rfl SE.xa ?_))
          refine (rsame_of true a A1 n c1 hn a A n c hn HS1 _ SE.ro SE.ra).mono ?_
          rintro e w20 ⟨rfl, b20⟩
          have SF := SE.keep b20
          have s1 := rd_string hl SF.rw
          have s2 := rd_string hl SF.rl
          have hfin := SF.be
          clear SE SF b20 t16
          go_wp2
          go_ret
          exact ⟨rfl, hfin⟩


set_option maxRecDepth 100000 in
theorem otells_lifted (os : Os) (started : os.Started) (H : Type) (enc : TypeId × Value → H) :
    ReturnsInHanded {} Try.checked os 4 .any (Rows.opTellsSpec.pre6 enc Try.prog Try.f4 Rows.opTellsRow.domain false) (Rows.opTellsSpec.post enc Try.prog Try.f4 false true false false) := by
  refine returnsInHanded_of_change (C := Try.checked) own started (by kernel_rfl) Try.func4
    (ChangeSpec.witness6 (enc := enc) (C := Try.checked) false ⟨#[], #[.agg #[.int .u8 0, .int .u8 0, .int .u32 0, .int .u8 0, .int .i64 0, .int .u8 0, .int .u32 0, .int .u8 0, .int .i64 0, .int .i64 0, .int .u8 0, .int .u32 0, .int .u8 0, .int .i64 0, .int .u8 0, .int .u32 0, .slice none 0 0], .agg #[.int .u8 0, .int .u8 0, .int .u32 0, .int .u8 0, .int .i64 0, .int .u8 0, .int .u32 0, .int .u8 0, .int .i64 0, .int .i64 0, .int .u8 0, .int .u32 0, .int .u8 0, .int .i64 0, .int .u8 0, .int .u32 0, .slice none 0 0], .slice none 0 0, .int .u8 0, .int .i64 0], []⟩ 8 (by kernel_rfl) (by kernel_rfl) (by kernel_rfl) (by kernel_rfl)) ?_
  intro W base args ds gs before hval0 hW _ _
  have hval : ∀ (j : Nat) t v, Try.f4.params[j]? = some t → args[j]? = some v → Value.okWide Try.prog W .any base t v := hval0
  have hW' := hW
  obtain ⟨p, q, hA0, hV, rfl, _, _⟩ := hW
  have hA : DataW.TrodAll enc Try.prog W 0 (fun _ => true) true Try.f4.params.toList args.toList ds p := hA0
  rw [Try.params4] at hA hval
  obtain ⟨v0, v1, v2, v3, v4, d0, d1, d2, d3, d4, p0, p1, p2, p3, p4, rfl, rfl, rfl, h0, h1, h2, h3, h4⟩ := trodAll_five hA
  obtain ⟨rfl, rfl⟩ := trodVars_none hV
  obtain ⟨a, A, n, c, rfl, hr⟩ := open_op (hval 0 _ v0 rfl rfl) h0
  obtain ⟨b, B, m, d, rfl, hs⟩ := open_op (hval 1 _ v1 rfl rfl) h1
  obtain ⟨A2, n2, c2, l, rfl, ht⟩ := open_bytes (hval 2 _ v2 rfl rfl) h2
  obtain ⟨kd, rfl, hk⟩ := open_u8 (hval 3 _ v3 rfl rfl) h3
  obtain ⟨mm, rfl, hm⟩ := open_i64 (hval 4 _ v4 rfl rfl) h4
  refine (otells_walk a A n c b B m d A2 n2 c2 l kd mm hk hm W hr hs ht).mono fun e W' ⟨he, hg⟩ => ?_
  subst he
  exact ⟨_, rfl, law_post laidOut (by kernel_rfl) rfl Try.underlying4 rfl rfl hW' hg⟩

theorem otells_holds : Rows.OpTellsSaid :=
  OpenClaim.holds_of_wide 4 Try.f4 rfl rfl rfl rfl rfl rfl rfl ⟨rfl, rfl, rfl, rfl, rfl⟩ rfl rfl rfl rfl rfl (by kernel_rfl) Try.func4 (by kernel_rfl)
    (of_decide_eq_true (by kernel_rfl)) (by unfold Func.isWrapper; rw [if_neg (of_decide_eq_false (by kernel_rfl))]; exact ⟨rfl, rfl⟩)
    (fun os started H enc _ => otells_lifted os started H enc)
#print axioms otells_holds
end Go.Proofs.Ytbhglgcnoidddaa
