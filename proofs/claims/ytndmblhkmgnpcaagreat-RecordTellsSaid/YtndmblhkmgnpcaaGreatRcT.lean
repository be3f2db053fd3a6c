/-
  RecordTells: records are checked, counted, compared and copied, and their blocks, heads, and the record of blocks, told, as the document says; any two records, start, number and blocks; what is handed in stays, and what is answered is new memory.
  Conditions: none but the statement's own guards (1,000 runes, 40 blocks, 10,000 bytes).
-/
import Derived.Test.YtndmblhkmgnpcaaGreatRpD
import Derived.Test.YtndmblhkmgnpcaaGreatRcL
import Derived.Test.YtndmblhkmgnpcaaGreatRcZ
import Derived.Test.YtndmblhkmgnpcaaGreatLaw
namespace Go.Proofs.YtndmblhkmgnpcaaGreat
open Go.ChangeShapes Go.WideShapes Go.ChangeAt Go.RowKit Go.Joins
set_option linter.unusedVariables false
set_option linter.unusedSimpArgs false


/-- append of bytes onto bytes of the call's own, however many there are (up to 2^47). -/
theorem run_append_rdx {P : Program} {w : World} {base : Nat} {t ty e : TypeId} {i : TypeInfo} (ht : P.underlying t = some (.slice e)) (hi : P.info? e = some i) (hz : i.zero = some (.int .u8 0)) (hsize : i.size = 1) (hby : i.bytes = 1)
    {A : Option Addr} {c : Nat} {l : List UInt8} (hown : Own w base e A c l) {A1 : Option Addr} {c1 : Nat} {m : List UInt8} (hr : Rd w A1 c1 m) (hlen : l.length + m.length ≤ 140737488355328) (hbase : base ≤ w.heap.size) :
    ∃ A' c' w', (Builtin.append_ #[t, t] ty #[.slice A l.length c, .slice A1 m.length c1]).run P w = .ok (.slice A' (l.length + m.length) c') w' ∧ Own w' base e A' c' (l ++ m) ∧ Below base w w' := by
  have key : ∀ ad : Addr, (∀ j u, (u8s m)[j]? = some u → w.cell? (ad.add j) = some u) → ∃ A' c' w', (Builtin.append_ #[t, t] ty #[.slice A l.length c, .slice (some ad) m.length c1]).run P w = .ok (.slice A' (l.length + m.length) c') w' ∧ Own w' base e A' c' (l ++ m) ∧ Below base w w' := by
    intro ad hc
    obtain ⟨v', w', hrun, h2, h3, _, _⟩ := run_append_own_at (P := P) w base t ty e i (.int .u8 0) 1 1 ht hi hz hsize hby rfl (by omega) _ _ _ hown ad m.length c1 (u8s m) (by simp [u8s_length]) hc
      (fun u hu => by simp only [u8s, List.mem_map] at hu; obtain ⟨b, _, rfl⟩ := hu; rfl) (by unfold maxLen; omega) (by omega) hbase
    have hb : Below base w w' := (Below.refl _ _).grown h3 hbase hown.block
    rw [← u8s_append] at h2
    obtain ⟨A', c', hv⟩ : ∃ A' c', v' = .slice A' (l.length + m.length) c' := by
      rcases h2.2 with ⟨hv, hn⟩ | ⟨g, cap, cur, hv, _⟩
      · exact ⟨none, 0, by rw [hv, hn]⟩
      · exact ⟨_, _, hv⟩
    subst hv
    refine ⟨A', c', w', hrun, ?_, hb⟩
    unfold Own
    rw [List.length_append]
    exact h2
  match A1 with
  | some ad =>
    refine key ad fun j u hu => ?_
    have hj : j < m.length := by
      have := (List.getElem?_eq_some_iff.1 hu).1
      simpa [u8s_length] using this
    obtain ⟨b, o, hA, hc⟩ := hr.2.2 (by omega)
    injection hA with hA
    subst hA
    rw [Addr.add_lit, hc j hj]
    simpa [u8s, List.getElem?_eq_getElem hj] using hu
  | none =>
    have hl : m = [] := by
      rcases Nat.eq_zero_or_pos m.length with h0 | h0
      · exact List.eq_nil_of_length_eq_zero h0
      · obtain ⟨b, o, hA, _⟩ := hr.2.2 h0
        cases hA
    subst hl
    refine ⟨A, c, w, ?_, by simpa using hown, Below.refl _ _⟩
    rcases hown.2 with ⟨hv, hn⟩ | ⟨g, cap, cur, hv, _, _, hnc, _⟩
    · injection hv with h1 h2 h3
      subst h1 h3
      simp [Builtin.append_, run_underlying ht, sizeOf, typeInfo, hi, Builtin.lenOf, Builtin.firstCells, hn]
    · injection hv with h1 h2 h3
      subst h1 h3
      simp [Builtin.append_, run_underlying ht, sizeOf, typeInfo, hi, Builtin.lenOf, Builtin.firstCells, hnc, storeCells]
theorem wpList_append_rdx {P : Program} {w : World} {ops : Array Oper} {rest : List Oper} {o : Oper} {a : Act} {Q : Exit → Act → World → Prop} (hgd : o.guard = none) (s x : Operand) (t : TypeId)
    (ho : o.op = .call { callee := .builtin .append, args := #[s, x], argTypes := #[t, t] })
    (base : Nat) (e : TypeId) {i : TypeInfo} (ht : P.underlying t = some (.slice e)) (hi : P.info? e = some i) (hz : i.zero = some (.int .u8 0)) (hsize : i.size = 1) (hby : i.bytes = 1)
    (A : Option Addr) (n c : Nat) (l : List UInt8) (hn : Hid (l.length = n)) (hs : a.eval s = .slice A n c) (hown : Own w base e A c l)
    (A1 : Option Addr) (n1 c1 : Nat) (m : List UInt8) (hn1 : Hid (m.length = n1)) (hx : a.eval x = .slice A1 n1 c1) (hr : Rd w A1 c1 m) (hlen : n + n1 ≤ 140737488355328) (hbase : base ≤ w.heap.size)
    (h : ∀ A' c' w', Own w' base e A' c' (l ++ m) → Below base w w' → wpList P ops Q rest (a.put o.dst (.slice A' (n + n1) c')) w') : wpList P ops Q (o :: rest) a w := by
  refine wpList_plain hgd fun K hK => ?_
  have hn' := hn.out
  have hn1' := hn1.out
  subst hn' hn1'
  obtain ⟨A', c', w', hr, h2, h3⟩ := run_append_rdx (P := P) (ty := o.type) ht hi hz hsize hby hown hr hlen hbase
  unfold Oper.wp execOp
  simp only [ho, resolve, invoke, builtin, Sem.run_bind, Sem.run_pure, Result.andThen_ok, List.map_toArray, List.map_cons, List.map_nil, hs, hx, hr]
  exact hK _ _ (h A' c' w' h2 h3)
theorem stoodD : Tryz.prog.stoodInHeld 42 = false := by kernel_rfl
theorem eql_head (w : World) (s n i f : Int) : (binOp .eql 42 (.agg #[.int .i64 s, .int .i64 n, .int .i64 i, .int .i64 f]) (.agg #[.int .i64 s, .int .i64 n, .int .i64 i, .int .i64 f])).run Tryz.prog w = .ok (.bool true) w := by
  have e1 := stoodD
  simp [go_sem, e1]
/-- What stays from the first boxes on. -/
structure StR (w W : World) (a b : Rec) (L : List (List UInt8)) (A : Option Addr) (n c : Nat) (B : Option Addr) (m d : Nat) (A2 : Option Addr) (c2 : Nat) (g : Nat) (A1 : Option Addr) (c1 : Nat) (A3 : Option Addr) (c3 : Nat) : Prop where
  xa : BoxR W w.heap.size a A n c
  xb : BoxR W (w.heap.size + 1) b B m d
  xo : BoxR W g a A1 n c1
  ra : Ri W A c a.op.row
  rb : Ri W B d b.op.row
  ro : Ri W A1 c1 a.op.row
  rl : RdB W A2 c2 L
  rw : RdB W A3 c3 L
  be : Below w.heap.size w W
theorem StR.keep {w W W' : World} {a b : Rec} {L : List (List UInt8)} {A : Option Addr} {n c : Nat} {B : Option Addr} {m d : Nat} {A2 : Option Addr} {c2 g : Nat} {A1 : Option Addr} {c1 : Nat} {A3 : Option Addr} {c3 : Nat} (h : StR w W a b L A n c B m d A2 c2 g A1 c1 A3 c3) (hb : Below W.heap.size W W') : StR w W' a b L A n c B m d A2 c2 g A1 c1 A3 c3 :=
  ⟨h.xa.keep hb, h.xb.keep hb, h.xo.keep hb, h.ra.keep hb, h.rb.keep hb, h.ro.keep hb, h.rl.keep hb, h.rw.keep hb, below_in h.be hb⟩
/-- The two answers of Get, in their boxes. -/
structure StG (W : World) (r : Rec) (A : Option Addr) (k c g : Nat) (B : Option Addr) (m d h : Nat) (s t i f : Int) : Prop where
  p : BoxR W g r A k c
  pd : BoxD W (g + 1) s t i f
  q : BoxR W h r B m d
  qd : BoxD W (h + 1) s t i f
  rp : Ri W A c r.op.row
  rq : Ri W B d r.op.row
theorem StG.keep {W W' : World} {r : Rec} {A : Option Addr} {k c g : Nat} {B : Option Addr} {m d h : Nat} {s t i f : Int} (x : StG W r A k c g B m d h s t i f) (hb : Below W.heap.size W W') : StG W' r A k c g B m d h s t i f :=
  ⟨x.p.keep hb, x.pd.keep hb, x.q.keep hb, x.qd.keep hb, x.rp.keep hb, x.rq.keep hb⟩
/-- A row of the call's own that is written, under a record's box. -/
structure LpR (w0 wr : World) (g : Nat) (r : Rec) (A : Option Addr) (k c : Nat) (ls : List Int) : Prop where
  bx : BoxR wr g r A k c
  ow : OwnI wr w0.heap.size 21 A c ls
  len : ls.length = k
  be : Below w0.heap.size w0 wr
  ne : 0 < k → ∀ h, A = some ⟨h, 0, none⟩ → h ≠ g
theorem LpR.keep {w0 wr wr' : World} {g : Nat} {r : Rec} {A : Option Addr} {k c : Nat} {ls : List Int} (h : LpR w0 wr g r A k c ls) (hb : Below wr.heap.size wr wr') : LpR w0 wr' g r A k c ls :=
  ⟨h.bx.keep hb, h.ow.keep hb, h.len, below_in h.be hb, h.ne⟩
theorem LpR.at_ {w0 wr : World} {g : Nat} {r : Rec} {A : Option Addr} {k c : Nat} {ls : List Int} (h : LpR w0 wr g r A k c ls) (j : Nat) (hj : j < k) :
    ∃ (p : Nat) (y : Int), A = some ⟨p, 0, none⟩ ∧ (-2147483648 ≤ y ∧ y ≤ 2147483647) ∧ wr.cell? ⟨p, j, none⟩ = some (.int .i32 y) ∧ wr.frozen? ⟨p, j, none⟩ = false ∧ ∀ x, -2147483648 ≤ x → x ≤ 2147483647 → LpR w0 (wr.setCell ⟨p, j, none⟩ (.int .i32 x)).drew g r A k c (ls.set j x) := by
  have hl := h.len
  obtain ⟨p, hA, hr, h1, h2, h3⟩ := h.ow.own_at (by omega)
  have hne := h.ne (by omega) p hA
  have hi := h.ow.ri.in32.at_ (j := j) (by omega)
  refine ⟨p, ls[j]'(by omega), hA, hi, h1 j (by omega), h2 j, fun x x0 x1 => ?_⟩
  refine LpR.keep (wr := wr.setCell ⟨p, j, none⟩ (.int .i32 x)) ?_ ((Below.refl _ _).drew)
  exact ⟨BoxR.other (b := p) (fun k hk => Below.heap_setCell _ _ _ _ hk) (Ne.symm hne) h.bx, h3 j x x0 x1, by rw [List.length_set]; exact hl, h.be.setCell (p := ⟨p, j, none⟩) hr _, h.ne⟩
theorem lpR_new {w0 w1 w2 : World} {r : Rec} {A : Option Addr} {k c : Nat} {ls : List Int} (ho : OwnI w1 w0.heap.size 21 A c ls) (hl : ls.length = k) (hb : Below w0.heap.size w0 w1) (bx : BoxR w2 w1.heap.size r A k c) (b2 : Below w1.heap.size w1 w2) : LpR w0 w2 w1.heap.size r A k c ls :=
  ⟨bx, ho.keep b2, hl, below_in hb b2, fun hk h hA => by
    obtain ⟨p, hA2, _, h1, _⟩ := ho.own_at (by omega)
    rw [hA] at hA2
    cases hA2
    exact Nat.ne_of_lt (World.block_lt_of_cell? _ _ (h1 0 (by omega)))⟩
theorem take_step (L : List (List UInt8)) (j : Nat) (hj : j < L.length) : L.take (j + 1) = L.take j ++ [L[j]] := List.take_succ_eq_append_getElem hj

set_option maxRecDepth 100000 in
set_option maxHeartbeats 12800000 in
theorem rctells_walk (a : Rec) (A : Option Addr) (n c : Nat) (b : Rec) (B : Option Addr) (m d : Nat) (s t : Int) (A2 : Option Addr) (n2 c2 : Nat) (L : List (List UInt8)) (w : World) (hr : Recr a ∧ Hid (a.op.row.length = n) ∧ Ri w A c a.op.row) (hs : Recr b ∧ Hid (b.op.row.length = m) ∧ Ri w B d b.op.row) (ht : Hid (L.length = n2) ∧ RdB w A2 c2 L) (hz : Hid (∀ i (h : i < L.length), L[i].length ≤ 140737488351232)) :
    Calls Tryz.prog 4 #[.agg #[.int .u8 a.kd, .int .i64 a.us, .int .u8 a.op.kd, .int .u8 a.op.l, .int .u32 a.op.c, .int .u8 a.op.k, .int .i64 a.op.s, .int .u8 a.op.fl, .int .u32 a.op.fc, .int .u8 a.op.fk, .int .i64 a.op.fn, .int .i64 a.op.fm, .int .u8 a.op.al, .int .u32 a.op.ac, .int .u8 a.op.ak, .int .i64 a.op.an, .int .u8 a.op.tl, .int .u32 a.op.tc, .slice A n c, .int .i64 a.co, .int .i64 a.gr.u, .int .u8 a.gr.l, .int .u32 a.gr.c, .bool a.gr.ok], .agg #[.int .u8 b.kd, .int .i64 b.us, .int .u8 b.op.kd, .int .u8 b.op.l, .int .u32 b.op.c, .int .u8 b.op.k, .int .i64 b.op.s, .int .u8 b.op.fl, .int .u32 b.op.fc, .int .u8 b.op.fk, .int .i64 b.op.fn, .int .i64 b.op.fm, .int .u8 b.op.al, .int .u32 b.op.ac, .int .u8 b.op.ak, .int .i64 b.op.an, .int .u8 b.op.tl, .int .u32 b.op.tc, .slice B m d, .int .i64 b.co, .int .i64 b.gr.u, .int .u8 b.gr.l, .int .u32 b.gr.c, .bool b.gr.ok], .int .i64 s, .int .i64 t, .slice A2 n2 c2] w fun e w' => e = .returned (.bool true) ∧ Below w.heap.size w w' := by
  obtain ⟨i0, hi0, hz0, hz1, hz2⟩ := info_parts info_u8
  obtain ⟨har, hn, hra⟩ := hr
  obtain ⟨hbr, hm, hrb⟩ := hs
  obtain ⟨hl, hrl⟩ := ht
  have hc2 : (c2 : Int) ≤ 9223372036854775807 := by have := hrl.cap; omega
  have hc1 : (n2 : Int) ≤ c2 := by have := hrl.len; have := hl.out; omega
  have pp := twoR_new w a A n c b B m d
  by_cases d1 : (1000 : Int) < (n : Int)
  · go_enter Tryz.func4, Tryz.ntmps4
    go_wp2
    go_ret
    exact ⟨rfl, pp.be⟩
  by_cases d2 : (1000 : Int) < (m : Int)
  · go_enter Tryz.func4, Tryz.ntmps4
    go_wp2
    go_ret
    exact ⟨rfl, pp.be⟩
  obtain ⟨q, hq⟩ : ∃ q, greatL L = q := ⟨_, rfl⟩
  have HQ := hid hq
  clear hq
  go_enter Tryz.func4, Tryz.ntmps4
  go_wp2_with fail
  generalize World.alloc (World.alloc w _) _ = W0 at pp ⊢
  refine (rcgreat_of q L A2 n2 c2 hl HQ _ (hrl.keep pp.be)).mono ?_
  rintro e w1 ⟨rfl, b1⟩
  have xa := pp.xa.keep b1
  have xb := pp.xb.keep b1
  have hbw := below_in pp.be b1
  clear pp b1
  cases q
  case' true =>
    clear xa xb
    go_wp2
    go_ret
    exact ⟨rfl, hbw⟩
  have h40 : n2 ≤ 40 := by
    have h := HQ.out
    rw [greatL, Bool.or_eq_false_iff] at h
    have := of_decide_eq_false h.1
    have := hl.out
    omega
  clear HQ
  obtain ⟨LP, k, j, hL⟩ : ∃ LP k j, putL a s t = LP ∧ LP.length = k ∧ putE a s t = j := ⟨_, _, _, rfl, rfl, rfl⟩
  obtain ⟨cv, cj, hcv⟩ : ∃ cv cj, (if mayR a = true then (nbl (rcb a) : Int) else 0) = cv ∧ er (mayR a) = cj := ⟨_, _, rfl, rfl⟩
  obtain ⟨u, hu⟩ : ∃ u, sameR a b = u := ⟨_, rfl⟩
  have HL := hid hL
  have HLk := hid hL.2.1
  have HC := hid hcv
  have HJ := hid hcv.2
  have HU := hid hu
  have HS1 := hid (sameR_self a)
  have HZ := hz
  have hn5 : n ≤ 10000 := by omega
  clear hL hcv hu hz
  go_wp2_with ((with_reducible refine at_load 40 (.tmp 5) ?_); refine wpList_load_r rfl (.tmp 5) rfl w.heap.size rfl xa ?_)
  refine (rctwin_of a A n c hn hn5 _ (hra.keep hbw)).mono ?_
  rintro e w2 ⟨A1, c1, rfl, ho1, b2⟩
  replace xa := xa.keep b2
  replace xb := xb.keep b2
  replace hbw := below_in hbw b2
  have th2 := thereR_new w2 (#[.int .u8 0, .int .i64 0, .int .u8 0, .int .u8 0, .int .u32 0, .int .u8 0, .int .i64 0, .int .u8 0, .int .u32 0, .int .u8 0, .int .i64 0, .int .i64 0, .int .u8 0, .int .u32 0, .int .u8 0, .int .i64 0, .int .u8 0, .int .u32 0, .slice none 0 0, .int .i64 0, .int .i64 0, .int .u8 0, .int .u32 0, .bool false]) rfl 40
  clear b2
  have one : True := trivial
  go_wp2_with (clear one; (with_reducible refine at_store 40 (.tmp 11) (.tmp 55) ?_); refine wpList_store_r rfl (.tmp 11) (.tmp 55) rfl w2.heap.size rfl a A1 n c1 rfl th2 w2.heap.size (Nat.le_refl _) ?_; intro w3 bx3 th3 b3 h3 z3; clear th3 h3 z3 th2; replace b3 := ((Below.refl w2.heap.size w2).alloc (Nat.le_refl _) _).trans b3)
  replace xa := xa.keep b3
  replace xb := xb.keep b3
  replace hbw := below_in hbw b3
  have HO1 := hid (ho1.keep b3).ri
  have HRL := hid (hrl.keep hbw)
  have HRA := hid (hra.keep hbw)
  have HRB := hid (hrb.keep hbw)
  have XA := hid xa
  have XB := hid xb
  have XO := hid bx3
  generalize w2.heap.size = g1 at *
  clear xa xb b3 ho1 bx3 hrl hra hrb
  go_loopw [12, 13] (fun v i wr => ∃ (j : Nat) (A' : Option Addr) (c' : Nat), j ≤ n2 ∧ v = .slice A' j c' ∧ i = .int .i64 (j : Int) ∧ OwB wr w3.heap.size A' c' (L.take j) ∧ Below w3.heap.size w3 wr) (fun _ i _ => n2 - (intOf i).toNat)
  case atStart => exact ⟨0, none, 0, by omega, rfl, rfl, OwB.nil _ _, Below.refl _ _⟩
  case round =>
    obtain ⟨z, A3, c3, hjz, rfl, rfl, hoB, hbr⟩ := hrel
    by_cases hlt : z < n2
    · have hlt2 : (z : Int) < (n2 : Int) := by omega
      have hjl : z < L.length := by rw [hl.out]; exact hlt
      obtain ⟨bb, oo, rfl, hcell⟩ := (HRL.out.keep hbr).at_ (by omega)
      obtain ⟨X, x, hX, hRX⟩ := hcell z hjl
      have hst := take_step L z hjl
      have hsz := HZ.out z hjl
      obtain ⟨la, hla⟩ : ∃ l, L[z] = l := ⟨_, rfl⟩
      rw [hla] at hX hRX hst hsz
      obtain ⟨p, hp⟩ : ∃ p, la.length = p := ⟨_, rfl⟩
      rw [hp] at hX hsz
      have HP := hid hp
      have HST := hid hst
      have HTL := hid (show (L.take z).length = z by rw [List.length_take, hl.out]; omega)
      clear hcell hst hla hp hjl
      have one : True := trivial
      go_wp2_with (first
        | (at_builtin; clear one; refine wpList_append_rdx rfl (.const (.slice none 0 0)) (.tmp 66) 51 rfl wr.heap.size 5 Tryz.underlying51 hi0 hz0 hz1 hz2 none 0 0 [] (hid rfl) rfl (Own.nil _ _ _) X p x la HP rfl hRX (by omega) (Nat.le_refl _) ?_; intro A4 c4 w4 ho4 b4; rw [List.nil_append] at ho4; have hbr4 := below_in hbr b4; have hoB4 := hoB.keep b4; replace ho4 := ho4.mono hbr.size)
        | (at_builtin; refine wpList_append_b rfl (.tmp 62) (.tmp 68) rfl w3.heap.size A3 z c3 (L.take z) HTL rfl la A4 p c4 HP w4 rfl hoB4 ho4 w4.heap.size rfl rfl (by omega) hbr4.size ?_; intro A5 c5 w5 ho5 b5))
      rw [← HST.out] at ho5
      have hb5 := hbr4.trans b5
      clear hX hRX hoB hbr ho4 b4 hbr4 hoB4 b5
      go_roundw
      case rel => exact ⟨z + 1, A5, c5, by omega, rfl, by go_num, ho5, hb5⟩
      case measure => simp [intOf]; omega
    · have hlt2 : ¬ (z : Int) < (n2 : Int) := by omega
      have ez : z = n2 := by omega
      subst ez
      have hB := hoB.rd
      rw [List.take_of_length_le (by rw [hl.out]; exact Nat.le_refl _)] at hB
      have hbw4 := below_in hbw hbr
      have S4 : StR w wr a b L A n c B m d A2 c2 g1 A1 c1 A3 c3 := ⟨XA.out.keep hbr, XB.out.keep hbr, XO.out.keep hbr, HRA.out.keep hbr, HRB.out.keep hbr, HO1.out.keep hbr, HRL.out.keep hbr, hB, hbw4⟩
      clear hoB hB hbr hbw hbw4 XA XB XO HRA HRB HO1 HRL hlt2 hlt
      generalize wr = w4 at *
      go_wp2_with ((with_reducible refine at_load 40 (.tmp 11) ?_); refine wpList_load_r rfl (.tmp 11) rfl g1 rfl S4.xo ?_)
      refine (rec_put_of LP k j a A1 n c1 hn har s t HL _ S4.ro).mono ?_
      rintro e w5 ⟨A5, c5, rfl, ho5, b5⟩
      have S5 := S4.keep b5
      have hx5 := ho5.rd
      clear S4 b5 ho5
      go_wp2_with ((with_reducible refine at_load 40 (.tmp 5) ?_); refine wpList_load_r rfl (.tmp 5) rfl w.heap.size rfl S5.xa ?_)
      refine (rcput_of LP k j a A n c hn har s t HL _ S5.ra).mono ?_
      rintro e w6 ⟨A6, c6, rfl, ho6, b6⟩
      have S6 := S5.keep b6
      have hx6 := ho6.rd
      replace hx5 := hx5.keep b6
      clear S5 b6 ho6
      go_wp2_with fail
      refine (rec_get_of A3 z c3 L hl (by omega) _ S6.rw).mono ?_
      rintro e w7 ⟨r7, A7, k7, c7, s7, t7, i7, f7, j7, rfl, hg7, hk7, ho7, b7⟩
      have HK7 := hid hk7
      have HG7 := hid hg7
      have R7 := rs_new w7 40 42
      clear hk7 hg7
      have one : True := trivial
      go_wp2_with (first
        | (clear one; (with_reducible refine at_store 40 (.tmp 18) (.tmp 87) ?_); refine wpList_store_r rfl (.tmp 18) (.tmp 87) rfl w7.heap.size rfl r7 A7 k7 c7 rfl R7.tr w7.heap.size (Nat.le_refl _) ?_; intro w8 bx8 tx8 b8 h8 z8; have td8 : ThereD w8 (w7.heap.size + 1) := there_other R7.td h8 (by omega))
        | ((with_reducible refine at_store 42 (.tmp 19) (.tmp 88) ?_); refine wpList_store_d rfl (.tmp 19) (.tmp 88) rfl (w7.heap.size + 1) rfl s7 t7 i7 f7 rfl td8 w7.heap.size (Nat.le_succ _) ?_; intro w9 bd9 td9 b9 h9 z9; have bx9 := bx8.other h9 (by omega)))
      have b79 : Below w7.heap.size w7 w9 := (R7.be.trans b8).trans b9
      have P9 : LpR w6 w9 w7.heap.size r7 A7 k7 c7 r7.op.row := lpR_new ho7 HK7.out b7 bx9 b79
      have b69 := below_in b7 b79
      have S9 := S6.keep b69
      replace hx5 := hx5.keep b69
      replace hx6 := hx6.keep b69
      generalize w7.heap.size = g7 at *
      clear R7 bx8 tx8 b8 h8 z8 td8 td9 b9 h9 z9 b7 b79 b69 ho7
      refine (rcget_of A2 z c2 L hl (by omega) _ S9.rl).mono ?_
      rintro e w10 ⟨r10, A10, k10, c10, s10, t10, i10, f10, j10, rfl, hg10, hk10, ho10, b10⟩
      obtain ⟨rfl, rfl, rfl, rfl, rfl, rfl⟩ := HG7.out.one hg10
      have HK10 := hid hk10
      have R10 := rs_new w10 40 42
      clear hg10 hk10 HG7
      have one : True := trivial
      have two : True := trivial
      go_wp2_with (first
        | (clear one; (with_reducible refine at_store 40 (.tmp 21) (.tmp 93) ?_); refine wpList_store_r rfl (.tmp 21) (.tmp 93) rfl w10.heap.size rfl r7 A10 k10 c10 rfl R10.tr w10.heap.size (Nat.le_refl _) ?_; intro w11 bx11 tx11 b11 h11 z11; have td11 : ThereD w11 (w10.heap.size + 1) := there_other R10.td h11 (by omega))
        | ((with_reducible refine at_store 42 (.tmp 22) (.tmp 94) ?_); refine wpList_store_d rfl (.tmp 22) (.tmp 94) rfl (w10.heap.size + 1) rfl s7 t7 i7 f7 rfl td11 w10.heap.size (Nat.le_succ _) ?_; intro w12 bd12 td12 b12 h12 z12; have bx12 := bx11.other h12 (by omega); have b1012 : Below w10.heap.size w10 w12 := (R10.be.trans b11).trans b12; have b912 := below_in b10 b1012; have S12 := S9.keep b912)
        | (clear two; (with_reducible refine at_load 40 (.tmp 11) ?_); refine wpList_load_r rfl (.tmp 11) rfl g1 rfl S12.xo ?_))
      have P12 := P9.keep b912
      have G12 : StG w12 r7 A7 k7 c7 g7 A10 k10 c10 w10.heap.size s7 t7 i7 f7 := ⟨bx9.keep b912, bd9.keep b912, bx12, bd12, P12.ow.ri, ho10.ri.keep b1012⟩
      replace hx5 := hx5.keep b912
      replace hx6 := hx6.keep b912
      generalize w10.heap.size = g10 at *
      clear R10 bx11 tx11 b11 h11 z11 td11 td12 b12 h12 z12 b1012 b10 b912 ho10 bx9 bd9 P9 S9 bx12 bd12
      refine (rec_count_of cv cj a A1 n c1 hn har HC _ S12.ro).mono ?_
      rintro e w13 ⟨rfl, b13⟩
      have S13 := S12.keep b13
      have two : True := trivial
      go_wp2_with (clear two; (with_reducible refine at_load 40 (.tmp 5) ?_); refine wpList_load_r rfl (.tmp 5) rfl w.heap.size rfl S13.xa ?_)
      refine (rccount_of cv cj a A n c hn har HC _ S13.ra).mono ?_
      rintro e w14 ⟨rfl, b14⟩
      have b124 := below_in b13 b14
      have S14 := S12.keep b124
      have two : True := trivial
      go_wp2_with (clear two; (with_reducible refine at_load 40 (.tmp 11) ?_); refine wpList_load_r rfl (.tmp 11) rfl g1 rfl S14.xo ?_)
      refine (rec_twin_of a A1 n c1 hn hn5 _ S14.ro).mono ?_
      rintro e w15 ⟨A15, c15, rfl, ho15, b15⟩
      have th15 := thereR_new w15 (#[.int .u8 0, .int .i64 0, .int .u8 0, .int .u8 0, .int .u32 0, .int .u8 0, .int .i64 0, .int .u8 0, .int .u32 0, .int .u8 0, .int .i64 0, .int .i64 0, .int .u8 0, .int .u32 0, .int .u8 0, .int .i64 0, .int .u8 0, .int .u32 0, .slice none 0 0, .int .i64 0, .int .i64 0, .int .u8 0, .int .u32 0, .bool false]) rfl 40
      have EH := fun W => eql_head W s7 t7 i7 f7
      have one : True := trivial
      have t1 : True := trivial
      have t2 : True := trivial
      go_wp2_with (first
        | (clear one; (with_reducible refine at_store 40 (.tmp 28) (.tmp 107) ?_); refine wpList_store_r rfl (.tmp 28) (.tmp 107) rfl w15.heap.size rfl a A15 n c15 rfl th15 w15.heap.size (Nat.le_refl _) ?_; intro w16 bx16 th16 b16 h16 z16; clear th16 h16 z16; replace b16 := ((Below.refl w15.heap.size w15).alloc (Nat.le_refl _) _).trans b16; have b1216 := below_in b124 (below_in b15 b16); have G16 := G12.keep b1216)
        | (go_at_call 22; refine (rsameB_of true LP A5 k c5 HLk LP A6 k c6 HLk (hid (by simp)) _ (hx5.keep b1216) (hx6.keep b1216)).mono ?_; rintro e w17 ⟨rfl, b17⟩; have G17 := G16.keep b17)
        | (clear t1; (with_reducible refine at_load 40 (.tmp 18) ?_); refine wpList_load_r rfl (.tmp 18) rfl g7 rfl G17.p ?_)
        | (clear t2; (with_reducible refine at_load 40 (.tmp 21) ?_); refine wpList_load_r rfl (.tmp 21) rfl g10 rfl G17.q ?_)
        | (go_at_call 23; refine (rcsame_of true r7 A7 k7 c7 HK7 r7 A10 k10 c10 HK10 (hid (sameR_self r7)) _ G17.rp G17.rq).mono ?_; rintro e w18 ⟨rfl, b18⟩; have G18 := G17.keep b18)
        | ((with_reducible refine at_load 42 (.tmp 19) ?_); refine wpList_load_d rfl (.tmp 19) rfl (g7 + 1) rfl G18.pd ?_)
        | ((with_reducible refine at_load 42 (.tmp 22) ?_); refine wpList_load_d rfl (.tmp 22) rfl (g10 + 1) rfl G18.qd ?_))
      have T16 : LpR w14 w16 w15.heap.size a A15 n c15 a.op.row := lpR_new ho15 hn.out b15 bx16 b16
      have b1618 := below_in b17 b18
      have T18 := T16.keep b1618
      have b1218 := below_in b1216 b1618
      have S18 := S12.keep b1218
      have P14 := P12.keep b124
      have hkb : (k7 : Int) ≤ 9223372036854775807 := by have := P14.ow.ri.len; have := P14.ow.ri.cap; have := P14.len; omega
      have P18 := P12.keep b1218
      generalize w15.heap.size = g15 at *
      clear EH hx5 hx6 G12 G16 G17 G18 b13 b14 S13 b124 b15 b16 b17 b18 b1216 b1218 b1618 bx16 ho15 th15 T16 HLk HL HC HK7 HK10
      (try simp only [Act.put])
      refine wp_region_past (by kernel_rfl) (by kernel_rfl) ?_
      refine quiet_load_r (by rfl) (.tmp 11) rfl g1 rfl S18.xo.past ?_
      (try simp only [Act.put, List.setIfInBounds_toArray, List.set_cons_zero, List.set_cons_succ])
      go_big_quiet_step (exact quiet_below (rec_check_of cj a A1 n c1 hn har HJ _ (S18.ro.keep (Subtype.property _))))
      refine quiet_load_r (by rfl) (.tmp 5) rfl w.heap.size rfl S18.xa.past ?_
      (try simp only [Act.put, List.setIfInBounds_toArray, List.set_cons_zero, List.set_cons_succ])
      go_big_quiet_step (exact quiet_below (rccheck_of cj a A n c hn har HJ _ (S18.ra.keep (Subtype.property _))))
      go_big_quiet_step (fail)
      go_big_quiet_step (fail)
      refine quiet_load_r (by rfl) (.tmp 11) rfl g1 rfl S18.xo.past ?_
      (try simp only [Act.put, List.setIfInBounds_toArray, List.set_cons_zero, List.set_cons_succ])
      refine quiet_load_r (by rfl) (.tmp 6) rfl (w.heap.size + 1) rfl S18.xb.past ?_
      (try simp only [Act.put, List.setIfInBounds_toArray, List.set_cons_zero, List.set_cons_succ])
      go_big_quiet_step (exact quiet_below (rec_same_of u a A1 n c1 hn b B m d hm HU _ (S18.ro.keep (Subtype.property _)) (S18.rb.keep (Subtype.property _))))
      refine quiet_load_r (by rfl) (.tmp 5) rfl w.heap.size rfl S18.xa.past ?_
      (try simp only [Act.put, List.setIfInBounds_toArray, List.set_cons_zero, List.set_cons_succ])
      refine quiet_load_r (by rfl) (.tmp 6) rfl (w.heap.size + 1) rfl S18.xb.past ?_
      (try simp only [Act.put, List.setIfInBounds_toArray, List.set_cons_zero, List.set_cons_succ])
      go_big_quiet_step (exact quiet_below (rcsame_of u a A n c hn b B m d hm HU _ (S18.ra.keep (Subtype.property _)) (S18.rb.keep (Subtype.property _))))
      go_big_quiet_step (fail)
      go_big_quiet_step (fail)
      go_big_quiet_step (fail)
      refine quiet_load_r (by rfl) (.tmp 11) rfl g1 rfl S18.xo.past ?_
      (try simp only [Act.put, List.setIfInBounds_toArray, List.set_cons_zero, List.set_cons_succ])
      refine quiet_load_r (by rfl) (.tmp 5) rfl w.heap.size rfl S18.xa.past ?_
      (try simp only [Act.put, List.setIfInBounds_toArray, List.set_cons_zero, List.set_cons_succ])
      go_big_quiet_step (exact quiet_below (rec_same_of true a A1 n c1 hn a A n c hn HS1 _ (S18.ro.keep (Subtype.property _)) (S18.ra.keep (Subtype.property _))))
      go_big_quiet_step (fail)
      go_big_quiet_step (fail)
      refine quiet_load_r (by rfl) (.tmp 28) rfl g15 rfl T18.bx.past ?_
      (try simp only [Act.put, List.setIfInBounds_toArray, List.set_cons_zero, List.set_cons_succ])
      refine quiet_load_r (by rfl) (.tmp 5) rfl w.heap.size rfl S18.xa.past ?_
      (try simp only [Act.put, List.setIfInBounds_toArray, List.set_cons_zero, List.set_cons_succ])
      go_big_quiet_step (exact quiet_below (rcsame_of true a A15 n c15 hn a A n c hn HS1 _ (T18.ow.ri.keep (Subtype.property _)) (S18.ra.keep (Subtype.property _))))
      go_big_quiet_step (fail)
      go_big_quiet_step (fail)
      refine wpQuiet_nil ?_
      intro _ hw'
      obtain ⟨x, rfl⟩ := hw'
      have b19 := x.2
      generalize x.1 = w19 at *
      clear HU HJ
      have S19 := S18.keep b19
      have T19 := T18.keep b19
      have P19 := P18.keep b19
      clear S18 T18 P18 b19 HZ
      go_wp2_with fail
      go_loopw [30, 31] (fun t2 i wr => ∃ (j : Nat), j ≤ z ∧ t2 = .bool true ∧ i = .int .i64 (j : Int) ∧ Below w19.heap.size w19 wr) (fun _ i _ => z - (intOf i).toNat)
      case atStart => exact ⟨0, by omega, rfl, rfl, Below.refl _ _⟩
      case round =>
        obtain ⟨y, hjz, rfl, rfl, hbr⟩ := hrel
        by_cases hlt : y < z
        · have hlt2 : (y : Int) < (z : Int) := by omega
          have hjl : y < L.length := by rw [hl.out]; exact hlt
          obtain ⟨bb, oo, rfl, hcell⟩ := (S19.rl.keep hbr).at_ (by omega)
          obtain ⟨bc, oc, rfl, hcell2⟩ := (S19.rw.keep hbr).at_ (by omega)
          obtain ⟨X, x, hX, hRX⟩ := hcell y hjl
          obtain ⟨Y, x2, hY, hRY⟩ := hcell2 y hjl
          obtain ⟨la, hla⟩ : ∃ l, L[y] = l := ⟨_, rfl⟩
          rw [hla] at hX hRX hY hRY
          obtain ⟨p, hp⟩ : ∃ p, la.length = p := ⟨_, rfl⟩
          rw [hp] at hX hY
          have HP := hid hp
          obtain ⟨q, hq⟩ : ∃ q, okHd la = q := ⟨_, rfl⟩
          obtain ⟨x10, hx0⟩ : ∃ x, pick q (hS la) = x := ⟨_, rfl⟩
          obtain ⟨x11, hx1⟩ : ∃ x, pick q (hN la) = x := ⟨_, rfl⟩
          obtain ⟨x12, hx2⟩ : ∃ x, pick q (hI la) = x := ⟨_, rfl⟩
          obtain ⟨x13, hx3⟩ : ∃ x, pick q (hF la) = x := ⟨_, rfl⟩
          obtain ⟨ev, hev⟩ : ∃ v, er q = v := ⟨_, rfl⟩
          have HX := hid (show okHd la = q ∧ pick q (hS la) = x10 ∧ pick q (hN la) = x11 ∧ pick q (hI la) = x12 ∧ pick q (hF la) = x13 from ⟨hq, hx0, hx1, hx2, hx3⟩)
          have HE := hid hev
          clear hcell hcell2 hla hp hjl hq hx0 hx1 hx2 hx3 hev
          go_wp2_with fail
          refine (rec_head_of q x10 x11 x12 x13 Y p x2 la HP HX _ hRY).mono ?_
          rw [HE.out]
          rintro e w20 ⟨rfl, b20⟩
          replace hX := keep b20 hX
          replace hRX := hRX.keep b20
          replace hbr := below_in hbr b20
          have th20 := thereD_new w20 (#[.int .i64 0, .int .i64 0, .int .i64 0, .int .i64 0]) rfl 42
          clear b20
          have one : True := trivial
          go_wp2_with (clear one; (with_reducible refine at_store 42 (.tmp 32) (.tmp 177) ?_); refine wpList_store_d rfl (.tmp 32) (.tmp 177) rfl w20.heap.size rfl x10 x11 x12 x13 rfl th20 w20.heap.size (Nat.le_refl _) ?_; intro w21 bx21 tx21 b21 h21 z21; clear tx21 h21 z21 th20; replace b21 := ((Below.refl w20.heap.size w20).alloc (Nat.le_refl _) _).trans b21; have hX2 := keep b21 hX)
          have hRX2 := hRX.keep b21
          have hbr2 := below_in hbr b21
          clear hX hRX hbr b21 hRY hY
          go_wp2_with fail
          refine (rchead_of q x10 x11 x12 x13 X p x la HP HX _ hRX2).mono ?_
          rw [HE.out]
          rintro e w22 ⟨rfl, b22⟩
          replace bx21 := bx21.keep b22
          have hbr3 := below_in hbr2 b22
          have th22 := thereD_new w22 (#[.int .i64 0, .int .i64 0, .int .i64 0, .int .i64 0]) rfl 42
          clear b22 hX2 hRX2 hbr2 HX HE HP
          have EH := fun W => eql_head W x10 x11 x12 x13
          have one : True := trivial
          have t1 : True := trivial
          go_wp2_with (first
            | (clear one; (with_reducible refine at_store 42 (.tmp 34) (.tmp 185) ?_); refine wpList_store_d rfl (.tmp 34) (.tmp 185) rfl w22.heap.size rfl x10 x11 x12 x13 rfl th22 w22.heap.size (Nat.le_refl _) ?_; intro w23 bx23 tx23 b23 h23 z23; clear tx23 h23 z23 th22; replace b23 := ((Below.refl w22.heap.size w22).alloc (Nat.le_refl _) _).trans b23; replace bx21 := bx21.keep b23; have hbr4 := below_in hbr3 b23)
            | (clear t1; (with_reducible refine at_load 42 (.tmp 32) ?_); refine wpList_load_d rfl (.tmp 32) rfl w20.heap.size rfl bx21 ?_)
            | ((with_reducible refine at_load 42 (.tmp 34) ?_); refine wpList_load_d rfl (.tmp 34) rfl w22.heap.size rfl bx23 ?_))
          clear EH bx21 bx23 b23 hbr3
          go_roundw
          case rel => exact ⟨y + 1, by omega, rfl, by go_num, hbr4⟩
          case measure => simp [intOf]; omega
        · have hlt2 : ¬ (y : Int) < (z : Int) := by omega
          have S20 := S19.keep hbr
          have T20 := T19.keep hbr
          have P20 := P19.keep hbr
          clear S19 T19 P19 hbr hlt hjz
          generalize wr = w20 at *
          go_wp2_with fail
          go_loopw [36] (fun i wr => ∃ (i1 : Nat) (ls : List Int), i1 ≤ n ∧ i = .int .i64 (i1 : Int) ∧ Hid (LpR w14 wr g15 a A15 n c15 ls)) (fun i _ => n - (intOf i).toNat)
          case atStart => exact ⟨0, a.op.row, by omega, rfl, hid T20⟩
          case round =>
            clear T20 P20 S20
            obtain ⟨i1, ls, hj, rfl, HW⟩ := hrel
            by_cases hlt : i1 < n
            · obtain ⟨r, v, rfl, hv, q0, f0, hw⟩ := HW.out.at_ i1 hlt
              have hlt2 : (i1 : Int) < (n : Int) := by omega
              have t16 := HW.out.bx.sl
              obtain ⟨y1, hy1, h0, h1⟩ : ∃ y1, IntKind.i32.wrap (v + 1) = y1 ∧ -2147483648 ≤ y1 ∧ y1 ≤ 2147483647 := ⟨_, rfl, by rw [IntKind.wrap_i32]; omega, by rw [IntKind.wrap_i32]; omega⟩
              have HWR := hid (hw y1 h0 h1)
              clear hw HW P14 S6
              go_wp2_with fail
              go_region
              all_goals
                go_wp2
                go_roundw
                case rel => exact ⟨i1 + 1, _, by omega, by go_num, HWR⟩
                case measure => simp [intOf]; omega
            · have hlt2 : ¬ (i1 : Int) < (n : Int) := by omega
              have t16 := HW.out.bx.sl
              have P2 := P14.keep HW.out.be
              clear HW hj hlt P14
              go_wp2_with fail
              clear t16
              go_loopw [37] (fun i wr => ∃ (i1 : Nat) (ls : List Int), i1 ≤ k7 ∧ i = .int .i64 (i1 : Int) ∧ Hid (LpR w6 wr g7 r7 A7 k7 c7 ls)) (fun i _ => k7 - (intOf i).toNat)
              case atStart => exact ⟨0, r7.op.row, by omega, rfl, hid P2⟩
              case round =>
                clear P2
                obtain ⟨i2, ls, hj, rfl, HW⟩ := hrel
                by_cases hlt : i2 < k7
                · obtain ⟨r, v, rfl, hv, q0, f0, hw⟩ := HW.out.at_ i2 hlt
                  have hlt2 : (i2 : Int) < (k7 : Int) := by omega
                  have t16 := HW.out.bx.sl
                  obtain ⟨y1, hy1, h0, h1⟩ : ∃ y1, IntKind.i32.wrap (v + 1) = y1 ∧ -2147483648 ≤ y1 ∧ y1 ≤ 2147483647 := ⟨_, rfl, by rw [IntKind.wrap_i32]; omega, by rw [IntKind.wrap_i32]; omega⟩
                  have HWR := hid (hw y1 h0 h1)
                  clear hw HW S6
                  go_wp2_with fail
                  go_region
                  all_goals
                    go_wp2
                    go_roundw
                    case rel => exact ⟨i2 + 1, _, by omega, by go_num, HWR⟩
                    case measure => simp [intOf]; omega
                · have hlt2 : ¬ (i2 : Int) < (k7 : Int) := by omega
                  have t16 := HW.out.bx.sl
                  have SE := S6.keep HW.out.be
                  clear HW hj hlt S6
                  have one : True := trivial
                  have two : True := trivial
                  go_wp2_with (first
                    | (clear one; (with_reducible refine at_load 40 (.tmp 11) ?_); refine wpList_load_r rfl (.tmp 11) rfl g1 rfl SE.xo ?_)
                    | (clear two; (with_reducible refine at_load 40 (.tmp 5) ?_); refine wpList_load_r rfl (.tmp 5) rfl w.heap.size rfl SE.xa ?_))
                  refine (rcsame_of true a A1 n c1 hn a A n c hn HS1 _ SE.ro SE.ra).mono ?_
                  rintro e w30 ⟨rfl, b30⟩
                  have SF := SE.keep b30
                  clear SE b30 t16
                  go_wp2_with fail
                  refine (rsameB_of true L A3 z c3 hl L A2 z c2 hl (hid (by simp)) _ SF.rw SF.rl).mono ?_
                  rintro e w31 ⟨rfl, b31⟩
                  have hfin := below_in SF.be b31
                  clear SF b31
                  go_wp2
                  go_ret
                  exact ⟨rfl, hfin⟩

set_option maxRecDepth 100000 in
theorem rctells_lifted (os : Os) (started : os.Started) (H : Type) (enc : TypeId × Value → H) :
    ReturnsInHanded {} Tryz.checked os 4 .any (Rows.recordTellsSpec.pre6 enc Tryz.prog Tryz.f4 Rows.recordTellsRow.domain false) (Rows.recordTellsSpec.post enc Tryz.prog Tryz.f4 false true false false) := by
  refine returnsInHanded_of_change_sized (C := Tryz.checked) own started (by kernel_rfl) Tryz.func4
    (ChangeSpec.witness6 (enc := enc) (C := Tryz.checked) false ⟨#[], #[.agg #[.int .u8 0, .int .i64 0, .int .u8 0, .int .u8 0, .int .u32 0, .int .u8 0, .int .i64 0, .int .u8 0, .int .u32 0, .int .u8 0, .int .i64 0, .int .i64 0, .int .u8 0, .int .u32 0, .int .u8 0, .int .i64 0, .int .u8 0, .int .u32 0, .slice none 0 0, .int .i64 0, .int .i64 0, .int .u8 0, .int .u32 0, .bool false], .agg #[.int .u8 0, .int .i64 0, .int .u8 0, .int .u8 0, .int .u32 0, .int .u8 0, .int .i64 0, .int .u8 0, .int .u32 0, .int .u8 0, .int .i64 0, .int .i64 0, .int .u8 0, .int .u32 0, .int .u8 0, .int .i64 0, .int .u8 0, .int .u32 0, .slice none 0 0, .int .i64 0, .int .i64 0, .int .u8 0, .int .u32 0, .bool false], .int .i64 0, .int .i64 0, .slice none 0 0], []⟩ 8 (by kernel_rfl) (by kernel_rfl) (by kernel_rfl) (by kernel_rfl)) ?_
  intro W base args ds gs before hval0 hW _ hZ _
  have hval : ∀ (j : Nat) t v, Tryz.f4.params[j]? = some t → args[j]? = some v → Value.okWide Tryz.prog W .any base t v := hval0
  have hW' := hW
  obtain ⟨p, q, hA0, hV, rfl, _, _⟩ := hW
  have hA : DataW.TrodAll enc Tryz.prog W 0 (fun _ => true) true Tryz.f4.params.toList args.toList ds p := hA0
  rw [Tryz.params4] at hA hval
  obtain ⟨v0, v1, v2, v3, v4, d0, d1, d2, d3, d4, p0, p1, p2, p3, p4, rfl, rfl, rfl, h0, h1, h2, h3, h4⟩ := trodAll_five hA
  obtain ⟨rfl, rfl⟩ := trodVars_none hV
  obtain ⟨a, A, n, c, rfl, hr⟩ := open_rec (hval 0 _ v0 rfl rfl) h0
  obtain ⟨b, B, m, d, rfl, hs⟩ := open_rec (hval 1 _ v1 rfl rfl) h1
  obtain ⟨s, rfl, -⟩ := open_i64 (hval 2 _ v2 rfl rfl) h2
  obtain ⟨t, rfl, -⟩ := open_i64 (hval 3 _ v3 rfl rfl) h3
  obtain ⟨A2, n2, c2, L, rfl, ht, hz⟩ := open_blks_sized (hval 4 _ v4 rfl rfl) h4 (fun k hk => by
    have h := List.all_eq_true.1 hZ k (DataW.weights_mem_each (j := 4) (t := 45) (d := d4) (by rw [Tryz.params4]; rfl) rfl k hk)
    simpa using h)
  refine (rctells_walk a A n c b B m d s t A2 n2 c2 L W hr hs ht hz).mono fun e W' ⟨he, hg⟩ => ?_
  subst he
  exact ⟨_, rfl, law_post laidOut (by kernel_rfl) rfl Tryz.underlying4 rfl rfl hW' hg⟩

theorem rctells_holds : Rows.RecordTellsSaid :=
  OpenClaim.holds_of_wide 4 Tryz.f4 rfl rfl rfl rfl rfl rfl rfl ⟨rfl, rfl, rfl, rfl, rfl⟩ rfl rfl rfl rfl rfl (by kernel_rfl) Tryz.func4 (by kernel_rfl)
    (of_decide_eq_true (by kernel_rfl)) (by unfold Func.isWrapper; rw [if_neg (of_decide_eq_false (by kernel_rfl))]; exact ⟨rfl, rfl⟩)
    (fun os started H enc _ => rctells_lifted os started H enc)
#print axioms rctells_holds
end Go.Proofs.YtndmblhkmgnpcaaGreat
