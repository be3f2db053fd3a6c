/-
  DiskTells: disks are checked, started, written, read, compared and copied as the document says; they stay, and what is answered is new memory: for any two disks, place, bytes and number. (No conditions.)
-/
import Derived.Test.YtofnjdkfhboapaaDlS
import Derived.Test.YtofnjdkfhboapaaDlO
namespace Go.Proofs.Ytofnjdkfhboapaa
open Go.ChangeShapes Go.WideShapes Go.ChangeAt Go.RowKit Go.Joins Go.Deep
set_option linter.unusedVariables false
set_option linter.unusedSimpArgs false

theorem BoxK.past {W : World} {b : Nat} {d : Dsk} {A : Option Addr} {n c : Nat} (h : BoxK W b d A n c) : ∀ w', (∃ x : Past W, w' = x.1) → BoxK w' b d A n c := fun w' ⟨x, hx⟩ => by
  rw [hx]; exact h.keep x.2
/-- What stays: what came in, its twin, the bytes and theirs. -/
structure Ts (W : World) (d : Dsk) (A : Option Addr) (n c : Nat) (k : Dsk) (B : Option Addr) (m e : Nat) (g : Nat) (A1 : Option Addr) (c1 : Nat) (A2 : Option Addr) (c2 : Nat) (l : List UInt8) (A3 : Option Addr) (c3 : Nat) (w : World) : Prop where
  bd : BoxK w W.heap.size d A n c
  bk : BoxK w (W.heap.size + 1) k B m e
  bo : BoxK w g d A1 n c1
  rd : RdS w A c d.se
  rk : RdS w B e k.se
  ro : RdS w A1 c1 d.se
  rb : Rd w A2 c2 l
  rr : Rd w A3 c3 l
  be : Below W.heap.size W w
theorem Ts.keep {W : World} {d : Dsk} {A : Option Addr} {n c : Nat} {k : Dsk} {B : Option Addr} {m e : Nat} {g : Nat} {A1 : Option Addr} {c1 : Nat} {A2 : Option Addr} {c2 : Nat} {l : List UInt8} {A3 : Option Addr} {c3 : Nat} {w w' : World} (h : Ts W d A n c k B m e g A1 c1 A2 c2 l A3 c3 w) (hb : Below w.heap.size w w') : Ts W d A n c k B m e g A1 c1 A2 c2 l A3 c3 w' :=
  ⟨h.bd.keep hb, h.bk.keep hb, h.bo.keep hb, h.rd.keep hb, h.rk.keep hb, h.ro.keep hb, h.rb.keep hb, h.rr.keep hb, below_in h.be hb⟩
def Bq (w w' : World) : Prop := Below w.heap.size w w'
theorem Bq.keep {w a b : World} (h : Bq w a) (hb : Below a.heap.size a b) : Bq w b := below_in h hb
/-- A disk that was handed back, in its box. -/
structure Bx (g : Nat) (v : Dsk) (A : Option Addr) (n c : Nat) (w : World) : Prop where
  bx : BoxK w g v A n c
  rd : RdS w A c v.se
theorem Bx.keep {g : Nat} {v : Dsk} {A : Option Addr} {n c : Nat} {w w' : World} (h : Bx g v A n c w) (hb : Below w.heap.size w w') : Bx g v A n c w' := ⟨h.bx.keep hb, h.rd.keep hb⟩
theorem bx_new {w : World} {v : Dsk} {A : Option Addr} {n c : Nat} (h : RdS w A c v.se) : Bx w.heap.size v A n c (w.alloc (.cells (#[.slice A n c, .int .i64 v.st, .int .i64 v.lf, .bool v.dd]) 24)) := ⟨boxK_new w v A n c _, h.keep (below1 _ _)⟩

theorem row_len {w : World} {A : Option Addr} {c : Nat} {L : List Sct} (h : RdS w A c L) : L.length ≤ c ∧ c ≤ 9223372036854775807 := ⟨h.len, h.cap⟩
set_option maxRecDepth 100000 in
set_option maxHeartbeats 3200000 in
theorem dtells_walk (d : Dsk) (A : Option Addr) (n c : Nat) (k : Dsk) (B : Option Addr) (m e : Nat) (a : Int) (A2 : Option Addr) (n2 c2 : Nat) (l : List UInt8) (x : Int) (W : World) (hr : Dkr d ∧ Hid (d.se.length = n) ∧ RdS W A c d.se) (hs : Dkr k ∧ Hid (k.se.length = m) ∧ RdS W B e k.se) (ht : Hid (l.length = n2) ∧ Rd W A2 c2 l) (h6 : Hid (∀ i (hi : i < d.se.length), d.se[i].b.length ≤ 140737488355328)) :
    Calls Try.prog 4 #[.agg #[.slice A n c, .int .i64 d.st, .int .i64 d.lf, .bool d.dd], .agg #[.slice B m e, .int .i64 k.st, .int .i64 k.lf, .bool k.dd], .int .i64 a, .slice A2 n2 c2, .int .i64 x] W fun e W' => e = .returned (.bool true) ∧ Below W.heap.size W W' := by
  obtain ⟨-, hn, hr⟩ := hr
  obtain ⟨-, hm, hs⟩ := hs
  obtain ⟨hl, ht⟩ := ht
  obtain ⟨xd, xk, hb0⟩ := box2_new W d A n c k B m e
  have HR := hid (hr.keep hb0)
  have HS := hid (hs.keep hb0)
  have HT := hid (ht.keep hb0)
  obtain ⟨i0, hi0, hz0, hz1, hz2⟩ := info_parts info_u8
  clear hr hs ht
  go_enter Try.func4, Try.ntmps4
  have one : True := trivial
  go_wp2_with (clear one; generalize World.alloc (World.alloc W _) _ = W1 at xd xk hb0 HR HS HT ⊢; refine wpList_load_k rfl (.tmp 5) rfl W.heap.size rfl xd ?_)
  obtain ⟨gr, hgr⟩ : ∃ q, greatK d = q := ⟨_, rfl⟩
  obtain ⟨gs, hgs⟩ : ∃ q, greatK k = q := ⟨_, rfl⟩
  refine (kgreat_of gr d A n c hn (hid hgr) _ HR.out).mono ?_
  rintro e0 w1 ⟨rfl, b1⟩
  have hb1 := below_in hb0 b1
  have xd1 := xd.keep b1
  have xk1 := xk.keep b1
  cases gr with
  | true =>
    clear xd xk HR HS HT hgr hgs xd1 xk1 b1
    go_wp2
    go_ret
    exact ⟨rfl, hb1⟩
  | false =>
  go_wp2_with ((with_reducible refine at_load 24 (.tmp 6) ?_); refine wpList_load_k rfl (.tmp 6) rfl (W.heap.size + 1) rfl xk1 ?_)
  refine (kgreat_of gs k B m e hm (hid hgs) _ (HS.out.keep b1)).mono ?_
  rintro e0 w2 ⟨rfl, b2⟩
  have hb2 := below_in hb1 b2
  have b02 := below_in b1 b2
  clear b1 b2 xd1 xk1
  cases gs with
  | true =>
    clear xd xk HR HS HT hgr hgs
    go_wp2
    go_ret
    exact ⟨rfl, hb2⟩
  | false =>
  by_cases hl2 : 10000 < n2
  · have d1 : (10000 : Int) < (n2 : Int) := by omega
    clear xd xk HR HS HT hgr hgs
    go_wp2
    go_ret
    exact ⟨rfl, hb2⟩
  have d1 : ¬ (10000 : Int) < (n2 : Int) := by omega
  have h200 : n ≤ 200 := by
    have := hn.out
    rw [greatK, Bool.or_eq_false_iff] at hgr
    have h := hgr.1
    simp at h
    omega
  have xd2 := xd.keep b02
  have xk2 := xk.keep b02
  have HR2 := hid (HR.out.keep b02)
  have HS2 := hid (HS.out.keep b02)
  have HT2 := hid (HT.out.keep b02)
  clear xd xk HR HS HT hgr hgs b02 hb0 hb1
  go_wp2_with ((with_reducible refine at_load 24 (.tmp 5) ?_); refine wpList_load_k rfl (.tmp 5) rfl W.heap.size rfl xd2 ?_)
  refine (ktwin_of d A n c hn (by omega) h6 _ HR2.out).mono ?_
  rintro e0 w3 ⟨A1, c1, rfl, ow, b3⟩
  have own := bx_new (n := n) ow.rd
  have b4 := below_in b3 (below1 w3 (.cells (#[.slice A1 n c1, .int .i64 d.st, .int .i64 d.lf, .bool d.dd]) 24))
  have xd4 := xd2.keep b4
  have xk4 := xk2.keep b4
  have HR4 := hid (HR2.out.keep b4)
  have HS4 := hid (HS2.out.keep b4)
  have HT4 := hid (HT2.out.keep b4)
  have hb4 := below_in hb2 b4
  clear xd2 xk2 HR2 HS2 HT2 hb2 b4
  have one : True := trivial
  go_wp2_with (first | (at_builtin; clear one; generalize World.alloc w3 _ = w4 at own xd4 xk4 HR4 HS4 HT4 hb4 ⊢; refine wpList_append_rd rfl (.const (.slice none 0 0)) (.tmp 42) _ rfl w4.heap.size 5 Try.underlying30 hi0 hz0 hz1 hz2 none 0 0 [] (hid rfl) rfl (Own.nil _ _ _) A2 n2 c2 l hl rfl HT4.out (by omega) (Nat.le_refl _) ?_; intro A3 c3 w5 hraw b5; rw [List.nil_append] at hraw; have ts5 : Ts W d A n c k B m e w3.heap.size A1 c1 A2 c2 l A3 c3 w5 := ⟨xd4.keep b5, xk4.keep b5, own.bx.keep b5, HR4.out.keep b5, HS4.out.keep b5, own.rd.keep b5, HT4.out.keep b5, hraw.rd, below_in hb4 b5⟩; clear own xd4 xk4 HR4 HS4 HT4 hb4 hraw b5; try simp only [Nat.zero_add]; refine ?_) | ((with_reducible refine at_load 24 (.tmp 11) ?_); refine wpList_load_k rfl (.tmp 11) rfl w3.heap.size rfl ts5.bo ?_))
  have ts := ts5
  have HTS := hid ts5
  have bq : Bq w5 w5 := Below.refl _ _
  clear ts5
  obtain ⟨vx, hvx⟩ : ∃ v, startV d x = v := ⟨_, rfl⟩
  obtain ⟨kx, hkx⟩ : ∃ v, startE d x = v := ⟨_, rfl⟩
  have Hvx := hid hvx
  have Hkx := hid hkx
  clear hvx hkx
  obtain ⟨vz, hvz⟩ : ∃ v, writeV d a l = v := ⟨_, rfl⟩
  obtain ⟨kz, hkz⟩ : ∃ v, writeE d a l = v := ⟨_, rfl⟩
  have Hvz := hid hvz
  have Hkz := hid hkz
  clear hvz hkz
  obtain ⟨va, hva⟩ : ∃ v, readV d a = v := ⟨_, rfl⟩
  obtain ⟨ka, hka⟩ : ∃ v, readE d a = v := ⟨_, rfl⟩
  have Hva := hid hva
  have Hka := hid hka
  clear hva hka
  obtain ⟨ma, hma⟩ : ∃ v, va.length = v := ⟨_, rfl⟩
  have Hma := hid hma
  clear hma
  refine (dstart_of d A1 n c1 x vx kx hn (by omega) Hvx Hkx _ ts.ro).mono ?_
  rintro e0 w6 ⟨Ax, cx, rfl, ox, b6⟩
  replace ts := ts.keep b6
  replace bq := bq.keep b6
  have z6 := hid b6.size
  clear b6
  obtain ⟨bX, oX, RX, hAX, sx⟩ := ox.spo
  have cX := row_len ox.rd
  have xx := bx_new (v := vx) (n := vx.se.length) ox.rd
  have bn7 := below1 w6 (.cells (#[.slice Ax (vx.se.length) cx, .int .i64 vx.st, .int .i64 vx.lf, .bool vx.dd]) 24)
  replace ts := ts.keep bn7
  replace bq := bq.keep bn7
  replace sx := sx.keep bn7
  have z7 := hid bn7.size
  clear bn7
  clear ox
  have one : True := trivial
  go_wp2_with ((with_reducible refine at_load 24 (.tmp 5) ?_); clear one; generalize World.alloc w6 _ = w7 at ts bq sx xx z7 ⊢; refine wpList_load_k rfl (.tmp 5) rfl W.heap.size rfl ts.bd ?_)
  refine (kstart_of d A n c x vx kx hn (by omega) Hvx Hkx _ ts.rd).mono ?_
  rintro e0 w8 ⟨Ay, cy, rfl, oy, b8⟩
  replace ts := ts.keep b8
  replace bq := bq.keep b8
  replace sx := sx.keep b8
  replace xx := xx.keep b8
  have z8 := hid b8.size
  clear b8
  have xy := bx_new (v := vx) (n := vx.se.length) oy.rd
  have bn9 := below1 w8 (.cells (#[.slice Ay (vx.se.length) cy, .int .i64 vx.st, .int .i64 vx.lf, .bool vx.dd]) 24)
  replace ts := ts.keep bn9
  replace bq := bq.keep bn9
  replace sx := sx.keep bn9
  replace xx := xx.keep bn9
  have z9 := hid bn9.size
  clear bn9
  clear oy
  have one : True := trivial
  go_wp2_with ((with_reducible refine at_load 24 (.tmp 11) ?_); clear one; generalize World.alloc w8 _ = w9 at ts bq sx xx xy z9 ⊢; refine wpList_load_k rfl (.tmp 11) rfl w3.heap.size rfl ts.bo ?_)
  refine (dwrite_of d A1 n c1 a A3 n2 c3 l vz kz hn (by omega) hl Hvz Hkz _ ts.ro ts.rr).mono ?_
  rintro e0 w10 ⟨Az, cz, rfl, oz, b10⟩
  replace ts := ts.keep b10
  replace bq := bq.keep b10
  replace sx := sx.keep b10
  replace xx := xx.keep b10
  replace xy := xy.keep b10
  have z10 := hid b10.size
  clear b10
  obtain ⟨bZ, oZ, RZ, hAZ, sz⟩ := oz.spo
  have cZ := row_len oz.rd
  have xz := bx_new (v := vz) (n := vz.se.length) oz.rd
  have bn11 := below1 w10 (.cells (#[.slice Az (vz.se.length) cz, .int .i64 vz.st, .int .i64 vz.lf, .bool vz.dd]) 24)
  replace ts := ts.keep bn11
  replace bq := bq.keep bn11
  replace sx := sx.keep bn11
  replace xx := xx.keep bn11
  replace xy := xy.keep bn11
  replace sz := sz.keep bn11
  have z11 := hid bn11.size
  clear bn11
  clear oz
  have one : True := trivial
  go_wp2_with ((with_reducible refine at_load 24 (.tmp 5) ?_); clear one; generalize World.alloc w10 _ = w11 at ts bq sx xx xy sz xz z11 ⊢; refine wpList_load_k rfl (.tmp 5) rfl W.heap.size rfl ts.bd ?_)
  refine (kwrite_of d A n c a A2 n2 c2 l vz kz hn (by omega) hl Hvz Hkz _ ts.rd ts.rb).mono ?_
  rintro e0 w12 ⟨Aw, cw, rfl, ow2, b12⟩
  replace ts := ts.keep b12
  replace bq := bq.keep b12
  replace sx := sx.keep b12
  replace xx := xx.keep b12
  replace xy := xy.keep b12
  replace sz := sz.keep b12
  replace xz := xz.keep b12
  have z12 := hid b12.size
  clear b12
  have xw := bx_new (v := vz) (n := vz.se.length) ow2.rd
  have bn13 := below1 w12 (.cells (#[.slice Aw (vz.se.length) cw, .int .i64 vz.st, .int .i64 vz.lf, .bool vz.dd]) 24)
  replace ts := ts.keep bn13
  replace bq := bq.keep bn13
  replace sx := sx.keep bn13
  replace xx := xx.keep bn13
  replace xy := xy.keep bn13
  replace sz := sz.keep bn13
  replace xz := xz.keep bn13
  have z13 := hid bn13.size
  clear bn13
  clear ow2
  have one : True := trivial
  go_wp2_with ((with_reducible refine at_load 24 (.tmp 11) ?_); clear one; generalize World.alloc w12 _ = w13 at ts bq sx xx xy sz xz xw z13 ⊢; refine wpList_load_k rfl (.tmp 11) rfl w3.heap.size rfl ts.bo ?_)
  refine (dread_of d A1 n c1 a va ma ka hn (by omega) Hva Hma Hka _ ts.ro).mono ?_
  rintro e0 w14 ⟨Ap, cp, rfl, op, b14⟩
  replace ts := ts.keep b14
  replace bq := bq.keep b14
  replace sx := sx.keep b14
  replace xx := xx.keep b14
  replace xy := xy.keep b14
  replace sz := sz.keep b14
  replace xz := xz.keep b14
  replace xw := xw.keep b14
  have z14 := hid b14.size
  clear b14
  obtain ⟨bP, pp⟩ := op.pb
  rw [Hma.out] at pp
  have rp := op.rd
  clear op
  go_wp2_with ((with_reducible refine at_load 24 (.tmp 5) ?_); refine wpList_load_k rfl (.tmp 5) rfl W.heap.size rfl ts.bd ?_)
  refine (kread_of d A n c a va ma ka hn Hva Hma Hka _ ts.rd).mono ?_
  rintro e0 w15 ⟨Aq, cq, rfl, oq, b15⟩
  replace ts := ts.keep b15
  replace bq := bq.keep b15
  replace sx := sx.keep b15
  replace xx := xx.keep b15
  replace xy := xy.keep b15
  replace sz := sz.keep b15
  replace xz := xz.keep b15
  replace xw := xw.keep b15
  replace pp := pp.keep b15
  replace rp := rp.keep b15
  have z15 := hid b15.size
  clear b15
  have rq := oq.rd
  clear oq
  go_wp2_with ((with_reducible refine at_load 24 (.tmp 11) ?_); refine wpList_load_k rfl (.tmp 11) rfl w3.heap.size rfl ts.bo ?_)
  refine (dtwin_of d A1 n c1 hn (by omega) h6 _ ts.ro).mono ?_
  rintro e0 w16 ⟨Gt, rfl, ot, b16⟩
  replace ts := ts.keep b16
  replace bq := bq.keep b16
  replace sx := sx.keep b16
  replace xx := xx.keep b16
  replace xy := xy.keep b16
  replace sz := sz.keep b16
  replace xz := xz.keep b16
  replace xw := xw.keep b16
  replace pp := pp.keep b16
  replace rp := rp.keep b16
  replace rq := rq.keep b16
  have z16 := hid b16.size
  clear b16
  obtain ⟨bT, oT, RT, hAT, st⟩ := ot.spo
  rw [hn.out] at hAT st
  have cT := row_len ot.rd
  rw [hn.out] at cT
  have xt := bx_new (v := d) (n := n) ot.rd
  have bn17 := below1 w16 (.cells (#[.slice (some ⟨Gt, 0, none⟩) n n, .int .i64 d.st, .int .i64 d.lf, .bool d.dd]) 24)
  replace ts := ts.keep bn17
  replace bq := bq.keep bn17
  replace sx := sx.keep bn17
  replace xx := xx.keep bn17
  replace xy := xy.keep bn17
  replace sz := sz.keep bn17
  replace xz := xz.keep bn17
  replace xw := xw.keep bn17
  replace pp := pp.keep bn17
  replace rp := rp.keep bn17
  replace rq := rq.keep bn17
  replace st := st.keep bn17
  have z17 := hid bn17.size
  clear bn17
  clear ot
  go_wp2_with fail
  generalize World.alloc w16 _ = w17 at ts bq sx xx xy sz xz xw pp rp rq st xt z17 ⊢
  have HSX := hid (sameK_self vx)
  have HSZ := hid (sameK_self vz)
  have HSD := hid (sameK_self d)
  obtain ⟨cv, hcv⟩ : ∃ v, (if mayD d = true then (0 : Int) else 8) = v := ⟨_, rfl⟩
  have HCV := hid hcv
  clear hcv
  obtain ⟨u, hu⟩ : ∃ v, sameK d k = v := ⟨_, rfl⟩
  have HU := hid hu
  clear hu
  have kp := fun x : Past w17 => rd_string Hma (rp.keep x.2)
  have kq := fun x : Past w17 => rd_string Hma (rq.keep x.2)
  refine wp_region_past (by kernel_rfl) (by kernel_rfl) ?_
  refine quiet_load_k (by rfl) (.tmp 13) rfl w6.heap.size rfl xx.bx.past ?_
  (try simp only [Act.put, List.setIfInBounds_toArray, List.set_cons_zero, List.set_cons_succ])
  refine quiet_load_k (by rfl) (.tmp 15) rfl w8.heap.size rfl xy.bx.past ?_
  (try simp only [Act.put, List.setIfInBounds_toArray, List.set_cons_zero, List.set_cons_succ])
  go_big_quiet_step (exact quiet_below (ksame_of true vx Ax vx.se.length cx (hid rfl) vx Ay vx.se.length cy (hid rfl) HSX _ (xx.rd.keep (Subtype.property _)) (xy.rd.keep (Subtype.property _))))
  repeat (go_big_quiet_step (fail))
  refine quiet_load_k (by rfl) (.tmp 17) rfl w10.heap.size rfl xz.bx.past ?_
  (try simp only [Act.put, List.setIfInBounds_toArray, List.set_cons_zero, List.set_cons_succ])
  refine quiet_load_k (by rfl) (.tmp 19) rfl w12.heap.size rfl xw.bx.past ?_
  (try simp only [Act.put, List.setIfInBounds_toArray, List.set_cons_zero, List.set_cons_succ])
  go_big_quiet_step (exact quiet_below (ksame_of true vz Az vz.se.length cz (hid rfl) vz Aw vz.se.length cw (hid rfl) HSZ _ (xz.rd.keep (Subtype.property _)) (xw.rd.keep (Subtype.property _))))
  repeat (go_big_quiet_step (fail))
  refine quiet_load_k (by rfl) (.tmp 11) rfl w3.heap.size rfl ts.bo.past ?_
  (try simp only [Act.put, List.setIfInBounds_toArray, List.set_cons_zero, List.set_cons_succ])
  go_big_quiet_step (exact quiet_below (dcheck_of d A1 n c1 hn cv HCV _ (ts.ro.keep (Subtype.property _))))
  refine quiet_load_k (by rfl) (.tmp 5) rfl W.heap.size rfl ts.bd.past ?_
  (try simp only [Act.put, List.setIfInBounds_toArray, List.set_cons_zero, List.set_cons_succ])
  go_big_quiet_step (exact quiet_below (kcheck_of d A n c hn cv HCV _ (ts.rd.keep (Subtype.property _))))
  repeat (go_big_quiet_step (fail))
  clear kp kq
  refine wpQuiet_nil ?_
  intro _ hw'
  obtain ⟨xw_, rfl⟩ := hw'
  have bw18 := xw_.2
  generalize xw_.1 = w18 at *
  replace ts := ts.keep bw18
  replace bq := bq.keep bw18
  replace sx := sx.keep bw18
  replace xx := xx.keep bw18
  replace xy := xy.keep bw18
  replace sz := sz.keep bw18
  replace xz := xz.keep bw18
  replace xw := xw.keep bw18
  replace pp := pp.keep bw18
  replace rp := rp.keep bw18
  replace rq := rq.keep bw18
  replace st := st.keep bw18
  replace xt := xt.keep bw18
  have zw18 := hid bw18.size
  clear bw18
  go_wp2_with fail
  refine wp_region_past (by kernel_rfl) (by kernel_rfl) ?_
  go_big_quiet_step (exact quiet_below (dnew_any _))
  go_big_quiet_step (exact quiet_below (knew_any _))
  go_big_quiet_step (exact quiet_below (ksame_of true ⟨[], 0, -1, false⟩ none 0 0 (hid rfl) ⟨[], 0, -1, false⟩ none 0 0 (hid rfl) (hid (sameK_self _)) _ (RdS.nil _) (RdS.nil _)))
  repeat (go_big_quiet_step (fail))
  refine quiet_load_k (by rfl) (.tmp 11) rfl w3.heap.size rfl ts.bo.past ?_
  (try simp only [Act.put, List.setIfInBounds_toArray, List.set_cons_zero, List.set_cons_succ])
  refine quiet_load_k (by rfl) (.tmp 6) rfl (W.heap.size + 1) rfl ts.bk.past ?_
  (try simp only [Act.put, List.setIfInBounds_toArray, List.set_cons_zero, List.set_cons_succ])
  go_big_quiet_step (exact quiet_below (dsame_of u d A1 n c1 hn k B m e hm HU _ (ts.ro.keep (Subtype.property _)) (ts.rk.keep (Subtype.property _))))
  refine quiet_load_k (by rfl) (.tmp 5) rfl W.heap.size rfl ts.bd.past ?_
  (try simp only [Act.put, List.setIfInBounds_toArray, List.set_cons_zero, List.set_cons_succ])
  refine quiet_load_k (by rfl) (.tmp 6) rfl (W.heap.size + 1) rfl ts.bk.past ?_
  (try simp only [Act.put, List.setIfInBounds_toArray, List.set_cons_zero, List.set_cons_succ])
  go_big_quiet_step (exact quiet_below (ksame_of u d A n c hn k B m e hm HU _ (ts.rd.keep (Subtype.property _)) (ts.rk.keep (Subtype.property _))))
  repeat (go_big_quiet_step (fail))
  refine quiet_load_k (by rfl) (.tmp 11) rfl w3.heap.size rfl ts.bo.past ?_
  (try simp only [Act.put, List.setIfInBounds_toArray, List.set_cons_zero, List.set_cons_succ])
  refine quiet_load_k (by rfl) (.tmp 5) rfl W.heap.size rfl ts.bd.past ?_
  (try simp only [Act.put, List.setIfInBounds_toArray, List.set_cons_zero, List.set_cons_succ])
  go_big_quiet_step (exact quiet_below (dsame_of true d A1 n c1 hn d A n c hn HSD _ (ts.ro.keep (Subtype.property _)) (ts.rd.keep (Subtype.property _))))
  repeat (go_big_quiet_step (fail))
  refine quiet_load_k (by rfl) (.tmp 25) rfl w16.heap.size rfl xt.bx.past ?_
  (try simp only [Act.put, List.setIfInBounds_toArray, List.set_cons_zero, List.set_cons_succ])
  refine quiet_load_k (by rfl) (.tmp 5) rfl W.heap.size rfl ts.bd.past ?_
  (try simp only [Act.put, List.setIfInBounds_toArray, List.set_cons_zero, List.set_cons_succ])
  go_big_quiet_step (exact quiet_below (ksame_of true d (some ⟨Gt, 0, none⟩) n n hn d A n c hn HSD _ (xt.rd.keep (Subtype.property _)) (ts.rd.keep (Subtype.property _))))
  repeat (go_big_quiet_step (fail))
  refine wpQuiet_nil ?_
  intro _ hw'
  obtain ⟨xw_, rfl⟩ := hw'
  have bw19 := xw_.2
  generalize xw_.1 = w19 at *
  replace ts := ts.keep bw19
  replace bq := bq.keep bw19
  replace sx := sx.keep bw19
  replace xx := xx.keep bw19
  replace xy := xy.keep bw19
  replace sz := sz.keep bw19
  replace xz := xz.keep bw19
  replace xw := xw.keep bw19
  replace pp := pp.keep bw19
  replace rp := rp.keep bw19
  replace rq := rq.keep bw19
  replace st := st.keep bw19
  replace xt := xt.keep bw19
  have zw19 := hid bw19.size
  clear bw19
  have kx0 := xx.bx
  have kz0 := xz.bx
  have kt0 := xt.bx
  clear ts xx xy xz xw xt rp rq
  go_wp2_with ((with_reducible refine at_load 24 (.tmp 13) ?_); refine wpList_load_k rfl (.tmp 13) rfl w6.heap.size rfl kx0 ?_)
  refine (spoil_go vx Ax bX oX vx.se.length cx w5.heap.size w6.heap.size RX hAX cX.1 cX.2 _ (Nat.le_trans (Nat.le_trans (Nat.le_trans (Nat.le_trans (Nat.le_trans (Nat.le_trans (Nat.le_trans (Nat.le_trans (Nat.le_trans (Nat.le_trans (Nat.le_trans (Nat.le_trans (Nat.le_trans z6.out z7.out) z8.out) z9.out) z10.out) z11.out) z12.out) z13.out) z14.out) z15.out) z16.out) z17.out) zw18.out) zw19.out) (Nat.le_trans (Nat.le_trans (Nat.le_trans (Nat.le_trans (Nat.le_trans (Nat.le_trans (Nat.le_trans (Nat.le_trans (Nat.le_trans (Nat.le_trans (Nat.le_trans (Nat.le_trans z7.out z8.out) z9.out) z10.out) z11.out) z12.out) z13.out) z14.out) z15.out) z16.out) z17.out) zw18.out) zw19.out) sx).mono ?_
  rintro e0 w20 ⟨⟨u20, rfl⟩, m20⟩
  replace bq : Bq w5 w20 := Below.trans bq ((m20.below (Nat.le_trans (Nat.le_trans (Nat.le_trans (Nat.le_trans (Nat.le_trans (Nat.le_trans (Nat.le_trans (Nat.le_trans (Nat.le_trans (Nat.le_trans (Nat.le_trans (Nat.le_trans (Nat.le_trans z6.out z7.out) z8.out) z9.out) z10.out) z11.out) z12.out) z13.out) z14.out) z15.out) z16.out) z17.out) zw18.out) zw19.out)).mono (Nat.le_refl _))
  have z20 := hid m20.size
  replace kz0 := kz0.mid m20 (.inr (Nat.le_trans (Nat.le_trans (Nat.le_trans z7.out z8.out) z9.out) z10.out))
  replace kt0 := kt0.mid m20 (.inr (Nat.le_trans (Nat.le_trans (Nat.le_trans (Nat.le_trans (Nat.le_trans (Nat.le_trans (Nat.le_trans (Nat.le_trans (Nat.le_trans z7.out z8.out) z9.out) z10.out) z11.out) z12.out) z13.out) z14.out) z15.out) z16.out))
  replace sz := sz.mid m20 (Nat.le_trans (Nat.le_trans z7.out z8.out) z9.out)
  replace st := st.mid m20 (Nat.le_trans (Nat.le_trans (Nat.le_trans (Nat.le_trans (Nat.le_trans (Nat.le_trans (Nat.le_trans (Nat.le_trans z7.out z8.out) z9.out) z10.out) z11.out) z12.out) z13.out) z14.out) z15.out)
  replace pp := pp.mid m20 (.inl (Nat.le_trans (Nat.le_trans (Nat.le_trans (Nat.le_trans (Nat.le_trans (Nat.le_trans z7.out z8.out) z9.out) z10.out) z11.out) z12.out) z13.out))
  clear m20 sx kx0
  go_wp2_with ((with_reducible refine at_load 24 (.tmp 17) ?_); refine wpList_load_k rfl (.tmp 17) rfl w10.heap.size rfl kz0 ?_)
  refine (spoil_go vz Az bZ oZ vz.se.length cz w9.heap.size w10.heap.size RZ hAZ cZ.1 cZ.2 _ (Nat.le_trans (Nat.le_trans (Nat.le_trans (Nat.le_trans (Nat.le_trans (Nat.le_trans (Nat.le_trans (Nat.le_trans (Nat.le_trans (Nat.le_trans z10.out z11.out) z12.out) z13.out) z14.out) z15.out) z16.out) z17.out) zw18.out) zw19.out) z20.out) (Nat.le_trans (Nat.le_trans (Nat.le_trans (Nat.le_trans (Nat.le_trans (Nat.le_trans (Nat.le_trans (Nat.le_trans (Nat.le_trans z11.out z12.out) z13.out) z14.out) z15.out) z16.out) z17.out) zw18.out) zw19.out) z20.out) sz).mono ?_
  rintro e0 w21 ⟨⟨u21, rfl⟩, m21⟩
  replace bq : Bq w5 w21 := Below.trans bq ((m21.below (Nat.le_trans (Nat.le_trans (Nat.le_trans (Nat.le_trans (Nat.le_trans (Nat.le_trans (Nat.le_trans (Nat.le_trans (Nat.le_trans (Nat.le_trans z10.out z11.out) z12.out) z13.out) z14.out) z15.out) z16.out) z17.out) zw18.out) zw19.out) z20.out)).mono (Nat.le_trans (Nat.le_trans (Nat.le_trans z6.out z7.out) z8.out) z9.out))
  have z21 := hid m21.size
  replace kt0 := kt0.mid m21 (.inr (Nat.le_trans (Nat.le_trans (Nat.le_trans (Nat.le_trans (Nat.le_trans z11.out z12.out) z13.out) z14.out) z15.out) z16.out))
  replace st := st.mid m21 (Nat.le_trans (Nat.le_trans (Nat.le_trans (Nat.le_trans z11.out z12.out) z13.out) z14.out) z15.out)
  replace pp := pp.mid m21 (.inl (Nat.le_trans (Nat.le_trans z11.out z12.out) z13.out))
  clear m21 sz kz0
  go_wp2_with ((with_reducible refine at_load 24 (.tmp 25) ?_); refine wpList_load_k rfl (.tmp 25) rfl w16.heap.size rfl kt0 ?_)
  refine (spoil_go d (some ⟨Gt, 0, none⟩) bT oT n n w15.heap.size w16.heap.size RT hAT cT.1 cT.2 _ (Nat.le_trans (Nat.le_trans (Nat.le_trans (Nat.le_trans (Nat.le_trans z16.out z17.out) zw18.out) zw19.out) z20.out) z21.out) (Nat.le_trans (Nat.le_trans (Nat.le_trans (Nat.le_trans z17.out zw18.out) zw19.out) z20.out) z21.out) st).mono ?_
  rintro e0 w22 ⟨⟨u22, rfl⟩, m22⟩
  replace bq : Bq w5 w22 := Below.trans bq ((m22.below (Nat.le_trans (Nat.le_trans (Nat.le_trans (Nat.le_trans (Nat.le_trans z16.out z17.out) zw18.out) zw19.out) z20.out) z21.out)).mono (Nat.le_trans (Nat.le_trans (Nat.le_trans (Nat.le_trans (Nat.le_trans (Nat.le_trans (Nat.le_trans (Nat.le_trans (Nat.le_trans z6.out z7.out) z8.out) z9.out) z10.out) z11.out) z12.out) z13.out) z14.out) z15.out))
  have z22 := hid m22.size
  replace pp := pp.mid m22 (.inr z15.out)
  have lo5 : w5.heap.size ≤ w13.heap.size := (Nat.le_trans (Nat.le_trans (Nat.le_trans (Nat.le_trans (Nat.le_trans (Nat.le_trans (Nat.le_trans z6.out z7.out) z8.out) z9.out) z10.out) z11.out) z12.out) z13.out)
  clear m22 st kt0
  go_wp2
  have cp1 : (ma : Int) ≤ (cp : Int) := by have := pp.le.1; omega
  have cp2 : (cp : Int) ≤ 9223372036854775807 := by have := pp.le.2; omega
  go_loopw [28] (fun i wr => ∃ (j : Nat), j ≤ ma ∧ i = .int .i64 (j : Int) ∧ Pb wr w13.heap.size w14.heap.size Ap bP ma cp ∧ Bq w5 wr) (fun i _ => ma - (intOf i).toNat)
  case atStart => exact ⟨0, by omega, rfl, pp, bq⟩
  case round =>
    clear pp bq
    obtain ⟨j, hj, rfl, pp, bq⟩ := hrel
    by_cases hlt : j < ma
    · have hlt2 : (j : Int) < (ma : Int) := by omega
      obtain ⟨⟨z, hz⟩, hf⟩ := pp.row j hlt
      obtain ⟨rfl, q1, q2⟩ := pp.at_ (by omega)
      have HP := hid pp
      have HQ := hid bq
      have HLO := hid (Nat.le_trans lo5 q1)
      clear pp bq q1 q2 lo5
      go_wp2
      go_roundw
      case rel => exact ⟨j + 1, by omega, by go_num, HP.out.byte j _, Below.setCell HQ.out HLO.out _⟩
      case measure => simp [intOf]; omega
    · have hlt2 : ¬ (j : Int) < (ma : Int) := by omega
      have ts := HTS.out.keep bq
      clear pp bq
      go_wp2_with (first
        | ((with_reducible refine at_load 24 (.tmp 11) ?_); refine wpList_load_k rfl (.tmp 11) rfl w3.heap.size rfl ts.bo ?_)
        | ((with_reducible refine at_load 24 (.tmp 5) ?_); refine wpList_load_k rfl (.tmp 5) rfl W.heap.size rfl ts.bd ?_))
      refine (ksame_of true d A1 n c1 hn d A n c hn HSD _ ts.ro ts.rd).mono ?_
      rintro e0 w30 ⟨rfl, b30⟩
      replace ts := ts.keep b30
      have s1 := rd_string hl ts.rr
      have s2 := rd_string hl ts.rb
      have hfin := ts.be
      clear ts b30
      go_wp2
      go_ret
      exact ⟨ret_bool (by simp), hfin⟩


set_option maxRecDepth 100000 in
theorem dtells_lifted (os : Os) (started : os.Started) (H : Type) (enc : TypeId × Value → H) :
    ReturnsInHanded {} Try.checked os 4 .any (Rows.diskTellsSpec.pre6 enc Try.prog Try.f4 Rows.diskTellsRow.domain false) (Rows.diskTellsSpec.post enc Try.prog Try.f4 false true false false) := by
  refine returnsInHanded_of_change_sized (C := Try.checked) own started (by kernel_rfl) Try.func4
    (ChangeSpec.witness6 (enc := enc) (C := Try.checked) false ⟨#[], #[.agg #[.slice none 0 0, .int .i64 0, .int .i64 0, .bool false], .agg #[.slice none 0 0, .int .i64 0, .int .i64 0, .bool false], .int .i64 0, .slice none 0 0, .int .i64 0], []⟩ 8 (by kernel_rfl) (by kernel_rfl) (by kernel_rfl) (by kernel_rfl)) ?_
  intro W base args ds gs before hval0 hW _ hZ _
  have hval : ∀ (j : Nat) t v, Try.f4.params[j]? = some t → args[j]? = some v → Value.okWide Try.prog W .any base t v := hval0
  have hW' := hW
  obtain ⟨p, q, hA0, hV, rfl, _, _⟩ := hW
  have hA : DataW.TrodAll enc Try.prog W 0 (fun _ => true) true Try.f4.params.toList args.toList ds p := hA0
  rw [Try.params4] at hA hval
  obtain ⟨v0, v1, v2, v3, v4, d0, d1, d2, d3, d4, p0, p1, p2, p3, p4, rfl, rfl, rfl, h0, h1, h2, h3, h4⟩ := trodAll_five hA
  obtain ⟨rfl, rfl⟩ := trodVars_none hV
  obtain ⟨a, A, n, c, rfl, hr, hz⟩ := open_disk_sized (hval 0 _ v0 rfl rfl) h0
  obtain ⟨b, B, m, d, rfl, hs⟩ := open_disk (hval 1 _ v1 rfl rfl) h1
  obtain ⟨s, rfl, -⟩ := open_i64 (hval 2 _ v2 rfl rfl) h2
  obtain ⟨A2, n2, c2, l, rfl, ht⟩ := open_bytes (hval 3 _ v3 rfl rfl) h3
  obtain ⟨t, rfl, -⟩ := open_i64 (hval 4 _ v4 rfl rfl) h4
  have h6 : Hid (∀ i (hi : i < a.se.length), a.se[i].b.length ≤ 140737488355328) := hid fun i hi => Nat.le_trans (hz (fun k hk => by
    have h := List.all_eq_true.1 hZ k (DataW.weights_mem_each (j := 0) (t := 24) (d := d0) (by rw [Try.params4]; rfl) rfl k hk)
    simpa using h) _ (List.getElem_mem hi)) (by decide)
  refine (dtells_walk a A n c b B m d s A2 n2 c2 l t W hr hs ht h6).mono fun e W' ⟨he, hg⟩ => ?_
  subst he
  exact ⟨_, rfl, law_post laidOut (by kernel_rfl) rfl Try.underlying4 rfl rfl hW' hg⟩

theorem dtells_holds : Rows.DiskTellsSaid :=
  OpenClaim.holds_of_wide 4 Try.f4 rfl rfl rfl rfl rfl rfl rfl ⟨rfl, rfl, rfl, rfl, rfl⟩ rfl rfl rfl rfl rfl (by kernel_rfl) Try.func4 (by kernel_rfl)
    (of_decide_eq_true (by kernel_rfl)) (by unfold Func.isWrapper; rw [if_neg (of_decide_eq_false (by kernel_rfl))]; exact ⟨rfl, rfl⟩)
    (fun os started H enc _ => dtells_lifted os started H enc)
#print axioms dtells_holds
end Go.Proofs.Ytofnjdkfhboapaa
