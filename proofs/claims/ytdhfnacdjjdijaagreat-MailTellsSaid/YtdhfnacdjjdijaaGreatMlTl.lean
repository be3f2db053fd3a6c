/-
  THE STATEMENT MailTells: mail is checked, compared and copied, and its bytes, and that of bytes, told, as the document's own; they stay, and what is answered is new memory; for any two and any bytes. No condition but the statement's own guards (10 operations, 500 runes each, 3,000 bytes).
-/
import Derived.Test.YtdhfnacdjjdijaaGreatMnK
import Derived.Test.YtdhfnacdjjdijaaGreatMnS
import Derived.Test.YtdhfnacdjjdijaaGreatMnD
import Derived.Test.YtdhfnacdjjdijaaGreatMlY
import Derived.Test.YtdhfnacdjjdijaaGreatMlX
import Derived.Test.YtdhfnacdjjdijaaGreatLaw
namespace Go.Proofs.YtdhfnacdjjdijaaGreat
open Go.ChangeShapes Go.WideShapes Go.ChangeAt Go.RowKit Go.Joins
set_option linter.unusedVariables false
set_option linter.unusedSimpArgs false

theorem mput_any (L : List UInt8) (k : Nat) (j : Int) (m : Mld) (A : Option Addr) (n c : Nat) (hn : Hid (m.ops.length = n)) (hmr : Mlr m) (hL : Hid ((if mayM m = true then mlb m else []) = L ∧ L.length = k ∧ er (mayM m) = j)) (w : World) (hr : RdO w A c m.ops) :
    Calls Tryz.prog 14 #[.agg #[.int .u8 m.kd, .int .i64 m.us, .int .i64 m.se, .int .i64 m.co, .int .i64 m.fr, .int .i64 m.tt, .int .u8 m.ak, .int .i64 m.t0, .int .i64 m.t1, .int .i64 m.t2, .int .i64 m.t3, .slice A n c]] w fun e w' => ∃ A' c', e = .returned (.tuple #[.slice A' k c', .int .i64 j]) ∧ Rd w' A' c' L ∧ Below w.heap.size w w' := by
  obtain ⟨h1, h2, h3⟩ := hL.out
  cases hm : mayM m
  · rw [if_neg (by rw [hm]; simp)] at h1
    rw [hm] at h3
    subst h1 h2 h3
    refine (mput_no m A n c hn (hid hm) w hr).mono ?_
    rintro e w1 ⟨rfl, b1⟩
    exact ⟨none, 0, rfl, Rd.nil _, b1⟩
  · rw [if_pos hm] at h1
    rw [hm] at h3
    subst h1 h3
    refine (mput_yes k m A n c hn hmr hm (hid h2) w hr).mono ?_
    rintro e w1 ⟨A1, c1, rfl, hr1, b1⟩
    exact ⟨A1, c1, rfl, hr1, b1⟩
theorem rmput_any (L : List UInt8) (k : Nat) (j : Int) (m : Mld) (A : Option Addr) (n c : Nat) (hn : Hid (m.ops.length = n)) (hmr : Mlr m) (hL : Hid ((if mayM m = true then mlb m else []) = L ∧ L.length = k ∧ er (mayM m) = j)) (w : World) (hr : RdO w A c m.ops) :
    Calls Tryz.prog 15 #[.agg #[.int .u8 m.kd, .int .i64 m.us, .int .i64 m.se, .int .i64 m.co, .int .i64 m.fr, .int .i64 m.tt, .int .u8 m.ak, .int .i64 m.t0, .int .i64 m.t1, .int .i64 m.t2, .int .i64 m.t3, .slice A n c]] w fun e w' => ∃ A' c', e = .returned (.tuple #[.slice A' k c', .int .i64 j]) ∧ Rd w' A' c' L ∧ Below w.heap.size w w' := by
  obtain ⟨h1, h2, h3⟩ := hL.out
  cases hm : mayM m
  · rw [if_neg (by rw [hm]; simp)] at h1
    rw [hm] at h3
    subst h1 h2 h3
    refine (rmput_no m A n c hn hmr (hid hm) w hr).mono ?_
    rintro e w1 ⟨rfl, b1⟩
    exact ⟨none, 0, rfl, Rd.nil _, b1⟩
  · rw [if_pos hm] at h1
    rw [hm] at h3
    subst h1 h3
    refine (rmput_yes k m A n c hn hmr hm (hid h2) w hr).mono ?_
    rintro e w1 ⟨A1, c1, rfl, hr1, b1⟩
    exact ⟨A1, c1, rfl, hr1, b1⟩
theorem rmcheck_any (j : Int) (m : Mld) (A : Option Addr) (n c : Nat) (hn : Hid (m.ops.length = n)) (hmr : Mlr m) (hj : Hid (er (mayM m) = j)) (w : World) (hr : RdO w A c m.ops) :
    Calls Tryz.prog 20 #[.agg #[.int .u8 m.kd, .int .i64 m.us, .int .i64 m.se, .int .i64 m.co, .int .i64 m.fr, .int .i64 m.tt, .int .u8 m.ak, .int .i64 m.t0, .int .i64 m.t1, .int .i64 m.t2, .int .i64 m.t3, .slice A n c]] w fun e w' => e = .returned (.int .i64 j) ∧ Below w.heap.size w w' := by
  have h := hj.out
  subst h
  obtain ⟨q, hq⟩ : ∃ q, mayM m = q := ⟨_, rfl⟩
  rw [hq]
  exact rmcheck_of q m A n c hn hmr (hid hq) w hr
/-- What stays from the first boxes on. -/
structure StM (w W : World) (a b : Mld) (l : List UInt8) (A : Option Addr) (n c : Nat) (B : Option Addr) (m d : Nat) (A2 : Option Addr) (c2 : Nat) (g : Nat) (A1 : Option Addr) (k1 c1 : Nat) (A3 : Option Addr) (c3 : Nat) : Prop where
  xa : BoxM W w.heap.size a A n c
  xb : BoxM W (w.heap.size + 1) b B m d
  xo : BoxM W g a A1 k1 c1
  ra : RdO W A c a.ops
  rb : RdO W B d b.ops
  ro : RdO W A1 c1 a.ops
  rl : Rd W A2 c2 l
  rw : Rd W A3 c3 l
  be : Below w.heap.size w W
theorem StM.keep {w W W' : World} {a b : Mld} {l : List UInt8} {A : Option Addr} {n c : Nat} {B : Option Addr} {m d : Nat} {A2 : Option Addr} {c2 g : Nat} {A1 : Option Addr} {k1 c1 : Nat} {A3 : Option Addr} {c3 : Nat} (h : StM w W a b l A n c B m d A2 c2 g A1 k1 c1 A3 c3) (hb : Below W.heap.size W W') : StM w W' a b l A n c B m d A2 c2 g A1 k1 c1 A3 c3 :=
  ⟨h.xa.keep hb, h.xb.keep hb, h.xo.keep hb, h.ra.keep hb, h.rb.keep hb, h.ro.keep hb, h.rl.keep hb, h.rw.keep hb, below_in h.be hb⟩
/-- Mail of the call's own, under a box. -/
structure LpM (w0 wr : World) (g : Nat) (m : Mld) (A : Option Addr) (k c : Nat) : Prop where
  bx : BoxM wr g m A k c
  ow : OwO wr w0.heap.size A c m.ops
  be : Below w0.heap.size w0 wr
theorem LpM.keep {w0 wr wr' : World} {g : Nat} {m : Mld} {A : Option Addr} {k c : Nat} (h : LpM w0 wr g m A k c) (hb : Below wr.heap.size wr wr') : LpM w0 wr' g m A k c :=
  ⟨h.bx.keep hb, h.ow.keep hb, below_in h.be hb⟩

set_option maxRecDepth 100000 in
set_option maxHeartbeats 6400000 in
theorem mtells_walk (a : Mld) (A : Option Addr) (n c : Nat) (b : Mld) (B : Option Addr) (m d : Nat) (A2 : Option Addr) (n2 c2 : Nat) (l : List UInt8) (w : World) (hr : Mlr a ∧ Hid (a.ops.length = n) ∧ RdO w A c a.ops) (hs : Mlr b ∧ Hid (b.ops.length = m) ∧ RdO w B d b.ops) (ht : Hid (l.length = n2) ∧ Rd w A2 c2 l) :
    Calls Tryz.prog 4 #[.agg #[.int .u8 a.kd, .int .i64 a.us, .int .i64 a.se, .int .i64 a.co, .int .i64 a.fr, .int .i64 a.tt, .int .u8 a.ak, .int .i64 a.t0, .int .i64 a.t1, .int .i64 a.t2, .int .i64 a.t3, .slice A n c], .agg #[.int .u8 b.kd, .int .i64 b.us, .int .i64 b.se, .int .i64 b.co, .int .i64 b.fr, .int .i64 b.tt, .int .u8 b.ak, .int .i64 b.t0, .int .i64 b.t1, .int .i64 b.t2, .int .i64 b.t3, .slice B m d], .slice A2 n2 c2] w fun e w' => e = .returned (.bool true) ∧ Below w.heap.size w w' := by
  obtain ⟨i0, hi0, hz0, hz1, hz2⟩ := info_parts info_u8
  obtain ⟨har, hn, hra⟩ := hr
  obtain ⟨hbr, hm, hrb⟩ := hs
  obtain ⟨hl, hrl⟩ := ht
  have xa : BoxM ((w.alloc (.cells (#[.int .u8 a.kd, .int .i64 a.us, .int .i64 a.se, .int .i64 a.co, .int .i64 a.fr, .int .i64 a.tt, .int .u8 a.ak, .int .i64 a.t0, .int .i64 a.t1, .int .i64 a.t2, .int .i64 a.t3, .slice A n c]) 27)).alloc (.cells (#[.int .u8 b.kd, .int .i64 b.us, .int .i64 b.se, .int .i64 b.co, .int .i64 b.fr, .int .i64 b.tt, .int .u8 b.ak, .int .i64 b.t0, .int .i64 b.t1, .int .i64 b.t2, .int .i64 b.t3, .slice B m d]) 27)) w.heap.size a A n c := (boxM_new w a A n c 27).keep ((Below.refl _ _).alloc (Nat.le_refl _) _)
  have xb : BoxM ((w.alloc (.cells (#[.int .u8 a.kd, .int .i64 a.us, .int .i64 a.se, .int .i64 a.co, .int .i64 a.fr, .int .i64 a.tt, .int .u8 a.ak, .int .i64 a.t0, .int .i64 a.t1, .int .i64 a.t2, .int .i64 a.t3, .slice A n c]) 27)).alloc (.cells (#[.int .u8 b.kd, .int .i64 b.us, .int .i64 b.se, .int .i64 b.co, .int .i64 b.fr, .int .i64 b.tt, .int .u8 b.ak, .int .i64 b.t0, .int .i64 b.t1, .int .i64 b.t2, .int .i64 b.t3, .slice B m d]) 27)) (w.heap.size + 1) b B m d := boxM_two w (.cells (#[.int .u8 a.kd, .int .i64 a.us, .int .i64 a.se, .int .i64 a.co, .int .i64 a.fr, .int .i64 a.tt, .int .u8 a.ak, .int .i64 a.t0, .int .i64 a.t1, .int .i64 a.t2, .int .i64 a.t3, .slice A n c]) 27) b B m d 27
  have hbw : Below w.heap.size w ((w.alloc (.cells (#[.int .u8 a.kd, .int .i64 a.us, .int .i64 a.se, .int .i64 a.co, .int .i64 a.fr, .int .i64 a.tt, .int .u8 a.ak, .int .i64 a.t0, .int .i64 a.t1, .int .i64 a.t2, .int .i64 a.t3, .slice A n c]) 27)).alloc (.cells (#[.int .u8 b.kd, .int .i64 b.us, .int .i64 b.se, .int .i64 b.co, .int .i64 b.fr, .int .i64 b.tt, .int .u8 b.ak, .int .i64 b.t0, .int .i64 b.t1, .int .i64 b.t2, .int .i64 b.t3, .slice B m d]) 27)) := below2 w _ _
  obtain ⟨g, hg⟩ : ∃ g, greatM a = g := ⟨_, rfl⟩
  obtain ⟨g', hg'⟩ : ∃ g, greatM b = g := ⟨_, rfl⟩
  have HG := hid hg
  have HG' := hid hg'
  clear hg hg'
  go_enter Tryz.func4, Tryz.ntmps4
  go_wp2_with (refine wpList_load_m rfl (.tmp 3) rfl w.heap.size rfl xa ?_)
  generalize World.alloc (World.alloc w _) _ = W0 at xa xb hbw ⊢
  refine (great_of g a A n c hn HG _ (hra.keep hbw)).mono ?_
  rintro e w1 ⟨rfl, b1⟩
  replace xa := xa.keep b1
  replace xb := xb.keep b1
  replace hbw := below_in hbw b1
  clear b1
  cases g
  case' true =>
    clear xa xb hra hrb hrl
    go_wp2
    go_ret
    exact ⟨rfl, hbw⟩
  go_wp2_with (refine wpList_load_m rfl (.tmp 4) rfl (w.heap.size + 1) rfl xb ?_)
  refine (great_of g' b B m d hm HG' _ (hrb.keep hbw)).mono ?_
  rintro e w2 ⟨rfl, b2⟩
  replace xa := xa.keep b2
  replace xb := xb.keep b2
  replace hbw := below_in hbw b2
  clear b2
  cases g'
  case' true =>
    clear xa xb hra hrb hrl
    go_wp2
    go_ret
    exact ⟨rfl, hbw⟩
  by_cases d3 : (3000 : Int) < (n2 : Int)
  · clear xa xb hra hrb hrl
    go_wp2
    go_ret
    exact ⟨rfl, hbw⟩
  obtain ⟨L, k, j, hL⟩ : ∃ L k j, (if mayM a = true then mlb a else []) = L ∧ L.length = k ∧ er (mayM a) = j := ⟨_, _, _, rfl, rfl, rfl⟩
  obtain ⟨q, hq⟩ : ∃ q, (mayM a && decide (a.kd ≤ 5)) = q := ⟨_, rfl⟩
  obtain ⟨s, hsm⟩ : ∃ s, sameM a b = s := ⟨_, rfl⟩
  have HL := hid hL
  have HLk := hid hL.2.1
  have HJ := hid hL.2.2
  have HQ := hid hq
  have HQ' := hid (show (decide (a.kd ≤ 5) && mayM a) = q by rw [Bool.and_comm]; exact hq)
  have HS := hid hsm
  have HS1 := hid (sameM_self a)
  have hgr := great_no HG.out
  have h10 : n ≤ 10 := by have := hn.out; have := hgr.1; omega
  have HROW := hid (show ∀ o ∈ a.ops, o.row.length ≤ 10000 from fun o ho => Nat.le_trans (hgr.2 o ho) (by omega))
  clear hL hq hsm hgr
  go_wp2_with (refine wpList_load_m rfl (.tmp 3) rfl w.heap.size rfl xa ?_)
  refine (rmtwin_of a A n c hn (by omega) HROW.out _ (hra.keep hbw)).mono ?_
  rintro e w3 ⟨A1, k1, c1, rfl, hk1, ho1, b3⟩
  have hk10 : k1 ≤ 10 := by have := hn.out; omega
  have HK1 := hid hk1
  replace xa := xa.keep b3
  replace xb := xb.keep b3
  replace hbw := below_in hbw b3
  clear hk1 b3
  have th3 := thereM_new w3 (#[.int .u8 0, .int .i64 0, .int .i64 0, .int .i64 0, .int .i64 0, .int .i64 0, .int .u8 0, .int .i64 0, .int .i64 0, .int .i64 0, .int .i64 0, .slice none 0 0]) rfl 27
  have one : True := trivial
  have two : True := trivial
  have three : True := trivial
  go_wp2_with (first
    | (clear one; refine wpList_store_m rfl (.tmp 7) (.tmp 32) rfl w3.heap.size rfl a A1 k1 c1 rfl th3 w3.heap.size (Nat.le_refl _) ?_; intro w4 bx4 th4 b4 h4 z4; clear th4 h4 z4 th3; replace b4 := ((Below.refl w3.heap.size w3).alloc (Nat.le_refl _) _).trans b4)
    | (at_builtin; clear two; refine wpList_append_rd rfl (.const (.slice none 0 0)) (.tmp 33) 32 rfl w4.heap.size 5 Tryz.underlying32 hi0 hz0 hz1 hz2 none 0 0 [] (hid rfl) rfl (Own.nil _ _ _) A2 n2 c2 l hl rfl (hrl.keep (below_in hbw b4)) (by omega) (Nat.le_refl _) ?_; intro A3 c3 w5 ho5 b5; rw [List.nil_append] at ho5; have bx5 := bx4.keep b5)
    | (clear three; refine wpList_load_m rfl (.tmp 7) rfl _ rfl bx5 ?_))
  have b35 := below_in b4 b5
  have hbw5 := below_in hbw b35
  have S5 : StM w w5 a b l A n c B m d A2 c2 w3.heap.size A1 k1 c1 A3 c3 := ⟨xa.keep b35, xb.keep b35, bx5, hra.keep hbw5, hrb.keep hbw5, (ho1.keep b35).rd, hrl.keep hbw5, ho5.rd, hbw5⟩
  generalize w3.heap.size = g1 at *
  clear xa xb hbw hbw5 b4 b5 b35 ho1 ho5 bx4 bx5 hra hrb hrl
  refine (mput_any L k j a A1 k1 c1 HK1 har HL _ S5.ro).mono ?_
  rintro e w6 ⟨A6, c6, rfl, hr6, b6⟩
  have S6 := S5.keep b6
  clear S5 b6
  have one : True := trivial
  go_wp2_with (clear one; refine wpList_load_m rfl (.tmp 3) rfl _ rfl S6.xa ?_)
  refine (rmput_any L k j a A n c hn har HL _ S6.ra).mono ?_
  rintro e w7 ⟨A7, c7, rfl, hr7, b7⟩
  have S7 := S6.keep b7
  replace hr6 := hr6.keep b7
  clear S6 b7
  go_wp2_with fail
  refine (mget_of A3 n2 c3 l hl _ S7.rw).mono ?_
  rintro e w8 ⟨m8, A8, k8, c8, j8, rfl, hg8, hk8, ho8, b8⟩
  have HK8 := hid hk8
  have HG8 := hid hg8
  have th8 := thereM_new w8 (#[.int .u8 0, .int .i64 0, .int .i64 0, .int .i64 0, .int .i64 0, .int .i64 0, .int .u8 0, .int .i64 0, .int .i64 0, .int .i64 0, .int .i64 0, .slice none 0 0]) rfl 27
  clear hk8 hg8
  have one : True := trivial
  go_wp2_with (clear one; refine wpList_store_m rfl (.tmp 13) (.tmp 48) rfl w8.heap.size rfl m8 A8 k8 c8 rfl th8 w8.heap.size (Nat.le_refl _) ?_; intro w9 bx9 th9 b9 h9 z9; clear th9 h9 z9 th8; replace b9 := ((Below.refl w8.heap.size w8).alloc (Nat.le_refl _) _).trans b9)
  have hb79 := below_in b8 b9
  have P9 : LpM w7 w9 w8.heap.size m8 A8 k8 c8 := ⟨bx9, ho8.keep b9, hb79⟩
  have S9 := S7.keep hb79
  replace hr6 := hr6.keep hb79
  replace hr7 := hr7.keep hb79
  generalize w8.heap.size = g8 at *
  clear ho8 bx9 b8 b9 hb79
  refine (rmget_of A2 n2 c2 l hl _ S9.rl).mono ?_
  rintro e w10 ⟨m10, A10, k10, c10, j10, rfl, hg10, hk10', hr10, b10⟩
  obtain ⟨rfl, rfl⟩ := HG8.out.one hg10
  clear HG8 hg10
  have HK10 := hid hk10'
  clear hk10'
  have th10 := thereM_new w10 (#[.int .u8 0, .int .i64 0, .int .i64 0, .int .i64 0, .int .i64 0, .int .i64 0, .int .u8 0, .int .i64 0, .int .i64 0, .int .i64 0, .int .i64 0, .slice none 0 0]) rfl 27
  have S10 := S9.keep b10
  have one : True := trivial
  have two : True := trivial
  go_wp2_with (first
    | (clear one; refine wpList_store_m rfl (.tmp 15) (.tmp 53) rfl w10.heap.size rfl m8 A10 k10 c10 rfl th10 w10.heap.size (Nat.le_refl _) ?_; intro w11 bx11 th11 b11 h11 z11; clear th11 h11 z11 th10; replace b11 := ((Below.refl w10.heap.size w10).alloc (Nat.le_refl _) _).trans b11; have S11 := S10.keep b11)
    | (clear two; refine wpList_load_m rfl (.tmp 7) rfl _ rfl S11.xo ?_))
  have hb11 := below_in b10 b11
  replace hr6 := hr6.keep hb11
  replace hr7 := hr7.keep hb11
  replace hr10 := hr10.keep b11
  have P11 := P9.keep hb11
  generalize w10.heap.size = g10 at *
  clear S9 S10 P9 hb11 b10 b11
  refine (mtwin_of a A1 k1 c1 HK1 (by omega) HROW.out _ S11.ro).mono ?_
  rintro e w12 ⟨A12, k12, c12, rfl, hk12, ho12, b12⟩
  have HK12 := hid hk12
  clear hk12
  have th12 := thereM_new w12 (#[.int .u8 0, .int .i64 0, .int .i64 0, .int .i64 0, .int .i64 0, .int .i64 0, .int .u8 0, .int .i64 0, .int .i64 0, .int .i64 0, .int .i64 0, .slice none 0 0]) rfl 27
  have one : True := trivial
  go_wp2_with (clear one; refine wpList_store_m rfl (.tmp 17) (.tmp 56) rfl w12.heap.size rfl a A12 k12 c12 rfl th12 w12.heap.size (Nat.le_refl _) ?_; intro w13 bx13 th13 b13 h13 z13; clear th13 h13 z13 th12; replace b13 := ((Below.refl w12.heap.size w12).alloc (Nat.le_refl _) _).trans b13)
  have hb13 := below_in b12 b13
  have T13 : LpM w11 w13 w12.heap.size a A12 k12 c12 := ⟨bx13, ho12.keep b13, hb13⟩
  have S13 := S11.keep hb13
  have P13 := P11.keep hb13
  have hq13 := bx11.keep hb13
  replace hr6 := hr6.keep hb13
  replace hr7 := hr7.keep hb13
  replace hr10 := hr10.keep hb13
  generalize w12.heap.size = g12 at *
  clear ho12 bx13 b12 b13 bx11 hb13
  have y4 := fun x : Past w13 => rd_string HLk (hr6.keep x.2)
  have y5 := fun x : Past w13 => rd_string HLk (hr7.keep x.2)
  (try simp only [Act.put])
  refine wp_region_past (by kernel_rfl) (by kernel_rfl) ?_
  go_big_quiet_step (fail)
  go_big_quiet_step (fail)
  go_big_quiet_step (fail)
  go_big_quiet_step (fail)
  go_big_quiet_step (fail)
  go_big_quiet_step (fail)
  go_big_quiet_step (fail)
  go_big_quiet_step (fail)
  go_big_quiet_step (fail)
  go_big_quiet_step (fail)
  go_big_quiet_step (fail)
  refine quiet_load_m (by rfl) (.tmp 13) rfl g8 rfl P13.bx.past ?_
  (try simp only [Act.put, List.setIfInBounds_toArray, List.set_cons_zero, List.set_cons_succ])
  refine quiet_load_m (by rfl) (.tmp 15) rfl g10 rfl hq13.past ?_
  (try simp only [Act.put, List.setIfInBounds_toArray, List.set_cons_zero, List.set_cons_succ])
  go_big_quiet_step (exact quiet_below (rmsame_of true m8 A8 k8 c8 HK8 m8 A10 k10 c10 HK10 (hid (sameM_self m8)) _ (P13.ow.keep (Subtype.property _)).rd (hr10.keep (Subtype.property _))))
  go_big_quiet_step (fail)
  go_big_quiet_step (fail)
  go_big_quiet_step (fail)
  go_big_quiet_step (fail)
  go_big_quiet_step (fail)
  go_big_quiet_step (fail)
  go_big_quiet_step (fail)
  refine quiet_load_m (by rfl) (.tmp 7) rfl g1 rfl S13.xo.past ?_
  (try simp only [Act.put, List.setIfInBounds_toArray, List.set_cons_zero, List.set_cons_succ])
  go_big_quiet_step (exact quiet_below (mcheck_of j a A1 k1 c1 HK1 HJ _ (S13.ro.keep (Subtype.property _))))
  refine quiet_load_m (by rfl) (.tmp 3) rfl w.heap.size rfl S13.xa.past ?_
  (try simp only [Act.put, List.setIfInBounds_toArray, List.set_cons_zero, List.set_cons_succ])
  go_big_quiet_step (exact quiet_below (rmcheck_any j a A n c hn har HJ _ (S13.ra.keep (Subtype.property _))))
  go_big_quiet_step (fail)
  go_big_quiet_step (fail)
  go_big_quiet_step (fail)
  refine quiet_load_m (by rfl) (.tmp 7) rfl g1 rfl S13.xo.past ?_
  (try simp only [Act.put, List.setIfInBounds_toArray, List.set_cons_zero, List.set_cons_succ])
  go_big_quiet_step (exact quiet_below (mup_of q a A1 k1 c1 HK1 HQ' _ (S13.ro.keep (Subtype.property _))))
  refine quiet_load_m (by rfl) (.tmp 3) rfl w.heap.size rfl S13.xa.past ?_
  (try simp only [Act.put, List.setIfInBounds_toArray, List.set_cons_zero, List.set_cons_succ])
  go_big_quiet_step (exact quiet_below (rmup_of q a A n c hn har HQ _ (S13.ra.keep (Subtype.property _))))
  go_big_quiet_step (fail)
  go_big_quiet_step (fail)
  go_big_quiet_step (fail)
  refine wpQuiet_nil ?_
  intro _ hw'
  obtain ⟨x, rfl⟩ := hw'
  clear y4 y5 hr6 hr7
  have S14 := S13.keep x.2
  have T14 := T13.keep x.2
  have P14 := P13.keep x.2
  clear S13 T13 P13 hq13 hr10
  generalize x.1 = w14 at *
  go_wp2_with fail
  refine wp_region_past (by kernel_rfl) (by kernel_rfl) ?_
  refine quiet_load_m (by rfl) (.tmp 7) rfl g1 rfl S14.xo.past ?_
  (try simp only [Act.put, List.setIfInBounds_toArray, List.set_cons_zero, List.set_cons_succ])
  refine quiet_load_m (by rfl) (.tmp 4) rfl (w.heap.size + 1) rfl S14.xb.past ?_
  (try simp only [Act.put, List.setIfInBounds_toArray, List.set_cons_zero, List.set_cons_succ])
  go_big_quiet_step (exact quiet_below (msame_of s a A1 k1 c1 HK1 b B m d hm HS _ (S14.ro.keep (Subtype.property _)) (S14.rb.keep (Subtype.property _))))
  refine quiet_load_m (by rfl) (.tmp 3) rfl w.heap.size rfl S14.xa.past ?_
  (try simp only [Act.put, List.setIfInBounds_toArray, List.set_cons_zero, List.set_cons_succ])
  refine quiet_load_m (by rfl) (.tmp 4) rfl (w.heap.size + 1) rfl S14.xb.past ?_
  (try simp only [Act.put, List.setIfInBounds_toArray, List.set_cons_zero, List.set_cons_succ])
  go_big_quiet_step (exact quiet_below (rmsame_of s a A n c hn b B m d hm HS _ (S14.ra.keep (Subtype.property _)) (S14.rb.keep (Subtype.property _))))
  go_big_quiet_step (fail)
  go_big_quiet_step (fail)
  refine quiet_load_m (by rfl) (.tmp 7) rfl g1 rfl S14.xo.past ?_
  (try simp only [Act.put, List.setIfInBounds_toArray, List.set_cons_zero, List.set_cons_succ])
  refine quiet_load_m (by rfl) (.tmp 3) rfl w.heap.size rfl S14.xa.past ?_
  (try simp only [Act.put, List.setIfInBounds_toArray, List.set_cons_zero, List.set_cons_succ])
  go_big_quiet_step (exact quiet_below (msame_of true a A1 k1 c1 HK1 a A n c hn HS1 _ (S14.ro.keep (Subtype.property _)) (S14.ra.keep (Subtype.property _))))
  go_big_quiet_step (fail)
  go_big_quiet_step (fail)
  refine quiet_load_m (by rfl) (.tmp 17) rfl g12 rfl T14.bx.past ?_
  (try simp only [Act.put, List.setIfInBounds_toArray, List.set_cons_zero, List.set_cons_succ])
  refine quiet_load_m (by rfl) (.tmp 3) rfl w.heap.size rfl S14.xa.past ?_
  (try simp only [Act.put, List.setIfInBounds_toArray, List.set_cons_zero, List.set_cons_succ])
  go_big_quiet_step (exact quiet_below (rmsame_of true a A12 k12 c12 HK12 a A n c hn HS1 _ (T14.ow.keep (Subtype.property _)).rd (S14.ra.keep (Subtype.property _))))
  go_big_quiet_step (fail)
  go_big_quiet_step (fail)
  refine wpQuiet_nil ?_
  intro _ hw'
  obtain ⟨x2, rfl⟩ := hw'
  have T15 := T14.keep x2.2
  clear S14 T14 P14
  generalize x2.1 = w15 at *
  clear HS HQ HQ' HL HLk HJ HK10 har hbr hm HROW
  have one : True := trivial
  go_wp2_with (clear one; refine wpList_load_m rfl (.tmp 17) rfl _ rfl T15.bx ?_)
  refine (spoil_of a A12 k12 c12 HK12 w11.heap.size _ T15.be.size T15.ow).mono ?_
  rintro e w16 ⟨⟨v16, rfl⟩, b16⟩
  have P16 := P11.keep (T15.be.trans b16)
  clear T15 b16 P11
  have one : True := trivial
  go_wp2_with (clear one; refine wpList_load_m rfl (.tmp 13) rfl _ rfl P16.bx ?_)
  refine (spoil_of m8 A8 k8 c8 HK8 w7.heap.size _ P16.be.size P16.ow).mono ?_
  rintro e w17 ⟨⟨v17, rfl⟩, b17⟩
  have SE := S7.keep (P16.be.trans b17)
  clear P16 b17 S7 S11
  have one : True := trivial
  have two : True := trivial
  go_wp2_with (first
    | (clear one; refine wpList_load_m rfl (.tmp 7) rfl _ rfl SE.xo ?_)
    | (clear two; refine wpList_load_m rfl (.tmp 3) rfl _ rfl SE.xa ?_))
  refine (rmsame_of true a A1 k1 c1 HK1 a A n c hn HS1 _ SE.ro SE.ra).mono ?_
  rintro e w20 ⟨rfl, b20⟩
  have SF := SE.keep b20
  have s1 := rd_string hl SF.rw
  have s2 := rd_string hl SF.rl
  have hfin := SF.be
  clear SE SF b20
  go_wp2
  go_ret
  exact ⟨rfl, hfin⟩


set_option maxRecDepth 100000 in
theorem mtells_lifted (os : Os) (started : os.Started) (H : Type) (enc : TypeId × Value → H) :
    ReturnsInHanded {} Tryz.checked os 4 .any (Rows.mailTellsSpec.pre6 enc Tryz.prog Tryz.f4 Rows.mailTellsRow.domain false) (Rows.mailTellsSpec.post enc Tryz.prog Tryz.f4 false true false false) := by
  refine returnsInHanded_of_change (C := Tryz.checked) own started (by kernel_rfl) Tryz.func4
    (ChangeSpec.witness6 (enc := enc) (C := Tryz.checked) false ⟨#[], #[.agg #[.int .u8 0, .int .i64 0, .int .i64 0, .int .i64 0, .int .i64 0, .int .i64 0, .int .u8 0, .int .i64 0, .int .i64 0, .int .i64 0, .int .i64 0, .slice none 0 0], .agg #[.int .u8 0, .int .i64 0, .int .i64 0, .int .i64 0, .int .i64 0, .int .i64 0, .int .u8 0, .int .i64 0, .int .i64 0, .int .i64 0, .int .i64 0, .slice none 0 0], .slice none 0 0], []⟩ 8 (by kernel_rfl) (by kernel_rfl) (by kernel_rfl) (by kernel_rfl)) ?_
  intro W base args ds gs before hval0 hW _ _
  have hval : ∀ (j : Nat) t v, Tryz.f4.params[j]? = some t → args[j]? = some v → Value.okWide Tryz.prog W .any base t v := hval0
  have hW' := hW
  obtain ⟨p, q, hA0, hV, rfl, _, _⟩ := hW
  have hA : DataW.TrodAll enc Tryz.prog W 0 (fun _ => true) true Tryz.f4.params.toList args.toList ds p := hA0
  rw [Tryz.params4] at hA hval
  obtain ⟨v0, v1, v2, d0, d1, d2, p0, p1, p2, rfl, rfl, rfl, h0, h1, h2⟩ := trodAll_three hA
  obtain ⟨rfl, rfl⟩ := trodVars_none hV
  obtain ⟨a, A, n, c, rfl, hr⟩ := open_mail (hval 0 _ v0 rfl rfl) h0
  obtain ⟨b, B, m, d, rfl, hs⟩ := open_mail (hval 1 _ v1 rfl rfl) h1
  obtain ⟨A2, n2, c2, l, rfl, ht⟩ := open_bytes (hval 2 _ v2 rfl rfl) h2
  refine (mtells_walk a A n c b B m d A2 n2 c2 l W hr hs ht).mono fun e W' ⟨he, hg⟩ => ?_
  subst he
  exact ⟨_, rfl, law_post laidOut (by kernel_rfl) rfl Tryz.underlying4 rfl rfl hW' hg⟩

theorem mtells_holds : Rows.MailTellsSaid :=
  OpenClaim.holds_of_wide 4 Tryz.f4 rfl rfl rfl rfl rfl rfl rfl ⟨rfl, rfl, rfl, rfl, rfl⟩ rfl rfl rfl rfl rfl (by kernel_rfl) Tryz.func4 (by kernel_rfl)
    (of_decide_eq_true (by kernel_rfl)) (by unfold Func.isWrapper; rw [if_neg (of_decide_eq_false (by kernel_rfl))]; exact ⟨rfl, rfl⟩)
    (fun os started H enc _ => mtells_lifted os started H enc)
#print axioms mtells_holds
end Go.Proofs.YtdhfnacdjjdijaaGreat
