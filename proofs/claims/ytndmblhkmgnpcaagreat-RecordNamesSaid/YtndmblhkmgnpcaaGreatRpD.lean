/-
  The program's own Get.
-/
import Derived.Test.YtndmblhkmgnpcaaGreatRpA
import Derived.Test.YtndmblhkmgnpcaaGreatRcL
import Derived.Test.YtndmblhkmgnpcaaGreatRpC
import Derived.Test.YtndmblhkmgnpcaaGreatRcQ
import Derived.Deep.RegionHeld
namespace Go.Proofs.YtndmblhkmgnpcaaGreat
open Go.RowKit
set_option linter.unusedVariables false
set_option linter.unusedSimpArgs false

theorem Rd.other {W W' : World} {g : Nat} (hh : ∀ k, k ≠ g → W'.heap[k]? = W.heap[k]?) {b o c : Nat} {l : List UInt8} (hb : b ≠ g) (h : Rd W (some ⟨b, o, none⟩) c l) : Rd W' (some ⟨b, o, none⟩) c l := by
  refine ⟨h.1, h.2.1, fun hp => ?_⟩
  obtain ⟨b1, o1, e, hc⟩ := h.2.2 hp
  cases e
  exact ⟨b, o, rfl, fun j hj => cell_other hh (p := ⟨b, o + j, none⟩) hb (hc j hj)⟩
/-- What fill leaves in its box. -/
structure Fil (w W : World) (g : Nat) (t : List UInt8) (r : Rec) (A : Option Addr) (k c : Nat) : Prop where
  bx : BoxR W g r A k c
  th : ThereR W g
  rr : Recr r
  len : r.op.row.length = k
  ow : OwnI W (g + 1) 21 A c r.op.row
  one : ∀ r', Recr r' → mayR r' = true → rcb r' <+: t → r' = r
  be : Below g w W
def RetFil (w : World) (g : Nat) (t : List UInt8) (e : Ending) (w' : World) : Prop := e = .returned (.tuple #[]) ∧ ∃ r A k c, Fil w w' g t r A k c
theorem vl_one9 (l : List UInt8) : 0 ≤ (vl (l.take 1) : Int) ∧ (vl (l.take 1) : Int) ≤ 255 := by
  have h := vl_lt (l.take 1)
  have hl : (l.take 1).length ≤ 1 := by simp; omega
  have h2 : 256 ^ (l.take 1).length ≤ 256 ^ 1 := Nat.pow_le_pow_right (by omega) hl
  omega
theorem vl_two9 (l : List UInt8) : 0 ≤ (vl (l.take 2) : Int) ∧ (vl (l.take 2) : Int) ≤ 65535 := by
  have h := vl_lt (l.take 2)
  have hl : (l.take 2).length ≤ 2 := by simp; omega
  have h2 : 256 ^ (l.take 2).length ≤ 256 ^ 2 := Nat.pow_le_pow_right (by omega) hl
  omega

set_option maxRecDepth 100000 in
set_option maxHeartbeats 3200000 in
theorem fill_1 (g b o m c : Nat) (t : List UInt8) (hn : Hid ((t.drop 1).length = m)) (h9 : 118 ≤ m) (w : World) (bx : BoxR w g ⟨1, 0, zO, 0, zG⟩ none 0 0) (th : ThereR w g) (hbg : b ≠ g) (hk0 : (vl (t.take 1) : Int) = 1) (hr : Rd w (some ⟨b, o, none⟩) c (t.drop 1)) :
    Calls Tryz.prog 54 #[.pointer (some ⟨g, 0, none⟩), .slice (some ⟨b, o, none⟩) m c] w (RetFil w g t) := by
  have hc2 : (c : Int) ≤ 9223372036854775807 := by have := hr.cap; omega
  have hc1 : (m : Int) ≤ c := by have := hr.len; have := hn.out; omega
  have hlt := th.lt
  obtain ⟨q, a0, a1, a2, hx⟩ : ∃ q a0 a1 a2, okH ((t.drop 1).take 6) = q ∧ pick q (gL ((t.drop 1).take 6)) = a0 ∧ pick q (gC ((t.drop 1).take 6)) = a1 ∧ pick q (gK ((t.drop 1).take 6)) = a2 := ⟨_, _, _, _, rfl, rfl, rfl, rfl⟩
  obtain ⟨x, hx7⟩ : ∃ x, (vl (((t.drop 1).drop 6).take 1) : Int) = x := ⟨_, rfl⟩
  have hx8 : (vl ((t.drop 7).take 1) : Int) = x := by rw [← hx7, List.drop_drop]
  have hxr : 0 ≤ x ∧ x ≤ 255 := by rw [← hx7]; exact vl_one9 _
  have HHAN := hid (show Han a0 a1 a2 by
    have := han_r q ((t.drop 1).take 6)
    rwa [hx.2.1, hx.2.2.1, hx.2.2.2] at this)
  have HONE := hid (show ∀ r', Recr r' → mayR r' = true → rcb r' <+: t → r' = ⟨1, x, byO a0 a1 a2, 0, zG⟩ from fun r' h1 h2 h3 => by
    have hk : r'.kd = 1 := by rw [← first_of h1 h3, hk0]
    have hq := tells_1 h1 h2 h3 hk
    rw [hx.1] at hq
    rw [← rdRec_of h1 h2 h3, rdRec, if_pos hk0, hx.1, hx.2.1, hx.2.2.1, hx.2.2.2, hx8])
  have HX := hid hx
  have HX7 := hid hx7
  have HL6 := hid (show ((t.drop 1).take 6).length = 6 by rw [List.length_take, hn.out]; omega)
  have HL1 := hid (show (((t.drop 1).drop 6).take 1).length = 1 by rw [List.length_take, List.length_drop, hn.out]; omega)
  have HR6 := hid (hr.take 6)
  have HR7 := hid ((hr.drop 6 (by rw [hn.out]; omega)).take 1)
  have hc6 : ¬ c = 6 := by omega
  have ck : w.cell? ⟨g, 0, none⟩ = some (.int .u8 1) := bx.k
  clear hx hx7 hx8 hk0 hr
  go_enter Tryz.func54, Tryz.ntmps54
  have one : True := trivial
  go_wp2_with (first
    | (go_at_call 77; refine (getHandle_of q a0 a1 a2 _ 6 c ((t.drop 1).take 6) HL6 HX _ HR6.out).mono ?_; rintro e w1 ⟨rfl, b1⟩; have xb1 := bx.keep b1; have tb1 := th.keep b1)
    | (clear one; refine wpList_store_rh rfl (.tmp 21) (.tmp 16) rfl g rfl a0 a1 a2 rfl xb1 tb1 g (Nat.le_refl _) ?_; intro w2 xb2 tb2 b2 h2 z2; have hr2 := Rd.other h2 hbg (HR7.out.keep b1); have cu := xb2.u; have fu := tb2.at_ 1 (by omega))
    | (go_at_call 53; refine (numOf_of x _ 1 (c - 6) (((t.drop 1).drop 6).take 1) HL1 HX7 (by omega) _ hr2).mono ?_; rintro e w3 ⟨rfl, rfl⟩))
  go_end0
  refine ⟨rfl, ⟨1, x, byO a0 a1 a2, 0, zG⟩, none, 0, 0, xb2.setU tb2 x, tb2.setc _ _ _, ⟨(by show (0 : Int) ≤ 1; omega), (by show (1 : Int) ≤ 255; omega), (by unfold In64; dsimp only; omega), opr_by HHAN.out, in64_0, zG_t⟩, rfl, OwnI.nil _ _ _, HONE.out, (b1.mono (by omega)).trans (b2.setCell (p := ⟨g, 1, none⟩) (Nat.le_refl _) _)⟩

set_option maxRecDepth 100000 in
set_option maxHeartbeats 3200000 in
theorem fill_2 (g b o m c : Nat) (t : List UInt8) (hn : Hid ((t.drop 1).length = m)) (h9 : 118 ≤ m) (w : World) (bx : BoxR w g ⟨2, 0, zO, 0, zG⟩ none 0 0) (th : ThereR w g) (hbg : b ≠ g) (hk0 : (vl (t.take 1) : Int) = 2) (hr : Rd w (some ⟨b, o, none⟩) c (t.drop 1)) :
    Calls Tryz.prog 54 #[.pointer (some ⟨g, 0, none⟩), .slice (some ⟨b, o, none⟩) m c] w (RetFil w g t) := by
  have hc2 : (c : Int) ≤ 9223372036854775807 := by have := hr.cap; omega
  have hc1 : (m : Int) ≤ c := by have := hr.len; have := hn.out; omega
  have hlt := th.lt
  obtain ⟨x, hx⟩ : ∃ x, (vl ((t.drop 1).take 2) : Int) = x := ⟨_, rfl⟩
  have hxr : 0 ≤ x ∧ x ≤ 65535 := by rw [← hx]; exact vl_two9 _
  have HONE := hid (show ∀ r', Recr r' → mayR r' = true → rcb r' <+: t → Begins ((t.drop 1).drop 2) r'.op ∧ r' = ⟨2, 0, r'.op, x, zG⟩ from fun r' h1 h2 h3 => by
    have hk : r'.kd = 2 := by rw [← first_of h1 h3, hk0]
    have hq := tells_2 h1 h2 h3 hk
    rw [List.drop_drop]
    refine ⟨hq, ?_⟩
    have e := rdRec_of h1 h2 h3
    rw [rdRec, if_neg (by rw [hk0]; omega), if_pos hk0, hx, rdO_of hq] at e
    exact e.symm)
  have HX := hid hx
  have HL2 := hid (show ((t.drop 1).take 2).length = 2 by rw [List.length_take, hn.out]; omega)
  have HL3 := hid (show ((t.drop 1).drop 2).length = m - 2 by rw [List.length_drop, hn.out])
  have HR2 := hid (hr.take 2)
  have HR3 := hid (hr.drop 2 (by rw [hn.out]; omega))
  have hc6 : ¬ c = 2 := by omega
  have ck : w.cell? ⟨g, 0, none⟩ = some (.int .u8 2) := bx.k
  have cc := bx.co
  have fc := th.at_ 19 (by omega)
  have hwx : IntKind.i64.wrap x = x := by rw [IntKind.wrap_i64]; omega
  have bxc := bx.setCo th x
  have thc := th.setc g 19 (.int .i64 x)
  have hrc : Rd (w.setCell ⟨g, 19, none⟩ (.int .i64 x)) (some ⟨b, o + 2, none⟩) (c - 2) ((t.drop 1).drop 2) := Rd.other (fun k hk => Below.heap_setCell _ _ _ _ hk) hbg HR3.out
  have hbc : Below g w (w.setCell ⟨g, 19, none⟩ (.int .i64 x)) := (Below.refl _ _).setCell (p := ⟨g, 19, none⟩) (Nat.le_refl _) _
  clear hx hk0 hr
  go_enter Tryz.func54, Tryz.ntmps54
  go_wp2_with fail
  refine (numOf_of x _ 2 c ((t.drop 1).take 2) HL2 HX (by omega) _ HR2.out).mono ?_
  rintro e w3 ⟨rfl, rfl⟩
  go_wp2_with fail
  clear cc fc ck
  generalize World.setCell w _ _ = Z at bxc thc hrc hbc ⊢
  refine (oget_of _ (m - 2) (c - 2) ((t.drop 1).drop 2) HL3 _ hrc).mono ?_
  rintro e w4 ⟨O, A1, k1, c1, z, j, rfl, got, hk1, ho, b4⟩
  have bx4 := bxc.keep b4
  have th4 := thc.keep b4
  have hzl := thc.lt
  have HK := hid hk1
  have HG := hid got
  clear bxc thc hk1 got
  go_wp2_with (refine wpList_store_ro rfl (.tmp 48) (.tmp 43) rfl g rfl O A1 k1 c1 rfl bx4 th4 g (Nat.le_refl _) ?_; intro w5 bx5 th5 b5 h5 z5)
  go_end0
  refine ⟨rfl, ⟨2, 0, O, x, zG⟩, A1, k1, c1, bx5, th5, ⟨(by show (0 : Int) ≤ 2; omega), (by show (2 : Int) ≤ 255; omega), in64_0, got_opr HG.out, (by unfold In64; dsimp only; omega), zG_t⟩, HK.out, OwnI.base (by omega) (ho.other h5 (by omega)), fun r' h1 h2 h3 => ?_, (hbc.trans (b4.mono (by omega))).trans b5⟩
  obtain ⟨g1, g2⟩ := HONE.out r' h1 h2 h3
  rw [g2, (got_one HG.out _ g1).2]

set_option maxRecDepth 100000 in
set_option maxHeartbeats 3200000 in
theorem fill_3 (g b o m c : Nat) (t : List UInt8) (hn : Hid ((t.drop 1).length = m)) (h9 : 118 ≤ m) (w : World) (bx : BoxR w g ⟨3, 0, zO, 0, zG⟩ none 0 0) (th : ThereR w g) (hk0 : (vl (t.take 1) : Int) = 3) (hr : Rd w (some ⟨b, o, none⟩) c (t.drop 1)) :
    Calls Tryz.prog 54 #[.pointer (some ⟨g, 0, none⟩), .slice (some ⟨b, o, none⟩) m c] w (RetFil w g t) := by
  have hc2 : (c : Int) ≤ 9223372036854775807 := by have := hr.cap; omega
  have hc1 : (m : Int) ≤ c := by have := hr.len; have := hn.out; omega
  have hlt := th.lt
  obtain ⟨q, u, l0, l1, ok, hx⟩ : ∃ q u l0 l1 ok, okG ((t.drop 1).take 7) = q ∧ pickG q (gg ((t.drop 1).take 7)) = ⟨u, l0, l1, ok⟩ := ⟨_, _, _, _, _, rfl, rfl⟩
  have HGT := hid (show Gr.typed ⟨u, l0, l1, ok⟩ by
    rw [← hx.2]
    cases hq : q
    · exact zG_t
    · have := hx.1
      rw [hq] at this
      exact (gget_put this).2.2.2)
  have HONE := hid (show ∀ r', Recr r' → mayR r' = true → rcb r' <+: t → r' = ⟨3, 0, zO, 0, ⟨u, l0, l1, ok⟩⟩ from fun r' h1 h2 h3 => by
    have hk : r'.kd = 3 := by rw [← first_of h1 h3, hk0]
    have hq := tells_3 h1 h2 h3 hk
    rw [hx.1] at hq
    rw [← rdRec_of h1 h2 h3, rdRec, if_neg (by rw [hk0]; omega), if_neg (by rw [hk0]; omega), if_pos hk0, hx.1, hx.2])
  have HX := hid hx
  have HL7 := hid (show ((t.drop 1).take 7).length = 7 by rw [List.length_take, hn.out]; omega)
  have HR7 := hid (hr.take 7)
  have ck : w.cell? ⟨g, 0, none⟩ = some (.int .u8 3) := bx.k
  clear hx hk0 hr
  go_enter Tryz.func54, Tryz.ntmps54
  go_wp2_with fail
  refine (gget_of q u l0 l1 ok _ 7 c ((t.drop 1).take 7) HL7 HX _ HR7.out).mono ?_
  rintro e w1 ⟨rfl, b1⟩
  have xb1 := bx.keep b1
  have tb1 := th.keep b1
  go_wp2_with (refine wpList_store_rg rfl (.tmp 60) (.tmp 56) rfl g rfl ⟨u, l0, l1, ok⟩ rfl xb1 tb1 g (Nat.le_refl _) ?_; intro w2 xb2 tb2 b2 h2 z2)
  go_end0
  exact ⟨rfl, ⟨3, 0, zO, 0, ⟨u, l0, l1, ok⟩⟩, none, 0, 0, xb2, tb2, ⟨(by show (0 : Int) ≤ 3; omega), (by show (3 : Int) ≤ 255; omega), in64_0, zO_r, in64_0, HGT.out⟩, rfl, OwnI.nil _ _ _, HONE.out, (b1.mono (by omega)).trans b2⟩

set_option maxRecDepth 100000 in
set_option maxHeartbeats 1600000 in
theorem fill_0 (g m c : Nat) (A : Option Addr) (t : List UInt8) (w : World) (x : Int) (hx : 0 ≤ x ∧ x ≤ 255) (n1 : ¬ x = 1) (n2 : ¬ x = 2) (n3 : ¬ x = 3) (bx : BoxR w g ⟨x, 0, zO, 0, zG⟩ none 0 0) (th : ThereR w g) (hk0 : (vl (t.take 1) : Int) = x) :
    Calls Tryz.prog 54 #[.pointer (some ⟨g, 0, none⟩), .slice A m c] w (RetFil w g t) := by
  have ck : w.cell? ⟨g, 0, none⟩ = some (.int .u8 x) := bx.k
  have d1 : (x == 1) = false := by simpa using n1
  have d2 : (x == 2) = false := by simpa using n2
  have d3 : (x == 3) = false := by simpa using n3
  have HONE := hid (show ∀ r', Recr r' → mayR r' = true → rcb r' <+: t → r' = (⟨x, 0, zO, 0, zG⟩ : Rec) from fun r' h1 h2 h3 => by
    have hk : r'.kd = x := by rw [← first_of h1 h3, hk0]
    rcases kind_of h2 with h | h | h <;> omega)
  clear n1 n2 n3 hk0
  go_enter Tryz.func54, Tryz.ntmps54
  go_wp2
  go_end0
  exact ⟨rfl, ⟨x, 0, zO, 0, zG⟩, none, 0, 0, bx, th, ⟨hx.1, hx.2, in64_0, zO_r, in64_0, zG_t⟩, rfl, OwnI.nil _ _ _, HONE.out, Below.refl _ _⟩

theorem fill_of (g b o m c : Nat) (t : List UInt8) (hn : Hid ((t.drop 1).length = m)) (h9 : 118 ≤ m) (w : World) (x : Int) (bx : BoxR w g ⟨x, 0, zO, 0, zG⟩ none 0 0) (th : ThereR w g) (hbg : b ≠ g) (hk0 : (vl (t.take 1) : Int) = x) (hr : Rd w (some ⟨b, o, none⟩) c (t.drop 1)) :
    Calls Tryz.prog 54 #[.pointer (some ⟨g, 0, none⟩), .slice (some ⟨b, o, none⟩) m c] w (RetFil w g t) := by
  by_cases h1 : x = 1
  · subst h1; exact fill_1 g b o m c t hn h9 w bx th hbg hk0 hr
  by_cases h2 : x = 2
  · subst h2; exact fill_2 g b o m c t hn h9 w bx th hbg hk0 hr
  by_cases h3 : x = 3
  · subst h3; exact fill_3 g b o m c t hn h9 w bx th hk0 hr
  · exact fill_0 g m c _ t w x (by rw [← hk0]; exact vl_one9 _) h1 h2 h3 bx th hk0

end Go.Proofs.YtndmblhkmgnpcaaGreat

namespace Go.Proofs.YtndmblhkmgnpcaaGreat
open Go.RowKit
set_option linter.unusedVariables false
set_option linter.unusedSimpArgs false

theorem info_Lg : (Tryz.prog.info? 88).map (·.size) = some 24 := by kernel_rfl
theorem wpList_store_l {ops : Array Oper} {rest : List Oper} {op : Oper} {a : Act} {W : World} {Q : Exit → Act → World → Prop} (hgd : op.guard = none) (x y : Operand) (ho : op.op = .store 88 x y)
    (b : Nat) (hx : a.eval x = .pointer (some ⟨b, 0, none⟩)) (r : Rec) (A : Option Addr) (n c : Nat) (hy : a.eval y = .agg #[.int .u8 r.kd, .int .i64 r.us, .int .u8 r.op.kd, .int .u8 r.op.l, .int .u32 r.op.c, .int .u8 r.op.k, .int .i64 r.op.s, .int .u8 r.op.fl, .int .u32 r.op.fc, .int .u8 r.op.fk, .int .i64 r.op.fn, .int .i64 r.op.fm, .int .u8 r.op.al, .int .u32 r.op.ac, .int .u8 r.op.ak, .int .i64 r.op.an, .int .u8 r.op.tl, .int .u32 r.op.tc, .slice A n c, .int .i64 r.co, .int .i64 r.gr.u, .int .u8 r.gr.l, .int .u32 r.gr.c, .bool r.gr.ok]) (ht : ThereR W b) (base : Nat) (hb : base ≤ b)
    (h : ∀ W', BoxR W' b r A n c → ThereR W' b → Below base W W' → (∀ k, k ≠ b → W'.heap[k]? = W.heap[k]?) → W'.heap.size = W.heap.size → wpList Tryz.prog ops Q rest (a.put op.dst undef) W') : wpList Tryz.prog ops Q (op :: rest) a W := by
  refine wpList_store_mid hgd 88 x y ho b 0 _ hx hy ht info_Lg (by simp [Value.oneCell']) ?_
  exact h _ (World.rangeAt_setCells_same W b 0 _ ht) (World.there_setCells ht b 0 _) (below_setCells b base hb _ _ _) (fun k hk => heap_setCells b _ _ _ k hk) (size_setCells b _ _ _)
/-- The record that bytes would tell. -/
def RetRead (w : World) (t : List UInt8) (e : Ending) (w' : World) : Prop := ∃ r A k c, e = .returned (.agg #[.int .u8 r.kd, .int .i64 r.us, .int .u8 r.op.kd, .int .u8 r.op.l, .int .u32 r.op.c, .int .u8 r.op.k, .int .i64 r.op.s, .int .u8 r.op.fl, .int .u32 r.op.fc, .int .u8 r.op.fk, .int .i64 r.op.fn, .int .i64 r.op.fm, .int .u8 r.op.al, .int .u32 r.op.ac, .int .u8 r.op.ak, .int .i64 r.op.an, .int .u8 r.op.tl, .int .u32 r.op.tc, .slice A k c, .int .i64 r.co, .int .i64 r.gr.u, .int .u8 r.gr.l, .int .u32 r.gr.c, .bool r.gr.ok]) ∧ Recr r ∧ (∀ r', Recr r' → mayR r' = true → rcb r' <+: t → r' = r) ∧ r.op.row.length = k ∧ OwnI w' w.heap.size 21 A c r.op.row ∧ Below w.heap.size w w'
theorem twoK_new (w : World) : TwoR w ((w.alloc (.cells (#[.int .u8 0, .int .i64 0, .int .u8 0, .int .u8 0, .int .u32 0, .int .u8 0, .int .i64 0, .int .u8 0, .int .u32 0, .int .u8 0, .int .i64 0, .int .i64 0, .int .u8 0, .int .u32 0, .int .u8 0, .int .i64 0, .int .u8 0, .int .u32 0, .slice none 0 0, .int .i64 0, .int .i64 0, .int .u8 0, .int .u32 0, .bool false]) 40)).alloc (.cells (#[.int .u8 0, .int .i64 0, .int .u8 0, .int .u8 0, .int .u32 0, .int .u8 0, .int .i64 0, .int .u8 0, .int .u32 0, .int .u8 0, .int .i64 0, .int .i64 0, .int .u8 0, .int .u32 0, .int .u8 0, .int .i64 0, .int .u8 0, .int .u32 0, .slice none 0 0, .int .i64 0, .int .i64 0, .int .u8 0, .int .u32 0, .bool false]) 88)) zR none 0 0 zR none 0 0 := by
  have e1 := size1 w (.cells (#[.int .u8 0, .int .i64 0, .int .u8 0, .int .u8 0, .int .u32 0, .int .u8 0, .int .i64 0, .int .u8 0, .int .u32 0, .int .u8 0, .int .i64 0, .int .i64 0, .int .u8 0, .int .u32 0, .int .u8 0, .int .i64 0, .int .u8 0, .int .u32 0, .slice none 0 0, .int .i64 0, .int .i64 0, .int .u8 0, .int .u32 0, .bool false]) 40)
  have xb : BoxR ((w.alloc (.cells (#[.int .u8 0, .int .i64 0, .int .u8 0, .int .u8 0, .int .u32 0, .int .u8 0, .int .i64 0, .int .u8 0, .int .u32 0, .int .u8 0, .int .i64 0, .int .i64 0, .int .u8 0, .int .u32 0, .int .u8 0, .int .i64 0, .int .u8 0, .int .u32 0, .slice none 0 0, .int .i64 0, .int .i64 0, .int .u8 0, .int .u32 0, .bool false]) 40)).alloc (.cells (#[.int .u8 0, .int .i64 0, .int .u8 0, .int .u8 0, .int .u32 0, .int .u8 0, .int .i64 0, .int .u8 0, .int .u32 0, .int .u8 0, .int .i64 0, .int .i64 0, .int .u8 0, .int .u32 0, .int .u8 0, .int .i64 0, .int .u8 0, .int .u32 0, .slice none 0 0, .int .i64 0, .int .i64 0, .int .u8 0, .int .u32 0, .bool false]) 88)) (w.alloc (.cells (#[.int .u8 0, .int .i64 0, .int .u8 0, .int .u8 0, .int .u32 0, .int .u8 0, .int .i64 0, .int .u8 0, .int .u32 0, .int .u8 0, .int .i64 0, .int .i64 0, .int .u8 0, .int .u32 0, .int .u8 0, .int .i64 0, .int .u8 0, .int .u32 0, .slice none 0 0, .int .i64 0, .int .i64 0, .int .u8 0, .int .u32 0, .bool false]) 40)).heap.size zR none 0 0 := boxR_new (w.alloc (.cells (#[.int .u8 0, .int .i64 0, .int .u8 0, .int .u8 0, .int .u32 0, .int .u8 0, .int .i64 0, .int .u8 0, .int .u32 0, .int .u8 0, .int .i64 0, .int .i64 0, .int .u8 0, .int .u32 0, .int .u8 0, .int .i64 0, .int .u8 0, .int .u32 0, .slice none 0 0, .int .i64 0, .int .i64 0, .int .u8 0, .int .u32 0, .bool false]) 40)) zR none 0 0 88
  have tb := thereR_new (w.alloc (.cells (#[.int .u8 0, .int .i64 0, .int .u8 0, .int .u8 0, .int .u32 0, .int .u8 0, .int .i64 0, .int .u8 0, .int .u32 0, .int .u8 0, .int .i64 0, .int .i64 0, .int .u8 0, .int .u32 0, .int .u8 0, .int .i64 0, .int .u8 0, .int .u32 0, .slice none 0 0, .int .i64 0, .int .i64 0, .int .u8 0, .int .u32 0, .bool false]) 40)) (#[.int .u8 0, .int .i64 0, .int .u8 0, .int .u8 0, .int .u32 0, .int .u8 0, .int .i64 0, .int .u8 0, .int .u32 0, .int .u8 0, .int .i64 0, .int .i64 0, .int .u8 0, .int .u32 0, .int .u8 0, .int .i64 0, .int .u8 0, .int .u32 0, .slice none 0 0, .int .i64 0, .int .i64 0, .int .u8 0, .int .u32 0, .bool false]) rfl 88
  rw [e1] at xb tb
  have xa : BoxR (w.alloc (.cells (#[.int .u8 0, .int .i64 0, .int .u8 0, .int .u8 0, .int .u32 0, .int .u8 0, .int .i64 0, .int .u8 0, .int .u32 0, .int .u8 0, .int .i64 0, .int .i64 0, .int .u8 0, .int .u32 0, .int .u8 0, .int .i64 0, .int .u8 0, .int .u32 0, .slice none 0 0, .int .i64 0, .int .i64 0, .int .u8 0, .int .u32 0, .bool false]) 40)) w.heap.size zR none 0 0 := boxR_new w zR none 0 0 40
  exact ⟨xa.keep (below1 _ _), xb, (thereR_new w _ rfl _).keep (below1 _ _), tb, below2 w _ _, size2 w _ _⟩

set_option maxRecDepth 100000 in
set_option maxHeartbeats 3200000 in
theorem read_rec (A : Option Addr) (n c : Nat) (t : List UInt8) (hn : Hid (t.length = n)) (h9 : 119 ≤ n) (w : World) (hr : Rd w A c t) :
    Calls Tryz.prog 31 #[.slice A n c] w (RetRead w t) := by
  have hc2 : (c : Int) ≤ 9223372036854775807 := by have := hr.cap; omega
  have hc1 : (n : Int) ≤ c := by have := hr.len; have := hn.out; omega
  obtain ⟨b, o, rfl, hcell⟩ := hr.at_ (by have := hn.out; omega)
  obtain ⟨x, hx⟩ : ∃ x, (vl (t.take 1) : Int) = x := ⟨_, rfl⟩
  have y0 : w.cell? ⟨b, o, none⟩ = some (.int .u8 x) := by
    have h0 := hcell 0 (by have := hn.out; omega)
    rw [Nat.add_zero] at h0
    have e : t.take 1 = [t[0]'(by have := hn.out; omega)] := by
      cases t with
      | nil => have := hn.out; simp at this; omega
      | cons a l => rfl
    rw [h0, ← hx, e]
    simp [vl]
  have hbl := World.block_lt_of_cell? _ _ y0
  have HR1 := hid (hr.drop 1 (by have := hn.out; omega))
  have HL1 := hid (show (t.drop 1).length = n - 1 by rw [List.length_drop, hn.out])
  have HX := hid hx
  have hxr : 0 ≤ x ∧ x ≤ 255 := by rw [← hx]; exact vl_one9 _
  have hc0 : ¬ c = 1 := by omega
  have pp := twoK_new w
  have yA : ∀ ob, (w.alloc ob).cell? ⟨b, o, none⟩ = some (.int .u8 x) := fun ob => Go.Proofs.YtndmblhkmgnpcaaGreat.keep (below1 w ob) y0
  clear hcell hr hx
  go_enter Tryz.func31, Tryz.ntmps31
  have one : True := trivial
  go_wp2_with (clear one; generalize World.alloc (World.alloc w _) _ = W0 at pp ⊢; refine wpList_store_l rfl (.tmp 3) (.tmp 8) rfl (w.heap.size + 1) rfl ⟨x, 0, zO, 0, zG⟩ none 0 0 rfl pp.tb w.heap.size (Nat.le_succ _) ?_; intro W xW tW bW hW zW)
  have taW : ThereR W w.heap.size := pp.ta.other hW (by omega)
  have beW : Below w.heap.size w W := pp.be.trans bW
  have hz : W.heap.size = w.heap.size + 2 := zW.trans pp.sz
  clear yA y0 pp hW zW bW
  refine (fill_of (w.heap.size + 1) b (o + 1) (n - 1) (c - 1) t HL1 (by omega) _ x xW tW (by omega) HX.out (HR1.out.keep beW)).mono ?_
  rintro e w1 ⟨rfl, r, A1, k1, c1, F⟩
  have ta : ThereR w1 w.heap.size := fun j hj => by
    have h := taW j hj
    rw [World.cell?_of_block (w := W) (F.be.block w.heap.size (Nat.lt_succ_self _)), World.frozen?_of_block (w := W) (F.be.block w.heap.size (Nat.lt_succ_self _))]
    exact h
  have hb1 : Below w.heap.size w w1 := beW.trans (F.be.mono (Nat.le_succ _))
  have FB := F.bx
  have one : True := trivial
  have two : True := trivial
  go_wp2_with (first
    | (clear one; refine wpList_load_r rfl (.tmp 12) rfl (w.heap.size + 1) rfl FB ?_)
    | (clear two; refine wpList_store_r rfl (.tmp 2) (.tmp 13) rfl w.heap.size rfl r A1 k1 c1 rfl ta w.heap.size (Nat.le_refl _) ?_; intro w2 x2 t2 b2 h2 z2))
  exact bodyPost_ret (results_r rfl rfl x2) rfl ⟨r, A1, k1, c1, rfl, F.rr, F.one, F.len, OwnI.base (by omega) (F.ow.other h2 (by omega)), hb1.trans b2⟩
end Go.Proofs.YtndmblhkmgnpcaaGreat

namespace Go.Proofs.YtndmblhkmgnpcaaGreat
open Go.RowKit
set_option linter.unusedVariables false
set_option linter.unusedSimpArgs false

/-- The two boxes of the results, filled. -/
structure GB (w W : World) (r : Rec) (A : Option Addr) (k c : Nat) (s t i f : Int) : Prop where
  bx : BoxR W w.heap.size r A k c
  bd : BoxD W (w.heap.size + 1) s t i f
  tr : ThereR W w.heap.size
  td : ThereD W (w.heap.size + 1)
  ow : OwnI W (w.heap.size + 2) 21 A c r.op.row
  be : Below w.heap.size w W
theorem GB.keep {w W W' : World} {r : Rec} {A : Option Addr} {k c : Nat} {s t i f : Int} (h : GB w W r A k c s t i f) (hb : Below W.heap.size W W') : GB w W' r A k c s t i f :=
  ⟨h.bx.keep hb, h.bd.keep hb, h.tr.keep hb, h.td.keep hb, h.ow.keep hb, below_in h.be hb⟩
set_option maxRecDepth 100000 in
theorem GB.putR {w W : World} {r : Rec} {A : Option Addr} {k c : Nat} {s t i f : Int} (h : GB w W r A k c s t i f) : GB w (World.setCells W w.heap.size 0 ([.int .u8 r.kd, .int .i64 r.us, .int .u8 r.op.kd, .int .u8 r.op.l, .int .u32 r.op.c, .int .u8 r.op.k, .int .i64 r.op.s, .int .u8 r.op.fl, .int .u32 r.op.fc, .int .u8 r.op.fk, .int .i64 r.op.fn, .int .i64 r.op.fm, .int .u8 r.op.al, .int .u32 r.op.ac, .int .u8 r.op.ak, .int .i64 r.op.an, .int .u8 r.op.tl, .int .u32 r.op.tc, .slice A k c, .int .i64 r.co, .int .i64 r.gr.u, .int .u8 r.gr.l, .int .u32 r.gr.c, .bool r.gr.ok])) r A k c s t i f := by
  have e1 : BoxR (World.setCells W w.heap.size 0 ([.int .u8 r.kd, .int .i64 r.us, .int .u8 r.op.kd, .int .u8 r.op.l, .int .u32 r.op.c, .int .u8 r.op.k, .int .i64 r.op.s, .int .u8 r.op.fl, .int .u32 r.op.fc, .int .u8 r.op.fk, .int .i64 r.op.fn, .int .i64 r.op.fm, .int .u8 r.op.al, .int .u32 r.op.ac, .int .u8 r.op.ak, .int .i64 r.op.an, .int .u8 r.op.tl, .int .u32 r.op.tc, .slice A k c, .int .i64 r.co, .int .i64 r.gr.u, .int .u8 r.gr.l, .int .u32 r.gr.c, .bool r.gr.ok])) w.heap.size r A k c := World.rangeAt_setCells_same W w.heap.size 0 _ h.tr
  have hh : ∀ k', k' ≠ w.heap.size → (World.setCells W w.heap.size 0 ([.int .u8 r.kd, .int .i64 r.us, .int .u8 r.op.kd, .int .u8 r.op.l, .int .u32 r.op.c, .int .u8 r.op.k, .int .i64 r.op.s, .int .u8 r.op.fl, .int .u32 r.op.fc, .int .u8 r.op.fk, .int .i64 r.op.fn, .int .i64 r.op.fm, .int .u8 r.op.al, .int .u32 r.op.ac, .int .u8 r.op.ak, .int .i64 r.op.an, .int .u8 r.op.tl, .int .u32 r.op.tc, .slice A k c, .int .i64 r.co, .int .i64 r.gr.u, .int .u8 r.gr.l, .int .u32 r.gr.c, .bool r.gr.ok])).heap[k']? = W.heap[k']? := fun k' hk => heap_setCells w.heap.size _ 0 W k' hk
  have e3 : Below w.heap.size W (World.setCells W w.heap.size 0 ([.int .u8 r.kd, .int .i64 r.us, .int .u8 r.op.kd, .int .u8 r.op.l, .int .u32 r.op.c, .int .u8 r.op.k, .int .i64 r.op.s, .int .u8 r.op.fl, .int .u32 r.op.fc, .int .u8 r.op.fk, .int .i64 r.op.fn, .int .i64 r.op.fm, .int .u8 r.op.al, .int .u32 r.op.ac, .int .u8 r.op.ak, .int .i64 r.op.an, .int .u8 r.op.tl, .int .u32 r.op.tc, .slice A k c, .int .i64 r.co, .int .i64 r.gr.u, .int .u8 r.gr.l, .int .u32 r.gr.c, .bool r.gr.ok])) := below_setCells w.heap.size w.heap.size (Nat.le_refl _) _ _ _
  have e4 : ThereR (World.setCells W w.heap.size 0 ([.int .u8 r.kd, .int .i64 r.us, .int .u8 r.op.kd, .int .u8 r.op.l, .int .u32 r.op.c, .int .u8 r.op.k, .int .i64 r.op.s, .int .u8 r.op.fl, .int .u32 r.op.fc, .int .u8 r.op.fk, .int .i64 r.op.fn, .int .i64 r.op.fm, .int .u8 r.op.al, .int .u32 r.op.ac, .int .u8 r.op.ak, .int .i64 r.op.an, .int .u8 r.op.tl, .int .u32 r.op.tc, .slice A k c, .int .i64 r.co, .int .i64 r.gr.u, .int .u8 r.gr.l, .int .u32 r.gr.c, .bool r.gr.ok])) w.heap.size := h.tr.sets _ _ _
  generalize World.setCells W w.heap.size 0 _ = V at e1 hh e3 e4 ⊢
  exact ⟨e1, h.bd.other hh (by omega), e4, there_other h.td hh (by omega), h.ow.other hh (by omega), h.be.trans e3⟩
set_option maxRecDepth 100000 in
theorem GB.putD {w W : World} {r : Rec} {A : Option Addr} {k c : Nat} {s t i f : Int} (h : GB w W r A k c s t i f) : GB w (World.setCells W (w.heap.size + 1) 0 ([.int .i64 s, .int .i64 t, .int .i64 i, .int .i64 f])) r A k c s t i f := by
  have e1 : BoxD (World.setCells W (w.heap.size + 1) 0 ([.int .i64 s, .int .i64 t, .int .i64 i, .int .i64 f])) (w.heap.size + 1) s t i f := World.rangeAt_setCells_same W (w.heap.size + 1) 0 _ h.td
  have hh : ∀ k', k' ≠ w.heap.size + 1 → (World.setCells W (w.heap.size + 1) 0 ([.int .i64 s, .int .i64 t, .int .i64 i, .int .i64 f])).heap[k']? = W.heap[k']? := fun k' hk => heap_setCells (w.heap.size + 1) _ 0 W k' hk
  have e3 : Below w.heap.size W (World.setCells W (w.heap.size + 1) 0 ([.int .i64 s, .int .i64 t, .int .i64 i, .int .i64 f])) := below_setCells (w.heap.size + 1) w.heap.size (Nat.le_succ _) _ _ _
  have e4 : ThereD (World.setCells W (w.heap.size + 1) 0 ([.int .i64 s, .int .i64 t, .int .i64 i, .int .i64 f])) (w.heap.size + 1) := World.there_setCells h.td _ 0 _
  generalize World.setCells W (w.heap.size + 1) 0 _ = V at e1 hh e3 e4 ⊢
  exact ⟨h.bx.other hh (by omega), e1, h.tr.other hh (by omega), e4, h.ow.other hh (by omega), h.be.trans e3⟩

set_option maxRecDepth 100000 in
set_option maxHeartbeats 3200000 in
theorem rec_get_bad (A : Option Addr) (n c : Nat) (L : List (List UInt8)) (hn : Hid (L.length = n)) (h5 : n ≤ 500) (hbad : n < 1 ∨ 4 < n ∨ fitB L = false) (w : World) (hr : RdB w A c L) :
    Calls Tryz.prog 7 #[.slice A n c] w (RetGR w L) := by
  have hc2 : (c : Int) ≤ 9223372036854775807 := by have := hr.cap; omega
  have hc1 : (n : Int) ≤ c := by have := hr.len; have := hn.out; omega
  have HN := hid (show ∀ r' s' n', ¬ Ris L r' s' n' from fun r' s' n' h => by
    have hp := h.pos
    rw [hn.out] at hp
    rcases hbad with h1 | h1 | h1
    · omega
    · omega
    · have h2 : fitB L = true := fitB_yes fun i hi => by
        obtain ⟨_, _, _, rfl⟩ := h
        exact blks_cap s' n' _ _ (List.getElem_mem hi)
      rw [h2] at h1; cases h1)
  have rs := rs_new w 40 42
  have HR := hid hr
  clear hr
  by_cases h1 : n < 1
  · have d1 : decide ((n : Int) < 1) = true := by simpa using (show (n : Int) < 1 by omega)
    clear hbad h1
    go_enter Tryz.func7, Tryz.ntmps7
    have one : True := trivial
    go_wp2_with (first
      | (clear one; (with_reducible refine at_store 40 (.tmp 2) (.tmp 18) ?_); refine wpList_store_r rfl (.tmp 2) (.tmp 18) rfl w.heap.size rfl zR none 0 0 rfl rs.tr w.heap.size (Nat.le_refl _) ?_; intro v5 bv5 tv5 bb5 hv5 zv5; have td5 : ThereD v5 (w.heap.size + 1) := there_other rs.td hv5 (by omega))
      | ((with_reducible refine at_store 42 (.tmp 3) (.tmp 19) ?_); refine wpList_store_d rfl (.tmp 3) (.tmp 19) rfl (w.heap.size + 1) rfl 0 0 0 0 rfl td5 w.heap.size (Nat.le_succ _) ?_; intro v6 bv6 tv6 bb6 hv6 zv6))
    exact bodyPost_ret (results_r3 rfl rfl rfl (bv5.other hv6 (by omega)) bv6) rfl ⟨zR, none, 0, 0, 0, 0, 0, 0, 8, rfl, .inr ⟨HN.out, rfl, rfl, rfl, rfl, rfl, rfl⟩, rfl, OwnI.nil _ _ _, (rs.be.trans bb5).trans bb6⟩
  have d1 : decide ((n : Int) < 1) = false := by simpa using (show ¬ (n : Int) < 1 by omega)
  by_cases h4 : 4 < n
  · have d2 : decide (4 < (n : Int)) = true := by simpa using (show 4 < (n : Int) by omega)
    clear hbad h1 h4
    go_enter Tryz.func7, Tryz.ntmps7
    have one : True := trivial
    go_wp2_with (first
      | (clear one; (with_reducible refine at_store 40 (.tmp 2) (.tmp 18) ?_); refine wpList_store_r rfl (.tmp 2) (.tmp 18) rfl w.heap.size rfl zR none 0 0 rfl rs.tr w.heap.size (Nat.le_refl _) ?_; intro v5 bv5 tv5 bb5 hv5 zv5; have td5 : ThereD v5 (w.heap.size + 1) := there_other rs.td hv5 (by omega))
      | ((with_reducible refine at_store 42 (.tmp 3) (.tmp 19) ?_); refine wpList_store_d rfl (.tmp 3) (.tmp 19) rfl (w.heap.size + 1) rfl 0 0 0 0 rfl td5 w.heap.size (Nat.le_succ _) ?_; intro v6 bv6 tv6 bb6 hv6 zv6))
    exact bodyPost_ret (results_r3 rfl rfl rfl (bv5.other hv6 (by omega)) bv6) rfl ⟨zR, none, 0, 0, 0, 0, 0, 0, 8, rfl, .inr ⟨HN.out, rfl, rfl, rfl, rfl, rfl, rfl⟩, rfl, OwnI.nil _ _ _, (rs.be.trans bb5).trans bb6⟩
  · have d2 : decide (4 < (n : Int)) = false := by simpa using (show ¬ 4 < (n : Int) by omega)
    have HF := hid (show fitB L = false by rcases hbad with h | h | h <;> first | omega | exact h)
    clear hbad h1 h4
    go_enter Tryz.func7, Tryz.ntmps7
    go_wp2_with fail
    refine (containsB_of false L A n c hn HF _ (HR.out.keep rs.be)).mono ?_
    rintro e w1 ⟨rfl, rfl⟩
    have one : True := trivial
    go_wp2_with (first
      | (clear one; (with_reducible refine at_store 40 (.tmp 2) (.tmp 18) ?_); refine wpList_store_r rfl (.tmp 2) (.tmp 18) rfl w.heap.size rfl zR none 0 0 rfl rs.tr w.heap.size (Nat.le_refl _) ?_; intro v5 bv5 tv5 bb5 hv5 zv5; have td5 : ThereD v5 (w.heap.size + 1) := there_other rs.td hv5 (by omega))
      | ((with_reducible refine at_store 42 (.tmp 3) (.tmp 19) ?_); refine wpList_store_d rfl (.tmp 3) (.tmp 19) rfl (w.heap.size + 1) rfl 0 0 0 0 rfl td5 w.heap.size (Nat.le_succ _) ?_; intro v6 bv6 tv6 bb6 hv6 zv6))
    exact bodyPost_ret (results_r3 rfl rfl rfl (bv5.other hv6 (by omega)) bv6) rfl ⟨zR, none, 0, 0, 0, 0, 0, 0, 8, rfl, .inr ⟨HN.out, rfl, rfl, rfl, rfl, rfl, rfl⟩, rfl, OwnI.nil _ _ _, (rs.be.trans bb5).trans bb6⟩

set_option maxRecDepth 100000 in
set_option maxHeartbeats 6400000 in
theorem rec_get_good (A : Option Addr) (n c : Nat) (L : List (List UInt8)) (hn : Hid (L.length = n)) (h1 : 1 ≤ n) (h4 : n ≤ 4) (hf : fitB L = true) (w : World) (hr : RdB w A c L) :
    Calls Tryz.prog 7 #[.slice A n c] w (RetGR w L) := by
  have hc2 : (c : Int) ≤ 9223372036854775807 := by have := hr.cap; omega
  have hc1 : (n : Int) ≤ c := by have := hr.len; have := hn.out; omega
  have hall := fitB_at hf
  have HALL := hid hall
  have HF := hid hf
  have rs := rs_new w 40 42
  have HR := hid hr
  have hpos : 0 < L.length := by rw [hn.out]; omega
  have d1 : decide ((n : Int) < 1) = false := by simpa using (show ¬ (n : Int) < 1 by omega)
  have d2 : decide (4 < (n : Int)) = false := by simpa using (show ¬ 4 < (n : Int) by omega)
  have hlt0 : (0 : Int) < (n : Int) := by omega
  obtain ⟨b, o, rfl, hcell⟩ := (HR.out.keep rs.be).at_ hpos
  obtain ⟨B, d, hc0, hB⟩ := hcell 0 hpos
  rw [hall 0 hpos, Nat.add_zero] at hc0
  obtain ⟨l0, hl0⟩ : ∃ l, L[0] = l := ⟨_, rfl⟩
  have HL0 := hid (show l0.length = 128 by rw [← hl0]; exact hall 0 hpos)
  rw [hl0] at hB
  obtain ⟨x0, x1, x2, x3, hx⟩ : ∃ x0 x1 x2 x3, hS l0 = x0 ∧ hN l0 = x1 ∧ hI l0 = x2 ∧ hF l0 = x3 := ⟨_, _, _, _, rfl, rfl, rfl, rfl⟩
  have HHD := hid (show ∀ r' s' n', Ris L r' s' n' → x0 = s' ∧ x1 = n' ∧ x2 = 0 ∧ x3 = L.length from fun r' s' n' h => by
    have hh := h.head hpos
    rw [hl0, hx.1, hx.2.1, hx.2.2.1, hx.2.2.2] at hh
    exact ⟨hh.2.1, hh.2.2.1, hh.2.2.2.1, by rw [hh.2.2.2.2, ← h.eq, blks_length]⟩)
  have HX := hid hx
  have HB := hid hB
  have HT119 := hid (show 119 ≤ (textOf L).length by rw [textOf_le L hall]; omega)
  clear hcell hB hall hx hl0 hpos hr hf h1
  go_enter Tryz.func7, Tryz.ntmps7
  go_wp2_with fail
  generalize World.alloc (World.alloc w _) _ = W at rs hc0 HB ⊢
  refine (containsB_of true L _ n c hn HF _ (HR.out.keep rs.be)).mono ?_
  rintro e w1 ⟨rfl, rfl⟩
  go_wp2_with fail
  refine (headOf_of x0 x1 x2 x3 B d l0 HL0 HX _ HB.out).mono ?_
  rintro e w2 ⟨rfl, b2⟩
  replace rs := rs.keep b2
  clear b2 hc0 HB
  have one : True := trivial
  go_wp2_with (clear one; (with_reducible refine at_store 42 (.tmp 3) (.tmp 23) ?_); refine wpList_store_d rfl (.tmp 3) (.tmp 23) rfl (w.heap.size + 1) rfl x0 x1 x2 x3 rfl rs.td w.heap.size (Nat.le_succ _) ?_; intro w3 bd3 td3 b3 h3 z3)
  have tr3 : ThereR w3 w.heap.size := rs.tr.other h3 (by omega)
  have be3 := rs.be.trans b3
  have hlt3 : w.heap.size + 1 < w3.heap.size := td3.lt
  clear rs h3 b3 z3
  refine (joined_of L _ n c hn (by omega) HALL _ (HR.out.keep be3)).mono ?_
  rintro e w4 ⟨m, A4, c4, rfl, hm4, ho4, b4⟩
  have hm119 : 119 ≤ m := by have := HT119.out; have := hm4.out; omega
  have hr4 := hid ho4.rd
  have hz4 := b4.size
  have bd4 := bd3.keep b4
  have td4 := td3.keep b4
  have tr4 := tr3.keep b4
  have be4 := below_in be3 b4
  clear bd3 td3 tr3 be3 b4 ho4
  go_wp2_with fail
  refine (read_rec A4 m c4 (textOf L) hm4 hm119 _ hr4.out).mono ?_
  rintro e w5 ⟨r, A5, k5, c5, rfl, hrr, hone, hk5, ho5, b5⟩
  have bd5 := bd4.keep b5
  have td5 := td4.keep b5
  have tr5 := tr4.keep b5
  have be5 := below_in be4 b5
  have HK := hid hk5
  have HONE := hid hone
  clear bd4 td4 tr4 be4 b5 hr4 hk5 hone
  have one : True := trivial
  have two : True := trivial
  have hzz : w.heap.size + 2 ≤ w4.heap.size := by omega
  obtain ⟨LP, kp, j, hL⟩ : ∃ LP kp j, putL r x0 x1 = LP ∧ LP.length = kp ∧ putE r x0 x1 = j := ⟨_, _, _, rfl, rfl, rfl⟩
  have HL := hid hL
  have HKP := hid hL.2.1
  go_wp2_with (first
    | (clear one; (with_reducible refine at_store 40 (.tmp 2) (.tmp 26) ?_); refine wpList_store_r rfl (.tmp 2) (.tmp 26) rfl w.heap.size rfl r A5 k5 c5 rfl tr5 w.heap.size (Nat.le_refl _) ?_; intro w6 bx6 tr6 b6 h6 z6; have G : GB w w6 r A5 k5 c5 x0 x1 x2 x3 := ⟨bx6, bd5.other h6 (by omega), tr6, there_other td5 h6 (by omega), (ho5.other h6 (by omega)).base hzz, be5.trans b6⟩; have gs := G.bd.s; have gn := G.bd.n)
    | (clear two; refine wpList_load_r rfl (.tmp 2) rfl w.heap.size rfl G.bx ?_))
  clear bx6 tr6 b6 h6 z6 tr5 td5 bd5 be5 ho5
  refine (rec_put_of LP kp j r A5 k5 c5 HK hrr x0 x1 HL _ G.ow.ri).mono ?_
  rintro e w7 ⟨A7, c7, rfl, ho7, b7⟩
  replace G := G.keep b7
  clear b7 gs gn
  have hr7 := hid ho7.rd
  clear ho7
  by_cases hj : j = 0
  · subst hj
    obtain ⟨v, hv⟩ : ∃ v, (LP == L) = v := ⟨_, rfl⟩
    have HV := hid hv
    clear hv hL
    go_wp2_with fail
    refine (equalB_of v LP A7 kp c7 HKP L _ n c hn HV _ hr7.out (HR.out.keep G.be)).mono ?_
    rintro e w8 ⟨rfl, rfl⟩
    cases v
    · have HN := hid (show ∀ r' s' n', ¬ Ris L r' s' n' from fun r' s' n' h => by
        obtain ⟨e1, e2, _⟩ := HHD.out r' s' n' h
        have e3 := HONE.out r' h.rr h.may h.pre
        have e4 := (ris_put h).2
        rw [← e1, ← e2, e3, HL.out.1] at e4
        have := HV.out
        rw [e4] at this
        simp at this)
      have rs : Rs w w7 := ⟨G.tr, G.td, G.be⟩
      clear HHD HONE HV HL hr7 G
      have one : True := trivial
      go_wp2_with (first
        | (clear one; (with_reducible refine at_store 40 (.tmp 2) (.tmp 44) ?_); refine wpList_store_r rfl (.tmp 2) (.tmp 44) rfl w.heap.size rfl zR none 0 0 rfl rs.tr w.heap.size (Nat.le_refl _) ?_; intro v5 bv5 tv5 bb5 hv5 zv5; have td5 : ThereD v5 (w.heap.size + 1) := there_other rs.td hv5 (by omega))
        | ((with_reducible refine at_store 42 (.tmp 3) (.tmp 45) ?_); refine wpList_store_d rfl (.tmp 3) (.tmp 45) rfl (w.heap.size + 1) rfl 0 0 0 0 rfl td5 w.heap.size (Nat.le_succ _) ?_; intro v6 bv6 tv6 bb6 hv6 zv6))
      exact bodyPost_ret (results_r3 rfl rfl rfl (bv5.other hv6 (by omega)) bv6) rfl ⟨zR, none, 0, 0, 0, 0, 0, 0, 8, rfl, .inr ⟨HN.out, rfl, rfl, rfl, rfl, rfl, rfl⟩, rfl, OwnI.nil _ _ _, (rs.be.trans bb5).trans bb6⟩
    · have HRIS := hid (show Ris L r x0 x1 by
        have h := put_ris hrr HL.out.2.2
        rw [HL.out.1, eq_of_beq HV.out] at h
        exact h)
      have HG := hid (show GotR L r x0 x1 x2 x3 0 from .inl ⟨HRIS.out, (HHD.out _ _ _ HRIS.out).2.2.1, (HHD.out _ _ _ HRIS.out).2.2.2, rfl⟩)
      clear HHD HONE HV HL hr7 HRIS
      go_wp2_with fail
      refine wp_region_held_drew (S := fun w' => BoxR w' w.heap.size r A5 k5 c5 ∧ BoxD w' (w.heap.size + 1) x0 x1 x2 x3) (by kernel_rfl) ⟨G.bx.keep (Below.refl _ _).drew, G.bd.keep (Below.refl _ _).drew⟩ (fun hHeld => ?_)
      replace G := G.keep (Below.refl _ _).drew
      generalize w7.drew = V at *
      refine wpAnyH_take (i := 0) (oi := { dst := some 46, op := Op.load 40 (Operand.tmp 2), type := 40, pos := "record.go:90", after := #[], guard := none }) rfl (by kernel_rfl) (by kernel_rfl) (by kernel_rfl) (fun _ _ _ h => h) (yields_load_r (by rfl) (.tmp 2) rfl w.heap.size rfl (fun w9 h => h.1)) hHeld ?_
      (try simp only [Act.put, List.setIfInBounds_toArray, List.set_cons_zero, List.set_cons_succ])
      refine wpAnyH_take (i := 1) (oi := { dst := some 47, op := Op.load 42 (Operand.tmp 3), type := 42, pos := "record.go:90", after := #[{ on := 2, ground := Ground.gcOnly Departure.lateStores }], guard := none }) rfl (by kernel_rfl) (by kernel_rfl) (by kernel_rfl) (fun _ _ _ h => h) (quietD (by rfl) (.tmp 3) rfl rfl (fun w9 h => h.2)) hHeld ?_
      (try simp only [Act.put, List.setIfInBounds_toArray, List.set_cons_zero, List.set_cons_succ])
      refine wpAnyH_ready (rs := [2]) (by kernel_rfl) (by simp) ?_
      refine AllReadyH.cons rfl (fun K hK => ?_) AllReadyH.nil
      rw [if_pos (by rfl)]
      refine wp_store_mid 40 (.tmp 2) (.tmp 46) rfl w.heap.size 0 (#[.int .u8 r.kd, .int .i64 r.us, .int .u8 r.op.kd, .int .u8 r.op.l, .int .u32 r.op.c, .int .u8 r.op.k, .int .i64 r.op.s, .int .u8 r.op.fl, .int .u32 r.op.fc, .int .u8 r.op.fk, .int .i64 r.op.fn, .int .i64 r.op.fm, .int .u8 r.op.al, .int .u32 r.op.ac, .int .u8 r.op.ak, .int .i64 r.op.an, .int .u8 r.op.tl, .int .u32 r.op.tc, .slice A5 k5 c5, .int .i64 r.co, .int .i64 r.gr.u, .int .u8 r.gr.l, .int .u32 r.gr.c, .bool r.gr.ok]) rfl rfl G.tr info_R (by simp [Value.oneCell']) ?_
      (try simp only [Act.put, List.setIfInBounds_toArray, List.set_cons_zero, List.set_cons_succ])
      have G2 := G.putR
      generalize World.setCells _ w.heap.size 0 _ = V2 at G2 ⊢
      refine hK.out _ _ ⟨G2.bx, G2.bd⟩ (fun hHeld => ?_)
      clear hK K G
      refine wpAnyH_ready (rs := [3]) (by kernel_rfl) (by simp) ?_
      refine AllReadyH.cons rfl (fun K hK => ?_) AllReadyH.nil
      rw [if_pos (by rfl)]
      refine wp_store_mid 42 (.tmp 3) (.tmp 47) rfl (w.heap.size + 1) 0 (#[.int .i64 x0, .int .i64 x1, .int .i64 x2, .int .i64 x3]) rfl rfl G2.td info_D (by simp [Value.oneCell']) ?_
      (try simp only [Act.put, List.setIfInBounds_toArray, List.set_cons_zero, List.set_cons_succ])
      have G3 := G2.putD
      generalize World.setCells _ (w.heap.size + 1) 0 _ = V3 at G3 ⊢
      refine hK.out _ _ ⟨G3.bx, G3.bd⟩ (fun hHeld => ?_)
      clear hK K G2
      refine wpAnyH_take (i := 4) (oi := { dst := some 4, op := Op.assign (Operand.const (Value.int IntKind.i64 0)), type := 34, pos := "record.go:90", after := #[{ on := 3, ground := Ground.chain }, { on := 0, ground := Ground.phase }, { on := 1, ground := Ground.phase }, { on := 2, ground := Ground.phase }, { on := 3, ground := Ground.phase }], guard := none }) (v := ?_) rfl (by kernel_rfl) (by kernel_rfl) (by kernel_rfl) (fun _ _ _ h => h) (Or.inl ⟨by rfl, ?_⟩) hHeld ?_
      rotate_left
      · intro w9 hSw
        (try dsimp only at hSw)
        go_simp <;> with_reducible rfl
      (try simp only [Act.put, List.setIfInBounds_toArray, List.set_cons_zero, List.set_cons_succ])
      refine wpAnyH_done (by kernel_rfl) ?_ _
      clear hHeld
      go_wp2_with fail
      exact bodyPost_ret (results_r3 rfl rfl rfl G3.bx G3.bd) rfl ⟨r, A5, k5, c5, x0, x1, x2, x3, 0, rfl, HG.out, HK.out, G3.ow.base (by omega), G3.be⟩
  · have hj' : (j != 0) = true := by simpa using hj
    have HN := hid (show ∀ r' s' n', ¬ Ris L r' s' n' from fun r' s' n' h => by
      obtain ⟨e1, e2, _⟩ := HHD.out r' s' n' h
      have e3 := HONE.out r' h.rr h.may h.pre
      have e4 := (ris_put h).1
      rw [← e1, ← e2, e3, HL.out.2.2] at e4
      exact hj e4)
    have rs : Rs w w7 := ⟨G.tr, G.td, G.be⟩
    clear HHD HONE HL hr7 G hj hL
    have one : True := trivial
    go_wp2_with (first
      | (clear one; (with_reducible refine at_store 40 (.tmp 2) (.tmp 44) ?_); refine wpList_store_r rfl (.tmp 2) (.tmp 44) rfl w.heap.size rfl zR none 0 0 rfl rs.tr w.heap.size (Nat.le_refl _) ?_; intro v5 bv5 tv5 bb5 hv5 zv5; have td5 : ThereD v5 (w.heap.size + 1) := there_other rs.td hv5 (by omega))
      | ((with_reducible refine at_store 42 (.tmp 3) (.tmp 45) ?_); refine wpList_store_d rfl (.tmp 3) (.tmp 45) rfl (w.heap.size + 1) rfl 0 0 0 0 rfl td5 w.heap.size (Nat.le_succ _) ?_; intro v6 bv6 tv6 bb6 hv6 zv6))
    exact bodyPost_ret (results_r3 rfl rfl rfl (bv5.other hv6 (by omega)) bv6) rfl ⟨zR, none, 0, 0, 0, 0, 0, 0, 8, rfl, .inr ⟨HN.out, rfl, rfl, rfl, rfl, rfl, rfl⟩, rfl, OwnI.nil _ _ _, (rs.be.trans bb5).trans bb6⟩

theorem rec_get_of (A : Option Addr) (n c : Nat) (L : List (List UInt8)) (hn : Hid (L.length = n)) (h5 : n ≤ 500) (w : World) (hr : RdB w A c L) :
    Calls Tryz.prog 7 #[.slice A n c] w (RetGR w L) := by
  by_cases h1 : n < 1
  · exact rec_get_bad A n c L hn h5 (.inl h1) w hr
  by_cases h4 : 4 < n
  · exact rec_get_bad A n c L hn h5 (.inr (.inl h4)) w hr
  cases hf : fitB L
  · exact rec_get_bad A n c L hn h5 (.inr (.inr hf)) w hr
  · exact rec_get_good A n c L hn (by omega) (by omega) hf w hr
end Go.Proofs.YtndmblhkmgnpcaaGreat
