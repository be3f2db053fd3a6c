/-
  RecordNames: kinds, limits and errors have their numbers, and the chapter's examples are so: how many blocks, which records may not be, which starts and heads may not.
  Conditions: none (it has no parameters).
-/
import Derived.Test.YtndmblhkmgnpcaaGreatRlB
import Derived.Test.YtndmblhkmgnpcaaGreatRcQ
import Derived.Test.YtndmblhkmgnpcaaGreatRcO
import Derived.Test.YtndmblhkmgnpcaaGreatLaw
namespace Go.Proofs.YtndmblhkmgnpcaaGreat
open Go.ChangeShapes Go.WideShapes Go.ChangeAt Go.RowKit Go.Joins
set_option linter.unusedVariables false
set_option linter.unusedSimpArgs false

theorem BoxR.okd9 {W : World} {b : Nat} {r : Rec} {A : Option Addr} {n c : Nat} (h : BoxR W b r A n c) : W.cell? ⟨b, 2, none⟩ = some (.int .u8 r.op.kd) := h 2 _ rfl
theorem BoxR.setOK {W : World} {b : Nat} {r : Rec} {A : Option Addr} {n c : Nat} (h : BoxR W b r A n c) (ht : ThereR W b) (x : Int) : BoxR (W.setCell ⟨b, 2, none⟩ (.int .u8 x)) b { r with op := { r.op with kd := x } } A n c :=
  range_set (([.int .u8 r.kd, .int .i64 r.us, .int .u8 r.op.kd, .int .u8 r.op.l, .int .u32 r.op.c, .int .u8 r.op.k, .int .i64 r.op.s, .int .u8 r.op.fl, .int .u32 r.op.fc, .int .u8 r.op.fk, .int .i64 r.op.fn, .int .i64 r.op.fm, .int .u8 r.op.al, .int .u32 r.op.ac, .int .u8 r.op.ak, .int .i64 r.op.an, .int .u8 r.op.tl, .int .u32 r.op.tc, .slice A n c, .int .i64 r.co, .int .i64 r.gr.u, .int .u8 r.gr.l, .int .u32 r.gr.c, .bool r.gr.ok] : List Value).take 2) [.int .u8 r.op.kd] (([.int .u8 r.kd, .int .i64 r.us, .int .u8 r.op.kd, .int .u8 r.op.l, .int .u32 r.op.c, .int .u8 r.op.k, .int .i64 r.op.s, .int .u8 r.op.fl, .int .u32 r.op.fc, .int .u8 r.op.fk, .int .i64 r.op.fn, .int .i64 r.op.fm, .int .u8 r.op.al, .int .u32 r.op.ac, .int .u8 r.op.ak, .int .i64 r.op.an, .int .u8 r.op.tl, .int .u32 r.op.tc, .slice A n c, .int .i64 r.co, .int .i64 r.gr.u, .int .u8 r.gr.l, .int .u32 r.gr.c, .bool r.gr.ok] : List Value).drop 3) [.int .u8 x] h (there_part ht 2 1 (by omega)) rfl
theorem BoxR.setSl {W : World} {b : Nat} {r : Rec} {A : Option Addr} {n c : Nat} (h : BoxR W b r A n c) (ht : ThereR W b) (l : List Int) (A' : Option Addr) (n' c' : Nat) : BoxR (W.setCell ⟨b, 18, none⟩ (.slice A' n' c')) b { r with op := { r.op with row := l } } A' n' c' :=
  range_set (([.int .u8 r.kd, .int .i64 r.us, .int .u8 r.op.kd, .int .u8 r.op.l, .int .u32 r.op.c, .int .u8 r.op.k, .int .i64 r.op.s, .int .u8 r.op.fl, .int .u32 r.op.fc, .int .u8 r.op.fk, .int .i64 r.op.fn, .int .i64 r.op.fm, .int .u8 r.op.al, .int .u32 r.op.ac, .int .u8 r.op.ak, .int .i64 r.op.an, .int .u8 r.op.tl, .int .u32 r.op.tc, .slice A n c, .int .i64 r.co, .int .i64 r.gr.u, .int .u8 r.gr.l, .int .u32 r.gr.c, .bool r.gr.ok] : List Value).take 18) [.slice A n c] (([.int .u8 r.kd, .int .i64 r.us, .int .u8 r.op.kd, .int .u8 r.op.l, .int .u32 r.op.c, .int .u8 r.op.k, .int .i64 r.op.s, .int .u8 r.op.fl, .int .u32 r.op.fc, .int .u8 r.op.fk, .int .i64 r.op.fn, .int .i64 r.op.fm, .int .u8 r.op.al, .int .u32 r.op.ac, .int .u8 r.op.ak, .int .i64 r.op.an, .int .u8 r.op.tl, .int .u32 r.op.tc, .slice A n c, .int .i64 r.co, .int .i64 r.gr.u, .int .u8 r.gr.l, .int .u32 r.gr.c, .bool r.gr.ok] : List Value).drop 19) [.slice A' n' c'] h (there_part ht 18 1 (by omega)) rfl

def cutR : Rec := { insR 2 with op := { insO 2 with kd := 2, row := [] } }
def blankR : Rec := { insR 1 with op := { insO 1 with row := [-1] } }
def oddR : Rec := { openR with co := 1 }
def grantR : Rec := ⟨3, 0, zO, 0, zG⟩
theorem insR_r {k : Nat} (hk : k ≤ 64) : Recr (insR k) := ⟨(by show (0 : Int) ≤ 2; omega), (by show (2 : Int) ≤ 255; omega), in64_0, insO_r hk, in64_0, zG_t⟩
theorem cutR_r : Recr cutR := by
  have z := insO_r (k := 2) (by omega)
  exact { insR_r (k := 2) (by omega) with op := { z with k0 := by show (0 : Int) ≤ 2; omega, k1 := by show (2 : Int) ≤ 255; omega, r32 := In32.nil } }
theorem blankR_r : Recr blankR := by
  have z := insO_r (k := 1) (by omega)
  exact { insR_r (k := 1) (by omega) with op := { z with r32 := fun x hx => by rw [List.mem_singleton.1 (show x ∈ [(-1 : Int)] from hx)]; omega } }
theorem oddR_r : Recr oddR := { openR_r with co := by show In64 1; simp [In64] }
theorem grantR_r : Recr grantR := ⟨(by show (0 : Int) ≤ 3; omega), (by show (3 : Int) ≤ 255; omega), in64_0, zO_r, in64_0, zG_t⟩
theorem names_facts : (mayR (insR 19) = true ∧ mayR (insR 20) = true ∧ mayR cutR = true ∧ mayR grantR = true) ∧ (mayR blankR = false ∧ mayR oddR = false ∧ mayR zR = false) ∧ nbl (rcb cutR) = 1 ∧ nbl (rcb grantR) = 1 ∧ (putE openR 0 2 = 2 ∧ putE openR 2147483648 2 = 2) ∧ okHd (List.replicate 128 0) = false := by decide +kernel

set_option maxRecDepth 100000 in
set_option maxHeartbeats 12800000 in
theorem rnames_walk (w : World) :
    Calls Tryz.prog 3 #[] w fun e w' => e = .returned (.bool true) ∧ Below w.heap.size w w' := by
  obtain ⟨⟨m19, m20, mcut, mgr⟩, ⟨mbl, mod, mz⟩, ncut, ngr, ⟨p0, p1⟩, hz⟩ := names_facts
  obtain ⟨i0, hi0, hz0, hz1, hz2⟩ := info_parts info_u8
  have hmk := fun W : World => run_make (P := Tryz.prog) W 51 5 i0 _ Tryz.underlying51 hi0 hz0 .i64 .i64 (128 : Int) (128 : Int) (by omega) (by omega) (by rw [hz2]; omega) (by omega)
  have HN0 := hid (show ∀ r' s' n', ¬ Ris [] r' s' n' from fun r' s' n' h => by have := h.pos; simp at this)
  have HOP := hid (show openR.op.row.length = 0 from rfl)
  have HP0 := hid (show putL openR 0 2 = [] ∧ ([] : List (List UInt8)).length = 0 ∧ putE openR 0 2 = 2 from ⟨put_none (by rw [p0]; omega), rfl, p0⟩)
  have HP1 := hid (show putL openR 2147483648 2 = [] ∧ ([] : List (List UInt8)).length = 0 ∧ putE openR 2147483648 2 = 2 from ⟨put_none (by rw [p1]; omega), rfl, p1⟩)
  have HHD := hid (show okHd (List.replicate 128 0) = false ∧ pick false (hS (List.replicate 128 0)) = 0 ∧ pick false (hN (List.replicate 128 0)) = 0 ∧ pick false (hI (List.replicate 128 0)) = 0 ∧ pick false (hF (List.replicate 128 0)) = 0 from ⟨hz, rfl, rfl, rfl, rfl⟩)
  have HB19 := hid (show nbl (rcb (insR 19)) = 1 by rw [ins_nbl m19 (by omega) (by omega)])
  have HB20 := hid (show nbl (rcb (insR 20)) = 2 by rw [ins_nbl m20 (by omega) (by omega)])
  have HBC := hid ncut
  have HBG := hid ngr
  have M19 := hid m19
  have M20 := hid m20
  have MC := hid mcut
  have MG := hid mgr
  have JB := hid (show er (mayR blankR) = 8 by rw [mbl]; rfl)
  have JO := hid (show er (mayR oddR) = 8 by rw [mod]; rfl)
  have JZ := hid (show er (mayR zR) = 8 by rw [mz]; rfl)
  clear m19 m20 mcut mgr mbl mod mz ncut ngr p0 p1 hz
  go_enter Tryz.func3, Tryz.ntmps3
  go_wp2_with fail
  refine (rec_get_of none 0 0 [] (hid rfl) (by omega) _ (RdB.nil _)).mono ?_
  rintro e w1 ⟨r1, A1, k1, c1, s1, t1, i1, f1, j1, rfl, hg1, hk1, ho1, b1⟩
  obtain ⟨-, -, -, -, -, e1⟩ := got_not HN0.out hg1
  subst e1
  have R1 := rs_new w1 40 42
  clear hg1 hk1 ho1 HN0
  have one : True := trivial
  go_wp2_with (first
    | (clear one; (with_reducible refine at_store 40 (.tmp 1) (.tmp 15) ?_); refine wpList_store_r rfl (.tmp 1) (.tmp 15) rfl w1.heap.size rfl r1 A1 k1 c1 rfl R1.tr w1.heap.size (Nat.le_refl _) ?_; intro w2 bx2 tx2 b2 h2 z2; have td2 : ThereD w2 (w1.heap.size + 1) := there_other R1.td h2 (by omega))
    | ((with_reducible refine at_store 42 (.tmp 2) (.tmp 16) ?_); refine wpList_store_d rfl (.tmp 2) (.tmp 16) rfl (w1.heap.size + 1) rfl s1 t1 i1 f1 rfl td2 w1.heap.size (Nat.le_succ _) ?_; intro w3 bd3 td3 b3 h3 z3))
  have hb := below_in b1 ((R1.be.trans b2).trans b3)
  clear R1 bx2 tx2 b2 h2 z2 td2 bd3 td3 b3 h3 z3 b1
  refine (open_any _).mono ?_
  rintro e w4 ⟨rfl, b4⟩
  replace hb := below_in hb b4
  clear b4
  go_wp2_with fail
  refine (rec_put_of [] 0 2 openR none 0 0 HOP openR_r 0 2 HP0 _ (Ri.nil _)).mono ?_
  rintro e w5 ⟨A5, c5, rfl, -, b5⟩
  replace hb := below_in hb b5
  clear b5
  go_wp2_with fail
  refine (open_any _).mono ?_
  rintro e w6 ⟨rfl, b6⟩
  replace hb := below_in hb b6
  clear b6
  go_wp2_with fail
  refine (rec_put_of [] 0 2 openR none 0 0 HOP openR_r 2147483648 2 HP1 _ (Ri.nil _)).mono ?_
  rintro e w7 ⟨A7, c7, rfl, -, b7⟩
  replace hb := below_in hb b7
  clear b7
  go_wp2_with fail
  have hz128 := (zeros_ownk w7 w7.heap.size 128 (Nat.le_refl _) (by omega)).rd
  refine (rec_head_of false 0 0 0 0 _ 128 128 (List.replicate 128 0) (hid List.length_replicate) HHD _ hz128).mono ?_
  rintro e w8 ⟨rfl, b8⟩
  replace hb := below_in hb (below_in (below1 w7 _) b8)
  clear b8 hz128 hmk
  have e8 : er false = 8 := rfl
  rw [e8]
  clear e8
  go_wp2_with fail
  generalize hW8 : World.alloc w8 _ = W8
  replace hb : Below w.heap.size w W8 := by subst hW8; exact below_in hb (below1 w8 _)
  clear hW8
  refine (insert_of 2 2 rfl (by omega) _).mono ?_
  rintro e w9 ⟨A9, rfl, ho9, b9⟩
  replace hb := below_in hb b9
  have th9 := thereR_new w9 (#[.int .u8 0, .int .i64 0, .int .u8 0, .int .u8 0, .int .u32 0, .int .u8 0, .int .i64 0, .int .u8 0, .int .u32 0, .int .u8 0, .int .i64 0, .int .i64 0, .int .u8 0, .int .u32 0, .int .u8 0, .int .i64 0, .int .u8 0, .int .u32 0, .slice none 0 0, .int .i64 0, .int .i64 0, .int .u8 0, .int .u32 0, .bool false]) rfl 40
  clear b9 ho9
  have one : True := trivial
  go_wp2_with (clear one; (with_reducible refine at_store 40 (.tmp 10) (.tmp 33) ?_); refine wpList_store_r rfl (.tmp 10) (.tmp 33) rfl w9.heap.size rfl (insR 2) A9 2 2 rfl th9 w9.heap.size (Nat.le_refl _) ?_; intro w10 x10 t10 b10 h10 z10; have c2 := x10.okd9; have c18 := x10.sl; have f2 := t10.at_ 2 (by omega); have f18 := t10.at_ 18 (by omega))
  have X := (x10.setOK t10 2).setSl (t10.setc _ _ _) [] none 0 0
  have hb10 : Below w9.heap.size w9 ((w10.setCell ⟨w9.heap.size, 2, none⟩ (.int .u8 2)).setCell ⟨w9.heap.size, 18, none⟩ (.slice none 0 0)) := ((((Below.refl w9.heap.size w9).alloc (Nat.le_refl _) _).trans b10).setCell (p := ⟨w9.heap.size, 2, none⟩) (Nat.le_refl _) _).setCell (p := ⟨w9.heap.size, 18, none⟩) (Nat.le_refl _) _
  replace X : BoxR ((w10.setCell ⟨w9.heap.size, 2, none⟩ (.int .u8 2)).setCell ⟨w9.heap.size, 18, none⟩ (.slice none 0 0)) w9.heap.size cutR none 0 0 := X
  have hlt : w9.heap.size < ((w10.setCell ⟨w9.heap.size, 2, none⟩ (.int .u8 2)).setCell ⟨w9.heap.size, 18, none⟩ (.slice none 0 0)).heap.size := ((t10.setc w9.heap.size 2 (.int .u8 2)).setc w9.heap.size 18 (.slice none 0 0)).lt
  generalize World.setCell (World.setCell w10 _ _) _ _ = W10 at X hb10 hlt ⊢
  replace hb := below_in hb hb10
  have hw10 := hb.size
  generalize w9.heap.size = g10 at *
  clear hb10 x10 t10 b10 h10 z10 c2 c18 f2 f18 th9
  refine (insert_of 1 1 rfl (by omega) _).mono ?_
  rintro e w11 ⟨A11, rfl, ho11, b11⟩
  replace hb := below_in hb b11
  replace X := X.keep b11
  have hlt11 : g10 < w11.heap.size := Nat.lt_of_lt_of_le hlt b11.size
  have hg10 : g10 < W10.heap.size := hlt
  obtain ⟨gR, rfl, hRge, hRc, hRf, hRset⟩ := ho11.own_at (by simp)
  have hRlt : gR < w11.heap.size := World.block_lt_of_cell? _ _ (hRc 0 (by simp))
  have rc := hRc 0 (by simp)
  simp only [List.getElem_replicate] at rc
  have th11 := thereR_new w11 (#[.int .u8 0, .int .i64 0, .int .u8 0, .int .u8 0, .int .u32 0, .int .u8 0, .int .i64 0, .int .u8 0, .int .u32 0, .int .u8 0, .int .i64 0, .int .i64 0, .int .u8 0, .int .u32 0, .int .u8 0, .int .i64 0, .int .u8 0, .int .u32 0, .slice none 0 0, .int .i64 0, .int .i64 0, .int .u8 0, .int .u32 0, .bool false]) rfl 40
  have one : True := trivial
  go_wp2_with (clear one; (with_reducible refine at_store 40 (.tmp 11) (.tmp 38) ?_); refine wpList_store_r rfl (.tmp 11) (.tmp 38) rfl w11.heap.size rfl (insR 1) (some ⟨gR, 0, none⟩) 1 1 rfl th11 w11.heap.size (Nat.le_refl _) ?_; intro w12 x12 t12 b12 h12 z12; have hb12 : Below w11.heap.size w11 w12 := ((Below.refl w11.heap.size w11).alloc (Nat.le_refl _) _).trans b12; have c18 := x12.sl; have rc12 := Go.Proofs.YtndmblhkmgnpcaaGreat.keep hb12 rc; have ho12 := ho11.keep hb12; have rf12 : w12.frozen? ⟨gR, 0, none⟩ = false := (by obtain ⟨g', e', _, _, hf', _⟩ := ho12.own_at (by simp); cases e'; exact hf' 0))
  have hset : OwnI (w12.setCell ⟨gR, 0, none⟩ (.int .i32 (-1))) W10.heap.size 21 (some ⟨gR, 0, none⟩) 1 [-1] := by
    obtain ⟨g', e', _, _, _, hs'⟩ := ho12.own_at (by simp)
    cases e'
    exact hs' 0 (-1) (by omega) (by omega)
  have hother : ∀ k, k ≠ gR → (w12.setCell ⟨gR, 0, none⟩ (.int .i32 (-1))).heap[k]? = w12.heap[k]? := fun k hk => Below.heap_setCell _ _ _ _ hk
  have X12 := (X.keep hb12).other hother (by omega)
  have Y : BoxR (w12.setCell ⟨gR, 0, none⟩ (.int .i32 (-1))) w11.heap.size blankR (some ⟨gR, 0, none⟩) 1 1 := x12.other hother (by omega)
  have hb13 : Below w.heap.size w (w12.setCell ⟨gR, 0, none⟩ (.int .i32 (-1))) := (below_in hb hb12).setCell (p := ⟨gR, 0, none⟩) (by show w.heap.size ≤ gR; omega) _
  generalize World.setCell w12 _ _ = W12 at hset X12 Y hb13 ⊢
  generalize w11.heap.size = g11 at *
  have hrow := hid hset.ri
  clear hset hother X hb hb12 x12 t12 b12 h12 z12 c18 rc12 rf12 ho12 th11 hRc hRf hRset rc ho11 b11
  refine (open_any _).mono ?_
  rintro e w13 ⟨rfl, b13⟩
  replace X12 := X12.keep b13
  replace Y := Y.keep b13
  have hrow13 := hid (hrow.out.keep b13)
  have hb := below_in hb13 b13
  have th13 := thereR_new w13 (#[.int .u8 0, .int .i64 0, .int .u8 0, .int .u8 0, .int .u32 0, .int .u8 0, .int .i64 0, .int .u8 0, .int .u32 0, .int .u8 0, .int .i64 0, .int .i64 0, .int .u8 0, .int .u32 0, .int .u8 0, .int .i64 0, .int .u8 0, .int .u32 0, .slice none 0 0, .int .i64 0, .int .i64 0, .int .u8 0, .int .u32 0, .bool false]) rfl 40
  clear b13 hb13 hrow
  have one : True := trivial
  go_wp2_with (clear one; (with_reducible refine at_store 40 (.tmp 12) (.tmp 43) ?_); refine wpList_store_r rfl (.tmp 12) (.tmp 43) rfl w13.heap.size rfl openR none 0 0 rfl th13 w13.heap.size (Nat.le_refl _) ?_; intro w14 x14 t14 b14 h14 z14; have c19 := x14.co; have f19 := t14.at_ 19 (by omega))
  have hb14 : Below w13.heap.size w13 (w14.setCell ⟨w13.heap.size, 19, none⟩ (.int .i64 1)) := (((Below.refl w13.heap.size w13).alloc (Nat.le_refl _) _).trans b14).setCell (p := ⟨w13.heap.size, 19, none⟩) (Nat.le_refl _) _
  have Z : BoxR (w14.setCell ⟨w13.heap.size, 19, none⟩ (.int .i64 1)) w13.heap.size oddR none 0 0 := x14.setCo t14 1
  generalize World.setCell w14 _ _ = W14 at hb14 Z ⊢
  replace X12 := X12.keep hb14
  replace Y := Y.keep hb14
  have hrow14 := hid (hrow13.out.keep hb14)
  replace hb := below_in hb hb14
  generalize w13.heap.size = g12 at *
  clear hb14 x14 t14 b14 h14 z14 c19 f19 th13 hrow13
  refine (alive_any _).mono ?_
  rintro e w15 ⟨rfl, b15⟩
  have B15 := b15
  clear b15
  go_wp2_with fail
  refine (insert_of 19 19 rfl (by omega) _).mono ?_
  rintro e w16 ⟨A16, rfl, ho16, b16⟩
  have B16 := below_in B15 b16
  clear b16 B15
  go_wp2_with fail
  refine (counts_of 1 (insR 19) A16 19 19 (hid List.length_replicate) (insR_r (by omega)) M19.out HB19 _ ho16.ri).mono ?_
  rintro e w17 ⟨rfl, b17⟩
  have B17 := below_in B16 b17
  clear b17 B16 ho16
  go_wp2_with fail
  refine (insert_of 20 20 rfl (by omega) _).mono ?_
  rintro e w18 ⟨A18, rfl, ho18, b18⟩
  have B18 := below_in B17 b18
  clear b18 B17
  go_wp2_with fail
  refine (counts_of 2 (insR 20) A18 20 20 (hid List.length_replicate) (insR_r (by omega)) M20.out HB20 _ ho18.ri).mono ?_
  rintro e w19 ⟨rfl, b19⟩
  have B19 := below_in B18 b19
  clear b19 B18 ho18
  have one : True := trivial
  have X19 := X12.keep B19
  go_wp2_with (clear one; (with_reducible refine at_load 40 (.tmp 10) ?_); refine wpList_load_r rfl (.tmp 10) rfl g10 rfl X19 ?_)
  refine (counts_of 1 cutR none 0 0 (hid rfl) cutR_r MC.out HBC _ (Ri.nil _)).mono ?_
  rintro e w20 ⟨rfl, b20⟩
  have B20 := below_in B19 b20
  clear b20 B19 X19 X12
  go_wp2_with fail
  refine (counts_of 1 grantR none 0 0 (hid rfl) grantR_r MG.out HBG _ (Ri.nil _)).mono ?_
  rintro e w21 ⟨rfl, b21⟩
  have B21 := below_in B20 b21
  clear b21 B20
  have one : True := trivial
  have Y21 := Y.keep B21
  go_wp2_with (clear one; (with_reducible refine at_load 40 (.tmp 11) ?_); refine wpList_load_r rfl (.tmp 11) rfl g11 rfl Y21 ?_)
  refine (rec_check_of 8 blankR (some ⟨gR, 0, none⟩) 1 1 (hid rfl) blankR_r JB _ (hrow14.out.keep B21)).mono ?_
  rintro e w22 ⟨rfl, b22⟩
  have B22 := below_in B21 b22
  clear b22 B21 Y21 Y
  have one : True := trivial
  have Z22 := Z.keep B22
  go_wp2_with (clear one; (with_reducible refine at_load 40 (.tmp 12) ?_); refine wpList_load_r rfl (.tmp 12) rfl g12 rfl Z22 ?_)
  refine (rec_check_of 8 oddR none 0 0 (hid rfl) oddR_r JO _ (Ri.nil _)).mono ?_
  rintro e w23 ⟨rfl, b23⟩
  have B23 := below_in B22 b23
  clear b23 B22 Z22 Z
  go_wp2_with fail
  refine (rec_check_of 8 zR none 0 0 (hid rfl) zR_r JZ _ (Ri.nil _)).mono ?_
  rintro e w24 ⟨rfl, b24⟩
  have B24 := below_in hb (below_in B23 b24)
  clear b24 B23
  go_wp2
  go_ret
  exact ⟨rfl, B24⟩


set_option maxRecDepth 100000 in
theorem rnames_lifted (os : Os) (started : os.Started) (H : Type) (enc : TypeId × Value → H) :
    ReturnsInHanded {} Tryz.checked os 3 .any (Rows.recordNamesSpec.pre6 enc Tryz.prog Tryz.f3 Rows.recordNamesRow.domain false) (Rows.recordNamesSpec.post enc Tryz.prog Tryz.f3 false true false false) := by
  refine returnsInHanded_of_change (C := Tryz.checked) own started (by kernel_rfl) Tryz.func3
    (ChangeSpec.witness6 (enc := enc) (C := Tryz.checked) false ⟨#[], #[], []⟩ 8 (by kernel_rfl) (by kernel_rfl) (by kernel_rfl) (by kernel_rfl)) ?_
  intro W base args ds gs before hval0 hW _ _
  have hval : ∀ (j : Nat) t v, Tryz.f3.params[j]? = some t → args[j]? = some v → Value.okWide Tryz.prog W .any base t v := hval0
  have hW' := hW
  obtain ⟨p, q, hA0, hV, rfl, _, _⟩ := hW
  have hA : DataW.TrodAll enc Tryz.prog W 0 (fun _ => true) true Tryz.f3.params.toList args.toList ds p := hA0
  rw [Tryz.params3] at hA hval
  obtain ⟨rfl, rfl, rfl⟩ := trodAll_none hA
  obtain ⟨rfl, rfl⟩ := trodVars_none hV
  refine (rnames_walk  W).mono fun e W' ⟨he, hg⟩ => ?_
  subst he
  exact ⟨_, rfl, law_post laidOut (by kernel_rfl) rfl Tryz.underlying4 rfl rfl hW' hg⟩

theorem rnames_holds : Rows.RecordNamesSaid :=
  OpenClaim.holds_of_wide 3 Tryz.f3 rfl rfl rfl rfl rfl rfl rfl ⟨rfl, rfl, rfl, rfl, rfl⟩ rfl rfl rfl rfl rfl (by kernel_rfl) Tryz.func3 (by kernel_rfl)
    (of_decide_eq_true (by kernel_rfl)) (by unfold Func.isWrapper; rw [if_neg (of_decide_eq_false (by kernel_rfl))]; exact ⟨rfl, rfl⟩)
    (fun os started H enc _ => rnames_lifted os started H enc)
#print axioms rnames_holds
end Go.Proofs.YtndmblhkmgnpcaaGreat
