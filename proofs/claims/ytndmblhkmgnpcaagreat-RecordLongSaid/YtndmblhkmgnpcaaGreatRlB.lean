/-
  The laws' helpers of layer 11: counts, alive.
-/
import Derived.Test.YtndmblhkmgnpcaaGreatRlA
namespace Go.Proofs.YtndmblhkmgnpcaaGreat
open Go.RowKit
set_option linter.unusedVariables false
set_option linter.unusedSimpArgs false

theorem stoodD9 : Tryz.prog.stoodInHeld 42 = false := by kernel_rfl
theorem eqlD (w : World) (s n i f : Int) : (binOp .eql 42 (.agg #[.int .i64 s, .int .i64 n, .int .i64 i, .int .i64 f]) (.agg #[.int .i64 s, .int .i64 n, .int .i64 i, .int .i64 f])).run Tryz.prog w = .ok (.bool true) w := by
  have e1 := stoodD9
  simp [go_sem, e1]
theorem neqD (w : World) (s n i f : Int) : (binOp .neq 42 (.agg #[.int .i64 s, .int .i64 n, .int .i64 i, .int .i64 f]) (.agg #[.int .i64 s, .int .i64 n, .int .i64 i, .int .i64 f])).run Tryz.prog w = .ok (.bool false) w := by
  have e1 := stoodD9
  simp [go_sem, e1]

set_option maxRecDepth 100000 in
set_option maxHeartbeats 6400000 in
theorem counts_of (m : Nat) (r : Rec) (A : Option Addr) (n c : Nat) (hn : Hid (r.op.row.length = n)) (hmr : Recr r) (hm : mayR r = true) (hv : Hid (nbl (rcb r) = m)) (w : World) (hr : Ri w A c r.op.row) :
    Calls Tryz.prog 13 #[.agg #[.int .u8 r.kd, .int .i64 r.us, .int .u8 r.op.kd, .int .u8 r.op.l, .int .u32 r.op.c, .int .u8 r.op.k, .int .i64 r.op.s, .int .u8 r.op.fl, .int .u32 r.op.fc, .int .u8 r.op.fk, .int .i64 r.op.fn, .int .i64 r.op.fm, .int .u8 r.op.al, .int .u32 r.op.ac, .int .u8 r.op.ak, .int .i64 r.op.an, .int .u8 r.op.tl, .int .u32 r.op.tc, .slice A n c, .int .i64 r.co, .int .i64 r.gr.u, .int .u8 r.gr.l, .int .u32 r.gr.c, .bool r.gr.ok], .int .i64 (m : Int)] w fun e w' => e = .returned (.bool true) ∧ Below w.heap.size w w' := by
  have hm3 := nbl_r hm
  rw [hv.out] at hm3
  have HC := hid (show (if mayR r = true then (nbl (rcb r) : Int) else 0) = (m : Int) ∧ er (mayR r) = 0 by rw [if_pos hm, hm, hv.out]; exact ⟨rfl, rfl⟩)
  have h78 : mayHd 7 8 0 (nbl (rcb r)) = true := by rw [hv.out, mayHd_iff]; omega
  obtain ⟨LP, hLP⟩ : ∃ LP, blks 7 8 (rcb r) = LP := ⟨_, rfl⟩
  have HL := hid (show putL r 7 8 = LP ∧ LP.length = m ∧ putE r 7 8 = 0 by rw [putL, putE, if_pos hm, if_pos hm, if_pos h78, if_pos h78, ← hLP, blks_length, hv.out]; exact ⟨rfl, rfl, rfl⟩)
  have HLM := hid HL.out.2.1
  have HRIS := hid (show Ris LP r 7 8 from ⟨hmr, hm, h78, hLP⟩)
  have xa := boxR_new w r A n c 40
  have hb := below1 w (.cells (#[.int .u8 r.kd, .int .i64 r.us, .int .u8 r.op.kd, .int .u8 r.op.l, .int .u32 r.op.c, .int .u8 r.op.k, .int .i64 r.op.s, .int .u8 r.op.fl, .int .u32 r.op.fc, .int .u8 r.op.fk, .int .i64 r.op.fn, .int .i64 r.op.fm, .int .u8 r.op.al, .int .u32 r.op.ac, .int .u8 r.op.ak, .int .i64 r.op.an, .int .u8 r.op.tl, .int .u32 r.op.tc, .slice A n c, .int .i64 r.co, .int .i64 r.gr.u, .int .u8 r.gr.l, .int .u32 r.gr.c, .bool r.gr.ok]) 40)
  have HR := hid hr
  have HS := hid (sameR_self r)
  have HMM := hid (show m ≤ 500 by omega)
  clear hr h78 hLP hm3
  go_enter Tryz.func13, Tryz.ntmps13
  go_wp2_with (refine wpList_load_r rfl (.tmp 2) rfl w.heap.size rfl xa ?_)
  refine (rec_count_of (m : Int) 0 r A n c hn hmr HC _ (HR.out.keep hb)).mono ?_
  rintro e w1 ⟨rfl, b1⟩
  replace xa := xa.keep b1
  replace hb := below_in hb b1
  clear b1
  have one : True := trivial
  go_wp2_with (clear one; refine wpList_load_r rfl (.tmp 2) rfl w.heap.size rfl xa ?_)
  refine (rec_put_of LP m 0 r A n c hn hmr 7 8 HL _ (HR.out.keep hb)).mono ?_
  rintro e w2 ⟨A2, c2, rfl, ho2, b2⟩
  replace xa := xa.keep b2
  replace hb := below_in hb b2
  have HO := hid ho2.rd
  clear b2 ho2
  go_wp2_with fail
  refine (rec_get_of A2 m c2 LP HLM HMM.out _ HO.out).mono ?_
  rintro e w3 ⟨r3, A3, k3, c3, s3, t3, i3, f3, j3, rfl, hg3, hk3, ho3, b3⟩
  obtain ⟨rfl, rfl, rfl, rfl, rfl, rfl⟩ := got_of HRIS.out hg3
  have HK3 := hid hk3
  have HRI := hid ho3.ri
  have R3 := rs_new w3 40 42
  replace xa := xa.keep b3
  replace hb := below_in hb b3
  rw [HLM.out]
  clear hk3 hg3 ho3 b3 HO
  have one : True := trivial
  have EQ := eqlD
  go_wp2_with (first
    | (clear one; (with_reducible refine at_store 40 (.tmp 9) (.tmp 25) ?_); refine wpList_store_r rfl (.tmp 9) (.tmp 25) rfl w3.heap.size rfl r3 A3 k3 c3 rfl R3.tr w3.heap.size (Nat.le_refl _) ?_; intro w4 bx4 tx4 b4 h4 z4; have td4 : ThereD w4 (w3.heap.size + 1) := there_other R3.td h4 (by omega))
    | ((with_reducible refine at_store 42 (.tmp 10) (.tmp 26) ?_); refine wpList_store_d rfl (.tmp 10) (.tmp 26) rfl (w3.heap.size + 1) rfl 7 8 0 (m : Int) rfl td4 w3.heap.size (Nat.le_succ _) ?_; intro w5 bd5 td5 b5 h5 z5; have bx5 := bx4.other h5 (by omega); have b35 := (R3.be.trans b4).trans b5; have xa5 := xa.keep b35; have hb5 := below_in hb b35)
    | ((with_reducible refine at_load 40 (.tmp 9) ?_); refine wpList_load_r rfl (.tmp 9) rfl w3.heap.size rfl bx5 ?_)
    | ((with_reducible refine at_load 40 (.tmp 2) ?_); refine wpList_load_r rfl (.tmp 2) rfl w.heap.size rfl xa5 ?_)
    | (go_at_call 25; refine (rec_same_of true r3 A3 k3 c3 HK3 r3 A n c hn HS _ (HRI.out.keep b35) (HR.out.keep hb5)).mono ?_; rintro e w6 ⟨rfl, b6⟩; have bd6 := bd5.keep b6; have hb6 := below_in hb5 b6)
    | ((with_reducible refine at_load 42 (.tmp 10) ?_); refine wpList_load_d rfl (.tmp 10) rfl (w3.heap.size + 1) rfl bd6 ?_))
  go_ret
  exact ⟨rfl, hb6⟩

/-- The chapter's first block begins so. -/
def open17 : List UInt8 := [0, 0, 0, 1, 0, 0, 2, 0, 1, 1, 1, 0, 0, 0, 1, 2, 3]
theorem open_first : putL openR 1 2 = [blk 1 2 (rcb openR) 0] ∧ putE openR 1 2 = 0 ∧ (blk 1 2 (rcb openR) 0).take 17 = open17 ∧ nbl (rcb openR) = 1 := by decide +kernel
theorem ins_may64 : mayR (insR 64) = true := by decide +kernel
theorem ins_nbl {k : Nat} (hm : mayR (insR k) = true) (h1 : 1 ≤ k) (h64 : k ≤ 64) : nbl (rcb (insR k)) = (40 + 4 * k + 118) / 119 := by
  have h := (rcb_length hm).2.2.2 rfl
  have e : szO (insR k).op.kd (insR k).op.fm = 37 + 4 * (k : Int) := by
    show szO 1 (k : Int) = _
    rw [szO, if_pos (by omega), if_pos rfl]
  rw [e] at h
  unfold nbl
  omega

set_option maxRecDepth 100000 in
set_option maxHeartbeats 3200000 in
theorem alive_any (w : World) :
    Calls Tryz.prog 12 #[] w fun e w' => e = .returned (.bool true) ∧ Below w.heap.size w w' := by
  obtain ⟨e1, e2, e3, e4⟩ := open_first
  have hl := blk_length 1 2 (rcb openR) 0
  obtain ⟨l0, hl0⟩ : ∃ l0, blk 1 2 (rcb openR) 0 = l0 := ⟨_, rfl⟩
  rw [hl0] at e1 e3 hl
  have HL := hid (show putL openR 1 2 = [l0] ∧ [l0].length = 1 ∧ putE openR 1 2 = 0 from ⟨e1, rfl, e2⟩)
  have HN1 := hid e4
  have HN3 := hid (show nbl (rcb (insR 64)) = 3 by rw [ins_nbl ins_may64 (by omega) (by omega)])
  have HK := hid (show (insR 64).op.row.length = 64 from List.length_replicate)
  have HOP := hid (show openR.op.row.length = 0 from rfl)
  clear e1 e2 e4 hl0
  go_enter Tryz.func12, Tryz.ntmps12
  go_wp2_with fail
  refine (open_any _).mono ?_
  rintro e w1 ⟨rfl, b1⟩
  go_wp2_with fail
  refine (rec_put_of [l0] 1 0 openR none 0 0 HOP openR_r 1 2 HL _ (Ri.nil _)).mono ?_
  rintro e w2 ⟨A2, c2, rfl, ho2, b2⟩
  have hb := below_in b1 b2
  have hr2 := ho2.rd
  have hc2 : (c2 : Int) ≤ 9223372036854775807 := by have := hr2.cap; omega
  have hc1 : (1 : Int) ≤ c2 := by have := hr2.len; simp at this; omega
  obtain ⟨b, o, rfl, hcell⟩ := hr2.at_ (by simp)
  obtain ⟨B, d, hc0, hB⟩ := hcell 0 (by simp)
  simp only [List.getElem_cons_zero, Nat.add_zero, hl] at hc0 hB
  have hd2 : (d : Int) ≤ 9223372036854775807 := by have := hB.cap; omega
  have hd1 : (128 : Int) ≤ d := by have := hB.len; omega
  have hr17 := hB.take 17
  rw [e3] at hr17
  have y1 := rd_string (n := 17) (hid (show open17.length = 17 from rfl)) hr17
  clear b1 b2 ho2 hr2 hcell hB hr17 e3
  unfold open17 at y1
  have one : True := trivial
  have two : True := trivial
  go_wp2_with (first
    | (go_at_call 9; refine (open_any _).mono ?_; rintro e w3 ⟨rfl, b3⟩; have hb3 := below_in hb b3)
    | (clear one; go_at_call 13; refine (counts_of 1 openR none 0 0 HOP openR_r openR_may HN1 _ (Ri.nil _)).mono ?_; rintro e w4 ⟨rfl, b4⟩; have hb4 := below_in hb3 b4)
    | (go_at_call 11; refine (insert_of 64 64 rfl (by omega) _).mono ?_; rintro e w5 ⟨A5, rfl, ho5, b5⟩; have hb5 := below_in hb4 b5)
    | (go_at_call 13; refine (counts_of 3 (insR 64) A5 64 64 HK ⟨by decide, by decide, in64_0, insO_r (by omega), in64_0, zG_t⟩ ins_may64 HN3 _ ho5.ri).mono ?_; rintro e w6 ⟨rfl, b6⟩; have hb6 := below_in hb5 b6))
  go_ret
  exact ⟨rfl, hb6⟩
end Go.Proofs.YtndmblhkmgnpcaaGreat
