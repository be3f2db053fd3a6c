/-
  The document's own answers of layer 11: a record's blocks.
-/
import Derived.Test.YtndmblhkmgnpcaaGreatRcD
namespace Go.Proofs.YtndmblhkmgnpcaaGreat
open Go.RowKit
set_option linter.unusedVariables false
set_option linter.unusedSimpArgs false

/-- b[lo:]: a run equation, and the reading. -/
theorem cut_from {w0 : World} {A : Option Addr} {n c : Nat} {l : List UInt8} (hr : Rd w0 A c l) (hn : l.length = n) (z m : Nat) (x : Int) (hx : x = (z : Int)) (hm : z + m = n) :
    ∃ B, (∀ W : World, (Instr.slice 51 (.slice A n c) (some (.int .i64 x)) none none).run Tryz.prog W = .ok (.slice B m (c - z)) W) ∧ Rd w0 B (c - z) (l.drop z) := by
  have hc := hr.len
  subst hx
  refine ⟨if c = z then A else A.map (·.add (z * 1)), fun W => ?_, ?_⟩
  · have he : Tryz.prog.elem 51 = 5 := by kernel_rfl
    rw [run_slice_l (P := Tryz.prog) (w := W) (t := 51) (a := A) (len := n) (cap := c) (ht := by rw [he]; exact Tryz.underlying51) (kl := .i64) (l := (z : Int)) (h0 := by omega) (h1 := by omega), he]
    have hs := Tryz.sizeOf5
    have e : n - z = m := by omega
    go_simp
  · by_cases h0 : 0 < l.length
    · obtain ⟨b, o, rfl, _⟩ := hr.at_ h0
      refine hr.behind z (by omega) fun hne => ?_
      rw [if_neg (by omega), Nat.mul_one]
      simp [Addr.add_lit]
    · have e : l = [] := List.eq_nil_of_length_eq_zero (by omega)
      subst e
      have ez : z = 0 := by simp at hn; omega
      subst ez
      exact ⟨by simp, by have := hr.2.1; unfold maxLen at *; omega, fun h => absurd h (by simp)⟩
/-- b[lo:hi]: a run equation, and the reading. -/
theorem cut_lh {w0 : World} {A : Option Addr} {n c : Nat} {l : List UInt8} (hr : Rd w0 A c l) (hn : l.length = n) (z m : Nat) (x y : Int) (hx : x = (z : Int)) (hy : y = (z : Int) + (m : Int)) (hm : z + m ≤ n) :
    ∃ B, (∀ W : World, (Instr.slice 51 (.slice A n c) (some (.int .i64 x)) (some (.int .i64 y)) none).run Tryz.prog W = .ok (.slice B m (c - z)) W) ∧ Rd w0 B (c - z) ((l.drop z).take m) := by
  have hc := hr.len
  subst hx hy
  obtain ⟨B, _, hB⟩ := cut_from hr hn z (n - z) z rfl (by omega)
  refine ⟨if c = z then A else A.map (·.add (z * 1)), fun W => ?_, ?_⟩
  · have he : Tryz.prog.elem 51 = 5 := by kernel_rfl
    rw [run_slice_lh (P := Tryz.prog) (w := W) (t := 51) (a := A) (len := n) (cap := c) (ht := by rw [he]; exact Tryz.underlying51) (kl := .i64) (kh := .i64) (l := (z : Int)) (h := (z : Int) + (m : Int)) (h0 := by omega) (h1 := by omega) (h2 := by omega), he]
    have hs := Tryz.sizeOf5
    have e1 : ((z : Int) + (m : Int)).toNat = z + m := by omega
    have e : z + m - z = m := by omega
    go_simp
  · refine Rd.take ?_ m
    by_cases h0 : 0 < l.length
    · obtain ⟨b, o, rfl, _⟩ := hr.at_ h0
      refine hr.behind z (by omega) fun hne => ?_
      rw [if_neg (by omega), Nat.mul_one]
      simp [Addr.add_lit]
    · have e : l = [] := List.eq_nil_of_length_eq_zero (by omega)
      subst e
      have ez : z = 0 := by simp at hn; omega
      subst ez
      exact ⟨by simp, by have := hr.2.1; unfold maxLen at *; omega, fun h => absurd h (by simp)⟩
theorem mayHd_at {s t : Int} {m : Nat} (h : mayHd s t 0 m = true) (j : Nat) (hj : j < m) : mayHd s t j m = true := by
  have := mayHd_iff.1 h
  exact mayHd_iff.2 (by omega)
theorem range_blk (s t : Int) (b : List UInt8) (j : Nat) : (List.range (j + 1)).map (blk s t b) = (List.range j).map (blk s t b) ++ [blk s t b j] := by
  rw [List.range_succ, List.map_append]; rfl

set_option maxRecDepth 100000 in
set_option maxHeartbeats 3200000 in
theorem rcblocks_of (m : Nat) (r : Rec) (A : Option Addr) (n c : Nat) (hn : Hid (r.op.row.length = n)) (hmr : Recr r) (hm : mayR r = true) (s t : Int) (hk : Hid (nbl (rcb r) = m)) (hh : Hid (mayHd s t 0 m = true)) (w : World) (hr : Ri w A c r.op.row) :
    Calls Tryz.prog 45 #[.agg #[.int .u8 r.kd, .int .i64 r.us, .int .u8 r.op.kd, .int .u8 r.op.l, .int .u32 r.op.c, .int .u8 r.op.k, .int .i64 r.op.s, .int .u8 r.op.fl, .int .u32 r.op.fc, .int .u8 r.op.fk, .int .i64 r.op.fn, .int .i64 r.op.fm, .int .u8 r.op.al, .int .u32 r.op.ac, .int .u8 r.op.ak, .int .i64 r.op.an, .int .u8 r.op.tl, .int .u32 r.op.tc, .slice A n c, .int .i64 r.co, .int .i64 r.gr.u, .int .u8 r.gr.l, .int .u32 r.gr.c, .bool r.gr.ok], .int .i64 s, .int .i64 t] w fun e w' => ∃ A' c', e = .returned (.slice A' m c') ∧ OwB w' w.heap.size A' c' (blks s t (rcb r)) ∧ Below w.heap.size w w' := by
  obtain ⟨k, hl⟩ : ∃ k, (rcb r).length = k := ⟨_, rfl⟩
  have HL := hid hl
  have hb3 := nbl_r hm
  rw [hk.out] at hb3
  have hkk := hk.out
  unfold nbl at hkk
  rw [hl] at hkk
  have HV := hid (show (nbl (rcb r) : Int) = (m : Int) by rw [hk.out])
  have xa := boxR_new w r A n c 40
  have hb := below1 w (.cells (#[.int .u8 r.kd, .int .i64 r.us, .int .u8 r.op.kd, .int .u8 r.op.l, .int .u32 r.op.c, .int .u8 r.op.k, .int .i64 r.op.s, .int .u8 r.op.fl, .int .u32 r.op.fc, .int .u8 r.op.fk, .int .i64 r.op.fn, .int .i64 r.op.fm, .int .u8 r.op.al, .int .u32 r.op.ac, .int .u8 r.op.ak, .int .i64 r.op.an, .int .u8 r.op.tl, .int .u32 r.op.tc, .slice A n c, .int .i64 r.co, .int .i64 r.gr.u, .int .u8 r.gr.l, .int .u32 r.gr.c, .bool r.gr.ok]) 40)
  have HR := hid hr
  have HB := hid (show (List.range m).map (blk s t (rcb r)) = blks s t (rcb r) by rw [blks, hk.out])
  clear hl hr
  go_enter Tryz.func45, Tryz.ntmps45
  go_wp2_with (refine wpList_load_r rfl (.tmp 3) rfl w.heap.size rfl xa ?_)
  refine (rcbytes_of k r A n c hn hmr hm HL _ (HR.out.keep hb)).mono ?_
  rintro e w1 ⟨A1, c1, rfl, ho1, b1⟩
  have xa1 := xa.keep b1
  have hb1 := below_in hb b1
  have HO := hid ho1.rd
  clear xa b1 ho1 hb
  go_wp2
  go_loopw [8, 9] (fun v i wr => ∃ (j : Nat) (A' : Option Addr) (c' : Nat), j ≤ m ∧ v = .slice A' j c' ∧ i = .int .i64 (j : Int) ∧ OwB wr w1.heap.size A' c' ((List.range j).map (blk s t (rcb r))) ∧ Below w1.heap.size w1 wr) (fun _ i _ => m - (intOf i).toNat)
  case atStart => exact ⟨0, none, 0, by omega, rfl, rfl, OwB.nil _ _, Below.refl _ _⟩
  case round =>
    obtain ⟨j, A', c', hj, rfl, rfl, ho, hbr⟩ := hrel
    have xr := xa1.keep hbr
    have hbw := below_in hb1 hbr
    by_cases hjm : j < m
    · have hlt2 : (j : Int) < (m : Int) := by omega
      obtain ⟨x, hx⟩ : ∃ x : Int, (j : Int) * 119 = x := ⟨_, rfl⟩
      obtain ⟨y, hy⟩ : ∃ y : Int, ((j : Int) + 1) * 119 = y := ⟨_, rfl⟩
      obtain ⟨p, hp⟩ : ∃ p : Nat, (pcs (rcb r) j).length = p := ⟨_, rfl⟩
      obtain ⟨z, hz⟩ : ∃ z : Int, x + (p : Int) = z := ⟨_, rfl⟩
      have hpl : p = min 119 (k - j * 119) := by rw [← hp, pcs, List.length_take, List.length_drop, HL.out]
      have hmin : ∀ (ts : Array TypeId) (ty : TypeId) (W : World), (Builtin.min_ ts ty #[.int .i64 (k : Int), .int .i64 y]).run Tryz.prog W = .ok (.int .i64 z) W := fun ts ty W => by
        rw [run_min_int2]
        have e : (if y < (k : Int) then y else (k : Int)) = z := by split <;> omega
        rw [e]
      obtain ⟨D, hrun, hD⟩ := cut_lh HO.out HL.out (j * 119) p x z (by omega) (by omega) (by omega)
      have hpe : ((rcb r).drop (j * 119)).take p = pcs (rcb r) j := by
        rw [pcs]
        refine List.take_eq_take_iff.2 ?_
        rw [List.length_drop, HL.out]
        omega
      rw [hpe] at hD
      have HP := hid hp
      have HD := hid hD
      have p9 : p ≤ 119 := by omega
      have HBK := hid (show hdb s t j m ++ pad (pcs (rcb r) j) = blk s t (rcb r) j by rw [blk, hk.out])
      clear hz hpl hpe hD hp hkk
      go_wp2_with (refine wpList_load_r rfl (.tmp 3) rfl w.heap.size rfl xr ?_)
      refine (rcmany_of (m : Int) r A n c hn hmr hm HV _ (HR.out.keep hbw)).mono ?_
      rintro e w2 ⟨rfl, b2⟩
      have x2 := xr.keep b2
      have hb2 := below_in hbw b2
      have ho2 := ho.keep b2
      have hbr2 := below_in hbr b2
      clear xr ho hbr b2
      have one : True := trivial
      have two : True := trivial
      go_wp2_with (first
        | (clear one; refine wpList_load_r rfl (.tmp 3) rfl w.heap.size rfl x2 ?_)
        | (go_at_call 44; refine (rcmany_of (m : Int) r A n c hn hmr hm HV _ (HR.out.keep hb2)).mono ?_; rintro e w3 ⟨rfl, b3⟩; have hb3 := below_in hb2 b3; have ho3 := ho2.keep b3; have hbr3 := below_in hbr2 b3)
        | (go_at_call 70; refine (rone_of s t (j : Int) (m : Int) (mayHd_at hh.out j hjm) D p (c1 - j * 119) (pcs (rcb r) j) HP p9 _ (HD.out.keep hbr3)).mono ?_; rintro e w4 ⟨A4, c4, rfl, ho4, b4⟩; rw [HBK.out] at ho4; have hbr4 := below_in hbr3 b4; have hoB := ho3.keep b4; have hz4 := hbr4.size; have ho4' := ho4.mono hbr3.size)
        | (at_builtin; clear two; refine wpList_append_b rfl (.tmp 29) (.tmp 38) rfl w1.heap.size A' j c' ((List.range j).map (blk s t (rcb r))) (hid (by simp)) rfl (blk s t (rcb r) j) A4 128 c4 (hid (blk_length _ _ _ _)) w4 rfl hoB ho4' w4.heap.size rfl rfl (by omega) hz4 ?_; intro A5 c5 w5 ho5 b5))
      rw [← range_blk] at ho5
      have hb5 := hbr4.trans b5
      clear x2 hb2 ho2 hbr2 ho3 hbr3 ho4 hbr4 hoB ho4' b5 HD hrun hmin
      go_roundw
      case rel => exact ⟨j + 1, A5, c5, by omega, rfl, by go_num, ho5, hb5⟩
      case measure => simp [intOf]; omega
    · have hjm2 : ¬ (j : Int) < (m : Int) := by omega
      have ej : j = m := by omega
      subst ej
      rw [HB.out] at ho
      go_wp2_with (refine wpList_load_r rfl (.tmp 3) rfl w.heap.size rfl xr ?_)
      refine (rcmany_of (j : Int) r A n c hn hmr hm HV _ (HR.out.keep hbw)).mono ?_
      rintro e w2 ⟨rfl, b2⟩
      go_wp2
      go_ret
      exact ⟨A', c', rfl, (ho.keep b2).base hb1.size, below_in hbw b2⟩
end Go.Proofs.YtndmblhkmgnpcaaGreat
