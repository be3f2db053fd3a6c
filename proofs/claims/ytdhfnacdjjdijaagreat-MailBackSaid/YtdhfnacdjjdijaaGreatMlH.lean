/-
  A page's bytes behind its kind.
-/
import Derived.Test.YtdhfnacdjjdijaaGreatMlG
namespace Go.Proofs.YtdhfnacdjjdijaaGreat
open Go.RowKit
set_option linter.unusedVariables false
set_option linter.unusedSimpArgs false

set_option maxHeartbeats 800000 in
theorem concat4 (f t : Int) (N : Int) (L : List UInt8) (k K : Nat) (hk : Hid (L.length = k)) (hK : Hid (7 + k = K)) (h9 : K ≤ 1000) (a0 a1 a2 a3 : Option Addr) (d0 d1 d2 d3 : Nat) (w : World) (g : Nat) (hg : w.heap.size = g) (h0 : Rd w a0 d0 (nB 3 f)) (h1 : Rd w a1 d1 (nB 3 t)) (h2 : Rd w a2 d2 (nB 1 N)) (h3 : Rd w a3 d3 L) :
    Calls Tryz.prog 100 #[.slice (some ⟨g, 0, none⟩) 4 4] (w.alloc (.cells #[.slice a0 3 d0, .slice a1 3 d1, .slice a2 1 d2, .slice a3 k d3] 32)) fun e w' => ∃ A c, e = .returned (.slice A K c) ∧ Own w' w.heap.size 5 A c (nB 3 f ++ (nB 3 t ++ (nB 1 N ++ L))) ∧ Below (w.alloc (.cells #[.slice a0 3 d0, .slice a1 3 d1, .slice a2 1 d2, .slice a3 k d3] 32)).heap.size (w.alloc (.cells #[.slice a0 3 d0, .slice a1 3 d1, .slice a2 1 d2, .slice a3 k d3] 32)) w' := by
  subst hg
  have hk' := hk.out
  have hK' := hK.out
  generalize hW : w.alloc _ = W
  have hc : ∀ (j : Nat) (v : Value), ([.slice a0 3 d0, .slice a1 3 d1, .slice a2 1 d2, .slice a3 k d3] : List Value)[j]? = some v → W.cell? ⟨w.heap.size, j, none⟩ = some v := fun j v hv => by
    subst hW
    rw [cell_of_row _ _ j _ _ (0, 0) (heap_alloc_last w _)]
    simpa using hv
  have hb : Below w.heap.size w W := by subst hW; exact (Below.refl _ _).alloc (Nat.le_refl _) _
  have hp : Parts W w.heap.size [nB 3 f, nB 3 t, nB 1 N, L] := by
    intro j hj
    match j, hj with
    | 0, _ => exact ⟨a0, d0, by simpa [nB_length] using hc 0 _ rfl, h0.keep hb⟩
    | 1, _ => exact ⟨a1, d1, by simpa [nB_length] using hc 1 _ rfl, h1.keep hb⟩
    | 2, _ => exact ⟨a2, d2, by simpa [nB_length] using hc 2 _ rfl, h2.keep hb⟩
    | 3, _ => exact ⟨a3, d3, by simpa [hk'] using hc 3 _ rfl, h3.keep hb⟩
    | j + 4, h => exact absurd h (by simp)
  refine (concat_of w.heap.size 4 K _ (nB 3 f ++ (nB 3 t ++ (nB 1 N ++ L))) (hid rfl) (hid ⟨by simp, by simp [nB_length, hk']; omega⟩) (by omega) h9 (by omega) W hp).mono ?_
  rintro e w' ⟨A, c, rfl, h, b⟩
  exact ⟨A, c, rfl, h.mono hb.size, b⟩

set_option maxRecDepth 100000 in
set_option maxHeartbeats 3200000 in
theorem put_page (L : Nat) (m : Mld) (A : Option Addr) (n c : Nat) (hn : Hid (m.ops.length = n)) (hr0 : ∀ o ∈ m.ops, Opr o) (hm : mayK 8 m = true) (hl : Hid ((tailK 8 m).length = L)) (w : World) (hr : RdO w A c m.ops) :
    Calls Tryz.prog 99 #[.agg #[.int .u8 m.kd, .int .i64 m.us, .int .i64 m.se, .int .i64 m.co, .int .i64 m.fr, .int .i64 m.tt, .int .u8 m.ak, .int .i64 m.t0, .int .i64 m.t1, .int .i64 m.t2, .int .i64 m.t3, .slice A n c]] w (RetBs w (tailK 8 m) L) := by
  have h : (countB m.fr && countB m.tt && decide (m.ops.length ≤ 3) && opsB m.ops) = true := hm
  simp only [Bool.and_eq_true, decide_eq_true_eq] at h
  have h3 : n ≤ 3 := by have := hn.out; omega
  have h1 := countB_iff.1 h.1.1.1
  have h2 := countB_iff.1 h.1.1.2
  have HO := hid h.2
  have HT : Hid (tailK 8 m = nB 3 m.fr ++ (nB 3 m.tt ++ (nB 1 (n : Int) ++ opsb m.ops))) := hid (by rw [← hn.out]; rfl)
  obtain ⟨k, hk⟩ : ∃ k, (opsb m.ops).length = k := ⟨_, rfl⟩
  have hk9 : k ≤ 900 := by have := opsb_le h.2; omega
  have HK := hid hk
  have HL := hid (show 7 + k = L by rw [← hl.out, HT.out]; simp [nB_length, hk]; omega)
  have hL9 : L ≤ 1000 := by have := HL.out; omega
  have n0 : (0 : Int) ≤ (n : Int) := by omega
  have n9 : (n : Int) < 16777216 := by omega
  clear h hm hk
  go_enter Tryz.func99, Tryz.ntmps99
  go_wp2_with fail
  generalize hW : w.alloc _ = W
  have hbW : Below w.heap.size w W := by subst hW; go_grown
  have bx : BoxM W w.heap.size m A n c := by subst hW; exact boxM_new w m A n c _
  replace hr := hr.keep hbW
  clear hW
  have s4 := bx.c4
  have s5 := bx.c5
  have s11 := bx.c11
  have q4 := fun w' (h : Below W.heap.size W w') => keep h s4
  have q5 := fun w' (h : Below W.heap.size W w') => keep h s5
  have q11 := fun w' (h : Below W.heap.size W w') => keep h s11
  clear s4 s5 s11 bx
  have S0 : Below W.heap.size W W.drew := (Below.refl _ _).drew
  go_region_held (fun w' => Below W.heap.size W w') (with_reducible (first | assumption | exact S0 | exact Below.alloc (by assumption) (Below.size (by assumption)) _))
    (first
      | (go_at_call 63; have tX := fun X => dig_of 3 3 m.fr h1.1 h1.2 rfl (by omega) X; with_reducible refine (tX _).mono ?_; clear tX; rintro e w2 ⟨A2, rfl, ho2, hb2⟩; have cc2 := below_in (w := W) S0 hb2)
      | (go_at_call 63; have tX := fun X => dig_of 3 3 m.tt h2.1 h2.2 rfl (by omega) X; with_reducible refine (tX _).mono ?_; clear tX; rintro e w3 ⟨A3, rfl, ho3, hb3⟩; have cc3 := below_in (w := W) cc2 hb3)
      | (go_at_call 63; have tX := fun X => dig_of 1 1 (n : Int) n0 n9 rfl (by omega) X; with_reducible refine (tX _).mono ?_; clear tX; rintro e w4 ⟨A4, rfl, ho4, hb4⟩; have cc4 := below_in (w := W) cc3 hb4)
      | (go_at_call 70; have tX := fun X hX => opsBytes_of k A n c m.ops hn h3 hr0 HO.out HK X hX; with_reducible refine (tX _ (hr.keep cc4)).mono ?_; clear tX; rintro e w5 ⟨A5, c5, rfl, ho5, hb5⟩; have cc5 := below_in (w := W) cc4 hb5)
      | (go_at_call 100
         with_reducible refine (concat4 m.fr m.tt (n : Int) (opsb m.ops) k L HK HL hL9 _ _ _ _ _ _ _ _ _ _ ?_ ?_ ?_ ?_ ?_).mono ?_
         · simp
         · exact ((ho2.rd.keep hb3).keep hb4).keep hb5
         · exact (ho3.rd.keep hb4).keep hb5
         · exact ho4.rd.keep hb5
         · exact ho5.rd
         rintro e w9 ⟨A9, c9, rfl, ho9, b9⟩
         have cc9 := below_in (w := W) (below_al cc5 _) b9))
  all_goals
    have hB := below_in hbW cc9
    clear q4 q5 q11 cc2 cc3 cc4 cc5 cc9 hb2 hb3 hb4 hb5 ho2 ho3 ho4 ho5 b9 S0
    go_wp2
    go_ret
    exact ⟨A9, c9, rfl, by rw [HT.out]; exact ho9.rd, hB⟩
end Go.Proofs.YtdhfnacdjjdijaaGreat
