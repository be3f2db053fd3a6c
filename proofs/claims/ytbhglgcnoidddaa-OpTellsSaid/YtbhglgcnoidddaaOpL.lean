/-
  The bytes that each operation has: head.
-/
import Derived.Test.YtbhglgcnoidddaaOpK
import Derived.Deep.RegionHeld
namespace Go.Proofs.Ytbhglgcnoidddaa
open Go.RowKit
set_option linter.unusedVariables false
set_option linter.unusedSimpArgs false

theorem nB_one {z : Int} (h0 : 0 ≤ z) (h1 : z ≤ 255) : nB 1 z = [UInt8.ofNat z.toNat] := by
  have : z.toNat % 256 = z.toNat := by omega
  rw [nB, dg, dg, this]
  rfl
theorem lit_kd (w : World) (z : Int) (h0 : 0 ≤ z) (h1 : z ≤ 255) : Rd (w.alloc (.cells #[.int .u8 z] 5)) (some ⟨w.heap.size, 0, none⟩) 1 (nB 1 z) := by
  have e : ((UInt8.ofNat z.toNat).toNat : Int) = z := by rw [ofNat_toNat (by omega)]; omega
  have := lit_rd w [UInt8.ofNat z.toNat] (by simp)
  rw [nB_one h0 h1]
  simp only [u8s, List.map_cons, List.map_nil, e] at this
  exact this

set_option maxHeartbeats 800000 in
theorem concat5 (o : Opd) (a0 a1 a2 a3 a4 : Option Addr) (d0 d1 d2 d3 d4 : Nat) (w : World) (g : Nat) (hg : w.heap.size = g) (h0 : Rd w a0 d0 (nB 1 o.kd)) (h1 : Rd w a1 d1 (hB o.l o.c o.k)) (h2 : Rd w a2 d2 (nB 3 o.s)) (h3 : Rd w a3 d3 (iB o.fl o.fc o.fk o.fn)) (h4 : Rd w a4 d4 (nB 1 o.fm)) :
    Calls Try.prog 56 #[.slice (some ⟨g, 0, none⟩) 5 5] (w.alloc (.cells #[.slice a0 1 d0, .slice a1 6 d1, .slice a2 3 d2, .slice a3 13 d3, .slice a4 1 d4] 44)) fun e w' => ∃ A c, e = .returned (.slice A 24 c) ∧ Own w' w.heap.size 5 A c (headO o) ∧ Below (w.alloc (.cells #[.slice a0 1 d0, .slice a1 6 d1, .slice a2 3 d2, .slice a3 13 d3, .slice a4 1 d4] 44)).heap.size (w.alloc (.cells #[.slice a0 1 d0, .slice a1 6 d1, .slice a2 3 d2, .slice a3 13 d3, .slice a4 1 d4] 44)) w' := by
  subst hg
  generalize hW : w.alloc _ = W
  have hc : ∀ (j : Nat) (v : Value), ([.slice a0 1 d0, .slice a1 6 d1, .slice a2 3 d2, .slice a3 13 d3, .slice a4 1 d4] : List Value)[j]? = some v → W.cell? ⟨w.heap.size, j, none⟩ = some v := fun j v hv => by
    subst hW
    rw [cell_of_row _ _ j _ _ (0, 0) (heap_alloc_last w _)]
    simpa using hv
  have hb : Below w.heap.size w W := by subst hW; exact (Below.refl _ _).alloc (Nat.le_refl _) _
  have hp : Parts W w.heap.size [nB 1 o.kd, hB o.l o.c o.k, nB 3 o.s, iB o.fl o.fc o.fk o.fn, nB 1 o.fm] := by
    intro j hj
    match j, hj with
    | 0, _ => exact ⟨a0, d0, by simpa [nB_length] using hc 0 _ rfl, h0.keep hb⟩
    | 1, _ => exact ⟨a1, d1, by simpa [hB_length] using hc 1 _ rfl, h1.keep hb⟩
    | 2, _ => exact ⟨a2, d2, by simpa [nB_length] using hc 2 _ rfl, h2.keep hb⟩
    | 3, _ => exact ⟨a3, d3, by simpa [iB_length] using hc 3 _ rfl, h3.keep hb⟩
    | 4, _ => exact ⟨a4, d4, by simpa [nB_length] using hc 4 _ rfl, h4.keep hb⟩
    | j + 5, h => exact absurd h (by simp)
  refine (concat_of w.heap.size 5 24 _ (headO o) (hid rfl) (hid ⟨by simp [headO], headO_length o⟩) (by omega) (by omega) (by omega) W hp).mono ?_
  rintro e w' ⟨A, c, rfl, h, b⟩
  exact ⟨A, c, rfl, h.mono hb.size, b⟩

set_option maxRecDepth 100000 in
set_option maxHeartbeats 3200000 in
theorem head_of (o : Opd) (A : Option Addr) (n c : Nat) (hr : Opr o) (hm : mayO o = true) (w : World) :
    Calls Try.prog 30 #[.agg #[.int .u8 o.kd, .int .u8 o.l, .int .u32 o.c, .int .u8 o.k, .int .i64 o.s, .int .u8 o.fl, .int .u32 o.fc, .int .u8 o.fk, .int .i64 o.fn, .int .i64 o.fm, .int .u8 o.al, .int .u32 o.ac, .int .u8 o.ak, .int .i64 o.an, .int .u8 o.tl, .int .u32 o.tc, .slice A n c]] w fun e w' => ∃ A' c', e = .returned (.slice A' 24 c') ∧ Own w' w.heap.size 5 A' c' (headO o) ∧ Below w.heap.size w w' := by
  have md := maid hm
  have hh := md.hh
  have hI := mayS_I md.hs
  have han := hr.han
  have hid0 := hr.spn.idn
  have k0 := hr.k0
  have k1 := hr.k1
  have sn0 : 0 ≤ o.s := by have := md.s1; omega
  have sn9 : o.s < 9223372036854775808 := by have := md.s2; omega
  have m0 : 0 ≤ o.fm := by have := md.m1; omega
  have m9 : o.fm < 9223372036854775808 := by have := md.m2; omega
  have HS := hid (show ((o.s.toNat : Nat) : Int) = o.s by omega)
  have HM := hid (show ((o.fm.toNat : Nat) : Int) = o.fm by omega)
  have HH := hid hh
  have HI := hid hI
  clear hr hm md hh hI
  go_enter Try.func30, Try.ntmps30
  go_wp2_with fail
  refine (putH_of _ _ _ han HH.out _).mono ?_
  rintro e w1 ⟨A1, c1, rfl, hr1, b1⟩
  have bx := (boxO_new w o A n c 35).keep b1
  have hb := past_alloc b1
  have bx1 := bx
  obtain ⟨s0, s1, s2, s3, s4, s5, s6, s7, s8, s9, s10, s11, s12, s13, s14, s15, s16⟩ := bx1
  clear b1
  go_wp2_with fail
  refine (putI_of _ _ _ _ hid0 HI.out _).mono ?_
  rintro e W ⟨A2, c2, rfl, ho2, b2⟩
  replace hr1 := hr1.keep b2
  have hr2 := ho2.rd
  replace bx := bx.keep b2
  replace hb := below_in hb b2
  clear s0 s1 s2 s3 s4 s5 s6 s7 s8 s9 s10 s11 s12 s13 s14 s15 s16 ho2 b2
  obtain ⟨s0, s1, s2, s3, s4, s5, s6, s7, s8, s9, s10, s11, s12, s13, s14, s15, s16⟩ := bx
  (have q0 := fun w' (h : Below W.heap.size W w') => keep h s0; have q1 := fun w' (h : Below W.heap.size W w') => keep h s1; have q2 := fun w' (h : Below W.heap.size W w') => keep h s2; have q3 := fun w' (h : Below W.heap.size W w') => keep h s3; have q4 := fun w' (h : Below W.heap.size W w') => keep h s4; have q5 := fun w' (h : Below W.heap.size W w') => keep h s5; have q6 := fun w' (h : Below W.heap.size W w') => keep h s6; have q7 := fun w' (h : Below W.heap.size W w') => keep h s7; have q8 := fun w' (h : Below W.heap.size W w') => keep h s8; have q9 := fun w' (h : Below W.heap.size W w') => keep h s9; have q10 := fun w' (h : Below W.heap.size W w') => keep h s10; have q11 := fun w' (h : Below W.heap.size W w') => keep h s11; have q12 := fun w' (h : Below W.heap.size W w') => keep h s12; have q13 := fun w' (h : Below W.heap.size W w') => keep h s13; have q14 := fun w' (h : Below W.heap.size W w') => keep h s14; have q15 := fun w' (h : Below W.heap.size W w') => keep h s15; have q16 := fun w' (h : Below W.heap.size W w') => keep h s16)
  clear s0 s1 s2 s3 s4 s5 s6 s7 s8 s9 s10 s11 s12 s13 s14 s15 s16
  clear q1 q2 q3 q5 q6 q7 q8 q10 q11 q12 q13 q14 q15 q16
  have S0 : Below W.heap.size W W.drew := (Below.refl _ _).drew
  have S1 : Below W.heap.size W (W.alloc (.cells #[.int .u8 o.kd] 5)).drew := ((Below.refl _ _).alloc (Nat.le_refl _) _).drew
  have hr0 : Rd (W.alloc (.cells #[.int .u8 o.kd] 5)).drew (some ⟨W.heap.size, 0, none⟩) 1 (nB 1 o.kd) := lit_kd W _ k0 k1
  go_wp2_with fail
  go_region_held (fun w' => Below W.heap.size W w') (with_reducible (first | assumption | exact S0 | exact S1 | exact Below.alloc (by assumption) (Below.size (by assumption)) _))
    (first
      | (go_at_call 57; have tX := fun X => digitsL_of 3 3 o.s o.s.toNat HS sn0 sn9 rfl (by omega) X; with_reducible refine (tX _).mono ?_; clear tX; rintro e w2 ⟨A3, rfl, ho3, hb3⟩; replace ho3 : Own w2 _ 5 A3 3 (nB 3 o.s) := ho3; have cc3 := below_in (w := W) (by first | exact S1 | assumption) hb3)
      | (go_at_call 57; have tX := fun X => digitsL_of 1 1 o.fm o.fm.toNat HM m0 m9 rfl (by omega) X; with_reducible refine (tX _).mono ?_; clear tX; rintro e w3 ⟨A4, rfl, ho4, hb4⟩; replace ho4 : Own w3 _ 5 A4 1 (nB 1 o.fm) := ho4; have cc4 := below_in (w := W) (by first | exact S1 | assumption) hb4)
      | (go_at_call 56
         with_reducible refine (concat5 o _ _ _ _ _ _ _ _ _ _ _ _ ?_ ?_ ?_ ?_ ?_ ?_).mono ?_
         · simp
         · first | exact (hr0.keep hb3).keep hb4 | exact (hr0.keep hb4).keep hb3 | exact (lit_kd w2 _ k0 k1).keep hb4 | exact (lit_kd w3 _ k0 k1).keep hb3 | exact lit_kd w3 _ k0 k1 | exact lit_kd w2 _ k0 k1
         · exact hr1.keep (by with_reducible first | exact cc3 | exact cc4 | exact below_al cc3 _ | exact below_al cc4 _)
         · with_reducible first | exact ho3.rd | exact ho3.rd.keep hb4 | exact (ho3.rd.alloc _).keep hb4 | exact (ho3.rd.keep hb4).alloc _ | exact ho3.rd.alloc _
         · exact hr2.keep (by with_reducible first | exact cc3 | exact cc4 | exact below_al cc3 _ | exact below_al cc4 _)
         · with_reducible first | exact ho4.rd | exact ho4.rd.keep hb3 | exact (ho4.rd.alloc _).keep hb3 | exact (ho4.rd.keep hb3).alloc _ | exact ho4.rd.alloc _
         rintro e w9 ⟨A9, c9, rfl, ho9, b9⟩
         have cc9 := below_in (w := W) (below_al (by with_reducible first | exact cc3 | exact cc4 | exact below_al cc3 _ | exact below_al cc4 _) _) b9
         have ho := ho9.mono (Nat.le_trans hb.size (Below.size (w := W) (by with_reducible first | exact cc3 | exact cc4 | exact below_al cc3 _ | exact below_al cc4 _)))))
  all_goals
    have hB := below_in hb cc9
    clear cc9 b9 ho9 cc3 cc4 hb3 hb4 ho3 ho4 hr0 hr1 hr2 S0 S1 q0 q4 q9
    go_wp2
    go_ret
    exact ⟨A9, c9, rfl, ho, hB⟩
end Go.Proofs.Ytbhglgcnoidddaa
