/-
  The contract of grant.Get.
-/
import Derived.Test.YtbigppdaoakkfaaGrY
import Derived.Test.YtbigppdaoakkfaaGrG
import Derived.BigRegion
namespace Go.Proofs.Ytbigppdaoakkfaa
open Go.RowKit
set_option linter.unusedVariables false
set_option linter.unusedSimpArgs false

/-- The grant that bytes tell. -/
def gg (l : List UInt8) : Gr := ⟨((l.getD 0 0).toNat : Int), ((l.getD 2 0).toNat : Int), (vl ((l.drop 3).take 4) : Int), l.getD 1 0 == 1⟩
def okG (l : List UInt8) : Bool := decide (l.length = 7) && decide ((l.getD 1 0).toNat ≤ 1) && mayG (gg l)
def pickG (q : Bool) (x : Gr) : Gr := if q = true then x else zG
theorem seven_of {l : List UInt8} (h : l.length = 7) : ∃ b0 b1 b2 b3 b4 b5 b6, l = [b0, b1, b2, b3, b4, b5, b6] := by
  match l, h with
  | [b0, b1, b2, b3, b4, b5, b6], _ => exact ⟨b0, b1, b2, b3, b4, b5, b6, rfl⟩
theorem u8_int (b : UInt8) : 0 ≤ (b.toNat : Int) ∧ (b.toNat : Int) ≤ 255 := by have := b.toNat_lt; omega
theorem eq_one (b : UInt8) : ((b.toNat : Int) == 1) = (b == 1) := by
  rw [Bool.eq_iff_iff, beq_iff_eq, beq_iff_eq]
  constructor
  · intro h
    have : b.toNat = (1 : UInt8).toNat := by have e : (1 : UInt8).toNat = 1 := rfl; omega
    exact UInt8.toNat_inj.1 this
  · rintro rfl; rfl
theorem info_G : (Try.prog.info? 36).map (fun i => (i.zero, i.size)) = some (some (.agg #[.int .i64 0, .int .u8 0, .int .u32 0, .bool false]), 4) := by kernel_rfl

theorem past_ad {w w2 : World} {o : Obj} (b : Below (w.alloc o).drew.heap.size (w.alloc o).drew w2) : Below w.heap.size w w2 := (((Below.refl _ w).alloc (Nat.le_refl _) o).drew).trans (b.mono (by simp [World.drew]))

set_option maxRecDepth 100000 in
set_option maxHeartbeats 1600000 in
theorem gget_of (q : Bool) (u l0 l1 : Int) (ok : Bool) (A : Option Addr) (n c : Nat) (l : List UInt8) (hn : Hid (l.length = n)) (hx : Hid (okG l = q ∧ pickG q (gg l) = ⟨u, l0, l1, ok⟩)) (w : World) (hr : Rd w A c l) :
    Calls Try.prog 12 #[.slice A n c] w fun e w' => e = .returned (.tuple #[.agg #[.int .i64 u, .int .u8 l0, .int .u32 l1, .bool ok], .int .i64 (er q)]) ∧ Below w.heap.size w w' := by
  by_cases h7 : n = 7
  · subst h7
    obtain ⟨b0, b1, b2, b3, b4, b5, b6, rfl⟩ := seven_of hn.out
    obtain ⟨z0, hz0⟩ : ∃ z : Int, (b0.toNat : Int) = z := ⟨_, rfl⟩
    obtain ⟨z1, hz1⟩ : ∃ z : Int, (b1.toNat : Int) = z := ⟨_, rfl⟩
    obtain ⟨z2, hz2⟩ : ∃ z : Int, (b2.toNat : Int) = z := ⟨_, rfl⟩
    obtain ⟨z3, hz3⟩ : ∃ z : Int, (vl [b3, b4, b5, b6] : Int) = z := ⟨_, rfl⟩
    have y0 := u8_int b0
    have y1 := u8_int b1
    have y2 := u8_int b2
    have y3 : 0 ≤ z3 ∧ z3 ≤ 4294967295 := by
      have h := vl_lt [b3, b4, b5, b6]
      simp only [List.length_cons, List.length_nil, Nat.reduceAdd, Nat.reducePow] at h
      omega
    rw [hz0] at y0
    rw [hz1] at y1
    rw [hz2] at y2
    have hgg : gg [b0, b1, b2, b3, b4, b5, b6] = ⟨z0, z2, z3, z1 == 1⟩ := by
      rw [← hz0, ← hz1, ← hz2, ← hz3, eq_one]; rfl
    have hok : okG [b0, b1, b2, b3, b4, b5, b6] = (decide (z1 ≤ 1) && mayG ⟨z0, z2, z3, z1 == 1⟩) := by
      rw [okG, hgg]
      have e : decide (([b0, b1, b2, b3, b4, b5, b6] : List UInt8).length = 7) = true := rfl
      have e2 : decide ((([b0, b1, b2, b3, b4, b5, b6] : List UInt8).getD 1 0).toNat ≤ 1) = decide (z1 ≤ 1) := by
        rw [decide_eq_decide, ← hz1]
        show b1.toNat ≤ 1 ↔ _
        omega
      rw [e, e2, Bool.true_and]
    have hx2 := hx.out
    rw [hgg, hok] at hx2
    have HX := hid hx2
    have HTY : Gr.typed ⟨z0, z2, z3, z1 == 1⟩ := ⟨⟨by show _ ≤ z0; omega, by show z0 ≤ _; omega⟩, ⟨by show 0 ≤ z2; omega, by show z2 ≤ _; omega, by show 0 ≤ z3; omega, by show z3 ≤ _; omega⟩⟩
    have hc7 : 7 ≤ c := hr.len
    have hcm : (c : Int) ≤ 9223372036854775807 := by have := hr.cap; omega
    obtain ⟨b, o, rfl, hcell⟩ := hr.at_ (by simp)
    have p0 : w.cell? ⟨b, o, none⟩ = some (.int .u8 z0) := by have := hcell 0 (by simp); rw [← hz0]; simpa using this
    have p1 : w.cell? ⟨b, o + 1, none⟩ = some (.int .u8 z1) := by have := hcell 1 (by simp); rw [← hz1]; simpa using this
    have HD : Hid (Rd w (some ⟨b, o + 2, none⟩) (c - 2) [b2, b3, b4, b5, b6]) := hid (hr.drop 2 (by simp))
    have hc2 : ¬ c = 2 := by omega
    have HH : Hid (gL [b2, b3, b4, b5, b6, 0] = z2 ∧ gC [b2, b3, b4, b5, b6, 0] = z3 ∧ gK [b2, b3, b4, b5, b6, 0] = 0) := hid ⟨hz2, hz3, rfl⟩
    have P0 := hid p0
    have P1 := hid p1
    replace p0 := fun o => keepa p0 o
    replace p1 := fun o => keepa p1 o
    clear hx hx2 hok hgg hcell hr hn hz0 hz1 hz2 hz3
    obtain ⟨i0, hi0, hj0, hj1, hj2⟩ := info_parts info_u8
    by_cases h1 : z1 ≤ 1
    · have d1 : decide (1 < z1) = false := decide_eq_false (by omega)
      have HX2 : Hid (mayG ⟨z0, z2, z3, z1 == 1⟩ = q ∧ pickG q ⟨z0, z2, z3, z1 == 1⟩ = ⟨u, l0, l1, ok⟩) := hid (by have := HX.out; rwa [decide_eq_true h1, Bool.true_and] at this)
      cases hl : mayL z2
      · have HK : Hid (okH [b2, b3, b4, b5, b6, 0] = false ∧ pick false (gL [b2, b3, b4, b5, b6, 0]) = 0 ∧ pick false (gC [b2, b3, b4, b5, b6, 0]) = 0 ∧ pick false (gK [b2, b3, b4, b5, b6, 0]) = 0) := hid (by
          refine ⟨?_, rfl, rfl, rfl⟩
          rw [okH, HH.out.1, HH.out.2.2, mayH, hl, Bool.false_and, Bool.and_false])
        have HV := hid (show q = false by
          rw [← HX2.out.1]
          cases hm : mayG ⟨z0, z2, z3, z1 == 1⟩
          · rfl
          · have := mayG_l hm
            rw [show mayL (Gr.l ⟨z0, z2, z3, z1 == 1⟩) = mayL z2 from rfl, hl] at this
            cases this)
        have HV2 := hid (show (⟨0, 0, 0, false⟩ : Gr) = ⟨u, l0, l1, ok⟩ by have := HX2.out.2; rw [HV.out] at this; exact this)
        obtain rfl := HV.out
        have e := HV2.out
        injection e with e1 e2 e3 e4
        subst e1 e2 e3 e4
        clear hl HX HX2 HV HV2
        go_enter Try.func12, Try.ntmps12
        go_wp2_with (first
          | (at_builtin; refine wpList_append_rd rfl (.const (.slice none 0 0)) (.tmp 20) _ rfl (w.heap.size + 1) 5 Try.underlying38 hi0 hj0 hj1 hj2 none 0 0 [] (hid rfl) rfl (Own.nil _ _ _) (some ⟨b, o + 2, none⟩) 5 (c - 2) [b2, b3, b4, b5, b6] (hid rfl) rfl (HD.out.alloc _) (by omega) (by simp) ?_; intro A1 c1 w1 ho1 hb1)
          | (at_builtin; refine wpList_append_rd rfl (.tmp 21) (.tmp 22) _ rfl (w.heap.size + 1) 5 Try.underlying38 hi0 hj0 hj1 hj2 A1 5 c1 [b2, b3, b4, b5, b6] (hid rfl) rfl (ho1.keep ((Below.refl _ _).alloc (Nat.le_refl _) _)) (some ⟨w1.heap.size, 0, none⟩) 1 1 [0] (hid rfl) rfl (lit_byte w1 0 0 (hid rfl)) (by omega) (by have := hb1.size; simp at *; omega) ?_; intro A2 c2 w2 ho2 hb2))
        have hB : Below (w.heap.size + 1) (w.alloc (.cells #[.int .i64 0, .int .u8 0, .int .u32 0, .bool false] 36)) w2 := (hb1.alloc (by have := hb1.size; simpa using this) _).trans hb2
        (have t0 : w2.cell? ⟨w.heap.size, 0, none⟩ = some (.int .i64 0) := (keepB hB (by show w.heap.size < _; omega) (by simp [go_sem])); have t1 : w2.cell? ⟨w.heap.size, 1, none⟩ = some (.int .u8 0) := (keepB hB (by show w.heap.size < _; omega) (by simp [go_sem])); have t2 : w2.cell? ⟨w.heap.size, 2, none⟩ = some (.int .u32 0) := (keepB hB (by show w.heap.size < _; omega) (by simp [go_sem])); have t3 : w2.cell? ⟨w.heap.size, 3, none⟩ = some (.bool false) := (keepB hB (by show w.heap.size < _; omega) (by simp [go_sem])))
        (have f0 : w2.frozen? ⟨w.heap.size, 0, none⟩ = false := (keepzB hB (by show w.heap.size < _; omega) (by simp [go_sem])); have f1 : w2.frozen? ⟨w.heap.size, 1, none⟩ = false := (keepzB hB (by show w.heap.size < _; omega) (by simp [go_sem])); have f2 : w2.frozen? ⟨w.heap.size, 2, none⟩ = false := (keepzB hB (by show w.heap.size < _; omega) (by simp [go_sem])); have f3 : w2.frozen? ⟨w.heap.size, 3, none⟩ = false := (keepzB hB (by show w.heap.size < _; omega) (by simp [go_sem])))
        have hbw : Below w.heap.size w w2 := (show Below w.heap.size w _ by go_grown).trans (hB.mono (by omega))
        have hz2 : w.heap.size + 1 ≤ w2.heap.size := by have := hB.size; simpa using this
        clear hB hb1 hb2 ho1
        refine (getHandle_of false 0 0 0 A2 6 c2 [b2, b3, b4, b5, b6, 0] (hid rfl) HK _ ho2.rd).mono ?_
        rintro e w3 ⟨rfl, b3⟩
        have e8 : er false = 8 := rfl
        rw [e8]
        (replace f0 := keepz b3 t0 f0; replace f1 := keepz b3 t1 f1; replace f2 := keepz b3 t2 f2; replace f3 := keepz b3 t3 f3)
        (replace t0 := keep b3 t0; replace t1 := keep b3 t1; replace t2 := keep b3 t2; replace t3 := keep b3 t3)
        have hz3 := b3.size
        replace hbw := below_in hbw b3
        clear b3 ho2
        replace f0 := fun o => keepfa t0 f0 o
        replace f1 := fun o => keepfa t1 f1 o
        replace f2 := fun o => keepfa t2 f2 o
        replace f3 := fun o => keepfa t3 f3 o
        (replace t0 := fun o => keepa t0 o; replace t1 := fun o => keepa t1 o; replace t2 := fun o => keepa t2 o; replace t3 := fun o => keepa t3 o)
        go_wp2
        exact bodyPost_ret (v := .tuple #[.agg #[.int .i64 0, .int .u8 0, .int .u32 0, .bool false], .int .i64 8]) (by simp [results, Try.results12, go_sem, t0, t1, t2, t3]) rfl ⟨rfl, set4 (hbw.alloc hbw.size _) (Nat.le_refl _) _ _ _ _⟩
      · have HK : Hid (okH [b2, b3, b4, b5, b6, 0] = true ∧ pick true (gL [b2, b3, b4, b5, b6, 0]) = z2 ∧ pick true (gC [b2, b3, b4, b5, b6, 0]) = z3 ∧ pick true (gK [b2, b3, b4, b5, b6, 0]) = 0) := hid (by
          refine ⟨?_, HH.out.1, HH.out.2.1, HH.out.2.2⟩
          rw [okH, HH.out.1, HH.out.2.2, mayH, hl]
          rfl)
        clear hl
        go_enter Try.func12, Try.ntmps12
        go_wp2_with (first
          | (at_builtin; refine wpList_append_rd rfl (.const (.slice none 0 0)) (.tmp 20) _ rfl (w.heap.size + 1) 5 Try.underlying38 hi0 hj0 hj1 hj2 none 0 0 [] (hid rfl) rfl (Own.nil _ _ _) (some ⟨b, o + 2, none⟩) 5 (c - 2) [b2, b3, b4, b5, b6] (hid rfl) rfl (HD.out.alloc _) (by omega) (by simp) ?_; intro A1 c1 w1 ho1 hb1)
          | (at_builtin; refine wpList_append_rd rfl (.tmp 21) (.tmp 22) _ rfl (w.heap.size + 1) 5 Try.underlying38 hi0 hj0 hj1 hj2 A1 5 c1 [b2, b3, b4, b5, b6] (hid rfl) rfl (ho1.keep ((Below.refl _ _).alloc (Nat.le_refl _) _)) (some ⟨w1.heap.size, 0, none⟩) 1 1 [0] (hid rfl) rfl (lit_byte w1 0 0 (hid rfl)) (by omega) (by have := hb1.size; simp at *; omega) ?_; intro A2 c2 w2 ho2 hb2))
        have hB : Below (w.heap.size + 1) (w.alloc (.cells #[.int .i64 0, .int .u8 0, .int .u32 0, .bool false] 36)) w2 := (hb1.alloc (by have := hb1.size; simpa using this) _).trans hb2
        (have t0 : w2.cell? ⟨w.heap.size, 0, none⟩ = some (.int .i64 0) := (keepB hB (by show w.heap.size < _; omega) (by simp [go_sem])); have t1 : w2.cell? ⟨w.heap.size, 1, none⟩ = some (.int .u8 0) := (keepB hB (by show w.heap.size < _; omega) (by simp [go_sem])); have t2 : w2.cell? ⟨w.heap.size, 2, none⟩ = some (.int .u32 0) := (keepB hB (by show w.heap.size < _; omega) (by simp [go_sem])); have t3 : w2.cell? ⟨w.heap.size, 3, none⟩ = some (.bool false) := (keepB hB (by show w.heap.size < _; omega) (by simp [go_sem])))
        (have f0 : w2.frozen? ⟨w.heap.size, 0, none⟩ = false := (keepzB hB (by show w.heap.size < _; omega) (by simp [go_sem])); have f1 : w2.frozen? ⟨w.heap.size, 1, none⟩ = false := (keepzB hB (by show w.heap.size < _; omega) (by simp [go_sem])); have f2 : w2.frozen? ⟨w.heap.size, 2, none⟩ = false := (keepzB hB (by show w.heap.size < _; omega) (by simp [go_sem])); have f3 : w2.frozen? ⟨w.heap.size, 3, none⟩ = false := (keepzB hB (by show w.heap.size < _; omega) (by simp [go_sem])))
        have hbw : Below w.heap.size w w2 := (show Below w.heap.size w _ by go_grown).trans (hB.mono (by omega))
        have hz2 : w.heap.size + 1 ≤ w2.heap.size := by have := hB.size; simpa using this
        clear hB hb1 hb2 ho1
        refine (getHandle_of true z2 z3 0 A2 6 c2 [b2, b3, b4, b5, b6, 0] (hid rfl) HK _ ho2.rd).mono ?_
        rintro e w3 ⟨rfl, b3⟩
        have e0 : er true = 0 := rfl
        rw [e0]
        (replace f0 := keepz b3 t0 f0; replace f1 := keepz b3 t1 f1; replace f2 := keepz b3 t2 f2; replace f3 := keepz b3 t3 f3)
        (replace t0 := keep b3 t0; replace t1 := keep b3 t1; replace t2 := keep b3 t2; replace t3 := keep b3 t3)
        replace hbw := below_in hbw b3
        have hz3 := Nat.le_trans hz2 b3.size
        clear b3 ho2
        have k0 := keep hbw P0.out
        have k1 := keep hbw P1.out
        go_wp2_with fail
        generalize hW : w3.alloc _ = W
        have hbW : Below w3.heap.size w3 W := by rw [← hW]; go_grown
        (have s0 : W.cell? ⟨w3.heap.size, 0, none⟩ = some (.int .u8 z2) := ((by rw [← hW]; simp [go_sem])); have s1 : W.cell? ⟨w3.heap.size, 1, none⟩ = some (.int .u32 z3) := ((by rw [← hW]; simp [go_sem])); have s2 : W.cell? ⟨w3.heap.size, 2, none⟩ = some (.int .u8 0) := ((by rw [← hW]; simp [go_sem])))
        (replace f0 := keepz hbW t0 f0; replace f1 := keepz hbW t1 f1; replace f2 := keepz hbW t2 f2; replace f3 := keepz hbW t3 f3)
        (replace t0 := keep hbW t0; replace t1 := keep hbW t1; replace t2 := keep hbW t2; replace t3 := keep hbW t3)
        replace k0 := keep hbW k0
        replace k1 := keep hbW k1
        replace hbw := below_in hbw hbW
        clear hW p0 p1
        cases hq : mayG ⟨z0, z2, z3, z1 == 1⟩
        · have HQ := hid hq
          have HV := hid (show q = false by rw [← HX2.out.1, hq])
          have HV2 := hid (show (⟨0, 0, 0, false⟩ : Gr) = ⟨u, l0, l1, ok⟩ by have := HX2.out.2; rw [HV.out] at this; exact this)
          obtain rfl := HV.out
          have e := HV2.out
          injection e with e1 e2 e3 e4
          subst e1 e2 e3 e4
          clear hq HX HX2 HV HV2
          have k0a := fun o => keepa k0 o
          have k1a := fun o => keepa k1 o
          have s0a := fun o => keepa s0 o
          have s1a := fun o => keepa s1 o
          go_region
          all_goals
            go_wp2_with fail
            refine (gcheck_of false z0 z2 z3 (z1 == 1) HTY HQ _).mono ?_
            rintro e w4 ⟨rfl, b4⟩
            have e8 : er false = 8 := rfl
            rw [e8]
            replace b4 := past_ad b4
            (replace f0 := keepz b4 t0 f0; replace f1 := keepz b4 t1 f1; replace f2 := keepz b4 t2 f2; replace f3 := keepz b4 t3 f3)
            (replace t0 := keep b4 t0; replace t1 := keep b4 t1; replace t2 := keep b4 t2; replace t3 := keep b4 t3)
            replace hbw := below_in hbw b4
            go_wp2
            exact bodyPost_ret (v := .tuple #[.agg #[.int .i64 0, .int .u8 0, .int .u32 0, .bool false], .int .i64 8]) (by simp [results, Try.results12, go_sem, t0, t1, t2, t3]) rfl ⟨rfl, set4 hbw (Nat.le_refl _) _ _ _ _⟩
        · have HQ := hid hq
          have HV := hid (show q = true by rw [← HX2.out.1, hq])
          have HV2 := hid (show (⟨z0, z2, z3, z1 == 1⟩ : Gr) = ⟨u, l0, l1, ok⟩ by have := HX2.out.2; rw [HV.out] at this; exact this)
          obtain rfl := HV.out
          have e := HV2.out
          injection e with e1 e2 e3 e4
          subst e1 e2 e3 e4
          clear hq HX HX2 HV HV2
          have k0a := fun o => keepa k0 o
          have k1a := fun o => keepa k1 o
          have s0a := fun o => keepa s0 o
          have s1a := fun o => keepa s1 o
          go_region
          all_goals
            go_wp2_with fail
            refine (gcheck_of true z0 z2 z3 (z1 == 1) HTY HQ _).mono ?_
            rintro e w4 ⟨rfl, b4⟩
            have e9 : er true = 0 := rfl
            rw [e9]
            (have v0 : w4.cell? ⟨W.heap.size, 0, none⟩ = some (.int .i64 z0) := (keep b4 (by simp [go_sem])); have v1 : w4.cell? ⟨W.heap.size, 1, none⟩ = some (.int .u8 z2) := (keep b4 (by simp [go_sem])); have v2 : w4.cell? ⟨W.heap.size, 2, none⟩ = some (.int .u32 z3) := (keep b4 (by simp [go_sem])); have v3 : w4.cell? ⟨W.heap.size, 3, none⟩ = some (.bool (z1 == 1)) := (keep b4 (by simp [go_sem])))
            replace b4 := past_ad b4
            (replace f0 := keepz b4 t0 f0; replace f1 := keepz b4 t1 f1; replace f2 := keepz b4 t2 f2; replace f3 := keepz b4 t3 f3)
            (replace t0 := keep b4 t0; replace t1 := keep b4 t1; replace t2 := keep b4 t2; replace t3 := keep b4 t3)
            replace hbw := below_in hbw b4
            go_wp2
            exact bodyPost_ret (v := .tuple #[.agg #[.int .i64 z0, .int .u8 z2, .int .u32 z3, .bool (z1 == 1)], .int .i64 0]) (by simp [results, Try.results12, go_sem, t0, t1, t2, t3]) rfl ⟨rfl, set4 hbw (Nat.le_refl _) _ _ _ _⟩
    · have d1 : decide (1 < z1) = true := decide_eq_true (by omega)
      have HV := hid (show q = false by rw [← HX.out.1, decide_eq_false h1, Bool.false_and])
      have HV2 := hid (show (⟨0, 0, 0, false⟩ : Gr) = ⟨u, l0, l1, ok⟩ by have := HX.out.2; rw [HV.out] at this; exact this)
      obtain rfl := HV.out
      have e := HV2.out
      injection e with e1 e2 e3 e4
      subst e1 e2 e3 e4
      clear HX HV HV2
      go_enter Try.func12, Try.ntmps12
      go_wp2
      exact bodyPost_ret (v := .tuple #[.agg #[.int .i64 0, .int .u8 0, .int .u32 0, .bool false], .int .i64 8]) (by simp [results, Try.results12, go_sem]) rfl ⟨rfl, by go_grown⟩
  · have hq : q = false := by
      have := hx.out.1
      rw [okG, hn.out] at this
      simpa [h7] using this.symm
    subst hq
    have e := hx.out.2
    injection e with e1 e2 e3 e4
    subst e1 e2 e3 e4
    have h7' : ((n : Int) != 7) = true := by simp; omega
    clear h7 hx
    go_enter Try.func12, Try.ntmps12
    go_wp2
    exact bodyPost_ret (v := .tuple #[.agg #[.int .i64 0, .int .u8 0, .int .u32 0, .bool false], .int .i64 8]) (by simp [results, Try.results12, go_sem]) rfl ⟨rfl, by go_grown⟩
end Go.Proofs.Ytbigppdaoakkfaa
