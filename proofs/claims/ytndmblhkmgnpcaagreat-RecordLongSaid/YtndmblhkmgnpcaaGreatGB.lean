/-
  The reference of grants: May, Bytes, Get (stage 7).
-/
import Derived.Test.YtndmblhkmgnpcaaGreatGA
import Derived.BigRegion
import Derived.OwnWalk
namespace Go.Proofs.YtndmblhkmgnpcaaGreat
open Go.RowKit
set_option linter.unusedVariables false
set_option linter.unusedSimpArgs false

theorem rMay_of (q : Bool) (l c : Int) (h : Hid (mayL l = q)) (w : World) :
    Calls Tryz.prog 91 #[.agg #[.int .u8 l, .int .u32 c]] w fun e w' => e = .returned (.bool q) ∧ Below w.heap.size w w' := by rw [← h.out]; exact rMay_any l c w
set_option maxHeartbeats 800000 in
theorem rClear_of (q : Bool) (l c : Int) (b : Bool) (h : Hid (clearB ⟨l, c, b⟩ = q)) (w : World) :
    Calls Tryz.prog 96 #[.agg #[.int .u8 l, .int .u32 c, .bool b]] w fun e w' => e = .returned (.bool q) ∧ Below w.heap.size w w' := by
  have hE := eql_label
  cases hm : mayL l
  · have HV := hid (show q = false by rw [← h.out, clearB]; simp [hm])
    have HM := hid hm
    clear hm
    go_enter Tryz.func96, Tryz.ntmps96
    go_wp2_with fail
    refine (rMay_of false l c HM _).mono ?_
    rintro e w1 ⟨rfl, b1⟩
    replace b1 := past_alloc b1
    go_wp2
    go_ret
    exact ⟨ret_bool HV.out.symm, b1⟩
  · have HM := hid hm
    cases b
    · have HV := hid (show sameL l c 0 0 = q by rw [← h.out, clearB]; simp [hm])
      clear hm
      go_enter Tryz.func96, Tryz.ntmps96
      go_wp2_with fail
      refine (rMay_of true l c HM _).mono ?_
      rintro e w1 ⟨rfl, b1⟩
      (have s0 : w1.cell? ⟨w.heap.size, 0, none⟩ = some (.int .u8 l) := (keep b1 (by simp [go_sem])); have s1 : w1.cell? ⟨w.heap.size, 1, none⟩ = some (.int .u32 c) := (keep b1 (by simp [go_sem])); have s2 : w1.cell? ⟨w.heap.size, 2, none⟩ = some (.bool false) := (keep b1 (by simp [go_sem])))
      replace b1 := past_alloc b1
      go_wp2
      go_ret
      exact ⟨ret_bool HV.out, b1⟩
    · have HV := hid (show q = true by rw [← h.out, clearB]; simp [hm])
      clear hm
      go_enter Tryz.func96, Tryz.ntmps96
      go_wp2_with fail
      refine (rMay_of true l c HM _).mono ?_
      rintro e w1 ⟨rfl, b1⟩
      (have s0 : w1.cell? ⟨w.heap.size, 0, none⟩ = some (.int .u8 l) := (keep b1 (by simp [go_sem])); have s1 : w1.cell? ⟨w.heap.size, 1, none⟩ = some (.int .u32 c) := (keep b1 (by simp [go_sem])); have s2 : w1.cell? ⟨w.heap.size, 2, none⟩ = some (.bool true) := (keep b1 (by simp [go_sem])))
      replace b1 := past_alloc b1
      go_wp2
      go_ret
      exact ⟨ret_bool HV.out.symm, b1⟩

end Go.Proofs.YtndmblhkmgnpcaaGreat
namespace Go.Proofs.YtndmblhkmgnpcaaGreat
open Go.RowKit
set_option linter.unusedVariables false
set_option linter.unusedSimpArgs false

set_option maxRecDepth 100000 in
set_option maxHeartbeats 800000 in
theorem rgmay_of (q : Bool) (u l c : Int) (b : Bool) (hq : Hid (mayG ⟨u, l, c, b⟩ = q)) (w : World) :
    Calls Tryz.prog 68 #[.agg #[.int .i64 u, .int .u8 l, .int .u32 c, .bool b]] w fun e w' => e = .returned (.bool q) ∧ Below w.heap.size w w' := by
  by_cases h0 : u < 0
  · have d1 : decide (0 ≤ u) = false := decide_eq_false (by omega)
    have HV := hid (show q = false by rw [← hq.out, mayG, inR, decide_eq_false (by show ¬ (0 ≤ u ∧ u ≤ 7); omega), Bool.false_and])
    clear h0 hq
    go_enter Tryz.func68, Tryz.ntmps68
    go_wp2
    go_ret
    exact ⟨by rw [HV.out]; rfl, by go_grown⟩
  · have d1 : decide (0 ≤ u) = true := decide_eq_true (by omega)
    by_cases h8 : 8 ≤ u
    · have d2 : decide (u < 8) = false := decide_eq_false (by omega)
      have HV := hid (show q = false by rw [← hq.out, mayG, inR, decide_eq_false (by show ¬ (0 ≤ u ∧ u ≤ 7); omega), Bool.false_and])
      clear h0 h8 hq
      go_enter Tryz.func68, Tryz.ntmps68
      go_wp2
      go_ret
      exact ⟨by rw [HV.out]; rfl, by go_grown⟩
    · have d2 : decide (u < 8) = true := decide_eq_true (by omega)
      have HQ := hid (show clearB ⟨l, c, b⟩ = q by rw [← hq.out, mayG, inR, decide_eq_true (by show 0 ≤ u ∧ u ≤ 7; omega), Bool.true_and]; rfl)
      clear h0 h8 hq
      go_enter Tryz.func68, Tryz.ntmps68
      go_wp2_with fail
      refine (rClear_of q l c b HQ _).mono ?_
      rintro e w1 ⟨rfl, b1⟩
      replace b1 := past_alloc b1
      go_wp2
      go_ret
      exact ⟨rfl, b1⟩

end Go.Proofs.YtndmblhkmgnpcaaGreat
namespace Go.Proofs.YtndmblhkmgnpcaaGreat
open Go.RowKit
set_option linter.unusedVariables false
set_option linter.unusedSimpArgs false

set_option maxRecDepth 100000 in
set_option maxHeartbeats 1600000 in
theorem rgbytes_any (u l c : Int) (b : Bool) (ht : Gr.typed ⟨u, l, c, b⟩) (hq : mayG ⟨u, l, c, b⟩ = true) (w : World) :
    Calls Tryz.prog 99 #[.agg #[.int .i64 u, .int .u8 l, .int .u32 c, .bool b]] w fun e w' => ∃ A' c', e = .returned (.slice A' 7 c') ∧ Rd w' A' c' (gby u.toNat b l.toNat c.toNat) ∧ Below w.heap.size w w' := by
  have hu := mayG_u hq
  have HN := hid (hn_of ht.lab (k := 0) (by omega) (by omega))
  have HU := hid (show u = ((UInt8.ofNat u.toNat).toNat : Int) by rw [ofNat_toNat (by show u.toNat < 256; have := hu.2; simp only at this; omega)]; have := hu.1; simp only at this; omega)
  have hu0 : 0 ≤ u := hu.1
  have hu7 : u ≤ 7 := hu.2
  have hn5 : Hid (((hby l.toNat c.toNat 0).take 5).length = 5) := hid (by rw [List.length_take, hby_length]; rfl)
  obtain ⟨i0, hi0, hz0, hz1, hz2⟩ := info_parts info_u8
  clear hu hq ht
  cases b
  · go_enter Tryz.func99, Tryz.ntmps99
    go_wp2_with fail
    refine (named_any l c 0 l.toNat c.toNat 0 HN _).mono ?_
    rintro e w1 ⟨A1, c1, rfl, ho1, b1⟩
    have hr5 := hid (ho1.rd.take 5)
    have hc6 : 6 ≤ c1 := by have := ho1.rd.len; rwa [hby_length] at this
    have hcm : (c1 : Int) ≤ 9223372036854775807 := by have := ho1.rd.cap; omega
    have hc0 : ¬ c1 = 0 := by omega
    have hO := hid ((own_two (w.alloc (.cells #[.int .i64 u, .int .u8 l, .int .u32 c, .bool false] 38)) w.heap.size (w.heap.size + 1) (by simp) (by omega) u 0 (UInt8.ofNat u.toNat) 0 HU (hid rfl)).keep b1)
    replace b1 := past_alloc2 b1
    have hz := b1.size
    clear ho1
    go_wp2_with (at_builtin; refine wpList_append_rd rfl (.tmp 13) (.tmp 19) _ rfl w.heap.size 5 Tryz.underlying51 hi0 hz0 hz1 hz2 (some ⟨w.heap.size + 1, 0, none⟩) 2 2 [UInt8.ofNat u.toNat, 0] (hid rfl) rfl hO.out A1 5 c1 ((hby l.toNat c.toNat 0).take 5) hn5 rfl hr5.out (by omega) hz ?_; intro A' c' w2 ho2 hb2)
    go_ret
    exact ⟨A', c', rfl, ho2.rd, b1.trans hb2⟩
  · go_enter Tryz.func99, Tryz.ntmps99
    go_wp2_with fail
    refine (named_any l c 0 l.toNat c.toNat 0 HN _).mono ?_
    rintro e w1 ⟨A1, c1, rfl, ho1, b1⟩
    have hr5 := hid (ho1.rd.take 5)
    have hc6 : 6 ≤ c1 := by have := ho1.rd.len; rwa [hby_length] at this
    have hcm : (c1 : Int) ≤ 9223372036854775807 := by have := ho1.rd.cap; omega
    have hc0 : ¬ c1 = 0 := by omega
    have hO := hid ((own_two (w.alloc (.cells #[.int .i64 u, .int .u8 l, .int .u32 c, .bool true] 38)) w.heap.size (w.heap.size + 1) (by simp) (by omega) u 1 (UInt8.ofNat u.toNat) 1 HU (hid rfl)).keep b1)
    replace b1 := past_alloc2 b1
    have hz := b1.size
    clear ho1
    go_wp2_with (at_builtin; refine wpList_append_rd rfl (.tmp 13) (.tmp 19) _ rfl w.heap.size 5 Tryz.underlying51 hi0 hz0 hz1 hz2 (some ⟨w.heap.size + 1, 0, none⟩) 2 2 [UInt8.ofNat u.toNat, 1] (hid rfl) rfl hO.out A1 5 c1 ((hby l.toNat c.toNat 0).take 5) hn5 rfl hr5.out (by omega) hz ?_; intro A' c' w2 ho2 hb2)
    go_ret
    exact ⟨A', c', rfl, ho2.rd, b1.trans hb2⟩

end Go.Proofs.YtndmblhkmgnpcaaGreat
namespace Go.Proofs.YtndmblhkmgnpcaaGreat
open Go.RowKit
set_option linter.unusedVariables false
set_option linter.unusedSimpArgs false

set_option maxRecDepth 100000 in
set_option maxHeartbeats 1600000 in
theorem rgget_of (q : Bool) (u l0 l1 : Int) (ok : Bool) (A : Option Addr) (n c : Nat) (l : List UInt8) (hn : Hid (l.length = n)) (hx : Hid (okG l = q ∧ pickG q (gg l) = ⟨u, l0, l1, ok⟩)) (w : World) (hr : Rd w A c l) :
    Calls Tryz.prog 73 #[.slice A n c] w fun e w' => e = .returned (.tuple #[.agg #[.int .i64 u, .int .u8 l0, .int .u32 l1, .bool ok], .int .i64 (er q)]) ∧ Below w.heap.size w w' := by
  by_cases h7 : n = 7
  · subst h7
    obtain ⟨b0, b1, b2, b3, b4, b5, b6, rfl⟩ := seven_of hn.out
    obtain ⟨z0, hz0⟩ : ∃ z : Int, (b0.toNat : Int) = z := ⟨_, rfl⟩
    obtain ⟨z1, hz1⟩ : ∃ z : Int, (b1.toNat : Int) = z := ⟨_, rfl⟩
    obtain ⟨z2, hz2⟩ : ∃ z : Int, (b2.toNat : Int) = z := ⟨_, rfl⟩
    obtain ⟨z3, hz3⟩ : ∃ z : Int, (vl [b3, b4, b5, b6] : Int) = z := ⟨_, rfl⟩
    have y0 := u8_int b0
    have y1 := u8_int b1
    have y2 := u8_int b2
    have y3 : 0 ≤ z3 ∧ z3 ≤ 4294967295 := by
      have h := vl_lt [b3, b4, b5, b6]
      simp only [List.length_cons, List.length_nil, Nat.reduceAdd, Nat.reducePow] at h
      omega
    rw [hz0] at y0
    rw [hz1] at y1
    rw [hz2] at y2
    have hgg : gg [b0, b1, b2, b3, b4, b5, b6] = ⟨z0, z2, z3, z1 == 1⟩ := by
      rw [← hz0, ← hz1, ← hz2, ← hz3, eq_one]; rfl
    have hok : okG [b0, b1, b2, b3, b4, b5, b6] = (decide (z1 ≤ 1) && mayG ⟨z0, z2, z3, z1 == 1⟩) := by
      rw [okG, hgg]
      have e : decide (([b0, b1, b2, b3, b4, b5, b6] : List UInt8).length = 7) = true := rfl
      have e2 : decide ((([b0, b1, b2, b3, b4, b5, b6] : List UInt8).getD 1 0).toNat ≤ 1) = decide (z1 ≤ 1) := by
        rw [decide_eq_decide, ← hz1]
        show b1.toNat ≤ 1 ↔ _
        omega
      rw [e, e2, Bool.true_and]
    have hx2 := hx.out
    rw [hgg, hok] at hx2
    have HX := hid hx2
    have hc7 : (7 : Int) ≤ c := by have := hr.len; simp at this; omega
    have hcm : (c : Int) ≤ 9223372036854775807 := by have := hr.cap; omega
    obtain ⟨b, o, rfl, hcell⟩ := hr.at_ (by simp)
    have p0 : w.cell? ⟨b, o, none⟩ = some (.int .u8 z0) := by have := hcell 0 (by simp); rw [← hz0]; simpa using this
    have p1 : w.cell? ⟨b, o + 1, none⟩ = some (.int .u8 z1) := by have := hcell 1 (by simp); rw [← hz1]; simpa using this
    have p2 : w.cell? ⟨b, o + 2, none⟩ = some (.int .u8 z2) := by have := hcell 2 (by simp); rw [← hz2]; simpa using this
    have HC : Hid (∀ j, j < 4 → w.cell? ⟨b, o + (3 + j), none⟩ = some (.int .u8 ((([b3, b4, b5, b6] : List UInt8).getD j 0).toNat : Int))) := hid (by
      intro j hj
      have := hcell (3 + j) (by simp; omega)
      rw [this]
      match j, hj with
      | 0, _ => rfl
      | 1, _ => rfl
      | 2, _ => rfl
      | 3, _ => rfl)
    have HZ := hid hz3
    have HL : Hid (([b3, b4, b5, b6] : List UInt8).length = 4) := hid rfl
    generalize ([b3, b4, b5, b6] : List UInt8) = L at HC HZ HL
    clear hx hx2 hok hgg hcell hr hn hz0 hz1 hz2 hz3
    by_cases h1 : z1 ≤ 1
    · have d1 : decide (1 < z1) = false := decide_eq_false (by omega)
      have HX2 : Hid (mayG ⟨z0, z2, z3, z1 == 1⟩ = q ∧ pickG q ⟨z0, z2, z3, z1 == 1⟩ = ⟨u, l0, l1, ok⟩) := hid (by have := HX.out; rwa [decide_eq_true h1, Bool.true_and] at this)
      have hw3 : IntKind.u32.wrap z3 = z3 := by rw [IntKind.wrap_u32]; omega
      clear HX
      have p0a := fun o => keepa p0 o
      have p1a := fun o => keepa p1 o
      go_enter Tryz.func73, Tryz.ntmps73
      go_wp2_with fail
      generalize hW : w.alloc _ = W
      have hbw : Below w.heap.size w W := by subst hW; go_grown
      (have t0 : W.cell? ⟨w.heap.size, 0, none⟩ = some (.int .i64 0) := ((by subst hW; simp [go_sem])); have t1 : W.cell? ⟨w.heap.size, 1, none⟩ = some (.int .u8 0) := ((by subst hW; simp [go_sem])); have t2 : W.cell? ⟨w.heap.size, 2, none⟩ = some (.int .u32 0) := ((by subst hW; simp [go_sem])); have t3 : W.cell? ⟨w.heap.size, 3, none⟩ = some (.bool false) := ((by subst hW; simp [go_sem])))
      (have f0 : W.frozen? ⟨w.heap.size, 0, none⟩ = false := ((by subst hW; simp [go_sem])); have f1 : W.frozen? ⟨w.heap.size, 1, none⟩ = false := ((by subst hW; simp [go_sem])); have f2 : W.frozen? ⟨w.heap.size, 2, none⟩ = false := ((by subst hW; simp [go_sem])); have f3 : W.frozen? ⟨w.heap.size, 3, none⟩ = false := ((by subst hW; simp [go_sem])))
      replace p0 := keep hbw p0
      replace p1 := keep hbw p1
      replace p2 := keep hbw p2
      have hz := hbw.size
      have HC2 : Hid (∀ j, j < 4 → W.cell? ⟨b, o + (3 + j), none⟩ = some (.int .u8 ((L.getD j 0).toNat : Int))) := hid fun j hj => keep hbw (HC.out j hj)
      clear hW HC p0a p1a
      go_wp2
      go_loop [4, 5] (fun v i => ∃ (j : Nat) (y : Int), j ≤ 4 ∧ i = .int .i64 (((3 + j : Nat) : Nat) : Int) ∧ v = .int .i64 y ∧ Hid ((vl (L.take j) : Int) = y)) (fun _ i => 7 - (intOf i).toNat)
      case atStart => exact ⟨0, 0, by omega, rfl, rfl, hid rfl⟩
      case round =>
        obtain ⟨j, y, hj, rfl, rfl, hy⟩ := hrel
        by_cases hlt : j < 4
        · have h1 := HC2.out j hlt
          have hs := vl_take (l := L) (j := j) (by rw [HL.out]; exact hlt)
          have hsm := vl_small L (show j ≤ 3 by omega)
          rw [List.getD_eq_getElem?_getD, List.getElem?_eq_getElem (by rw [HL.out]; exact hlt), Option.getD_some] at h1
          generalize L[j]'(by rw [HL.out]; exact hlt) = d at h1 hs
          have hd := d.toNat_lt
          have hd2 : (d.toNat : Int) ≤ 255 := by omega
          have y0 : 0 ≤ y := by rw [← hy.out]; omega
          have y1 : y < 16777216 := by have := hy.out; simp at hsm; omega
          have HS := hid (show ((vl (L.take (j + 1)) : Nat) : Int) = 256 * y + d.toNat by rw [hs]; have := hy.out; omega)
          have hlt2 : (((3 + j : Nat) : Nat) : Int) < 7 := by omega
          have hlt3 : (((3 + j : Nat) : Nat) : Int) < c := by omega
          clear hs hsm hd
          go_wp2
          go_round
          case rel => exact ⟨j + 1, _, by omega, by go_num, rfl, HS⟩
          case measure => simp [intOf]; omega
        · have ej : L.take j = L := List.take_of_length_le (by have := HL.out; omega)
          have hlt2 : ¬ (((3 + j : Nat) : Nat) : Int) < 7 := by omega
          have hyz : y = z3 := by rw [← hy.out, ej, HZ.out]
          subst hyz
          have k0a := fun o => keepa p0 o
          have k1a := fun o => keepa p1 o
          have k2a := fun o => keepa p2 o
          clear ej hy hj hlt
          go_wp2_with fail
          cases hq : mayG ⟨z0, z2, y, z1 == 1⟩
          · have HQ := hid hq
            have HV := hid (show q = false by rw [← HX2.out.1, hq])
            have HV2 := hid (show (⟨0, 0, 0, false⟩ : Gr) = ⟨u, l0, l1, ok⟩ by have := HX2.out.2; rw [HV.out] at this; exact this)
            obtain rfl := HV.out
            have e := HV2.out
            injection e with e1 e2 e3 e4
            subst e1 e2 e3 e4
            clear hq HX2 HV HV2
            go_region
            all_goals
              go_wp2_with fail
              refine (rgmay_of false z0 z2 y (z1 == 1) HQ _).mono ?_
              rintro e w4 ⟨rfl, b4⟩
              replace b4 := past_ad b4
              (replace f0 := keepz b4 t0 f0; replace f1 := keepz b4 t1 f1; replace f2 := keepz b4 t2 f2; replace f3 := keepz b4 t3 f3)
              (replace t0 := keep b4 t0; replace t1 := keep b4 t1; replace t2 := keep b4 t2; replace t3 := keep b4 t3)
              replace hbw := below_in hbw b4
              go_wp2
              exact bodyPost_ret (v := .tuple #[.agg #[.int .i64 0, .int .u8 0, .int .u32 0, .bool false], .int .i64 8]) (by simp [results, Tryz.results73, go_sem, t0, t1, t2, t3]) rfl ⟨rfl, set4 hbw (Nat.le_refl _) _ _ _ _⟩
          · have HQ := hid hq
            have HV := hid (show q = true by rw [← HX2.out.1, hq])
            have HV2 := hid (show (⟨z0, z2, y, z1 == 1⟩ : Gr) = ⟨u, l0, l1, ok⟩ by have := HX2.out.2; rw [HV.out] at this; exact this)
            obtain rfl := HV.out
            have e := HV2.out
            injection e with e1 e2 e3 e4
            subst e1 e2 e3 e4
            clear hq HX2 HV HV2
            go_region
            all_goals
              go_wp2_with fail
              refine (rgmay_of true z0 z2 y (z1 == 1) HQ _).mono ?_
              rintro e w4 ⟨rfl, b4⟩
              (have v0 : w4.cell? ⟨W.heap.size, 0, none⟩ = some (.int .i64 z0) := (keep b4 (by simp [go_sem])); have v1 : w4.cell? ⟨W.heap.size, 1, none⟩ = some (.int .u8 z2) := (keep b4 (by simp [go_sem])); have v2 : w4.cell? ⟨W.heap.size, 2, none⟩ = some (.int .u32 y) := (keep b4 (by simp [go_sem])); have v3 : w4.cell? ⟨W.heap.size, 3, none⟩ = some (.bool (z1 == 1)) := (keep b4 (by simp [go_sem])))
              replace b4 := past_ad b4
              (replace f0 := keepz b4 t0 f0; replace f1 := keepz b4 t1 f1; replace f2 := keepz b4 t2 f2; replace f3 := keepz b4 t3 f3)
              (replace t0 := keep b4 t0; replace t1 := keep b4 t1; replace t2 := keep b4 t2; replace t3 := keep b4 t3)
              replace hbw := below_in hbw b4
              go_wp2
              exact bodyPost_ret (v := .tuple #[.agg #[.int .i64 z0, .int .u8 z2, .int .u32 y, .bool (z1 == 1)], .int .i64 0]) (by simp [results, Tryz.results73, go_sem, t0, t1, t2, t3]) rfl ⟨rfl, set4 hbw (Nat.le_refl _) _ _ _ _⟩
    · have d1 : decide (1 < z1) = true := decide_eq_true (by omega)
      have HV := hid (show q = false by rw [← HX.out.1, decide_eq_false h1, Bool.false_and])
      have HV2 := hid (show (⟨0, 0, 0, false⟩ : Gr) = ⟨u, l0, l1, ok⟩ by have := HX.out.2; rw [HV.out] at this; exact this)
      obtain rfl := HV.out
      have e := HV2.out
      injection e with e1 e2 e3 e4
      subst e1 e2 e3 e4
      clear HX HV HV2
      replace p1 := fun o => keepa p1 o
      go_enter Tryz.func73, Tryz.ntmps73
      go_wp2
      exact bodyPost_ret (v := .tuple #[.agg #[.int .i64 0, .int .u8 0, .int .u32 0, .bool false], .int .i64 8]) (by simp [results, Tryz.results73, go_sem]) rfl ⟨rfl, by go_grown⟩
  · have hq : q = false := by
      have := hx.out.1
      rw [okG, hn.out] at this
      simpa [h7] using this.symm
    subst hq
    have e := hx.out.2
    injection e with e1 e2 e3 e4
    subst e1 e2 e3 e4
    have h7' : ((n : Int) != 7) = true := by simp; omega
    clear h7 hx
    go_enter Tryz.func73, Tryz.ntmps73
    go_wp2
    exact bodyPost_ret (v := .tuple #[.agg #[.int .i64 0, .int .u8 0, .int .u32 0, .bool false], .int .i64 8]) (by simp [results, Tryz.results73, go_sem]) rfl ⟨rfl, by go_grown⟩
end Go.Proofs.YtndmblhkmgnpcaaGreat
