/-
  DiskFails, the stage's theorem: behind a start with left n the first n writes are done, and no others: for every disk, places, and n. (No conditions.)
-/
import Derived.Test.YtofnjdkfhboapaaDlP
namespace Go.Proofs.Ytofnjdkfhboapaa
open Go.ChangeShapes Go.WideShapes Go.ChangeAt Go.RowKit Go.Joins Go.Deep
set_option linter.unusedVariables false
set_option linter.unusedSimpArgs false

set_option maxRecDepth 100000 in
set_option maxHeartbeats 1600000 in
theorem dfails_walk (d : Dsk) (A : Option Addr) (n c : Nat) (A2 : Option Addr) (m c2 : Nat) (l : List Int) (z : Int) (W : World) (hr : Dkr d ∧ Hid (d.se.length = n) ∧ RdS W A c d.se) (hs : Hid (l.length = m) ∧ RdV W A2 c2 (l.map fun x => .int .i64 x) ∧ ∀ x ∈ l, InD x) :
    Calls Try.prog 6 #[.agg #[.slice A n c, .int .i64 d.st, .int .i64 d.lf, .bool d.dd], .slice A2 m c2, .int .i64 z] W fun e W' => e = .returned (.bool true) ∧ Below W.heap.size W W' := by
  obtain ⟨hd, hn, hr⟩ := hr
  obtain ⟨hm, hs, hin⟩ := hs
  have hc2 : (c2 : Int) ≤ 9223372036854775807 := by have := hs.2.1; unfold maxLen at this; omega
  have hc1 : (m : Int) ≤ c2 := by have := hs.1; rw [List.length_map] at this; have := hm.out; omega
  have xa := boxK_new W d A n c 24
  have hb0 := below1 W (.cells (#[.slice A n c, .int .i64 d.st, .int .i64 d.lf, .bool d.dd]) 24)
  have HR := hid hr
  have HS := hid hs
  have HIN := hid hin
  clear hr hs hin hd
  go_enter Try.func6, Try.ntmps6
  go_wp2_with fail
  generalize World.alloc W _ = W1 at xa hb0 ⊢
  refine (alive_any _).mono ?_
  rintro e w1 ⟨rfl, b1⟩
  replace xa := xa.keep b1
  have hb1 := below_in hb0 b1
  clear b1 hb0
  go_wp2_with ((with_reducible refine at_load 24 (.tmp 3) ?_); refine wpList_load_k rfl (.tmp 3) rfl W.heap.size rfl xa ?_)
  obtain ⟨gr, hgr⟩ : ∃ q, greatK d = q := ⟨_, rfl⟩
  refine (kgreat_of gr d A n c hn (hid hgr) _ (HR.out.keep hb1)).mono ?_
  rintro e w2 ⟨rfl, b2⟩
  replace xa := xa.keep b2
  have hb2 := below_in hb1 b2
  clear b2 hb1
  cases gr with
  | true =>
    clear hgr
    go_wp2
    go_ret
    exact ⟨rfl, hb2⟩
  | false =>
    have h200 : n ≤ 200 := by
      have := hn.out
      rw [greatK, Bool.or_eq_false_iff] at hgr
      have h := hgr.1
      simp at h
      omega
    clear hgr
    by_cases m30 : 30 < m
    · have d1 : (30 : Int) < (m : Int) := by omega
      go_wp2
      go_ret
      exact ⟨rfl, hb2⟩
    have d1 : ¬ (30 : Int) < (m : Int) := by omega
    by_cases z0 : z < 0
    · go_wp2
      go_ret
      exact ⟨rfl, hb2⟩
    by_cases z1 : 100 < z
    · go_wp2
      go_ret
      exact ⟨rfl, hb2⟩
    have z2 : 0 ≤ z := by omega
    have z3 : z ≤ 100 := by omega
    obtain ⟨k, hk⟩ : ∃ k, startE d z = k := ⟨_, rfl⟩
    obtain ⟨vx, hvx⟩ : ∃ v, startV d z = v := ⟨_, rfl⟩
    obtain ⟨vy, hvy⟩ : ∃ v, startV d (-1) = v := ⟨_, rfl⟩
    have HK := hid hk
    have HKY := hid (show startE d (-1) = k by rw [← hk]; exact start_same z2 z3)
    have HX := hid hvx
    have HY := hid hvy
    clear hk hvx hvy
    go_wp2_with ((with_reducible refine at_load 24 (.tmp 3) ?_); refine wpList_load_k rfl (.tmp 3) rfl W.heap.size rfl xa ?_)
    refine (dstart_of d A n c z vx k hn (by omega) HX HK _ (HR.out.keep hb2)).mono ?_
    rintro e w3 ⟨Ax, cx, rfl, ox, b3⟩
    replace xa := xa.keep b3
    have hb3 := below_in hb2 b3
    clear b3 hb2
    have ob := out_new (v := vx) ox hb3
    have xb := xa.keep (below1 w3 (.cells (#[.slice Ax (vx.se.length) cx, .int .i64 vx.st, .int .i64 vx.lf, .bool vx.dd]) 24))
    have lx := World.block_lt_of_cell? w3 _ xa.sl
    have one : True := trivial
    go_wp2_with (clear one; generalize World.alloc w3 _ = w4 at ob xb ⊢; refine wpList_load_k rfl (.tmp 3) rfl W.heap.size rfl xb ?_)
    refine (dstart_of d A n c (-1) vy k hn (by omega) HY HKY _ (HR.out.keep ob.be)).mono ?_
    rintro e w5 ⟨Ay, cy, rfl, oy, b5⟩
    replace xa := xb.keep b5
    replace ob := ob.keep b5
    clear b5 xb hb3
    have oc := out_new (w := W) (v := vy) oy ob.be
    have ob2 := ob.keep (below1 w5 (.cells (#[.slice Ay (vy.se.length) cy, .int .i64 vy.st, .int .i64 vy.lf, .bool vy.dd]) 24))
    have xb := xa.keep (below1 w5 (.cells (#[.slice Ay (vy.se.length) cy, .int .i64 vy.st, .int .i64 vy.lf, .bool vy.dd]) 24))
    have ly := ob.bk.lt
    by_cases k0 : k = 0
    · subst k0
      go_wp2
      generalize World.alloc w5 _ = w6 at oc ob2 xb ⊢
      obtain ⟨hsd, t0, t1, ex, ey⟩ := start_0 z2 z3 HK.out
      obtain ⟨s, hst⟩ : ∃ s, d.st + 1 = s := ⟨_, rfl⟩
      rw [hst] at t0 t1 ex ey
      obtain rfl : vx = xK d.se s z 0 := by rw [← ex]; exact HX.out.symm
      obtain rfl : vy = yK d.se s := by rw [← ey]; exact HY.out.symm
      have fl0 : Fl W d A n c w3.heap.size w5.heap.size (xK d.se s z 0) (yK d.se s) w6 := ⟨xb, ⟨Ax, cx, ob2.bk, ob2.ow⟩, ⟨Ay, cy, oc.bk, oc.ow⟩, ob2.tk, oc.tk, by omega, lx, by omega, oc.be⟩
      have HST := hid hst
      have HT := hid (And.intro t0 t1)
      have HSD := hid hsd
      clear hst t0 t1 hsd ex ey HX HY HK HKY ob ob2 oc xa xb ox oy
      generalize w3.heap.size = gx at *
      generalize w5.heap.size = gy at *
      go_loopw [12, 13] (fun dn i wr => ∃ (j k : Nat) (S : List Sct), j ≤ m ∧ k ≤ j ∧ dn = .int .i64 (k : Int) ∧ i = .int .i64 (j : Int) ∧ Hid (secsB S = true) ∧ Fl W d A n c gx gy (xK S s z k) (yK S s) wr) (fun _ i _ => m - (intOf i).toNat)
      case atStart => exact ⟨0, 0, d.se, by omega, by omega, rfl, rfl, HSD, fl0⟩
      case round =>
        clear fl0
        obtain ⟨j, k, S, hj, hkj, rfl, rfl, hS, fl⟩ := hrel
        by_cases hjm : j < m
        · have hlt2 : (j : Int) < (m : Int) := by omega
          have hjl : j < l.length := by rw [hm.out]; exact hjm
          have hj30 : j < 30 := by omega
          obtain ⟨b2, o2, rfl, hcell⟩ := HS.out.2.2 (by rw [List.length_map]; omega)
          have hlw := hcell j (by rw [List.length_map]; exact hjl)
          rw [List.getElem_map] at hlw
          have hia := HIN.out _ (List.getElem_mem hjl)
          generalize l[j] = a at hlw hia
          have HLW := hid hlw
          have hla := keep fl.be hlw
          clear hlw
          obtain ⟨b, hbz⟩ : ∃ b : UInt8, (b.toNat : Int) = (j : Int) + 1 := ⟨UInt8.ofNat (j + 1), by simp; omega⟩
          have HB := hid hbz
          have hw8 : IntKind.u8.wrap ((j : Int) + 1) = (j : Int) + 1 := by rw [IntKind.wrap_u8]; omega
          have hw64 : IntKind.i64.wrap ((j : Int) + 1) = (j : Int) + 1 := by rw [IntKind.wrap_i64]; omega
          have hmx := x_may hS.out HT.out.1 HT.out.2 z2 z3 k
          have hmy := y_may hS.out HT.out.1 HT.out.2
          have HLEN : Hid ((xK S s z k).se.length ≤ 9000) := hid (by have := may_len hmx; omega)
          have HLY : Hid ((yK S s).se.length ≤ 9000) := hid (by have := may_len hmy; omega)
          obtain ⟨kk, hkk⟩ : ∃ x, writeE (xK S s z k) a (fullB b) = x := ⟨_, rfl⟩
          obtain ⟨v, hv⟩ : ∃ x, writeV (xK S s z k) a (fullB b) = x := ⟨_, rfl⟩
          have HKK := hid hkk
          have HV := hid hv
          clear hkk hv hmx hmy hcell hbz
          go_wp2_with fail
          go_cut [14, 15] from 68 to 80 (fun s14 s15 wx => ∃ g A5 c5, s14 = .pointer (some ⟨g, 0, none⟩) ∧ s15 = .int .i64 kk ∧ Out wr v g A5 c5 wx)
          case first => as_aux_lemma =>
            obtain ⟨Ax, cx, kx, bsx, ox⟩ := fl.bx
            have q0 := fun w' (h : Below wr.heap.size wr w') => Go.Proofs.Ytofnjdkfhboapaa.keep h kx.bx.sl
            have q1 := fun w' (h : Below wr.heap.size wr w') => Go.Proofs.Ytofnjdkfhboapaa.keep h kx.bx.s
            have q2 := fun w' (h : Below wr.heap.size wr w') => Go.Proofs.Ytofnjdkfhboapaa.keep h kx.bx.l
            have q3 := fun w' (h : Below wr.heap.size wr w') => Go.Proofs.Ytofnjdkfhboapaa.keep h kx.bx.d
            have q4 := fun w' (h : Below wr.heap.size wr w') => Go.Proofs.Ytofnjdkfhboapaa.keep h hla
            have S0 : Below wr.heap.size wr wr.drew := (Below.refl _ wr).drew
            have S1 : Below wr.heap.size wr (wr.alloc (.cells #[.slice none 0 0, .int .i64 0, .int .i64 0, .bool false] 24)).drew := ((Below.refl _ wr).alloc (Nat.le_refl _) _).drew
            have HOX := hid ox.rd
            clear fl hla kx ox
            go_region_held (fun w' => Below wr.heap.size wr w') (with_reducible (first | assumption | exact S0 | exact S1 | exact Below.alloc (by assumption) (Below.size (by assumption)) _ | exact set4 hc5 hlo _ _ _ _))
              (first
                | (go_at_call 10; refine (full_of b ((j : Int) + 1) HB wr.drew).mono ?_; rintro e v4 ⟨g4, rfl, ho4, b4⟩; have hc4 := below_in (w := wr) S0 b4)
                | (go_at_call 10; refine (full_of b ((j : Int) + 1) HB (wr.alloc (.cells #[.slice none 0 0, .int .i64 0, .int .i64 0, .bool false] 24)).drew).mono ?_; rintro e v4 ⟨g4, rfl, ho4, b4⟩; have hc4 := below_in (w := wr) S1 b4; have kz := ((bk_new wr zK none 0 0 24).drew).keep b4; have tz := ((tk_new wr #[.slice none 0 0, .int .i64 0, .int .i64 0, .bool false]).keep (Below.refl _ _).drew).keep b4; have hlo : wr.heap.size ≤ wr.heap.size := Nat.le_refl _; have hlt : wr.heap.size < v4.heap.size := kz.lt)
                | (go_at_call 8; have kz' := kz; refine (dwrite_of (xK S s z k) Ax (xK S s z k).se.length cx a (some ⟨g4, 0, none⟩) 128 128 (fullB b) v kk (hid rfl) HLEN.out (hid (fullB_len _)) HV HKK v4 (HOX.out.keep hc4) ho4.rd).mono ?_; rintro e v5 ⟨A5, c5, rfl, ho5, b5⟩; have hc5 := below_in hc4 b5; have k5 := kz'.keep b5; have t5 := tz.keep b5; have y0 := k5.bx.sl; have y1 := k5.bx.s; have y2 := k5.bx.l; have y3 := k5.bx.d; have e0 := k5.fz 0 (by omega); have e1 := k5.fz 1 (by omega); have e2 := k5.fz 2 (by omega); have e3 := k5.fz 3 (by omega))
                | (go_at_call 8; refine (dwrite_of (xK S s z k) Ax (xK S s z k).se.length cx a (some ⟨g4, 0, none⟩) 128 128 (fullB b) v kk (hid rfl) HLEN.out (hid (fullB_len _)) HV HKK v4 (HOX.out.keep hc4) ho4.rd).mono ?_; rintro e v5 ⟨A5, c5, rfl, ho5, b5⟩; have hc5 := below_in hc4 b5)
                | (go_at_call 8; refine (dwrite_of (xK S s z k) Ax (xK S s z k).se.length cx a (some ⟨g4, 0, none⟩) 128 128 (fullB b) v kk (hid rfl) HLEN.out (hid (fullB_len _)) HV HKK (v4.alloc (.cells #[.slice none 0 0, .int .i64 0, .int .i64 0, .bool false] 24)) ((HOX.out.keep hc4).keep (below1 _ _)) (ho4.rd.keep (below1 _ _))).mono ?_; rintro e v5 ⟨A5, c5, rfl, ho5, b5⟩; have hc5 := below_in (hc4.alloc hc4.size _) b5; have k5 := (bk_new v4 zK none 0 0 24).keep b5; have t5 := (tk_new v4 #[.slice none 0 0, .int .i64 0, .int .i64 0, .bool false]).keep b5; have hlo : wr.heap.size ≤ v4.heap.size := hc4.size; have hlt : v4.heap.size < (v4.alloc (.cells #[.slice none 0 0, .int .i64 0, .int .i64 0, .bool false] 24)).heap.size := (by simp [go_sem]); have y0 := k5.bx.sl; have y1 := k5.bx.s; have y2 := k5.bx.l; have y3 := k5.bx.d; have e0 := k5.fz 0 (by omega); have e1 := k5.fz 1 (by omega); have e2 := k5.fz 2 (by omega); have e3 := k5.fz 3 (by omega)))
            all_goals
              go_wp2_with fail
              go_meet
              case rel => first
                | exact ⟨_, _, _, rfl, rfl, out_sto ho5 k5 t5 hlt hlo hc5⟩
                | exact ⟨_, _, _, rfl, rfl, out_new ho5 hc5⟩
          case rest =>
            obtain ⟨g, A5, c5, rfl, rfl, ou⟩ := hcut
            replace fl := fl.keep ou.be
            replace hla := keep fl.be HLW.out
            by_cases hva : 0 ≤ a ∧ a < 6146
            · obtain ⟨ew, evw⟩ := x_write hS.out HT.out.1 HT.out.2 z2 z3 k hva.1 hva.2 (fullB_len b)
              obtain rfl : kk = 0 := by rw [← HKK.out]; exact ew
              have hS2 := hid (secs_if hS.out hva.1 hva.2 (fullB_len b) ((k : Int) < z))
              obtain rfl : v = xK (if (k : Int) < z then withS S a (fullB b) else S) s z (k + 1) := by rw [← HV.out]; exact evw
              clear HKK HV ew evw
              have one : True := trivial
              by_cases hkz : (k : Int) < z
              · rw [if_pos hkz] at hS2 ou
                go_wp2_with (first
                  | ((with_reducible refine at_load 24 (.tmp 14) ?_); refine wpList_load_k rfl (.tmp 14) rfl g rfl ou.bk.bx ?_)
                  | ((with_reducible refine at_store 24 (.tmp 8) (.tmp 99) ?_); clear one; obtain ⟨Ax, cx, kx, bsx, ox⟩ := fl.bx; refine wpList_store_kt rfl (.tmp 8) (.tmp 99) rfl gx rfl _ A5 _ c5 rfl kx fl.tx W.heap.size (Nat.le_of_lt fl.lx) ?_; intro w7 k7 t7 b7 h7 z7; replace fl := fl.stX _ ou.ow k7 t7 h7 b7; have hla7 := keep fl.be HLW.out))
                obtain ⟨eyw, eyv⟩ := y_write (s := s) hS.out HT.out.1 HT.out.2 hva.1 hva.2 (fullB_len b)
                have HYK := hid eyw
                have HYV := hid eyv
                have HLEN := HLY
                clear kx ox k7 t7 b7 h7 z7 ou hla eyw eyv
                replace hla := hla7
                clear hla7
                go_cut [16, 17] from 103 to 115 (fun s16 s17 wx => ∃ g A5 c5, s16 = .pointer (some ⟨g, 0, none⟩) ∧ s17 = .int .i64 0 ∧ Out w7 (yK (withS S a (fullB b)) s) g A5 c5 wx)
                case first => as_aux_lemma =>
                  obtain ⟨Ax, cx, kx, bsx, ox⟩ := fl.by'
                  have q0 := fun w' (h : Below w7.heap.size w7 w') => Go.Proofs.Ytofnjdkfhboapaa.keep h kx.bx.sl
                  have q1 := fun w' (h : Below w7.heap.size w7 w') => Go.Proofs.Ytofnjdkfhboapaa.keep h kx.bx.s
                  have q2 := fun w' (h : Below w7.heap.size w7 w') => Go.Proofs.Ytofnjdkfhboapaa.keep h kx.bx.l
                  have q3 := fun w' (h : Below w7.heap.size w7 w') => Go.Proofs.Ytofnjdkfhboapaa.keep h kx.bx.d
                  have q4 := fun w' (h : Below w7.heap.size w7 w') => Go.Proofs.Ytofnjdkfhboapaa.keep h hla
                  have S0 : Below w7.heap.size w7 w7.drew := (Below.refl _ w7).drew
                  have S1 : Below w7.heap.size w7 (w7.alloc (.cells #[.slice none 0 0, .int .i64 0, .int .i64 0, .bool false] 24)).drew := ((Below.refl _ w7).alloc (Nat.le_refl _) _).drew
                  have HOX := hid ox.rd
                  clear fl hla kx ox
                  go_region_held (fun w' => Below w7.heap.size w7 w') (with_reducible (first | assumption | exact S0 | exact S1 | exact Below.alloc (by assumption) (Below.size (by assumption)) _ | exact set4 hc5 hlo _ _ _ _))
                    (first
                      | (go_at_call 10; refine (full_of b ((j : Int) + 1) HB w7.drew).mono ?_; rintro e v4 ⟨g4, rfl, ho4, b4⟩; have hc4 := below_in (w := w7) S0 b4)
                      | (go_at_call 10; refine (full_of b ((j : Int) + 1) HB (w7.alloc (.cells #[.slice none 0 0, .int .i64 0, .int .i64 0, .bool false] 24)).drew).mono ?_; rintro e v4 ⟨g4, rfl, ho4, b4⟩; have hc4 := below_in (w := w7) S1 b4; have kz := ((bk_new w7 zK none 0 0 24).drew).keep b4; have tz := ((tk_new w7 #[.slice none 0 0, .int .i64 0, .int .i64 0, .bool false]).keep (Below.refl _ _).drew).keep b4; have hlo : w7.heap.size ≤ w7.heap.size := Nat.le_refl _; have hlt : w7.heap.size < v4.heap.size := kz.lt)
                      | (go_at_call 8; have kz' := kz; refine (dwrite_of (yK S s) Ax (yK S s).se.length cx a (some ⟨g4, 0, none⟩) 128 128 (fullB b) (yK (withS S a (fullB b)) s) 0 (hid rfl) HLEN.out (hid (fullB_len _)) HYV HYK v4 (HOX.out.keep hc4) ho4.rd).mono ?_; rintro e v5 ⟨A5, c5, rfl, ho5, b5⟩; have hc5 := below_in hc4 b5; have k5 := kz'.keep b5; have t5 := tz.keep b5; have y0 := k5.bx.sl; have y1 := k5.bx.s; have y2 := k5.bx.l; have y3 := k5.bx.d; have e0 := k5.fz 0 (by omega); have e1 := k5.fz 1 (by omega); have e2 := k5.fz 2 (by omega); have e3 := k5.fz 3 (by omega))
                      | (go_at_call 8; refine (dwrite_of (yK S s) Ax (yK S s).se.length cx a (some ⟨g4, 0, none⟩) 128 128 (fullB b) (yK (withS S a (fullB b)) s) 0 (hid rfl) HLEN.out (hid (fullB_len _)) HYV HYK v4 (HOX.out.keep hc4) ho4.rd).mono ?_; rintro e v5 ⟨A5, c5, rfl, ho5, b5⟩; have hc5 := below_in hc4 b5)
                      | (go_at_call 8; refine (dwrite_of (yK S s) Ax (yK S s).se.length cx a (some ⟨g4, 0, none⟩) 128 128 (fullB b) (yK (withS S a (fullB b)) s) 0 (hid rfl) HLEN.out (hid (fullB_len _)) HYV HYK (v4.alloc (.cells #[.slice none 0 0, .int .i64 0, .int .i64 0, .bool false] 24)) ((HOX.out.keep hc4).keep (below1 _ _)) (ho4.rd.keep (below1 _ _))).mono ?_; rintro e v5 ⟨A5, c5, rfl, ho5, b5⟩; have hc5 := below_in (hc4.alloc hc4.size _) b5; have k5 := (bk_new v4 zK none 0 0 24).keep b5; have t5 := (tk_new v4 #[.slice none 0 0, .int .i64 0, .int .i64 0, .bool false]).keep b5; have hlo : w7.heap.size ≤ v4.heap.size := hc4.size; have hlt : v4.heap.size < (v4.alloc (.cells #[.slice none 0 0, .int .i64 0, .int .i64 0, .bool false] 24)).heap.size := (by simp [go_sem]); have y0 := k5.bx.sl; have y1 := k5.bx.s; have y2 := k5.bx.l; have y3 := k5.bx.d; have e0 := k5.fz 0 (by omega); have e1 := k5.fz 1 (by omega); have e2 := k5.fz 2 (by omega); have e3 := k5.fz 3 (by omega)))
                  all_goals
                    go_wp2_with fail
                    go_meet
                    case rel => first
                      | exact ⟨_, _, _, rfl, rfl, out_sto ho5 k5 t5 hlt hlo hc5⟩
                      | exact ⟨_, _, _, rfl, rfl, out_new ho5 hc5⟩
                case rest =>
                  obtain ⟨g2, A9, c9, rfl, rfl, ou⟩ := hcut
                  replace fl := fl.keep ou.be
                  have two : True := trivial
                  go_wp2_with (first
                    | ((with_reducible refine at_load 24 (.tmp 16) ?_); refine wpList_load_k rfl (.tmp 16) rfl g2 rfl ou.bk.bx ?_)
                    | ((with_reducible refine at_store 24 (.tmp 10) (.tmp 118) ?_); clear two; obtain ⟨Ay, cy, ky, bsy, oy⟩ := fl.by'; refine wpList_store_kt rfl (.tmp 10) (.tmp 118) rfl gy rfl _ A9 _ c9 rfl ky fl.ty W.heap.size (Nat.le_of_lt fl.ly) ?_; intro w9 k9 t9 b9 h9 z9; replace fl := fl.stY _ ou.ow k9 t9 h9 b9))
                  go_roundw
                  case rel => exact ⟨j + 1, k + 1, withS S a (fullB b), by omega, by omega, by go_num, by go_num, hS2, fl⟩
                  case measure => simp [intOf]; omega
              · rw [if_neg hkz] at hS2 ou
                go_wp2_with (first
                  | ((with_reducible refine at_load 24 (.tmp 14) ?_); refine wpList_load_k rfl (.tmp 14) rfl g rfl ou.bk.bx ?_)
                  | ((with_reducible refine at_store 24 (.tmp 8) (.tmp 99) ?_); clear one; obtain ⟨Ax, cx, kx, bsx, ox⟩ := fl.bx; refine wpList_store_kt rfl (.tmp 8) (.tmp 99) rfl gx rfl _ A5 _ c5 rfl kx fl.tx W.heap.size (Nat.le_of_lt fl.lx) ?_; intro w7 k7 t7 b7 h7 z7; replace fl := fl.stX _ ou.ow k7 t7 h7 b7; have hla7 := keep fl.be HLW.out))
                go_roundw
                case rel => exact ⟨j + 1, k + 1, S, by omega, by omega, by go_num, by go_num, hS2, fl⟩
                case measure => simp [intOf]; omega
            · have ebad := x_bad hS.out HT.out.1 HT.out.2 z2 z3 k (fullB b) hva
              obtain rfl : kk = 2 := by rw [← HKK.out]; exact ebad
              clear HKK HV ebad ou
              by_cases ha0 : 0 ≤ a
              · have ha1 : ¬ a < 6146 := fun h => hva ⟨ha0, h⟩
                clear hva
                go_wp2
                go_roundw
                case rel => exact ⟨j + 1, k, S, by omega, by omega, by go_num, by go_num, hS, fl⟩
                case measure => simp [intOf]; omega
              · clear hva
                go_wp2
                go_roundw
                case rel => exact ⟨j + 1, k, S, by omega, by omega, by go_num, by go_num, hS, fl⟩
                case measure => simp [intOf]; omega
        · have hlt2 : ¬ (j : Int) < (m : Int) := by omega
          obtain ⟨Ax, cx, kx, bsx, ox⟩ := fl.bx
          obtain ⟨Ay, cy, ky, bsy, oy⟩ := fl.by'
          obtain ⟨t, ht⟩ : ∃ t, decide (z < (k : Int)) = t := ⟨_, rfl⟩
          have hst := HST.out
          have hw1 : IntKind.i64.wrap s = s := by have := HT.out; rw [IntKind.wrap_i64]; omega
          have x0 : wr.cell? ⟨gx, 0, none⟩ = some (.slice Ax S.length cx) := kx.bx.sl
          have x1 : wr.cell? ⟨gx, 1, none⟩ = some (.int .i64 s) := kx.bx.s
          have x3 : wr.cell? ⟨gx, 3, none⟩ = some (.bool t) := by rw [← ht]; exact kx.bx.d
          have y0 : wr.cell? ⟨gy, 0, none⟩ = some (.slice Ay S.length cy) := ky.bx.sl
          have d1 : wr.cell? ⟨W.heap.size, 1, none⟩ = some (.int .i64 d.st) := fl.bd.s
          have HRX : Hid (RdS wr Ax cx S) := hid ox.rd
          have HRY : Hid (RdS wr Ay cy S) := hid oy.rd
          have hbe := fl.be
          clear kx ky ox oy fl
          go_wp2_with fail
          refine (ksame_of true ⟨S, 0, 0, false⟩ Ax S.length cx (hid rfl) ⟨S, 0, 0, false⟩ Ay S.length cy (hid rfl) (hid (sameK_self _)) _ HRX.out HRY.out).mono ?_
          rintro e w8 ⟨rfl, b8⟩
          have hb8 := below_in hbe b8
          go_wp2
          go_ret
          exact ⟨rfl, hb8⟩
    · have d0 : (k != 0) = true := by simpa using k0
      have d2 : (k == k) = true := by simp
      have hbf := oc.be
      clear xa ob oc ob2 xb
      go_wp2
      go_ret
      exact ⟨rfl, hbf⟩


set_option maxRecDepth 100000 in
theorem dfails_lifted (os : Os) (started : os.Started) (H : Type) (enc : TypeId × Value → H) :
    ReturnsInHanded {} Try.checked os 6 .any (Rows.diskFailsSpec.pre6 enc Try.prog Try.f6 Rows.diskFailsRow.domain false) (Rows.diskFailsSpec.post enc Try.prog Try.f6 false true false false) := by
  refine returnsInHanded_of_change (C := Try.checked) own started (by kernel_rfl) Try.func6
    (ChangeSpec.witness6 (enc := enc) (C := Try.checked) false ⟨#[], #[.agg #[.slice none 0 0, .int .i64 0, .int .i64 0, .bool false], .slice none 0 0, .int .i64 0], []⟩ 8 (by kernel_rfl) (by kernel_rfl) (by kernel_rfl) (by kernel_rfl)) ?_
  intro W base args ds gs before hval0 hW _ _
  have hval : ∀ (j : Nat) t v, Try.f6.params[j]? = some t → args[j]? = some v → Value.okWide Try.prog W .any base t v := hval0
  have hW' := hW
  obtain ⟨p, q, hA0, hV, rfl, _, _⟩ := hW
  have hA : DataW.TrodAll enc Try.prog W 0 (fun _ => true) true Try.f6.params.toList args.toList ds p := hA0
  rw [Try.params6] at hA hval
  obtain ⟨v0, v1, v2, d0, d1, d2, p0, p1, p2, rfl, rfl, rfl, h0, h1, h2⟩ := trodAll_three hA
  obtain ⟨rfl, rfl⟩ := trodVars_none hV
  obtain ⟨d, A, n, c, rfl, hr⟩ := open_disk (hval 0 _ v0 rfl rfl) h0
  obtain ⟨A2, m, c2, l, rfl, hs⟩ := open_ints64 (hval 1 _ v1 rfl rfl) h1
  obtain ⟨z, rfl, _⟩ := open_i64 (hval 2 _ v2 rfl rfl) h2
  refine (dfails_walk d A n c A2 m c2 l z W hr hs).mono fun e W' ⟨he, hg⟩ => ?_
  subst he
  exact ⟨_, rfl, law_post laidOut (by kernel_rfl) rfl Try.underlying4 rfl rfl hW' hg⟩

theorem dfails_holds : Rows.DiskFailsSaid :=
  OpenClaim.holds_of_wide 6 Try.f6 rfl rfl rfl rfl rfl rfl rfl ⟨rfl, rfl, rfl, rfl, rfl⟩ rfl rfl rfl rfl rfl (by kernel_rfl) Try.func6 (by kernel_rfl)
    (of_decide_eq_true (by kernel_rfl)) (by unfold Func.isWrapper; rw [if_neg (of_decide_eq_false (by kernel_rfl))]; exact ⟨rfl, rfl⟩)
    (fun os started H enc _ => dfails_lifted os started H enc)
#print axioms dfails_holds
end Go.Proofs.Ytofnjdkfhboapaa
