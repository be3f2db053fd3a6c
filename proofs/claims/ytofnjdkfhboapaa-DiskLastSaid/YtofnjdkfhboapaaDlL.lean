/-
  DiskLast: what was written last at a place is read there, and nothing else is turned: for every disk, place, block and other place. (No conditions.)
-/
import Derived.Test.YtofnjdkfhboapaaDlO
namespace Go.Proofs.Ytofnjdkfhboapaa
open Go.ChangeShapes Go.WideShapes Go.ChangeAt Go.RowKit Go.Joins Go.Deep
set_option linter.unusedVariables false
set_option linter.unusedSimpArgs false

set_option maxRecDepth 100000 in
set_option maxHeartbeats 1600000 in
theorem dlast_walk (d : Dsk) (A : Option Addr) (n c : Nat) (a : Int) (z : Int) (o : Int) (hz : 0 ≤ z ∧ z ≤ 255) (W : World) (hr : Dkr d ∧ Hid (d.se.length = n) ∧ RdS W A c d.se) :
    Calls Try.prog 5 #[.agg #[.slice A n c, .int .i64 d.st, .int .i64 d.lf, .bool d.dd], .int .i64 a, .int .u8 z, .int .i64 o] W fun e W' => e = .returned (.bool true) ∧ Below W.heap.size W W' := by
  obtain ⟨hd, hn, hr⟩ := hr
  obtain ⟨b, hbz⟩ : ∃ b : UInt8, (b.toNat : Int) = z := ⟨UInt8.ofNat z.toNat, by simp; omega⟩
  have HZ := hid hbz
  clear hbz hz
  have xa := boxK_new W d A n c 24
  have hb0 := below1 W (.cells (#[.slice A n c, .int .i64 d.st, .int .i64 d.lf, .bool d.dd]) 24)
  have HR := hid hr
  clear hr
  go_enter Try.func5, Try.ntmps5
  go_wp2_with fail
  generalize World.alloc W _ = W1 at xa hb0 ⊢
  refine (alive_any _).mono ?_
  rintro e w1 ⟨rfl, b1⟩
  replace xa := xa.keep b1
  have hb1 := below_in hb0 b1
  clear b1 hb0
  go_wp2_with ((with_reducible refine at_load 24 (.tmp 4) ?_); refine wpList_load_k rfl (.tmp 4) rfl W.heap.size rfl xa ?_)
  obtain ⟨gr, hgr⟩ : ∃ q, greatK d = q := ⟨_, rfl⟩
  refine (kgreat_of gr d A n c hn (hid hgr) _ (HR.out.keep hb1)).mono ?_
  rintro e w2 ⟨rfl, b2⟩
  replace xa := xa.keep b2
  have hb2 := below_in hb1 b2
  clear b2 hb1
  cases gr with
  | true =>
    go_wp2
    go_ret
    exact ⟨rfl, hb2⟩
  | false =>
    have h200 : n ≤ 200 := by
      have := hn.out
      rw [greatK, Bool.or_eq_false_iff] at hgr
      have h := hgr.1
      simp at h
      omega
    clear hgr
    obtain ⟨k, hk⟩ : ∃ k, writeE d a (fullB b) = k := ⟨_, rfl⟩
    obtain ⟨v, hv⟩ : ∃ v, writeV d a (fullB b) = v := ⟨_, rfl⟩
    have HK := hid hk
    have HV := hid hv
    clear hk hv
    go_wp2_with fail
    go_cut [10, 11] from 25 to 32 (fun s10 s11 wx => ∃ g A5 c5, s10 = .pointer (some ⟨g, 0, none⟩) ∧ s11 = .int .i64 k ∧ Out w2 v g A5 c5 wx)
    case first => as_aux_lemma =>
      have q0 := fun w' (h : Below w2.heap.size w2 w') => Go.Proofs.Ytofnjdkfhboapaa.keep h xa.sl
      have q1 := fun w' (h : Below w2.heap.size w2 w') => Go.Proofs.Ytofnjdkfhboapaa.keep h xa.s
      have q2 := fun w' (h : Below w2.heap.size w2 w') => Go.Proofs.Ytofnjdkfhboapaa.keep h xa.l
      have q3 := fun w' (h : Below w2.heap.size w2 w') => Go.Proofs.Ytofnjdkfhboapaa.keep h xa.d
      have S0 : Below w2.heap.size w2 w2.drew := (Below.refl _ w2).drew
      have S1 : Below w2.heap.size w2 (w2.alloc (.cells #[.slice none 0 0, .int .i64 0, .int .i64 0, .bool false] 24)).drew := ((Below.refl _ w2).alloc (Nat.le_refl _) _).drew
      have HR2 := hid (HR.out.keep hb2)
      go_region_held (fun w' => Below w2.heap.size w2 w') (with_reducible (first | assumption | exact S0 | exact S1 | exact Below.alloc (by assumption) (Below.size (by assumption)) _ | exact set4 hc5 hlo _ _ _ _))
        (first
          | (go_at_call 10; refine (full_of b z HZ w2.drew).mono ?_; rintro e v4 ⟨g4, rfl, ho4, b4⟩; have hc4 := below_in (w := w2) S0 b4)
          | (go_at_call 10; refine (full_of b z HZ (w2.alloc (.cells #[.slice none 0 0, .int .i64 0, .int .i64 0, .bool false] 24)).drew).mono ?_; rintro e v4 ⟨g4, rfl, ho4, b4⟩; have hc4 := below_in (w := w2) S1 b4; have kz := ((bk_new w2 zK none 0 0 24).drew).keep b4; have tz := ((tk_new w2 #[.slice none 0 0, .int .i64 0, .int .i64 0, .bool false]).keep (Below.refl _ _).drew).keep b4; have hlo : w2.heap.size ≤ w2.heap.size := Nat.le_refl _; have hlt : w2.heap.size < v4.heap.size := kz.lt)
          | (go_at_call 8; have kz' := kz; refine (dwrite_of d A n c a (some ⟨g4, 0, none⟩) 128 128 (fullB b) v k hn (by omega) (hid (fullB_len _)) HV HK v4 (HR2.out.keep hc4) ho4.rd).mono ?_; rintro e v5 ⟨A5, c5, rfl, ho5, b5⟩; have hc5 := below_in hc4 b5; have k5 := kz'.keep b5; have t5 := tz.keep b5; have y0 := k5.bx.sl; have y1 := k5.bx.s; have y2 := k5.bx.l; have y3 := k5.bx.d; have e0 := k5.fz 0 (by omega); have e1 := k5.fz 1 (by omega); have e2 := k5.fz 2 (by omega); have e3 := k5.fz 3 (by omega))
          | (go_at_call 8; refine (dwrite_of d A n c a (some ⟨g4, 0, none⟩) 128 128 (fullB b) v k hn (by omega) (hid (fullB_len _)) HV HK v4 (HR2.out.keep hc4) ho4.rd).mono ?_; rintro e v5 ⟨A5, c5, rfl, ho5, b5⟩; have hc5 := below_in hc4 b5)
          | (go_at_call 8; refine (dwrite_of d A n c a (some ⟨g4, 0, none⟩) 128 128 (fullB b) v k hn (by omega) (hid (fullB_len _)) HV HK (v4.alloc (.cells #[.slice none 0 0, .int .i64 0, .int .i64 0, .bool false] 24)) ((HR2.out.keep hc4).keep (below1 _ _)) (ho4.rd.keep (below1 _ _))).mono ?_; rintro e v5 ⟨A5, c5, rfl, ho5, b5⟩; have hc5 := below_in (hc4.alloc hc4.size _) b5; have k5 := (bk_new v4 zK none 0 0 24).keep b5; have t5 := (tk_new v4 #[.slice none 0 0, .int .i64 0, .int .i64 0, .bool false]).keep b5; have hlo : w2.heap.size ≤ v4.heap.size := hc4.size; have hlt : v4.heap.size < (v4.alloc (.cells #[.slice none 0 0, .int .i64 0, .int .i64 0, .bool false] 24)).heap.size := (by simp [go_sem]); have y0 := k5.bx.sl; have y1 := k5.bx.s; have y2 := k5.bx.l; have y3 := k5.bx.d; have e0 := k5.fz 0 (by omega); have e1 := k5.fz 1 (by omega); have e2 := k5.fz 2 (by omega); have e3 := k5.fz 3 (by omega)))
      all_goals
        go_wp2_with fail
        go_meet
        case rel => first
          | exact ⟨_, _, _, rfl, rfl, out_sto ho5 k5 t5 hlt hlo hc5⟩
          | exact ⟨_, _, _, rfl, rfl, out_new ho5 hc5⟩
    case rest =>
      obtain ⟨g, A5, c5, rfl, rfl, ou⟩ := hcut
      replace xa := xa.keep ou.be
      have hb3 := below_in hb2 ou.be
      clear hb2
      by_cases k0 : k = 0
      · subst k0
        obtain ⟨hm, h0, h1, hl, hvw⟩ := write_0 HK.out
        have hve : v = writtenK d a (fullB b) := by rw [← hvw]; exact HV.out.symm
        have hmv : mayD v = true := by rw [hve]; exact may_written hm h0 h1 hl
        have hst : v.st = d.st := by
          rw [hve]
          cases hdn : doneK d with
          | true => rw [written_done hdn]
          | false => rw [written_not hdn]
        obtain ⟨t, ht⟩ : ∃ t, doneK d = t := ⟨_, rfl⟩
        have hdv : v.dd = !t := by
          rw [hve, ← ht]
          cases hdn : doneK d with
          | true => rw [written_done hdn]; rfl
          | false => rw [written_not hdn]; rfl
        have hlv : v.se.length ≤ 9000 := by have := may_len hmv; omega
        obtain ⟨va, hva⟩ : ∃ x, readV d o = x := ⟨_, rfl⟩
        obtain ⟨ma, hma⟩ : ∃ x, va.length = x := ⟨_, rfl⟩
        obtain ⟨ka, hka⟩ : ∃ x, readE d o = x := ⟨_, rfl⟩
        obtain ⟨vb, hvb⟩ : ∃ x, readV v o = x := ⟨_, rfl⟩
        obtain ⟨mb, hmb⟩ : ∃ x, vb.length = x := ⟨_, rfl⟩
        have hkb : readE v o = ka := by rw [← hka]; exact readE_may hmv hm o
        have F1 := hid hva
        have F2 := hid hma
        have F3 := hid hka
        have F4 := hid hvb
        have F5 := hid hmb
        have F6 := hid hkb
        have F7 : Hid ((if mayD v = true then (0 : Int) else 8) = 0) := hid (by rw [hmv]; rfl)
        have F8 := hid (fun (h : t = true) => (show vb = if o = a then fullB b else va from by
          rw [← hvb, hve, ← hva]
          exact read_done hm (by rw [ht, h]) h0 h1 hl o))
        have F9 := hid (fun (h : t = false) => (show v.se = d.se ∧ vb = va from by
          have e : v.se = d.se := by rw [hve, written_not (by rw [ht, h])]
          exact ⟨e, by rw [← hvb, ← hva]; exact readV_same hmv hm e o⟩))
        have F0 := hid ht
        have HST := hid hst
        have HDV := hid hdv
        clear HK HV hvw hve hmv hm h0 h1 hl hva hma hka hvb hmb hkb ht hd hst hdv
        have x2 := xa.l
        have x3 := xa.d
        cases hdd : d.dd with
        | true =>
          rw [hdd] at x3
          obtain rfl : false = t := by rw [← F0.out, doneK, hdd]; rfl
          clear hdd
          go_wp2_with ((with_reducible refine at_load 24 (.tmp 4) ?_); refine wpList_load_k rfl (.tmp 4) rfl W.heap.size rfl xa ?_)
          refine (dread_of d A n c o va ma ka hn (by omega) F1 F2 F3 _ (HR.out.keep hb3)).mono ?_
          rintro e w5 ⟨Ra, Ca, rfl, oa, b5⟩
          have hb5 := below_in hb3 b5
          replace xa := xa.keep b5
          replace ou := ou.keep b5
          clear x3 b5
          obtain ⟨bs5, ow5⟩ := ou.ow
          go_wp2_with ((with_reducible refine at_load 24 (.tmp 10) ?_); refine wpList_load_k rfl (.tmp 10) rfl g rfl ou.bk.bx ?_)
          refine (dread_of v A5 v.se.length c5 o vb mb ka (hid rfl) hlv F4 F5 F6 _ ow5.rd).mono ?_
          rintro e w6 ⟨Rb, Cb, rfl, ob, b6⟩
          have hb6 := below_in hb5 b6
          replace xa := xa.keep b6
          replace ou := ou.keep b6
          replace oa := oa.keep b6
          clear b6 ow5
          obtain ⟨bs6, ow6⟩ := ou.ow
          go_wp2_with ((with_reducible refine at_load 24 (.tmp 10) ?_); refine wpList_load_k rfl (.tmp 10) rfl g rfl ou.bk.bx ?_)
          refine (dcheck_of v A5 v.se.length c5 (hid rfl) 0 F7 _ ow6.rd).mono ?_
          rintro e w7 ⟨rfl, b7⟩
          have hb7 := below_in hb6 b7
          replace xa := xa.keep b7
          replace ou := ou.keep b7
          replace oa := oa.keep b7
          replace ob := ob.keep b7
          clear b7 ow6
          obtain ⟨bs7, ow7⟩ := ou.ow
          have x1 : w7.cell? ⟨W.heap.size, 1, none⟩ = some (.int .i64 d.st) := xa.s
          have x0 : w7.cell? ⟨W.heap.size, 0, none⟩ = some (.slice A n c) := xa.sl
          have y0 : w7.cell? ⟨g, 0, none⟩ = some (.slice A5 v.se.length c5) := ou.bk.bx.sl
          have y1 : w7.cell? ⟨g, 1, none⟩ = some (.int .i64 d.st) := by rw [← HST.out]; exact ou.bk.bx.s
          have y3 : w7.cell? ⟨g, 3, none⟩ = some (.bool (!false)) := by rw [← HDV.out]; exact ou.bk.bx.d
          obtain ⟨hse, rfl⟩ := F9.out (by simp)
          have HS1 : Hid (sameK ⟨v.se, 0, 0, false⟩ ⟨d.se, 0, 0, false⟩ = true) := hid (by rw [hse]; exact sameK_self _)
          have s1 := rd_string F2 oa.rd
          have s2 := rd_string F5 ob.rd
          have HR7 := hid (HR.out.keep hb7)
          clear F1 F4 F8 F9 F0 HST HDV hse xa ou oa ob
          go_wp2_with fail
          refine (ksame_of true ⟨v.se, 0, 0, false⟩ A5 v.se.length c5 (hid rfl) ⟨d.se, 0, 0, false⟩ A n c hn HS1 _ ow7.rd HR7.out).mono ?_
          rintro e w8 ⟨rfl, b8⟩
          have hb8 := below_in hb7 b8
          go_wp2
          go_ret
          exact ⟨rfl, hb8⟩
        | false =>
          rw [hdd] at x3
          have hlf : (d.lf != 0) = t := by rw [← F0.out, doneK, hdd]; rfl
          clear hdd
          cases t with
          | false =>
            go_wp2_with ((with_reducible refine at_load 24 (.tmp 4) ?_); refine wpList_load_k rfl (.tmp 4) rfl W.heap.size rfl xa ?_)
            refine (dread_of d A n c o va ma ka hn (by omega) F1 F2 F3 _ (HR.out.keep hb3)).mono ?_
            rintro e w5 ⟨Ra, Ca, rfl, oa, b5⟩
            have hb5 := below_in hb3 b5
            replace xa := xa.keep b5
            replace ou := ou.keep b5
            clear x3 b5
            obtain ⟨bs5, ow5⟩ := ou.ow
            go_wp2_with ((with_reducible refine at_load 24 (.tmp 10) ?_); refine wpList_load_k rfl (.tmp 10) rfl g rfl ou.bk.bx ?_)
            refine (dread_of v A5 v.se.length c5 o vb mb ka (hid rfl) hlv F4 F5 F6 _ ow5.rd).mono ?_
            rintro e w6 ⟨Rb, Cb, rfl, ob, b6⟩
            have hb6 := below_in hb5 b6
            replace xa := xa.keep b6
            replace ou := ou.keep b6
            replace oa := oa.keep b6
            clear b6 ow5
            obtain ⟨bs6, ow6⟩ := ou.ow
            go_wp2_with ((with_reducible refine at_load 24 (.tmp 10) ?_); refine wpList_load_k rfl (.tmp 10) rfl g rfl ou.bk.bx ?_)
            refine (dcheck_of v A5 v.se.length c5 (hid rfl) 0 F7 _ ow6.rd).mono ?_
            rintro e w7 ⟨rfl, b7⟩
            have hb7 := below_in hb6 b7
            replace xa := xa.keep b7
            replace ou := ou.keep b7
            replace oa := oa.keep b7
            replace ob := ob.keep b7
            clear b7 ow6
            obtain ⟨bs7, ow7⟩ := ou.ow
            have x1 : w7.cell? ⟨W.heap.size, 1, none⟩ = some (.int .i64 d.st) := xa.s
            have x0 : w7.cell? ⟨W.heap.size, 0, none⟩ = some (.slice A n c) := xa.sl
            have y0 : w7.cell? ⟨g, 0, none⟩ = some (.slice A5 v.se.length c5) := ou.bk.bx.sl
            have y1 : w7.cell? ⟨g, 1, none⟩ = some (.int .i64 d.st) := by rw [← HST.out]; exact ou.bk.bx.s
            have y3 : w7.cell? ⟨g, 3, none⟩ = some (.bool (!false)) := by rw [← HDV.out]; exact ou.bk.bx.d
            obtain ⟨hse, rfl⟩ := F9.out (by simp)
            have HS1 : Hid (sameK ⟨v.se, 0, 0, false⟩ ⟨d.se, 0, 0, false⟩ = true) := hid (by rw [hse]; exact sameK_self _)
            have s1 := rd_string F2 oa.rd
            have s2 := rd_string F5 ob.rd
            have HR7 := hid (HR.out.keep hb7)
            clear F1 F4 F8 F9 F0 HST HDV hse xa ou oa ob
            go_wp2_with fail
            refine (ksame_of true ⟨v.se, 0, 0, false⟩ A5 v.se.length c5 (hid rfl) ⟨d.se, 0, 0, false⟩ A n c hn HS1 _ ow7.rd HR7.out).mono ?_
            rintro e w8 ⟨rfl, b8⟩
            have hb8 := below_in hb7 b8
            go_wp2
            go_ret
            exact ⟨rfl, hb8⟩
          | true =>
            go_wp2_with ((with_reducible refine at_load 24 (.tmp 4) ?_); refine wpList_load_k rfl (.tmp 4) rfl W.heap.size rfl xa ?_)
            refine (dread_of d A n c o va ma ka hn (by omega) F1 F2 F3 _ (HR.out.keep hb3)).mono ?_
            rintro e w5 ⟨Ra, Ca, rfl, oa, b5⟩
            have hb5 := below_in hb3 b5
            replace xa := xa.keep b5
            replace ou := ou.keep b5
            clear x3 b5
            obtain ⟨bs5, ow5⟩ := ou.ow
            go_wp2_with ((with_reducible refine at_load 24 (.tmp 10) ?_); refine wpList_load_k rfl (.tmp 10) rfl g rfl ou.bk.bx ?_)
            refine (dread_of v A5 v.se.length c5 o vb mb ka (hid rfl) hlv F4 F5 F6 _ ow5.rd).mono ?_
            rintro e w6 ⟨Rb, Cb, rfl, ob, b6⟩
            have hb6 := below_in hb5 b6
            replace xa := xa.keep b6
            replace ou := ou.keep b6
            replace oa := oa.keep b6
            clear b6 ow5
            obtain ⟨bs6, ow6⟩ := ou.ow
            go_wp2_with ((with_reducible refine at_load 24 (.tmp 10) ?_); refine wpList_load_k rfl (.tmp 10) rfl g rfl ou.bk.bx ?_)
            refine (dcheck_of v A5 v.se.length c5 (hid rfl) 0 F7 _ ow6.rd).mono ?_
            rintro e w7 ⟨rfl, b7⟩
            have hb7 := below_in hb6 b7
            replace xa := xa.keep b7
            replace ou := ou.keep b7
            replace oa := oa.keep b7
            replace ob := ob.keep b7
            clear b7 ow6
            obtain ⟨bs7, ow7⟩ := ou.ow
            have x1 : w7.cell? ⟨W.heap.size, 1, none⟩ = some (.int .i64 d.st) := xa.s
            have x0 : w7.cell? ⟨W.heap.size, 0, none⟩ = some (.slice A n c) := xa.sl
            have y0 : w7.cell? ⟨g, 0, none⟩ = some (.slice A5 v.se.length c5) := ou.bk.bx.sl
            have y1 : w7.cell? ⟨g, 1, none⟩ = some (.int .i64 d.st) := by rw [← HST.out]; exact ou.bk.bx.s
            have y3 : w7.cell? ⟨g, 3, none⟩ = some (.bool (!true)) := by rw [← HDV.out]; exact ou.bk.bx.d
            have HVB := F8.out (by simp)
            by_cases hoa : o = a
            · rw [if_pos hoa] at HVB
              have d5 : (o == a) = true := by simpa using hoa
              subst HVB
              have k1 := fun w' (h : Below w7.heap.size w7 w') => rd_string F5 (ob.rd.keep h)
              have S0 : Below w7.heap.size w7 w7.drew := (Below.refl _ w7).drew
              clear F1 F4 F8 F9 F0 HST HDV xa ou oa ow7 hoa x0 y0
              go_wp2_with fail
              go_region_held (fun w' => Below w7.heap.size w7 w') (with_reducible (first | assumption | exact S0 | exact below_in S0 (by assumption)))
                ((go_at_call 10; refine (full_of b z HZ _).mono ?_; rintro e w8 ⟨g8, rfl, ho8, b8⟩; have s1 := rd_string (hid (fullB_len b)) ho8.rd; have hb8 := below_in hb7 (below_in S0 b8)))
              go_wp2
              go_ret
              exact ⟨ret_bool (by simp), hb8⟩
            · rw [if_neg hoa] at HVB
              have d5 : (o == a) = false := by simpa using hoa
              subst HVB
              have s1 := rd_string F2 oa.rd
              have s2 := rd_string F5 ob.rd
              clear F1 F4 F8 F9 F0 HST HDV xa ou oa ob ow7 hoa
              go_wp2
              go_ret
              exact ⟨ret_bool (by simp), hb7⟩
      · have d0 : (k != 0) = true := by simpa using k0
        have hvz : v = zK := by rw [← HV.out]; exact write_not (by rw [HK.out]; exact k0)
        have y0 : wc.cell? ⟨g, 0, none⟩ = some (.slice A5 0 c5) := by have := ou.bk.bx.sl; rw [hvz] at this; exact this
        clear xa ou HK HV hvz
        go_wp2
        go_ret
        exact ⟨rfl, hb3⟩


set_option maxRecDepth 100000 in
theorem dlast_lifted (os : Os) (started : os.Started) (H : Type) (enc : TypeId × Value → H) :
    ReturnsInHanded {} Try.checked os 5 .any (Rows.diskLastSpec.pre6 enc Try.prog Try.f5 Rows.diskLastRow.domain false) (Rows.diskLastSpec.post enc Try.prog Try.f5 false true false false) := by
  refine returnsInHanded_of_change (C := Try.checked) own started (by kernel_rfl) Try.func5
    (ChangeSpec.witness6 (enc := enc) (C := Try.checked) false ⟨#[], #[.agg #[.slice none 0 0, .int .i64 0, .int .i64 0, .bool false], .int .i64 0, .int .u8 0, .int .i64 0], []⟩ 8 (by kernel_rfl) (by kernel_rfl) (by kernel_rfl) (by kernel_rfl)) ?_
  intro W base args ds gs before hval0 hW _ _
  have hval : ∀ (j : Nat) t v, Try.f5.params[j]? = some t → args[j]? = some v → Value.okWide Try.prog W .any base t v := hval0
  have hW' := hW
  obtain ⟨p, q, hA0, hV, rfl, _, _⟩ := hW
  have hA : DataW.TrodAll enc Try.prog W 0 (fun _ => true) true Try.f5.params.toList args.toList ds p := hA0
  rw [Try.params5] at hA hval
  obtain ⟨v0, v1, v2, v3, d0, d1, d2, d3, p0, p1, p2, p3, rfl, rfl, rfl, h0, h1, h2, h3⟩ := trodAll_four hA
  obtain ⟨rfl, rfl⟩ := trodVars_none hV
  obtain ⟨d, A, n, c, rfl, hr⟩ := open_disk (hval 0 _ v0 rfl rfl) h0
  obtain ⟨a, rfl, _⟩ := open_i64 (hval 1 _ v1 rfl rfl) h1
  obtain ⟨z, rfl, hz⟩ := open_u8 (hval 2 _ v2 rfl rfl) h2
  obtain ⟨o, rfl, _⟩ := open_i64 (hval 3 _ v3 rfl rfl) h3
  refine (dlast_walk d A n c a z o hz W hr).mono fun e W' ⟨he, hg⟩ => ?_
  subst he
  exact ⟨_, rfl, law_post laidOut (by kernel_rfl) rfl Try.underlying4 rfl rfl hW' hg⟩

theorem dlast_holds : Rows.DiskLastSaid :=
  OpenClaim.holds_of_wide 5 Try.f5 rfl rfl rfl rfl rfl rfl rfl ⟨rfl, rfl, rfl, rfl, rfl⟩ rfl rfl rfl rfl rfl (by kernel_rfl) Try.func5 (by kernel_rfl)
    (of_decide_eq_true (by kernel_rfl)) (by unfold Func.isWrapper; rw [if_neg (of_decide_eq_false (by kernel_rfl))]; exact ⟨rfl, rfl⟩)
    (fun os started H enc _ => dlast_lifted os started H enc)
#print axioms dlast_holds
end Go.Proofs.Ytofnjdkfhboapaa
