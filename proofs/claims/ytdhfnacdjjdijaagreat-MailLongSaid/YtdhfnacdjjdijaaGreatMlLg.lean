/-
  THE STATEMENT MailLong: how many bytes mail has hangs on its kind, and on the kinds of its operations and how many elements these have, alone; at most 900, and more than its operations' alone; for any two of mail. No condition but the statement's own guards (10 operations, 500 runes each).
-/
import Derived.Test.YtdhfnacdjjdijaaGreatMlY
import Derived.Test.YtdhfnacdjjdijaaGreatMlX
import Derived.Test.YtdhfnacdjjdijaaGreatLaw
namespace Go.Proofs.YtdhfnacdjjdijaaGreat
open Go.ChangeShapes Go.WideShapes Go.ChangeAt Go.RowKit Go.Joins
set_option linter.unusedVariables false
set_option linter.unusedSimpArgs false

theorem mayM_ops {m : Mld} (h : mayM m = true) : opsB m.ops = true := by
  obtain ⟨h1, h2, h3⟩ := mayM_parts h
  obtain ⟨k, us, se, co, fr, tt, ak, t0, t1, t2, t3, ops⟩ := m
  simp only at h1 h2
  have e0 : (onlyF ⟨k, us, se, co, fr, tt, ak, t0, t1, t2, t3, ops⟩).ops = ops := by rw [← h3]
  rcases isK_iff.1 h1 with rfl | rfl | rfl | rfl | rfl | rfl | rfl | rfl | rfl | rfl
  case inr.inl => exact (show (ops.length = 1 ∧ opsB ops = true) ∧ plH ops = true by simpa [mayK] using h2).1.2
  case inr.inr.inr.inr.inr.inr.inr.inl => exact (show ((countB fr = true ∧ countB tt = true) ∧ ops.length ≤ 3) ∧ opsB ops = true by simpa [mayK] using h2).2
  all_goals
    have e1 : ops = [] := e0.symm
    subst e1
    rfl
theorem szM_congr {a b : Mld} (h1 : a.kd = b.kd) (h2 : (opsb a.ops).length = (opsb b.ops).length) : szM a = szM b := by
  rw [szM, szM, h1, h2]

/-- The call hands back at most 900 bytes, whatever the error. -/
def RetAny (w : World) (e : Ending) (w' : World) : Prop := ∃ A L c j, e = .returned (.tuple #[.slice A L c, .int .i64 j]) ∧ L ≤ 900 ∧ Below w.heap.size w w'
theorem mput_any (m : Mld) (A : Option Addr) (n c : Nat) (hn : Hid (m.ops.length = n)) (hmr : Mlr m) (w : World) (hr : RdO w A c m.ops) :
    Calls Tryz.prog 14 #[.agg #[.int .u8 m.kd, .int .i64 m.us, .int .i64 m.se, .int .i64 m.co, .int .i64 m.fr, .int .i64 m.tt, .int .u8 m.ak, .int .i64 m.t0, .int .i64 m.t1, .int .i64 m.t2, .int .i64 m.t3, .slice A n c]] w (RetAny w) := by
  cases hm : mayM m
  · refine (mput_no m A n c hn (hid hm) w hr).mono ?_
    rintro e w' ⟨rfl, b⟩
    exact ⟨none, 0, 0, 8, rfl, by omega, b⟩
  · refine (mput_yes _ m A n c hn hmr hm (hid rfl) w hr).mono ?_
    rintro e w' ⟨A', c', rfl, _, b⟩
    exact ⟨A', _, c', 0, rfl, by rw [mlb_len]; exact (szM_le hm).1, b⟩

set_option maxRecDepth 100000 in
set_option maxHeartbeats 12800000 in
theorem mlong_walk (a : Mld) (A : Option Addr) (n c : Nat) (b : Mld) (B : Option Addr) (m d : Nat) (w : World) (hr : Mlr a ∧ Hid (a.ops.length = n) ∧ RdO w A c a.ops) (hs : Mlr b ∧ Hid (b.ops.length = m) ∧ RdO w B d b.ops) :
    Calls Tryz.prog 6 #[.agg #[.int .u8 a.kd, .int .i64 a.us, .int .i64 a.se, .int .i64 a.co, .int .i64 a.fr, .int .i64 a.tt, .int .u8 a.ak, .int .i64 a.t0, .int .i64 a.t1, .int .i64 a.t2, .int .i64 a.t3, .slice A n c], .agg #[.int .u8 b.kd, .int .i64 b.us, .int .i64 b.se, .int .i64 b.co, .int .i64 b.fr, .int .i64 b.tt, .int .u8 b.ak, .int .i64 b.t0, .int .i64 b.t1, .int .i64 b.t2, .int .i64 b.t3, .slice B m d]] w fun e w' => e = .returned (.bool true) ∧ Below w.heap.size w w' := by
  obtain ⟨har, hn, hra⟩ := hr
  obtain ⟨hbr, hm, hrb⟩ := hs
  have hc2 : (c : Int) ≤ 9223372036854775807 := by have := hra.cap; omega
  have hc1 : (n : Int) ≤ c := by have := hra.len; have := hn.out; omega
  have hd2 : (d : Int) ≤ 9223372036854775807 := by have := hrb.cap; omega
  have hd1 : (m : Int) ≤ d := by have := hrb.len; have := hm.out; omega
  have hb0 : Below w.heap.size w ((w.alloc (.cells (#[.int .u8 a.kd, .int .i64 a.us, .int .i64 a.se, .int .i64 a.co, .int .i64 a.fr, .int .i64 a.tt, .int .u8 a.ak, .int .i64 a.t0, .int .i64 a.t1, .int .i64 a.t2, .int .i64 a.t3, .slice A n c]) 27)).alloc (.cells (#[.int .u8 b.kd, .int .i64 b.us, .int .i64 b.se, .int .i64 b.co, .int .i64 b.fr, .int .i64 b.tt, .int .u8 b.ak, .int .i64 b.t0, .int .i64 b.t1, .int .i64 b.t2, .int .i64 b.t3, .slice B m d]) 27)) := by go_grown
  have bx0 := (boxM_new w a A n c 27).keep (past_alloc (o := .cells (#[.int .u8 b.kd, .int .i64 b.us, .int .i64 b.se, .int .i64 b.co, .int .i64 b.fr, .int .i64 b.tt, .int .u8 b.ak, .int .i64 b.t0, .int .i64 b.t1, .int .i64 b.t2, .int .i64 b.t3, .slice B m d]) 27) (Below.refl _ _))
  have by0 := boxM_new (w.alloc (.cells (#[.int .u8 a.kd, .int .i64 a.us, .int .i64 a.se, .int .i64 a.co, .int .i64 a.fr, .int .i64 a.tt, .int .u8 a.ak, .int .i64 a.t0, .int .i64 a.t1, .int .i64 a.t2, .int .i64 a.t3, .slice A n c]) 27)) b B m d 27
  rw [show (w.alloc (.cells (#[.int .u8 a.kd, .int .i64 a.us, .int .i64 a.se, .int .i64 a.co, .int .i64 a.fr, .int .i64 a.tt, .int .u8 a.ak, .int .i64 a.t0, .int .i64 a.t1, .int .i64 a.t2, .int .i64 a.t3, .slice A n c]) 27)).heap.size = w.heap.size + 1 by simp [go_sem]] at by0
  have HRA := hid hra
  have HRB := hid hrb
  clear hra hrb
  go_enter Tryz.func6, Tryz.ntmps6
  go_wp2_with fail
  refine (alive_any _).mono ?_
  rintro e w1 ⟨rfl, b1⟩
  have bx1 := bx0.keep b1
  have by1 := by0.keep b1
  have hb1 := below_in hb0 b1
  clear bx0 by0 b1 hb0
  go_wp2_with (refine wpList_load_m rfl (.tmp 2) rfl w.heap.size rfl bx1 ?_)
  obtain ⟨ga, hga⟩ : ∃ g, greatM a = g := ⟨_, rfl⟩
  have HGA := hid hga
  obtain ⟨gb, hgb⟩ : ∃ g, greatM b = g := ⟨_, rfl⟩
  have HGB := hid hgb
  clear hga hgb
  refine (great_of ga a A n c hn HGA _ (HRA.out.keep hb1)).mono ?_
  rintro e w2 ⟨rfl, b2⟩
  have bx2 := bx1.keep b2
  have by2 := by1.keep b2
  have hb2 := below_in hb1 b2
  clear bx1 by1 b2 hb1
  cases ga
  · go_wp2_with (refine wpList_load_m rfl (.tmp 3) rfl (w.heap.size + 1) rfl by2 ?_)
    refine (great_of gb b B m d hm HGB _ (HRB.out.keep hb2)).mono ?_
    rintro e w3 ⟨rfl, b3⟩
    have bx3 := bx2.keep b3
    have by3 := by2.keep b3
    have hb3 := below_in hb2 b3
    clear bx2 by2 b3 hb2
    cases gb
    · go_wp2_with (refine wpList_load_m rfl (.tmp 2) rfl w.heap.size rfl bx3 ?_)
      cases hqa : mayM a
      · have HQA := hid hqa
        clear hqa
        refine (mput_no a A n c hn HQA _ (HRA.out.keep hb3)).mono ?_
        rintro e w4 ⟨rfl, b4⟩
        have by4 := by3.keep b4
        have hb4 := below_in hb3 b4
        clear bx3 by3 b4 hb3
        go_wp2_with (refine wpList_load_m rfl (.tmp 3) rfl (w.heap.size + 1) rfl by4 ?_)
        refine (mput_any b B m d hm hbr _ (HRB.out.keep hb4)).mono ?_
        rintro e w5 ⟨A5, L5, c5, j5, rfl, hL5, b5⟩
        have hb5 := below_in hb4 b5
        have hL9 : (L5 : Int) ≤ 900 := by omega
        clear by4 b5 hb4
        go_wp2
        go_ret
        exact ⟨rfl, hb5⟩
      · have HQA := hid hqa
        obtain ⟨La, hla⟩ : ∃ L, (mlb a).length = L := ⟨_, rfl⟩
        have HLA := hid hla
        have hsa := szM_le hqa
        have hla9 : La ≤ 900 := by rw [← hla, mlb_len]; exact hsa.1
        have hla9' : (La : Int) ≤ 900 := by omega
        refine (mput_yes La a A n c hn har hqa HLA _ (HRA.out.keep hb3)).mono ?_
        rintro e w4 ⟨A4, c4, rfl, hr4, b4⟩
        have bx4 := bx3.keep b4
        have by4 := by3.keep b4
        have hb4 := below_in hb3 b4
        clear bx3 by3 b4 hb3 hr4 hla hqa
        go_wp2_with (refine wpList_load_m rfl (.tmp 3) rfl (w.heap.size + 1) rfl by4 ?_)
        cases hqb : mayM b
        · have HQB := hid hqb
          clear hqb
          refine (mput_no b B m d hm HQB _ (HRB.out.keep hb4)).mono ?_
          rintro e w5 ⟨rfl, b5⟩
          have hb5 := below_in hb4 b5
          clear bx4 by4 b5 hb4
          go_wp2
          go_ret
          exact ⟨rfl, hb5⟩
        · have HQB := hid hqb
          obtain ⟨Lb, hlb⟩ : ∃ L, (mlb b).length = L := ⟨_, rfl⟩
          have HLB := hid hlb
          have hsb := szM_le hqb
          have hlb9 : Lb ≤ 900 := by rw [← hlb, mlb_len]; exact hsb.1
          have hlb9' : (Lb : Int) ≤ 900 := by omega
          refine (mput_yes Lb b B m d hm hbr hqb HLB _ (HRB.out.keep hb4)).mono ?_
          rintro e W ⟨A5, c5, rfl, hr5, b5⟩
          have bx5 := bx4.keep b5
          have by5 := by4.keep b5
          have hbW := below_in hb4 b5
          clear bx4 by4 b5 hb4 hr5 hlb hqb
          have s0 := bx5.c0
          have t0 := by5.c0
          have s11 := bx5.c11
          have t11 := by5.c11
          by_cases hkd : a.kd = b.kd
          · have d1 : (a.kd != b.kd) = false := by simpa using hkd
            by_cases hnm : n = m
            · subst hnm
              have HKD := hid hkd
              have hg10 := great_no HGA.out
              have hn10 : n ≤ 10 := by have := hn.out; omega
              have HOA := hid (mayM_ops HQA.out)
              have HOB := hid (mayM_ops HQB.out)
              have HSA := hid hsa.2
              have HLab := hid (fun (h : (opsb a.ops).length = (opsb b.ops).length) => (show La = Lb by rw [← HLA.out, ← HLB.out, mlb_len, mlb_len]; exact szM_congr HKD.out h))
              clear hkd hg10 hsa hsb
              go_wp2
              go_loopw [10, 11] (fun v i wr => ∃ (j s : Nat), j ≤ n ∧ i = .int .i64 (j : Int) ∧ v = .int .i64 (s : Int) ∧ Hid ((opsb (a.ops.take j)).length = s) ∧ Hid ((opsb (b.ops.take j)).length = s) ∧ Below W.heap.size W wr) (fun _ i _ => n - (intOf i).toNat)
              case atStart => exact ⟨0, 0, by omega, rfl, rfl, hid rfl, hid rfl, Below.refl _ _⟩
              case round =>
                clear s0 t0 s11 t11
                obtain ⟨j, s, hj, rfl, rfl, hsa, hsb, hb⟩ := hrel
                have bxr := bx5.keep hb
                have byr := by5.keep hb
                have s11 := bxr.c11
                have t11 := byr.c11
                have hs9 : s ≤ 2930 := by
                  have h1 : opsB (a.ops.take j) = true := by
                    rw [opsB, List.all_eq_true]
                    exact fun x hx => List.all_eq_true.1 HOA.out x (List.mem_of_mem_take hx)
                  have := opsb_le h1
                  have h2 : (a.ops.take j).length ≤ j := List.length_take_le _ _
                  have := hsa.out
                  omega
                by_cases hlt : j < n
                · have hln := hn.out
                  have hlm := hm.out
                  obtain ⟨ba, oa, rfl, hcell⟩ := (HRA.out.keep (below_in hbW hb)).at_ (by omega)
                  obtain ⟨bb, ob, rfl, hcell'⟩ := (HRB.out.keep (below_in hbW hb)).at_ (by omega)
                  obtain ⟨X, x, hR, -⟩ := hcell j (by omega)
                  obtain ⟨Y, y, hS, -⟩ := hcell' j (by omega)
                  have hta := opsb_take a.ops j (by omega)
                  have htb := opsb_take b.ops j (by omega)
                  have hma := opsB_at HOA.out (j := j) (by omega)
                  have hmb := opsB_at HOB.out (j := j) (by omega)
                  generalize a.ops[j]'(by omega) = p at hR hta hma
                  generalize b.ops[j]'(by omega) = r at hS htb hmb
                  have h0 : wr.cell? ⟨ba, oa + j * 17, none⟩ = some (.int .u8 p.kd) := hR 0 _ rfl
                  have h9 : wr.cell? ⟨ba, oa + j * 17 + 9, none⟩ = some (.int .i64 p.fm) := hR 9 _ rfl
                  have k0 : wr.cell? ⟨bb, ob + j * 17, none⟩ = some (.int .u8 r.kd) := hS 0 _ rfl
                  have k9 : wr.cell? ⟨bb, ob + j * 17 + 9, none⟩ = some (.int .i64 r.fm) := hS 9 _ rfl
                  have p0 := Past.all h0
                  have p9 := Past.all h9
                  have q0 := Past.all k0
                  have q9 := Past.all k9
                  have p11 := Past.all s11
                  have q11 := Past.all t11
                  have hlt2 : (j : Int) < (n : Int) := by omega
                  by_cases hk : p.kd = r.kd
                  · have d1' : (p.kd != r.kd) = false := by simpa using hk
                    by_cases hf : p.fm = r.fm
                    · have d2' : (p.fm != r.fm) = false := by simpa using hf
                      obtain ⟨z, hz⟩ : ∃ z, (opb p).length = z := ⟨_, rfl⟩
                      have hz1 := opb_length hma
                      have hz2 := opb_length hmb
                      have hzb : (opb r).length = z := by
                        have h1 := hz1.1
                        have h2 := hz2.1
                        rw [← hk, ← hf] at h2
                        omega
                      have HSZ := hid (show szO p.kd p.fm = (z : Int) by rw [← hz]; exact hz1.1.symm)
                      have hz9 : z ≤ 293 := by rw [← hz]; exact hz1.2.2.1
                      have HTA := hid (show (opsb (a.ops.take (j + 1))).length = s + z by rw [hta, List.length_append, hsa.out, hz])
                      have HTB := hid (show (opsb (b.ops.take (j + 1))).length = s + z by rw [htb, List.length_append, hsb.out, hzb])
                      have hw : IntKind.i64.wrap ((s : Int) + (z : Int)) = ((s + z : Nat) : Int) := by rw [IntKind.wrap_i64]; omega
                      clear hta htb hma hmb hR hS hcell hcell' hln hlm hz hz1 hz2 hzb hk hf
                      go_wp2_with fail
                      refine wp_region_past (by kernel_rfl) (by kernel_rfl) ?_
                      repeat (go_big_quiet_step (fail))
                      refine wpQuiet_nil ?_
                      intro _ hw'
                      obtain ⟨x3, rfl⟩ := hw'
                      have hb3 := below_in hb x3.2
                      have g0 := p0 x3
                      have g9 := p9 x3
                      have g11 := p11 x3
                      clear p0 p9 q0 q9 p11 q11 h0 h9 k0 k9 s11 t11 bxr byr hb
                      generalize x3.1 = w3 at *
                      have p0 := Past.all g0
                      have p9 := Past.all g9
                      have p11 := Past.all g11
                      go_wp2_with fail
                      refine wp_region_past (by kernel_rfl) (by kernel_rfl) ?_
                      repeat (go_big_quiet_step (fail))
                      go_big_quiet_step (exact quiet_same (size_of (z : Int) p.kd p.fm HSZ _))
                      repeat (go_big_quiet_step (fail))
                      refine wpQuiet_nil ?_
                      intro _ hw'
                      obtain ⟨x4, rfl⟩ := hw'
                      have hb4 := below_in hb3 x4.2
                      clear p0 p9 p11 g0 g9 g11
                      generalize x4.1 = w4 at *
                      go_wp2
                      go_roundw
                      case rel => exact ⟨j + 1, s + z, by omega, by go_num, by go_num, HTA, HTB, hb4⟩
                      case measure => simp [intOf]; omega
                    · have d2' : (p.fm != r.fm) = true := by simpa using hf
                      clear hta htb hma hmb hR hS hcell hcell' hln hlm hk hf
                      go_wp2_with fail
                      refine wp_region_past (by kernel_rfl) (by kernel_rfl) ?_
                      repeat (go_big_quiet_step (fail))
                      refine wpQuiet_nil ?_
                      intro _ hw'
                      obtain ⟨x3, rfl⟩ := hw'
                      have hb3 := below_in hbW (below_in hb x3.2)
                      clear p0 p9 q0 q9 p11 q11 h0 h9 k0 k9 s11 t11 bxr byr hb
                      generalize x3.1 = w3 at *
                      go_wp2
                      go_ret
                      exact ⟨rfl, hb3⟩
                  · have d1' : (p.kd != r.kd) = true := by simpa using hk
                    clear hta htb hma hmb hR hS hcell hcell' hln hlm hk
                    go_wp2_with fail
                    refine wp_region_past (by kernel_rfl) (by kernel_rfl) ?_
                    repeat (go_big_quiet_step (fail))
                    refine wpQuiet_nil ?_
                    intro _ hw'
                    obtain ⟨x3, rfl⟩ := hw'
                    have hb3 := below_in hbW (below_in hb x3.2)
                    clear p0 p9 q0 q9 p11 q11 h0 h9 k0 k9 s11 t11 bxr byr hb
                    generalize x3.1 = w3 at *
                    go_wp2
                    go_ret
                    exact ⟨rfl, hb3⟩
                · have hlt2 : ¬ (j : Int) < (n : Int) := by omega
                  rw [List.take_of_length_le (by rw [hn.out]; omega)] at hsa
                  rw [List.take_of_length_le (by rw [hm.out]; omega)] at hsb
                  have hLab := HLab.out (by rw [hsa.out, hsb.out])
                  have hgt : (s : Int) < (La : Int) := by have h1 := HSA.out; have h2 := hsa.out; have h3 := HLA.out; rw [mlb_len] at h3; omega
                  have hbe := below_in hbW hb
                  subst hLab
                  clear bxr byr hb
                  go_wp2
                  go_ret
                  exact ⟨rfl, hbe⟩
            · have d2 : ((n : Int) != (m : Int)) = true := by simpa using (show ¬ (n : Int) = m by omega)
              clear hkd hnm
              go_wp2
              go_ret
              exact ⟨rfl, hbW⟩
          · have d1 : (a.kd != b.kd) = true := by simpa using hkd
            clear hkd
            go_wp2
            go_ret
            exact ⟨rfl, hbW⟩
    · clear bx3 by3
      go_wp2
      go_ret
      exact ⟨rfl, hb3⟩
  · clear bx2 by2
    go_wp2
    go_ret
    exact ⟨rfl, hb2⟩

set_option maxRecDepth 100000 in
theorem mlong_lifted (os : Os) (started : os.Started) (H : Type) (enc : TypeId × Value → H) :
    ReturnsInHanded {} Tryz.checked os 6 .any (Rows.mailLongSpec.pre6 enc Tryz.prog Tryz.f6 Rows.mailLongRow.domain false) (Rows.mailLongSpec.post enc Tryz.prog Tryz.f6 false true false false) := by
  refine returnsInHanded_of_change (C := Tryz.checked) own started (by kernel_rfl) Tryz.func6
    (ChangeSpec.witness6 (enc := enc) (C := Tryz.checked) false ⟨#[], #[.agg #[.int .u8 0, .int .i64 0, .int .i64 0, .int .i64 0, .int .i64 0, .int .i64 0, .int .u8 0, .int .i64 0, .int .i64 0, .int .i64 0, .int .i64 0, .slice none 0 0], .agg #[.int .u8 0, .int .i64 0, .int .i64 0, .int .i64 0, .int .i64 0, .int .i64 0, .int .u8 0, .int .i64 0, .int .i64 0, .int .i64 0, .int .i64 0, .slice none 0 0]], []⟩ 8 (by kernel_rfl) (by kernel_rfl) (by kernel_rfl) (by kernel_rfl)) ?_
  intro W base args ds gs before hval0 hW _ _
  have hval : ∀ (j : Nat) t v, Tryz.f6.params[j]? = some t → args[j]? = some v → Value.okWide Tryz.prog W .any base t v := hval0
  have hW' := hW
  obtain ⟨p, q, hA0, hV, rfl, _, _⟩ := hW
  have hA : DataW.TrodAll enc Tryz.prog W 0 (fun _ => true) true Tryz.f6.params.toList args.toList ds p := hA0
  rw [Tryz.params6] at hA hval
  obtain ⟨v0, v1, d0, d1, p0, p1, rfl, rfl, rfl, h0, h1⟩ := trodAll_two hA
  obtain ⟨rfl, rfl⟩ := trodVars_none hV
  obtain ⟨a, A, n, c, rfl, hr⟩ := open_mail (hval 0 _ v0 rfl rfl) h0
  obtain ⟨b, B, m, d, rfl, hs⟩ := open_mail (hval 1 _ v1 rfl rfl) h1
  refine (mlong_walk a A n c b B m d W hr hs).mono fun e W' ⟨he, hg⟩ => ?_
  subst he
  exact ⟨_, rfl, law_post laidOut (by kernel_rfl) rfl Tryz.underlying4 rfl rfl hW' hg⟩

theorem mlong_holds : Rows.MailLongSaid :=
  OpenClaim.holds_of_wide 6 Tryz.f6 rfl rfl rfl rfl rfl rfl rfl ⟨rfl, rfl, rfl, rfl, rfl⟩ rfl rfl rfl rfl rfl (by kernel_rfl) Tryz.func6 (by kernel_rfl)
    (of_decide_eq_true (by kernel_rfl)) (by unfold Func.isWrapper; rw [if_neg (of_decide_eq_false (by kernel_rfl))]; exact ⟨rfl, rfl⟩)
    (fun os started H enc _ => mlong_lifted os started H enc)
#print axioms mlong_holds
end Go.Proofs.YtdhfnacdjjdijaaGreat
