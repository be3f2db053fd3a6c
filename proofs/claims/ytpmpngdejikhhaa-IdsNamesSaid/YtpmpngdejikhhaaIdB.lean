/-
  What is put is got, in as many bytes, whoever made it; and what is got is put as just these bytes: the statement IdsBack, for every id and bytes. Conditions: none (of more than 1,000 bytes the statement itself asks nothing but its examples).
-/
import Derived.Test.YtpmpngdejikhhaaIdK
import Derived.Test.YtpmpngdejikhhaaIdH
namespace Go.Proofs.Ytpmpngdejikhhaa
open Go.ChangeShapes Go.WideShapes Go.ChangeAt Go.RowKit Go.Joins
set_option linter.unusedVariables false
set_option linter.unusedSimpArgs false

theorem check_of (j : Int) (l c k n : Int) (h : Hid (er (mayI l k n) = j)) (w : World) :
    Calls Try.prog 16 #[.agg #[.int .u8 l, .int .u32 c, .int .u8 k, .int .i64 n]] w fun e w' => e = .returned (.int .i64 j) ∧ Below w.heap.size w w' := by
  rw [← h.out]; exact check_id l c k n w
theorem get_j (j : Int) (q : Bool) (x0 x1 x5 x6 : Int) (A : Option Addr) (n c : Nat) (l : List UInt8) (hn : Hid (l.length = n)) (hx : Hid (okI l = q ∧ er q = j ∧ pick q (gL l) = x0 ∧ pick q (gC l) = x1 ∧ pick q (gK l) = x5 ∧ pick q (gN l) = x6)) (w : World) (hr : Rd w A c l) :
    Calls Try.prog 13 #[.slice A n c] w fun e w' => e = .returned (.tuple #[.agg #[.int .u8 x0, .int .u32 x1, .int .u8 x5, .int .i64 x6], .int .i64 j]) ∧ Below w.heap.size w w' := by
  rw [← hx.out.2.1]; exact get_id q x0 x1 x5 x6 A n c l hn (hid ⟨hx.out.1, hx.out.2.2⟩) w hr
theorem hn_range {n : Int} {l k : Int} (h : mayI l k n = true) : 1 ≤ n ∧ n ≤ 1099511627776 ∧ l ≤ 15 ∧ k < 8 := by
  simp [mayI, mayH, mayL] at h; omega

set_option maxRecDepth 100000 in
set_option maxHeartbeats 4000000 in
theorem iback_walk (a0 a1 a2 a3 : Int) (A : Option Addr) (n c : Nat) (l : List UInt8) (ha : Idn a0 a1 a2 a3) (w : World) (hr : Hid (l.length = n) ∧ Rd w A c l) :
    Calls Try.prog 7 #[.agg #[.int .u8 a0, .int .u32 a1, .int .u8 a2, .int .i64 a3], .slice A n c] w fun e w' => e = .returned (.bool true) ∧ Below w.heap.size w w' := by
  obtain ⟨hn, hr⟩ := hr
  have hc2 : (c : Int) ≤ 9223372036854775807 := by have := hr.cap; omega
  have hE := eql_id
  have hE' := neq_id
  have hz : sameI 0 0 0 0 0 0 0 0 = true := by decide
  have hs : sameI a0 a1 a2 a3 a0 a1 a2 a3 = true := by simp [sameI]
  have HN := hid (hn_of ha.han.lab ha.han.k0 ha.han.k1)
  go_enter Try.func7, Try.ntmps7
  go_wp2_with fail
  go_call alive_any _ as e w1 ⟨rfl, b1⟩
  have hb : Below w.heap.size w w1 := below_in (by go_grown) b1
  (have s0 : w1.cell? ⟨w.heap.size, 0, none⟩ = some (.int .u8 a0) := (keep b1 (by simp [go_sem])); have s1 : w1.cell? ⟨w.heap.size, 1, none⟩ = some (.int .u32 a1) := (keep b1 (by simp [go_sem])); have s2 : w1.cell? ⟨w.heap.size, 2, none⟩ = some (.int .u8 a2) := (keep b1 (by simp [go_sem])); have s3 : w1.cell? ⟨w.heap.size, 3, none⟩ = some (.int .i64 a3) := (keep b1 (by simp [go_sem])))
  replace hr := (hr.alloc _).keep b1
  clear b1
  by_cases hlen : 1000 < n
  · have hl : decide ((1000 : Int) < (n : Int)) = true := by simp; omega
    clear hlen
    go_wp2
    go_ret
    exact ⟨rfl, hb⟩
  have hl : decide ((1000 : Int) < (n : Int)) = false := by simp; omega
  have HA := hid ha
  have HL := hid hlen
  clear hlen ha
  have HG : Hid (∃ (q : Bool) (j g0 g1 g5 g6 : Int), Hid (okI l = q ∧ er q = j ∧ pick q (gL l) = g0 ∧ pick q (gC l) = g1 ∧ pick q (gK l) = g5 ∧ pick q (gN l) = g6) ∧ ((q = false ∧ (j != 0) = true ∧ g0 = 0 ∧ g1 = 0 ∧ g5 = 0 ∧ g6 = 0) ∨ (q = true ∧ (j != 0) = false ∧
      Hid (Hn g0 g1 g5 g0.toNat g1.toNat g5.toNat) ∧ Hid ((if mayI g0 g5 g6 = true then iby g0.toNat g1.toNat g5.toNat g6.toNat else []) = l ∧ l.length = 13 ∧ er (mayI g0 g5 g6) = 0) ∧ Hid (er (mayI g0 g5 g6) = 0) ∧ Hid (n = 13)))) := hid (by
    cases hq : okI l
    · exact ⟨_, _, _, _, _, _, hid ⟨rfl, rfl, rfl, rfl, rfl, rfl⟩, .inl ⟨rfl, rfl, rfl, rfl, rfl, rfl⟩⟩
    · refine ⟨_, _, _, _, _, _, hid ⟨rfl, rfl, rfl, rfl, rfl, rfl⟩, .inr ⟨rfl, rfl, ?_⟩⟩
      simp only [okI, Bool.and_eq_true, decide_eq_true_eq] at hq
      obtain ⟨h13, hm⟩ := hq
      have r0 := gL_range l
      have r1 := gC_range l
      have r5 := gK_range l
      have e : er (mayI (gL l) (gK l) (gN l)) = 0 := by rw [hm]; rfl
      simp only [pick_true]
      refine ⟨hid ⟨by omega, by omega, by omega, by omega, by omega, by omega⟩, hid ⟨by simp only [hm, if_true]; exact back_parts h13, h13, e⟩, hid e, hid (by rw [← hn.out]; exact h13)⟩)
  cases hq : mayI a0 a2 a3
  focus
    have HP : Hid ((if mayI a0 a2 a3 = true then iby a0.toNat a1.toNat a2.toNat a3.toNat else []) = [] ∧ ([] : List UInt8).length = 0 ∧ er (mayI a0 a2 a3) = 8) := hid (by rw [hq]; exact ⟨rfl, rfl, rfl⟩)
    clear hq
    go_wp2_with fail
    refine (putId_of [] 0 8 a0 a1 a2 a3 _ _ _ HN HP _).mono ?_
    rintro e w2 ⟨A1, c1, rfl, hr1, b2⟩
    replace hb := below_in hb b2
    replace hr := hr.keep b2
    clear b2 hr1 HP HN HA hs s0 s1 s2 s3
    go_wp2_with fail
  rotate_left
  focus
    obtain ⟨r1, r2, r3, r4⟩ := hn_range hq
    obtain ⟨L, hL⟩ : ∃ L, iby a0.toNat a1.toNat a2.toNat a3.toNat = L := ⟨_, rfl⟩
    obtain ⟨M, hM⟩ : ∃ M, hby a0.toNat a1.toNat a2.toNat = M := ⟨_, rfl⟩
    have HP : Hid ((if mayI a0 a2 a3 = true then iby a0.toNat a1.toNat a2.toNat a3.toNat else []) = L ∧ L.length = 13 ∧ er (mayI a0 a2 a3) = 0) := hid ⟨by rw [if_pos hq, hL], by rw [← hL, iby_length], by rw [hq]; rfl⟩
    have hH : mayH a0 a2 = true := by simp only [mayI, Bool.and_eq_true] at hq; exact hq.1
    have HQ : Hid ((if mayH a0 a2 = true then hby a0.toNat a1.toNat a2.toNat else []) = M ∧ M.length = 6 ∧ er (mayH a0 a2) = 0) := hid ⟨by rw [if_pos hH, hM], by rw [← hM, hby_length], by rw [hH]; rfl⟩
    obtain ⟨t0, t1, t5, t6⟩ := iby_parts a0.toNat a1.toNat a2.toNat a3.toNat HN.out.a1 HN.out.b1 HN.out.d1 (by omega)
    have u0 : gL L = a0 := by rw [← hL, t0, HN.out.la]
    have u1 : gC L = a1 := by rw [← hL, t1, HN.out.cb]
    have u5 : gK L = a2 := by rw [← hL, t5, HN.out.kd]
    have u6 : gN L = a3 := by rw [← hL, t6]; omega
    have HK : Hid (okI L = true ∧ er true = 0 ∧ pick true (gL L) = a0 ∧ pick true (gC L) = a1 ∧ pick true (gK L) = a2 ∧ pick true (gN L) = a3) := hid ⟨by rw [okI, HP.out.2.1, u0, u5, u6, hq]; rfl, rfl, u0, u1, u5, u6⟩
    have HT := hid (show L.take 6 = M by rw [← hL, ← hM, iby_take])
    clear hq hL hM hH t0 t1 t5 t6 u0 u1 u5 u6 r1 r2 r3 r4
    go_wp2_with fail
    refine (putId_of L 13 0 a0 a1 a2 a3 _ _ _ HN HP _).mono ?_
    rintro e w2 ⟨A1, c1, rfl, hr1, b2⟩
    replace hb := below_in hb b2
    replace hr := hr.keep b2
    (replace s0 := keep b2 s0; replace s1 := keep b2 s1; replace s2 := keep b2 s2; replace s3 := keep b2 s3)
    clear b2
    have hc3 : (c1 : Int) ≤ 9223372036854775807 := by have := hr1.cap; omega
    have hc4 : (13 : Int) ≤ c1 := by have := hr1.len; have := HP.out.2.1; omega
    obtain ⟨B1, o1, rfl, hcell⟩ := hr1.at_ (by rw [HP.out.2.1]; omega)
    clear hcell
    go_wp2_with fail
    refine (get_j 0 true a0 a1 a2 a3 _ 13 c1 L (hid HP.out.2.1) HK _ hr1).mono ?_
    rintro e w3 ⟨rfl, b3⟩
    replace hb := below_in hb b3
    replace hr := hr.keep b3
    replace hr1 := hr1.keep b3
    (replace s0 := keep b3 s0; replace s1 := keep b3 s1; replace s2 := keep b3 s2; replace s3 := keep b3 s3)
    (replace s0 := fun o => keepa s0 o; replace s1 := fun o => keepa s1 o; replace s2 := fun o => keepa s2 o; replace s3 := fun o => keepa s3 o)
    clear b3
    go_wp2_with fail
    refine (putHandle_of M 6 0 a0 a1 a2 _ _ _ HN HQ _).mono ?_
    rintro e w4 ⟨A2, c2, rfl, hr2, b4⟩
    (have t0 : w4.cell? ⟨w3.heap.size, 0, none⟩ = some (.int .u8 a0) := (keep b4 (by simp [go_sem])); have t1 : w4.cell? ⟨w3.heap.size, 1, none⟩ = some (.int .u32 a1) := (keep b4 (by simp [go_sem])); have t2 : w4.cell? ⟨w3.heap.size, 2, none⟩ = some (.int .u8 a2) := (keep b4 (by simp [go_sem])); have t3 : w4.cell? ⟨w3.heap.size, 3, none⟩ = some (.int .i64 a3) := (keep b4 (by simp [go_sem])))
    have s4 := keep b4 (s0 _)
    have s5 := keep b4 (s1 _)
    have s6 := keep b4 (s2 _)
    have s7 := keep b4 (s3 _)
    replace b4 := past_alloc b4
    replace hb := below_in hb b4
    replace hr := hr.keep b4
    replace hr1 := hr1.keep b4
    clear b4 s0 s1 s2 s3
    have y1 := fun x : Past w4 => rd_string (n := 6) (hid HQ.out.2.1) (hr2.keep x.2)
    have y2 := fun x : Past w4 => rd_string (n := 6) (hid HQ.out.2.1) (by have := (hr1.keep x.2).take 6; rw [HT.out] at this; exact this)
    (have p0 := Past.all t0; have p1 := Past.all t1; have p2 := Past.all t2; have p3 := Past.all t3)
    have q4 := Past.all s4
    have q5 := Past.all s5
    have q6 := Past.all s6
    have q7 := Past.all s7
    clear t0 t1 t2 t3 s4 s5 s6 s7 HP HQ HK HT
    go_wp2_with fail
    refine wp_region_past (by kernel_rfl) (by kernel_rfl) ?_
    repeat (go_big_quiet_step (fail))
    refine wpQuiet_nil ?_
    rintro w5 ⟨⟨_, hx⟩, rfl⟩
    replace hb := below_in hb hx
    replace hr := hr.keep hx
    clear hx p0 p1 p2 p3 q4 q5 q6 q7 y1 y2 hr1 hr2 HN HA hs
    go_wp2_with fail
  all_goals
    obtain ⟨q, j, g0, g1, g5, g6, HK, hcase⟩ := HG.out
    clear HG
    rcases hcase with ⟨rfl, hj, rfl, rfl, rfl, rfl⟩ | ⟨rfl, hj, HN2, HP2, HC2, H13⟩
    · refine (get_j j false 0 0 0 0 A n c l hn HK _ hr).mono ?_
      rintro e w6 ⟨rfl, b6⟩
      replace hb := below_in hb b6
      go_wp2
      go_ret
      exact ⟨rfl, hb.alloc hb.size _⟩
    · refine (get_j j true g0 g1 g5 g6 A n c l hn HK _ hr).mono ?_
      rintro e w6 ⟨rfl, b6⟩
      replace hb := below_in hb b6
      replace hr := hr.keep b6
      clear b6 HK
      go_wp2_with fail
      refine (putId_of l 13 0 g0 g1 g5 g6 _ _ _ HN2 HP2 _).mono ?_
      rintro e w7 ⟨A7, c7, rfl, hr7, b7⟩
      (have t0 : w7.cell? ⟨w6.heap.size, 0, none⟩ = some (.int .u8 g0) := (keep b7 (by simp [go_sem])); have t1 : w7.cell? ⟨w6.heap.size, 1, none⟩ = some (.int .u32 g1) := (keep b7 (by simp [go_sem])); have t2 : w7.cell? ⟨w6.heap.size, 2, none⟩ = some (.int .u8 g5) := (keep b7 (by simp [go_sem])); have t3 : w7.cell? ⟨w6.heap.size, 3, none⟩ = some (.int .i64 g6) := (keep b7 (by simp [go_sem])))
      replace b7 := past_alloc b7
      replace hb := below_in hb b7
      replace hr := hr.keep b7
      clear b7
      have y1 := rd_string (n := 13) (hid HP2.out.2.1) hr7
      have y2 := rd_string hn hr
      clear hr hr7
      go_wp2_with fail
      refine (check_of 0 g0 g1 g5 g6 HC2 _).mono ?_
      rintro e w8 ⟨rfl, b8⟩
      go_wp2
      go_ret
      exact ⟨rfl, below_in hb b8⟩


set_option maxRecDepth 100000 in
theorem iback_lifted (os : Os) (started : os.Started) (H : Type) (enc : TypeId × Value → H) :
    ReturnsInHanded {} Try.checked os 7 .any (Rows.idsBackSpec.pre6 enc Try.prog Try.f7 Rows.idsBackRow.domain false) (Rows.idsBackSpec.post enc Try.prog Try.f7 false true false false) := by
  refine returnsInHanded_of_change (C := Try.checked) own started (by kernel_rfl) Try.func7
    (ChangeSpec.witness6 (enc := enc) (C := Try.checked) false ⟨#[], #[.agg #[.int .u8 0, .int .u32 0, .int .u8 0, .int .i64 0], .slice none 0 0], []⟩ 8 (by kernel_rfl) (by kernel_rfl) (by kernel_rfl) (by kernel_rfl)) ?_
  intro W base args ds gs before hval0 hW _ _
  have hval : ∀ (j : Nat) t v, Try.f7.params[j]? = some t → args[j]? = some v → Value.okWide Try.prog W .any base t v := hval0
  have hW' := hW
  obtain ⟨p, q, hA0, hV, rfl, _, _⟩ := hW
  have hA : DataW.TrodAll enc Try.prog W 0 (fun _ => true) true Try.f7.params.toList args.toList ds p := hA0
  rw [Try.params7] at hA hval
  obtain ⟨v0, v1, d0, d1, p0, p1, rfl, rfl, rfl, h0, h1⟩ := trodAll_two hA
  obtain ⟨rfl, rfl⟩ := trodVars_none hV
  obtain ⟨a0, a1, a2, a3, rfl, ha⟩ := open_id (hval 0 _ v0 rfl rfl) h0
  obtain ⟨A, n, c, l, rfl, hr⟩ := open_bytes (hval 1 _ v1 rfl rfl) h1
  refine (iback_walk a0 a1 a2 a3 A n c l ha W hr).mono fun e W' ⟨he, hg⟩ => ?_
  subst he
  exact ⟨_, rfl, law_post laidOut (by kernel_rfl) rfl Try.underlying4 rfl rfl hW' hg⟩

theorem iback_holds : Rows.IdsBackSaid :=
  OpenClaim.holds_of_wide 7 Try.f7 rfl rfl rfl rfl rfl rfl rfl ⟨rfl, rfl, rfl, rfl, rfl⟩ rfl rfl rfl rfl rfl (by kernel_rfl) Try.func7 (by kernel_rfl)
    (of_decide_eq_true (by kernel_rfl)) (by unfold Func.isWrapper; rw [if_neg (of_decide_eq_false (by kernel_rfl))]; exact ⟨rfl, rfl⟩)
    (fun os started H enc _ => iback_lifted os started H enc)
#print axioms iback_holds
end Go.Proofs.Ytpmpngdejikhhaa
