/-
  Ids' and handles' bytes, and those of bytes, are the document's, and what is handed in stays: the statement IdsWrite, for every id and bytes. Conditions: none (of more than 1,000 bytes the statement itself asks nothing).
-/
import Derived.Test.YtpmpngdejikhhaaIdB
import Derived.Test.YtpmpngdejikhhaaIdQ
import Derived.Test.YtpmpngdejikhhaaIdX
namespace Go.Proofs.Ytpmpngdejikhhaa
open Go.ChangeShapes Go.WideShapes Go.ChangeAt Go.RowKit Go.Joins
set_option linter.unusedVariables false
set_option linter.unusedSimpArgs false

theorem rGet_j (j : Int) (q : Bool) (x0 x1 x5 x6 : Int) (A : Option Addr) (n c : Nat) (l : List UInt8) (hn : Hid (l.length = n)) (hx : Hid (okI l = q ∧ er q = j ∧ pick q (gL l) = x0 ∧ pick q (gC l) = x1 ∧ pick q (gK l) = x5 ∧ pick q (gN l) = x6)) (w : World) (hr : Rd w A c l) :
    Calls Try.prog 30 #[.slice A n c] w fun e w' => e = .returned (.tuple #[.agg #[.int .u8 x0, .int .u32 x1, .int .u8 x5, .int .i64 x6], .int .i64 j]) ∧ Below w.heap.size w w' := by
  rw [← hx.out.2.1]; exact rGet_id q x0 x1 x5 x6 A n c l hn (hid ⟨hx.out.1, hx.out.2.2⟩) w hr
theorem getHandle_j (j : Int) (q : Bool) (x0 x1 x5 : Int) (A : Option Addr) (n c : Nat) (l : List UInt8) (hn : Hid (l.length = n)) (hx : Hid (okH l = q ∧ er q = j ∧ pick q (gL l) = x0 ∧ pick q (gC l) = x1 ∧ pick q (gK l) = x5)) (w : World) (hr : Rd w A c l) :
    Calls Try.prog 31 #[.slice A n c] w fun e w' => e = .returned (.tuple #[.agg #[.int .u8 x0, .int .u32 x1, .int .u8 x5], .int .i64 j]) ∧ Below w.heap.size w w' := by
  rw [← hx.out.2.1]; exact getHandle_of q x0 x1 x5 A n c l hn (hid ⟨hx.out.1, hx.out.2.2⟩) w hr
theorem rGetHandle_j (j : Int) (q : Bool) (x0 x1 x5 : Int) (A : Option Addr) (n c : Nat) (l : List UInt8) (hn : Hid (l.length = n)) (hx : Hid (okH l = q ∧ er q = j ∧ pick q (gL l) = x0 ∧ pick q (gC l) = x1 ∧ pick q (gK l) = x5)) (w : World) (hr : Rd w A c l) :
    Calls Try.prog 32 #[.slice A n c] w fun e w' => e = .returned (.tuple #[.agg #[.int .u8 x0, .int .u32 x1, .int .u8 x5], .int .i64 j]) ∧ Below w.heap.size w w' := by
  rw [← hx.out.2.1]; exact rGetHandle_of q x0 x1 x5 A n c l hn (hid ⟨hx.out.1, hx.out.2.2⟩) w hr

set_option maxRecDepth 100000 in
set_option maxHeartbeats 4000000 in
theorem iwrite_walk (a0 a1 a2 a3 : Int) (A : Option Addr) (n c : Nat) (l : List UInt8) (ha : Idn a0 a1 a2 a3) (w : World) (hr : Hid (l.length = n) ∧ Rd w A c l) :
    Calls Try.prog 5 #[.agg #[.int .u8 a0, .int .u32 a1, .int .u8 a2, .int .i64 a3], .slice A n c] w fun e w' => e = .returned (.bool true) ∧ Below w.heap.size w w' := by
  obtain ⟨hn, hr⟩ := hr
  have HN := hid (hn_of ha.han.lab ha.han.k0 ha.han.k1)
  obtain ⟨L, m, j, hL⟩ : ∃ (L : List UInt8) (m : Nat) (j : Int), (if mayI a0 a2 a3 = true then iby a0.toNat a1.toNat a2.toNat a3.toNat else []) = L ∧ L.length = m ∧ er (mayI a0 a2 a3) = j := ⟨_, _, _, rfl, rfl, rfl⟩
  obtain ⟨M, k, i, hM⟩ : ∃ (M : List UInt8) (k : Nat) (i : Int), (if mayH a0 a2 = true then hby a0.toNat a1.toNat a2.toNat else []) = M ∧ M.length = k ∧ er (mayH a0 a2) = i := ⟨_, _, _, rfl, rfl, rfl⟩
  obtain ⟨q, u, g0, g1, g5, g6, hG⟩ : ∃ (q : Bool) (u g0 g1 g5 g6 : Int), okI l = q ∧ er q = u ∧ pick q (gL l) = g0 ∧ pick q (gC l) = g1 ∧ pick q (gK l) = g5 ∧ pick q (gN l) = g6 := ⟨_, _, _, _, _, _, rfl, rfl, rfl, rfl, rfl, rfl⟩
  obtain ⟨p, v, h0, h1, h5, hH⟩ : ∃ (p : Bool) (v h0 h1 h5 : Int), okH l = p ∧ er p = v ∧ pick p (gL l) = h0 ∧ pick p (gC l) = h1 ∧ pick p (gK l) = h5 := ⟨_, _, _, _, _, rfl, rfl, rfl, rfl, rfl⟩
  have HL := hid hL
  have HM := hid hM
  have HG := hid hG
  have HH := hid hH
  have hE := eql_id
  have hF := eql_handle
  have z1 : sameI g0 g1 g5 g6 g0 g1 g5 g6 = true := by simp [sameI]
  have z2 : sameH h0 h1 h5 h0 h1 h5 = true := by simp [sameH]
  clear ha hL hM hG hH
  go_enter Try.func5, Try.ntmps5
  by_cases hlen : 1000 < n
  · have hl : (1000 : Int) < (n : Int) := by omega
    clear hlen
    go_wp2
    go_ret
    exact ⟨rfl, by go_grown⟩
  have hl : ¬ (1000 : Int) < (n : Int) := by omega
  have HZ := hid hlen
  have y0 := rd_string hn (hr.alloc (.cells #[.int .u8 a0, .int .u32 a1, .int .u8 a2, .int .i64 a3] 28))
  clear hlen
  go_wp2_with fail
  refine (putId_of L m j a0 a1 a2 a3 _ _ _ HN HL _).mono ?_
  rintro e w1 ⟨A1, c1, rfl, r1, b1⟩
  have hb : Below w.heap.size w w1 := below_in (by go_grown) b1
  (have s0 : w1.cell? ⟨w.heap.size, 0, none⟩ = some (.int .u8 a0) := (keep b1 (by simp [go_sem])); have s1 : w1.cell? ⟨w.heap.size, 1, none⟩ = some (.int .u32 a1) := (keep b1 (by simp [go_sem])); have s2 : w1.cell? ⟨w.heap.size, 2, none⟩ = some (.int .u8 a2) := (keep b1 (by simp [go_sem])); have s3 : w1.cell? ⟨w.heap.size, 3, none⟩ = some (.int .i64 a3) := (keep b1 (by simp [go_sem])))
  replace hr := (hr.alloc _).keep b1
  clear b1 y0
  go_wp2_with fail
  refine (rPut_of L m j a0 a1 a2 a3 _ _ _ HN HL _).mono ?_
  rintro e w2 ⟨A2, c2, rfl, r2, b2⟩
  replace hb := below_in hb b2
  (replace s0 := keep b2 s0; replace s1 := keep b2 s1; replace s2 := keep b2 s2; replace s3 := keep b2 s3)
  replace hr := hr.keep b2
  replace r1 := r1.keep b2
  clear b2
  go_wp2_with fail
  refine (putHandle_of M k i a0 a1 a2 _ _ _ HN HM _).mono ?_
  rintro e w3 ⟨A3, c3, rfl, r3, b3⟩
  replace hb := below_in hb b3
  (replace s0 := keep b3 s0; replace s1 := keep b3 s1; replace s2 := keep b3 s2; replace s3 := keep b3 s3)
  replace hr := hr.keep b3
  replace r1 := r1.keep b3
  replace r2 := r2.keep b3
  clear b3
  go_wp2_with fail
  refine (rPutHandle_of M k i a0 a1 a2 _ _ _ HN HM _).mono ?_
  rintro e w4 ⟨A4, c4, rfl, r4, b4⟩
  replace hb := below_in hb b4
  replace hr := hr.keep b4
  replace r1 := r1.keep b4
  replace r2 := r2.keep b4
  replace r3 := r3.keep b4
  clear b4 s0 s1 s2 s3
  go_wp2_with fail
  refine (get_j u q g0 g1 g5 g6 A n c l hn HG _ hr).mono ?_
  rintro e w5 ⟨rfl, b5⟩
  replace hb := below_in hb b5
  replace hr := hr.keep b5
  replace r1 := r1.keep b5
  replace r2 := r2.keep b5
  replace r3 := r3.keep b5
  replace r4 := r4.keep b5
  clear b5
  go_wp2_with fail
  refine (rGet_j u q g0 g1 g5 g6 A n c l hn HG _ (hr.alloc _)).mono ?_
  rintro e w6 ⟨rfl, b6⟩
  (have s0 : w6.cell? ⟨w5.heap.size, 0, none⟩ = some (.int .u8 g0) := (keep b6 (by simp [go_sem])); have s1 : w6.cell? ⟨w5.heap.size, 1, none⟩ = some (.int .u32 g1) := (keep b6 (by simp [go_sem])); have s2 : w6.cell? ⟨w5.heap.size, 2, none⟩ = some (.int .u8 g5) := (keep b6 (by simp [go_sem])); have s3 : w6.cell? ⟨w5.heap.size, 3, none⟩ = some (.int .i64 g6) := (keep b6 (by simp [go_sem])))
  replace b6 := past_alloc b6
  replace hb := below_in hb b6
  replace hr := hr.keep b6
  replace r1 := r1.keep b6
  replace r2 := r2.keep b6
  replace r3 := r3.keep b6
  replace r4 := r4.keep b6
  clear b6
  go_wp2_with fail
  refine (getHandle_j v p h0 h1 h5 A n c l hn HH _ (hr.alloc _)).mono ?_
  rintro e w7 ⟨rfl, b7⟩
  (have t0 : w7.cell? ⟨w6.heap.size, 0, none⟩ = some (.int .u8 g0) := (keep b7 (by simp [go_sem])); have t1 : w7.cell? ⟨w6.heap.size, 1, none⟩ = some (.int .u32 g1) := (keep b7 (by simp [go_sem])); have t2 : w7.cell? ⟨w6.heap.size, 2, none⟩ = some (.int .u8 g5) := (keep b7 (by simp [go_sem])); have t3 : w7.cell? ⟨w6.heap.size, 3, none⟩ = some (.int .i64 g6) := (keep b7 (by simp [go_sem])))
  replace b7 := past_alloc b7
  replace hb := below_in hb b7
  (replace s0 := keep b7 s0; replace s1 := keep b7 s1; replace s2 := keep b7 s2; replace s3 := keep b7 s3)
  replace hr := hr.keep b7
  replace r1 := r1.keep b7
  replace r2 := r2.keep b7
  replace r3 := r3.keep b7
  replace r4 := r4.keep b7
  clear b7
  go_wp2_with fail
  refine (rGetHandle_j v p h0 h1 h5 A n c l hn HH _ (hr.alloc _)).mono ?_
  rintro e w8 ⟨rfl, b8⟩
  (have x0 : w8.cell? ⟨w7.heap.size, 0, none⟩ = some (.int .u8 h0) := (keep b8 (by simp [go_sem])); have x1 : w8.cell? ⟨w7.heap.size, 1, none⟩ = some (.int .u32 h1) := (keep b8 (by simp [go_sem])); have x2 : w8.cell? ⟨w7.heap.size, 2, none⟩ = some (.int .u8 h5) := (keep b8 (by simp [go_sem])))
  replace b8 := past_alloc b8
  replace hb := below_in hb b8
  (replace s0 := keep b8 s0; replace s1 := keep b8 s1; replace s2 := keep b8 s2; replace s3 := keep b8 s3)
  (replace t0 := keep b8 t0; replace t1 := keep b8 t1; replace t2 := keep b8 t2; replace t3 := keep b8 t3)
  (replace s0 := fun o => keepa s0 o; replace s1 := fun o => keepa s1 o; replace s2 := fun o => keepa s2 o; replace s3 := fun o => keepa s3 o)
  (replace t0 := fun o => keepa t0 o; replace t1 := fun o => keepa t1 o; replace t2 := fun o => keepa t2 o; replace t3 := fun o => keepa t3 o)
  (replace x0 := fun o => keepa x0 o; replace x1 := fun o => keepa x1 o; replace x2 := fun o => keepa x2 o)
  replace hr := hr.keep b8
  replace r1 := r1.keep b8
  replace r2 := r2.keep b8
  replace r3 := r3.keep b8
  replace r4 := r4.keep b8
  have y1 := fun o => rd_string (hid HL.out.2.1) (r1.alloc o)
  have y2 := fun o => rd_string (hid HL.out.2.1) (r2.alloc o)
  have y3 := fun o => rd_string (hid HM.out.2.1) (r3.alloc o)
  have y4 := fun o => rd_string (hid HM.out.2.1) (r4.alloc o)
  have y5 := fun o => rd_string hn (hr.alloc o)
  clear b8 r1 r2 r3 r4 hr
  go_wp2
  go_ret
  exact ⟨rfl, hb.alloc hb.size _⟩


set_option maxRecDepth 100000 in
theorem iwrite_lifted (os : Os) (started : os.Started) (H : Type) (enc : TypeId × Value → H) :
    ReturnsInHanded {} Try.checked os 5 .any (Rows.idsWriteSpec.pre6 enc Try.prog Try.f5 Rows.idsWriteRow.domain false) (Rows.idsWriteSpec.post enc Try.prog Try.f5 false true false false) := by
  refine returnsInHanded_of_change (C := Try.checked) own started (by kernel_rfl) Try.func5
    (ChangeSpec.witness6 (enc := enc) (C := Try.checked) false ⟨#[], #[.agg #[.int .u8 0, .int .u32 0, .int .u8 0, .int .i64 0], .slice none 0 0], []⟩ 8 (by kernel_rfl) (by kernel_rfl) (by kernel_rfl) (by kernel_rfl)) ?_
  intro W base args ds gs before hval0 hW _ _
  have hval : ∀ (j : Nat) t v, Try.f5.params[j]? = some t → args[j]? = some v → Value.okWide Try.prog W .any base t v := hval0
  have hW' := hW
  obtain ⟨p, q, hA0, hV, rfl, _, _⟩ := hW
  have hA : DataW.TrodAll enc Try.prog W 0 (fun _ => true) true Try.f5.params.toList args.toList ds p := hA0
  rw [Try.params5] at hA hval
  obtain ⟨v0, v1, d0, d1, p0, p1, rfl, rfl, rfl, h0, h1⟩ := trodAll_two hA
  obtain ⟨rfl, rfl⟩ := trodVars_none hV
  obtain ⟨a0, a1, a2, a3, rfl, ha⟩ := open_id (hval 0 _ v0 rfl rfl) h0
  obtain ⟨A, n, c, l, rfl, hr⟩ := open_bytes (hval 1 _ v1 rfl rfl) h1
  refine (iwrite_walk a0 a1 a2 a3 A n c l ha W hr).mono fun e W' ⟨he, hg⟩ => ?_
  subst he
  exact ⟨_, rfl, law_post laidOut (by kernel_rfl) rfl Try.underlying4 rfl rfl hW' hg⟩

theorem iwrite_holds : Rows.IdsWriteSaid :=
  OpenClaim.holds_of_wide 5 Try.f5 rfl rfl rfl rfl rfl rfl rfl ⟨rfl, rfl, rfl, rfl, rfl⟩ rfl rfl rfl rfl rfl (by kernel_rfl) Try.func5 (by kernel_rfl)
    (of_decide_eq_true (by kernel_rfl)) (by unfold Func.isWrapper; rw [if_neg (of_decide_eq_false (by kernel_rfl))]; exact ⟨rfl, rfl⟩)
    (fun os started H enc _ => iwrite_lifted os started H enc)
#print axioms iwrite_holds
end Go.Proofs.Ytpmpngdejikhhaa
