/-
  A grant's bytes, and that of bytes, are the document's, and what is handed in stays: the statement GrantWrites, for every grant and bytes. Conditions: none (of more than 1,000 bytes the statement itself asks nothing).
-/
import Derived.Test.YtbigppdaoakkfaaGrU
import Derived.Test.YtbigppdaoakkfaaGrX
import Derived.Test.YtbigppdaoakkfaaGrH
namespace Go.Proofs.Ytbigppdaoakkfaa
open Go.ChangeShapes Go.WideShapes Go.ChangeAt Go.RowKit Go.Joins
set_option linter.unusedVariables false
set_option linter.unusedSimpArgs false

theorem rget_j (j : Int) (q : Bool) (u l0 l1 : Int) (ok : Bool) (A : Option Addr) (n c : Nat) (l : List UInt8) (hn : Hid (l.length = n)) (hx : Hid (okG l = q ∧ er q = j ∧ pickG q (gg l) = ⟨u, l0, l1, ok⟩)) (w : World) (hr : Rd w A c l) :
    Calls Try.prog 24 #[.slice A n c] w fun e w' => e = .returned (.tuple #[.agg #[.int .i64 u, .int .u8 l0, .int .u32 l1, .bool ok], .int .i64 j]) ∧ Below w.heap.size w w' := by
  rw [← hx.out.2.1]; exact rget_of q u l0 l1 ok A n c l hn (hid ⟨hx.out.1, hx.out.2.2⟩) w hr

set_option maxRecDepth 100000 in
set_option maxHeartbeats 4000000 in
theorem gwrites_walk (u l0 l1 : Int) (b : Bool) (A : Option Addr) (n c : Nat) (l : List UInt8) (hx : Gr.typed ⟨u, l0, l1, b⟩) (w : World) (hr : Hid (l.length = n) ∧ Rd w A c l) :
    Calls Try.prog 5 #[.agg #[.int .i64 u, .int .u8 l0, .int .u32 l1, .bool b], .slice A n c] w fun e w' => e = .returned (.bool true) ∧ Below w.heap.size w w' := by
  obtain ⟨HK, hr⟩ := hr
  obtain ⟨i0, hi0, hz0, hz1, hz2⟩ := info_parts info_u8
  by_cases hbig : 1000 < n
  · have hb2 : (1000 : Int) < (n : Int) := by omega
    clear hi0 hz0 hz1 hz2
    go_enter Try.func5, Try.ntmps5
    go_wp2
    go_ret
    exact ⟨rfl, by go_grown⟩
  have hk2 : (n : Int) ≤ 1000 := by omega
  obtain ⟨L, m, j, hL⟩ : ∃ (L : List UInt8) (m : Nat) (j : Int), pb ⟨u, l0, l1, b⟩ = L ∧ L.length = m ∧ er (mayG ⟨u, l0, l1, b⟩) = j := ⟨_, _, _, rfl, rfl, rfl⟩
  obtain ⟨q, i, g0, g1, g2, g3, hG⟩ : ∃ (q : Bool) (i g0 g1 g2 : Int) (g3 : Bool), okG l = q ∧ er q = i ∧ pickG q (gg l) = ⟨g0, g1, g2, g3⟩ := ⟨_, _, _, _, _, _, rfl, rfl, rfl⟩
  have HX := hid hx
  have HL := hid hL
  have HG := hid hG
  have hE := eql_grant
  have z1 : sameG g0 g1 g2 g3 g0 g1 g2 g3 = true := sameG_refl g0 g1 g2 g3
  have HO := hid (show (l ++ [7]).length = n + 1 by rw [List.length_append, HK.out]; rfl)
  have HTK := hid (show (l ++ [7]).take n = l by rw [← HK.out]; simp)
  have hr0 := hr.alloc (.cells #[.int .i64 u, .int .u8 l0, .int .u32 l1, .bool b] 36)
  clear hL hG hx hbig
  go_enter Try.func5, Try.ntmps5
  go_wp2_with (first
    | (at_builtin; refine wpList_append_rd rfl (.const (.slice none 0 0)) (.tmp 17) _ rfl (w.heap.size + 1) 5 Try.underlying38 hi0 hz0 hz1 hz2 none 0 0 [] (hid rfl) rfl (Own.nil _ _ _) A n c l HK rfl hr0 (by omega) (by simp) ?_; intro A3 c3 w3 hown3 b3)
    | (at_builtin; refine wpList_append_rd rfl (.tmp 18) (.tmp 19) _ rfl (w.heap.size + 1) 5 Try.underlying38 hi0 hz0 hz1 hz2 A3 n c3 ([] ++ l) (hid (by simp; exact HK.out)) rfl (hown3.keep ((Below.refl _ _).alloc (Nat.le_refl _) _)) (some ⟨w3.heap.size, 0, none⟩) 1 1 [7] (hid rfl) rfl (lit_rd w3 [7] (by simp)) (by omega) (by have := b3.size; simp at *; omega) ?_; intro A4 c4 w4 hown4 b4; have hB : Below (w.heap.size + 1) (w.alloc (.cells #[.int .i64 u, .int .u8 l0, .int .u32 l1, .bool b] 36)) w4 := (b3.alloc (by have := b3.size; simpa using this) _).trans b4; (have s0 : w4.cell? ⟨w.heap.size, 0, none⟩ = some (.int .i64 u) := (keepB hB (by show w.heap.size < _; omega) (by simp [go_sem])); have s1 : w4.cell? ⟨w.heap.size, 1, none⟩ = some (.int .u8 l0) := (keepB hB (by show w.heap.size < _; omega) (by simp [go_sem])); have s2 : w4.cell? ⟨w.heap.size, 2, none⟩ = some (.int .u32 l1) := (keepB hB (by show w.heap.size < _; omega) (by simp [go_sem])); have s3 : w4.cell? ⟨w.heap.size, 3, none⟩ = some (.bool b) := (keepB hB (by show w.heap.size < _; omega) (by simp [go_sem])))))
  have hb : Below w.heap.size w w4 := (show Below w.heap.size w _ by go_grown).trans (hB.mono (by omega))
  rw [List.nil_append] at hown4
  replace hr := hr.keep hb
  have r4 := hown4.rd
  clear hown3 hown4 b4 b3 hB hr0 hi0 hz0 hz1 hz2
  refine (gput_of L m j u l0 l1 b HX.out HL _).mono ?_
  rintro e w5 ⟨A5, c5, rfl, r5, b5⟩
  replace hb := below_in hb b5
  replace hr := hr.keep b5
  replace r4 := r4.keep b5
  (replace s0 := keep b5 s0; replace s1 := keep b5 s1; replace s2 := keep b5 s2; replace s3 := keep b5 s3)
  clear b5
  go_wp2_with fail
  refine (rput_of L m j u l0 l1 b HX.out HL _).mono ?_
  rintro e w6 ⟨A6, c6, rfl, r6, b6⟩
  replace hb := below_in hb b6
  replace hr := hr.keep b6
  replace r4 := r4.keep b6
  replace r5 := r5.keep b6
  clear b6 s0 s1 s2 s3 HX
  have hk4 := r4.len
  have hc4 := r4.cap
  rw [HO.out] at hk4
  obtain ⟨b9, o9, rfl, _⟩ := r4.at_ (by rw [HO.out]; omega)
  have hc5 : (n : Int) ≤ (c4 : Int) := by omega
  have hc6 : ¬ c4 = 0 := by omega
  have r7 := r4.take n
  rw [HTK.out] at r7
  go_wp2_with fail
  refine (gget_j i q g0 g1 g2 g3 _ n c4 l HK HG _ r7).mono ?_
  rintro e w7 ⟨rfl, b7⟩
  replace hb := below_in hb b7
  replace hr := hr.keep b7
  replace r4 := r4.keep b7
  replace r5 := r5.keep b7
  replace r6 := r6.keep b7
  clear b7 r7
  go_wp2_with fail
  refine (rget_j i q g0 g1 g2 g3 A n c l HK HG _ (hr.alloc _)).mono ?_
  rintro e w8 ⟨rfl, b8⟩
  (have t0 : w8.cell? ⟨w7.heap.size, 0, none⟩ = some (.int .i64 g0) := (keep b8 (by simp [go_sem])); have t1 : w8.cell? ⟨w7.heap.size, 1, none⟩ = some (.int .u8 g1) := (keep b8 (by simp [go_sem])); have t2 : w8.cell? ⟨w7.heap.size, 2, none⟩ = some (.int .u32 g2) := (keep b8 (by simp [go_sem])); have t3 : w8.cell? ⟨w7.heap.size, 3, none⟩ = some (.bool g3) := (keep b8 (by simp [go_sem])))
  replace b8 := past_alloc b8
  replace hb := below_in hb b8
  replace hr := hr.keep b8
  replace r4 := r4.keep b8
  replace r5 := r5.keep b8
  replace r6 := r6.keep b8
  (replace t0 := fun o => keepa t0 o; replace t1 := fun o => keepa t1 o; replace t2 := fun o => keepa t2 o; replace t3 := fun o => keepa t3 o)
  have y1 := fun o => rd_string (hid HL.out.2.1) (r5.alloc o)
  have y2 := fun o => rd_string (hid HL.out.2.1) (r6.alloc o)
  have y3 := fun o => rd_string HO (r4.alloc o)
  have y4 := fun o => rd_string HK (hr.alloc o)
  have hcat : ¬ 9223372036854775807 < l.length + 1 := by rw [HK.out]; omega
  clear b8 r4 r5 r6 hr HG HL HTK
  go_wp2
  go_ret
  exact ⟨ret_bool (by rw [ByteArray.mk_append_mk l [7], ByteArray.toList_mk]; simp), hb.alloc hb.size _⟩


set_option maxRecDepth 100000 in
theorem gwrites_lifted (os : Os) (started : os.Started) (H : Type) (enc : TypeId × Value → H) :
    ReturnsInHanded {} Try.checked os 5 .any (Rows.grantWritesSpec.pre6 enc Try.prog Try.f5 Rows.grantWritesRow.domain false) (Rows.grantWritesSpec.post enc Try.prog Try.f5 false true false false) := by
  refine returnsInHanded_of_change (C := Try.checked) own started (by kernel_rfl) Try.func5
    (ChangeSpec.witness6 (enc := enc) (C := Try.checked) false ⟨#[], #[.agg #[.int .i64 0, .int .u8 0, .int .u32 0, .bool false], .slice none 0 0], []⟩ 8 (by kernel_rfl) (by kernel_rfl) (by kernel_rfl) (by kernel_rfl)) ?_
  intro W base args ds gs before hval0 hW _ _
  have hval : ∀ (j : Nat) t v, Try.f5.params[j]? = some t → args[j]? = some v → Value.okWide Try.prog W .any base t v := hval0
  have hW' := hW
  obtain ⟨p, q, hA0, hV, rfl, _, _⟩ := hW
  have hA : DataW.TrodAll enc Try.prog W 0 (fun _ => true) true Try.f5.params.toList args.toList ds p := hA0
  rw [Try.params5] at hA hval
  obtain ⟨v0, v1, d0, d1, p0, p1, rfl, rfl, rfl, h0, h1⟩ := trodAll_two hA
  obtain ⟨rfl, rfl⟩ := trodVars_none hV
  obtain ⟨u, l0, l1, b, rfl, hx⟩ := open_grant (hval 0 _ v0 rfl rfl) h0
  obtain ⟨A, n, c, l, rfl, hr⟩ := open_bytes (hval 1 _ v1 rfl rfl) h1
  refine (gwrites_walk u l0 l1 b A n c l hx W hr).mono fun e W' ⟨he, hg⟩ => ?_
  subst he
  exact ⟨_, rfl, law_post laidOut (by kernel_rfl) rfl Try.underlying4 rfl rfl hW' hg⟩

theorem gwrites_holds : Rows.GrantWritesSaid :=
  OpenClaim.holds_of_wide 5 Try.f5 rfl rfl rfl rfl rfl rfl rfl ⟨rfl, rfl, rfl, rfl, rfl⟩ rfl rfl rfl rfl rfl (by kernel_rfl) Try.func5 (by kernel_rfl)
    (of_decide_eq_true (by kernel_rfl)) (by unfold Func.isWrapper; rw [if_neg (of_decide_eq_false (by kernel_rfl))]; exact ⟨rfl, rfl⟩)
    (fun os started H enc _ => gwrites_lifted os started H enc)
#print axioms gwrites_holds
end Go.Proofs.Ytbigppdaoakkfaa
