/-
  Ids, handles and spans are checked, held against each other, looked for and cut as the document says: the statement IdsTell, for every ids, span and number. Conditions: none.
-/
import Derived.Test.YtpmpngdejikhhaaIdN
import Derived.Test.YtpmpngdejikhhaaIdR
import Derived.Test.YtpmpngdejikhhaaIdY
import Derived.Test.YtpmpngdejikhhaaIdZ
namespace Go.Proofs.Ytpmpngdejikhhaa
open Go.ChangeShapes Go.WideShapes Go.ChangeAt Go.RowKit Go.Joins
set_option linter.unusedVariables false
set_option linter.unusedSimpArgs false

theorem rCheck_j (j : Int) (l c k n : Int) (h : Hid (er (mayI l k n) = j)) (w : World) :
    Calls Try.prog 22 #[.agg #[.int .u8 l, .int .u32 c, .int .u8 k, .int .i64 n]] w fun e w' => e = .returned (.int .i64 j) ∧ Below w.heap.size w w' := by
  rw [← h.out]; exact rCheck_any l c k n w
theorem rCheckHandle_j (j : Int) (l c k : Int) (h : Hid (er (mayH l k) = j)) (w : World) :
    Calls Try.prog 23 #[.agg #[.int .u8 l, .int .u32 c, .int .u8 k]] w fun e w' => e = .returned (.int .i64 j) ∧ Below w.heap.size w w' := by
  rw [← h.out]; exact rCheckHandle_any l c k w
theorem rCheckSpan_j (j : Int) (l c k n m : Int) (hm : -9223372036854775808 ≤ m) (h : Hid (er (mayS l k n m) = j)) (w : World) :
    Calls Try.prog 24 #[.agg #[.int .u8 l, .int .u32 c, .int .u8 k, .int .i64 n, .int .i64 m]] w fun e w' => e = .returned (.int .i64 j) ∧ Below w.heap.size w w' := by
  rw [← h.out]; exact rCheckSpan_any l c k n m hm w
theorem rLess_of (b : Bool) (l c k n l' c' k' n' : Int) (h : Hid (Lab l c ∧ Lab l' c' ∧ lessB l c k n l' c' k' n' = b)) (w : World) :
    Calls Try.prog 26 #[.agg #[.int .u8 l, .int .u32 c, .int .u8 k, .int .i64 n], .agg #[.int .u8 l', .int .u32 c', .int .u8 k', .int .i64 n']] w fun e w' => e = .returned (.bool b) ∧ Below w.heap.size w w' := by
  rw [← h.out.2.2]; exact rLess_any l c k n l' c' k' n' h.out.1 h.out.2.1 w

/-- What is asked of the reference's Cut. -/
def CutSaid : Prop := ∀ (q : Bool) (j x0 x1 x2 x3 x4 x5 x6 : Int) (l c k n m p : Int) (hm0 : -9223372036854775808 ≤ m) (hx : Hid (cutB l k n m p = q ∧ cutE l k n m p = j ∧ pick q l = x0 ∧ pick q c = x1 ∧ pick q k = x2 ∧ pick q n = x3 ∧ pick q p = x4 ∧ pick q (n + p) = x5 ∧ pick q (m - p) = x6)) (w : World),
    Calls Try.prog 21 #[.agg #[.int .u8 l, .int .u32 c, .int .u8 k, .int .i64 n, .int .i64 m], .int .i64 p] w fun e w' => e = .returned (.tuple #[.agg #[.int .u8 x0, .int .u32 x1, .int .u8 x2, .int .i64 x3, .int .i64 x4], .agg #[.int .u8 x0, .int .u32 x1, .int .u8 x2, .int .i64 x5, .int .i64 x6], .int .i64 j]) ∧ Below w.heap.size w w'

set_option maxRecDepth 100000 in
set_option maxHeartbeats 8000000 in
theorem itell_by (hcut : CutSaid) (a0 a1 a2 a3 b0 b1 b2 b3 l c k n m p : Int) (ha : Idn a0 a1 a2 a3) (hb : Idn b0 b1 b2 b3) (hs : Spn l c k n m) (hp : In64 p) (w : World) :
    Calls Try.prog 4 #[.agg #[.int .u8 a0, .int .u32 a1, .int .u8 a2, .int .i64 a3], .agg #[.int .u8 b0, .int .u32 b1, .int .u8 b2, .int .i64 b3], .agg #[.int .u8 l, .int .u32 c, .int .u8 k, .int .i64 n, .int .i64 m], .int .i64 p] w fun e w' => e = .returned (.bool true) ∧ Below w.heap.size w w' := by
  have HC := hid hcut
  have j0 : -9223372036854775808 ≤ a3 := ha.n64.1
  have j1 : a3 ≤ 9223372036854775807 := ha.n64.2
  have hm0 : -9223372036854775808 ≤ m := hs.m64.1
  obtain ⟨q, v, H1⟩ : ∃ (q : Bool) (v : Int), Hid (hasB l c k n m a0 a1 a2 a3 = q ∧ pick q (a3 - n) = v) := ⟨_, _, hid ⟨rfl, rfl⟩⟩
  obtain ⟨r, j, x0, x1, x2, x3, H2⟩ : ∃ (r : Bool) (j x0 x1 x2 x3 : Int), Hid (atB l k n m p = r ∧ atE l k n m p = j ∧ pick r l = x0 ∧ pick r c = x1 ∧ pick r k = x2 ∧ pick r (n + p) = x3) := ⟨_, _, _, _, _, _, hid ⟨rfl, rfl, rfl, rfl, rfl, rfl⟩⟩
  obtain ⟨u, i, z0, z1, z2, z3, z4, z5, z6, H3⟩ : ∃ (u : Bool) (i z0 z1 z2 z3 z4 z5 z6 : Int), Hid (cutB l k n m p = u ∧ cutE l k n m p = i ∧ pick u l = z0 ∧ pick u c = z1 ∧ pick u k = z2 ∧ pick u n = z3 ∧ pick u p = z4 ∧ pick u (n + p) = z5 ∧ pick u (m - p) = z6) := ⟨_, _, _, _, _, _, _, _, _, hid ⟨rfl, rfl, rfl, rfl, rfl, rfl, rfl, rfl, rfl⟩⟩
  obtain ⟨e1, E1⟩ : ∃ e1, Hid (er (mayI a0 a2 a3) = e1) := ⟨_, hid rfl⟩
  obtain ⟨e2, E2⟩ : ∃ e2, Hid (er (mayH b0 b2) = e2) := ⟨_, hid rfl⟩
  obtain ⟨e3, E3⟩ : ∃ e3, Hid (er (mayS l k n m) = e3) := ⟨_, hid rfl⟩
  obtain ⟨d, E4⟩ : ∃ d : Bool, Hid (Lab a0 a1 ∧ Lab b0 b1 ∧ lessB a0 a1 a2 a3 b0 b1 b2 b3 = d) := ⟨_, hid ⟨ha.han.lab, hb.han.lab, rfl⟩⟩
  have hE := eql_id
  have hF := eql_span
  have s1 : sameI x0 x1 x2 x3 x0 x1 x2 x3 = true := by simp [sameI]
  have s2 : sameS z0 z1 z2 z3 z4 z0 z1 z2 z3 z4 = true := by simp [sameS]
  have s3 : sameS z0 z1 z2 z5 z6 z0 z1 z2 z5 z6 = true := by simp [sameS]
  clear hcut ha hb hs hp
  go_enter Try.func4, Try.ntmps4
  go_wp2_with fail
  refine (has_of q v l c k n m a0 a1 a2 a3 j0 j1 H1 _).mono ?_
  rintro e w1 ⟨rfl, hh⟩
  have hb : Below w.heap.size w w1 := below_in (by go_grown) hh
  (have f0 : w1.cell? ⟨w.heap.size, 0, none⟩ = some (.int .u8 a0) := (keep hh (by simp [go_sem])); have f1 : w1.cell? ⟨w.heap.size, 1, none⟩ = some (.int .u32 a1) := (keep hh (by simp [go_sem])); have f2 : w1.cell? ⟨w.heap.size, 2, none⟩ = some (.int .u8 a2) := (keep hh (by simp [go_sem])); have f3 : w1.cell? ⟨w.heap.size, 3, none⟩ = some (.int .i64 a3) := (keep hh (by simp [go_sem])))
  (have g0 : w1.cell? ⟨w.heap.size + 1, 0, none⟩ = some (.int .u8 b0) := (keep hh (by simp [go_sem])); have g1 : w1.cell? ⟨w.heap.size + 1, 1, none⟩ = some (.int .u32 b1) := (keep hh (by simp [go_sem])); have g2 : w1.cell? ⟨w.heap.size + 1, 2, none⟩ = some (.int .u8 b2) := (keep hh (by simp [go_sem])); have g3 : w1.cell? ⟨w.heap.size + 1, 3, none⟩ = some (.int .i64 b3) := (keep hh (by simp [go_sem])))
  (have h0 : w1.cell? ⟨w.heap.size + 1 + 1, 0, none⟩ = some (.int .u8 l) := (keep hh (by simp [go_sem])); have h1 : w1.cell? ⟨w.heap.size + 1 + 1, 1, none⟩ = some (.int .u32 c) := (keep hh (by simp [go_sem])); have h2 : w1.cell? ⟨w.heap.size + 1 + 1, 2, none⟩ = some (.int .u8 k) := (keep hh (by simp [go_sem])); have h3 : w1.cell? ⟨w.heap.size + 1 + 1, 3, none⟩ = some (.int .i64 n) := (keep hh (by simp [go_sem])); have h4 : w1.cell? ⟨w.heap.size + 1 + 1, 4, none⟩ = some (.int .i64 m) := (keep hh (by simp [go_sem])))
  clear hh
  go_wp2_with fail
  refine (rHas_of q v l c k n m a0 a1 a2 a3 hm0 H1 _).mono ?_
  rintro e w2 ⟨rfl, hh⟩
  replace hb := below_in hb hh
  (replace f0 := keep hh f0; replace f1 := keep hh f1; replace f2 := keep hh f2; replace f3 := keep hh f3)
  (replace g0 := keep hh g0; replace g1 := keep hh g1; replace g2 := keep hh g2; replace g3 := keep hh g3)
  (replace h0 := keep hh h0; replace h1 := keep hh h1; replace h2 := keep hh h2; replace h3 := keep hh h3; replace h4 := keep hh h4)
  clear hh H1
  go_wp2_with fail
  refine (at_of r j x0 x1 x2 x3 l c k n m p H2 _).mono ?_
  rintro e w3 ⟨rfl, hh⟩
  replace hb := below_in hb hh
  (replace f0 := keep hh f0; replace f1 := keep hh f1; replace f2 := keep hh f2; replace f3 := keep hh f3)
  (replace g0 := keep hh g0; replace g1 := keep hh g1; replace g2 := keep hh g2; replace g3 := keep hh g3)
  (replace h0 := keep hh h0; replace h1 := keep hh h1; replace h2 := keep hh h2; replace h3 := keep hh h3; replace h4 := keep hh h4)
  (replace h0 := fun o => keepa h0 o; replace h1 := fun o => keepa h1 o; replace h2 := fun o => keepa h2 o; replace h3 := fun o => keepa h3 o; replace h4 := fun o => keepa h4 o)
  clear hh
  go_wp2_with fail
  refine (rAt_of r j x0 x1 x2 x3 l c k n m p hm0 H2 _).mono ?_
  rintro e w4 ⟨rfl, hh⟩
  (have t0 : w4.cell? ⟨w3.heap.size, 0, none⟩ = some (.int .u8 x0) := (keep hh (by simp [go_sem])); have t1 : w4.cell? ⟨w3.heap.size, 1, none⟩ = some (.int .u32 x1) := (keep hh (by simp [go_sem])); have t2 : w4.cell? ⟨w3.heap.size, 2, none⟩ = some (.int .u8 x2) := (keep hh (by simp [go_sem])); have t3 : w4.cell? ⟨w3.heap.size, 3, none⟩ = some (.int .i64 x3) := (keep hh (by simp [go_sem])))
  (replace h0 := keep hh (h0 _); replace h1 := keep hh (h1 _); replace h2 := keep hh (h2 _); replace h3 := keep hh (h3 _); replace h4 := keep hh (h4 _))
  replace hh := past_alloc hh
  replace hb := below_in hb hh
  (replace f0 := keep hh f0; replace f1 := keep hh f1; replace f2 := keep hh f2; replace f3 := keep hh f3)
  (replace g0 := keep hh g0; replace g1 := keep hh g1; replace g2 := keep hh g2; replace g3 := keep hh g3)
  (replace h0 := fun o => keepa h0 o; replace h1 := fun o => keepa h1 o; replace h2 := fun o => keepa h2 o; replace h3 := fun o => keepa h3 o; replace h4 := fun o => keepa h4 o)
  clear hh H2
  go_wp2_with fail
  refine (cut_of u i z0 z1 z2 z3 z4 z5 z6 l c k n m p H3 _).mono ?_
  rintro e w5 ⟨rfl, hh⟩
  (have y0 : w5.cell? ⟨w4.heap.size, 0, none⟩ = some (.int .u8 x0) := (keep hh (by simp [go_sem])); have y1 : w5.cell? ⟨w4.heap.size, 1, none⟩ = some (.int .u32 x1) := (keep hh (by simp [go_sem])); have y2 : w5.cell? ⟨w4.heap.size, 2, none⟩ = some (.int .u8 x2) := (keep hh (by simp [go_sem])); have y3 : w5.cell? ⟨w4.heap.size, 3, none⟩ = some (.int .i64 x3) := (keep hh (by simp [go_sem])))
  (replace h0 := keep hh (h0 _); replace h1 := keep hh (h1 _); replace h2 := keep hh (h2 _); replace h3 := keep hh (h3 _); replace h4 := keep hh (h4 _))
  replace hh := past_alloc hh
  replace hb := below_in hb hh
  (replace f0 := keep hh f0; replace f1 := keep hh f1; replace f2 := keep hh f2; replace f3 := keep hh f3)
  (replace g0 := keep hh g0; replace g1 := keep hh g1; replace g2 := keep hh g2; replace g3 := keep hh g3)
  (replace t0 := keep hh t0; replace t1 := keep hh t1; replace t2 := keep hh t2; replace t3 := keep hh t3)
  (replace h0 := fun o1 o2 => keepa (keepa h0 o1) o2; replace h1 := fun o1 o2 => keepa (keepa h1 o1) o2; replace h2 := fun o1 o2 => keepa (keepa h2 o1) o2; replace h3 := fun o1 o2 => keepa (keepa h3 o1) o2; replace h4 := fun o1 o2 => keepa (keepa h4 o1) o2)
  clear hh
  go_wp2_with fail
  refine (HC.out u i z0 z1 z2 z3 z4 z5 z6 l c k n m p hm0 H3 _).mono ?_
  rintro e w6 ⟨rfl, hh⟩
  (have o0 : w6.cell? ⟨w5.heap.size, 0, none⟩ = some (.int .u8 z0) := (keep hh (by simp [go_sem])); have o1 : w6.cell? ⟨w5.heap.size, 1, none⟩ = some (.int .u32 z1) := (keep hh (by simp [go_sem])); have o2 : w6.cell? ⟨w5.heap.size, 2, none⟩ = some (.int .u8 z2) := (keep hh (by simp [go_sem])); have o3 : w6.cell? ⟨w5.heap.size, 3, none⟩ = some (.int .i64 z3) := (keep hh (by simp [go_sem])); have o4 : w6.cell? ⟨w5.heap.size, 4, none⟩ = some (.int .i64 z4) := (keep hh (by simp [go_sem])))
  (have i0 : w6.cell? ⟨w5.heap.size + 1, 0, none⟩ = some (.int .u8 z0) := (keep hh (by simp [go_sem])); have i1 : w6.cell? ⟨w5.heap.size + 1, 1, none⟩ = some (.int .u32 z1) := (keep hh (by simp [go_sem])); have i2 : w6.cell? ⟨w5.heap.size + 1, 2, none⟩ = some (.int .u8 z2) := (keep hh (by simp [go_sem])); have i3 : w6.cell? ⟨w5.heap.size + 1, 3, none⟩ = some (.int .i64 z5) := (keep hh (by simp [go_sem])); have i4 : w6.cell? ⟨w5.heap.size + 1, 4, none⟩ = some (.int .i64 z6) := (keep hh (by simp [go_sem])))
  (replace h0 := keep hh (h0 _ _); replace h1 := keep hh (h1 _ _); replace h2 := keep hh (h2 _ _); replace h3 := keep hh (h3 _ _); replace h4 := keep hh (h4 _ _))
  replace hh := past_alloc2 hh
  replace hb := below_in hb hh
  (replace f0 := keep hh f0; replace f1 := keep hh f1; replace f2 := keep hh f2; replace f3 := keep hh f3)
  (replace g0 := keep hh g0; replace g1 := keep hh g1; replace g2 := keep hh g2; replace g3 := keep hh g3)
  (replace t0 := keep hh t0; replace t1 := keep hh t1; replace t2 := keep hh t2; replace t3 := keep hh t3)
  (replace y0 := keep hh y0; replace y1 := keep hh y1; replace y2 := keep hh y2; replace y3 := keep hh y3)
  clear hh H3 HC
  go_wp2_with fail
  generalize hW : (w6.alloc _).alloc _ = W
  have bW : Below w6.heap.size w6 W := by subst hW; exact ((Below.refl _ _).alloc (Nat.le_refl _) _).alloc (by simp) _
  (have aa0 : W.cell? ⟨w6.heap.size, 0, none⟩ = some (.int .u8 z0) := ((by subst hW; simp [go_sem])); have aa1 : W.cell? ⟨w6.heap.size, 1, none⟩ = some (.int .u32 z1) := ((by subst hW; simp [go_sem])); have aa2 : W.cell? ⟨w6.heap.size, 2, none⟩ = some (.int .u8 z2) := ((by subst hW; simp [go_sem])); have aa3 : W.cell? ⟨w6.heap.size, 3, none⟩ = some (.int .i64 z3) := ((by subst hW; simp [go_sem])); have aa4 : W.cell? ⟨w6.heap.size, 4, none⟩ = some (.int .i64 z4) := ((by subst hW; simp [go_sem])))
  (have bb0 : W.cell? ⟨w6.heap.size + 1, 0, none⟩ = some (.int .u8 z0) := ((by subst hW; simp [go_sem])); have bb1 : W.cell? ⟨w6.heap.size + 1, 1, none⟩ = some (.int .u32 z1) := ((by subst hW; simp [go_sem])); have bb2 : W.cell? ⟨w6.heap.size + 1, 2, none⟩ = some (.int .u8 z2) := ((by subst hW; simp [go_sem])); have bb3 : W.cell? ⟨w6.heap.size + 1, 3, none⟩ = some (.int .i64 z5) := ((by subst hW; simp [go_sem])); have bb4 : W.cell? ⟨w6.heap.size + 1, 4, none⟩ = some (.int .i64 z6) := ((by subst hW; simp [go_sem])))
  replace hb := below_in hb bW
  (replace f0 := keep bW f0; replace f1 := keep bW f1; replace f2 := keep bW f2; replace f3 := keep bW f3)
  (replace g0 := keep bW g0; replace g1 := keep bW g1; replace g2 := keep bW g2; replace g3 := keep bW g3)
  (replace h0 := keep bW h0; replace h1 := keep bW h1; replace h2 := keep bW h2; replace h3 := keep bW h3; replace h4 := keep bW h4)
  (replace t0 := keep bW t0; replace t1 := keep bW t1; replace t2 := keep bW t2; replace t3 := keep bW t3)
  (replace y0 := keep bW y0; replace y1 := keep bW y1; replace y2 := keep bW y2; replace y3 := keep bW y3)
  (replace o0 := keep bW o0; replace o1 := keep bW o1; replace o2 := keep bW o2; replace o3 := keep bW o3; replace o4 := keep bW o4)
  (replace i0 := keep bW i0; replace i1 := keep bW i1; replace i2 := keep bW i2; replace i3 := keep bW i3; replace i4 := keep bW i4)
  clear hW bW
  (have cc0 := Past.all f0; have cc1 := Past.all f1; have cc2 := Past.all f2; have cc3 := Past.all f3)
  (have dd0 := Past.all g0; have dd1 := Past.all g1; have dd2 := Past.all g2; have dd3 := Past.all g3)
  (have ee0 := Past.all h0; have ee1 := Past.all h1; have ee2 := Past.all h2; have ee3 := Past.all h3; have ee4 := Past.all h4)
  refine wp_region_past (by kernel_rfl) (by kernel_rfl) ?_
  repeat (go_big_quiet_step (first | (go_at_call 16; exact quiet_below (check_of e1 _ _ _ _ E1 _)) | (go_at_call 22; exact quiet_below (rCheck_j e1 _ _ _ _ E1 _)) | (go_at_call 17; exact quiet_below (checkHandle_of e2 _ _ _ E2 _)) | (go_at_call 23; exact quiet_below (rCheckHandle_j e2 _ _ _ E2 _)) | (go_at_call 18; exact quiet_below (checkSpan_of e3 _ _ _ _ _ E3 _)) | (go_at_call 24; exact quiet_below (rCheckSpan_j e3 _ _ _ _ _ hm0 E3 _)) | (go_at_call 25; exact quiet_below (less_of d _ _ _ _ _ _ _ _ _ E4.out.2.2)) | (go_at_call 26; exact quiet_below (rLess_of d _ _ _ _ _ _ _ _ E4 _))))
  refine wpQuiet_nil ?_
  rintro w7 ⟨⟨_, hx⟩, rfl⟩
  replace hb := below_in hb hx
  (replace t0 := keep hx t0; replace t1 := keep hx t1; replace t2 := keep hx t2; replace t3 := keep hx t3)
  (replace y0 := keep hx y0; replace y1 := keep hx y1; replace y2 := keep hx y2; replace y3 := keep hx y3)
  (replace o0 := keep hx o0; replace o1 := keep hx o1; replace o2 := keep hx o2; replace o3 := keep hx o3; replace o4 := keep hx o4)
  (replace i0 := keep hx i0; replace i1 := keep hx i1; replace i2 := keep hx i2; replace i3 := keep hx i3; replace i4 := keep hx i4)
  (replace aa0 := keep hx aa0; replace aa1 := keep hx aa1; replace aa2 := keep hx aa2; replace aa3 := keep hx aa3; replace aa4 := keep hx aa4)
  (replace bb0 := keep hx bb0; replace bb1 := keep hx bb1; replace bb2 := keep hx bb2; replace bb3 := keep hx bb3; replace bb4 := keep hx bb4)
  clear hx
  clear cc0 cc1 cc2 cc3 dd0 dd1 dd2 dd3 ee0 ee1 ee2 ee3 ee4 f0 f1 f2 f3 g0 g1 g2 g3 h0 h1 h2 h3 h4
  go_wp2
  go_ret
  exact ⟨rfl, hb⟩
theorem itell_walk (a0 a1 a2 a3 b0 b1 b2 b3 l c k n m p : Int) (ha : Idn a0 a1 a2 a3) (hb : Idn b0 b1 b2 b3) (hs : Spn l c k n m) (hp : In64 p) (w : World) :
    Calls Try.prog 4 #[.agg #[.int .u8 a0, .int .u32 a1, .int .u8 a2, .int .i64 a3], .agg #[.int .u8 b0, .int .u32 b1, .int .u8 b2, .int .i64 b3], .agg #[.int .u8 l, .int .u32 c, .int .u8 k, .int .i64 n, .int .i64 m], .int .i64 p] w fun e w' => e = .returned (.bool true) ∧ Below w.heap.size w w' :=
  itell_by rCut_of a0 a1 a2 a3 b0 b1 b2 b3 l c k n m p ha hb hs hp w


set_option maxRecDepth 100000 in
theorem itell_lifted (os : Os) (started : os.Started) (H : Type) (enc : TypeId × Value → H) :
    ReturnsInHanded {} Try.checked os 4 .any (Rows.idsTellSpec.pre6 enc Try.prog Try.f4 Rows.idsTellRow.domain false) (Rows.idsTellSpec.post enc Try.prog Try.f4 false true false false) := by
  refine returnsInHanded_of_change (C := Try.checked) own started (by kernel_rfl) Try.func4
    (ChangeSpec.witness6 (enc := enc) (C := Try.checked) false ⟨#[], #[.agg #[.int .u8 0, .int .u32 0, .int .u8 0, .int .i64 0], .agg #[.int .u8 0, .int .u32 0, .int .u8 0, .int .i64 0], .agg #[.int .u8 0, .int .u32 0, .int .u8 0, .int .i64 0, .int .i64 0], .int .i64 0], []⟩ 8 (by kernel_rfl) (by kernel_rfl) (by kernel_rfl) (by kernel_rfl)) ?_
  intro W base args ds gs before hval0 hW _ _
  have hval : ∀ (j : Nat) t v, Try.f4.params[j]? = some t → args[j]? = some v → Value.okWide Try.prog W .any base t v := hval0
  have hW' := hW
  obtain ⟨p, q, hA0, hV, rfl, _, _⟩ := hW
  have hA : DataW.TrodAll enc Try.prog W 0 (fun _ => true) true Try.f4.params.toList args.toList ds p := hA0
  rw [Try.params4] at hA hval
  obtain ⟨v0, v1, v2, v3, d0, d1, d2, d3, p0, p1, p2, p3, rfl, rfl, rfl, h0, h1, h2, h3⟩ := trodAll_four hA
  obtain ⟨rfl, rfl⟩ := trodVars_none hV
  obtain ⟨a0, a1, a2, a3, rfl, ha⟩ := open_id (hval 0 _ v0 rfl rfl) h0
  obtain ⟨b0, b1, b2, b3, rfl, hb⟩ := open_id (hval 1 _ v1 rfl rfl) h1
  obtain ⟨l, c, k, n, m, rfl, hs⟩ := open_span (hval 2 _ v2 rfl rfl) h2
  obtain ⟨p, rfl, hp⟩ := open_i64 (hval 3 _ v3 rfl rfl) h3
  refine (itell_walk a0 a1 a2 a3 b0 b1 b2 b3 l c k n m p ha hb hs hp W).mono fun e W' ⟨he, hg⟩ => ?_
  subst he
  exact ⟨_, rfl, law_post laidOut (by kernel_rfl) rfl Try.underlying4 rfl rfl hW' hg⟩

theorem itell_holds : Rows.IdsTellSaid :=
  OpenClaim.holds_of_wide 4 Try.f4 rfl rfl rfl rfl rfl rfl rfl ⟨rfl, rfl, rfl, rfl, rfl⟩ rfl rfl rfl rfl rfl (by kernel_rfl) Try.func4 (by kernel_rfl)
    (of_decide_eq_true (by kernel_rfl)) (by unfold Func.isWrapper; rw [if_neg (of_decide_eq_false (by kernel_rfl))]; exact ⟨rfl, rfl⟩)
    (fun os started H enc _ => itell_lifted os started H enc)
#print axioms itell_holds
end Go.Proofs.Ytpmpngdejikhhaa
