/-
  RecordLong: how many blocks a record has hangs on its kind, and, of an operation, on its kind and how many elements it has, alone; one, but of operations, which have three at most; any two.
  Conditions: none (the row's own: arguments of the parameters' types, laid out as the harness lays them).
-/
import Derived.Test.YtndmblhkmgnpcaaGreatRlB
import Derived.Test.YtndmblhkmgnpcaaGreatRcQ
import Derived.Test.YtndmblhkmgnpcaaGreatRcO
import Derived.Test.YtndmblhkmgnpcaaGreatLaw
namespace Go.Proofs.YtndmblhkmgnpcaaGreat
open Go.ChangeShapes Go.WideShapes Go.ChangeAt Go.RowKit Go.Joins
set_option linter.unusedVariables false
set_option linter.unusedSimpArgs false

theorem BoxR.okd {W : World} {b : Nat} {r : Rec} {A : Option Addr} {n c : Nat} (h : BoxR W b r A n c) : W.cell? ⟨b, 2, none⟩ = some (.int .u8 r.op.kd) := h 2 _ rfl
theorem BoxR.ofm {W : World} {b : Nat} {r : Rec} {A : Option Addr} {n c : Nat} (h : BoxR W b r A n c) : W.cell? ⟨b, 11, none⟩ = some (.int .i64 r.op.fm) := h 11 _ rfl

set_option maxRecDepth 100000 in
set_option maxHeartbeats 6400000 in
theorem rlong_walk (a : Rec) (A : Option Addr) (n c : Nat) (b : Rec) (B : Option Addr) (m d : Nat) (w : World) (hr : Recr a ∧ Hid (a.op.row.length = n) ∧ Ri w A c a.op.row) (hs : Recr b ∧ Hid (b.op.row.length = m) ∧ Ri w B d b.op.row) :
    Calls Tryz.prog 6 #[.agg #[.int .u8 a.kd, .int .i64 a.us, .int .u8 a.op.kd, .int .u8 a.op.l, .int .u32 a.op.c, .int .u8 a.op.k, .int .i64 a.op.s, .int .u8 a.op.fl, .int .u32 a.op.fc, .int .u8 a.op.fk, .int .i64 a.op.fn, .int .i64 a.op.fm, .int .u8 a.op.al, .int .u32 a.op.ac, .int .u8 a.op.ak, .int .i64 a.op.an, .int .u8 a.op.tl, .int .u32 a.op.tc, .slice A n c, .int .i64 a.co, .int .i64 a.gr.u, .int .u8 a.gr.l, .int .u32 a.gr.c, .bool a.gr.ok], .agg #[.int .u8 b.kd, .int .i64 b.us, .int .u8 b.op.kd, .int .u8 b.op.l, .int .u32 b.op.c, .int .u8 b.op.k, .int .i64 b.op.s, .int .u8 b.op.fl, .int .u32 b.op.fc, .int .u8 b.op.fk, .int .i64 b.op.fn, .int .i64 b.op.fm, .int .u8 b.op.al, .int .u32 b.op.ac, .int .u8 b.op.ak, .int .i64 b.op.an, .int .u8 b.op.tl, .int .u32 b.op.tc, .slice B m d, .int .i64 b.co, .int .i64 b.gr.u, .int .u8 b.gr.l, .int .u32 b.gr.c, .bool b.gr.ok]] w fun e w' => e = .returned (.bool true) ∧ Below w.heap.size w w' := by
  obtain ⟨har, hn, hra⟩ := hr
  obtain ⟨hbr, hm, hrb⟩ := hs
  have pp := twoR_new w a A n c b B m d
  have HRA := hid hra
  have HRB := hid hrb
  clear hra hrb
  obtain ⟨v1, j1, hv1⟩ : ∃ v j, (if mayR a = true then (nbl (rcb a) : Int) else 0) = v ∧ er (mayR a) = j := ⟨_, _, rfl, rfl⟩
  obtain ⟨v2, j2, hv2⟩ : ∃ v j, (if mayR b = true then (nbl (rcb b) : Int) else 0) = v ∧ er (mayR b) = j := ⟨_, _, rfl, rfl⟩
  have HV1 := hid hv1
  have HV2 := hid hv2
  have l1 : v1 ≤ 3 := by
    rw [← hv1.1]
    split
    · rename_i h; have := nbl_r h; omega
    · omega
  have l2 : v2 ≤ 3 := by
    rw [← hv2.1]
    split
    · rename_i h; have := nbl_r h; omega
    · omega
  go_enter Tryz.func6, Tryz.ntmps6
  go_wp2_with fail
  generalize World.alloc (World.alloc w _) _ = W at pp ⊢
  refine (alive_any _).mono ?_
  rintro e w1 ⟨rfl, b1⟩
  have xa := pp.xa.keep b1
  have xb := pp.xb.keep b1
  have hb := below_in pp.be b1
  clear pp b1
  have sa := xa.sl
  have sb := xb.sl
  by_cases d1 : (1000 : Int) < (n : Int)
  · clear hv1 hv2
    go_wp2
    go_ret
    exact ⟨rfl, hb⟩
  by_cases d2 : (1000 : Int) < (m : Int)
  · clear hv1 hv2
    go_wp2
    go_ret
    exact ⟨rfl, hb⟩
  clear hv1 hv2
  have one : True := trivial
  go_wp2_with (clear one; (with_reducible refine at_load 40 (.tmp 2) ?_); refine wpList_load_r rfl (.tmp 2) rfl w.heap.size rfl xa ?_)
  refine (rec_count_of v1 j1 a A n c hn har HV1 _ (HRA.out.keep hb)).mono ?_
  rintro e w2 ⟨rfl, b2⟩
  replace xa := xa.keep b2
  replace xb := xb.keep b2
  replace hb := below_in hb b2
  clear b2 sa sb
  have one : True := trivial
  go_wp2_with (clear one; (with_reducible refine at_load 40 (.tmp 3) ?_); refine wpList_load_r rfl (.tmp 3) rfl (w.heap.size + 1) rfl xb ?_)
  refine (rec_count_of v2 j2 b B m d hm hbr HV2 _ (HRB.out.keep hb)).mono ?_
  rintro e w3 ⟨rfl, b3⟩
  replace xa := xa.keep b3
  replace xb := xb.keep b3
  replace hb := below_in hb b3
  clear b3
  have hv1 := HV1.out
  have hv2 := HV2.out
  clear HV1 HV2
  have ka := xa.k
  have kb := xb.k
  have oa := xa.okd
  have ob := xb.okd
  have fa := xa.ofm
  have fb := xb.ofm
  clear xa xb
  cases hma : mayR a
  · rw [hma] at hv1
    obtain ⟨h1, h2⟩ := hv1
    have e2 : j1 = 8 := by rw [← h2]; rfl
    subst e2
    clear h1 h2 hv2
    go_wp2
    go_ret
    exact ⟨rfl, hb⟩
  cases hmb : mayR b
  · rw [hmb] at hv2
    obtain ⟨h1, h2⟩ := hv2
    have e2 : j2 = 8 := by rw [← h2]; rfl
    have e1 : j1 = 0 := by rw [← hv1.2, hma]; rfl
    subst e1 e2
    clear h1 h2 hv1
    go_wp2
    go_ret
    exact ⟨rfl, hb⟩
  rw [hma, if_pos rfl] at hv1
  rw [hmb, if_pos rfl] at hv2
  obtain ⟨h1, h2⟩ := hv1
  obtain ⟨h3, h4⟩ := hv2
  have e1 : j1 = 0 := by rw [← h2]; rfl
  have e2 : j2 = 0 := by rw [← h4]; rfl
  subst e1 e2
  have p1 : 1 ≤ v1 := by have := nbl_r hma; omega
  obtain ⟨u, hu⟩ : ∃ u, (a.kd == 2) = u := ⟨_, rfl⟩
  obtain ⟨q0, h0⟩ : ∃ q, (a.kd == b.kd) = q := ⟨_, rfl⟩
  obtain ⟨q1, hq1⟩ : ∃ q, (a.op.kd == b.op.kd) = q := ⟨_, rfl⟩
  obtain ⟨q2, hq2⟩ : ∃ q, (a.op.fm == b.op.fm) = q := ⟨_, rfl⟩
  have HONE := hid (fun (hf : u = false) => (show (v1 == 1) = true by
    rw [hf] at hu
    have := nbl_one hma (by simpa using hu)
    simp; omega))
  have HAL := hid (fun (h : (q0 && (q1 && q2)) = true) => (show (v1 == v2) = true by
    simp only [Bool.and_eq_true] at h
    obtain ⟨rfl, rfl, rfl⟩ := h
    have := nbl_alike hma hmb (by simpa using h0) (by simpa using hq1) (by simpa using hq2)
    simp; omega))
  clear h1 h2 h3 h4 hma hmb
  have hz1 : (u = true) ∨ (u = false ∧ (v1 == 1) = true) := by
    cases u
    · exact .inr ⟨rfl, HONE.out rfl⟩
    · exact .inl rfl
  have hz2 : (q0 = false) ∨ (q0 = true ∧ q1 = false) ∨ (q0 = true ∧ q1 = true ∧ q2 = false) ∨ (q0 = true ∧ q1 = true ∧ q2 = true ∧ (v1 == v2) = true) := by
    cases q0
    · exact .inl rfl
    · cases q1
      · exact .inr (.inl ⟨rfl, rfl⟩)
      · cases q2
        · exact .inr (.inr (.inl ⟨rfl, rfl, rfl⟩))
        · exact .inr (.inr (.inr ⟨rfl, rfl, rfl, HAL.out rfl⟩))
  clear HONE HAL
  rcases hz2 with hz | ⟨hz, hz'⟩ | ⟨hz, hz', hz''⟩ | ⟨hz, hz', hz'', hz3⟩
  · subst hz
    rcases hz1 with hz | ⟨hz, hy⟩
    all_goals
      subst hz
      go_wp2
      go_ret
      exact ⟨rfl, hb⟩
  · subst hz hz'
    rcases hz1 with hz | ⟨hz, hy⟩
    all_goals
      subst hz
      go_wp2
      go_ret
      exact ⟨rfl, hb⟩
  · subst hz hz' hz''
    rcases hz1 with hz | ⟨hz, hy⟩
    all_goals
      subst hz
      go_wp2
      go_ret
      exact ⟨rfl, hb⟩
  · subst hz hz' hz''
    rcases hz1 with hz | ⟨hz, hy⟩
    all_goals
      subst hz
      go_wp2
      go_ret
      exact ⟨rfl, hb⟩


set_option maxRecDepth 100000 in
theorem rlong_lifted (os : Os) (started : os.Started) (H : Type) (enc : TypeId × Value → H) :
    ReturnsInHanded {} Tryz.checked os 6 .any (Rows.recordLongSpec.pre6 enc Tryz.prog Tryz.f6 Rows.recordLongRow.domain false) (Rows.recordLongSpec.post enc Tryz.prog Tryz.f6 false true false false) := by
  refine returnsInHanded_of_change (C := Tryz.checked) own started (by kernel_rfl) Tryz.func6
    (ChangeSpec.witness6 (enc := enc) (C := Tryz.checked) false ⟨#[], #[.agg #[.int .u8 0, .int .i64 0, .int .u8 0, .int .u8 0, .int .u32 0, .int .u8 0, .int .i64 0, .int .u8 0, .int .u32 0, .int .u8 0, .int .i64 0, .int .i64 0, .int .u8 0, .int .u32 0, .int .u8 0, .int .i64 0, .int .u8 0, .int .u32 0, .slice none 0 0, .int .i64 0, .int .i64 0, .int .u8 0, .int .u32 0, .bool false], .agg #[.int .u8 0, .int .i64 0, .int .u8 0, .int .u8 0, .int .u32 0, .int .u8 0, .int .i64 0, .int .u8 0, .int .u32 0, .int .u8 0, .int .i64 0, .int .i64 0, .int .u8 0, .int .u32 0, .int .u8 0, .int .i64 0, .int .u8 0, .int .u32 0, .slice none 0 0, .int .i64 0, .int .i64 0, .int .u8 0, .int .u32 0, .bool false]], []⟩ 8 (by kernel_rfl) (by kernel_rfl) (by kernel_rfl) (by kernel_rfl)) ?_
  intro W base args ds gs before hval0 hW _ _
  have hval : ∀ (j : Nat) t v, Tryz.f6.params[j]? = some t → args[j]? = some v → Value.okWide Tryz.prog W .any base t v := hval0
  have hW' := hW
  obtain ⟨p, q, hA0, hV, rfl, _, _⟩ := hW
  have hA : DataW.TrodAll enc Tryz.prog W 0 (fun _ => true) true Tryz.f6.params.toList args.toList ds p := hA0
  rw [Tryz.params6] at hA hval
  obtain ⟨v0, v1, d0, d1, p0, p1, rfl, rfl, rfl, h0, h1⟩ := trodAll_two hA
  obtain ⟨rfl, rfl⟩ := trodVars_none hV
  obtain ⟨a, A, n, c, rfl, hr⟩ := open_rec (hval 0 _ v0 rfl rfl) h0
  obtain ⟨b, B, m, d, rfl, hs⟩ := open_rec (hval 1 _ v1 rfl rfl) h1
  refine (rlong_walk a A n c b B m d W hr hs).mono fun e W' ⟨he, hg⟩ => ?_
  subst he
  exact ⟨_, rfl, law_post laidOut (by kernel_rfl) rfl Tryz.underlying4 rfl rfl hW' hg⟩

theorem rlong_holds : Rows.RecordLongSaid :=
  OpenClaim.holds_of_wide 6 Tryz.f6 rfl rfl rfl rfl rfl rfl rfl ⟨rfl, rfl, rfl, rfl, rfl⟩ rfl rfl rfl rfl rfl (by kernel_rfl) Tryz.func6 (by kernel_rfl)
    (of_decide_eq_true (by kernel_rfl)) (by unfold Func.isWrapper; rw [if_neg (of_decide_eq_false (by kernel_rfl))]; exact ⟨rfl, rfl⟩)
    (fun os started H enc _ => rlong_lifted os started H enc)
#print axioms rlong_holds
end Go.Proofs.YtndmblhkmgnpcaaGreat
