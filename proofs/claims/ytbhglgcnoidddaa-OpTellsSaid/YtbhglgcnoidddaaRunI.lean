/-
  The program's Get.
-/
import Derived.Test.YtbhglgcnoidddaaRunG
import Derived.Laws.MakeOwn
import Derived.Maps.AppendAt
namespace Go.Proofs.Ytbhglgcnoidddaa
open Go.RowKit Go.Shelf
set_option linter.unusedVariables false
attribute [local go_sem] Oper.semAt_some

set_option maxRecDepth 100000 in
set_option maxHeartbeats 2000000 in
theorem rget_any (A : Option Addr) (n c : Nat) (l : List UInt8) (hn : Hid (l.length = n)) (w : World) (hr : Rd w A c l) :
    Calls Try.prog 79 #[.slice A n c] w (RetRowOwn w (getV l) (getE l)) := by
  obtain ⟨i0, hi0, hz0, hz1, hz2⟩ := info_parts info_i32
  by_cases h256 : 256 < n
  · have H := hid (getE_many (l := l) (by rw [hn.out]; exact h256))
    have h256' : 256 < (n : Int) := by omega
    go_enter Try.func79, Try.ntmps79
    go_wp2
    go_ret2
    exact ret_own_nil (hid ⟨H.out.1.symm, H.out.2⟩) (Below.refl _ _)
  have HN := hid (show ¬ 256 < l.length by rw [hn.out]; exact h256)
  have h256' : ¬ 256 < (n : Int) := by omega
  by_cases h4 : n % 4 = 0
  · have h4' : ((n : Int) % 4 != 0) = false := by simp; omega
    obtain ⟨m, hm⟩ : ∃ m, n = 4 * m := ⟨n / 4, by omega⟩
    have HM := hid hm
    have hm64 : m ≤ 64 := by omega
    have hmn : (n : Int) / 4 = (m : Int) := by omega
    have hc2 : (c : Int) ≤ 9223372036854775807 := by have := hr.cap; omega
    have hc1 : (n : Int) ≤ c := by have := hr.len; have := hn.out; omega
    have HE := hid (get_chk HN.out (by rw [hn.out]; exact h4))
    have HR := hid hr
    clear h4 hm h256 hr
    refine (callsIn_wide (n := 6)).1 ?_
    refine callsIn_of_wp_marks Try.func79 rfl trivial ?_ rfl
    simp only [Try.ntmps79, List.size_toArray, List.length_cons, List.length_nil, Nat.reduceAdd, Nat.reduceSub, Array.replicate_succ, Array.replicate_zero, List.push_toArray, List.append_toArray, List.nil_append, List.cons_append]
    obtain ⟨w1, hrun, hown0, hgr⟩ := run_make_own (P := Try.prog) w w.heap.size 33 21 i0 (.int .i32 0) 1 Try.underlying33 hi0 hz0 hz1 .i64 .i64 m (by rw [hz2]; omega) (by unfold maxLen; omega) (Nat.le_refl _)
    have hb0 : Below w.heap.size w w1 := (Below.refl _ _).grown hgr (Nat.le_refl _) (fun k hk => by cases hk)
    gi_wp2_with (refine ⟨trivial, ?_⟩; gi_at_call 88; refine (callsIn_wide.2 (chunk_any A n c _)).mono ?_; rintro e w' ⟨rfl, rfl⟩)
    obtain ⟨b, o, hA, hcell⟩ : ∃ b o, (0 < m → A = some ⟨b, o, none⟩) ∧ ∀ j (h : j < l.length), w.cell? ⟨b, o + j, none⟩ = some (.int .u8 (l[j].toNat : Int)) := by
      rcases Nat.eq_zero_or_pos m with h | h
      · exact ⟨0, 0, fun h' => by omega, fun j hj => by have := hn.out; have := HM.out; omega⟩
      · obtain ⟨b, o, h1, h2⟩ := HR.out.at_ (by have := hn.out; have := HM.out; omega)
        exact ⟨b, o, fun _ => h1, h2⟩
    have hs1 := hb0.size
    have bL := ((Boxed.new w1 33 (.slice (some ⟨w.heap.size, 0, none⟩) 0 m)).alloc (.cells #[.slice A n c] 44)).alloc (.cells #[.int .i64 4] 3)
    have bS := (Boxed.new (w1.alloc (.cells #[.slice (some ⟨w.heap.size, 0, none⟩) 0 m] 33)) 44 (.slice A n c)).alloc (.cells #[.int .i64 4] 3)
    have bN := Boxed.new ((w1.alloc (.cells #[.slice (some ⟨w.heap.size, 0, none⟩) 0 m] 33)).alloc (.cells #[.slice A n c] 44)) 3 (.int .i64 4)
    have hrow0 := ((hown0.alloc (.cells #[.slice (some ⟨w.heap.size, 0, none⟩) 0 m] 33)).alloc (.cells #[.slice A n c] 44)).alloc (.cells #[.int .i64 4] 3)
    have hB0 : Below w.heap.size w (((w1.alloc (.cells #[.slice (some ⟨w.heap.size, 0, none⟩) 0 m] 33)).alloc (.cells #[.slice A n c] 44)).alloc (.cells #[.int .i64 4] 3)) :=
      ((hb0.alloc hs1 _).alloc (by simp; omega) _).alloc (by simp; omega) _
    rw [World.size_alloc] at bS bN
    rw [World.size_alloc] at bN
    refine wpIn_rangeFunc_ownG (F := Fence.wide) rfl (by omega) (gf := 93) (lb := #[.pointer (some ⟨w1.heap.size + 1, 0, none⟩), .pointer (some ⟨w1.heap.size + 1 + 1, 0, none⟩)]) rfl trivial (enters_of Try.func93 (by kernel_rfl) rfl)
      (chunk_stops (6 - 1) (by omega) (w1.heap.size + 1) (w1.heap.size + 1 + 1) w.heap.size b o m n c A hA hm64 HM (by omega) hc1 hc2 _ bS bN) Kc.t
      (fun W k o o' hk hko h1 h2 => ⟨belowK_b (w := (((w1.alloc (.cells #[.slice (some ⟨w.heap.size, 0, none⟩) 0 m] 33)).alloc (.cells #[.slice A n c] 44)).alloc (.cells #[.int .i64 4] 3))) (by simp; omega) W k o o' hk hko h1 h2, World.putObj_heap_other (by simp at hk; omega), World.putObj_heap_other (by simp at hk; omega)⟩)
      (Below.refl _ _) (fun _ => rfl)
      (fun (pre : List (Fin m)) W => (((∃ v, Boxed W w1.heap.size 33 v ∧ W.ownsRow w.heap.size 21 1 v pre.length (i32s (pre.map (num l m))) ∧ True) ∧ Boxed W (w1.heap.size + 1) 44 (.slice A n c)) ∧ Boxed W (w1.heap.size + 1 + 1) 3 (.int .i64 4)) ∧ Below w.heap.size w W)
      (fun _ _ _ => False)
      (OwnFrom.and (OwnFrom.and (OwnFrom.and (Go.Own.from (holdsRow_own w.heap.size w1.heap.size 33 21 1 (fun pre : List (Fin m) => pre.length) (fun pre : List (Fin m) => i32s (pre.map (num l m))) (fun _ _ => True)) _) (Go.Own.from (boxed_own _ _ _) _)) (Go.Own.from (boxed_own _ _ _) _)) (ownFrom_below (Nat.le_refl _) (by simp; omega)))
      (fun _ _ _ _ _ hs _ _ => hs)
      ⟨⟨⟨⟨_, bL, hrow0, trivial⟩, bS⟩, bN⟩, hB0⟩
      (fun x => { tmps := #[.slice A n c, undef, .slice none 0 0, .int .i64 0, .pointer (some ⟨w1.heap.size, 0, none⟩), .slice (some ⟨b, o + 4 * x.1, none⟩) 4 4, undef, .slice A n c, .int .i64 n, .bool false, .slice A n c, .int .i64 n, .int .i64 ((n : Int) % 4), .bool false, .slice A n c, .int .i64 n, .int .i64 m, .slice (some ⟨w.heap.size, 0, none⟩) 0 m, .slice A n c, .func (.func 93) #[] #[.pointer (some ⟨w1.heap.size + 1, 0, none⟩), .pointer (some ⟨w1.heap.size + 1 + 1, 0, none⟩)], .slice (some ⟨b, o + 4 * x.1, none⟩) 4 4, undef, undef, undef, undef, undef, undef, undef, undef, undef, undef, undef], defers := [] }) ?assign ?body ?done ?stop
    case assign =>
      intro k x W K hK
      gi_wp2
      exact hK
    case body =>
      rintro k pre x W ⟨⟨⟨⟨v, hv, hrow, _⟩, hS⟩, hN⟩, hB⟩ hlt
      have hx := x.2
      have hl := hn.out
      have hM := HM.out
      obtain rfl := hA (by omega)
      have hval := value_num (hl.trans hM) x b o W.drew (fun j hj => keep hB (hcell j hj))
      obtain ⟨y, hy⟩ : ∃ y, num l m x = y := ⟨_, rfl⟩
      rw [hy] at hval
      have HY := hid hy
      have hc := hv.cell
      have hpl : pre.length < 64 := by omega
      clear hcell hl hM hy hA
      obtain ⟨v', w2, hrunA, hown', hgrow, _, _⟩ := run_append_own_at (P := Try.prog) (ty := 33) (w := W.drew.alloc (.cells #[.int .i32 y] 21)) w.heap.size 33 21 i0 (.int .i32 0) 1 4 Try.underlying33 hi0 hz0 hz1 hz2 rfl (by decide) v pre.length (i32s (pre.map (num l m))) ((show W.drew.ownsRow _ _ _ _ _ _ from hrow).alloc _) ⟨W.heap.size, 0, none⟩ 1 1 [.int .i32 y] rfl (cell_one_new _ _ _) (by simp [Value.oneCell']) (by unfold maxLen; omega) (by omega) (by have := hB.size; simp; omega)
      obtain ⟨g', cap', rfl⟩ := ownsRow_succ hown'
      have hvd : Boxed W.drew w1.heap.size 33 v := hv
      have hrowd : W.drew.ownsRow w.heap.size 21 1 v pre.length (i32s (pre.map (num l m))) := hrow
      obtain ⟨hv1, hv2, hr2, hk2, hb2⟩ := hvd.appended (by decide) hrowd hB.size hs1 hown' hgrow
      have hSd : Boxed (W.drew.alloc (.cells #[.int .i32 y] 21)) (w1.heap.size + 1) 44 _ := Boxed.alloc (W := W.drew) hS _
      have hNd : Boxed (W.drew.alloc (.cells #[.int .i32 y] 21)) (w1.heap.size + 1 + 1) 3 _ := Boxed.alloc (W := W.drew) hN _
      have hS1 := (hSd.kept hgrow (hSd.not_row (by decide) (hrowd.alloc _))).other (B' := w1.heap.size) (by omega) (.slice (some ⟨g', 0, none⟩) (pre.length + 1) cap')
      have hN1 := (hNd.kept hgrow (hNd.not_row (by decide) (hrowd.alloc _))).other (B' := w1.heap.size) (by omega) (.slice (some ⟨g', 0, none⟩) (pre.length + 1) cap')
      have hc1' := hv1.cell
      have hf1 := hv1.frozen
      have hrunB : (Builtin.append_ #[33, 33] 33 #[v, .slice (some ⟨W.heap.size, 0, none⟩) 1 1]).run Try.prog (W.alloc (.cells #[.int .i32 y] 21)).drew = .ok (.slice (some ⟨g', 0, none⟩) (pre.length + 1) cap') w2 := hrunA
      have hcA : (W.alloc (.cells #[.int .i32 y] 21)).cell? ⟨w1.heap.size, 0, none⟩ = some v := (hv.alloc _).cell
      have hcB : (W.alloc (.cells #[.int .i32 y] 21)).drew.cell? ⟨w1.heap.size, 0, none⟩ = some v := hcA
      clear hrunA
      simp [go_sem] at hrunB
      have HR3 := hid (show (w2.setCell ⟨w1.heap.size, 0, none⟩ (.slice (some ⟨g', 0, none⟩) (pre.length + 1) cap')).ownsRow w.heap.size 21 1 (.slice (some ⟨g', 0, none⟩) (pre.length + 1) cap') (pre ++ [x]).length (i32s ((pre ++ [x]).map (num l m))) by
        have e1 : (pre ++ [x]).length = pre.length + 1 := by simp
        have e2 : i32s ((pre ++ [x]).map (num l m)) = i32s (pre.map (num l m)) ++ [.int .i32 y] := by rw [List.map_append, i32s_append, List.map_cons, List.map_nil, HY.out]; rfl
        rw [e1, e2]
        exact hr2)
      have mixed : Try.prog.follows .mixedOrders = true := by kernel_rfl
      gi_wp2
      gi_region_with_o (refine ⟨trivial, ?_⟩; refine (CallsIn.inRound k (callsIn_wide.2 hval)).mono ?_; rintro e w' ⟨rfl, rfl⟩)
      all_goals gi_wp2
      all_goals exact ⟨((KeepsOthers.drew W).trans hk2).from _, ⟨(Below.refl _ W).drew.trans hb2, hS1.trans hS.symm, hN1.trans hN.symm⟩, ⟨⟨⟨_, hv2, HR3.out, trivial⟩, hS1⟩, hN1⟩, hB.trans ((Below.refl _ W).drew.trans hb2)⟩
    case done =>
      rintro D ys W hD rfl ⟨⟨⟨⟨v, hv, hrow, _⟩, hS⟩, hN⟩, hB⟩ hK
      have hc := hv.cell
      have hlm : m = (rows l).length := by rw [rows_length, hn.out]; have := HM.out; omega
      rw [firsts_length (Nat.le_refl m), firsts_num hlm] at hrow
      have HL := hid hlm.symm
      clear hlm hcell hrow0 hB0 hown0 hgr bL bS bN hrun hb0
      obtain ⟨B, d, rfl, hown⟩ := row_shape (by rw [HL.out]; exact hrow) (rows_in32 l)
      rw [HL.out] at hc
      have hD2 : w.heap.size ≤ D := by simp at hD; omega
      have hBD : Below w.heap.size w (W.putObj D (.deferred none)) := hB.trans ((Below.refl _ W).grown (grownBy_putObj' W D _) hB.size (fun j e => by cases e; exact hD2))
      have hownD := hown.putObj (.deferred none) hK rfl
      obtain ⟨z, hz⟩ : ∃ z, chk (rows l) = z := ⟨_, rfl⟩
      have HZ := hid hz
      by_cases h0 : z = 0
      · subst h0
        have H := hid (show getE l = 0 ∧ getV l = rows l by rw [HE.out.1, HE.out.2, if_pos hz]; exact ⟨hz, rfl⟩)
        clear hz hD hS hN HE
        gi_wp2_with (refine ⟨trivial, ?_⟩; gi_at_call 82; refine (callsIn_wide.2 (check_of 0 B m d (rows l) HL HZ W hown.ri)).mono ?_; rintro e w' ⟨rfl, rfl⟩)
        refine ⟨by simp, .inl ⟨_, _, rfl, run_takeDeferred hK, ?_⟩⟩
        exact ⟨_, results_tmp2 (t := 2) (u := 3) rfl _ _ _, ret_own (hid ⟨H.out.2.symm, H.out.1.symm, HL.out⟩) hownD hBD⟩
      · have H := hid (show getE l = z ∧ getV l = [] by rw [HE.out.1, HE.out.2, if_neg (by rw [hz]; exact h0)]; exact ⟨hz, rfl⟩)
        have hz2 : (z != 0) = true := by simpa using h0
        clear hz h0 hD hS hN HE
        gi_wp2_with (refine ⟨trivial, ?_⟩; gi_at_call 82; refine (callsIn_wide.2 (check_of z B m d (rows l) HL HZ W hown.ri)).mono ?_; rintro e w' ⟨rfl, rfl⟩)
        refine ⟨by simp, .inl ⟨_, _, rfl, run_takeDeferred hK, ?_⟩⟩
        exact ⟨_, results_tmp2 (t := 2) (u := 3) rfl _ _ _, ret_own_nil (hid ⟨H.out.1.symm, H.out.2⟩) hBD⟩
    case stop =>
      rintro D k pre W _ _ h _
      exact h.elim
  · have h4' : ((n : Int) % 4 != 0) = true := by simp; omega
    have HE := hid (getE_bad HN.out (fun h => h4 (by rw [← hn.out]; exact h.1)))
    clear h4
    go_enter Try.func79, Try.ntmps79
    go_wp2
    go_ret2
    exact ret_own_nil (hid ⟨HE.out.1.symm, HE.out.2⟩) (Below.refl _ _)
end Go.Proofs.Ytbhglgcnoidddaa
