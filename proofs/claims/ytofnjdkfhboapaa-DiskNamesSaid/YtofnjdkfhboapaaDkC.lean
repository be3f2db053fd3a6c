/-
  The document's own answers of layer 12: the block at a place; sectors with one more.
-/
import Derived.Test.YtofnjdkfhboapaaDkA
namespace Go.Proofs.Ytofnjdkfhboapaa
open Go.RowKit
set_option linter.unusedVariables false
set_option linter.unusedSimpArgs false

set_option maxRecDepth 100000 in
set_option maxHeartbeats 3200000 in
theorem kat_of (d : Dsk) (A : Option Addr) (n c : Nat) (a : Int) (hn : Hid (d.se.length = n)) (h8 : Hid (∀ i (hi : i < d.se.length), d.se[i].b.length = 128)) (w : World) (hr : RdS w A c d.se) :
    Calls Try.prog 35 #[.agg #[.slice A n c, .int .i64 d.st, .int .i64 d.lf, .bool d.dd], .int .i64 a] w fun e w' => ∃ A' c', e = .returned (.slice A' 128 c') ∧ Own w' w.heap.size 5 A' c' (atS d.se a) ∧ Below w.heap.size w w' := by
  obtain ⟨i0, hi0, hz0, hz1, hz2⟩ := info_parts info_u8
  have hc2 : (c : Int) ≤ 9223372036854775807 := by have := hr.cap; omega
  have hc1 : (n : Int) ≤ c := by have := hr.len; have := hn.out; omega
  have xa := boxK_new w d A n c 24
  have hb0 := below1 w (.cells (#[.slice A n c, .int .i64 d.st, .int .i64 d.lf, .bool d.dd]) 24)
  have HR := hid hr
  clear hr
  go_enter Try.func35, Try.ntmps35
  go_wp2
  generalize World.alloc w _ = W at xa hb0 ⊢
  go_loopw [5] (fun i wr => ∃ (j : Nat), j ≤ n ∧ i = .int .i64 (j : Int) ∧ Hid (∀ i (hi : i < d.se.length), i < j → d.se[i].a ≠ a) ∧ Below W.heap.size W wr) (fun i _ => n - (intOf i).toNat)
  case atStart => exact ⟨0, by omega, rfl, hid (fun i _ h => absurd h (by omega)), Below.refl _ _⟩
  case round =>
    obtain ⟨j, hj, rfl, hall, hb⟩ := hrel
    have hbw := below_in hb0 hb
    have x0 := (xa.keep hb).sl
    by_cases hjn : j < n
    · have hlt2 : (j : Int) < (n : Int) := by omega
      have hjl : j < d.se.length := by rw [hn.out]; exact hjn
      obtain ⟨b, o, rfl, hcell⟩ := (HR.out.keep hbw).at_ (by omega)
      obtain ⟨X, x, y0, y1, hX⟩ := hcell j hjl
      obtain ⟨z, hz⟩ : ∃ z, d.se[j].a = z := ⟨_, rfl⟩
      obtain ⟨l, hl⟩ : ∃ l, d.se[j].b = l := ⟨_, rfl⟩
      have h128 := h8.out j hjl
      rw [hl] at h128 hX y1
      rw [hz] at y0
      rw [h128] at y1
      by_cases hza : z = a
      · subst hza
        have d0 : (z == z) = true := by simp
        have HA := hid (show atS d.se z = l by rw [← hl]; exact atS_some hjl hz (fun i hi => hall.out i _ hi))
        have HL := hid h128
        clear hall h128 hl hz hcell hjl
        go_wp2_with (at_builtin; refine wpList_append_rd rfl (.const (.slice none 0 0)) (.tmp 26) _ rfl w.heap.size 5 Try.underlying30 hi0 hz0 hz1 hz2 none 0 0 [] (hid rfl) rfl (Own.nil _ _ _) X 128 x l HL rfl hX (by omega) hbw.size ?_; intro A2 c2 w2 ho2 b2)
        go_ret
        exact ⟨A2, c2, rfl, by rw [HA.out]; exact ho2, hbw.trans b2⟩
      · have d0 : (z == a) = false := by simpa using hza
        have HS := hid (show ∀ i (hi : i < d.se.length), i < j + 1 → d.se[i].a ≠ a from fun i hi h => by
          rcases Nat.lt_or_ge i j with h1 | h1
          · exact hall.out i hi h1
          · obtain rfl : i = j := by omega
            rw [hz]; exact hza)
        clear hall h128 hl hz hX y1 hcell hjl
        go_wp2
        go_roundw
        case rel => exact ⟨j + 1, by omega, by go_num, HS, hb⟩
        case measure => simp [intOf]; omega
    · have hlt2 : ¬ (j : Int) < (n : Int) := by omega
      have HA := hid (show atS d.se a = List.replicate 128 0 from atS_none fun i hi => hall.out i hi (by have := hn.out; omega))
      have mk := make_128
      have ow := Own.lit wr 5 (List.replicate 128 0) hbw.size (by simp)
      have hb9 := below_in hbw (below1 wr (.cells (u8s (List.replicate 128 0)).toArray 5))
      have hq : (List.replicate 128 (0 : UInt8)).length = 128 := by simp
      generalize List.replicate 128 (0 : UInt8) = q at mk ow hb9 HA hq
      clear hall
      go_wp2
      go_ret
      refine ⟨_, _, rfl, ?_, ?_⟩
      · rw [HA.out]; rw [hq] at ow; exact ow
      · exact hb9

theorem filter_step (p : Sct → Bool) (l : List Sct) (j : Nat) (hj : j < l.length) : (l.take (j + 1)).filter p = (l.take j).filter p ++ (if p l[j] = true then [l[j]] else []) := by
  rw [List.take_succ_eq_append_getElem hj, List.filter_append]
  congr 1
  by_cases h : p l[j] = true
  · simp [h]
  · simp [h]
theorem sct_eq (s : Sct) : (⟨s.a, s.b⟩ : Sct) = s := rfl
set_option maxRecDepth 100000 in
set_option maxHeartbeats 3200000 in
theorem kwith_of (L : List Sct) (A : Option Addr) (n c : Nat) (a : Int) (B : Option Addr) (q : Nat) (y : List UInt8) (hn : Hid (L.length = n)) (h5 : n ≤ 4000) (h8 : y.length = 128) (w0 w : World) (h0 : Below w0.heap.size w0 w) (hr : RdS w0 A c L) (hs : Rd w0 B q y) :
    Calls Try.prog 43 #[.slice A n c, .int .i64 a, .slice B 128 q] w fun e w' => ∃ A' m c', e = .returned (.slice A' m c') ∧ Hid ((withS L a y).length = m) ∧ MxS w0 w.heap.size w' A' c' (withS L a y) ∧ Below w.heap.size w w' := by
  obtain ⟨i0, hi0, hz0, hz1, hz2⟩ := info_parts info_u8
  have hc2 : (c : Int) ≤ 9223372036854775807 := by have := hr.cap; omega
  have hc1 : (n : Int) ≤ c := by have := hr.len; have := hn.out; omega
  have HR := hid hr
  have HS := hid hs
  have H8 := hid h8
  clear hr hs h8
  go_enter Try.func43, Try.ntmps43
  go_wp2
  go_loopw [7, 8] (fun v i wr => ∃ (j : Nat) (A' : Option Addr) (m c' : Nat), j ≤ n ∧ v = .slice A' m c' ∧ m ≤ j ∧ i = .int .i64 (j : Int) ∧ Hid (((L.take j).filter (fun s => decide (s.a < a))).length = m) ∧ MxS w0 w.heap.size wr A' c' ((L.take j).filter (fun s => decide (s.a < a))) ∧ Below w.heap.size w wr) (fun _ i _ => n - (intOf i).toNat)
  case atStart => exact ⟨0, none, 0, 0, by omega, rfl, by omega, rfl, hid rfl, MxS.nil _ _ _ h0 h0.size (Nat.le_refl _), Below.refl _ _⟩
  case round =>
    obtain ⟨j, A', m, c', hj, rfl, hmj, rfl, hm, ho, hbe⟩ := hrel
    have hb := ho.be
    by_cases hjn : j < n
    · have hlt2 : (j : Int) < (n : Int) := by omega
      have hjl : j < L.length := by rw [hn.out]; exact hjn
      obtain ⟨b, o, rfl, hcell⟩ := HR.out.at_ (by omega)
      obtain ⟨X, x, y0, y1, hX⟩ := hcell j hjl
      have hst := filter_step (fun s => decide (s.a < a)) L j hjl
      obtain ⟨s, hsj⟩ : ∃ s, L[j] = s := ⟨_, rfl⟩
      rw [hsj] at y0 y1 hX hst
      obtain ⟨z, l⟩ := s
      obtain ⟨p, hp⟩ : ∃ p, l.length = p := ⟨_, rfl⟩
      simp only at y0 y1 hX hst
      rw [hp] at y1
      replace y0 := keep hb y0
      replace y1 := keep hb y1
      by_cases hza : z < a
      · have d0 : decide (z < a) = true := by simpa using hza
        rw [d0, if_pos rfl] at hst
        have HST := hid hst
        have HP := hid hp
        have HM := hid (show ((L.take (j + 1)).filter (fun s => decide (s.a < a))).length = m + 1 by rw [hst, List.length_append, hm.out]; rfl)
        clear hst hp hcell hsj hjl
        go_wp2_with (at_builtin; refine wpList_append_m rfl (.tmp 23) (.tmp 28) rfl rfl w0 w.heap.size A' m c' _ hm rfl z l X p x HP wr rfl ho (.inl hX) wr.heap.size rfl rfl (by omega) ?_; intro A2 c2 w2 ho2 b2)
        rw [← HST.out] at ho2
        have hbe2 := hbe.trans b2
        clear ho b2 hbe hX y0 y1 hb
        go_roundw
        case rel => exact ⟨j + 1, A2, m + 1, c2, by omega, rfl, by omega, by go_num, HM, ho2, hbe2⟩
        case measure => simp [intOf]; omega
      · have d0 : decide (z < a) = false := by simpa using hza
        rw [d0, if_neg (by simp), List.append_nil] at hst
        rw [← hst] at ho hm
        clear hst hp hcell hsj hjl hX y1 hb
        go_wp2
        go_roundw
        case rel => exact ⟨j + 1, A', m, c', by omega, rfl, by omega, by go_num, hm, ho, hbe⟩
        case measure => simp [intOf]; omega
    · have hlt2 : ¬ (j : Int) < (n : Int) := by omega
      rw [List.take_of_length_le (by have := hn.out; omega)] at ho hm
      obtain ⟨F, hF⟩ : ∃ F, L.filter (fun s => decide (s.a < a)) = F := ⟨_, rfl⟩
      rw [hF] at ho hm
      have HF := hid hF
      have hmn : m ≤ n := by omega
      clear hF
      have one : True := trivial
      have two : True := trivial
      go_wp2_with (at_builtin; first
        | (clear one; refine wpList_append_rd rfl (.const (.slice none 0 0)) (.tmp 32) _ rfl wr.heap.size 5 Try.underlying30 hi0 hz0 hz1 hz2 none 0 0 [] (hid rfl) rfl (Own.nil _ _ _) B 128 q y H8 rfl (HS.out.keep hb) (by omega) (Nat.le_refl _) ?_; intro A2 c2 w2 ho2 b2; rw [List.nil_append] at ho2; replace ho2 := Own.mono ho2 ho.base_le; have ho1 := ho.keep b2)
        | (clear two; refine wpList_append_m rfl (.tmp 30) (.tmp 35) rfl rfl w0 w.heap.size A' m c' F hm rfl a y A2 128 c2 H8 w2 rfl ho1 (.inr ho2) w2.heap.size rfl rfl (by omega) ?_; intro A3 c3 w3 ho3 b3))
      obtain ⟨G, hG⟩ : ∃ G : List Sct, F ++ [(⟨a, y⟩ : Sct)] = G := ⟨_, rfl⟩
      rw [hG] at ho3
      have HG := hid hG
      have hm3 := hid (show G.length = m + 1 by rw [← hG, List.length_append, hm.out]; rfl)
      clear hG
      have hbe3 := (below_in hbe b2).trans b3
      clear hbe ho ho1 ho2 b2 b3 hb hm hj hmj hjn hlt2
      go_loopw [7, 9] (fun v i wr => ∃ (j : Nat) (A' : Option Addr) (m' c' : Nat), j ≤ n ∧ v = .slice A' m' c' ∧ m' ≤ m + 1 + j ∧ i = .int .i64 (j : Int) ∧ Hid ((G ++ (L.take j).filter (fun s : Sct => decide (a < s.a))).length = m') ∧ MxS w0 w.heap.size wr A' c' (G ++ (L.take j).filter (fun s : Sct => decide (a < s.a))) ∧ Below w.heap.size w wr) (fun _ i _ => n - (intOf i).toNat)
      case atStart => exact ⟨0, A3, m + 1, c3, by omega, rfl, by omega, rfl, by simpa using hm3, by simpa using ho3, hbe3⟩
      case round =>
        clear ho3 hm3 hbe3
        obtain ⟨j, A', m', c', hj, rfl, hmj, rfl, hm, ho, hbe⟩ := hrel
        have hb := ho.be
        by_cases hjn : j < n
        · have hlt2 : (j : Int) < (n : Int) := by omega
          have hjl : j < L.length := by rw [hn.out]; exact hjn
          obtain ⟨b, o, rfl, hcell⟩ := HR.out.at_ (by omega)
          obtain ⟨X, x, y0, y1, hX⟩ := hcell j hjl
          have hst := filter_step (fun s : Sct => decide (a < s.a)) L j hjl
          obtain ⟨s, hsj⟩ : ∃ s, L[j] = s := ⟨_, rfl⟩
          rw [hsj] at y0 y1 hX hst
          obtain ⟨z, l⟩ := s
          obtain ⟨p, hp⟩ : ∃ p, l.length = p := ⟨_, rfl⟩
          simp only at y0 y1 hX hst
          rw [hp] at y1
          replace y0 := keep hb y0
          replace y1 := keep hb y1
          by_cases hza : a < z
          · have d0 : decide (a < z) = true := by simpa using hza
            rw [d0, if_pos rfl] at hst
            have HST := hid (show (G ++ (L.take j).filter (fun s : Sct => decide (a < s.a))) ++ [(⟨z, l⟩ : Sct)] = G ++ (L.take (j + 1)).filter (fun s : Sct => decide (a < s.a)) by rw [hst, List.append_assoc])
            have HP := hid hp
            have HM := hid (show (G ++ (L.take (j + 1)).filter (fun s : Sct => decide (a < s.a))).length = m' + 1 by rw [← HST.out, List.length_append, hm.out]; rfl)
            clear hst hp hcell hsj hjl
            go_wp2_with (at_builtin; refine wpList_append_m rfl (.tmp 50) (.tmp 55) rfl rfl w0 w.heap.size A' m' c' _ hm rfl z l X p x HP wr rfl ho (.inl hX) wr.heap.size rfl rfl (by omega) ?_; intro A2 c2 w2 ho2 b2)
            rw [HST.out] at ho2
            have hbe2 := hbe.trans b2
            clear ho b2 hbe hX y0 y1 hb
            go_roundw
            case rel => exact ⟨j + 1, A2, m' + 1, c2, by omega, rfl, by omega, by go_num, HM, ho2, hbe2⟩
            case measure => simp [intOf]; omega
          · have d0 : decide (a < z) = false := by simpa using hza
            rw [d0, if_neg (by simp), List.append_nil] at hst
            rw [← hst] at ho hm
            clear hst hp hcell hsj hjl hX y1 hb
            go_wp2
            go_roundw
            case rel => exact ⟨j + 1, A', m', c', by omega, rfl, by omega, by go_num, hm, ho, hbe⟩
            case measure => simp [intOf]; omega
        · have hlt2 : ¬ (j : Int) < (n : Int) := by omega
          rw [List.take_of_length_le (by have := hn.out; omega)] at ho hm
          have HW := hid (show G ++ L.filter (fun s : Sct => decide (a < s.a)) = withS L a y by rw [withS, HF.out, ← HG.out, List.append_assoc]; rfl)
          rw [HW.out] at ho hm
          go_wp2
          go_ret
          exact ⟨A', m', c', rfl, hm, ho, hbe⟩
end Go.Proofs.Ytofnjdkfhboapaa
