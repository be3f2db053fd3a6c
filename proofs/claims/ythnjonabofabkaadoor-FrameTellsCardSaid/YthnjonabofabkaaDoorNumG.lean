/-
  The contract of the document's own Get of layer 2.
-/
import Derived.Test.YthnjonabofabkaaDoorFrA
import Derived.Deep.RegionHeld
import Derived.Deep.DrawnRows
namespace Go.Proofs.YthnjonabofabkaaDoor
open Go.RowKit
set_option linter.unusedVariables false
attribute [local go_sem ↓] Go.wp_at_zero Go.wp_at_succ

def Fails (l : List UInt8) (s : Nat) : Prop := ∀ t, 1 ≤ t → t < s → ¬ (enc (rv (l.take t)) = l.take t)
theorem fails_none {l : List UInt8} {s : Nat} (h : Fails l s) (hs : 8 < s ∨ l.length < s) : getP l = none := by
  match hg : getP l with
  | none => rfl
  | some (n, t) =>
    exfalso
    obtain ⟨hn, ht, hl, he⟩ := getP_some hg
    have hb := enc_bounds hn
    exact h t (by omega) (by omega) (by rw [he, rv_enc])
theorem fits_some {l : List UInt8} {s : Nat} (hs : s ≤ l.length) (hlt : rv (l.take s) < 72057594037927936) (h : enc (rv (l.take s)) = l.take s) : getP l = some (rv (l.take s), s) := by
  have e := getP_enc hlt (l.drop s)
  rw [h, List.take_append_drop, List.length_take, Nat.min_eq_left hs] at e
  exact e
theorem fails_next {l : List UInt8} {s : Nat} (h : Fails l s) (hn : ¬ (enc (rv (l.take s)) = l.take s)) : Fails l (s + 1) := by
  intro t h1 h2
  by_cases e : t = s
  · subst e; exact hn
  · exact h t h1 (by omega)
theorem rv_lt {l : List UInt8} {s : Nat} (h1 : 1 ≤ s) (h8 : s ≤ 8) (hs : s ≤ l.length) : rv (l.take s) < 72057594037927936 := by
  have hl : (l.take s).length = s := by rw [List.length_take]; omega
  match hd : l.take s, hl with
  | [], hl => simp at hl; omega
  | [b], _ => rw [rv_one]; have := b.toNat_lt; omega
  | b :: c :: l, hl =>
    rw [rv_more]
    have := vl_lt (c :: l)
    have : 256 ^ (c :: l).length ≤ 256 ^ 7 := Nat.pow_le_pow_right (by decide) (by simp at hl ⊢; omega)
    omega
theorem rv_take1 {l : List UInt8} (h : 0 < l.length) : rv (l.take 1) = l[0].toNat := by
  match l, h with
  | y :: r, _ => rfl
theorem nbytes_z (z : Int) (n : Nat) (l : List UInt8) (k : Nat) (hz : Hid ((n : Int) = z)) (h : Hid (enc n = l ∧ l.length = k)) (hn : n < 72057594037927936) (w : World) :
    Calls Tryd.prog 31 #[.int .i64 z] w fun e w' => ∃ A c, e = .returned (.slice A k c) ∧ Rd w' A c l ∧ Below w.heap.size w w' := by
  have e := hz.out
  subst e
  exact nbytes_of n l k h hn w
theorem below_step {wo W w2 : World} (h : Below wo.heap.size wo W) (h2 : Below W.heap.size W w2) : Below wo.heap.size wo w2 := h.trans (h2.mono h.size)

set_option maxRecDepth 100000 in
set_option maxHeartbeats 2000000 in
theorem refget_any (A : Option Addr) (k c : Nat) (l : List UInt8) (HK : Hid (l.length = k)) (w : World) (hr : Rd w A c l) :
    Calls Tryd.prog 25 #[.slice A k c] w fun e w' => e = .returned (.tuple #[.int .i64 (gN l), .int .i64 (gS l), .int .i64 (gE l)]) ∧ Below w.heap.size w w' := by
  have hkc : (k : Int) ≤ (c : Int) := by have := hr.len; have := HK.out; omega
  have hcm : (c : Int) ≤ 9223372036854775807 := by have := hr.cap; omega
  go_enter Tryd.func25, Tryd.ntmps25
  go_wp2
  go_loopg [5] 9 (fun g z wr => ∃ s : Nat, 1 ≤ s ∧ s + g = 10 ∧ z = .int .i64 (s : Int) ∧ Fails l s ∧ Below w.heap.size w wr)
  case atStart => exact ⟨1, by omega, by omega, rfl, fun t h1 h2 => by omega, Below.refl _ _⟩
  case round =>
    obtain ⟨s, hs1, hsg, rfl, hf, hb⟩ := hrel
    obtain ⟨wo, rfl⟩ : ∃ wo : World, wo = wr := ⟨_, rfl⟩
    have HSG := hid hsg
    have HF := hid hf
    have hs1' : (1 : Int) ≤ (s : Int) := by omega
    have hs10 : (s : Int) ≤ 10 := by omega
    clear hsg hf
    by_cases h8 : s ≤ 8
    · by_cases hsk : s ≤ k
      · have hr2 := hr.keep hb
        have h8' : (s : Int) ≤ 8 := by omega
        have hsk' : (s : Int) ≤ (k : Int) := by omega
        obtain ⟨b, o, rfl, hcell⟩ := hr2.at_ (by have := HK.out; omega)
        have h0 := hcell 0 (by have := HK.out; omega)
        simp only [Nat.add_zero] at h0
        have hx := (l[0]'(by have := HK.out; omega)).toNat_lt
        generalize hl0 : l[0]'(by have := HK.out; omega) = x at h0 hx
        have HL0 := hid hl0
        have hx2 : (x.toNat : Int) ≤ 255 := by omega
        have HC := hid hcell
        have h80 : (0 : Int) < (k : Int) := by omega
        clear hl0 hx hcell
        by_cases e1 : s = 1
        · have hs2 : ¬ (1 : Int) < (s : Int) := by omega
          obtain ⟨nn, hv0, HV⟩ : ∃ nn : Nat, Hid (x.toNat = nn) ∧ Hid (rv (l.take s) = nn) := ⟨_, hid rfl, hid (by rw [e1, rv_take1 (by have := HK.out; omega), HL0.out])⟩
          clear e1
          go_wp2
          go_loop [6, 7] (fun v i => i = .int .i64 1 ∧ v = .int .i64 (x.toNat : Int)) (fun _ _ => 0)
          case atStart => exact ⟨rfl, rfl⟩
          case round =>
            obtain ⟨rfl, rfl⟩ := hrel
            obtain ⟨z, hz⟩ : ∃ z : Int, ((x.toNat : Nat) : Int) = z := ⟨_, rfl⟩
            rw [hz]
            rw [hv0.out] at hz
            have hlt := rv_lt (l := l) hs1 h8 (by have := HK.out; omega)
            have HT := hid (show (l.take s).length = s by rw [List.length_take]; have := HK.out; omega)
            have hr3 := hr2
            rw [HV.out] at hlt
            obtain ⟨le, ke, hle, hke⟩ : ∃ le ke, enc nn = le ∧ le.length = ke := ⟨_, _, rfl, rfl⟩
            have HE := hid (show enc nn = le ∧ le.length = ke from ⟨hle, hke⟩)
            have HKE := hid hke
            have HLT := hid hlt
            have hcase : (le = l.take s ∧ (gN l = nn ∧ gS l = s ∧ gE l = 0)) ∨ (¬ le = l.take s ∧ Fails l (s + 1)) := by
              by_cases h : le = l.take s
              · refine .inl ⟨h, getP_of ?_⟩
                have := fits_some (l := l) (s := s) (by have := HK.out; omega) (by rw [HV.out]; exact hlt) (by rw [HV.out, hle, h])
                rw [HV.out] at this
                exact this
              · exact .inr ⟨h, fails_next HF.out (by rw [HV.out, hle]; exact h)⟩
            have HD := hid hcase
            have hss : (s : Int) ≤ (c : Int) := by omega
            have hz2 : z < 72057594037927936 := by omega
            have hz0 : 0 ≤ z := by omega
            have HZ := hid hz
            clear hcase hle hke hr2 h0 hlt hz
            go_wp2_with fail
            have hconv : ∀ w' : World, Below wo.heap.size wo w' → (convert 23 9 (.slice (some ⟨b, o, none⟩) s c)).run Tryd.prog w' = .ok (.string ⟨(l.take s).toArray⟩) w' := fun w' h => rd_string HT ((hr3.keep h).take s)
            go_region_held (fun w' => Below wo.heap.size wo w') (first | assumption | exact (Below.refl _ _).drew | exact below_step (by assumption) hb1) ((go_at_call 31; refine (nbytes_z z nn le ke HZ HE HLT.out _).mono ?_; rintro e w2 ⟨A1, c1, rfl, hr1, hb1⟩; have s1 := rd_string HKE hr1))
            have hbw := hb.trans ((below_step (Below.refl wo.heap.size wo).drew hb1).mono hb.size)
            generalize hq : (le == l.take s) = q
            have HQ : Hid ((q = true ∧ (gN l = nn ∧ gS l = s ∧ gE l = 0)) ∨ (q = false ∧ Fails l (s + 1))) := by
              rcases HD.out with ⟨h1, h2⟩ | ⟨h1, h2⟩
              · exact .inl ⟨by rw [← hq]; simp [h1], h2⟩
              · exact .inr ⟨by rw [← hq]; simp [h1], h2⟩
            clear hq hconv s1 hr1 hb1
            cases q
            · have H2 : Hid (Fails l (s + 1)) := by
                rcases HQ.out with ⟨h1, h2⟩ | ⟨h1, h2⟩
                · cases h1
                · exact h2
              go_wp2
              go_roundg (gk - 1)
              case measure => have := HSG.out; omega
              case rel => exact ⟨s + 1, by omega, by have := HSG.out; omega, by go_num, H2.out, hbw⟩
            · have H2 : Hid (gN l = nn ∧ gS l = s ∧ gE l = 0) := by
                rcases HQ.out with ⟨h1, h2⟩ | ⟨h1, h2⟩
                · exact h2
                · cases h1
              go_wp2
              go_ret3
              exact ⟨by rw [H2.out.1, H2.out.2.1, H2.out.2.2, HZ.out]; rfl, hbw⟩
        · have hs2 : (1 : Int) < (s : Int) := by omega
          obtain ⟨nn, HV⟩ : ∃ nn : Nat, Hid (rv (l.take s) = nn) := ⟨_, hid rfl⟩
          have HS1 := hid (show ¬ s = 1 from e1)
          clear e1
          go_wp2
          go_loop [6, 7] (fun v i => ∃ j : Nat, j + 1 ≤ s ∧ i = .int .i64 ((j : Int) + 1) ∧ v = .int .i64 (vl ((l.drop 1).take j) : Int)) (fun _ i => s - (intOf i).toNat)
          case atStart => exact ⟨0, by omega, rfl, rfl⟩
          case round =>
            obtain ⟨j, hj, rfl, rfl⟩ := hrel
            by_cases hjs : j + 1 < s
            · obtain ⟨d, hd, hcell, hd2, hvl⟩ : ∃ d : UInt8, Hid (vl ((l.drop 1).take (j + 1)) = vl ((l.drop 1).take j) * 256 + d.toNat) ∧ wo.cell? ⟨b, o + (j + 1), none⟩ = some (.int .u8 (d.toNat : Int)) ∧ (d.toNat : Int) ≤ 255 ∧ vl ((l.drop 1).take j) < 281474976710656 := by
                have hl := HK.out
                have hj2 : j < (l.drop 1).length := by rw [List.length_drop]; omega
                have h1 := HC.out (j + 1) (by omega)
                refine ⟨l[j + 1]'(by omega), hid ?_, h1, by have := (l[j + 1]'(by omega)).toNat_lt; omega, ?_⟩
                · rw [List.take_succ_eq_append_getElem hj2, vl_snoc]
                  simp
                · have := vl_lt ((l.drop 1).take j)
                  have : 256 ^ ((l.drop 1).take j).length ≤ 256 ^ 6 := Nat.pow_le_pow_right (by decide) (by rw [List.length_take]; omega)
                  omega
              generalize vl ((l.drop 1).take j) = v at hd hvl
              obtain ⟨z, hz⟩ : ∃ z : Int, ((v : Nat) : Int) = z := ⟨_, rfl⟩
              rw [hz]
              have hz0 : 0 ≤ z := by omega
              have hz1 : z < 281474976710656 := by omega
              have HZ := hid hz
              have hjs2 : (j : Int) + 1 < (s : Int) := by omega
              clear hvl hz
              go_wp2
              go_round
              case rel => exact ⟨j + 1, by omega, by go_num, by rw [hd.out]; have := HZ.out; congr 1; omega⟩
              case measure => simp [intOf]; omega
            · have hjs2 : ¬ (j : Int) + 1 < (s : Int) := by omega
              have ej : j + 1 = s := by omega
              have hvr : vl ((l.drop 1).take j) = nn := by
                have hv := HV.out
                have hl := HK.out
                rw [← ej] at hv
                match l, hl with
                | [], hl => simp at hl; omega
                | [y], hl => simp at hl; omega
                | y :: y2 :: r, hl =>
                  obtain ⟨i, rfl⟩ : ∃ i, j = i + 1 := ⟨j - 1, by have := HS1.out; omega⟩
                  exact hv
              rw [hvr]
              obtain ⟨z, hz⟩ : ∃ z : Int, ((nn : Nat) : Int) = z := ⟨_, rfl⟩
              rw [hz]
              clear ej hvr
              have hlt := rv_lt (l := l) hs1 h8 (by have := HK.out; omega)
              have HT := hid (show (l.take s).length = s by rw [List.length_take]; have := HK.out; omega)
              have hr3 := hr2
              rw [HV.out] at hlt
              obtain ⟨le, ke, hle, hke⟩ : ∃ le ke, enc nn = le ∧ le.length = ke := ⟨_, _, rfl, rfl⟩
              have HE := hid (show enc nn = le ∧ le.length = ke from ⟨hle, hke⟩)
              have HKE := hid hke
              have HLT := hid hlt
              have hcase : (le = l.take s ∧ (gN l = nn ∧ gS l = s ∧ gE l = 0)) ∨ (¬ le = l.take s ∧ Fails l (s + 1)) := by
                by_cases h : le = l.take s
                · refine .inl ⟨h, getP_of ?_⟩
                  have := fits_some (l := l) (s := s) (by have := HK.out; omega) (by rw [HV.out]; exact hlt) (by rw [HV.out, hle, h])
                  rw [HV.out] at this
                  exact this
                · exact .inr ⟨h, fails_next HF.out (by rw [HV.out, hle]; exact h)⟩
              have HD := hid hcase
              have hss : (s : Int) ≤ (c : Int) := by omega
              have hz2 : z < 72057594037927936 := by omega
              have hz0 : 0 ≤ z := by omega
              have HZ := hid hz
              clear hcase hle hke hr2 h0 hlt hz
              go_wp2_with fail
              have hconv : ∀ w' : World, Below wo.heap.size wo w' → (convert 23 9 (.slice (some ⟨b, o, none⟩) s c)).run Tryd.prog w' = .ok (.string ⟨(l.take s).toArray⟩) w' := fun w' h => rd_string HT ((hr3.keep h).take s)
              go_region_held (fun w' => Below wo.heap.size wo w') (first | assumption | exact (Below.refl _ _).drew | exact below_step (by assumption) hb1) ((go_at_call 31; refine (nbytes_z z nn le ke HZ HE HLT.out _).mono ?_; rintro e w2 ⟨A1, c1, rfl, hr1, hb1⟩; have s1 := rd_string HKE hr1))
              have hbw := hb.trans ((below_step (Below.refl wo.heap.size wo).drew hb1).mono hb.size)
              generalize hq : (le == l.take s) = q
              have HQ : Hid ((q = true ∧ (gN l = nn ∧ gS l = s ∧ gE l = 0)) ∨ (q = false ∧ Fails l (s + 1))) := by
                rcases HD.out with ⟨h1, h2⟩ | ⟨h1, h2⟩
                · exact .inl ⟨by rw [← hq]; simp [h1], h2⟩
                · exact .inr ⟨by rw [← hq]; simp [h1], h2⟩
              clear hq hconv s1 hr1 hb1
              cases q
              · have H2 : Hid (Fails l (s + 1)) := by
                  rcases HQ.out with ⟨h1, h2⟩ | ⟨h1, h2⟩
                  · cases h1
                  · exact h2
                go_wp2
                go_roundg (gk - 1)
                case measure => have := HSG.out; omega
                case rel => exact ⟨s + 1, by omega, by have := HSG.out; omega, by go_num, H2.out, hbw⟩
              · have H2 : Hid (gN l = nn ∧ gS l = s ∧ gE l = 0) := by
                  rcases HQ.out with ⟨h1, h2⟩ | ⟨h1, h2⟩
                  · exact h2
                  · cases h1
                go_wp2
                go_ret3
                exact ⟨by rw [H2.out.1, H2.out.2.1, H2.out.2.2, HZ.out]; rfl, hbw⟩
      · have hsk' : ¬ (s : Int) ≤ (k : Int) := by omega
        have h8' : (s : Int) ≤ 8 := by omega
        have HN := hid (getP_none (fails_none HF.out (.inr (by have := HK.out; omega))))
        clear h8 hsk
        go_wp2
        go_ret3
        exact ⟨by rw [HN.out.1, HN.out.2.1, HN.out.2.2]; rfl, hb⟩
    · have h8' : ¬ (s : Int) ≤ 8 := by omega
      have HN := hid (getP_none (fails_none HF.out (.inl (by omega))))
      clear h8
      go_wp2
      go_ret3
      exact ⟨by rw [HN.out.1, HN.out.2.1, HN.out.2.2]; rfl, hb⟩
end Go.Proofs.YthnjonabofabkaaDoor
