/-
  The contract of frame.Open.
-/
import Derived.Test.YthnjonabofabkaaDoorFrD
namespace Go.Proofs.YthnjonabofabkaaDoor
open Go.RowKit
set_option linter.unusedVariables false

def opB (l : List UInt8) : List UInt8 := match opP l with | some m => m | none => []
def opE (l : List UInt8) : Int := match opP l with | some _ => 0 | none => 80
theorem op_no {l : List UInt8} (h : opP l = none) : opB l = [] ∧ ([] : List UInt8).length = 0 ∧ opE l = 80 := by simp [opB, opE, h]
theorem op_yes {l m : List UInt8} (h : opP l = some m) : opB l = m ∧ m.length = m.length ∧ opE l = 0 := by simp [opB, opE, h]

set_option maxHeartbeats 1000000 in
theorem open_of (L : List UInt8) (k : Nat) (j : Int) (A : Option Addr) (n c : Nat) (l : List UInt8) (hn : Hid (l.length = n)) (hj : Hid (opB l = L ∧ L.length = k ∧ opE l = j)) (w : World) (hr : Rd w A c l) (ht : Tab w) :
    Calls Tryd.prog 14 #[.slice A n c] w (RetOwn w L k j) := by
  obtain ⟨rfl, rfl, rfl⟩ := hj.out
  clear hj
  match hm : toP l with
  | none =>
    have H := hid (op_no (l := l) (by rw [opP, hm]))
    have HM := hid hm
    clear hm
    go_enter Tryd.func14, Tryd.ntmps14
    go_wp2_with fail
    refine (told_no A n c l hn HM _ hr).mono ?_
    rintro e w1 ⟨rfl, rfl⟩
    go_wp2
    go_ret2
    exact ⟨none, 0, by rw [H.out.1, H.out.2.2]; rfl, by rw [H.out.1]; exact Own.nil _ _ _, Below.refl _ _⟩
  | some m =>
    obtain ⟨q, hq⟩ : ∃ q, m.length = q := ⟨_, rfl⟩
    have HM := hid (show toP l = some m ∧ m.length = q from ⟨hm, hq⟩)
    have HQ := hid hq
    by_cases h : q ≤ 1000
    · have hl : m.length ≤ 1000 := by rw [hq]; exact h
      obtain ⟨z, hz⟩ : ∃ z, cl m.length = z := ⟨_, rfl⟩
      have HS := hid (show seB m = fr m ∧ (fr m).length = z ∧ seE m = 0 by rw [← hz]; exact se_yes hl)
      have HZ := hid HS.out.2.1
      have HF : Hid ((same (fr m) l = true ∧ opB l = m ∧ opE l = 0) ∨ (same (fr m) l = false ∧ opB l = [] ∧ opE l = 80)) := by
        by_cases he : fr m = l
        · have ho : opP l = some m := by rw [opP, hm]; simp [hl, he]
          exact .inl ⟨by simp [same, he], (op_yes ho).1, (op_yes ho).2.2⟩
        · have ho : opP l = none := by rw [opP, hm]; simp [he]
          exact .inr ⟨by simpa [same] using he, (op_no ho).1, (op_no ho).2.2⟩
      clear hm hq hl hz
      go_enter Tryd.func14, Tryd.ntmps14
      go_wp2_with fail
      refine (told_yes A n c l m q hn HM _ hr).mono ?_
      rintro e w1 ⟨A1, c1, rfl, hr1, rfl⟩
      go_wp2_with fail
      refine (seal_of (fr m) z 0 A1 q c1 m HQ HS _ hr1 ht).mono ?_
      rintro e w2 ⟨A2, c2, rfl, hown2, b2⟩
      have hr3 := hown2.rd
      have hr4 := hr.keep b2
      have hr5 := hr1.keep b2
      generalize fr m = F at hr3 HZ HF
      clear hown2 HS ht hr hr1 HM
      go_wp2_with fail
      refine (equal_any A2 z c2 F HZ A n c l hn _ hr3 hr4).mono ?_
      rintro e w3 ⟨rfl, rfl⟩
      generalize hs : same F l = s at HF
      clear hs
      cases s
      · have H : Hid (opB l = [] ∧ opE l = 80) := by
          rcases HF.out with ⟨h1, _⟩ | ⟨_, h2⟩
          · cases h1
          · exact h2
        go_wp2
        go_ret2
        exact ⟨none, 0, by rw [H.out.1, H.out.2]; rfl, by rw [H.out.1]; exact Own.nil _ _ _, b2⟩
      · have H : Hid (opB l = m ∧ opE l = 0) := by
          rcases HF.out with ⟨_, h1⟩ | ⟨h2, _⟩
          · exact h1
          · cases h2
        go_wp2_with fail
        refine (clone_any A1 q c1 m HQ (by omega) _ hr5).mono ?_
        rintro e w4 ⟨A4, c4, rfl, hown4, b4⟩
        go_wp2
        go_ret2
        refine ⟨A4, c4, by rw [H.out.1, H.out.2, HQ.out]; rfl, ?_, b2.trans (b4.mono b2.size)⟩
        rw [H.out.1]
        exact own_base b2.size hown4
    · have H := hid (op_no (l := l) (by rw [opP, hm]; simp [hq, h]))
      have HS := hid (se_no (l := m) (by rw [hq]; exact h))
      clear hm hq h
      go_enter Tryd.func14, Tryd.ntmps14
      go_wp2_with fail
      refine (told_yes A n c l m q hn HM _ hr).mono ?_
      rintro e w1 ⟨A1, c1, rfl, hr1, rfl⟩
      go_wp2_with fail
      refine (seal_of [] 0 4 A1 q c1 m HQ HS _ hr1 ht).mono ?_
      rintro e w2 ⟨A2, c2, rfl, hown2, b2⟩
      go_wp2
      go_ret2
      exact ⟨none, 0, by rw [H.out.1, H.out.2.2]; rfl, by rw [H.out.1]; exact Own.nil _ _ _, b2⟩
end Go.Proofs.YthnjonabofabkaaDoor
