/-
  The contract of the document's own Open of layer 8.
-/
import Derived.Test.YthnjonabofabkaaDoorFrR
import Derived.Deep.RegionHeld
import Derived.Deep.DrawnRows
namespace Go.Proofs.YthnjonabofabkaaDoor
open Go.RowKit
set_option linter.unusedVariables false

theorem refget_of (x y z : Int) (A : Option Addr) (n c : Nat) (l : List UInt8) (hn : Hid (l.length = n)) (h : Hid (gN l = x ∧ gS l = y ∧ gE l = z)) (w : World) (hr : Rd w A c l) :
    Calls Tryd.prog 25 #[.slice A n c] w fun e w' => e = .returned (.tuple #[.int .i64 x, .int .i64 y, .int .i64 z]) ∧ Below w.heap.size w w' := by
  obtain ⟨rfl, rfl, rfl⟩ := h.out
  exact refget_any A n c l hn w hr

/-- What the document's Open finds in bytes whose length is a class. -/
inductive Found (l r : List UInt8) (n : Nat) : Prop
  | none (hg : gN r = 0 ∧ gS r = 0 ∧ gE r = 8) (ho : opB l = [] ∧ opE l = 80)
  | big (q s : Nat) (hg : gN r = q ∧ gS r = s ∧ gE r = 0) (hq : 1000 < q) (ho : opB l = [] ∧ opE l = 80)
  | long (q s : Nat) (hg : gN r = q ∧ gS r = s ∧ gE r = 0) (hq : q ≤ 1000) (hs : n < 1 + s + q) (hs9 : s ≤ 8) (ho : opB l = [] ∧ opE l = 80)
  | some (q s z : Nat) (m F : List UInt8) (hg : gN r = q ∧ gS r = s ∧ gE r = 0) (hq : q ≤ 1000) (hs : 1 + s + q ≤ n) (hs9 : s ≤ 8) (hm : m = (r.drop s).take q ∧ m.length = q) (hF : fr m = F ∧ cl q = z) (hz : F.length = z) (ho : ((F == l) = true ∧ opB l = m ∧ opE l = 0) ∨ ((F == l) = false ∧ opB l = [] ∧ opE l = 80))
theorem found (x : UInt8) (r : List UInt8) (n : Nat) (hn : r.length + 1 = n) : Found (x :: r) r n := by
  match hg : getP r with
  | none =>
    have ho : opP (x :: r) = none := by simp [opP, toP, hg]
    exact .none (getP_none hg) ⟨(op_no ho).1, (op_no ho).2.2⟩
  | some (q, s) =>
    obtain ⟨hq, hs, hsr, htk⟩ := getP_some hg
    have he := enc_bounds hq
    by_cases h1 : 1000 < q
    · have ho : opP (x :: r) = none := by
        simp only [opP, toP, hg]
        split
        · rfl
        · rename_i m hm
          split at hm
          · cases hm
          · rename_i hlen
            injection hm with hm
            rw [if_neg]
            rw [← hm, List.length_take]
            omega
      exact .big q s (getP_of hg) h1 ⟨(op_no ho).1, (op_no ho).2.2⟩
    · by_cases h2 : n < 1 + s + q
      · have ho : opP (x :: r) = none := by
          simp only [opP, toP, hg]
          rw [if_pos (by rw [List.length_drop]; omega)]
        exact .long q s (getP_of hg) (by omega) h2 (by omega) ⟨(op_no ho).1, (op_no ho).2.2⟩
      · have ht : toP (x :: r) = some ((r.drop s).take q) := by
          simp only [toP, hg]
          rw [if_neg (by rw [List.length_drop]; omega)]
        have hml : ((r.drop s).take q).length = q := by rw [List.length_take, List.length_drop]; omega
        refine .some q s (cl q) ((r.drop s).take q) _ (getP_of hg) (by omega) (by omega) (by omega) ⟨rfl, hml⟩ ⟨rfl, rfl⟩ (by rw [fr_length (by omega), hml]) ?_
        by_cases he : fr ((r.drop s).take q) = x :: r
        · have ho : opP (x :: r) = some ((r.drop s).take q) := by
            rw [opP, ht]
            simp only [he, and_true]
            rw [if_pos (by omega)]
          exact .inl ⟨by simpa using he, (op_yes ho).1, (op_yes ho).2.2⟩
        · have ho : opP (x :: r) = none := by
            rw [opP, ht]
            simp only [he, and_false, if_false]
          exact .inr ⟨by simpa using he, (op_no ho).1, (op_no ho).2.2⟩

theorem op_fail {l L : List UInt8} {k : Nat} {j : Int} (hj : opB l = L ∧ L.length = k ∧ opE l = j) (ho : opB l = [] ∧ opE l = 80) : L = [] ∧ k = 0 ∧ j = 80 := by
  obtain ⟨h1, h2, h3⟩ := hj
  rw [ho.1] at h1
  rw [ho.2] at h3
  subst h1
  exact ⟨rfl, h2.symm, h3.symm⟩
theorem op_class {l : List UInt8} {n : Nat} (hn : l.length = n) (h : ¬ (n = 64 ∨ n = 256 ∨ n = 1024)) : opB l = [] ∧ opE l = 80 := by
  have ho : opP l = none := by
    match h1 : opP l with
    | none => rfl
    | some m => exact absurd (by have := opP_long (b := l) (by rw [h1]; simp); rw [hn] at this; exact this) h
  exact ⟨(op_no ho).1, (op_no ho).2.2⟩

set_option maxRecDepth 100000 in
set_option maxHeartbeats 4000000 in
theorem ropen_of (L : List UInt8) (k : Nat) (j : Int) (A : Option Addr) (n c : Nat) (l : List UInt8) (hn : Hid (l.length = n)) (hj : Hid (opB l = L ∧ L.length = k ∧ opE l = j)) (w : World) (hr : Rd w A c l) :
    Calls Tryd.prog 15 #[.slice A n c] w (RetOwn w L k j) := by
  have hc2 : (c : Int) ≤ 9223372036854775807 := by have := hr.cap; omega
  have hc1 : (n : Int) ≤ c := by have := hr.len; have := hn.out; omega
  by_cases hcl : n = 64 ∨ n = 256 ∨ n = 1024
  · have hn64 : (64 : Int) ≤ (n : Int) := by omega
    have hn1024 : (n : Int) ≤ 1024 := by omega
    match l with
    | [] => have := hn.out; simp at this; omega
    | x :: r =>
      obtain ⟨b, o, rfl, hcell⟩ := hr.at_ (by simp)
      have hnl : r.length + 1 = n := hn.out
      have HN := hid (show r.length = n - 1 by omega)
      have hfd := found x r n hnl
      have hr1 := hr.behind 1 (by simp) (A := some ⟨b, o + 1, none⟩) (fun _ => rfl)
      simp only [List.drop_succ_cons, List.drop_zero] at hr1
      have HFD := hid hfd
      have HR := hid hr
      have HNL := hid hnl
      obtain ⟨i0, hi0, hz0, hz1, hz2⟩ := info_parts info_u8
      clear hcell hnl hfd hr
      go_enter Tryd.func15, Tryd.ntmps15
      rcases hcl with hcl | hcl | hcl
      case' inl => have e1 : ((n : Int) != 64) = false := by simp; omega
      case' inr.inl =>
        have e1 : ((n : Int) != 64) = true := by simp; omega
        have e2 : ((n : Int) != 256) = false := by simp; omega
      case' inr.inr =>
        have e1 : ((n : Int) != 64) = true := by simp; omega
        have e2 : ((n : Int) != 256) = true := by simp; omega
        have e3 : ((n : Int) != 1024) = false := by simp; omega
      all_goals
        clear hcl
        go_wp2_with fail
        clear e1
        try clear e2
        try clear e3
        rcases HFD.out with ⟨hg, ho⟩ | ⟨q, s, hg, hq, ho⟩ | ⟨q, s, hg, hq, hs, hs9, ho⟩ | ⟨q, s, z, m, F, hg, hq, hs, hs9, hm, hF, hz, ho⟩
        · have HG := hid hg
          obtain ⟨rfl, rfl, rfl⟩ := op_fail hj.out ho
          clear hg ho hj HFD
          refine (refget_of 0 0 8 _ (n - 1) (c - 1) r HN HG _ hr1).mono ?_
          rintro e w1 ⟨rfl, b1⟩
          go_wp2
          go_ret2
          exact ⟨none, 0, rfl, Own.nil _ _ _, b1⟩
        · have HG := hid hg
          obtain ⟨rfl, rfl, rfl⟩ := op_fail hj.out ho
          have hq1 : (1000 : Int) < (q : Int) := by omega
          clear hg ho hj HFD
          refine (refget_of q s 0 _ (n - 1) (c - 1) r HN HG _ hr1).mono ?_
          rintro e w1 ⟨rfl, b1⟩
          go_wp2
          go_ret2
          exact ⟨none, 0, rfl, Own.nil _ _ _, b1⟩
        · have HG := hid hg
          obtain ⟨rfl, rfl, rfl⟩ := op_fail hj.out ho
          have hq1 : (q : Int) ≤ 1000 := by omega
          have hs1 : (n : Int) < 1 + (s : Int) + (q : Int) := by omega
          have hs2 : (s : Int) ≤ 8 := by omega
          clear hg ho hj HFD
          refine (refget_of q s 0 _ (n - 1) (c - 1) r HN HG _ hr1).mono ?_
          rintro e w1 ⟨rfl, b1⟩
          go_wp2
          go_ret2
          exact ⟨none, 0, rfl, Own.nil _ _ _, b1⟩
        · have HG := hid hg
          have H := hid ho
          have HM := hid hm
          have HF := hid hF
          have HZ := hid hz
          have HML := hid hm.2
          have hq1 : (q : Int) ≤ 1000 := by omega
          have hs1 : 1 + (s : Int) + (q : Int) ≤ (n : Int) := by omega
          have hs2 : (s : Int) ≤ 8 := by omega
          have hsc : ¬ (1 + s = c) := by omega
          have hrb := HR.out.behind (1 + s) (by have := HNL.out; simp; omega) (A := some ⟨b, o + (1 + s), none⟩) (fun _ => rfl)
          rw [show (x :: r).drop (1 + s) = r.drop s by rw [Nat.add_comm]; rfl] at hrb
          have hrm := hrb.take q
          rw [← hm.1] at hrm
          clear hg ho HFD hm hF hz hrb
          refine (refget_of q s 0 _ (n - 1) (c - 1) r HN HG _ hr1).mono ?_
          rintro e w1 ⟨rfl, b1⟩
          clear hr1 HG HN
          replace hrm := hrm.keep b1
          have hrl := HR.out.keep b1
          have HML2 := hid (show m.length = 1 + s + q - (1 + s) by have := HML.out; omega)
          go_wp2_with (at_builtin; refine wpList_append_rd rfl (.const (.slice none 0 0)) (.tmp 50) 23 rfl w.heap.size 5 Tryd.underlying23 hi0 hz0 hz1 hz2 none 0 0 [] (hid rfl) rfl (Own.nil _ _ _) (some ⟨b, o + (1 + s), none⟩) _ _ m HML2 rfl hrm (by omega) b1.size ?_; intro A2 c2 w2 hown2 b2)
          rw [List.nil_append] at hown2
          replace b2 := b1.trans b2
          have hrl2 := HR.out.keep b2
          have hrm2 := hown2.rd
          generalize x :: r = l at hn hrl2 H HR hj
          clear b1 hrm hrl HML2 HM HR
          have hconv : ∀ w' : World, Below w2.heap.size w2 w' → (convert 23 9 (.slice (some ⟨b, o, none⟩) n c)).run Tryd.prog w' = .ok (.string ⟨l.toArray⟩) w' := fun w' h => rd_string hn (hrl2.keep h)
          go_region_held (fun w' => Below w2.heap.size w2 w') (first | assumption | exact (Below.refl _ _).drew | exact below_step (by assumption) hb1) ((go_at_call 21; refine (framed_of z F A2 q c2 m HML hq HF _ (hrm2.keep (by assumption))).mono ?_; rintro e w3 ⟨A3, c3, rfl, hown3, hb1⟩; have s1 := rd_string HZ hown3.rd))
          have hb := b2.trans ((below_step (Below.refl w2.heap.size w2).drew hb1).mono b2.size)
          have hown := (hown2.keep (Below.refl w2.heap.size w2).drew).keep hb1
          generalize hv : (F == l) = v at H
          clear s1 hconv hown3 hrl2 hrm2 hown2
          cases v
          · have ho : opB l = [] ∧ opE l = 80 := by
              rcases H.out with ⟨h1, _⟩ | ⟨_, h2⟩
              · cases h1
              · exact h2
            obtain ⟨rfl, rfl, rfl⟩ := op_fail hj.out ho
            clear H hj ho
            go_wp2
            go_ret2
            exact ⟨none, 0, rfl, Own.nil _ _ _, hb⟩
          · have ho : opB l = m ∧ opE l = 0 := by
              rcases H.out with ⟨_, h1⟩ | ⟨h2, _⟩
              · exact h1
              · cases h2
            have HJ : Hid (m = L ∧ q = k ∧ 0 = j) := by
              obtain ⟨h1, h2, h3⟩ := hj.out
              rw [ho.1] at h1
              rw [ho.2] at h3
              exact ⟨h1, by rw [← h2, ← h1, HML.out], h3⟩
            clear H hj ho
            go_wp2
            go_ret2
            obtain ⟨rfl, rfl, rfl⟩ := HJ.out
            exact ⟨A2, c2, rfl, hown, hb⟩
  · obtain ⟨rfl, rfl, rfl⟩ := op_fail hj.out (op_class hn.out hcl)
    have e1 : ((n : Int) != 64) = true := by simp; omega
    have e2 : ((n : Int) != 256) = true := by simp; omega
    have e3 : ((n : Int) != 1024) = true := by simp; omega
    clear hcl
    go_enter Tryd.func15, Tryd.ntmps15
    go_wp2
    go_ret2
    exact ⟨none, 0, rfl, Own.nil _ _ _, Below.refl _ _⟩
end Go.Proofs.YthnjonabofabkaaDoor
