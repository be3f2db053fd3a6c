/-
  The contracts of slices.Equal (of clearances, of quotas) and of Same.
-/
import Derived.Test.YtmmjciigbmgloaaPoA
namespace Go.Proofs.Ytmmjciigbmgloaa
open Go.RowKit
set_option linter.unusedVariables false
set_option linter.unusedSimpArgs false

def sameCl (x y : Cl) : Bool := sameC x.l x.c x.ok y.l y.c y.ok
def sameQt (x y : Qt) : Bool := sameQ x.l x.c x.o x.p x.k y.l y.c y.o y.p y.k
/-- The first j are the same. -/
def allS {α : Type} (f : α → α → Bool) (z : α) (us vs : List α) : Nat → Bool
  | 0 => true
  | j + 1 => allS f z us vs j && f (us.getD j z) (vs.getD j z)
theorem allS_false {α : Type} {f : α → α → Bool} {z : α} {us vs : List α} {j : Nat} (h : f (us.getD j z) (vs.getD j z) = false) : ∀ n, j < n → allS f z us vs n = false
  | n + 1, hn => by
    rw [allS]
    by_cases e : j = n
    · subst e; rw [h, Bool.and_false]
    · rw [allS_false h n (by omega), Bool.false_and]
def sameUs (us vs : List Cl) : Bool := us.length == vs.length && allS sameCl zC us vs us.length
def sameQs (us vs : List Qt) : Bool := us.length == vs.length && allS sameQt zQ us vs us.length
def sameP (us : List Cl) (qs : List Qt) (g : Int) (vs : List Cl) (rs : List Qt) (h : Int) : Bool := g == h && sameUs us vs && sameQs qs rs

set_option maxRecDepth 100000 in
set_option maxHeartbeats 800000 in
theorem equalC_of (q : Bool) (A : Option Addr) (n c : Nat) (us : List Cl) (A' : Option Addr) (n' c' : Nat) (vs : List Cl) (hn : Hid (us.length = n)) (hn' : Hid (vs.length = n')) (hq : Hid (sameUs us vs = q)) (w : World) (hr : RdC w A c us) (hr' : RdC w A' c' vs) :
    Calls Try.prog 41 #[.slice A n c, .slice A' n' c'] w fun e w' => e = .returned (.bool q) ∧ Below w.heap.size w w' := by
  have hc2 : (c : Int) ≤ 9223372036854775807 := by have := hr.cap; omega
  have hc1 : (n : Int) ≤ c := by have := hr.len; have := hn.out; omega
  have hd2 : (c' : Int) ≤ 9223372036854775807 := by have := hr'.cap; omega
  have hd1 : (n' : Int) ≤ c' := by have := hr'.len; have := hn'.out; omega
  have HR := hid hr
  have HR' := hid hr'
  have hE := neq_clear
  clear hr hr'
  by_cases hnn : n = n'
  · subst hnn
    have HL := hid (show sameUs us vs = allS sameCl zC us vs n by rw [sameUs, hn.out, hn'.out]; simp)
    go_enter Try.func41, Try.ntmps41
    go_wp2
    go_loopw [13] (fun i wr => ∃ (j : Nat), j ≤ n ∧ i = .int .i64 (j : Int) ∧ Hid (allS sameCl zC us vs j = true) ∧ Below w.heap.size w wr) (fun i _ => n - (intOf i).toNat)
    case atStart => exact ⟨0, by omega, rfl, hid rfl, Below.refl _ _⟩
    case round =>
      obtain ⟨j, hj, rfl, hp, hb⟩ := hrel
      by_cases hlt : j < n
      · have hl := hn.out
        have hl' := hn'.out
        obtain ⟨b, o, rfl, hcell⟩ := (HR.out.keep hb).at_ (by omega)
        obtain ⟨b', o', rfl, hcell'⟩ := (HR'.out.keep hb).at_ (by omega)
        obtain ⟨k0, k1, k2, ht⟩ := hcell j (by omega)
        obtain ⟨m0, m1, m2, ht'⟩ := hcell' j (by omega)
        have hs : allS sameCl zC us vs (j + 1) = (allS sameCl zC us vs j && sameCl (us[j]'(by omega)) (vs[j]'(by omega))) := by rw [allS, getD_at us zC j (by omega), getD_at vs zC j (by omega)]
        have hF := fun (h : sameCl (us[j]'(by omega)) (vs[j]'(by omega)) = false) => allS_false (f := sameCl) (z := zC) (us := us) (vs := vs) (j := j) (by rw [getD_at us zC j (by omega), getD_at vs zC j (by omega)]; exact h) n hlt
        generalize us[j]'(by omega) = x at k0 k1 k2 ht hs hF
        generalize vs[j]'(by omega) = y at m0 m1 m2 ht' hs hF
        obtain ⟨x0, x1, x2⟩ := x
        obtain ⟨y0, y1, y2⟩ := y
        have hlt2 : (j : Int) < (n : Int) := by omega
        have HS := hid hs
        have HF := hid hF
        clear hs hF hcell hcell' hl hl' ht ht'
        (have g0 := Past.all k0; have g1 := Past.all k1; have g2 := Past.all k2)
        (have h0 := Past.all m0; have h1 := Past.all m1; have h2 := Past.all m2)
        cases hd : sameC x0 x1 x2 y0 y1 y2
        · have HD := hid hd
          go_wp2_with fail
          refine wp_region_past (by kernel_rfl) (by kernel_rfl) ?_
          repeat (go_big_quiet_step (fail))
          refine wpQuiet_nil ?_
          rintro w4 ⟨⟨_, hx⟩, rfl⟩
          have hB := below_in hb hx
          clear g0 g1 g2 h0 h1 h2 k0 k1 k2 m0 m1 m2
          go_wp2
          go_ret
          exact ⟨ret_bool (by rw [← hq.out, HL.out, HF.out HD.out]), hB⟩
        · have HD := hid hd
          go_wp2_with fail
          refine wp_region_past (by kernel_rfl) (by kernel_rfl) ?_
          repeat (go_big_quiet_step (fail))
          refine wpQuiet_nil ?_
          rintro w4 ⟨⟨_, hx⟩, rfl⟩
          have hB := below_in hb hx
          clear g0 g1 g2 h0 h1 h2 k0 k1 k2 m0 m1 m2
          go_wp2
          go_roundw
          case rel => exact ⟨j + 1, by omega, by go_num, hid (by rw [HS.out, hp.out]; exact HD.out), hB⟩
          case measure => simp [intOf]; omega
      · obtain rfl : j = n := by omega
        go_wp2
        go_ret
        exact ⟨ret_bool (by rw [← hq.out, HL.out, hp.out]), hb⟩
  · have hd : ((n : Int) != (n' : Int)) = true := by simp; omega
    have HL := hid (show q = false by rw [← hq.out, sameUs, hn.out, hn'.out]; simp [hnn])
    clear hnn
    go_enter Try.func41, Try.ntmps41
    go_wp2
    go_ret
    exact ⟨ret_bool HL.out.symm, Below.refl _ _⟩
set_option maxRecDepth 100000 in
set_option maxHeartbeats 800000 in
theorem equalQ_of (q : Bool) (A : Option Addr) (n c : Nat) (us : List Qt) (A' : Option Addr) (n' c' : Nat) (vs : List Qt) (hn : Hid (us.length = n)) (hn' : Hid (vs.length = n')) (hq : Hid (sameQs us vs = q)) (w : World) (hr : RdQ w A c us) (hr' : RdQ w A' c' vs) :
    Calls Try.prog 42 #[.slice A n c, .slice A' n' c'] w fun e w' => e = .returned (.bool q) ∧ Below w.heap.size w w' := by
  have hc2 : (c : Int) ≤ 9223372036854775807 := by have := hr.cap; omega
  have hc1 : (n : Int) ≤ c := by have := hr.len; have := hn.out; omega
  have hd2 : (c' : Int) ≤ 9223372036854775807 := by have := hr'.cap; omega
  have hd1 : (n' : Int) ≤ c' := by have := hr'.len; have := hn'.out; omega
  have HR := hid hr
  have HR' := hid hr'
  have hE := neq_quota
  clear hr hr'
  by_cases hnn : n = n'
  · subst hnn
    have HL := hid (show sameQs us vs = allS sameQt zQ us vs n by rw [sameQs, hn.out, hn'.out]; simp)
    go_enter Try.func42, Try.ntmps42
    go_wp2
    go_loopw [13] (fun i wr => ∃ (j : Nat), j ≤ n ∧ i = .int .i64 (j : Int) ∧ Hid (allS sameQt zQ us vs j = true) ∧ Below w.heap.size w wr) (fun i _ => n - (intOf i).toNat)
    case atStart => exact ⟨0, by omega, rfl, hid rfl, Below.refl _ _⟩
    case round =>
      obtain ⟨j, hj, rfl, hp, hb⟩ := hrel
      by_cases hlt : j < n
      · have hl := hn.out
        have hl' := hn'.out
        obtain ⟨b, o, rfl, hcell⟩ := (HR.out.keep hb).at_ (by omega)
        obtain ⟨b', o', rfl, hcell'⟩ := (HR'.out.keep hb).at_ (by omega)
        obtain ⟨k0, k1, k2, k3, k4, ht⟩ := hcell j (by omega)
        obtain ⟨m0, m1, m2, m3, m4, ht'⟩ := hcell' j (by omega)
        have hs : allS sameQt zQ us vs (j + 1) = (allS sameQt zQ us vs j && sameQt (us[j]'(by omega)) (vs[j]'(by omega))) := by rw [allS, getD_at us zQ j (by omega), getD_at vs zQ j (by omega)]
        have hF := fun (h : sameQt (us[j]'(by omega)) (vs[j]'(by omega)) = false) => allS_false (f := sameQt) (z := zQ) (us := us) (vs := vs) (j := j) (by rw [getD_at us zQ j (by omega), getD_at vs zQ j (by omega)]; exact h) n hlt
        generalize us[j]'(by omega) = x at k0 k1 k2 k3 k4 ht hs hF
        generalize vs[j]'(by omega) = y at m0 m1 m2 m3 m4 ht' hs hF
        obtain ⟨x0, x1, x2, x3, x4⟩ := x
        obtain ⟨y0, y1, y2, y3, y4⟩ := y
        have hlt2 : (j : Int) < (n : Int) := by omega
        have HS := hid hs
        have HF := hid hF
        clear hs hF hcell hcell' hl hl' ht ht'
        (have g0 := Past.all k0; have g1 := Past.all k1; have g2 := Past.all k2; have g3 := Past.all k3; have g4 := Past.all k4)
        (have h0 := Past.all m0; have h1 := Past.all m1; have h2 := Past.all m2; have h3 := Past.all m3; have h4 := Past.all m4)
        cases hd : sameQ x0 x1 x2 x3 x4 y0 y1 y2 y3 y4
        · have HD := hid hd
          go_wp2_with fail
          refine wp_region_past (by kernel_rfl) (by kernel_rfl) ?_
          repeat (go_big_quiet_step (fail))
          refine wpQuiet_nil ?_
          rintro w4 ⟨⟨_, hx⟩, rfl⟩
          have hB := below_in hb hx
          clear g0 g1 g2 g3 g4 h0 h1 h2 h3 h4 k0 k1 k2 k3 k4 m0 m1 m2 m3 m4
          go_wp2
          go_ret
          exact ⟨ret_bool (by rw [← hq.out, HL.out, HF.out HD.out]), hB⟩
        · have HD := hid hd
          go_wp2_with fail
          refine wp_region_past (by kernel_rfl) (by kernel_rfl) ?_
          repeat (go_big_quiet_step (fail))
          refine wpQuiet_nil ?_
          rintro w4 ⟨⟨_, hx⟩, rfl⟩
          have hB := below_in hb hx
          clear g0 g1 g2 g3 g4 h0 h1 h2 h3 h4 k0 k1 k2 k3 k4 m0 m1 m2 m3 m4
          go_wp2
          go_roundw
          case rel => exact ⟨j + 1, by omega, by go_num, hid (by rw [HS.out, hp.out]; exact HD.out), hB⟩
          case measure => simp [intOf]; omega
      · obtain rfl : j = n := by omega
        go_wp2
        go_ret
        exact ⟨ret_bool (by rw [← hq.out, HL.out, hp.out]), hb⟩
  · have hd : ((n : Int) != (n' : Int)) = true := by simp; omega
    have HL := hid (show q = false by rw [← hq.out, sameQs, hn.out, hn'.out]; simp [hnn])
    clear hnn
    go_enter Try.func42, Try.ntmps42
    go_wp2
    go_ret
    exact ⟨ret_bool HL.out.symm, Below.refl _ _⟩

set_option maxRecDepth 100000 in
set_option maxHeartbeats 800000 in
theorem same_of (q : Bool) (A : Option Addr) (n c : Nat) (B : Option Addr) (m d : Nat) (g : Int) (us : List Cl) (qs : List Qt) (A' : Option Addr) (n' c' : Nat) (B' : Option Addr) (m' d' : Nat) (g' : Int) (vs : List Cl) (rs : List Qt) (hq : Hid (sameP us qs g vs rs g' = q)) (w : World) (hp : Pol w A n c B m d g us qs) (hp' : Pol w A' n' c' B' m' d' g' vs rs) :
    Calls Try.prog 21 #[.agg #[.slice A n c, .slice B m d, .int .i64 g], .agg #[.slice A' n' c', .slice B' m' d', .int .i64 g']] w fun e w' => e = .returned (.bool q) ∧ Below w.heap.size w w' := by
  have HP := hid hp
  have HP' := hid hp'
  clear hp hp'
  by_cases hg : g = g'
  · have hgg : (g == g') = true := by simpa using hg
    have HE := hid hg
    clear hg
    cases h1 : sameUs us vs
    · have H1 := hid h1
      have HV := hid (show q = false by rw [← hq.out, sameP, h1, Bool.and_false, Bool.false_and])
      clear h1
      go_enter Try.func21, Try.ntmps21
      go_wp2_with fail
      refine (equalC_of false A n c us A' n' c' vs (hid HP.out.hn) (hid HP'.out.hn) H1 _ (HP.out.hu.keep (by go_grown)) (HP'.out.hu.keep (by go_grown))).mono ?_
      rintro e w1 ⟨rfl, b1⟩
      have hb := past_alloc2 b1
      go_wp2
      go_ret
      exact ⟨ret_bool HV.out.symm, hb⟩
    · have H1 := hid h1
      cases h2 : sameQs qs rs
      · have H2 := hid h2
        have HV := hid (show q = false by rw [← hq.out, sameP, h2, Bool.and_false])
        clear h1 h2
        go_enter Try.func21, Try.ntmps21
        go_wp2_with fail
        refine (equalC_of true A n c us A' n' c' vs (hid HP.out.hn) (hid HP'.out.hn) H1 _ (HP.out.hu.keep (by go_grown)) (HP'.out.hu.keep (by go_grown))).mono ?_
        rintro e w1 ⟨rfl, b1⟩
        (have s0 : w1.cell? ⟨w.heap.size, 0, none⟩ = some (.slice A n c) := (keep b1 (by simp [go_sem])); have s1 : w1.cell? ⟨w.heap.size, 1, none⟩ = some (.slice B m d) := (keep b1 (by simp [go_sem])); have s2 : w1.cell? ⟨w.heap.size, 2, none⟩ = some (.int .i64 g) := (keep b1 (by simp [go_sem])))
        (have t0 : w1.cell? ⟨w.heap.size + 1, 0, none⟩ = some (.slice A' n' c') := (keep b1 (by simp [go_sem])); have t1 : w1.cell? ⟨w.heap.size + 1, 1, none⟩ = some (.slice B' m' d') := (keep b1 (by simp [go_sem])); have t2 : w1.cell? ⟨w.heap.size + 1, 2, none⟩ = some (.int .i64 g') := (keep b1 (by simp [go_sem])))
        have hb := past_alloc2 b1
        clear b1
        go_wp2_with fail
        refine (equalQ_of false B m d qs B' m' d' rs (hid HP.out.hm) (hid HP'.out.hm) H2 _ (HP.out.hq.keep hb) (HP'.out.hq.keep hb)).mono ?_
        rintro e w2 ⟨rfl, b2⟩
        replace hb := below_in hb b2
        go_wp2
        go_ret
        exact ⟨ret_bool HV.out.symm, hb⟩
      · have H2 := hid h2
        have HV := hid (show q = true by rw [← hq.out, sameP, h1, h2, hgg]; rfl)
        clear h1 h2
        go_enter Try.func21, Try.ntmps21
        go_wp2_with fail
        refine (equalC_of true A n c us A' n' c' vs (hid HP.out.hn) (hid HP'.out.hn) H1 _ (HP.out.hu.keep (by go_grown)) (HP'.out.hu.keep (by go_grown))).mono ?_
        rintro e w1 ⟨rfl, b1⟩
        (have s0 : w1.cell? ⟨w.heap.size, 0, none⟩ = some (.slice A n c) := (keep b1 (by simp [go_sem])); have s1 : w1.cell? ⟨w.heap.size, 1, none⟩ = some (.slice B m d) := (keep b1 (by simp [go_sem])); have s2 : w1.cell? ⟨w.heap.size, 2, none⟩ = some (.int .i64 g) := (keep b1 (by simp [go_sem])))
        (have t0 : w1.cell? ⟨w.heap.size + 1, 0, none⟩ = some (.slice A' n' c') := (keep b1 (by simp [go_sem])); have t1 : w1.cell? ⟨w.heap.size + 1, 1, none⟩ = some (.slice B' m' d') := (keep b1 (by simp [go_sem])); have t2 : w1.cell? ⟨w.heap.size + 1, 2, none⟩ = some (.int .i64 g') := (keep b1 (by simp [go_sem])))
        have hb := past_alloc2 b1
        clear b1
        go_wp2_with fail
        refine (equalQ_of true B m d qs B' m' d' rs (hid HP.out.hm) (hid HP'.out.hm) H2 _ (HP.out.hq.keep hb) (HP'.out.hq.keep hb)).mono ?_
        rintro e w2 ⟨rfl, b2⟩
        replace hb := below_in hb b2
        go_wp2
        go_ret
        exact ⟨ret_bool HV.out.symm, hb⟩
  · have hgg : (g == g') = false := by simpa using hg
    have HV := hid (show q = false by rw [← hq.out, sameP, hgg, Bool.false_and, Bool.false_and])
    clear hg
    go_enter Try.func21, Try.ntmps21
    go_wp2
    go_ret
    exact ⟨ret_bool HV.out.symm, by go_grown⟩
end Go.Proofs.Ytmmjciigbmgloaa
