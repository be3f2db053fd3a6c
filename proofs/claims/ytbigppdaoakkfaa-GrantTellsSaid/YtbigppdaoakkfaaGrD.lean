/-
  The contract of grant.Run.
-/
import Derived.Test.YtbigppdaoakkfaaGrC
import Derived.Test.YtbigppdaoakkfaaGrE
import Derived.LoopTactic
import Derived.WalkMore
import Derived.Outline
namespace Go.Proofs.Ytbigppdaoakkfaa
open Go.RowKit
set_option linter.unusedVariables false
set_option linter.unusedSimpArgs false

/-- A policy behind grants, the error of each, and the error of all. -/
def ruE (us : List Cl) (qs : List Qt) (g : Int) (l : List Gr) : Int := if rightB us qs g = true then (if 2048 < l.length then 4 else 0) else 8
def ruP (us : List Cl) (qs : List Qt) (g : Int) (l : List Gr) : Pl := if ruE us qs g l = 0 then ⟨(rn us g l l.length).us, qs, (rn us g l l.length).g⟩ else zPl
def ruS (us : List Cl) (qs : List Qt) (g : Int) (l : List Gr) : List Int := if ruE us qs g l = 0 then (rn us g l l.length).es else []

/-- Where the loop stands: the boxes of the policy under way and of the answer. -/
structure RunB (w wr : World) (n m : Nat) (A : Option Addr) (c : Nat) (B : Option Addr) (d : Nat) (g : Int) : Prop where
  box : Box wr w.heap.size A n c B m d g
  f0 : wr.frozen? ⟨w.heap.size, 0, none⟩ = false
  f1 : wr.frozen? ⟨w.heap.size, 1, none⟩ = false
  f2 : wr.frozen? ⟨w.heap.size, 2, none⟩ = false
  z : Box wr (w.heap.size + 1) none 0 0 none 0 0 0
  h0 : wr.frozen? ⟨w.heap.size + 1, 0, none⟩ = false
  h1 : wr.frozen? ⟨w.heap.size + 1, 1, none⟩ = false
  h2 : wr.frozen? ⟨w.heap.size + 1, 2, none⟩ = false
  hb : Below w.heap.size w wr
  lt : w.heap.size + 1 + 1 ≤ wr.heap.size
theorem RunB.keep {w wr w2 : World} {n m : Nat} {A : Option Addr} {c : Nat} {B : Option Addr} {d : Nat} {g : Int} (h : RunB w wr n m A c B d g) (b : Below wr.heap.size wr w2) : RunB w w2 n m A c B d g :=
  ⟨h.box.keep b, keepz b h.box.c0 h.f0, keepz b h.box.c1 h.f1, keepz b h.box.c2 h.f2, h.z.keep b, keepz b h.z.c0 h.h0, keepz b h.z.c1 h.h1, keepz b h.z.c2 h.h2, below_in h.hb b, Nat.le_trans h.lt b.size⟩
/-- What is written from the two boxes on. -/
theorem RunB.keepU {w wr w2 : World} {n m : Nat} {A : Option Addr} {c : Nat} {B : Option Addr} {d : Nat} {g : Int} (h : RunB w wr n m A c B d g) (b : Below (w.heap.size + 1 + 1) wr w2) : RunB w w2 n m A c B d g :=
  ⟨⟨keepB b (by show w.heap.size < _; omega) h.box.c0, keepB b (by show w.heap.size < _; omega) h.box.c1, keepB b (by show w.heap.size < _; omega) h.box.c2⟩, keepzB b (by show w.heap.size < _; omega) h.f0, keepzB b (by show w.heap.size < _; omega) h.f1, keepzB b (by show w.heap.size < _; omega) h.f2,
   ⟨keepB b (by show w.heap.size + 1 < _; omega) h.z.c0, keepB b (by show w.heap.size + 1 < _; omega) h.z.c1, keepB b (by show w.heap.size + 1 < _; omega) h.z.c2⟩, keepzB b (by show w.heap.size + 1 < _; omega) h.h0, keepzB b (by show w.heap.size + 1 < _; omega) h.h1, keepzB b (by show w.heap.size + 1 < _; omega) h.h2, h.hb.trans (b.mono (by omega)), Nat.le_trans h.lt b.size⟩
/-- Another policy laid into the box. -/
def lay3 (wr : World) (T : Nat) (A' : Option Addr) (n' c' : Nat) (B' : Option Addr) (m' d' : Nat) (g' : Int) : World := ((wr.setCell ⟨T, 0, none⟩ (.slice A' n' c')).setCell ⟨T, 1, none⟩ (.slice B' m' d')).setCell ⟨T, 2, none⟩ (.int .i64 g')
theorem RunB.lay {w wr : World} {n m : Nat} {A : Option Addr} {c : Nat} {B : Option Addr} {d : Nat} {g : Int} (h : RunB w wr n m A c B d g) (A' : Option Addr) (n' c' : Nat) (B' : Option Addr) (m' d' : Nat) (g' : Int) :
    RunB w (lay3 wr w.heap.size A' n' c' B' m' d' g') n' m' A' c' B' d' g' := by
  obtain ⟨⟨s0, s1, s2⟩, f0, f1, f2, ⟨t0, t1, t2⟩, h0, h1, h2, hb, lt⟩ := h
  exact ⟨⟨by simp [lay3, go_sem, s0, s1, s2], by simp [lay3, go_sem, s0, s1, s2], by simp [lay3, go_sem, s0, s1, s2]⟩, by simp [lay3, go_sem, f0, f1, f2], by simp [lay3, go_sem, f0, f1, f2], by simp [lay3, go_sem, f0, f1, f2], ⟨by simp [lay3, go_sem, t0, t1, t2], by simp [lay3, go_sem, t0, t1, t2], by simp [lay3, go_sem, t0, t1, t2]⟩, by simp [lay3, go_sem, h0, h1, h2], by simp [lay3, go_sem, h0, h1, h2], by simp [lay3, go_sem, h0, h1, h2], set3 hb (Nat.le_refl _) _ _ _, by simpa [lay3] using lt⟩
theorem Owns.lay {α : Type} {f : α → List Value} {s : Nat} {wr : World} {base : Nat} {t : TypeId} {E : Option Addr} {e : Nat} {es : List α} (h : Owns f s wr base t E e es) {T : Nat} (hT : T < base) (A' : Option Addr) (n' c' : Nat) (B' : Option Addr) (m' d' : Nat) (g' : Int) : Owns f s (lay3 wr T A' n' c' B' m' d' g') base t E e es :=
  ((h.set (a := ⟨T, 0, none⟩) hT _).set (a := ⟨T, 1, none⟩) hT _).set (a := ⟨T, 2, none⟩) hT _

/-- A round's end: an answer laid, or none, and an error appended. -/
theorem round_err {t : TypeId} (ht1 : 34 ≠ t) (ht2 : 67 ≠ t) {w w7 V : World} {n m : Nat} {A : Option Addr} {c : Nat} {B : Option Addr} {d : Nat} {g : Int} {us : List Cl} {qs : List Qt} {E : Option Addr} {j e : Nat} {es : List Int} (hR : RunB w V n m A c B d g) (hC : OwnC V (w.heap.size + 1 + 1) A c us) (hQ : OwnQ V (w.heap.size + 1 + 1) B d qs) (hE : Owns ec 1 V (w.heap.size + 1 + 1) t E e es) (hj : es.length = j) (oE : Obj)
    (hb : Below (w.heap.size + 1 + 1) (V.alloc oE) w7) (hg : (V.alloc oE).grownBy w7 (Value.slice E j e).ownBlock) : RunB w w7 n m A c B d g ∧ OwnC w7 (w.heap.size + 1 + 1) A c us ∧ OwnQ w7 (w.heap.size + 1 + 1) B d qs := by
  have ha : Below V.heap.size V (V.alloc oE) := (Below.refl _ _).alloc (Nat.le_refl _) _
  have hE2 := Owns.keep hE ha
  unfold Owns at hE2
  rw [hj] at hE2
  exact ⟨(hR.keep ha).keepU hb, (hC.keep ha).off ht1 hE2 hg, (hQ.keep ha).off ht2 hE2 hg⟩
theorem round_ok {t : TypeId} (ht1 : 34 ≠ t) (ht2 : 67 ≠ t) {w w5 w7 : World} {n m : Nat} {A : Option Addr} {c : Nat} {B : Option Addr} {d : Nat} {g : Int} (hR : RunB w w5 n m A c B d g) {n' m' : Nat} {A' : Option Addr} {c' : Nat} {B' : Option Addr} {d' : Nat} {g' : Int} {us : List Cl} {qs : List Qt} {E : Option Addr} {j e : Nat} {es : List Int} (hC : OwnC w5 (w.heap.size + 1 + 1) A' c' us) (hQ : OwnQ w5 (w.heap.size + 1 + 1) B' d' qs) (hE : Owns ec 1 w5 (w.heap.size + 1 + 1) t E e es) (hj : es.length = j) (oP oE : Obj)
    (hb : Below (w.heap.size + 1 + 1) ((lay3 (w5.alloc oP) w.heap.size A' n' c' B' m' d' g').alloc oE) w7) (hg : ((lay3 (w5.alloc oP) w.heap.size A' n' c' B' m' d' g').alloc oE).grownBy w7 (Value.slice E j e).ownBlock) : RunB w w7 n' m' A' c' B' d' g' ∧ OwnC w7 (w.heap.size + 1 + 1) A' c' us ∧ OwnQ w7 (w.heap.size + 1 + 1) B' d' qs := by
  have ha : Below w5.heap.size w5 (w5.alloc oP) := (Below.refl _ _).alloc (Nat.le_refl _) _
  exact round_err ht1 ht2 ((hR.keep ha).lay A' n' c' B' m' d' g') ⟨(hC.keep ha).1.lay (by omega) _ _ _ _ _ _ _, hC.2⟩ ⟨(hQ.keep ha).1.lay (by omega) _ _ _ _ _ _ _, hQ.2⟩ ((Owns.keep hE ha).lay (by omega) _ _ _ _ _ _ _) hj oE hb hg

set_option maxRecDepth 100000 in
set_option maxHeartbeats 2000000 in
theorem run_of (v : Pl) (es : List Int) (k : Int) (n' m' t' : Nat) (A : Option Addr) (n c : Nat) (B : Option Addr) (m d : Nat) (g : Int) (us : List Cl) (qs : List Qt) (G : Option Addr) (p q : Nat) (l : List Gr)
    (hv : Hid (ruP us qs g l = v ∧ ruS us qs g l = es ∧ ruE us qs g l = k ∧ v.us.length = n' ∧ v.qs.length = m' ∧ es.length = t')) (w : World) (hp : Pol w A n c B m d g us qs) (hl : Grs w G p q l) :
    Calls Try.prog 13 #[.agg #[.slice A n c, .slice B m d, .int .i64 g], .slice G p q] w fun e w' => ∃ A' c' B' d' E e', e = .returned (.tuple #[.agg #[.slice A' n' c', .slice B' m' d', .int .i64 (v.g)], .slice E t' e', .int .i64 k]) ∧ OwnC w' w.heap.size A' c' v.us ∧ OwnQ w' w.heap.size B' d' v.qs ∧ RdE w' E e' es ∧ Below w.heap.size w w' := by
  have hn := hp.hn
  have hm := hp.hm
  have HP := hid hp
  have HL := hid hl
  have hc2 : (q : Int) ≤ 9223372036854775807 := by have := hl.hr.cap; omega
  have hc1 : (p : Int) ≤ q := by have := hl.hr.len; have := hl.hn; omega
  obtain ⟨i0, hi0, hz0, hz1, hz2⟩ := info_parts info_E
  cases hq : rightB us qs g
  · have he : ruE us qs g l = 8 := by rw [ruE, if_neg (by simp [hq])]
    have hx := hv.out
    rw [ruP, ruS, he, if_neg (by decide), if_neg (by decide)] at hx
    obtain ⟨rfl, rfl, rfl, rfl, rfl, rfl⟩ := hx
    have HQ := hid hq
    clear hq hv he hn hm hp hl
    go_enter Try.func13, Try.ntmps13
    go_wp2_with fail
    refine (check_of false A n c B m d g us qs HQ _ (HP.out.keep (show Below w.heap.size w _ by go_grown))).mono ?_
    rintro e w1 ⟨rfl, b1⟩
    have e8 : er false = 8 := rfl
    rw [e8]
    (have s0 : w1.cell? ⟨w.heap.size + 1, 0, none⟩ = some (.slice none 0 0) := (keep b1 (by simp [go_sem])); have s1 : w1.cell? ⟨w.heap.size + 1, 1, none⟩ = some (.slice none 0 0) := (keep b1 (by simp [go_sem])); have s2 : w1.cell? ⟨w.heap.size + 1, 2, none⟩ = some (.int .i64 0) := (keep b1 (by simp [go_sem])))
    (have f0 : w1.frozen? ⟨w.heap.size + 1, 0, none⟩ = false := (keepz b1 (v := .slice none 0 0) (by simp [go_sem]) (by simp [go_sem])); have f1 : w1.frozen? ⟨w.heap.size + 1, 1, none⟩ = false := (keepz b1 (v := .slice none 0 0) (by simp [go_sem]) (by simp [go_sem])); have f2 : w1.frozen? ⟨w.heap.size + 1, 2, none⟩ = false := (keepz b1 (v := .int .i64 0) (by simp [go_sem]) (by simp [go_sem])))
    replace b1 := past_alloc2 b1
    go_wp2
    exact bodyPost_ret (v := .tuple #[.agg #[.slice none 0 0, .slice none 0 0, .int .i64 0], .slice none 0 0, .int .i64 8]) (by simp [results, Try.results13, go_sem, s0, s1, s2]) rfl ⟨none, 0, none, 0, none, 0, rfl, OwnC.nil _ _, OwnQ.nil _ _, Rds.nil _, set3 b1 (by omega) _ _ _⟩
  · have HQ := hid hq
    have hr := right_lens hq
    by_cases hp2 : 2048 < p
    · have he : ruE us qs g l = 4 := by rw [ruE, if_pos hq, if_pos (by rw [hl.hn]; exact hp2)]
      have hx := hv.out
      rw [ruP, ruS, he, if_neg (by decide), if_neg (by decide)] at hx
      obtain ⟨rfl, rfl, rfl, rfl, rfl, rfl⟩ := hx
      have d1 : decide (2048 < (p : Int)) = true := decide_eq_true (by omega)
      clear hq hv he hn hm hp hl hp2
      go_enter Try.func13, Try.ntmps13
      go_wp2_with fail
      refine (check_of true A n c B m d g us qs HQ _ (HP.out.keep (show Below w.heap.size w _ by go_grown))).mono ?_
      rintro e w1 ⟨rfl, b1⟩
      have e0 : er true = 0 := rfl
      rw [e0]
      (have s0 : w1.cell? ⟨w.heap.size + 1, 0, none⟩ = some (.slice none 0 0) := (keep b1 (by simp [go_sem])); have s1 : w1.cell? ⟨w.heap.size + 1, 1, none⟩ = some (.slice none 0 0) := (keep b1 (by simp [go_sem])); have s2 : w1.cell? ⟨w.heap.size + 1, 2, none⟩ = some (.int .i64 0) := (keep b1 (by simp [go_sem])))
      (have f0 : w1.frozen? ⟨w.heap.size + 1, 0, none⟩ = false := (keepz b1 (v := .slice none 0 0) (by simp [go_sem]) (by simp [go_sem])); have f1 : w1.frozen? ⟨w.heap.size + 1, 1, none⟩ = false := (keepz b1 (v := .slice none 0 0) (by simp [go_sem]) (by simp [go_sem])); have f2 : w1.frozen? ⟨w.heap.size + 1, 2, none⟩ = false := (keepz b1 (v := .int .i64 0) (by simp [go_sem]) (by simp [go_sem])))
      replace b1 := past_alloc2 b1
      go_wp2
      exact bodyPost_ret (v := .tuple #[.agg #[.slice none 0 0, .slice none 0 0, .int .i64 0], .slice none 0 0, .int .i64 4]) (by simp [results, Try.results13, go_sem, s0, s1, s2]) rfl ⟨none, 0, none, 0, none, 0, rfl, OwnC.nil _ _, OwnQ.nil _ _, Rds.nil _, set3 b1 (by omega) _ _ _⟩
    · have he : ruE us qs g l = 0 := by rw [ruE, if_pos hq, if_neg (by rw [hl.hn]; exact hp2)]
      have hx := hv.out
      rw [ruP, ruS, he, if_pos rfl, if_pos rfl] at hx
      obtain ⟨rfl, rfl, rfl, hn', hm', ht'⟩ := hx
      simp only [(rn_length us g l l.length).1, (rn_length us g l l.length).2] at hn' ht'
      have HN := hid (hn'.symm.trans hn)
      have HM := hid (hm'.symm.trans hm)
      have HT := hid (ht'.symm.trans hl.hn)
      obtain rfl := HN.out
      obtain rfl := HM.out
      obtain rfl := HT.out
      have d1 : decide (2048 < (t' : Int)) = false := decide_eq_false (by omega)
      have hn8 : n' ≤ 100 := by omega
      have hm8 : m' ≤ 100 := by omega
      have ht8 : t' ≤ 2048 := by omega
      have hg64 := HP.out.hg
      have HLn := hid hl.hn
      have HUn := hid hn
      have HQn := hid hm
      have RG := hid (rn_g us g l hr.2.2.1)
      have RL := hid (rn_length us g l)
      clear hq hv he hn hm hn' hm' ht' hp hl
      go_enter Try.func13, Try.ntmps13
      go_wp2_with fail
      refine (check_of true A n' c B m' d g us qs HQ _ (HP.out.keep (show Below w.heap.size w _ by go_grown))).mono ?_
      rintro e w1 ⟨rfl, b1⟩
      have e0 : er true = 0 := rfl
      rw [e0]
      (have p0 : w1.cell? ⟨w.heap.size, 0, none⟩ = some (.slice A n' c) := (keep b1 (by simp [go_sem])); have p1 : w1.cell? ⟨w.heap.size, 1, none⟩ = some (.slice B m' d) := (keep b1 (by simp [go_sem])); have p2 : w1.cell? ⟨w.heap.size, 2, none⟩ = some (.int .i64 g) := (keep b1 (by simp [go_sem])))
      (have f0 : w1.frozen? ⟨w.heap.size, 0, none⟩ = false := (keepz b1 (v := .slice A n' c) (by simp [go_sem]) (by simp [go_sem])); have f1 : w1.frozen? ⟨w.heap.size, 1, none⟩ = false := (keepz b1 (v := .slice B m' d) (by simp [go_sem]) (by simp [go_sem])); have f2 : w1.frozen? ⟨w.heap.size, 2, none⟩ = false := (keepz b1 (v := .int .i64 g) (by simp [go_sem]) (by simp [go_sem])))
      (have s0 : w1.cell? ⟨w.heap.size + 1, 0, none⟩ = some (.slice none 0 0) := (keep b1 (by simp [go_sem])); have s1 : w1.cell? ⟨w.heap.size + 1, 1, none⟩ = some (.slice none 0 0) := (keep b1 (by simp [go_sem])); have s2 : w1.cell? ⟨w.heap.size + 1, 2, none⟩ = some (.int .i64 0) := (keep b1 (by simp [go_sem])))
      (have k0 : w1.frozen? ⟨w.heap.size + 1, 0, none⟩ = false := (keepz b1 (v := .slice none 0 0) (by simp [go_sem]) (by simp [go_sem])); have k1 : w1.frozen? ⟨w.heap.size + 1, 1, none⟩ = false := (keepz b1 (v := .slice none 0 0) (by simp [go_sem]) (by simp [go_sem])); have k2 : w1.frozen? ⟨w.heap.size + 1, 2, none⟩ = false := (keepz b1 (v := .int .i64 0) (by simp [go_sem]) (by simp [go_sem])))
      have hz1' : w.heap.size + 1 + 1 ≤ w1.heap.size := by have := b1.size; simpa using this
      replace b1 := past_alloc2 b1
      go_wp2_with fail
      refine (twin_of A n' c B m' d g us qs (by omega) (by omega) _ (HP.out.keep b1)).mono ?_
      rintro e w2 ⟨A', c', B', d', rfl, hoc, hoq, b2⟩
      (replace k0 := keepz b2 s0 k0; replace k1 := keepz b2 s1 k1; replace k2 := keepz b2 s2 k2)
      (replace s0 := keep b2 s0; replace s1 := keep b2 s1; replace s2 := keep b2 s2)
      (replace f0 := keepz b2 p0 f0; replace f1 := keepz b2 p1 f1; replace f2 := keepz b2 p2 f2)
      (replace p0 := keep b2 p0; replace p1 := keep b2 p1; replace p2 := keep b2 p2)
      replace b1 := below_in b1 b2
      have hz2' := Nat.le_trans hz1' b2.size
      clear b2
      have RS := hid ((⟨⟨p0, p1, p2⟩, f0, f1, f2, ⟨s0, s1, s2⟩, k0, k1, k2, b1, hz2'⟩ : RunB w w2 n' m' A c B d g).lay A' n' c' B' m' d' g)
      have OC := hid (OwnC.mono (⟨hoc.1.lay (T := w.heap.size) (by omega) A' n' c' B' m' d' g, hoc.2⟩ : OwnC _ _ _ _ _) (base' := w.heap.size + 1 + 1) (by omega))
      have OQ := hid (OwnQ.mono (⟨hoq.1.lay (T := w.heap.size) (by omega) A' n' c' B' m' d' g, hoq.2⟩ : OwnQ _ _ _ _ _) (base' := w.heap.size + 1 + 1) (by omega))
      clear hoc hoq k0 k1 k2
      go_wp2_with fail
      clear s0 s1 s2 p0 p1 p2 f0 f1 f2 b1
      go_loopw [8, 27] (fun o i wr => ∃ (j : Nat) (E : Option Addr) (e : Nat) (A : Option Addr) (c : Nat) (B : Option Addr) (d : Nat) (s : St), j ≤ t' ∧ i = .int .i64 (j : Int) ∧ o = .slice E j e ∧ Hid (rn us g l j = s) ∧ RunB w wr n' m' A c B d s.g ∧ OwnC wr (w.heap.size + 1 + 1) A c s.us ∧ OwnQ wr (w.heap.size + 1 + 1) B d qs ∧ OwnE wr (w.heap.size + 1 + 1) E e s.es) (fun _ i _ => t' - (intOf i).toNat)
      case atStart => exact ⟨0, none, 0, A', c', B', d', ⟨us, g, []⟩, by omega, rfl, rfl, hid rfl, RS.out, OC.out, OQ.out, Owns.nil _ _ _⟩
      case round =>
        obtain ⟨j, E, e, A, c, B, d, s, hj, rfl, rfl, hs, hR, hC, hQ9, hE⟩ := hrel
        have hg0 := RG.out j
        rw [hs.out] at hg0
        have hul := RL.out j
        rw [hs.out] at hul
        have hs1 : rn us g l (j + 1) = ⟨stU s.us s.g (l.getD j zG), stG s.us s.g (l.getD j zG), s.es ++ [stE s.us s.g (l.getD j zG)]⟩ := by rw [rn, hs.out]
        by_cases hlt : j < t'
        · obtain ⟨b, o, rfl, hcell⟩ := (HL.out.keep hR.hb).hr.at_ (by have := HLn.out; omega)
          obtain ⟨x0, x1, x2, x3, hty⟩ := hcell j (by have := HLn.out; omega)
          rw [getD_at l zG j (by have := HLn.out; omega)] at hs1
          generalize l[j]'(by have := HLn.out; omega) = y at x0 x1 x2 x3 hty hs1
          obtain ⟨u, l0, l1, ok⟩ := y
          have hlt2 : (j : Int) < (t' : Int) := by omega
          have HS1 := hid hs1
          have HTY := hid hty
          have HPL : Pol wr A n' c B m' d s.g s.us qs := ⟨hul.1.trans HUn.out, HQn.out, hC.rd, hQ9.rd, by have := hg64.2; exact ⟨by omega, by omega⟩⟩
          have HPH := hid HPL
          have HJ := hid hul.2
          clear hcell hs1 hty HPL hul
          by_cases he : stE s.us s.g ⟨u, l0, l1, ok⟩ = 0
          · have HE := hid he
            clear he
            obtain ⟨s0, s1, s2⟩ := hR.box
            (replace s0 := fun o => keepa s0 o; replace s1 := fun o => keepa s1 o; replace s2 := fun o => keepa s2 o)
            go_wp2_with fail
            refine (come_ok A n' c B m' d s.g s.us qs u l0 l1 ok HTY.out HE hn8 hm8 hg0.1 _ (HPH.out.keep ((Below.refl _ _).alloc (Nat.le_refl _) _))).mono ?_
            rintro e w4 ⟨A4, c4, B4, d4, rfl, hoc, hoq, b4⟩
            have hz4 : wr.heap.size + 1 ≤ w4.heap.size := by have := b4.size; simpa using this
            have hwr := hR.lt
            replace hoc := hoc.mono (base' := w.heap.size + 1 + 1) (by simp; omega)
            replace hoq := hoq.mono (base' := w.heap.size + 1 + 1) (by simp; omega)
            replace b4 := past_alloc b4
            clear s0 s1 s2
            replace hR := hR.keep b4
            replace hE := Owns.keep hE b4
            clear b4 x0 x1 x2 x3 hC hQ9
            go_wp2_with fail
            refine (tell_pol A4 n' c4 B4 m' d4 (s.g - 1) _).mono ?_
            rintro e w5 ⟨rfl, b5⟩
            replace hR := hR.keep b5
            replace hE := Owns.keep hE b5
            replace hoc := hoc.keep b5
            replace hoq := hoq.keep b5
            have hz5 := b5.size
            have hR5 := hid hR
            have OC5 := hid hoc
            have OQ5 := hid hoq
            have OE5 := hid hE
            have hz5' : w.heap.size + 1 + 1 ≤ w5.heap.size := hR.lt
            have hE6 := hid (fun o => (Owns.keep hE ((Below.refl _ w5).alloc (Nat.le_refl _) o)).lay (T := w.heap.size) (by omega) A4 n' c4 B4 m' d4 (s.g - 1))
            have s0 := fun o => keepa hR.box.c0 o
            have s1 := fun o => keepa hR.box.c1 o
            have s2 := fun o => keepa hR.box.c2 o
            have f0 := fun o => keepfa hR.box.c0 hR.f0 o
            have f1 := fun o => keepfa hR.box.c1 hR.f1 o
            have f2 := fun o => keepfa hR.box.c2 hR.f2 o
            clear b5 hR hoc hoq hE
            have HG1 := hid (show (⟨stU s.us s.g ⟨u, l0, l1, ok⟩, stG s.us s.g ⟨u, l0, l1, ok⟩, s.es ++ [stE s.us s.g ⟨u, l0, l1, ok⟩]⟩ : St) = ⟨s.us.set u.toNat ⟨l0, l1, ok⟩, s.g - 1, s.es ++ [0]⟩ by rw [stU, stG, HE.out, if_pos rfl, if_pos rfl]; rfl)
            go_wp2_with (at_builtin; refine wpList_append_g rfl (.tmp 41) (.tmp 43) _ rfl (w.heap.size + 1 + 1) 26 ec_length (by omega) ec_one Try.underlying43 hi0 hz0 rfl hz1 hz2 (by omega) E j e s.es HJ rfl (Owns.keep (hE6.out _) ((Below.refl _ _).alloc (Nat.le_refl _) _)) (some ⟨w5.heap.size + 1, 0, none⟩) 1 1 [0] (hid rfl) rfl (lit_e1 _ _ (by simp) 0) (by omega) (by simp; omega) ?_; intro E' e' w7 hE7 hb7 hg7)
            go_roundw
            case rel =>
              obtain ⟨r1, r2, r3⟩ := round_ok (t := 26) (by decide) (by decide) (n' := n') (m' := m') (g' := s.g - 1) hR5.out OC5.out OQ5.out OE5.out HJ.out _ _ hb7 hg7
              exact ⟨j + 1, E', e', A4, c4, B4, d4, ⟨s.us.set u.toNat ⟨l0, l1, ok⟩, s.g - 1, s.es ++ [0]⟩, by omega, by go_num, rfl, hid (by rw [HS1.out, HG1.out]), r1, r2, r3, hE7⟩
            case measure => simp [intOf]; omega
          · obtain ⟨k, hk⟩ : ∃ k, stE s.us s.g ⟨u, l0, l1, ok⟩ = k := ⟨_, rfl⟩
            have HE := hid (show stE s.us s.g ⟨u, l0, l1, ok⟩ = k ∧ k ≠ 0 from ⟨hk, fun h => he (hk.trans h)⟩)
            have HG1 := hid (show (⟨stU s.us s.g ⟨u, l0, l1, ok⟩, stG s.us s.g ⟨u, l0, l1, ok⟩, s.es ++ [stE s.us s.g ⟨u, l0, l1, ok⟩]⟩ : St) = ⟨s.us, s.g, s.es ++ [k]⟩ by rw [stU, stG, if_neg he, if_neg he, hk])
            clear he hk
            have hk0 : (k == 0) = false := by have := HE.out.2; simp [this]
            obtain ⟨s0, s1, s2⟩ := hR.box
            (replace s0 := fun o => keepa s0 o; replace s1 := fun o => keepa s1 o; replace s2 := fun o => keepa s2 o)
            go_wp2_with fail
            refine (come_err k A n' c B m' d s.g s.us qs u l0 l1 ok HTY.out HE _ (HPH.out.keep ((Below.refl _ _).alloc (Nat.le_refl _) _))).mono ?_
            rintro e w4 ⟨rfl, b4⟩
            replace b4 := past_alloc b4
            clear s0 s1 s2
            replace hR := hR.keep b4
            replace hE := Owns.keep hE b4
            replace hC := hC.keep b4
            replace hQ9 := hQ9.keep b4
            clear b4 x0 x1 x2 x3
            go_wp2_with fail
            refine (tell_err k _).mono ?_
            rintro e w5 ⟨rfl, b5⟩
            replace hR := hR.keep b5
            replace hE := Owns.keep hE b5
            replace hC := hC.keep b5
            replace hQ9 := hQ9.keep b5
            have hz5' : w.heap.size + 1 + 1 ≤ w5.heap.size := hR.lt
            clear b5
            have hR6 := hid (fun o => hR.keep ((Below.refl _ w5).alloc (Nat.le_refl _) o))
            have hE6 := hid (fun o => (Owns.keep hE ((Below.refl _ w5).alloc (Nat.le_refl _) o)))
            have hC6 := hid (fun o => (hC.keep ((Below.refl _ w5).alloc (Nat.le_refl _) o)))
            have hQ6 := hid (fun o => (hQ9.keep ((Below.refl _ w5).alloc (Nat.le_refl _) o)))
            clear hR hE hC hQ9
            go_wp2_with (at_builtin; refine wpList_append_g rfl (.tmp 41) (.tmp 43) _ rfl (w.heap.size + 1 + 1) 26 ec_length (by omega) ec_one Try.underlying43 hi0 hz0 rfl hz1 hz2 (by omega) E j e s.es HJ rfl (Owns.keep (hE6.out _) ((Below.refl _ _).alloc (Nat.le_refl _) _)) (some ⟨w5.heap.size + 1, 0, none⟩) 1 1 [k] (hid rfl) rfl (lit_e1 _ _ (by simp) k) (by omega) (by simp; omega) ?_; intro E' e' w7 hE7 hb7 hg7)
            go_roundw
            case rel =>
              obtain ⟨r1, r2, r3⟩ := round_err (t := 26) (by decide) (by decide) (hR6.out _) (hC6.out _) (hQ6.out _) (hE6.out _) HJ.out _ hb7 hg7
              exact ⟨j + 1, E', e', A, c, B, d, ⟨s.us, s.g, s.es ++ [k]⟩, by omega, by go_num, rfl, hid (by rw [HS1.out, HG1.out]), r1, r2, r3, hE7⟩
            case measure => simp [intOf]; omega
        · obtain rfl : j = t' := by omega
          have hlt2 : ¬ (j : Int) < (j : Int) := by omega
          obtain ⟨s0, s1, s2⟩ := hR.box
          obtain ⟨z0, z1, z2⟩ := hR.z
          have h0 := hR.h0
          have h1 := hR.h1
          have h2 := hR.h2
          have HSL := hid (show rn us g l l.length = s by rw [HLn.out]; exact hs.out)
          clear hs1
          go_wp2
          rw [HSL.out]
          exact bodyPost_ret (v := .tuple #[.agg #[.slice A n' c, .slice B m' d, .int .i64 (s.g)], .slice E j e, .int .i64 0]) (by simp [results, Try.results13, go_sem, s0, s1, s2, z0, z1, z2]) rfl ⟨A, c, B, d, E, e, rfl, OwnC.mono (((hC.set (by show w.heap.size + 1 < _; omega) _).set (by show w.heap.size + 1 < _; omega) _).set (by show w.heap.size + 1 < _; omega) _) (by omega), OwnQ.mono (((hQ9.set (by show w.heap.size + 1 < _; omega) _).set (by show w.heap.size + 1 < _; omega) _).set (by show w.heap.size + 1 < _; omega) _) (by omega), (((Owns.set hE (by show w.heap.size + 1 < _; omega) _).set (by show w.heap.size + 1 < _; omega) _).set (by show w.heap.size + 1 < _; omega) _).rd ec_length, set3 hR.hb (by omega) _ _ _⟩
end Go.Proofs.Ytbigppdaoakkfaa
