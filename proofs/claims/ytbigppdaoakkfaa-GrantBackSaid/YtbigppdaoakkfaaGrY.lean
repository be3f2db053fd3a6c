/-
  The contract of grant.Put.
-/
import Derived.Test.YtbigppdaoakkfaaGrB
import Derived.Test.YtbigppdaoakkfaaGrR
namespace Go.Proofs.Ytbigppdaoakkfaa
open Go.RowKit
set_option linter.unusedVariables false
set_option linter.unusedSimpArgs false

/-- A grant's bytes. -/
def b8 (b : Bool) : UInt8 := if b then 1 else 0
def gby (u : Nat) (ok : Bool) (a b : Nat) : List UInt8 := [UInt8.ofNat u, b8 ok] ++ (hby a b 0).take 5
theorem gby_length (u : Nat) (ok : Bool) (a b : Nat) : (gby u ok a b).length = 7 := by simp [gby, hby_length]
def pb (x : Gr) : List UInt8 := if mayG x = true then gby x.u.toNat x.ok x.l.toNat x.c.toNat else []
theorem mayG_l {x : Gr} (h : mayG x = true) : mayL x.l = true := by
  rw [mayG, Bool.and_eq_true, clearB, Bool.and_eq_true] at h
  exact h.2.1
theorem bt_b8 (b : Bool) : bt b = ((b8 b).toNat : Int) := by cases b <;> rfl
theorem own_two (w : World) (base g : Nat) (hg : w.heap.size = g) (hb : base ≤ g) (v v' : Int) (b b' : UInt8) (h : Hid (v = (b.toNat : Int))) (h' : Hid (v' = (b'.toNat : Int))) : Own (w.alloc (.cells #[.int .u8 v, .int .u8 v'] 5)) base 5 (some ⟨g, 0, none⟩) 2 [b, b'] := by
  subst hg
  rw [h.out, h'.out]
  exact Own.lit w _ [b, b'] hb (by simp)

set_option maxRecDepth 100000 in
set_option maxHeartbeats 1600000 in
theorem gput_of (L : List UInt8) (m : Nat) (k : Int) (u l c : Int) (b : Bool) (ht : Gr.typed ⟨u, l, c, b⟩) (hL : Hid (pb ⟨u, l, c, b⟩ = L ∧ L.length = m ∧ er (mayG ⟨u, l, c, b⟩) = k)) (w : World) :
    Calls Try.prog 11 #[.agg #[.int .i64 u, .int .u8 l, .int .u32 c, .bool b]] w fun e w' => ∃ A' c', e = .returned (.tuple #[.slice A' m c', .int .i64 k]) ∧ Rd w' A' c' L ∧ Below w.heap.size w w' := by
  cases hq : mayG ⟨u, l, c, b⟩
  · have hx := hL.out
    rw [pb, hq, if_neg (by decide)] at hx
    obtain ⟨rfl, rfl, rfl⟩ := hx
    have HQ := hid hq
    clear hq hL
    go_enter Try.func11, Try.ntmps11
    go_wp2_with fail
    refine (gcheck_of false u l c b ht HQ _).mono ?_
    rintro e w1 ⟨rfl, b1⟩
    have e8 : er false = 8 := rfl
    rw [e8]
    replace b1 := past_alloc b1
    go_wp2
    go_ret2
    exact ⟨none, 0, rfl, Rd.nil _, b1⟩
  · have hx := hL.out
    rw [pb, if_pos hq, hq] at hx
    obtain ⟨rfl, hm, rfl⟩ := hx
    rw [gby_length] at hm
    subst hm
    have HQ := hid hq
    have hu := mayG_u hq
    have hl := mayG_l hq
    have HH : Hid ((if mayH l 0 = true then hby l.toNat c.toNat 0 else []) = hby l.toNat c.toNat 0 ∧ (hby l.toNat c.toNat 0).length = 6 ∧ er (mayH l 0) = 0) := hid (by
      have e : mayH l 0 = true := by rw [mayH, show mayL l = true from hl]; rfl
      rw [e]
      exact ⟨rfl, hby_length _ _ _, rfl⟩)
    have HN := hid (hn_of ht.lab (k := 0) (by omega) (by omega))
    have HU := hid (show u = ((UInt8.ofNat u.toNat).toNat : Int) by rw [ofNat_toNat (by show u.toNat < 256; have := hu.2; simp only at this; omega)]; have := hu.1; simp only at this; omega)
    have HB := hid (bt_b8 b)
    have hu0 : 0 ≤ u := hu.1
    have hu7 : u ≤ 7 := hu.2
    have hw8 : IntKind.u8.wrap u = u := by rw [IntKind.wrap_u8]; omega
    obtain ⟨i0, hi0, hz0, hz1, hz2⟩ := info_parts info_u8
    clear hq hL hu hl
    go_enter Try.func11, Try.ntmps11
    go_wp2_with fail
    refine (gcheck_of true u l c b ht HQ _).mono ?_
    rintro e w1 ⟨rfl, b1⟩
    have e0 : er true = 0 := rfl
    rw [e0]
    (have s0 : w1.cell? ⟨w.heap.size, 0, none⟩ = some (.int .i64 u) := (keep b1 (by simp [go_sem])); have s1 : w1.cell? ⟨w.heap.size, 1, none⟩ = some (.int .u8 l) := (keep b1 (by simp [go_sem])); have s2 : w1.cell? ⟨w.heap.size, 2, none⟩ = some (.int .u32 c) := (keep b1 (by simp [go_sem])); have s3 : w1.cell? ⟨w.heap.size, 3, none⟩ = some (.bool b) := (keep b1 (by simp [go_sem])))
    replace b1 := past_alloc b1
    go_wp2_with fail
    refine (putHandle_of (hby l.toNat c.toNat 0) 6 0 l c 0 l.toNat c.toNat 0 HN HH _).mono ?_
    rintro e w2 ⟨A1, c1, rfl, hr1, b2⟩
    (replace s0 := keep b2 s0; replace s1 := keep b2 s1; replace s2 := keep b2 s2; replace s3 := keep b2 s3)
    replace b1 := below_in b1 b2
    have hc6 : 6 ≤ c1 := by have := hr1.len; rwa [hby_length] at this
    have hcm : (c1 : Int) ≤ 9223372036854775807 := by have := hr1.cap; omega
    clear b2
    have hn6 : Hid ((hby l.toNat c.toNat 0).length = 6) := hid (hby_length _ _ _)
    have hn5 : Hid (((hby l.toNat c.toNat 0).take 5).length = 5) := hid (by rw [List.length_take, hby_length]; rfl)
    have hr5 := hid (hr1.take 5)
    have hc0 : ¬ c1 = 0 := by omega
    clear hr1
    (have q0 := fun w' (h : Below w2.heap.size w2 w') => keep h s0; have q1 := fun w' (h : Below w2.heap.size w2 w') => keep h s1; have q2 := fun w' (h : Below w2.heap.size w2 w') => keep h s2; have q3 := fun w' (h : Below w2.heap.size w2 w') => keep h s3)
    have S0 : Below w2.heap.size w2 w2.drew := (Below.refl _ _).drew
    clear s0 s1 s2 s3
    go_wp2_with fail
    go_region_held_law (fun w' => Below w2.heap.size w2 w') (with_reducible (first | assumption | exact Below.alloc (by assumption) (Below.size (by assumption)) _ | exact Below.trans (Below.alloc (by assumption) (Below.size (by assumption)) _) (by assumption)))
      (first
        | (go_simp; go_at_call 29; refine (okByte_any l c b _).mono ?_; rintro e w3 ⟨rfl, b3⟩; have c3 := below_in (w := w2) (by assumption) b3)
        | (refine step_append_rd rfl (.tmp 29) (.tmp 31) _ (by rfl) w2.heap.size 5 Try.underlying38 hi0 hz0 hz1 hz2 (some ⟨w3.heap.size, 0, none⟩) 2 2 [UInt8.ofNat u.toNat, b8 b] (hid rfl) (by rfl) (own_two w3 w2.heap.size w3.heap.size rfl c3.size u _ _ _ HU HB) A1 5 c1 ((hby l.toNat c.toNat 0).take 5) hn5 (by rfl) (hr5.out.keep (Below.alloc c3 c3.size _)) (by omega) (by exact Nat.le_trans c3.size (by simp)) ?_; intro A' c' w4 ho hb4; have c4 := Below.trans (Below.alloc c3 c3.size _) hb4))
    all_goals
      have hb := below_in b1 c4
      go_simp
      go_wp2
      go_ret2
      exact ⟨A', c', rfl, ho.rd, hb⟩
end Go.Proofs.Ytbigppdaoakkfaa
