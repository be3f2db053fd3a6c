/-
  Grants: words, Check, Put, Get (stage 7).
-/
import Derived.Test.YtndmblhkmgnpcaaGreatPB
import Derived.Test.YtndmblhkmgnpcaaGreatIQ
import Derived.BigRegion
namespace Go.Proofs.YtndmblhkmgnpcaaGreat
open Go.RowKit Go.ChangeShapes Go.WideShapes Go.ChangeAt
set_option maxRecDepth 100000
set_option linter.unusedVariables false
set_option linter.unusedSimpArgs false

/-- A grant's numbers. -/
structure Gr where
  u : Int
  l : Int
  c : Int
  ok : Bool
def Gr.cs (x : Gr) : List Value := [.int .i64 x.u, .int .u8 x.l, .int .u32 x.c, .bool x.ok]
theorem Gr.cs_length (x : Gr) : x.cs.length = 4 := rfl
theorem Gr.cs_one (x : Gr) : ∀ u ∈ x.cs, u.oneCell' = true := fun u hu => by
  simp only [Gr.cs, List.mem_cons, List.not_mem_nil, or_false] at hu
  rcases hu with rfl | rfl | rfl | rfl <;> rfl
structure Gr.typed (x : Gr) : Prop where
  u : In64 x.u
  lab : Lab x.l x.c
def Gr.cl (x : Gr) : Cl := ⟨x.l, x.c, x.ok⟩
def zG : Gr := ⟨0, 0, 0, false⟩

/-! ### What comes in -/
theorem cells_G : Tryz.prog.cellsOf 38 = 4 := by kernel_rfl
section
variable {H : Type} {enc : TypeId × Value → H} {W : World} {base : Nat} {spare : Nat → Bool} {held : Bool}
theorem trod_grant {fuel : Nat} {cs : List Value} {x : DataW H × List MemPlace} (h : DataW.trod enc Tryz.prog W base spare held fuel 38 cs = some x) : ∃ y : Gr, cs = y.cs ∧ y.typed := by
  obtain ⟨xs, fu, rfl, hx, hlen, hl, hf⟩ := DataW.trod_struct Tryz.underlying38 h
  have h0 := hf 0 _ rfl
  have h1 := hf 1 _ rfl
  rw [cells_G] at hlen
  match xs, hl with
  | [y0, y1], _ =>
    obtain ⟨u, e0, rfl, w1⟩ := DataW.trod_int Tryz.underlying3 h0
    obtain ⟨y, e1, hlab⟩ := trod_clear h1
    replace e0 : (cs.drop 0).take 1 = [.int .i64 u] := by rw [← cells_int]; exact e0
    replace e1 : (cs.drop 1).take 3 = y.cs := by rw [← cells_C]; exact e1
    match cs, hlen with
    | [c0, c1, c2, c3], _ =>
      obtain ⟨y0, y1, y2⟩ := y
      simp [Cl.cs] at e0 e1
      obtain ⟨rfl, rfl, rfl⟩ := e1
      subst e0
      have b1 := bounds_i64 w1
      have i1 : In64 u := ⟨by omega, by omega⟩
      exact ⟨⟨u, y0, y1, y2⟩, rfl, i1, hlab⟩
end
section
variable {H : Type} {enc : TypeId × Value → H} {W : World} {base b0 : Nat} {spare : Nat → Bool} {held : Bool} {v : Value} {d : DataW H} {p : List MemPlace} {r : Reach}
theorem open_grant (hv : Value.okWide Tryz.prog W r b0 38 v) (h : DataW.Trod enc Tryz.prog W base spare held 38 v d p) : ∃ (u l c : Int) (b : Bool), v = .agg #[.int .i64 u, .int .u8 l, .int .u32 c, .bool b] ∧ Gr.typed ⟨u, l, c, b⟩ := by
  obtain ⟨cs, rfl, hsz⟩ := okWide_struct Tryz.underlying38 hv
  obtain ⟨fuel, hf⟩ := h
  obtain ⟨y, e, hi⟩ := trod_grant hf
  refine ⟨y.u, y.l, y.c, y.ok, ?_, hi⟩
  obtain ⟨cs⟩ := cs
  simp only [Value.cells] at e
  rw [e]
  rfl
end

/-! ### What comes of a grant -/
def mayG (x : Gr) : Bool := inR x.u 7 && clearB x.cl
end Go.Proofs.YtndmblhkmgnpcaaGreat
namespace Go.Proofs.YtndmblhkmgnpcaaGreat
open Go.RowKit
set_option linter.unusedVariables false
set_option linter.unusedSimpArgs false

theorem right_one (x : Cl) : rightB [x] [] 0 = clearB x := by
  simp [rightB, usersB, quotasB, okU, okQ, inR, smB, smC]

set_option maxRecDepth 100000 in
set_option maxHeartbeats 800000 in
theorem gcheck_of (q : Bool) (u l c : Int) (b : Bool) (ht : Gr.typed ⟨u, l, c, b⟩) (hq : Hid (mayG ⟨u, l, c, b⟩ = q)) (w : World) :
    Calls Tryz.prog 63 #[.agg #[.int .i64 u, .int .u8 l, .int .u32 c, .bool b]] w fun e w' => e = .returned (.int .i64 (er q)) ∧ Below w.heap.size w w' := by
  by_cases h0 : u < 0
  · have d1 : decide (u < 0) = true := decide_eq_true h0
    have HV := hid (show q = false by rw [← hq.out, mayG, inR, decide_eq_false (by show ¬ (0 ≤ u ∧ u ≤ 7); omega), Bool.false_and])
    clear h0 hq
    go_enter Tryz.func63, Tryz.ntmps63
    go_wp2
    go_ret
    exact ⟨by rw [HV.out]; rfl, by go_grown⟩
  · have d1 : decide (u < 0) = false := decide_eq_false h0
    by_cases h8 : 8 ≤ u
    · have d2 : decide (8 ≤ u) = true := decide_eq_true h8
      have HV := hid (show q = false by rw [← hq.out, mayG, inR, decide_eq_false (by show ¬ (0 ≤ u ∧ u ≤ 7); omega), Bool.false_and])
      clear h0 h8 hq
      go_enter Tryz.func63, Tryz.ntmps63
      go_wp2
      go_ret
      exact ⟨by rw [HV.out]; rfl, by go_grown⟩
    · have d2 : decide (8 ≤ u) = false := decide_eq_false h8
      have HQ := hid (show rightB [⟨l, c, b⟩] [] 0 = q by rw [right_one, ← hq.out, mayG, inR, decide_eq_true (by show 0 ≤ u ∧ u ≤ 7; omega), Bool.true_and]; rfl)
      clear h0 h8 hq
      go_enter Tryz.func63, Tryz.ntmps63
      go_wp2_with fail
      have hl := lit_c (w.alloc (.cells #[.int .i64 u, .int .u8 l, .int .u32 c, .bool b] 38)) [⟨l, c, b⟩] (by simp) (fun x hx => by simp at hx; subst hx; exact ht.lab)
      rw [show (w.alloc (.cells #[.int .i64 u, .int .u8 l, .int .u32 c, .bool b] 38)).heap.size = w.heap.size + 1 by simp] at hl
      refine (pcheck_of q _ _ _ _ _ _ _ [⟨l, c, b⟩] [] HQ _ ⟨rfl, rfl, hl.rd, RdQ.nil _, by decide, by decide⟩).mono ?_
      rintro e w1 ⟨rfl, b1⟩
      replace b1 := past_alloc2 b1
      go_wp2
      go_ret
      exact ⟨rfl, b1⟩

def bt (b : Bool) : Int := if b then 1 else 0
theorem okByte_any (l c : Int) (b : Bool) (w : World) :
    Calls Tryz.prog 111 #[.agg #[.int .u8 l, .int .u32 c, .bool b]] w fun e w' => e = .returned (.int .u8 (bt b)) ∧ Below w.heap.size w w' := by
  cases b
  · go_enter Tryz.func111, Tryz.ntmps111
    go_wp2
    go_ret
    exact ⟨rfl, by go_grown⟩
  · go_enter Tryz.func111, Tryz.ntmps111
    go_wp2
    go_ret
    exact ⟨rfl, by go_grown⟩

end Go.Proofs.YtndmblhkmgnpcaaGreat
namespace Go.Proofs.YtndmblhkmgnpcaaGreat
open Go.RowKit
set_option linter.unusedVariables false
set_option linter.unusedSimpArgs false

/-- A grant's bytes. -/
def b8 (b : Bool) : UInt8 := if b then 1 else 0
def gby (u : Nat) (ok : Bool) (a b : Nat) : List UInt8 := [UInt8.ofNat u, b8 ok] ++ (hby a b 0).take 5
theorem gby_length (u : Nat) (ok : Bool) (a b : Nat) : (gby u ok a b).length = 7 := by simp [gby, hby_length]
def pb (x : Gr) : List UInt8 := if mayG x = true then gby x.u.toNat x.ok x.l.toNat x.c.toNat else []
theorem keepB {B : Nat} {w w' : World} (h : Below B w w') {a : Addr} {v : Value} (hlt : a.block < B) (hc : w.cell? a = some v) : w'.cell? a = some v := by
  rw [h.cell hlt]; exact hc
theorem keepzB {B : Nat} {w w' : World} (h : Below B w w') {a : Addr} (hlt : a.block < B) (hc : w.frozen? a = false) : w'.frozen? a = false := by
  rw [h.frozen hlt]; exact hc
theorem keepfa {w : World} {a : Addr} {v : Value} (hc : w.cell? a = some v) (hz : w.frozen? a = false) (o : Obj) : (w.alloc o).frozen? a = false := keepz ((Below.refl _ w).alloc (Nat.le_refl _) o) hc hz
theorem mayG_u {x : Gr} (h : mayG x = true) : 0 ≤ x.u ∧ x.u ≤ 7 := by
  rw [mayG, Bool.and_eq_true, inR, decide_eq_true_eq] at h
  exact h.1

theorem mayG_l {x : Gr} (h : mayG x = true) : mayL x.l = true := by
  rw [mayG, Bool.and_eq_true, clearB, Bool.and_eq_true] at h
  exact h.2.1
theorem bt_b8 (b : Bool) : bt b = ((b8 b).toNat : Int) := by cases b <;> rfl
theorem own_two (w : World) (base g : Nat) (hg : w.heap.size = g) (hb : base ≤ g) (v v' : Int) (b b' : UInt8) (h : Hid (v = (b.toNat : Int))) (h' : Hid (v' = (b'.toNat : Int))) : Own (w.alloc (.cells #[.int .u8 v, .int .u8 v'] 5)) base 5 (some ⟨g, 0, none⟩) 2 [b, b'] := by
  subst hg
  rw [h.out, h'.out]
  exact Own.lit w _ [b, b'] hb (by simp)

set_option maxRecDepth 100000 in
set_option maxHeartbeats 1600000 in
theorem gput_of (L : List UInt8) (m : Nat) (k : Int) (u l c : Int) (b : Bool) (ht : Gr.typed ⟨u, l, c, b⟩) (hL : Hid (pb ⟨u, l, c, b⟩ = L ∧ L.length = m ∧ er (mayG ⟨u, l, c, b⟩) = k)) (w : World) :
    Calls Tryz.prog 83 #[.agg #[.int .i64 u, .int .u8 l, .int .u32 c, .bool b]] w fun e w' => ∃ A' c', e = .returned (.tuple #[.slice A' m c', .int .i64 k]) ∧ Rd w' A' c' L ∧ Below w.heap.size w w' := by
  cases hq : mayG ⟨u, l, c, b⟩
  · have hx := hL.out
    rw [pb, hq, if_neg (by decide)] at hx
    obtain ⟨rfl, rfl, rfl⟩ := hx
    have HQ := hid hq
    clear hq hL
    go_enter Tryz.func83, Tryz.ntmps83
    go_wp2_with fail
    refine (gcheck_of false u l c b ht HQ _).mono ?_
    rintro e w1 ⟨rfl, b1⟩
    have e8 : er false = 8 := rfl
    rw [e8]
    replace b1 := past_alloc b1
    go_wp2
    go_ret2
    exact ⟨none, 0, rfl, Rd.nil _, b1⟩
  · have hx := hL.out
    rw [pb, if_pos hq, hq] at hx
    obtain ⟨rfl, hm, rfl⟩ := hx
    rw [gby_length] at hm
    subst hm
    have HQ := hid hq
    have hu := mayG_u hq
    have hl := mayG_l hq
    have HH : Hid ((if mayH l 0 = true then hby l.toNat c.toNat 0 else []) = hby l.toNat c.toNat 0 ∧ (hby l.toNat c.toNat 0).length = 6 ∧ er (mayH l 0) = 0) := hid (by
      have e : mayH l 0 = true := by rw [mayH, show mayL l = true from hl]; rfl
      rw [e]
      exact ⟨rfl, hby_length _ _ _, rfl⟩)
    have HN := hid (hn_of ht.lab (k := 0) (by omega) (by omega))
    have HU := hid (show u = ((UInt8.ofNat u.toNat).toNat : Int) by rw [ofNat_toNat (by show u.toNat < 256; have := hu.2; simp only at this; omega)]; have := hu.1; simp only at this; omega)
    have HB := hid (bt_b8 b)
    have hu0 : 0 ≤ u := hu.1
    have hu7 : u ≤ 7 := hu.2
    have hw8 : IntKind.u8.wrap u = u := by rw [IntKind.wrap_u8]; omega
    obtain ⟨i0, hi0, hz0, hz1, hz2⟩ := info_parts info_u8
    clear hq hL hu hl
    go_enter Tryz.func83, Tryz.ntmps83
    go_wp2_with fail
    refine (gcheck_of true u l c b ht HQ _).mono ?_
    rintro e w1 ⟨rfl, b1⟩
    have e0 : er true = 0 := rfl
    rw [e0]
    (have s0 : w1.cell? ⟨w.heap.size, 0, none⟩ = some (.int .i64 u) := (keep b1 (by simp [go_sem])); have s1 : w1.cell? ⟨w.heap.size, 1, none⟩ = some (.int .u8 l) := (keep b1 (by simp [go_sem])); have s2 : w1.cell? ⟨w.heap.size, 2, none⟩ = some (.int .u32 c) := (keep b1 (by simp [go_sem])); have s3 : w1.cell? ⟨w.heap.size, 3, none⟩ = some (.bool b) := (keep b1 (by simp [go_sem])))
    replace b1 := past_alloc b1
    go_wp2_with fail
    refine (putHandle_of (hby l.toNat c.toNat 0) 6 0 l c 0 l.toNat c.toNat 0 HN HH _).mono ?_
    rintro e w2 ⟨A1, c1, rfl, hr1, b2⟩
    (replace s0 := keep b2 s0; replace s1 := keep b2 s1; replace s2 := keep b2 s2; replace s3 := keep b2 s3)
    replace b1 := below_in b1 b2
    have hc6 : 6 ≤ c1 := by have := hr1.len; rwa [hby_length] at this
    have hcm : (c1 : Int) ≤ 9223372036854775807 := by have := hr1.cap; omega
    clear b2
    have hn6 : Hid ((hby l.toNat c.toNat 0).length = 6) := hid (hby_length _ _ _)
    have hn5 : Hid (((hby l.toNat c.toNat 0).take 5).length = 5) := hid (by rw [List.length_take, hby_length]; rfl)
    have hr5 := hid (hr1.take 5)
    have hc0 : ¬ c1 = 0 := by omega
    clear hr1
    (have q0 := fun w' (h : Below w2.heap.size w2 w') => keep h s0; have q1 := fun w' (h : Below w2.heap.size w2 w') => keep h s1; have q2 := fun w' (h : Below w2.heap.size w2 w') => keep h s2; have q3 := fun w' (h : Below w2.heap.size w2 w') => keep h s3)
    have S0 : Below w2.heap.size w2 w2.drew := (Below.refl _ _).drew
    clear s0 s1 s2 s3
    go_wp2_with fail
    go_region_held_law (fun w' => Below w2.heap.size w2 w') (with_reducible (first | assumption | exact Below.alloc (by assumption) (Below.size (by assumption)) _ | exact Below.trans (Below.alloc (by assumption) (Below.size (by assumption)) _) (by assumption)))
      (first
        | (go_simp; go_at_call 111; refine (okByte_any l c b _).mono ?_; rintro e w3 ⟨rfl, b3⟩; have c3 := below_in (w := w2) (by assumption) b3)
        | (refine step_append_rd rfl (.tmp 29) (.tmp 31) _ (by rfl) w2.heap.size 5 Tryz.underlying51 hi0 hz0 hz1 hz2 (some ⟨w3.heap.size, 0, none⟩) 2 2 [UInt8.ofNat u.toNat, b8 b] (hid rfl) (by rfl) (own_two w3 w2.heap.size w3.heap.size rfl c3.size u _ _ _ HU HB) A1 5 c1 ((hby l.toNat c.toNat 0).take 5) hn5 (by rfl) (hr5.out.keep (Below.alloc c3 c3.size _)) (by omega) (by exact Nat.le_trans c3.size (by simp)) ?_; intro A' c' w4 ho hb4; have c4 := Below.trans (Below.alloc c3 c3.size _) hb4))
    all_goals
      have hb := below_in b1 c4
      go_simp
      go_wp2
      go_ret2
      exact ⟨A', c', rfl, ho.rd, hb⟩
end Go.Proofs.YtndmblhkmgnpcaaGreat
namespace Go.Proofs.YtndmblhkmgnpcaaGreat
open Go.RowKit
set_option linter.unusedVariables false
set_option linter.unusedSimpArgs false

/-- The grant that bytes tell. -/
def gg (l : List UInt8) : Gr := ⟨((l.getD 0 0).toNat : Int), ((l.getD 2 0).toNat : Int), (vl ((l.drop 3).take 4) : Int), l.getD 1 0 == 1⟩
def okG (l : List UInt8) : Bool := decide (l.length = 7) && decide ((l.getD 1 0).toNat ≤ 1) && mayG (gg l)
def pickG (q : Bool) (x : Gr) : Gr := if q = true then x else zG
theorem seven_of {l : List UInt8} (h : l.length = 7) : ∃ b0 b1 b2 b3 b4 b5 b6, l = [b0, b1, b2, b3, b4, b5, b6] := by
  match l, h with
  | [b0, b1, b2, b3, b4, b5, b6], _ => exact ⟨b0, b1, b2, b3, b4, b5, b6, rfl⟩
theorem u8_int (b : UInt8) : 0 ≤ (b.toNat : Int) ∧ (b.toNat : Int) ≤ 255 := by have := b.toNat_lt; omega
theorem eq_one (b : UInt8) : ((b.toNat : Int) == 1) = (b == 1) := by
  rw [Bool.eq_iff_iff, beq_iff_eq, beq_iff_eq]
  constructor
  · intro h
    have : b.toNat = (1 : UInt8).toNat := by have e : (1 : UInt8).toNat = 1 := rfl; omega
    exact UInt8.toNat_inj.1 this
  · rintro rfl; rfl
theorem info_G : (Tryz.prog.info? 38).map (fun i => (i.zero, i.size)) = some (some (.agg #[.int .i64 0, .int .u8 0, .int .u32 0, .bool false]), 4) := by kernel_rfl

theorem past_ad {w w2 : World} {o : Obj} (b : Below (w.alloc o).drew.heap.size (w.alloc o).drew w2) : Below w.heap.size w w2 := (((Below.refl _ w).alloc (Nat.le_refl _) o).drew).trans (b.mono (by simp [World.drew]))

set_option maxRecDepth 100000 in
set_option maxHeartbeats 1600000 in
theorem gget_of (q : Bool) (u l0 l1 : Int) (ok : Bool) (A : Option Addr) (n c : Nat) (l : List UInt8) (hn : Hid (l.length = n)) (hx : Hid (okG l = q ∧ pickG q (gg l) = ⟨u, l0, l1, ok⟩)) (w : World) (hr : Rd w A c l) :
    Calls Tryz.prog 79 #[.slice A n c] w fun e w' => e = .returned (.tuple #[.agg #[.int .i64 u, .int .u8 l0, .int .u32 l1, .bool ok], .int .i64 (er q)]) ∧ Below w.heap.size w w' := by
  by_cases h7 : n = 7
  · subst h7
    obtain ⟨b0, b1, b2, b3, b4, b5, b6, rfl⟩ := seven_of hn.out
    obtain ⟨z0, hz0⟩ : ∃ z : Int, (b0.toNat : Int) = z := ⟨_, rfl⟩
    obtain ⟨z1, hz1⟩ : ∃ z : Int, (b1.toNat : Int) = z := ⟨_, rfl⟩
    obtain ⟨z2, hz2⟩ : ∃ z : Int, (b2.toNat : Int) = z := ⟨_, rfl⟩
    obtain ⟨z3, hz3⟩ : ∃ z : Int, (vl [b3, b4, b5, b6] : Int) = z := ⟨_, rfl⟩
    have y0 := u8_int b0
    have y1 := u8_int b1
    have y2 := u8_int b2
    have y3 : 0 ≤ z3 ∧ z3 ≤ 4294967295 := by
      have h := vl_lt [b3, b4, b5, b6]
      simp only [List.length_cons, List.length_nil, Nat.reduceAdd, Nat.reducePow] at h
      omega
    rw [hz0] at y0
    rw [hz1] at y1
    rw [hz2] at y2
    have hgg : gg [b0, b1, b2, b3, b4, b5, b6] = ⟨z0, z2, z3, z1 == 1⟩ := by
      rw [← hz0, ← hz1, ← hz2, ← hz3, eq_one]; rfl
    have hok : okG [b0, b1, b2, b3, b4, b5, b6] = (decide (z1 ≤ 1) && mayG ⟨z0, z2, z3, z1 == 1⟩) := by
      rw [okG, hgg]
      have e : decide (([b0, b1, b2, b3, b4, b5, b6] : List UInt8).length = 7) = true := rfl
      have e2 : decide ((([b0, b1, b2, b3, b4, b5, b6] : List UInt8).getD 1 0).toNat ≤ 1) = decide (z1 ≤ 1) := by
        rw [decide_eq_decide, ← hz1]
        show b1.toNat ≤ 1 ↔ _
        omega
      rw [e, e2, Bool.true_and]
    have hx2 := hx.out
    rw [hgg, hok] at hx2
    have HX := hid hx2
    have HTY : Gr.typed ⟨z0, z2, z3, z1 == 1⟩ := ⟨⟨by show _ ≤ z0; omega, by show z0 ≤ _; omega⟩, ⟨by show 0 ≤ z2; omega, by show z2 ≤ _; omega, by show 0 ≤ z3; omega, by show z3 ≤ _; omega⟩⟩
    have hc7 : 7 ≤ c := hr.len
    have hcm : (c : Int) ≤ 9223372036854775807 := by have := hr.cap; omega
    obtain ⟨b, o, rfl, hcell⟩ := hr.at_ (by simp)
    have p0 : w.cell? ⟨b, o, none⟩ = some (.int .u8 z0) := by have := hcell 0 (by simp); rw [← hz0]; simpa using this
    have p1 : w.cell? ⟨b, o + 1, none⟩ = some (.int .u8 z1) := by have := hcell 1 (by simp); rw [← hz1]; simpa using this
    have HD : Hid (Rd w (some ⟨b, o + 2, none⟩) (c - 2) [b2, b3, b4, b5, b6]) := hid (hr.drop 2 (by simp))
    have hc2 : ¬ c = 2 := by omega
    have HH : Hid (gL [b2, b3, b4, b5, b6, 0] = z2 ∧ gC [b2, b3, b4, b5, b6, 0] = z3 ∧ gK [b2, b3, b4, b5, b6, 0] = 0) := hid ⟨hz2, hz3, rfl⟩
    have P0 := hid p0
    have P1 := hid p1
    replace p0 := fun o => keepa p0 o
    replace p1 := fun o => keepa p1 o
    clear hx hx2 hok hgg hcell hr hn hz0 hz1 hz2 hz3
    obtain ⟨i0, hi0, hj0, hj1, hj2⟩ := info_parts info_u8
    by_cases h1 : z1 ≤ 1
    · have d1 : decide (1 < z1) = false := decide_eq_false (by omega)
      have HX2 : Hid (mayG ⟨z0, z2, z3, z1 == 1⟩ = q ∧ pickG q ⟨z0, z2, z3, z1 == 1⟩ = ⟨u, l0, l1, ok⟩) := hid (by have := HX.out; rwa [decide_eq_true h1, Bool.true_and] at this)
      cases hl : mayL z2
      · have HK : Hid (okH [b2, b3, b4, b5, b6, 0] = false ∧ pick false (gL [b2, b3, b4, b5, b6, 0]) = 0 ∧ pick false (gC [b2, b3, b4, b5, b6, 0]) = 0 ∧ pick false (gK [b2, b3, b4, b5, b6, 0]) = 0) := hid (by
          refine ⟨?_, rfl, rfl, rfl⟩
          rw [okH, HH.out.1, HH.out.2.2, mayH, hl, Bool.false_and, Bool.and_false])
        have HV := hid (show q = false by
          rw [← HX2.out.1]
          cases hm : mayG ⟨z0, z2, z3, z1 == 1⟩
          · rfl
          · have := mayG_l hm
            rw [show mayL (Gr.l ⟨z0, z2, z3, z1 == 1⟩) = mayL z2 from rfl, hl] at this
            cases this)
        have HV2 := hid (show (⟨0, 0, 0, false⟩ : Gr) = ⟨u, l0, l1, ok⟩ by have := HX2.out.2; rw [HV.out] at this; exact this)
        obtain rfl := HV.out
        have e := HV2.out
        injection e with e1 e2 e3 e4
        subst e1 e2 e3 e4
        clear hl HX HX2 HV HV2
        go_enter Tryz.func79, Tryz.ntmps79
        go_wp2_with (first
          | (at_builtin; refine wpList_append_rd rfl (.const (.slice none 0 0)) (.tmp 20) _ rfl (w.heap.size + 1) 5 Tryz.underlying51 hi0 hj0 hj1 hj2 none 0 0 [] (hid rfl) rfl (Own.nil _ _ _) (some ⟨b, o + 2, none⟩) 5 (c - 2) [b2, b3, b4, b5, b6] (hid rfl) rfl (HD.out.alloc _) (by omega) (by simp) ?_; intro A1 c1 w1 ho1 hb1)
          | (at_builtin; refine wpList_append_rd rfl (.tmp 21) (.tmp 22) _ rfl (w.heap.size + 1) 5 Tryz.underlying51 hi0 hj0 hj1 hj2 A1 5 c1 [b2, b3, b4, b5, b6] (hid rfl) rfl (ho1.keep ((Below.refl _ _).alloc (Nat.le_refl _) _)) (some ⟨w1.heap.size, 0, none⟩) 1 1 [0] (hid rfl) rfl (lit_one w1 0 0 (hid rfl)) (by omega) (by have := hb1.size; simp at *; omega) ?_; intro A2 c2 w2 ho2 hb2))
        have hB : Below (w.heap.size + 1) (w.alloc (.cells #[.int .i64 0, .int .u8 0, .int .u32 0, .bool false] 38)) w2 := (hb1.alloc (by have := hb1.size; simpa using this) _).trans hb2
        (have t0 : w2.cell? ⟨w.heap.size, 0, none⟩ = some (.int .i64 0) := (keepB hB (by show w.heap.size < _; omega) (by simp [go_sem])); have t1 : w2.cell? ⟨w.heap.size, 1, none⟩ = some (.int .u8 0) := (keepB hB (by show w.heap.size < _; omega) (by simp [go_sem])); have t2 : w2.cell? ⟨w.heap.size, 2, none⟩ = some (.int .u32 0) := (keepB hB (by show w.heap.size < _; omega) (by simp [go_sem])); have t3 : w2.cell? ⟨w.heap.size, 3, none⟩ = some (.bool false) := (keepB hB (by show w.heap.size < _; omega) (by simp [go_sem])))
        (have f0 : w2.frozen? ⟨w.heap.size, 0, none⟩ = false := (keepzB hB (by show w.heap.size < _; omega) (by simp [go_sem])); have f1 : w2.frozen? ⟨w.heap.size, 1, none⟩ = false := (keepzB hB (by show w.heap.size < _; omega) (by simp [go_sem])); have f2 : w2.frozen? ⟨w.heap.size, 2, none⟩ = false := (keepzB hB (by show w.heap.size < _; omega) (by simp [go_sem])); have f3 : w2.frozen? ⟨w.heap.size, 3, none⟩ = false := (keepzB hB (by show w.heap.size < _; omega) (by simp [go_sem])))
        have hbw : Below w.heap.size w w2 := (show Below w.heap.size w _ by go_grown).trans (hB.mono (by omega))
        have hz2 : w.heap.size + 1 ≤ w2.heap.size := by have := hB.size; simpa using this
        clear hB hb1 hb2 ho1
        refine (getHandle_of false 0 0 0 A2 6 c2 [b2, b3, b4, b5, b6, 0] (hid rfl) HK _ ho2.rd).mono ?_
        rintro e w3 ⟨rfl, b3⟩
        have e8 : er false = 8 := rfl
        rw [e8]
        (replace f0 := keepz b3 t0 f0; replace f1 := keepz b3 t1 f1; replace f2 := keepz b3 t2 f2; replace f3 := keepz b3 t3 f3)
        (replace t0 := keep b3 t0; replace t1 := keep b3 t1; replace t2 := keep b3 t2; replace t3 := keep b3 t3)
        have hz3 := b3.size
        replace hbw := below_in hbw b3
        clear b3 ho2
        replace f0 := fun o => keepfa t0 f0 o
        replace f1 := fun o => keepfa t1 f1 o
        replace f2 := fun o => keepfa t2 f2 o
        replace f3 := fun o => keepfa t3 f3 o
        (replace t0 := fun o => keepa t0 o; replace t1 := fun o => keepa t1 o; replace t2 := fun o => keepa t2 o; replace t3 := fun o => keepa t3 o)
        go_wp2
        exact bodyPost_ret (v := .tuple #[.agg #[.int .i64 0, .int .u8 0, .int .u32 0, .bool false], .int .i64 8]) (by simp [results, Tryz.results79, go_sem, t0, t1, t2, t3]) rfl ⟨rfl, set4 (hbw.alloc hbw.size _) (Nat.le_refl _) _ _ _ _⟩
      · have HK : Hid (okH [b2, b3, b4, b5, b6, 0] = true ∧ pick true (gL [b2, b3, b4, b5, b6, 0]) = z2 ∧ pick true (gC [b2, b3, b4, b5, b6, 0]) = z3 ∧ pick true (gK [b2, b3, b4, b5, b6, 0]) = 0) := hid (by
          refine ⟨?_, HH.out.1, HH.out.2.1, HH.out.2.2⟩
          rw [okH, HH.out.1, HH.out.2.2, mayH, hl]
          rfl)
        clear hl
        go_enter Tryz.func79, Tryz.ntmps79
        go_wp2_with (first
          | (at_builtin; refine wpList_append_rd rfl (.const (.slice none 0 0)) (.tmp 20) _ rfl (w.heap.size + 1) 5 Tryz.underlying51 hi0 hj0 hj1 hj2 none 0 0 [] (hid rfl) rfl (Own.nil _ _ _) (some ⟨b, o + 2, none⟩) 5 (c - 2) [b2, b3, b4, b5, b6] (hid rfl) rfl (HD.out.alloc _) (by omega) (by simp) ?_; intro A1 c1 w1 ho1 hb1)
          | (at_builtin; refine wpList_append_rd rfl (.tmp 21) (.tmp 22) _ rfl (w.heap.size + 1) 5 Tryz.underlying51 hi0 hj0 hj1 hj2 A1 5 c1 [b2, b3, b4, b5, b6] (hid rfl) rfl (ho1.keep ((Below.refl _ _).alloc (Nat.le_refl _) _)) (some ⟨w1.heap.size, 0, none⟩) 1 1 [0] (hid rfl) rfl (lit_one w1 0 0 (hid rfl)) (by omega) (by have := hb1.size; simp at *; omega) ?_; intro A2 c2 w2 ho2 hb2))
        have hB : Below (w.heap.size + 1) (w.alloc (.cells #[.int .i64 0, .int .u8 0, .int .u32 0, .bool false] 38)) w2 := (hb1.alloc (by have := hb1.size; simpa using this) _).trans hb2
        (have t0 : w2.cell? ⟨w.heap.size, 0, none⟩ = some (.int .i64 0) := (keepB hB (by show w.heap.size < _; omega) (by simp [go_sem])); have t1 : w2.cell? ⟨w.heap.size, 1, none⟩ = some (.int .u8 0) := (keepB hB (by show w.heap.size < _; omega) (by simp [go_sem])); have t2 : w2.cell? ⟨w.heap.size, 2, none⟩ = some (.int .u32 0) := (keepB hB (by show w.heap.size < _; omega) (by simp [go_sem])); have t3 : w2.cell? ⟨w.heap.size, 3, none⟩ = some (.bool false) := (keepB hB (by show w.heap.size < _; omega) (by simp [go_sem])))
        (have f0 : w2.frozen? ⟨w.heap.size, 0, none⟩ = false := (keepzB hB (by show w.heap.size < _; omega) (by simp [go_sem])); have f1 : w2.frozen? ⟨w.heap.size, 1, none⟩ = false := (keepzB hB (by show w.heap.size < _; omega) (by simp [go_sem])); have f2 : w2.frozen? ⟨w.heap.size, 2, none⟩ = false := (keepzB hB (by show w.heap.size < _; omega) (by simp [go_sem])); have f3 : w2.frozen? ⟨w.heap.size, 3, none⟩ = false := (keepzB hB (by show w.heap.size < _; omega) (by simp [go_sem])))
        have hbw : Below w.heap.size w w2 := (show Below w.heap.size w _ by go_grown).trans (hB.mono (by omega))
        have hz2 : w.heap.size + 1 ≤ w2.heap.size := by have := hB.size; simpa using this
        clear hB hb1 hb2 ho1
        refine (getHandle_of true z2 z3 0 A2 6 c2 [b2, b3, b4, b5, b6, 0] (hid rfl) HK _ ho2.rd).mono ?_
        rintro e w3 ⟨rfl, b3⟩
        have e0 : er true = 0 := rfl
        rw [e0]
        (replace f0 := keepz b3 t0 f0; replace f1 := keepz b3 t1 f1; replace f2 := keepz b3 t2 f2; replace f3 := keepz b3 t3 f3)
        (replace t0 := keep b3 t0; replace t1 := keep b3 t1; replace t2 := keep b3 t2; replace t3 := keep b3 t3)
        replace hbw := below_in hbw b3
        have hz3 := Nat.le_trans hz2 b3.size
        clear b3 ho2
        have k0 := keep hbw P0.out
        have k1 := keep hbw P1.out
        go_wp2_with fail
        generalize hW : w3.alloc _ = W
        have hbW : Below w3.heap.size w3 W := by rw [← hW]; go_grown
        (have s0 : W.cell? ⟨w3.heap.size, 0, none⟩ = some (.int .u8 z2) := ((by rw [← hW]; simp [go_sem])); have s1 : W.cell? ⟨w3.heap.size, 1, none⟩ = some (.int .u32 z3) := ((by rw [← hW]; simp [go_sem])); have s2 : W.cell? ⟨w3.heap.size, 2, none⟩ = some (.int .u8 0) := ((by rw [← hW]; simp [go_sem])))
        (replace f0 := keepz hbW t0 f0; replace f1 := keepz hbW t1 f1; replace f2 := keepz hbW t2 f2; replace f3 := keepz hbW t3 f3)
        (replace t0 := keep hbW t0; replace t1 := keep hbW t1; replace t2 := keep hbW t2; replace t3 := keep hbW t3)
        replace k0 := keep hbW k0
        replace k1 := keep hbW k1
        replace hbw := below_in hbw hbW
        clear hW p0 p1
        cases hq : mayG ⟨z0, z2, z3, z1 == 1⟩
        · have HQ := hid hq
          have HV := hid (show q = false by rw [← HX2.out.1, hq])
          have HV2 := hid (show (⟨0, 0, 0, false⟩ : Gr) = ⟨u, l0, l1, ok⟩ by have := HX2.out.2; rw [HV.out] at this; exact this)
          obtain rfl := HV.out
          have e := HV2.out
          injection e with e1 e2 e3 e4
          subst e1 e2 e3 e4
          clear hq HX HX2 HV HV2
          have k0a := fun o => keepa k0 o
          have k1a := fun o => keepa k1 o
          have s0a := fun o => keepa s0 o
          have s1a := fun o => keepa s1 o
          go_region
          all_goals
            go_wp2_with fail
            refine (gcheck_of false z0 z2 z3 (z1 == 1) HTY HQ _).mono ?_
            rintro e w4 ⟨rfl, b4⟩
            have e8 : er false = 8 := rfl
            rw [e8]
            replace b4 := past_ad b4
            (replace f0 := keepz b4 t0 f0; replace f1 := keepz b4 t1 f1; replace f2 := keepz b4 t2 f2; replace f3 := keepz b4 t3 f3)
            (replace t0 := keep b4 t0; replace t1 := keep b4 t1; replace t2 := keep b4 t2; replace t3 := keep b4 t3)
            replace hbw := below_in hbw b4
            go_wp2
            exact bodyPost_ret (v := .tuple #[.agg #[.int .i64 0, .int .u8 0, .int .u32 0, .bool false], .int .i64 8]) (by simp [results, Tryz.results79, go_sem, t0, t1, t2, t3]) rfl ⟨rfl, set4 hbw (Nat.le_refl _) _ _ _ _⟩
        · have HQ := hid hq
          have HV := hid (show q = true by rw [← HX2.out.1, hq])
          have HV2 := hid (show (⟨z0, z2, z3, z1 == 1⟩ : Gr) = ⟨u, l0, l1, ok⟩ by have := HX2.out.2; rw [HV.out] at this; exact this)
          obtain rfl := HV.out
          have e := HV2.out
          injection e with e1 e2 e3 e4
          subst e1 e2 e3 e4
          clear hq HX HX2 HV HV2
          have k0a := fun o => keepa k0 o
          have k1a := fun o => keepa k1 o
          have s0a := fun o => keepa s0 o
          have s1a := fun o => keepa s1 o
          go_region
          all_goals
            go_wp2_with fail
            refine (gcheck_of true z0 z2 z3 (z1 == 1) HTY HQ _).mono ?_
            rintro e w4 ⟨rfl, b4⟩
            have e9 : er true = 0 := rfl
            rw [e9]
            (have v0 : w4.cell? ⟨W.heap.size, 0, none⟩ = some (.int .i64 z0) := (keep b4 (by simp [go_sem])); have v1 : w4.cell? ⟨W.heap.size, 1, none⟩ = some (.int .u8 z2) := (keep b4 (by simp [go_sem])); have v2 : w4.cell? ⟨W.heap.size, 2, none⟩ = some (.int .u32 z3) := (keep b4 (by simp [go_sem])); have v3 : w4.cell? ⟨W.heap.size, 3, none⟩ = some (.bool (z1 == 1)) := (keep b4 (by simp [go_sem])))
            replace b4 := past_ad b4
            (replace f0 := keepz b4 t0 f0; replace f1 := keepz b4 t1 f1; replace f2 := keepz b4 t2 f2; replace f3 := keepz b4 t3 f3)
            (replace t0 := keep b4 t0; replace t1 := keep b4 t1; replace t2 := keep b4 t2; replace t3 := keep b4 t3)
            replace hbw := below_in hbw b4
            go_wp2
            exact bodyPost_ret (v := .tuple #[.agg #[.int .i64 z0, .int .u8 z2, .int .u32 z3, .bool (z1 == 1)], .int .i64 0]) (by simp [results, Tryz.results79, go_sem, t0, t1, t2, t3]) rfl ⟨rfl, set4 hbw (Nat.le_refl _) _ _ _ _⟩
    · have d1 : decide (1 < z1) = true := decide_eq_true (by omega)
      have HV := hid (show q = false by rw [← HX.out.1, decide_eq_false h1, Bool.false_and])
      have HV2 := hid (show (⟨0, 0, 0, false⟩ : Gr) = ⟨u, l0, l1, ok⟩ by have := HX.out.2; rw [HV.out] at this; exact this)
      obtain rfl := HV.out
      have e := HV2.out
      injection e with e1 e2 e3 e4
      subst e1 e2 e3 e4
      clear HX HV HV2
      go_enter Tryz.func79, Tryz.ntmps79
      go_wp2
      exact bodyPost_ret (v := .tuple #[.agg #[.int .i64 0, .int .u8 0, .int .u32 0, .bool false], .int .i64 8]) (by simp [results, Tryz.results79, go_sem]) rfl ⟨rfl, by go_grown⟩
  · have hq : q = false := by
      have := hx.out.1
      rw [okG, hn.out] at this
      simpa [h7] using this.symm
    subst hq
    have e := hx.out.2
    injection e with e1 e2 e3 e4
    subst e1 e2 e3 e4
    have h7' : ((n : Int) != 7) = true := by simp; omega
    clear h7 hx
    go_enter Tryz.func79, Tryz.ntmps79
    go_wp2
    exact bodyPost_ret (v := .tuple #[.agg #[.int .i64 0, .int .u8 0, .int .u32 0, .bool false], .int .i64 8]) (by simp [results, Tryz.results79, go_sem]) rfl ⟨rfl, by go_grown⟩
end Go.Proofs.YtndmblhkmgnpcaaGreat
namespace Go.Proofs.YtndmblhkmgnpcaaGreat
open Go.ChangeShapes Go.WideShapes Go.ChangeAt Go.RowKit Go.Joins
set_option linter.unusedVariables false
set_option linter.unusedSimpArgs false
set_option maxRecDepth 100000

section
variable {H : Type} {enc : TypeId × Value → H} {W : World} {base b0 : Nat} {spare : Nat → Bool} {held : Bool} {v : Value} {d : DataW H} {p : List MemPlace} {r : Reach}
end

def sameG (u l c : Int) (b : Bool) (u' l' c' : Int) (b' : Bool) : Bool := u == u' && l == l' && c == c' && b == b'
theorem sameG_refl (u l c : Int) (b : Bool) : sameG u l c b u l c b = true := by simp [sameG]
theorem stoodG : Tryz.prog.stoodInHeld 38 = false := by kernel_rfl
theorem eql_grant (w : World) (a b c a' b' c' : Int) (d d' : Bool) : (binOp .eql 38 (.agg #[.int .i64 a, .int .u8 b, .int .u32 c, .bool d]) (.agg #[.int .i64 a', .int .u8 b', .int .u32 c', .bool d'])).run Tryz.prog w = .ok (.bool (sameG a b c d a' b' c' d')) w := by
  have e1 := stoodG
  unfold sameG
  by_cases h1 : a = a' <;> by_cases h2 : b = b' <;> by_cases h3 : c = c' <;> by_cases h4 : d = d' <;> simp [go_sem, e1, h1, h2, h3, h4]
theorem neq_grant (w : World) (a b c a' b' c' : Int) (d d' : Bool) : (binOp .neq 38 (.agg #[.int .i64 a, .int .u8 b, .int .u32 c, .bool d]) (.agg #[.int .i64 a', .int .u8 b', .int .u32 c', .bool d'])).run Tryz.prog w = .ok (.bool (!sameG a b c d a' b' c' d')) w := by
  have e1 := stoodG
  unfold sameG
  by_cases h1 : a = a' <;> by_cases h2 : b = b' <;> by_cases h3 : c = c' <;> by_cases h4 : d = d' <;> simp [go_sem, e1, h1, h2, h3, h4]

theorem gput_j (L : List UInt8) (m : Nat) (k : Int) (x : Gr) (ht : Hid x.typed) (hL : Hid (pb x = L ∧ L.length = m ∧ er (mayG x) = k)) (w : World) :
    Calls Tryz.prog 83 #[.agg #[.int .i64 (x.u), .int .u8 (x.l), .int .u32 (x.c), .bool (x.ok)]] w fun e w' => ∃ A' c', e = .returned (.tuple #[.slice A' m c', .int .i64 k]) ∧ Rd w' A' c' L ∧ Below w.heap.size w w' := by
  obtain ⟨u, l, c, b⟩ := x
  exact gput_of L m k u l c b ht.out hL w
theorem gget_j (j : Int) (q : Bool) (u l0 l1 : Int) (ok : Bool) (A : Option Addr) (n c : Nat) (l : List UInt8) (hn : Hid (l.length = n)) (hx : Hid (okG l = q ∧ er q = j ∧ pickG q (gg l) = ⟨u, l0, l1, ok⟩)) (w : World) (hr : Rd w A c l) :
    Calls Tryz.prog 79 #[.slice A n c] w fun e w' => e = .returned (.tuple #[.agg #[.int .i64 u, .int .u8 l0, .int .u32 l1, .bool ok], .int .i64 j]) ∧ Below w.heap.size w w' := by
  rw [← hx.out.2.1]; exact gget_of q u l0 l1 ok A n c l hn (hid ⟨hx.out.1, hx.out.2.2⟩) w hr

theorem gby_gg (u a b : Nat) (ok : Bool) (hu : u < 256) (ha : a < 256) (hb : b < 4294967296) : gg (gby u ok a b) = ⟨u, a, b, ok⟩ ∧ (((gby u ok a b).getD 1 0).toNat ≤ 1) := by
  obtain ⟨x, y, z, t, h4⟩ := four_of (dg_length 4 b)
  have hv : vl [x, y, z, t] = b := by rw [← h4]; exact vl_dg 4 b (by simpa using hb)
  have e : gby u ok a b = [UInt8.ofNat u, b8 ok, UInt8.ofNat a, x, y, z, t] := by simp [gby, hby, h4]
  rw [e]
  constructor
  · show (⟨((UInt8.ofNat u).toNat : Int), ((UInt8.ofNat a).toNat : Int), (vl [x, y, z, t] : Int), b8 ok == 1⟩ : Gr) = _
    rw [ofNat_toNat hu, ofNat_toNat ha, hv]
    cases ok <;> rfl
  · show (b8 ok).toNat ≤ 1
    cases ok <;> decide
/-- What is put tells the grant. -/
theorem gput_get {u l c : Int} {b : Bool} (ht : Gr.typed ⟨u, l, c, b⟩) (hm : mayG ⟨u, l, c, b⟩ = true) : okG (pb ⟨u, l, c, b⟩) = true ∧ gg (pb ⟨u, l, c, b⟩) = ⟨u, l, c, b⟩ ∧ (pb ⟨u, l, c, b⟩).length = 7 := by
  have hu := mayG_u hm
  have hlab : Lab l c := ht.lab
  have hu0 : 0 ≤ u := hu.1
  have hu7 : u ≤ 7 := hu.2
  have e : pb ⟨u, l, c, b⟩ = gby u.toNat b l.toNat c.toNat := by rw [pb, if_pos hm]
  have l0 := hlab.l0
  have l1 := hlab.l1
  have c0 := hlab.c0
  have c1 := hlab.c1
  obtain ⟨h1, h2⟩ := gby_gg u.toNat l.toNat c.toNat b (by omega) (by omega) (by omega)
  have h3 : gg (gby u.toNat b l.toNat c.toNat) = ⟨u, l, c, b⟩ := by
    rw [h1, Int.toNat_of_nonneg hu0, Int.toNat_of_nonneg l0, Int.toNat_of_nonneg c0]
  rw [e]
  refine ⟨?_, h3, gby_length _ _ _ _⟩
  rw [okG, h3, hm, gby_length, decide_eq_true h2]
  rfl
/-- What is got is put as just these bytes. -/
theorem gget_put {l : List UInt8} (h : okG l = true) : pb (gg l) = l ∧ l.length = 7 ∧ mayG (gg l) = true ∧ Gr.typed (gg l) := by
  rw [okG, Bool.and_eq_true, Bool.and_eq_true, decide_eq_true_eq, decide_eq_true_eq] at h
  obtain ⟨⟨h7, h1⟩, hm⟩ := h
  refine ⟨?_, h7, hm, ?_⟩
  · rw [pb, if_pos hm]
    obtain ⟨b0, b1, b2, b3, b4, b5, b6, rfl⟩ := seven_of h7
    show gby (b0.toNat : Int).toNat (b1 == 1) (b2.toNat : Int).toNat (vl [b3, b4, b5, b6] : Int).toNat = _
    rw [Int.toNat_natCast, Int.toNat_natCast, Int.toNat_natCast, gby, hby]
    have h4 : dg 4 (vl [b3, b4, b5, b6]) = [b3, b4, b5, b6] := dg_vl [b3, b4, b5, b6]
    rw [h4, UInt8.ofNat_toNat, UInt8.ofNat_toNat]
    have hb : b8 (b1 == 1) = b1 := by
      have h1' : b1.toNat ≤ 1 := h1
      by_cases hz : b1.toNat = 0
      · have : b1 = 0 := UInt8.toNat_inj.1 hz
        subst this; rfl
      · have : b1 = 1 := UInt8.toNat_inj.1 (by show b1.toNat = 1; omega)
        subst this; rfl
    rw [hb]
    rfl
  · obtain ⟨b0, b1, b2, b3, b4, b5, b6, rfl⟩ := seven_of h7
    have y0 := u8_int b0
    have y2 := u8_int b2
    have y3 := vl_lt [b3, b4, b5, b6]
    simp only [List.length_cons, List.length_nil, Nat.reduceAdd, Nat.reducePow] at y3
    exact ⟨⟨by show _ ≤ (b0.toNat : Int); omega, by show (b0.toNat : Int) ≤ _; omega⟩, ⟨by show 0 ≤ (b2.toNat : Int); omega, by show (b2.toNat : Int) ≤ _; omega, by show 0 ≤ (vl [b3, b4, b5, b6] : Int); omega, by show (vl [b3, b4, b5, b6] : Int) ≤ _; omega⟩⟩
end Go.Proofs.YtndmblhkmgnpcaaGreat
