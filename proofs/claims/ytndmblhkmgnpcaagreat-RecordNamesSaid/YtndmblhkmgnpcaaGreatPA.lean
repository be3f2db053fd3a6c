/-
  Labels and policies: words, what comes in, what may be (stage 6).
-/
import Derived.Test.YtndmblhkmgnpcaaGreatOO
import Derived.Test.YtndmblhkmgnpcaaGreatSS
import Derived.LoopTactic
import Derived.WalkMore
import Derived.Outline
namespace Go.Proofs.YtndmblhkmgnpcaaGreat
open Go.RowKit
set_option linter.unusedVariables false
set_option linter.unusedSimpArgs false

def aheadB (l c l' c' : Int) : Bool := decide (l < l' ∨ l = l' ∧ c < c')
set_option maxHeartbeats 400000 in
theorem ahead_any (l c l' c' : Int) (w : World) :
    Calls Tryz.prog 149 #[.agg #[.int .u8 l, .int .u32 c], .agg #[.int .u8 l', .int .u32 c']] w fun e w' =>
      e = .returned (.bool (aheadB l c l' c')) ∧ Below w.heap.size w w' := by
  go_enter Tryz.func149, Tryz.ntmps149
  by_cases h : l = l'
  · have h1 : (l == l') = true := by simp [h]
    have H := hid h; clear h
    go_wp2
    go_ret
    exact ⟨ret_bool (by rw [aheadB, decide_eq_decide]; have := H.out; omega), by go_grown⟩
  · have h1 : (l == l') = false := by simp [h]
    go_wp2
    go_ret
    exact ⟨ret_bool (by rw [aheadB, decide_eq_decide]; omega), by go_grown⟩

set_option maxHeartbeats 400000 in
theorem rMay_any (l c : Int) (w : World) :
    Calls Tryz.prog 91 #[.agg #[.int .u8 l, .int .u32 c]] w fun e w' => e = .returned (.bool (mayL l)) ∧ Below w.heap.size w w' := by
  go_enter Tryz.func91, Tryz.ntmps91
  go_wp2
  go_ret
  exact ⟨rfl, by go_grown⟩

end Go.Proofs.YtndmblhkmgnpcaaGreat
namespace Go.Proofs.YtndmblhkmgnpcaaGreat
open Go.RowKit Go.ChangeShapes Go.WideShapes Go.ChangeAt
set_option maxRecDepth 100000
set_option linter.unusedVariables false
set_option linter.unusedSimpArgs false

/-- A clearance's numbers; a quota's. -/
structure Cl where
  l : Int
  c : Int
  ok : Bool
structure Qt where
  l : Int
  c : Int
  o : Int
  p : Int
  k : Int
def Cl.cs (x : Cl) : List Value := [.int .u8 x.l, .int .u32 x.c, .bool x.ok]
def Qt.cs (x : Qt) : List Value := [.int .u8 x.l, .int .u32 x.c, .int .i64 x.o, .int .i64 x.p, .int .i64 x.k]
def ec (x : Int) : List Value := [.int .i64 x]
theorem Cl.cs_length (x : Cl) : x.cs.length = 3 := rfl
theorem Qt.cs_length (x : Qt) : x.cs.length = 5 := rfl
theorem ec_length (x : Int) : (ec x).length = 1 := rfl
theorem Cl.cs_one (x : Cl) : ∀ u ∈ x.cs, u.oneCell' = true := fun u hu => by
  simp only [Cl.cs, List.mem_cons, List.not_mem_nil, or_false] at hu
  rcases hu with rfl | rfl | rfl <;> rfl
theorem Qt.cs_one (x : Qt) : ∀ u ∈ x.cs, u.oneCell' = true := fun u hu => by
  simp only [Qt.cs, List.mem_cons, List.not_mem_nil, or_false] at hu
  rcases hu with rfl | rfl | rfl | rfl | rfl <;> rfl

def Cl.typed (x : Cl) : Prop := Lab x.l x.c
structure Qt.typed (x : Qt) : Prop where
  lab : Lab x.l x.c
  o : In64 x.o
  p : In64 x.p
  k : In64 x.k

def RdC (w : World) (A : Option Addr) (c : Nat) (l : List Cl) : Prop := Rds Cl.cs w A c l ∧ ∀ x ∈ l, x.typed
def RdQ (w : World) (A : Option Addr) (c : Nat) (l : List Qt) : Prop := Rds Qt.cs w A c l ∧ ∀ x ∈ l, x.typed
def RdE (w : World) (A : Option Addr) (c : Nat) (l : List Int) : Prop := Rds ec w A c l
def OwnC (w : World) (base : Nat) (A : Option Addr) (c : Nat) (l : List Cl) : Prop := Owns Cl.cs 3 w base 36 A c l ∧ ∀ x ∈ l, x.typed
def OwnQ (w : World) (base : Nat) (A : Option Addr) (c : Nat) (l : List Qt) : Prop := Owns Qt.cs 5 w base 190 A c l ∧ ∀ x ∈ l, x.typed

theorem RdC.keep {w w' : World} (hb : Below w.heap.size w w') {A : Option Addr} {c : Nat} {l : List Cl} (h : RdC w A c l) : RdC w' A c l := ⟨h.1.keep hb, h.2⟩
theorem RdQ.keep {w w' : World} (hb : Below w.heap.size w w') {A : Option Addr} {c : Nat} {l : List Qt} (h : RdQ w A c l) : RdQ w' A c l := ⟨h.1.keep hb, h.2⟩
theorem RdC.nil (w : World) : RdC w none 0 [] := ⟨Rds.nil w, fun x hx => by cases hx⟩
theorem RdQ.nil (w : World) : RdQ w none 0 [] := ⟨Rds.nil w, fun x hx => by cases hx⟩
theorem OwnC.keep {w w' : World} (hb : Below w.heap.size w w') {B : Nat} {A : Option Addr} {c : Nat} {l : List Cl} (h : OwnC w B A c l) : OwnC w' B A c l := ⟨h.1.keep hb, h.2⟩
theorem OwnQ.keep {w w' : World} (hb : Below w.heap.size w w') {B : Nat} {A : Option Addr} {c : Nat} {l : List Qt} (h : OwnQ w B A c l) : OwnQ w' B A c l := ⟨h.1.keep hb, h.2⟩
theorem OwnC.rd {w : World} {B : Nat} {A : Option Addr} {c : Nat} {l : List Cl} (h : OwnC w B A c l) : RdC w A c l := ⟨h.1.rd Cl.cs_length, h.2⟩
theorem OwnQ.rd {w : World} {B : Nat} {A : Option Addr} {c : Nat} {l : List Qt} (h : OwnQ w B A c l) : RdQ w A c l := ⟨h.1.rd Qt.cs_length, h.2⟩
theorem RdC.len {w : World} {A : Option Addr} {c : Nat} {l : List Cl} (h : RdC w A c l) : l.length ≤ c := h.1.1
theorem RdQ.len {w : World} {A : Option Addr} {c : Nat} {l : List Qt} (h : RdQ w A c l) : l.length ≤ c := h.1.1
theorem RdE.len {w : World} {A : Option Addr} {c : Nat} {l : List Int} (h : RdE w A c l) : l.length ≤ c := h.1
theorem RdC.cap {w : World} {A : Option Addr} {c : Nat} {l : List Cl} (h : RdC w A c l) : c ≤ 9223372036854775807 := h.1.2.1
theorem RdQ.cap {w : World} {A : Option Addr} {c : Nat} {l : List Qt} (h : RdQ w A c l) : c ≤ 9223372036854775807 := h.1.2.1
theorem RdE.cap {w : World} {A : Option Addr} {c : Nat} {l : List Int} (h : RdE w A c l) : c ≤ 9223372036854775807 := h.2.1

theorem RdC.at_ {w : World} {A : Option Addr} {c : Nat} {l : List Cl} (h : RdC w A c l) (hp : 0 < l.length) :
    ∃ b o, A = some ⟨b, o, none⟩ ∧ ∀ j (hj : j < l.length), w.cell? ⟨b, o + j * 3, none⟩ = some (.int .u8 l[j].l) ∧ w.cell? ⟨b, o + j * 3 + 1, none⟩ = some (.int .u32 l[j].c) ∧ w.cell? ⟨b, o + j * 3 + 2, none⟩ = some (.bool l[j].ok) ∧ Lab l[j].l l[j].c := by
  obtain ⟨b, o, hA, hc⟩ := h.1.2.2 hp
  refine ⟨b, o, hA, fun j hj => ⟨?_, ?_, ?_, h.2 _ (List.getElem_mem hj)⟩⟩
  · exact Rds.each (c := c) Cl.cs_length hc j hj 0 (by omega) _ rfl
  · rw [Nat.add_assoc]; exact Rds.each (c := c) Cl.cs_length hc j hj 1 (by omega) _ rfl
  · rw [Nat.add_assoc]; exact Rds.each (c := c) Cl.cs_length hc j hj 2 (by omega) _ rfl
theorem RdQ.at_ {w : World} {A : Option Addr} {c : Nat} {l : List Qt} (h : RdQ w A c l) (hp : 0 < l.length) :
    ∃ b o, A = some ⟨b, o, none⟩ ∧ ∀ j (hj : j < l.length), w.cell? ⟨b, o + j * 5, none⟩ = some (.int .u8 l[j].l) ∧ w.cell? ⟨b, o + j * 5 + 1, none⟩ = some (.int .u32 l[j].c) ∧ w.cell? ⟨b, o + j * 5 + 2, none⟩ = some (.int .i64 l[j].o) ∧
      w.cell? ⟨b, o + j * 5 + 3, none⟩ = some (.int .i64 l[j].p) ∧ w.cell? ⟨b, o + j * 5 + 4, none⟩ = some (.int .i64 l[j].k) ∧ l[j].typed := by
  obtain ⟨b, o, hA, hc⟩ := h.1.2.2 hp
  refine ⟨b, o, hA, fun j hj => ⟨?_, ?_, ?_, ?_, ?_, h.2 _ (List.getElem_mem hj)⟩⟩
  · exact Rds.each (c := c) Qt.cs_length hc j hj 0 (by omega) _ rfl
  · rw [Nat.add_assoc]; exact Rds.each (c := c) Qt.cs_length hc j hj 1 (by omega) _ rfl
  · rw [Nat.add_assoc]; exact Rds.each (c := c) Qt.cs_length hc j hj 2 (by omega) _ rfl
  · rw [Nat.add_assoc]; exact Rds.each (c := c) Qt.cs_length hc j hj 3 (by omega) _ rfl
  · rw [Nat.add_assoc]; exact Rds.each (c := c) Qt.cs_length hc j hj 4 (by omega) _ rfl
theorem RdE.at_ {w : World} {A : Option Addr} {c : Nat} {l : List Int} (h : RdE w A c l) (hp : 0 < l.length) :
    ∃ b o, A = some ⟨b, o, none⟩ ∧ ∀ j (hj : j < l.length), w.cell? ⟨b, o + j, none⟩ = some (.int .i64 l[j]) := by
  obtain ⟨b, o, hA, hc⟩ := h.2.2 hp
  refine ⟨b, o, hA, fun j hj => ?_⟩
  have := Rds.each (c := c) ec_length hc j hj 0 (by omega) _ rfl
  simpa using this
theorem lit_e (w : World) (l : List Int) (hl : l.length ≤ 1000) : RdE (w.alloc (.cells (flat ec l).toArray 34)) (some ⟨w.heap.size, 0, none⟩) l.length l := (Owns.lit ec_length (by omega) w (base := 0) 34 l (Nat.zero_le _) hl).rd ec_length
theorem lit_c (w : World) (l : List Cl) (hl : l.length ≤ 1000) (ht : ∀ x ∈ l, x.typed) : OwnC (w.alloc (.cells (flat Cl.cs l).toArray 36)) w.heap.size (some ⟨w.heap.size, 0, none⟩) l.length l := ⟨Owns.lit Cl.cs_length (by omega) w 36 l (Nat.le_refl _) hl, ht⟩
theorem lit_q (w : World) (l : List Qt) (hl : l.length ≤ 1000) (ht : ∀ x ∈ l, x.typed) : OwnQ (w.alloc (.cells (flat Qt.cs l).toArray 190)) w.heap.size (some ⟨w.heap.size, 0, none⟩) l.length l := ⟨Owns.lit Qt.cs_length (by omega) w 190 l (Nat.le_refl _) hl, ht⟩

/-! ### What comes in -/
theorem cells_bool : Tryz.prog.cellsOf 4 = 1 := by kernel_rfl
theorem cells_C : Tryz.prog.cellsOf 36 = 3 := by kernel_rfl
theorem cells_Q : Tryz.prog.cellsOf 190 = 5 := by kernel_rfl
theorem cells_P : Tryz.prog.cellsOf 138 = 3 := by kernel_rfl
theorem cells_lC : Tryz.prog.cellsOf 135 = 1 := by kernel_rfl
theorem cells_lQ : Tryz.prog.cellsOf 136 = 1 := by kernel_rfl
section
variable {H : Type} {enc : TypeId × Value → H} {W : World} {base : Nat} {spare : Nat → Bool} {held : Bool}
theorem trod_clear {fuel : Nat} {cs : List Value} {x : DataW H × List MemPlace} (h : DataW.trod enc Tryz.prog W base spare held fuel 36 cs = some x) : ∃ y : Cl, cs = y.cs ∧ y.typed := by
  obtain ⟨xs, fu, rfl, hx, hlen, hl, hf⟩ := DataW.trod_struct Tryz.underlying36 h
  have h0 := hf 0 _ rfl
  have h1 := hf 1 _ rfl
  rw [cells_C] at hlen
  match xs, hl with
  | [y0, y1], _ =>
    obtain ⟨l, c, e0, hlab⟩ := trod_label h0
    obtain ⟨b, e1, _⟩ := DataW.trod_bool Tryz.underlying4 h1
    replace e0 : (cs.drop 0).take 2 = [.int .u8 l, .int .u32 c] := by rw [← cells_L]; exact e0
    replace e1 : (cs.drop 2).take 1 = [.bool b] := by rw [← cells_bool]; exact e1
    match cs, hlen with
    | [c0, c1, c2], _ =>
      simp at e0 e1
      obtain ⟨rfl, rfl⟩ := e0
      subst e1
      exact ⟨⟨l, c, b⟩, rfl, hlab⟩
theorem trod_quota {fuel : Nat} {cs : List Value} {x : DataW H × List MemPlace} (h : DataW.trod enc Tryz.prog W base spare held fuel 190 cs = some x) : ∃ y : Qt, cs = y.cs ∧ y.typed := by
  obtain ⟨xs, fu, rfl, hx, hlen, hl, hf⟩ := DataW.trod_struct Tryz.underlying190 h
  have h0 := hf 0 _ rfl
  have h1 := hf 1 _ rfl
  have h2 := hf 2 _ rfl
  have h3 := hf 3 _ rfl
  rw [cells_Q] at hlen
  match xs, hl with
  | [y0, y1, y2, y3], _ =>
    obtain ⟨l, c, e0, hlab⟩ := trod_label h0
    obtain ⟨n1, e1, rfl, w1⟩ := DataW.trod_int Tryz.underlying3 h1
    obtain ⟨n2, e2, rfl, w2⟩ := DataW.trod_int Tryz.underlying3 h2
    obtain ⟨n3, e3, rfl, w3⟩ := DataW.trod_int Tryz.underlying3 h3
    replace e0 : (cs.drop 0).take 2 = [.int .u8 l, .int .u32 c] := by rw [← cells_L]; exact e0
    replace e1 : (cs.drop 2).take 1 = [.int .i64 n1] := by rw [← cells_int]; exact e1
    replace e2 : (cs.drop 3).take 1 = [.int .i64 n2] := by rw [← cells_int]; exact e2
    replace e3 : (cs.drop 4).take 1 = [.int .i64 n3] := by rw [← cells_int]; exact e3
    match cs, hlen with
    | [c0, c1, c2, c3, c4], _ =>
      simp at e0 e1 e2 e3
      obtain ⟨rfl, rfl⟩ := e0
      subst e1 e2 e3
      have b1 := bounds_i64 w1
      have b2 := bounds_i64 w2
      have b3 := bounds_i64 w3
      have i1 : In64 n1 := ⟨by omega, by omega⟩
      have i2 : In64 n2 := ⟨by omega, by omega⟩
      have i3 : In64 n3 := ⟨by omega, by omega⟩
      exact ⟨⟨l, c, n1, n2, n3⟩, rfl, hlab, i1, i2, i3⟩
end

/-- A policy, in a world: its users, its quotas, its grants. -/
structure Pol (W : World) (A : Option Addr) (n c : Nat) (B : Option Addr) (m d : Nat) (g : Int) (us : List Cl) (qs : List Qt) : Prop where
  hn : us.length = n
  hm : qs.length = m
  hu : RdC W A c us
  hq : RdQ W B d qs
  hg : In64 g
theorem Pol.keep {w w' : World} (hb : Below w.heap.size w w') {A : Option Addr} {n c : Nat} {B : Option Addr} {m d : Nat} {g : Int} {us : List Cl} {qs : List Qt} (h : Pol w A n c B m d g us qs) : Pol w' A n c B m d g us qs := ⟨h.hn, h.hm, h.hu.keep hb, h.hq.keep hb, h.hg⟩

section
variable {H : Type} {enc : TypeId × Value → H} {W : World} {base b0 : Nat} {spare : Nat → Bool} {held : Bool} {v : Value} {d : DataW H} {p : List MemPlace} {r : Reach}
theorem open_label (hv : Value.okWide Tryz.prog W r b0 24 v) (h : DataW.Trod enc Tryz.prog W base spare held 24 v d p) : ∃ l c : Int, v = .agg #[.int .u8 l, .int .u32 c] ∧ Lab l c := by
  obtain ⟨cs, rfl, hsz⟩ := okWide_struct Tryz.underlying24 hv
  obtain ⟨fuel, hf⟩ := h
  obtain ⟨l, c, e, hi⟩ := trod_label hf
  refine ⟨l, c, ?_, hi⟩
  obtain ⟨cs⟩ := cs
  simp only [Value.cells] at e
  rw [e]
end
/-! ### What may be -/
def zC : Cl := ⟨0, 0, false⟩
def zQ : Qt := ⟨0, 0, 0, 0, 0⟩
def inR (n m : Int) : Bool := decide (0 ≤ n ∧ n ≤ m)
def clearB (x : Cl) : Bool := mayL x.l && (x.ok || sameL x.l x.c 0 0)
def quotaB (x : Qt) : Bool := mayL x.l && inR x.o 64 && inR x.p 256 && inR x.k 4096
def nextB (qs : List Qt) (j : Nat) : Bool := j == 0 || aheadB (qs.getD (j - 1) zQ).l (qs.getD (j - 1) zQ).c (qs.getD j zQ).l (qs.getD j zQ).c
def okU (us : List Cl) : Nat → Bool
  | 0 => true
  | j + 1 => okU us j && clearB (us.getD j zC)
def okQ (qs : List Qt) : Nat → Bool
  | 0 => true
  | j + 1 => okQ qs j && (quotaB (qs.getD j zQ) && nextB qs j)
def smB (qs : List Qt) : Nat → Int
  | 0 => 0
  | j + 1 => smB qs j + ((qs.getD j zQ).o + 4 * (qs.getD j zQ).p)
def smC (qs : List Qt) : Nat → Int
  | 0 => 0
  | j + 1 => smC qs j + (qs.getD j zQ).k
def usersB (us : List Cl) : Bool := decide (us.length ≤ 8) && okU us us.length
def quotasB (qs : List Qt) : Bool := decide (qs.length ≤ 8) && okQ qs qs.length
def rightB (us : List Cl) (qs : List Qt) (g : Int) : Bool := usersB us && quotasB qs && inR g 64 && decide (g + smB qs qs.length ≤ 2048) && decide (smC qs qs.length ≤ 8192)

theorem getD_at {α : Type} (l : List α) (z : α) (j : Nat) (h : j < l.length) : l.getD j z = l[j] := by
  rw [List.getD_eq_getElem?_getD, List.getElem?_eq_getElem h]; rfl

/-- The first of what may be wrong. -/
def gath : List Int → Int
  | [] => 0
  | x :: l => if x = 0 then gath l else x
theorem gath2 (a b : Bool) : gath [er a, er b] = er (a && b) := by cases a <;> cases b <;> rfl
theorem gath4 (a b c d : Bool) : gath [er a, er b, er c, er d] = er (a && b && c && d) := by cases a <;> cases b <;> cases c <;> cases d <;> rfl
theorem gath5 (a b c d e : Bool) : gath [er a, er b, er c, er d, er e] = er (a && b && c && d && e) := by cases a <;> cases b <;> cases c <;> cases d <;> cases e <;> rfl

/-- Sums that may run over. -/
def wB (x : Qt) : Int := wrap64 (x.o + wrap64 (4 * x.p))
def wC (x : Qt) : Int := x.k
def smW (f : Qt → Int) (qs : List Qt) : Nat → Int
  | 0 => 0
  | j + 1 => wrap64 (smW f qs j + f (qs.getD j zQ))
theorem wrap64_id {x : Int} (h0 : -9223372036854775808 ≤ x) (h1 : x ≤ 9223372036854775807) : wrap64 x = x := by unfold wrap64; omega
theorem quotaB_range {x : Qt} (h : quotaB x = true) : (0 ≤ x.o ∧ x.o ≤ 64) ∧ (0 ≤ x.p ∧ x.p ≤ 256) ∧ (0 ≤ x.k ∧ x.k ≤ 4096) := by
  simp only [quotaB, inR, Bool.and_eq_true, decide_eq_true_eq] at h
  exact ⟨h.1.1.2, h.1.2, h.2⟩
theorem okQ_sums (qs : List Qt) : ∀ j, j ≤ 8 → okQ qs j = true → smW wB qs j = smB qs j ∧ smW wC qs j = smC qs j ∧ (0 ≤ smB qs j ∧ smB qs j ≤ j * 1088) ∧ (0 ≤ smC qs j ∧ smC qs j ≤ j * 4096)
  | 0, _, _ => ⟨rfl, rfl, by simp [smB], by simp [smC]⟩
  | j + 1, hj, h => by
    rw [okQ, Bool.and_eq_true, Bool.and_eq_true] at h
    obtain ⟨h1, h2, h3, h4⟩ := okQ_sums qs j (by omega) h.1
    have hr := quotaB_range h.2.1
    refine ⟨?_, ?_, ?_, ?_⟩
    · rw [smW, smB, h1, wB, wrap64_id (x := 4 * _) (by omega) (by omega), wrap64_id (x := _ + 4 * _) (by omega) (by omega), wrap64_id (by omega) (by omega)]
    · rw [smW, smC, h2, wC, wrap64_id (by omega) (by omega)]
    · rw [smB]; omega
    · rw [smC]; omega
/-- What the program's Check gathers is what the document asks. -/
theorem right_gath (us : List Cl) (qs : List Qt) (g : Int) :
    gath [er (usersB us), er (quotasB qs), er (inR g 64), er (inR (wrap64 (g + smW wB qs qs.length)) 2048), er (inR (smW wC qs qs.length) 8192)] = er (rightB us qs g) := by
  rw [gath5, rightB]
  cases hu : usersB us
  · simp
  cases hq : quotasB qs
  · simp
  cases hg : inR g 64
  · simp
  · simp only [quotasB, Bool.and_eq_true, decide_eq_true_eq] at hq
    obtain ⟨h1, h2, h3, h4⟩ := okQ_sums qs qs.length hq.1 hq.2
    simp only [inR, decide_eq_true_eq] at hg
    rw [h1, h2, wrap64_id (by omega) (by omega)]
    congr 1
    simp only [inR, Bool.true_and]
    rw [Bool.eq_iff_iff, Bool.and_eq_true, Bool.and_eq_true, decide_eq_true_eq, decide_eq_true_eq, decide_eq_true_eq, decide_eq_true_eq]
    omega
end Go.Proofs.YtndmblhkmgnpcaaGreat
