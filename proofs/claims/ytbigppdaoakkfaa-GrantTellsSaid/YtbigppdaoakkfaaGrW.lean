/-
  The words of layer 7: grants as values, what comes in, what comes of a grant.
-/
import Derived.Test.YtbigppdaoakkfaaPoW
namespace Go.Proofs.Ytbigppdaoakkfaa
open Go.RowKit Go.ChangeShapes Go.WideShapes Go.ChangeAt
set_option maxRecDepth 100000
set_option linter.unusedVariables false
set_option linter.unusedSimpArgs false

/-- A grant's numbers. -/
structure Gr where
  u : Int
  l : Int
  c : Int
  ok : Bool
def Gr.cs (x : Gr) : List Value := [.int .i64 x.u, .int .u8 x.l, .int .u32 x.c, .bool x.ok]
theorem Gr.cs_length (x : Gr) : x.cs.length = 4 := rfl
theorem Gr.cs_one (x : Gr) : ∀ u ∈ x.cs, u.oneCell' = true := fun u hu => by
  simp only [Gr.cs, List.mem_cons, List.not_mem_nil, or_false] at hu
  rcases hu with rfl | rfl | rfl | rfl <;> rfl
structure Gr.typed (x : Gr) : Prop where
  u : In64 x.u
  lab : Lab x.l x.c
def Gr.cl (x : Gr) : Cl := ⟨x.l, x.c, x.ok⟩
def zG : Gr := ⟨0, 0, 0, false⟩

def RdG (w : World) (A : Option Addr) (c : Nat) (l : List Gr) : Prop := Rds Gr.cs w A c l ∧ ∀ x ∈ l, x.typed
theorem RdG.keep {w w' : World} (hb : Below w.heap.size w w') {A : Option Addr} {c : Nat} {l : List Gr} (h : RdG w A c l) : RdG w' A c l := ⟨h.1.keep hb, h.2⟩
theorem RdG.nil (w : World) : RdG w none 0 [] := ⟨Rds.nil w, fun x hx => by cases hx⟩
theorem RdG.len {w : World} {A : Option Addr} {c : Nat} {l : List Gr} (h : RdG w A c l) : l.length ≤ c := h.1.1
theorem RdG.cap {w : World} {A : Option Addr} {c : Nat} {l : List Gr} (h : RdG w A c l) : c ≤ 9223372036854775807 := h.1.2.1
theorem RdG.at_ {w : World} {A : Option Addr} {c : Nat} {l : List Gr} (h : RdG w A c l) (hp : 0 < l.length) :
    ∃ b o, A = some ⟨b, o, none⟩ ∧ ∀ j (hj : j < l.length), w.cell? ⟨b, o + j * 4, none⟩ = some (.int .i64 l[j].u) ∧ w.cell? ⟨b, o + j * 4 + 1, none⟩ = some (.int .u8 l[j].l) ∧ w.cell? ⟨b, o + j * 4 + 2, none⟩ = some (.int .u32 l[j].c) ∧ w.cell? ⟨b, o + j * 4 + 3, none⟩ = some (.bool l[j].ok) ∧ l[j].typed := by
  obtain ⟨b, o, hA, hc⟩ := h.1.2.2 hp
  refine ⟨b, o, hA, fun j hj => ⟨?_, ?_, ?_, ?_, h.2 _ (List.getElem_mem hj)⟩⟩
  · exact Rds.each (c := c) Gr.cs_length hc j hj 0 (by omega) _ rfl
  · rw [Nat.add_assoc]; exact Rds.each (c := c) Gr.cs_length hc j hj 1 (by omega) _ rfl
  · rw [Nat.add_assoc]; exact Rds.each (c := c) Gr.cs_length hc j hj 2 (by omega) _ rfl
  · rw [Nat.add_assoc]; exact Rds.each (c := c) Gr.cs_length hc j hj 3 (by omega) _ rfl

/-- Grants, in a world. -/
structure Grs (W : World) (A : Option Addr) (n c : Nat) (l : List Gr) : Prop where
  hn : l.length = n
  hr : RdG W A c l
theorem Grs.keep {w w' : World} (hb : Below w.heap.size w w') {A : Option Addr} {n c : Nat} {l : List Gr} (h : Grs w A n c l) : Grs w' A n c l := ⟨h.hn, h.hr.keep hb⟩

/-! ### What comes in -/
theorem cells_G : Try.prog.cellsOf 36 = 4 := by kernel_rfl
section
variable {H : Type} {enc : TypeId × Value → H} {W : World} {base : Nat} {spare : Nat → Bool} {held : Bool}
theorem trod_grant {fuel : Nat} {cs : List Value} {x : DataW H × List MemPlace} (h : DataW.trod enc Try.prog W base spare held fuel 36 cs = some x) : ∃ y : Gr, cs = y.cs ∧ y.typed := by
  obtain ⟨xs, fu, rfl, hx, hlen, hl, hf⟩ := DataW.trod_struct Try.underlying36 h
  have h0 := hf 0 _ rfl
  have h1 := hf 1 _ rfl
  rw [cells_G] at hlen
  match xs, hl with
  | [y0, y1], _ =>
    obtain ⟨u, e0, rfl, w1⟩ := DataW.trod_int Try.underlying3 h0
    obtain ⟨y, e1, hlab⟩ := trod_clear h1
    replace e0 : (cs.drop 0).take 1 = [.int .i64 u] := by rw [← cells_int]; exact e0
    replace e1 : (cs.drop 1).take 3 = y.cs := by rw [← cells_C]; exact e1
    match cs, hlen with
    | [c0, c1, c2, c3], _ =>
      obtain ⟨y0, y1, y2⟩ := y
      simp [Cl.cs] at e0 e1
      obtain ⟨rfl, rfl, rfl⟩ := e1
      subst e0
      have b1 := bounds_i64 w1
      have i1 : In64 u := ⟨by omega, by omega⟩
      exact ⟨⟨u, y0, y1, y2⟩, rfl, i1, hlab⟩
theorem trod_grants {fuel : Nat} {cs : List Value} {x : DataW H × List MemPlace} (h : DataW.trod enc Try.prog W base spare held fuel 46 cs = some x) : ∃ (A : Option Addr) (n c : Nat) (l : List Gr), cs = [.slice A n c] ∧ Hid (l.length = n) ∧ RdG W A c l := by
  obtain ⟨A, n, c, l, h1, h2, h3, h4⟩ := trod_rs (f := Gr.cs) (T := Gr.typed) Try.underlying46 cells_G Gr.cs_length (by omega) (fun fuel cs x h => trod_grant h) h
  exact ⟨A, n, c, l, h1, h2, h3, h4⟩
end
section
variable {H : Type} {enc : TypeId × Value → H} {W : World} {base b0 : Nat} {spare : Nat → Bool} {held : Bool} {v : Value} {d : DataW H} {p : List MemPlace} {r : Reach}
theorem open_grant (hv : Value.okWide Try.prog W r b0 36 v) (h : DataW.Trod enc Try.prog W base spare held 36 v d p) : ∃ (u l c : Int) (b : Bool), v = .agg #[.int .i64 u, .int .u8 l, .int .u32 c, .bool b] ∧ Gr.typed ⟨u, l, c, b⟩ := by
  obtain ⟨cs, rfl, hsz⟩ := okWide_struct Try.underlying36 hv
  obtain ⟨fuel, hf⟩ := h
  obtain ⟨y, e, hi⟩ := trod_grant hf
  refine ⟨y.u, y.l, y.c, y.ok, ?_, hi⟩
  obtain ⟨cs⟩ := cs
  simp only [Value.cells] at e
  rw [e]
  rfl
theorem open_grants (hv : Value.okWide Try.prog W r b0 46 v) (h : DataW.Trod enc Try.prog W base spare held 46 v d p) : ∃ (A : Option Addr) (n c : Nat) (l : List Gr), v = .slice A n c ∧ Grs W A n c l := by
  obtain ⟨a1, len, cap, rfl⟩ := okWide_slice Try.underlying46 hv
  obtain ⟨fuel, hf⟩ := h
  obtain ⟨A, n, c, l, e, hn, hr⟩ := trod_grants hf
  simp [Value.cells] at e
  obtain ⟨rfl, rfl, rfl⟩ := e
  exact ⟨a1, len, cap, l, rfl, hn.out, hr⟩
end

/-! ### What comes of a grant -/
def mayG (x : Gr) : Bool := inR x.u 7 && clearB x.cl
/-- The error of a grant to a policy that may be. -/
def stE (us : List Cl) (g : Int) (x : Gr) : Int := if mayG x = true then (if (us.length : Int) ≤ x.u then 2 else if g = 0 then 9 else 0) else 8
def stU (us : List Cl) (g : Int) (x : Gr) : List Cl := if stE us g x = 0 then us.set x.u.toNat x.cl else us
def stG (us : List Cl) (g : Int) (x : Gr) : Int := if stE us g x = 0 then g - 1 else g
theorem stU_length (us : List Cl) (g : Int) (x : Gr) : (stU us g x).length = us.length := by
  unfold stU; split <;> simp

/-- What the first j grants come to: users, grants, errors. -/
structure St where
  us : List Cl
  g : Int
  es : List Int
def rn (us : List Cl) (g : Int) (l : List Gr) : Nat → St
  | 0 => ⟨us, g, []⟩
  | j + 1 => ⟨stU (rn us g l j).us (rn us g l j).g (l.getD j zG), stG (rn us g l j).us (rn us g l j).g (l.getD j zG), (rn us g l j).es ++ [stE (rn us g l j).us (rn us g l j).g (l.getD j zG)]⟩
theorem rn_length (us : List Cl) (g : Int) (l : List Gr) : ∀ j, (rn us g l j).us.length = us.length ∧ (rn us g l j).es.length = j
  | 0 => ⟨rfl, rfl⟩
  | j + 1 => ⟨by rw [rn]; simp [stU_length, (rn_length us g l j).1], by rw [rn]; simp [(rn_length us g l j).2]⟩
theorem rn_g (us : List Cl) (g : Int) (l : List Gr) (h0 : 0 ≤ g) : ∀ j, 0 ≤ (rn us g l j).g ∧ (rn us g l j).g ≤ g
  | 0 => ⟨h0, Int.le_refl _⟩
  | j + 1 => by
    have h := rn_g us g l h0 j
    rw [rn]
    simp only [stG]
    split
    · rename_i he
      have : (rn us g l j).g ≠ 0 := by
        intro hz
        unfold stE at he
        rw [hz] at he
        split at he
        · split at he
          · cases he
          · simp at he
        · cases he
      omega
    · exact h
end Go.Proofs.Ytbigppdaoakkfaa
