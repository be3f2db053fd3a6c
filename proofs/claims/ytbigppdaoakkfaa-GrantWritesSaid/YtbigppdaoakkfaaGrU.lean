/-
  What the statements of layer 7 share: bytes that come in; grants compared; a grant's bytes there and back; calls told with their errors' numbers.
-/
import Derived.Test.YtbigppdaoakkfaaGrK
import Derived.Test.YtbigppdaoakkfaaGrV
namespace Go.Proofs.Ytbigppdaoakkfaa
open Go.ChangeShapes Go.WideShapes Go.ChangeAt Go.RowKit Go.Joins
set_option linter.unusedVariables false
set_option linter.unusedSimpArgs false
set_option maxRecDepth 100000

section
variable {H : Type} {enc : TypeId × Value → H} {W : World} {base b0 : Nat} {spare : Nat → Bool} {held : Bool} {v : Value} {d : DataW H} {p : List MemPlace} {r : Reach}
theorem open_bytes (hv : Value.okWide Try.prog W r b0 38 v) (h : DataW.Trod enc Try.prog W base spare held 38 v d p) : ∃ (A : Option Addr) (n c : Nat) (l : List UInt8), v = .slice A n c ∧ Hid (l.length = n) ∧ Rd W A c l :=
  open_rd Try.underlying38 Try.underlying5 cells_u8 hv h
end

def sameG (u l c : Int) (b : Bool) (u' l' c' : Int) (b' : Bool) : Bool := u == u' && l == l' && c == c' && b == b'
theorem sameG_refl (u l c : Int) (b : Bool) : sameG u l c b u l c b = true := by simp [sameG]
theorem stoodG : Try.prog.stoodInHeld 36 = false := by kernel_rfl
theorem eql_grant (w : World) (a b c a' b' c' : Int) (d d' : Bool) : (binOp .eql 36 (.agg #[.int .i64 a, .int .u8 b, .int .u32 c, .bool d]) (.agg #[.int .i64 a', .int .u8 b', .int .u32 c', .bool d'])).run Try.prog w = .ok (.bool (sameG a b c d a' b' c' d')) w := by
  have e1 := stoodG
  unfold sameG
  by_cases h1 : a = a' <;> by_cases h2 : b = b' <;> by_cases h3 : c = c' <;> by_cases h4 : d = d' <;> simp [go_sem, e1, h1, h2, h3, h4]
theorem neq_grant (w : World) (a b c a' b' c' : Int) (d d' : Bool) : (binOp .neq 36 (.agg #[.int .i64 a, .int .u8 b, .int .u32 c, .bool d]) (.agg #[.int .i64 a', .int .u8 b', .int .u32 c', .bool d'])).run Try.prog w = .ok (.bool (!sameG a b c d a' b' c' d')) w := by
  have e1 := stoodG
  unfold sameG
  by_cases h1 : a = a' <;> by_cases h2 : b = b' <;> by_cases h3 : c = c' <;> by_cases h4 : d = d' <;> simp [go_sem, e1, h1, h2, h3, h4]

theorem gput_j (L : List UInt8) (m : Nat) (k : Int) (x : Gr) (ht : Hid x.typed) (hL : Hid (pb x = L ∧ L.length = m ∧ er (mayG x) = k)) (w : World) :
    Calls Try.prog 11 #[.agg #[.int .i64 (x.u), .int .u8 (x.l), .int .u32 (x.c), .bool (x.ok)]] w fun e w' => ∃ A' c', e = .returned (.tuple #[.slice A' m c', .int .i64 k]) ∧ Rd w' A' c' L ∧ Below w.heap.size w w' := by
  obtain ⟨u, l, c, b⟩ := x
  exact gput_of L m k u l c b ht.out hL w
theorem gget_j (j : Int) (q : Bool) (u l0 l1 : Int) (ok : Bool) (A : Option Addr) (n c : Nat) (l : List UInt8) (hn : Hid (l.length = n)) (hx : Hid (okG l = q ∧ er q = j ∧ pickG q (gg l) = ⟨u, l0, l1, ok⟩)) (w : World) (hr : Rd w A c l) :
    Calls Try.prog 12 #[.slice A n c] w fun e w' => e = .returned (.tuple #[.agg #[.int .i64 u, .int .u8 l0, .int .u32 l1, .bool ok], .int .i64 j]) ∧ Below w.heap.size w w' := by
  rw [← hx.out.2.1]; exact gget_of q u l0 l1 ok A n c l hn (hid ⟨hx.out.1, hx.out.2.2⟩) w hr

theorem four_of {l : List UInt8} (h : l.length = 4) : ∃ a b c d, l = [a, b, c, d] := by
  match l, h with
  | [a, b, c, d], _ => exact ⟨a, b, c, d, rfl⟩
theorem gby_gg (u a b : Nat) (ok : Bool) (hu : u < 256) (ha : a < 256) (hb : b < 4294967296) : gg (gby u ok a b) = ⟨u, a, b, ok⟩ ∧ (((gby u ok a b).getD 1 0).toNat ≤ 1) := by
  obtain ⟨x, y, z, t, h4⟩ := four_of (dg_length 4 b)
  have hv : vl [x, y, z, t] = b := by rw [← h4]; exact vl_dg 4 b (by simpa using hb)
  have e : gby u ok a b = [UInt8.ofNat u, b8 ok, UInt8.ofNat a, x, y, z, t] := by simp [gby, hby, h4]
  rw [e]
  constructor
  · show (⟨((UInt8.ofNat u).toNat : Int), ((UInt8.ofNat a).toNat : Int), (vl [x, y, z, t] : Int), b8 ok == 1⟩ : Gr) = _
    rw [ofNat_toNat hu, ofNat_toNat ha, hv]
    cases ok <;> rfl
  · show (b8 ok).toNat ≤ 1
    cases ok <;> decide
/-- What is put tells the grant. -/
theorem put_get {u l c : Int} {b : Bool} (ht : Gr.typed ⟨u, l, c, b⟩) (hm : mayG ⟨u, l, c, b⟩ = true) : okG (pb ⟨u, l, c, b⟩) = true ∧ gg (pb ⟨u, l, c, b⟩) = ⟨u, l, c, b⟩ ∧ (pb ⟨u, l, c, b⟩).length = 7 := by
  have hu := mayG_u hm
  have hlab : Lab l c := ht.lab
  have hu0 : 0 ≤ u := hu.1
  have hu7 : u ≤ 7 := hu.2
  have e : pb ⟨u, l, c, b⟩ = gby u.toNat b l.toNat c.toNat := by rw [pb, if_pos hm]
  have l0 := hlab.l0
  have l1 := hlab.l1
  have c0 := hlab.c0
  have c1 := hlab.c1
  obtain ⟨h1, h2⟩ := gby_gg u.toNat l.toNat c.toNat b (by omega) (by omega) (by omega)
  have h3 : gg (gby u.toNat b l.toNat c.toNat) = ⟨u, l, c, b⟩ := by
    rw [h1, Int.toNat_of_nonneg hu0, Int.toNat_of_nonneg l0, Int.toNat_of_nonneg c0]
  rw [e]
  refine ⟨?_, h3, gby_length _ _ _ _⟩
  rw [okG, h3, hm, gby_length, decide_eq_true h2]
  rfl
/-- What is got is put as just these bytes. -/
theorem get_put {l : List UInt8} (h : okG l = true) : pb (gg l) = l ∧ l.length = 7 ∧ mayG (gg l) = true ∧ Gr.typed (gg l) := by
  rw [okG, Bool.and_eq_true, Bool.and_eq_true, decide_eq_true_eq, decide_eq_true_eq] at h
  obtain ⟨⟨h7, h1⟩, hm⟩ := h
  refine ⟨?_, h7, hm, ?_⟩
  · rw [pb, if_pos hm]
    obtain ⟨b0, b1, b2, b3, b4, b5, b6, rfl⟩ := seven_of h7
    show gby (b0.toNat : Int).toNat (b1 == 1) (b2.toNat : Int).toNat (vl [b3, b4, b5, b6] : Int).toNat = _
    rw [Int.toNat_natCast, Int.toNat_natCast, Int.toNat_natCast, gby, hby]
    have h4 : dg 4 (vl [b3, b4, b5, b6]) = [b3, b4, b5, b6] := dg_vl [b3, b4, b5, b6]
    rw [h4, UInt8.ofNat_toNat, UInt8.ofNat_toNat]
    have hb : b8 (b1 == 1) = b1 := by
      have h1' : b1.toNat ≤ 1 := h1
      by_cases hz : b1.toNat = 0
      · have : b1 = 0 := UInt8.toNat_inj.1 hz
        subst this; rfl
      · have : b1 = 1 := UInt8.toNat_inj.1 (by show b1.toNat = 1; omega)
        subst this; rfl
    rw [hb]
    rfl
  · obtain ⟨b0, b1, b2, b3, b4, b5, b6, rfl⟩ := seven_of h7
    have y0 := u8_int b0
    have y2 := u8_int b2
    have y3 := vl_lt [b3, b4, b5, b6]
    simp only [List.length_cons, List.length_nil, Nat.reduceAdd, Nat.reducePow] at y3
    exact ⟨⟨by show _ ≤ (b0.toNat : Int); omega, by show (b0.toNat : Int) ≤ _; omega⟩, ⟨by show 0 ≤ (b2.toNat : Int); omega, by show (b2.toNat : Int) ≤ _; omega, by show 0 ≤ (vl [b3, b4, b5, b6] : Int); omega, by show (vl [b3, b4, b5, b6] : Int) ≤ _; omega⟩⟩
end Go.Proofs.Ytbigppdaoakkfaa
