/-
  The document's own answers of layer 12: Written, Write.
-/
import Derived.Test.YtofnjdkfhboapaaDkE
namespace Go.Proofs.Ytofnjdkfhboapaa
open Go.RowKit
set_option linter.unusedVariables false
set_option linter.unusedSimpArgs false

theorem MxS.setc {w0 w : World} {base : Nat} {A : Option Addr} {c : Nat} {L : List Sct} (h : MxS w0 base w A c L) {g : Nat} (hg0 : w0.heap.size ≤ g) (hg : g < base) (k : Nat) (v : Value) : MxS w0 base (w.setCell ⟨g, k, none⟩ v) A c L := by
  obtain ⟨xs, h1, h2, h3, h4, h5, h6⟩ := h
  have hh : ∀ q, q ≠ g → (w.setCell ⟨g, k, none⟩ v).heap[q]? = w.heap[q]? := fun q hq => Below.heap_setCell _ _ _ _ hq
  have b := h4.setCell (p := ⟨g, k, none⟩) hg0 v
  refine ⟨xs, h1, own_other hh hg h2, fun x hx => (h3 x hx).imp id (fun h => own_other hh hg h), b, h5, ?_⟩
  simpa using h6
theorem written_dead {d : Dsk} (h : d.dd = true ∨ d.lf = 0) (a : Int) (y : List UInt8) : writtenK d a y = ⟨d.se, d.st, d.lf, true⟩ := by rw [writtenK, if_pos h]
theorem written_more {d : Dsk} (h : d.dd = false) (h0 : 0 < d.lf) (a : Int) (y : List UInt8) : writtenK d a y = ⟨withS d.se a y, d.st, d.lf - 1, false⟩ := by rw [writtenK, if_neg (by simp [h]; omega), if_pos h0, h]
theorem written_less {d : Dsk} (h : d.dd = false) (h0 : d.lf < 0) (a : Int) (y : List UInt8) : writtenK d a y = ⟨withS d.se a y, d.st, d.lf, false⟩ := by rw [writtenK, if_neg (by simp [h]; omega), if_neg (by omega), h]

set_option maxRecDepth 100000 in
set_option maxHeartbeats 3200000 in
theorem kwritten_of (d : Dsk) (A : Option Addr) (n c : Nat) (a : Int) (B : Option Addr) (q : Nat) (y : List UInt8) (v : Dsk) (hn : Hid (d.se.length = n)) (h5 : n ≤ 4000) (hl : InD d.lf) (h8 : y.length = 128) (hv : Hid (writtenK d a y = v)) (w : World) (hr : RdS w A c d.se) (hs : Rd w B q y) :
    Calls Try.prog 34 #[.agg #[.slice A n c, .int .i64 d.st, .int .i64 d.lf, .bool d.dd], .int .i64 a, .slice B 128 q] w fun e w' => ∃ A' m c', e = .returned (.agg #[.slice A' m c', .int .i64 v.st, .int .i64 v.lf, .bool v.dd]) ∧ Hid (v.se.length = m) ∧ RdS w' A' c' v.se ∧ Below w.heap.size w w' := by
  obtain ⟨l0, l1⟩ := hl
  have HR := hid hr
  have HS := hid hs
  have H8 := hid h8
  clear hr hs h8
  go_enter Try.func34, Try.ntmps34
  cases hdd : d.dd with
  | true =>
    obtain rfl : v = ⟨d.se, d.st, d.lf, true⟩ := by rw [← hv.out]; exact written_dead (.inl hdd) a y
    go_wp2
    exact bodyPost_ret (v := .agg #[.slice A n c, .int .i64 (d.st), .int .i64 (d.lf), .bool true]) (by simp [results, Try.results34, go_sem]) rfl ⟨A, n, c, rfl, hn, HR.out.keep (by go_grown), by go_grown⟩
  | false =>
    by_cases h0 : d.lf = 0
    · obtain rfl : v = ⟨d.se, d.st, 0, true⟩ := by rw [← hv.out, written_dead (.inr h0) a y, h0]
      have d0 : (d.lf == 0) = true := by simpa using h0
      go_wp2
      exact bodyPost_ret (v := .agg #[.slice A n c, .int .i64 (d.st), .int .i64 0, .bool true]) (by simp [results, Try.results34, go_sem]) rfl ⟨A, n, c, rfl, hn, HR.out.keep (by go_grown), by go_grown⟩
    have d0 : (d.lf == 0) = false := by simpa using h0
    by_cases h1 : 0 < d.lf
    · obtain rfl : v = ⟨withS d.se a y, d.st, d.lf - 1, false⟩ := by rw [← hv.out]; exact written_more hdd h1 a y
      have tk := twoK_new w ⟨d.se, d.st, d.lf - 1, false⟩ A n c
      go_wp2_with fail
      generalize World.alloc (World.alloc w _) _ = W at tk ⊢
      refine (kwith_of d.se A n c a B q y hn h5 H8.out w W tk.be HR.out HS.out).mono ?_
      rintro e w3 ⟨A3, m, c3, rfl, hm, ho, b3⟩
      obtain ⟨xa, xz, fa, fz, hb3⟩ := tk.keep b3
      have ew := tk.sz
      have x0 := xa.sl
      have x1 := xa.s
      have x2 := xa.l
      have x3 := xa.d
      have z0 := xz.sl
      have z1 := xz.s
      have z2 := xz.l
      have z3 := xz.d
      have f0 := fa 0 (by omega)
      have g0 := fz 0 (by omega)
      have g1 := fz 1 (by omega)
      have g2 := fz 2 (by omega)
      have g3 := fz 3 (by omega)
      clear xa xz fa fz tk b3
      simp only at x0 x1 x2 x3
      have EW := hid ew
      clear ew
      go_wp2
      have ew := EW.out
      exact bodyPost_ret (v := .agg #[.slice A3 m c3, .int .i64 (d.st), .int .i64 (d.lf - 1), .bool false]) (by simp [results, Try.results34, go_sem, *]) rfl ⟨A3, m, c3, rfl, hm, (MxS.setc (MxS.setc (MxS.setc (MxS.setc (MxS.setc ho (by omega) (by omega) _ _) (by omega) (by omega) _ _) (by omega) (by omega) _ _) (by omega) (by omega) _ _) (by omega) (by omega) _ _).rd, set4 (hb3.setCell (Nat.le_refl _) _) (by omega) _ _ _ _⟩
    · obtain rfl : v = ⟨withS d.se a y, d.st, d.lf, false⟩ := by rw [← hv.out]; exact written_less hdd (by omega) a y
      have tk := twoK_new w ⟨d.se, d.st, d.lf, false⟩ A n c
      go_wp2_with fail
      generalize World.alloc (World.alloc w _) _ = W at tk ⊢
      refine (kwith_of d.se A n c a B q y hn h5 H8.out w W tk.be HR.out HS.out).mono ?_
      rintro e w3 ⟨A3, m, c3, rfl, hm, ho, b3⟩
      obtain ⟨xa, xz, fa, fz, hb3⟩ := tk.keep b3
      have ew := tk.sz
      have x0 := xa.sl
      have x1 := xa.s
      have x2 := xa.l
      have x3 := xa.d
      have z0 := xz.sl
      have z1 := xz.s
      have z2 := xz.l
      have z3 := xz.d
      have f0 := fa 0 (by omega)
      have g0 := fz 0 (by omega)
      have g1 := fz 1 (by omega)
      have g2 := fz 2 (by omega)
      have g3 := fz 3 (by omega)
      clear xa xz fa fz tk b3
      simp only at x0 x1 x2 x3
      have EW := hid ew
      clear ew
      go_wp2
      have ew := EW.out
      exact bodyPost_ret (v := .agg #[.slice A3 m c3, .int .i64 (d.st), .int .i64 (d.lf), .bool false]) (by simp [results, Try.results34, go_sem, *]) rfl ⟨A3, m, c3, rfl, hm, (MxS.setc (MxS.setc (MxS.setc (MxS.setc (MxS.setc ho (by omega) (by omega) _ _) (by omega) (by omega) _ _) (by omega) (by omega) _ _) (by omega) (by omega) _ _) (by omega) (by omega) _ _).rd, set4 (hb3.setCell (Nat.le_refl _) _) (by omega) _ _ _ _⟩
end Go.Proofs.Ytofnjdkfhboapaa
