/-
  The program's Put of layer 9, at every operation.
-/
import Derived.Test.YtbhglgcnoidddaaOpM1
import Derived.Test.YtbhglgcnoidddaaOpM2
import Derived.Test.YtbhglgcnoidddaaOpM3
namespace Go.Proofs.Ytbhglgcnoidddaa
open Go.RowKit
set_option linter.unusedVariables false
set_option linter.unusedSimpArgs false

theorem oput_yes (m : Nat) (o : Opd) (A : Option Addr) (n c : Nat) (hn : Hid (o.row.length = n)) (hr : Opr o) (hm : mayO o = true) (hl : Hid ((opb o).length = m)) (w : World) (hri : Ri w A c o.row) :
    Calls Try.prog 16 #[.agg #[.int .u8 o.kd, .int .u8 o.l, .int .u32 o.c, .int .u8 o.k, .int .i64 o.s, .int .u8 o.fl, .int .u32 o.fc, .int .u8 o.fk, .int .i64 o.fn, .int .i64 o.fm, .int .u8 o.al, .int .u32 o.ac, .int .u8 o.ak, .int .i64 o.an, .int .u8 o.tl, .int .u32 o.tc, .slice A n c]] w fun e w' => ∃ A' c', e = .returned (.tuple #[.slice A' m c', .int .i64 0]) ∧ Rd w' A' c' (opb o) ∧ Below w.heap.size w w' := by
  have h := hl.out
  rw [opb, List.length_append, headO_length] at h
  subst h
  rcases (maid hm).kd with hk | hk | hk
  · exact put1_of _ o A n c hn hr hm hk rfl w hri
  · exact put2_of _ o A n c hn hr hm hk rfl w hri
  · exact put3_of _ o A n c hn hr hm hk rfl w hri

set_option maxRecDepth 100000 in
set_option maxHeartbeats 800000 in
theorem oput_no (o : Opd) (A : Option Addr) (n c : Nat) (hn : Hid (o.row.length = n)) (hm : Hid (mayO o = false)) (w : World) (hri : Ri w A c o.row) :
    Calls Try.prog 16 #[.agg #[.int .u8 o.kd, .int .u8 o.l, .int .u32 o.c, .int .u8 o.k, .int .i64 o.s, .int .u8 o.fl, .int .u32 o.fc, .int .u8 o.fk, .int .i64 o.fn, .int .i64 o.fm, .int .u8 o.al, .int .u32 o.ac, .int .u8 o.ak, .int .i64 o.an, .int .u8 o.tl, .int .u32 o.tc, .slice A n c]] w fun e w' => e = .returned (.tuple #[.slice none 0 0, .int .i64 8]) ∧ Below w.heap.size w w' := by
  have HJ := hid (show er (mayO o) = 8 by rw [hm.out]; rfl)
  have bx := boxO_new w o A n c 35
  go_enter Try.func16, Try.ntmps16
  go_wp2_with (refine wpList_load_o rfl (.tmp 1) rfl _ rfl bx ?_)
  refine (ocheck_of 8 o A n c hn HJ _ (hri.alloc _)).mono ?_
  rintro e W ⟨rfl, b1⟩
  have hb := past_alloc b1
  go_wp2
  go_ret2
  exact ⟨rfl, hb⟩

theorem oput_of (L : List UInt8) (m : Nat) (j : Int) (o : Opd) (A : Option Addr) (n c : Nat) (hn : Hid (o.row.length = n)) (hr : Opr o) (hL : Hid ((if mayO o = true then opb o else []) = L ∧ L.length = m ∧ er (mayO o) = j)) (w : World) (hri : Ri w A c o.row) :
    Calls Try.prog 16 #[.agg #[.int .u8 o.kd, .int .u8 o.l, .int .u32 o.c, .int .u8 o.k, .int .i64 o.s, .int .u8 o.fl, .int .u32 o.fc, .int .u8 o.fk, .int .i64 o.fn, .int .i64 o.fm, .int .u8 o.al, .int .u32 o.ac, .int .u8 o.ak, .int .i64 o.an, .int .u8 o.tl, .int .u32 o.tc, .slice A n c]] w fun e w' => ∃ A' c', e = .returned (.tuple #[.slice A' m c', .int .i64 j]) ∧ Rd w' A' c' L ∧ Below w.heap.size w w' := by
  obtain ⟨h1, h2, h3⟩ := hL.out
  cases hm : mayO o
  · rw [if_neg (by rw [hm]; simp)] at h1
    rw [hm] at h3
    subst h1 h2 h3
    refine (oput_no o A n c hn (hid hm) w hri).mono ?_
    rintro e w' ⟨rfl, b⟩
    exact ⟨none, 0, rfl, Rd.nil _, b⟩
  · rw [if_pos hm] at h1
    rw [hm] at h3
    subst h1 h3
    exact oput_yes m o A n c hn hr hm (hid h2) w hri
end Go.Proofs.Ytbhglgcnoidddaa
