/-
  Layer 12's laws: a disk that a write hands back, stored in a box of its own.
-/
import Derived.Test.YtofnjdkfhboapaaDlB
import Derived.Test.YtofnjdkfhboapaaDlM
import Derived.Test.YtofnjdkfhboapaaDkI
import Derived.Test.YtofnjdkfhboapaaDkO
namespace Go.Proofs.Ytofnjdkfhboapaa
open Go.RowKit
set_option linter.unusedVariables false
set_option linter.unusedSimpArgs false

theorem zbox_size (w : World) (cs : Array Value) : ((w.alloc (.cells cs 24)).drew).heap.size = w.heap.size + 1 := by simp [go_sem]
theorem Bk.drew {w : World} {b : Nat} {d : Dsk} {A : Option Addr} {n c : Nat} (h : Bk w b d A n c) : Bk w.drew b d A n c := h.keep (Below.refl _ w).drew
/-- A disk is stored whole. -/
theorem Bk.sto {w : World} {g : Nat} {d : Dsk} {A0 : Option Addr} {n0 c0 : Nat} (h : Bk w g d A0 n0 c0) (t : Dsk) (A : Option Addr) (n c : Nat) :
    Bk ((((w.setCell ⟨g, 0, none⟩ (.slice A n c)).setCell ⟨g, 1, none⟩ (.int .i64 t.st)).setCell ⟨g, 2, none⟩ (.int .i64 t.lf)).setCell ⟨g, 3, none⟩ (.bool t.dd)) g t A n c :=
  (((h.setA A n c t.se).setS t.st).setL t.lf).setD t.dd
theorem OwT.sto {w : World} {base : Nat} {A : Option Addr} {c : Nat} {L : List Sct} (h : OwT w base A c L) {g : Nat} (hg : g < base) (v0 v1 v2 v3 : Value) :
    OwT ((((w.setCell ⟨g, 0, none⟩ v0).setCell ⟨g, 1, none⟩ v1).setCell ⟨g, 2, none⟩ v2).setCell ⟨g, 3, none⟩ v3) base A c L :=
  (((h.setc hg _ _).setc hg _ _).setc hg _ _).setc hg _ _
theorem Tk.sto {w : World} {b : Nat} (h : Tk w b) (g : Nat) (v0 v1 v2 v3 : Value) :
    Tk ((((w.setCell ⟨g, 0, none⟩ v0).setCell ⟨g, 1, none⟩ v1).setCell ⟨g, 2, none⟩ v2).setCell ⟨g, 3, none⟩ v3) b :=
  (((h.setc g _ _).setc g _ _).setc g _ _).setc g _ _
/-- What was made: a disk in a box of its own. -/
structure Out (w : World) (v : Dsk) (g : Nat) (A : Option Addr) (c : Nat) (wx : World) : Prop where
  bk : Bk wx g v A v.se.length c
  ow : ∃ base, OwT wx base A c v.se
  tk : Tk wx g
  lo : w.heap.size ≤ g
  be : Below w.heap.size w wx
theorem Out.keep {w wx w' : World} {v : Dsk} {g : Nat} {A : Option Addr} {c : Nat} (h : Out w v g A c wx) (hb : Below wx.heap.size wx w') : Out w v g A c w' := by
  obtain ⟨b, o⟩ := h.ow
  exact ⟨h.bk.keep hb, ⟨b, o.keep hb⟩, h.tk.keep hb, h.lo, below_in h.be hb⟩
theorem out_new {w w5 : World} {v : Dsk} {A : Option Addr} {c base : Nat} (ho : OwT w5 base A c v.se) (hb : Below w.heap.size w w5) : Out w v w5.heap.size A c (w5.alloc (.cells (#[.slice A (v.se.length) c, .int .i64 v.st, .int .i64 v.lf, .bool v.dd]) 24)) :=
  ⟨bk_new w5 v A v.se.length c _, ⟨base, ho.keep (below1 _ _)⟩, tk_new w5 _, hb.size, below_in hb (below1 _ _)⟩
theorem out_sto {w w5 : World} {v d0 : Dsk} {A A0 : Option Addr} {c base g n0 c0 : Nat} (ho : OwT w5 base A c v.se) (hk : Bk w5 g d0 A0 n0 c0) (ht : Tk w5 g) (hg : g < base) (hl : w.heap.size ≤ g) (hb : Below w.heap.size w w5) :
    Out w v g A c ((((w5.setCell ⟨g, 0, none⟩ (.slice A v.se.length c)).setCell ⟨g, 1, none⟩ (.int .i64 v.st)).setCell ⟨g, 2, none⟩ (.int .i64 v.lf)).setCell ⟨g, 3, none⟩ (.bool v.dd)) :=
  ⟨hk.sto v A v.se.length c, ⟨base, ho.sto hg _ _ _ _⟩, ht.sto g _ _ _ _, hl, set4 hb hl _ _ _ _⟩
end Go.Proofs.Ytofnjdkfhboapaa
