/-
  The document's own answers of layer 11: what bytes tell.
-/
import Derived.Test.YtndmblhkmgnpcaaGreatRcG
import Derived.Test.YtndmblhkmgnpcaaGreatIV
import Derived.Test.YtndmblhkmgnpcaaGreatOK
import Derived.Deep.RegionHeld
namespace Go.Proofs.YtndmblhkmgnpcaaGreat
open Go.RowKit
set_option linter.unusedVariables false
set_option linter.unusedSimpArgs false

theorem opr_by {l c k : Int} (h : Han l c k) : Opr (byO l c k) := { zO_r with han := h }
theorem got_opr {l : List UInt8} {o : Opd} {z j : Int} (h : Got l o z j) : Opr o := by
  rcases h with ⟨h, _⟩ | ⟨_, rfl, _⟩
  · exact h.r
  · exact zO_r
theorem got_one {l : List UInt8} {o : Opd} {z j : Int} (h : Got l o z j) : ∀ o', Begins l o' → j = 0 ∧ o' = o := fun o' h' => by
  rcases h with ⟨h, _, hj⟩ | ⟨hn, _⟩
  · exact ⟨hj, begins_one h' h⟩
  · exact absurd h' (hn _)
theorem first_of {t : List UInt8} {r : Rec} (hr : Recr r) (hp : rcb r <+: t) : (vl (t.take 1) : Int) = r.kd := by
  obtain ⟨z, rfl⟩ := hp
  rw [rcb, List.append_assoc]
  exact first_is r.kd hr.k0 (by have := hr.k1; omega) _
theorem kind_of {r : Rec} (hm : mayR r = true) : r.kd = 1 ∨ r.kd = 2 ∨ r.kd = 3 := by
  rcases mayR_cases hm with ⟨l, c, k, us, rfl, _⟩ | ⟨o, co, rfl, _⟩ | ⟨g, rfl, _⟩
  · exact .inl rfl
  · exact .inr (.inl rfl)
  · exact .inr (.inr rfl)
theorem tells_1 {t : List UInt8} {r : Rec} (hr : Recr r) (hm : mayR r = true) (hp : rcb r <+: t) (hk : r.kd = 1) : okH ((t.drop 1).take 6) = true := by
  obtain ⟨z, rfl⟩ := hp
  rcases mayR_cases hm with ⟨l, c, k, us, rfl, h1, h2, h3⟩ | ⟨o, co, rfl, _⟩ | ⟨g, rfl, _⟩
  · have hh : Han l c k := hr.op.han
    rw [rcb_1, List.append_assoc]
    have e1 : ((nB 1 1 ++ (hB l c k ++ nB 1 us ++ z)).drop 1).take 6 = hB l c k := by
      rw [List.append_assoc]; exact mid _ _ _ (nB_length _ _) (hB_length _ _ _)
    rw [e1]
    exact okH_hB hh h1
  · cases hk
  · cases hk
theorem tells_2 {t : List UInt8} {r : Rec} (hr : Recr r) (hm : mayR r = true) (hp : rcb r <+: t) (hk : r.kd = 2) : Begins (t.drop 3) r.op := by
  obtain ⟨z, rfl⟩ := hp
  rcases mayR_cases hm with ⟨l, c, k, us, rfl, _⟩ | ⟨o, co, rfl, h1, h2, h3, h4⟩ | ⟨g, rfl, _⟩
  · cases hk
  · rw [rcb_2, List.append_assoc]
    have e2 : (nB 1 2 ++ (nB 2 co ++ opb o ++ z)).drop 3 = opb o ++ z := by
      rw [show nB 1 2 ++ (nB 2 co ++ opb o ++ z) = (nB 1 2 ++ nB 2 co) ++ (opb o ++ z) by simp only [List.append_assoc]]
      exact List.drop_left' (by simp [nB_length])
    rw [e2]
    exact ⟨hr.op, h1, ⟨z, rfl⟩⟩
  · cases hk
theorem tells_3 {t : List UInt8} {r : Rec} (hr : Recr r) (hm : mayR r = true) (hp : rcb r <+: t) (hk : r.kd = 3) : okG ((t.drop 1).take 7) = true := by
  obtain ⟨z, rfl⟩ := hp
  rcases mayR_cases hm with ⟨l, c, k, us, rfl, _⟩ | ⟨o, co, rfl, _⟩ | ⟨g, rfl, h1⟩
  · cases hk
  · cases hk
  · rw [rcb_3, List.append_assoc]
    have e1 : ((nB 1 3 ++ (gby g.u.toNat g.ok g.l.toNat g.c.toNat ++ z)).drop 1).take 7 = gby g.u.toNat g.ok g.l.toNat g.c.toNat := mid _ _ _ (nB_length _ _) (gby_length _ _ _ _)
    have hg : Gr.typed ⟨g.u, g.l, g.c, g.ok⟩ := hr.gr
    obtain ⟨p1, _, _⟩ := gput_get hg h1
    have e2 : pb ⟨g.u, g.l, g.c, g.ok⟩ = gby g.u.toNat g.ok g.l.toNat g.c.toNat := by rw [pb, if_pos h1]
    rw [e2] at p1
    rw [e1]; exact p1
/-- What the cases of a kind end with: a record in the second box. -/
structure Tin (w0 Z : World) (t : List UInt8) (r : Rec) (A : Option Addr) (k c : Nat) (j : Int) : Prop where
  bx : BoxR Z (w0.heap.size + 1) r A k c
  th : ThereR Z w0.heap.size
  rr : Recr r
  len : r.op.row.length = k
  ow : OwnI Z (w0.heap.size + 1) 21 A c r.op.row
  one : ∀ r', Recr r' → mayR r' = true → rcb r' <+: t → j = 0 ∧ r' = r
  be : Below w0.heap.size w0 Z
def RetTel (w : World) (t : List UInt8) (e : Ending) (w' : World) : Prop := ∃ r A k c q, e = .returned (.tuple #[.agg #[.int .u8 r.kd, .int .i64 r.us, .int .u8 r.op.kd, .int .u8 r.op.l, .int .u32 r.op.c, .int .u8 r.op.k, .int .i64 r.op.s, .int .u8 r.op.fl, .int .u32 r.op.fc, .int .u8 r.op.fk, .int .i64 r.op.fn, .int .i64 r.op.fm, .int .u8 r.op.al, .int .u32 r.op.ac, .int .u8 r.op.ak, .int .i64 r.op.an, .int .u8 r.op.tl, .int .u32 r.op.tc, .slice A k c, .int .i64 r.co, .int .i64 r.gr.u, .int .u8 r.gr.l, .int .u32 r.gr.c, .bool r.gr.ok], .bool q]) ∧ Tel t r q ∧ r.op.row.length = k ∧ OwnI w' w.heap.size 21 A c r.op.row ∧ Below w.heap.size w w'

end Go.Proofs.YtndmblhkmgnpcaaGreat
