/-
  The contracts of Clone, Hide (both) and of the reference's Blanked.
-/
import Derived.Test.YtbhglgcnoidddaaRunB
import Derived.Laws.OwnMore
import Derived.Lib.SliceRun
namespace Go.Proofs.Ytbhglgcnoidddaa
open Go.RowKit
set_option linter.unusedVariables false

theorem OwnI.own_at {w : World} {base : Nat} {e : TypeId} {A : Option Addr} {c : Nat} {l : List Int} (h : OwnI w base e A c l) (hp : 0 < l.length) :
    ∃ g, A = some ⟨g, 0, none⟩ ∧ base ≤ g ∧ (∀ j (h : j < l.length), w.cell? ⟨g, j, none⟩ = some (.int .i32 l[j])) ∧ (∀ j, w.frozen? ⟨g, j, none⟩ = false) ∧
      (∀ j x, -2147483648 ≤ x → x ≤ 2147483647 → OwnI (w.setCell ⟨g, j, none⟩ (.int .i32 x)) base e A c (l.set j x)) := by
  obtain ⟨b, o, hA, hc⟩ := h.ri.at_ hp
  have h1 := h.1
  rcases h1.2 with ⟨hv, hn⟩ | ⟨g, cap, cur, hv, hbg, hg, hnc, hcm, hcs, htk⟩
  · rw [i32s_length] at hn; omega
  · injection hv with e1 e2 e3
    subst e1
    injection hA with hA
    injection hA with hb ho
    subst hb ho
    refine ⟨g, rfl, hbg, fun j hj => by have := hc j hj; rwa [Nat.zero_add] at this, fun j => frozen_of_row w g j cur e hg, fun j x x0 x1 => ⟨?_, ?_⟩⟩
    · have hs := (World.ownsRow.stored (show w.ownsRow base e 1 (.slice (some ⟨g, 0, none⟩) (i32s l).length c) (i32s l).length (i32s l) from h1) j (.int .i32 x)).1
      have e2 : (i32s l).set j (.int .i32 x) = i32s (l.set j x) := by simp [i32s, List.map_set]
      unfold OwnV
      rw [← e2, List.length_set]
      exact hs
    · intro y hy
      rcases List.mem_or_eq_of_mem_set hy with hy | rfl
      · exact h.2 y hy
      · exact ⟨x0, x1⟩

/-- The call hands back a row of its own. -/
def RetOwn (w : World) (l : List Int) (n : Nat) (e : Ending) (w' : World) : Prop := ∃ A c, e = .returned (.slice A n c) ∧ OwnI w' w.heap.size 21 A c l ∧ Below w.heap.size w w'

set_option maxHeartbeats 400000 in
theorem clone_any (A : Option Addr) (n c : Nat) (l : List Int) (hn : Hid (l.length = n)) (h5 : n ≤ 10000) (w : World) (hr : Ri w A c l) :
    Calls Try.prog 37 #[.slice A n c] w (RetOwn w l n) := by
  obtain ⟨i0, hi0, hz0, hz1, hz2⟩ := info_parts info_i32
  match A with
  | none =>
    have hl := hr.none
    have e := hn.out
    subst hl
    have HN := hid e
    clear hr hn e
    go_enter Try.func37, Try.ntmps37
    have hq := Lib.run_eql_slice_nil (P := Try.prog) w 33 21 none n c 0 0 Try.underlying33
    go_wp2
    go_ret
    exact ⟨none, 0, by rw [← HN.out]; rfl, OwnI.nil _ _ _, Below.refl _ _⟩
  | some a =>
    have HR := hid hr
    have hq := Lib.run_eql_slice_nil (P := Try.prog) w 33 21 (some a) n c 0 0 Try.underlying33
    clear hr
    go_enter Try.func37, Try.ntmps37
    go_wp2_with (at_builtin; refine wpList_append_i rfl (.tmp 5) (.tmp 6) _ rfl w.heap.size 21 Try.underlying33 hi0 hz0 hz1 hz2 (some ⟨w.heap.size, 0, none⟩) 0 0 [] (hid rfl) rfl (OwnI.lit w 21 [] In32.nil (Nat.le_refl _) (by simp)) (some a) n c l hn rfl (HR.out.alloc _) (by omega) (by simp) ?_; intro A' c' w1 hown hb)
    go_ret
    exact ⟨A', c', by simp, hown, ((Below.refl _ _).alloc (Nat.le_refl _) _).trans hb⟩

/-- .. and it is the call's own still. -/
def RetRowOwn (w : World) (l : List Int) (z : Int) (e : Ending) (w' : World) : Prop := ∃ A c, e = .returned (.tuple #[.slice A l.length c, .int .i64 z]) ∧ OwnI w' w.heap.size 21 A c l ∧ Below w.heap.size w w'
theorem ret_own {w w' : World} {A : Option Addr} {n c : Nat} {q l : List Int} {y z : Int} (h : Hid (q = l ∧ y = z ∧ q.length = n)) (hr : OwnI w' w.heap.size 21 A c q) (hb : Below w.heap.size w w') : RetRowOwn w l z (.returned (.tuple #[.slice A n c, .int .i64 y])) w' := by
  obtain ⟨rfl, rfl, rfl⟩ := h.out
  exact ⟨A, c, rfl, hr, hb⟩
theorem ret_own_nil {w w' : World} {l : List Int} {y z : Int} (h : Hid (y = z ∧ l = [])) (hb : Below w.heap.size w w') : RetRowOwn w l z (.returned (.tuple #[.slice none 0 0, .int .i64 y])) w' :=
  ret_own (q := []) (hid ⟨h.out.2.symm, h.out.1, rfl⟩) (OwnI.nil _ _ _) hb
end Go.Proofs.Ytbhglgcnoidddaa
