/-
  Words: copy of as many bytes over a row of the call's own.
-/
import Derived.Test.YtofnjdkfhboapaaDpC
import Derived.Test.YtofnjdkfhboapaaDkX
import Derived.Laws.CopyOwn
namespace Go.Proofs.Ytofnjdkfhboapaa
open Go.RowKit
set_option linter.unusedVariables false
set_option linter.unusedSimpArgs false

theorem u8s_one (l : List UInt8) : ∀ u ∈ u8s l, u.oneCell' = true := by
  intro u hu
  simp only [u8s, List.mem_map] at hu
  obtain ⟨b, _, rfl⟩ := hu
  rfl
/-- copy(s, m), as many bytes as s has. -/
theorem wpList_copy_full {P : Program} {w : World} {ops : Array Oper} {rest : List Oper} {o : Oper} {a : Act} {Q : Exit → Act → World → Prop} (hgd : o.guard = none) (d s : Operand) (t : TypeId)
    (ho : o.op = .call { callee := .builtin .copy, args := #[d, s], argTypes := #[t, t] }) (base : Nat) (e : TypeId) {i : TypeInfo} (ht : P.underlying t = some (.slice e)) (hi : P.info? e = some i) (hsize : i.size = 1)
    (g n dCap c : Nat) (hd : a.eval d = .slice (some ⟨g, 0, none⟩) n dCap) (L : List UInt8) (hn : L.length = n) (hown : Own w base e (some ⟨g, 0, none⟩) c L)
    (A1 : Option Addr) (c1 : Nat) (m : List UInt8) (hm : m.length = n) (hs : a.eval s = .slice A1 n c1) (hr : Rd w A1 c1 m) (h0 : 0 < n)
    (h : ∀ w', Own w' base e (some ⟨g, 0, none⟩) c m → (∀ k, k ≠ g → w'.heap[k]? = w.heap[k]?) → Below base w w' → wpList P ops Q rest (a.put o.dst (goInt n)) w') : wpList P ops Q (o :: rest) a w := by
  obtain ⟨hx, hform⟩ := hown
  rcases hform with ⟨hv, hn0⟩ | ⟨g', cap, cur, hv, hbg, hg, hnc, hcm, hcs, htake⟩
  · injection hv with e1 e2 e3
    cases e1
  · injection hv with e1 e2 e3
    injection e1 with e1
    injection e1 with e1
    subst e1 e3
    rw [Nat.mul_one] at hcs htake
    obtain ⟨b1, o1, rfl, hc⟩ := hr.2.2 (by omega)
    refine wpList_copy_own hgd d s t t ho e ht (by rw [hi]; simp [hsize]) g 0 n dCap ⟨b1, o1, none⟩ n c1 hd hs cur e hg (u8s m) (by rw [u8s_length, hm]; exact (Nat.min_self n).symm) (fun j v hj => ?_) (by rw [u8s_length]; omega) (u8s_one _) ?_
    · have hjl : j < m.length := by
        have := (List.getElem?_eq_some_iff.1 hj).1
        rwa [u8s_length] at this
      rw [Addr.add_lit, hc j hjl]
      simpa [u8s, List.getElem?_eq_getElem hjl] using hj
    · rw [u8s_length, hm]
      refine h _ ⟨by rw [u8s_length, Nat.mul_one], .inr ⟨g, c, _, rfl, hbg, setRow_heap w g _ _ e _ hg, by omega, hcm, ?_, ?_⟩⟩ (fun k hk => setRow_other w g k _ hk) (below_setRow (Below.refl _ _) hbg _)
      · simp [u8s_length]
        omega
      · rw [Nat.mul_one]
        simp only [List.take_zero, List.nil_append]
        exact List.take_left' (u8s_length m)
end Go.Proofs.Ytofnjdkfhboapaa
