/-
  append at a slice without room; bytes.Equal; the rest of a slice.
-/
import Derived.Test.YthnjonabofabkaaDoorSumA
import Derived.Test.YthnjonabofabkaaDoorFrA
namespace Go.Proofs.YthnjonabofabkaaDoor
open Go.RowKit
set_option linter.unusedVariables false

/-- append onto a slice that came in and has no room: new memory. -/
theorem wpList_append_full {P : Program} {w : World} {ops : Array Oper} {rest : List Oper} {o : Oper} {a : Act} {Q : Exit → Act → World → Prop} (hgd : o.guard = none) (s x : Operand) (t : TypeId)
    (ho : o.op = .call { callee := .builtin .append, args := #[s, x], argTypes := #[t, t] })
    (e : TypeId) {i : TypeInfo} (ht : P.underlying t = some (.slice e)) (hi : P.info? e = some i) (hz : i.zero = some (.int .u8 0)) (hsize : i.size = 1) (hby : i.bytes = 1)
    (b off n : Nat) (l : List UInt8) (hn : Hid (l.length = n)) (hs : a.eval s = .slice (some ⟨b, off, none⟩) n n) (hl : ∀ j (h : j < l.length), w.cell? ⟨b, off + j, none⟩ = some (.int .u8 (l[j].toNat : Int)))
    (ad : Addr) (n1 c1 : Nat) (m : List UInt8) (hn1 : Hid (m.length = n1)) (hx : a.eval x = .slice (some ad) n1 c1) (hr : Rd w (some ad) c1 m) (hp : 0 < n1) (hlen : n + n1 ≤ 200000)
    (h : ∀ A' c' w', Rd w' A' c' (l ++ m) → Below w.heap.size w w' → wpList P ops Q rest (a.put o.dst (.slice A' (n + n1) c')) w') : wpList P ops Q (o :: rest) a w := by
  have e1 := hn.out
  have e2 := hn1.out
  obtain ⟨b1, o1, hA, hc1⟩ := hr.at_ (by omega)
  injection hA with hA
  subst hA
  refine wpList_append_grows w hgd s x t ho e i (.int .u8 0) 1 1 ht hi hz hsize hby rfl (by omega) (some ⟨b, off, none⟩) n n (u8s l) hs (by simp) (by rw [u8s_length]; omega) ?_ ⟨b1, o1, none⟩ n1 c1 (u8s m) hx (by rw [u8s_length]; omega) ?_ ?_ (by omega) (by unfold maxLen; omega) (by omega) ?_
  · intro a0 ha0 j u hj
    injection ha0 with ha0
    subst ha0
    have hjl : j < l.length := by
      have := (List.getElem?_eq_some_iff.1 hj).1
      rwa [u8s_length] at this
    rw [Addr.add_lit, hl j hjl]
    simpa [u8s, List.getElem?_eq_getElem hjl] using hj
  · intro j u hj
    have hjl : j < m.length := by
      have := (List.getElem?_eq_some_iff.1 hj).1
      rwa [u8s_length] at this
    rw [Addr.add_lit, hc1 j hjl]
    simpa [u8s, List.getElem?_eq_getElem hjl] using hj
  · intro u hu
    simp only [u8s, List.mem_map] at hu
    obtain ⟨b, _, rfl⟩ := hu
    rfl
  · intro v' w' hown hg
    have hb : Below w.heap.size w w' := (Below.refl _ _).grown hg (Nat.le_refl _) (fun k hk => by cases hk)
    rw [← u8s_append] at hown
    obtain ⟨A', c', hv⟩ : ∃ A' c', v' = .slice A' (n + n1) c' := by
      rcases hown.2 with ⟨hv, hn⟩ | ⟨g, cap, cur, hv, _⟩
      · exact ⟨none, 0, by rw [hv, hn]⟩
      · exact ⟨_, _, hv⟩
    subst hv
    refine h A' c' w' ?_ hb
    have ho : Own w' w.heap.size e A' c' (l ++ m) := by
      unfold Own
      rw [List.length_append, e1, e2]
      exact hown
    exact ho.rd

/-- bytes.Equal. -/
theorem ret_bool {a b : Bool} (h : a = b) : Ending.returned (.bool a) = .returned (.bool b) := by rw [h]
def same (l m : List UInt8) : Bool := l == m
set_option maxHeartbeats 400000 in
theorem equal_any (A : Option Addr) (n c : Nat) (l : List UInt8) (hn : Hid (l.length = n)) (B : Option Addr) (k d : Nat) (m : List UInt8) (hk : Hid (m.length = k)) (w : World) (hr : Rd w A c l) (hq : Rd w B d m) :
    Calls Tryd.prog 23 #[.slice A n c, .slice B k d] w fun e w' => e = .returned (.bool (same l m)) ∧ w = w' := by
  have s1 := rd_string hn hr
  have s2 := rd_string hk hq
  go_enter Tryd.func23, Tryd.ntmps23
  go_wp2
  go_ret
  exact ⟨rfl, rfl⟩

theorem Rd.drop {w : World} {b o : Nat} {c : Nat} {l : List UInt8} (h : Rd w (some ⟨b, o, none⟩) c l) (k : Nat) (hk : k < l.length) : Rd w (some ⟨b, o + k, none⟩) (c - k) (l.drop k) := by
  refine ⟨by have := h.1; rw [List.length_drop]; omega, by have := h.2.1; unfold maxLen at *; omega, fun _ => ⟨b, o + k, rfl, fun j hj => ?_⟩⟩
  obtain ⟨b1, o1, hA, hc⟩ := h.2.2 (by omega)
  injection hA with hA
  injection hA with h1 h2 h3
  subst h1 h2
  rw [List.length_drop] at hj
  rw [show o + k + j = o + (k + j) by omega, hc (k + j) (by omega)]
  simp

end Go.Proofs.YthnjonabofabkaaDoor
