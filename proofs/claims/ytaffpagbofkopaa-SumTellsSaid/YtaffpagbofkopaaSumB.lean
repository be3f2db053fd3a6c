/-
  The contract of sum.Right: append at a slice without room; bytes.Equal.
-/
import Derived.Test.YtaffpagbofkopaaSumA
namespace Go.Proofs.Ytaffpagbofkopaa
open Go.RowKit
set_option linter.unusedVariables false

/-- append onto a slice that came in and has no room: new memory. -/
theorem wpList_append_full {P : Program} {w : World} {ops : Array Oper} {rest : List Oper} {o : Oper} {a : Act} {Q : Exit → Act → World → Prop} (hgd : o.guard = none) (s x : Operand) (t : TypeId)
    (ho : o.op = .call { callee := .builtin .append, args := #[s, x], argTypes := #[t, t] })
    (e : TypeId) {i : TypeInfo} (ht : P.underlying t = some (.slice e)) (hi : P.info? e = some i) (hz : i.zero = some (.int .u8 0)) (hsize : i.size = 1) (hby : i.bytes = 1)
    (b off n : Nat) (l : List UInt8) (hn : Hid (l.length = n)) (hs : a.eval s = .slice (some ⟨b, off, none⟩) n n) (hl : ∀ j (h : j < l.length), w.cell? ⟨b, off + j, none⟩ = some (.int .u8 (l[j].toNat : Int)))
    (ad : Addr) (n1 c1 : Nat) (m : List UInt8) (hn1 : Hid (m.length = n1)) (hx : a.eval x = .slice (some ad) n1 c1) (hr : Rd w (some ad) c1 m) (hp : 0 < n1) (hlen : n + n1 ≤ 200000)
    (h : ∀ A' c' w', Rd w' A' c' (l ++ m) → Below w.heap.size w w' → wpList P ops Q rest (a.put o.dst (.slice A' (n + n1) c')) w') : wpList P ops Q (o :: rest) a w := by
  have e1 := hn.out
  have e2 := hn1.out
  obtain ⟨b1, o1, hA, hc1⟩ := hr.at_ (by omega)
  injection hA with hA
  subst hA
  refine wpList_append_grows w hgd s x t ho e i (.int .u8 0) 1 1 ht hi hz hsize hby rfl (by omega) (some ⟨b, off, none⟩) n n (u8s l) hs (by simp) (by rw [u8s_length]; omega) ?_ ⟨b1, o1, none⟩ n1 c1 (u8s m) hx (by rw [u8s_length]; omega) ?_ ?_ (by omega) (by unfold maxLen; omega) (by omega) ?_
  · intro a0 ha0 j u hj
    injection ha0 with ha0
    subst ha0
    have hjl : j < l.length := by
      have := (List.getElem?_eq_some_iff.1 hj).1
      rwa [u8s_length] at this
    rw [Addr.add_lit, hl j hjl]
    simpa [u8s, List.getElem?_eq_getElem hjl] using hj
  · intro j u hj
    have hjl : j < m.length := by
      have := (List.getElem?_eq_some_iff.1 hj).1
      rwa [u8s_length] at this
    rw [Addr.add_lit, hc1 j hjl]
    simpa [u8s, List.getElem?_eq_getElem hjl] using hj
  · intro u hu
    simp only [u8s, List.mem_map] at hu
    obtain ⟨b, _, rfl⟩ := hu
    rfl
  · intro v' w' hown hg
    have hb : Below w.heap.size w w' := (Below.refl _ _).grown hg (Nat.le_refl _) (fun k hk => by cases hk)
    rw [← u8s_append] at hown
    obtain ⟨A', c', hv⟩ : ∃ A' c', v' = .slice A' (n + n1) c' := by
      rcases hown.2 with ⟨hv, hn⟩ | ⟨g, cap, cur, hv, _⟩
      · exact ⟨none, 0, by rw [hv, hn]⟩
      · exact ⟨_, _, hv⟩
    subst hv
    refine h A' c' w' ?_ hb
    have ho : Own w' w.heap.size e A' c' (l ++ m) := by
      unfold Own
      rw [List.length_append, e1, e2]
      exact hown
    exact ho.rd

theorem info_u8 : (Try.prog.info? 5).map (fun i => (i.zero, i.size, i.bytes)) = some (some (.int .u8 0), 1, 1) := by kernel_rfl
theorem rd_string {w : World} {A : Option Addr} {n c : Nat} {l : List UInt8} (hn : Hid (l.length = n)) (h : Rd w A c l) : (convert 26 9 (.slice A n c)).run Try.prog w = .ok (.string ⟨l.toArray⟩) w := by
  have e := hn.out
  subst e
  exact h.str _ _ 5 Try.underlying26 Try.underlying5 Try.underlying9
theorem lit_rd (w : World) (l : List UInt8) (hl : l.length ≤ 1000) : Rd (w.alloc (.cells (u8s l).toArray 5)) (some ⟨w.heap.size, 0, none⟩) l.length l := (Own.lit w 5 l (Nat.le_refl _) hl).rd

/-- bytes.Equal. -/
theorem ret_bool {a b : Bool} (h : a = b) : Ending.returned (.bool a) = .returned (.bool b) := by rw [h]
def same (l m : List UInt8) : Bool := l == m
set_option maxHeartbeats 400000 in
theorem equal_any (A : Option Addr) (n c : Nat) (l : List UInt8) (hn : Hid (l.length = n)) (B : Option Addr) (k d : Nat) (m : List UInt8) (hk : Hid (m.length = k)) (w : World) (hr : Rd w A c l) (hq : Rd w B d m) :
    Calls Try.prog 16 #[.slice A n c, .slice B k d] w fun e w' => e = .returned (.bool (same l m)) ∧ w = w' := by
  have s1 := rd_string hn hr
  have s2 := rd_string hk hq
  go_enter Try.func16, Try.ntmps16
  go_wp2
  go_ret
  exact ⟨rfl, rfl⟩

/-- Whether bytes end with their sum. -/
def rightB (l : List UInt8) : Bool := decide (3 ≤ l.length) && same (l.take (l.length - 3) ++ three (sm first (l.take (l.length - 3)))) l

theorem right_drop (l : List UInt8) (k : Nat) (h : l.length = k + 3) : rightB l = (three (sm first (l.take k)) == l.drop k) := by
  simp only [rightB, same, h, Nat.add_sub_cancel, show decide (3 ≤ k + 3) = true from by simp, Bool.true_and]
  rw [Bool.eq_iff_iff, beq_iff_eq, beq_iff_eq]
  constructor
  · intro he
    have : (l.take k ++ three (sm first (l.take k))).drop k = l.drop k := by rw [he]
    rwa [List.drop_left' (by rw [List.length_take]; omega)] at this
  · intro he
    rw [he, List.take_append_drop]

theorem right_behind (l : List UInt8) (s : Nat) : rightB (l ++ three s) = decide (s % 16777216 = sm first l) := by
  rw [right_drop _ l.length (by rw [List.length_append, three_length]), List.take_left, List.drop_left, Bool.eq_iff_iff, beq_iff_eq, decide_eq_true_eq]
  exact ⟨fun h => (three_eq (sm_lt first_lt l)).1 h.symm, fun h => ((three_eq (sm_lt first_lt l)).2 h).symm⟩

set_option maxHeartbeats 800000 in
theorem right_any (A : Option Addr) (n c : Nat) (l : List UInt8) (hn : Hid (l.length = n)) (h5 : n ≤ 100000) (w : World) (hr : Rd w A c l) :
    Calls Try.prog 10 #[.slice A n c] w fun e w' => e = .returned (.bool (rightB l)) ∧ Below w.heap.size w w' := by
  have hc2 : (c : Int) ≤ 9223372036854775807 := by have := hr.cap; omega
  have hc1 : (n : Int) ≤ c := by have := hr.len; have := hn.out; omega
  have hl := hn.out
  by_cases h3 : n < 3
  · have H := hid (show rightB l = false by simp [rightB]; omega)
    have h3' : (n : Int) - 3 < 0 := by omega
    clear h3 hl
    go_enter Try.func10, Try.ntmps10
    go_wp2
    go_ret
    exact ⟨ret_bool H.out.symm, Below.refl _ _⟩
  · obtain ⟨b, o, rfl, hcell⟩ := hr.at_ (by omega)
    obtain ⟨k, rfl⟩ : ∃ k, n = k + 3 := ⟨n - 3, by omega⟩
    obtain ⟨i0, hi0, hz0, hz1, hz2⟩ := info_parts info_u8
    have HK := hid (show (l.take k).length = k by rw [List.length_take]; omega)
    have hck : ∀ j (h : j < (l.take k).length), w.cell? ⟨b, o + j, none⟩ = some (.int .u8 ((l.take k)[j].toNat : Int)) := by
      intro j hj
      rw [hcell j (by rw [List.length_take] at hj; omega)]
      simp
    have hrk : Rd w (some ⟨b, o, none⟩) k (l.take k) := by
      refine ⟨by rw [HK.out]; exact Nat.le_refl _, by have := hr.cap; unfold maxLen; omega, fun _ => ⟨b, o, rfl, hck⟩⟩
    have HC := hid hck
    have H := hid (show rightB l = same (l.take k ++ three (sm first (l.take k))) l by simp [rightB, hl])
    have hm := sm_lt first_lt (l.take k)
    clear hck hcell hl h3
    go_enter Try.func10, Try.ntmps10
    go_wp2_with fail
    refine (of_any (some ⟨b, o, none⟩) k k (l.take k) HK _ hrk).mono ?_
    rintro e w1 ⟨rfl, rfl⟩
    go_wp2_with fail
    unfold sumOf
    refine (bytes_any (sm first (l.take k)) (by omega) _).mono ?_
    rintro e w2 ⟨rfl, rfl⟩
    have hr3 := lit_rd w (three (sm first (l.take k))) (by rw [three_length]; omega)
    have hr4 := hr.alloc (.cells (u8s (three (sm first (l.take k)))).toArray 5)
    rw [three_length] at hr3
    go_wp2_with (at_builtin; refine wpList_append_full rfl (.tmp 14) (.tmp 17) _ rfl 5 Try.underlying26 hi0 hz0 hz1 hz2 b o k (l.take k) HK rfl (fun j hj => keepa (HC.out j hj) _) ⟨w.heap.size, 0, none⟩ 3 3 (three (sm first (l.take k))) (hid (three_length _)) rfl hr3 (by omega) (by omega) ?_; intro A' c' w1 hra hb)
    have hr5 := hr4.keep hb
    have HL := hid (show (l.take k ++ three (sm first (l.take k))).length = k + 3 by rw [List.length_append, HK.out, three_length])
    refine (equal_any A' (k + 3) c' _ HL (some ⟨b, o, none⟩) (k + 3) c l hn _ hra hr5).mono ?_
    rintro e w3 ⟨rfl, rfl⟩
    go_wp2
    go_ret
    exact ⟨ret_bool H.out.symm, ((Below.refl _ _).alloc (Nat.le_refl _) _).trans (hb.mono (by simp))⟩
theorem Rd.drop {w : World} {b o : Nat} {c : Nat} {l : List UInt8} (h : Rd w (some ⟨b, o, none⟩) c l) (k : Nat) (hk : k < l.length) : Rd w (some ⟨b, o + k, none⟩) (c - k) (l.drop k) := by
  refine ⟨by have := h.1; rw [List.length_drop]; omega, by have := h.2.1; unfold maxLen at *; omega, fun _ => ⟨b, o + k, rfl, fun j hj => ?_⟩⟩
  obtain ⟨b1, o1, hA, hc⟩ := h.2.2 (by omega)
  injection hA with hA
  injection hA with h1 h2 h3
  subst h1 h2
  rw [List.length_drop] at hj
  rw [show o + k + j = o + (k + j) by omega, hc (k + j) (by omega)]
  simp

end Go.Proofs.Ytaffpagbofkopaa
