/-
  The contracts of AppendRune and of strings.Builder's methods, at a builder of the call's own.
-/
import Derived.Test.YtikcknngcdjnhaaRunO
import Derived.Shelf.Strings.Builder1
import Derived.Laws.OwnMore
namespace Go.Proofs.Ytikcknngcdjnhaa
open Go.RowKit Go.Shelf
set_option linter.unusedVariables false

theorem Own.mono {w : World} {base base' : Nat} {e : TypeId} {A : Option Addr} {c : Nat} {l : List UInt8} (h : Own w base e A c l) (hb : base' ≤ base) : Own w base' e A c l := by
  obtain ⟨h0, h1⟩ := h
  refine ⟨h0, ?_⟩
  rcases h1 with h | ⟨g, cap, cur, hv, hbg, r⟩
  · exact .inl h
  · exact .inr ⟨g, cap, cur, hv, by omega, r⟩
theorem Own.other {w : World} {base : Nat} {e : TypeId} {A : Option Addr} {c : Nat} {l : List UInt8} (h : Own w base e A c l) {b : Nat} (hb : b < base) (j : Nat) (v : Value) : Own (w.setCell ⟨b, j, none⟩ v) base e A c l := by
  obtain ⟨h0, h1⟩ := h
  refine ⟨h0, ?_⟩
  rcases h1 with h | ⟨g, cap, cur, hv, hbg, hg, r⟩
  · exact .inl h
  · exact .inr ⟨g, cap, cur, hv, hbg, (Below.heap_setCell _ _ _ _ (fun e => by simp at e; omega)).trans hg, r⟩

/-- append of a string. -/
theorem wpList_append_str {P : Program} {w : World} {ops : Array Oper} {rest : List Oper} {o : Oper} {a : Act} {Q : Exit → Act → World → Prop} (hgd : o.guard = none) (sl x : Operand) (t u : TypeId)
    (ho : o.op = .call { callee := .builtin .append, args := #[sl, x], argTypes := #[t, u] })
    (base : Nat) (e : TypeId) {i : TypeInfo} (ht : P.underlying t = some (.slice e)) (hu : P.underlying u = some .string) (hi : P.info? e = some i) (hz : i.zero = some (.int .u8 0)) (hsize : i.size = 1) (hby : i.bytes = 1)
    (A : Option Addr) (n c : Nat) (l : List UInt8) (hn : Hid (l.length = n)) (hs : a.eval sl = .slice A n c) (hown : Own w base e A c l)
    (s : ByteArray) (m : List UInt8) (k : Nat) (hm : Hid (s.data.toList = m ∧ m.length = k)) (hx : a.eval x = .string s) (hlen : n + k ≤ 10000000) (hbase : base ≤ w.heap.size)
    (h : ∀ A' c' w', Own w' base e A' c' (l ++ m) → Below base w w' → wpList P ops Q rest (a.put o.dst (.slice A' (n + k) c')) w') : wpList P ops Q (o :: rest) a w := by
  have hn' := hn.out
  obtain ⟨hm1, hm2⟩ := hm.out
  have hsk : s.size = k := by rw [← hm2, ← hm1]; simp
  subst hn' hm1
  refine Lib.wpList_append_own_string w hgd sl x t u ho base e i ht hu hi hz hsize hby (.slice A l.length c) l.length (u8s l) hs hown s hx (by unfold maxLen; omega) (by omega) hbase ?_
  intro v' w' hown' hg _
  have hb : Below base w w' := (Below.refl _ _).grown hg hbase hown.block
  have hcat : u8s l ++ Lib.strCells s = u8s (l ++ s.data.toList) := by rw [u8s_append]; rfl
  rw [hcat, hsk] at hown'
  obtain ⟨A', c', rfl⟩ : ∃ A' c', v' = .slice A' (l.length + k) c' := by
    rcases hown'.2 with ⟨hv, hn⟩ | ⟨g, cap, cur, hv, _⟩
    · exact ⟨none, 0, by rw [hv, hn]⟩
    · exact ⟨_, _, hv⟩
  refine h A' c' w' ?_ hb
  unfold Own
  rw [List.length_append, hm2]
  exact hown'

theorem lit_bts (w : World) (n : Int) (L : Array Value) (k : Nat) (h : Hid ((u8s (bts n)).toArray = L ∧ (bts n).length = k)) : Rd (w.alloc (.cells L 5)) (some ⟨w.heap.size, 0, none⟩) k (bts n) := by
  obtain ⟨h1, h2⟩ := h.out
  have := lit_rd w (bts n) (by have := (bts_length n).2; omega)
  rw [h1, h2] at this
  exact this

/-- The call hands back what it was given, with more behind it. -/
def RetGrown (base : Nat) (w : World) (l : List UInt8) (n : Nat) (e : Ending) (w' : World) : Prop := ∃ A c, e = .returned (.slice A n c) ∧ Own w' base 5 A c l ∧ Below base w w'

set_option maxRecDepth 100000 in
set_option maxHeartbeats 1000000 in
theorem nonascii_any (base : Nat) (A : Option Addr) (n c : Nat) (l : List UInt8) (r : Int) (hn : Hid (l.length = n)) (h5 : n ≤ 100000 - 4) (hr : isR r = true) (h128 : 128 ≤ r) (k : Nat) (hk : Hid ((bts r).length = k)) (w : World) (hown : Own w base 5 A c l) (hbase : base ≤ w.heap.size) :
    Calls Try.prog 46 #[.slice A n c, .int .i32 r] w (RetGrown base w (l ++ bts r) (n + k)) := by
  obtain ⟨i0, hi0, hz0, hz1, hz2⟩ := info_parts info_u8
  obtain ⟨h0, h1, h2⟩ := (isR_iff r).1 hr
  clear hr
  by_cases c2 : r ≤ 2047
  · have e := Lib.encodeRuneZ_two (r := r) h128 c2
    have ek : (bts r).length = 2 := by rw [← u8s_length, bts_cells, e]; rfl
    have H := hid (show (u8s (bts r)).toArray = #[.int .u8 (192 + r / 64), .int .u8 (128 + r % 64)] ∧ (bts r).length = 2 from ⟨by rw [bts_cells, e]; rfl, ek⟩)
    obtain rfl : k = 2 := by rw [← hk.out, ek]
    clear e ek h2 hk
    go_enter Try.func46, Try.ntmps46
    go_wp2_with (at_builtin; refine wpList_append_rd rfl (.tmp 14) (.tmp 23) _ rfl base 5 Try.underlying26 hi0 hz0 hz1 hz2 A n c l hn rfl (hown.keep ((Below.refl _ _).alloc (Nat.le_refl _) _)) (some ⟨w.heap.size, 0, none⟩) 2 2 (bts r) (hid H.out.2) rfl (lit_bts w r _ 2 H) (by omega) (Nat.le_trans hbase (by simp)) ?_; intro A' c' w1 hown1 hb)
    go_wp2
    go_ret
    exact ⟨A', c', rfl, hown1, ((Below.refl _ _).alloc hbase _).trans hb⟩
  by_cases c3 : r ≤ 65535
  · have e := Lib.encodeRuneZ_three (r := r) (by omega)
    have ek : (bts r).length = 3 := by rw [← u8s_length, bts_cells, e]; rfl
    have H := hid (show (u8s (bts r)).toArray = #[.int .u8 (224 + r / 4096), .int .u8 (128 + r / 64 % 64), .int .u8 (128 + r % 64)] ∧ (bts r).length = 3 from ⟨by rw [bts_cells, e]; rfl, ek⟩)
    obtain rfl : k = 3 := by rw [← hk.out, ek]
    clear e ek hk
    rcases h2 with h2 | h2
    all_goals
      go_enter Try.func46, Try.ntmps46
      go_wp2_with (at_builtin; refine wpList_append_rd rfl (.tmp 34) (.tmp 48) _ rfl base 5 Try.underlying26 hi0 hz0 hz1 hz2 A n c l hn rfl (hown.keep ((Below.refl _ _).alloc (Nat.le_refl _) _)) (some ⟨w.heap.size, 0, none⟩) 3 3 (bts r) (hid H.out.2) rfl (lit_bts w r _ 3 H) (by omega) (Nat.le_trans hbase (by simp)) ?_; intro A' c' w1 hown1 hb)
      go_wp2
      go_ret
      exact ⟨A', c', rfl, hown1, ((Below.refl _ _).alloc hbase _).trans hb⟩
  · have e := Lib.encodeRuneZ_four (r := r) (by omega) (by omega)
    have ek : (bts r).length = 4 := by rw [← u8s_length, bts_cells, e]; rfl
    have H := hid (show (u8s (bts r)).toArray = #[.int .u8 (240 + r / 262144), .int .u8 (128 + r / 4096 % 64), .int .u8 (128 + r / 64 % 64), .int .u8 (128 + r % 64)] ∧ (bts r).length = 4 from ⟨by rw [bts_cells, e]; rfl, ek⟩)
    obtain rfl : k = 4 := by rw [← hk.out, ek]
    clear e ek h2 hk
    go_enter Try.func46, Try.ntmps46
    go_wp2_with (at_builtin; refine wpList_append_rd rfl (.tmp 57) (.tmp 76) _ rfl base 5 Try.underlying26 hi0 hz0 hz1 hz2 A n c l hn rfl (hown.keep ((Below.refl _ _).alloc (Nat.le_refl _) _)) (some ⟨w.heap.size, 0, none⟩) 4 4 (bts r) (hid H.out.2) rfl (lit_bts w r _ 4 H) (by omega) (Nat.le_trans hbase (by simp)) ?_; intro A' c' w1 hown1 hb)
    go_wp2
    go_ret
    exact ⟨A', c', rfl, hown1, ((Below.refl _ _).alloc hbase _).trans hb⟩

set_option maxRecDepth 100000 in
set_option maxHeartbeats 1000000 in
theorem apprune_any (base : Nat) (A : Option Addr) (n c : Nat) (l : List UInt8) (r : Int) (hn : Hid (l.length = n)) (h5 : n ≤ 100000 - 4) (hr : isR r = true) (k : Nat) (hk : Hid ((bts r).length = k)) (w : World) (hown : Own w base 5 A c l) (hbase : base ≤ w.heap.size) :
    Calls Try.prog 38 #[.slice A n c, .int .i32 r] w (RetGrown base w (l ++ bts r) (n + k)) := by
  obtain ⟨i0, hi0, hz0, hz1, hz2⟩ := info_parts info_u8
  obtain ⟨h0, h1, h2⟩ := (isR_iff r).1 hr
  by_cases c1 : r ≤ 127
  · have e := Lib.encodeRuneZ_one h0 c1
    have ek : (bts r).length = 1 := by rw [← u8s_length, bts_cells, e]; rfl
    have H := hid (show (u8s (bts r)).toArray = #[.int .u8 r] ∧ (bts r).length = 1 from ⟨by rw [bts_cells, e]; rfl, ek⟩)
    obtain rfl : k = 1 := by rw [← hk.out, ek]
    clear e ek h2 hr hk
    go_enter Try.func38, Try.ntmps38
    go_wp2_with (at_builtin; refine wpList_append_rd rfl (.tmp 8) (.tmp 11) _ rfl base 5 Try.underlying26 hi0 hz0 hz1 hz2 A n c l hn rfl (hown.keep ((Below.refl _ _).alloc (Nat.le_refl _) _)) (some ⟨w.heap.size, 0, none⟩) 1 1 (bts r) (hid H.out.2) rfl (lit_bts w r _ 1 H) (by omega) (Nat.le_trans hbase (by simp)) ?_; intro A' c' w1 hown1 hb)
    go_wp2
    go_ret
    exact ⟨A', c', rfl, hown1, ((Below.refl _ _).alloc hbase _).trans hb⟩
  · have HR := hid hr
    clear h2 hr
    go_enter Try.func38, Try.ntmps38
    go_wp2_with fail
    refine (nonascii_any base A n c l r hn h5 HR.out (by omega) k hk _ hown hbase).mono ?_
    rintro e w1 ⟨A', c', rfl, hown1, hb⟩
    go_wp2
    go_ret
    exact ⟨A', c', rfl, hown1, hb⟩
end Go.Proofs.Ytikcknngcdjnhaa
