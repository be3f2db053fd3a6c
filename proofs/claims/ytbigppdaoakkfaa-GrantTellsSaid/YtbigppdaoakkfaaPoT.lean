/-
  The contracts of Twin, the program's and the reference's, and of the reference's Great.
-/
import Derived.Test.YtbigppdaoakkfaaPoA
import Derived.Deep.RegionHeldLaw
namespace Go.Proofs.Ytbigppdaoakkfaa
open Go.RowKit
set_option linter.unusedVariables false
set_option linter.unusedSimpArgs false

theorem keepB {B : Nat} {w w' : World} (h : Below B w w') {a : Addr} {v : Value} (hlt : a.block < B) (hc : w.cell? a = some v) : w'.cell? a = some v := by
  rw [h.cell hlt]; exact hc
theorem keepzB {B : Nat} {w w' : World} (h : Below B w w') {a : Addr} (hlt : a.block < B) (hc : w.frozen? a = false) : w'.frozen? a = false := by
  rw [h.frozen hlt]; exact hc
theorem Owns.set {α : Type} {f : α → List Value} {s : Nat} {w : World} {base : Nat} {e : TypeId} {A : Option Addr} {c : Nat} {l : List α} (h : Owns f s w base e A c l) {a : Addr} (ha : a.block < base) (u : Value) : Owns f s (w.setCell a u) base e A c l := ownsRow_setCell_below h ha u
theorem info_C : (Try.prog.info? 34).map (fun i => (i.zero, i.size, i.bytes)) = some (some (.agg #[.int .u8 0, .int .u32 0, .bool false]), 3, 12) := by kernel_rfl
theorem info_Q : (Try.prog.info? 67).map (fun i => (i.zero, i.size, i.bytes)) = some (some (.agg #[.int .u8 0, .int .u32 0, .int .i64 0, .int .i64 0, .int .i64 0]), 5, 32) := by kernel_rfl

set_option maxRecDepth 100000 in
set_option maxHeartbeats 800000 in
theorem great_of (q : Bool) (A : Option Addr) (n c : Nat) (B : Option Addr) (m d : Nat) (g : Int) (hq : Hid (decide (100 < n ∨ 100 < m) = q)) (w : World) :
    Calls Try.prog 17 #[.agg #[.slice A n c, .slice B m d, .int .i64 g]] w fun e w' => e = .returned (.bool q) ∧ Below w.heap.size w w' := by
  by_cases hn : 100 < n
  · have d1 : decide (100 < (n : Int)) = true := decide_eq_true (by omega)
    have HV := hid (show q = true by rw [← hq.out]; exact decide_eq_true (.inl hn))
    clear hn
    go_enter Try.func17, Try.ntmps17
    go_wp2
    go_ret
    exact ⟨ret_bool HV.out.symm, by go_grown⟩
  · have d1 : decide (100 < (n : Int)) = false := decide_eq_false (by omega)
    have HV := hid (show decide (100 < (m : Int)) = q by rw [← hq.out, decide_eq_decide]; omega)
    clear hn
    go_enter Try.func17, Try.ntmps17
    go_wp2
    go_ret
    exact ⟨ret_bool HV.out, by go_grown⟩

set_option maxRecDepth 100000 in
set_option maxHeartbeats 1600000 in
theorem twin_of (A : Option Addr) (n c : Nat) (B : Option Addr) (m d : Nat) (g : Int) (us : List Cl) (qs : List Qt) (hn0 : n ≤ 1000) (hm0 : m ≤ 1000) (w : World) (hp : Pol w A n c B m d g us qs) :
    Calls Try.prog 31 #[.agg #[.slice A n c, .slice B m d, .int .i64 g]] w fun e w' => ∃ A' c' B' d', e = .returned (.agg #[.slice A' n c', .slice B' m d', .int .i64 g]) ∧ OwnC w' w.heap.size A' c' us ∧ OwnQ w' w.heap.size B' d' qs ∧ Below w.heap.size w w' := by
  obtain ⟨i0, hi0, hz0, hz1, hz2⟩ := info_parts info_C
  obtain ⟨j0, hj0, hy0, hy1, hy2⟩ := info_parts info_Q
  have HP := hid hp
  clear hp
  go_enter Try.func31, Try.ntmps31
  go_wp2_with (first
     | (at_builtin; refine wpList_append_s rfl (.const (.slice none 0 0)) (.tmp 4) _ rfl (w.heap.size + 1 + 1) 34 Cl.cs_length (by omega) Cl.cs_one Try.underlying22 hi0 hz0 rfl hz1 hz2 (by omega) none 0 0 [] (hid rfl) rfl (Owns.nil _ _ _) A n c us (hid HP.out.hn) rfl (HP.out.hu.1.keep (by go_grown)) (by omega) (by simp) ?_; intro A' c' w1 hown1 hb1; have hbw : Below w.heap.size w w1 := (show Below w.heap.size w _ by go_grown).trans (hb1.mono (by omega)); (have s0 : w1.cell? ⟨w.heap.size, 0, none⟩ = some (.slice A n c) := (keepB hb1 (by show w.heap.size < _; omega) (by simp [go_sem])); have s1 : w1.cell? ⟨w.heap.size, 1, none⟩ = some (.slice B m d) := (keepB hb1 (by show w.heap.size < _; omega) (by simp [go_sem])); have s2 : w1.cell? ⟨w.heap.size, 2, none⟩ = some (.int .i64 g) := (keepB hb1 (by show w.heap.size < _; omega) (by simp [go_sem]))); (have f0 : w1.frozen? ⟨w.heap.size, 0, none⟩ = false := (keepzB hb1 (by show w.heap.size < _; omega) (by simp [go_sem])); have f1 : w1.frozen? ⟨w.heap.size, 1, none⟩ = false := (keepzB hb1 (by show w.heap.size < _; omega) (by simp [go_sem])); have f2 : w1.frozen? ⟨w.heap.size, 2, none⟩ = false := (keepzB hb1 (by show w.heap.size < _; omega) (by simp [go_sem]))); (have t0 : w1.cell? ⟨w.heap.size + 1, 0, none⟩ = some (.slice none 0 0) := (keepB hb1 (by show w.heap.size + 1 < _; omega) (by simp [go_sem])); have t1 : w1.cell? ⟨w.heap.size + 1, 1, none⟩ = some (.slice none 0 0) := (keepB hb1 (by show w.heap.size + 1 < _; omega) (by simp [go_sem])); have t2 : w1.cell? ⟨w.heap.size + 1, 2, none⟩ = some (.int .i64 0) := (keepB hb1 (by show w.heap.size + 1 < _; omega) (by simp [go_sem]))); (have h0 : w1.frozen? ⟨w.heap.size + 1, 0, none⟩ = false := (keepzB hb1 (by show w.heap.size + 1 < _; omega) (by simp [go_sem])); have h1 : w1.frozen? ⟨w.heap.size + 1, 1, none⟩ = false := (keepzB hb1 (by show w.heap.size + 1 < _; omega) (by simp [go_sem])); have h2 : w1.frozen? ⟨w.heap.size + 1, 2, none⟩ = false := (keepzB hb1 (by show w.heap.size + 1 < _; omega) (by simp [go_sem]))); (have hzz : w.heap.size + 1 + 1 ≤ w1.heap.size := by have := hb1.size; simpa using this))
     | (at_builtin; refine wpList_append_s rfl (.const (.slice none 0 0)) (.tmp 8) _ rfl w1.heap.size 67 Qt.cs_length (by omega) Qt.cs_one Try.underlying23 hj0 hy0 rfl hy1 hy2 (by omega) none 0 0 [] (hid rfl) rfl (Owns.nil _ _ _) B m d qs (hid HP.out.hm) rfl (HP.out.hq.1.keep (hbw.setCell (by show w.heap.size ≤ w.heap.size; omega) _)) (by omega) (by simp) ?_; intro B' d' w2 hown2 hb2; (have a0 : w2.cell? ⟨w.heap.size, 0, none⟩ = some (.slice A' n c') := (keepB hb2 (by show w.heap.size < _; omega) (by simp [go_sem, s0, s1, s2])); have a1 : w2.cell? ⟨w.heap.size, 1, none⟩ = some (.slice B m d) := (keepB hb2 (by show w.heap.size < _; omega) (by simp [go_sem, s0, s1, s2])); have a2 : w2.cell? ⟨w.heap.size, 2, none⟩ = some (.int .i64 g) := (keepB hb2 (by show w.heap.size < _; omega) (by simp [go_sem, s0, s1, s2]))); (have b0 : w2.frozen? ⟨w.heap.size, 0, none⟩ = false := (keepzB hb2 (by show w.heap.size < _; omega) (by simp [go_sem, f0, f1, f2])); have b1 : w2.frozen? ⟨w.heap.size, 1, none⟩ = false := (keepzB hb2 (by show w.heap.size < _; omega) (by simp [go_sem, f0, f1, f2])); have b2 : w2.frozen? ⟨w.heap.size, 2, none⟩ = false := (keepzB hb2 (by show w.heap.size < _; omega) (by simp [go_sem, f0, f1, f2]))); (have u0 : w2.cell? ⟨w.heap.size + 1, 0, none⟩ = some (.slice none 0 0) := (keepB hb2 (by show w.heap.size + 1 < _; omega) (by simp [go_sem, t0, t1, t2])); have u1 : w2.cell? ⟨w.heap.size + 1, 1, none⟩ = some (.slice none 0 0) := (keepB hb2 (by show w.heap.size + 1 < _; omega) (by simp [go_sem, t0, t1, t2])); have u2 : w2.cell? ⟨w.heap.size + 1, 2, none⟩ = some (.int .i64 0) := (keepB hb2 (by show w.heap.size + 1 < _; omega) (by simp [go_sem, t0, t1, t2]))); (have v0 : w2.frozen? ⟨w.heap.size + 1, 0, none⟩ = false := (keepzB hb2 (by show w.heap.size + 1 < _; omega) (by simp [go_sem, h0, h1, h2])); have v1 : w2.frozen? ⟨w.heap.size + 1, 1, none⟩ = false := (keepzB hb2 (by show w.heap.size + 1 < _; omega) (by simp [go_sem, h0, h1, h2])); have v2 : w2.frozen? ⟨w.heap.size + 1, 2, none⟩ = false := (keepzB hb2 (by show w.heap.size + 1 < _; omega) (by simp [go_sem, h0, h1, h2]))); (have hc0 := hown1.set (a := ⟨w.heap.size, 0, none⟩) (by show w.heap.size < _; omega) (.slice A' n c')); (have hb2s := hb2); rw [show w1.heap.size = (w1.setCell ⟨w.heap.size, 0, none⟩ (.slice A' n c')).heap.size by simp] at hb2s; (have hc1 := hc0.keep hb2s); (have hB := (hbw.setCell (show w.heap.size ≤ w.heap.size by omega) (.slice A' n c')).trans (hb2.mono hbw.size)); (have hw1 := hzz); clear hc0 hb2s hb2 hb1 hown1 s0 s1 s2 t0 t1 t2 f0 f1 f2 h0 h1 h2))
  exact bodyPost_ret (v := .agg #[.slice A' n c', .slice B' m d', .int .i64 g]) (by simp [results, Try.results31, go_sem, a0, a1, a2, u0, u1, u2]) rfl ⟨A', c', B', d', rfl, ⟨((((hc1.set (by show w.heap.size < _; omega) _).set (by show w.heap.size + 1 < _; omega) _).set (by show w.heap.size + 1 < _; omega) _).set (by show w.heap.size + 1 < _; omega) _).mono (by omega), HP.out.hu.2⟩, ⟨((((hown2.set (by show w.heap.size < _; omega) _).set (by show w.heap.size + 1 < _; omega) _).set (by show w.heap.size + 1 < _; omega) _).set (by show w.heap.size + 1 < _; omega) _).mono (by omega), HP.out.hq.2⟩, set3 (hB.setCell (by show w.heap.size ≤ w.heap.size; omega) _) (by omega) _ _ _⟩
end Go.Proofs.Ytbigppdaoakkfaa
