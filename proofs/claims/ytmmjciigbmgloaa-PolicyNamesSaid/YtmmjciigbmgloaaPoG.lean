/-
  The contracts of labelOf, find and Quota.
-/
import Derived.Test.YtmmjciigbmgloaaPoE
namespace Go.Proofs.Ytmmjciigbmgloaa
open Go.RowKit
set_option linter.unusedVariables false
set_option linter.unusedSimpArgs false

/-- The first of a label's quotas. -/
def fnd : List Qt → Int → Int → Option Qt
  | [], _, _ => none
  | x :: l, a, b => if sameL x.l x.c a b = true then some x else fnd l a b
theorem fnd_drop {qs : List Qt} {a b : Int} {j : Nat} (h : j < qs.length) : fnd (qs.drop j) a b = if sameL qs[j].l qs[j].c a b = true then some qs[j] else fnd (qs.drop (j + 1)) a b := by
  rw [List.drop_eq_getElem_cons h, fnd]
theorem fnd_end {qs : List Qt} {a b : Int} {j : Nat} (h : qs.length ≤ j) : fnd (qs.drop j) a b = none := by
  rw [List.drop_of_length_le h]; rfl

theorem labelOf_any (l c o p k : Int) (w : World) :
    Calls Try.prog 28 #[.agg #[.int .u8 l, .int .u32 c, .int .i64 o, .int .i64 p, .int .i64 k]] w fun e w' => e = .returned (.agg #[.int .u8 l, .int .u32 c]) ∧ Below w.heap.size w w' := by
  go_enter Try.func28, Try.ntmps28
  go_wp2
  go_returns
  exact ⟨rfl, by go_grown⟩

theorem keepfa {w : World} {a : Addr} {v : Value} (hc : w.cell? a = some v) (hz : w.frozen? a = false) (o : Obj) : (w.alloc o).frozen? a = false := keepz ((Below.refl _ _).alloc (Nat.le_refl _) o) hc hz

/-- What is found, as five numbers and whether it is. -/
def Fnd (qs : List Qt) (a b : Int) (q : Bool) (x0 x1 x2 x3 x4 : Int) : Prop := (q = true ∧ fnd qs a b = some ⟨x0, x1, x2, x3, x4⟩) ∨ (q = false ∧ fnd qs a b = none ∧ x0 = 0 ∧ x1 = 0 ∧ x2 = 0 ∧ x3 = 0 ∧ x4 = 0)

set_option maxRecDepth 100000 in
set_option maxHeartbeats 1600000 in
theorem find_of (q : Bool) (y0 y1 y2 y3 y4 : Int) (A : Option Addr) (n c : Nat) (qs : List Qt) (a0 a1 : Int) (hn : Hid (qs.length = n)) (hf : Hid (Fnd qs a0 a1 q y0 y1 y2 y3 y4)) (w : World) (hr : RdQ w A c qs) :
    Calls Try.prog 27 #[.slice A n c, .agg #[.int .u8 a0, .int .u32 a1], .func (.func 28) #[] #[]] w fun e w' => e = .returned (.tuple #[.agg #[.int .u8 y0, .int .u32 y1, .int .i64 y2, .int .i64 y3, .int .i64 y4], .bool q]) ∧ Below w.heap.size w w' := by
  have hc2 : (c : Int) ≤ 9223372036854775807 := by have := hr.cap; omega
  have hc1 : (n : Int) ≤ c := by have := hr.len; have := hn.out; omega
  have HR := hid hr
  have hE := eql_label
  clear hr
  go_enter Try.func27, Try.ntmps27
  go_wp2_with fail
  generalize hW : (w.alloc _).alloc _ = W
  have hbW : Below w.heap.size w W := by subst hW; go_grown
  have hzW : w.heap.size + 1 < W.heap.size := by subst hW; simp
  (have s0 : W.cell? ⟨w.heap.size, 0, none⟩ = some (.int .u8 a0) := ((by subst hW; simp [go_sem])); have s1 : W.cell? ⟨w.heap.size, 1, none⟩ = some (.int .u32 a1) := ((by subst hW; simp [go_sem])))
  (have t0 : W.cell? ⟨w.heap.size + 1, 0, none⟩ = some (.int .u8 0) := ((by subst hW; simp [go_sem])); have t1 : W.cell? ⟨w.heap.size + 1, 1, none⟩ = some (.int .u32 0) := ((by subst hW; simp [go_sem])); have t2 : W.cell? ⟨w.heap.size + 1, 2, none⟩ = some (.int .i64 0) := ((by subst hW; simp [go_sem])); have t3 : W.cell? ⟨w.heap.size + 1, 3, none⟩ = some (.int .i64 0) := ((by subst hW; simp [go_sem])); have t4 : W.cell? ⟨w.heap.size + 1, 4, none⟩ = some (.int .i64 0) := ((by subst hW; simp [go_sem])))
  (have f0 : W.frozen? ⟨w.heap.size + 1, 0, none⟩ = false := ((by subst hW; simp [go_sem])); have f1 : W.frozen? ⟨w.heap.size + 1, 1, none⟩ = false := ((by subst hW; simp [go_sem])); have f2 : W.frozen? ⟨w.heap.size + 1, 2, none⟩ = false := ((by subst hW; simp [go_sem])); have f3 : W.frozen? ⟨w.heap.size + 1, 3, none⟩ = false := ((by subst hW; simp [go_sem])); have f4 : W.frozen? ⟨w.heap.size + 1, 4, none⟩ = false := ((by subst hW; simp [go_sem])))
  clear hW
  go_loopw [9, 13] (fun x i wr => ∃ (j : Nat), j ≤ n ∧ i = .int .i64 (j : Int) ∧ Hid (Fnd (qs.drop j) a0 a1 q y0 y1 y2 y3 y4) ∧ Below W.heap.size W wr) (fun _ i _ => n - (intOf i).toNat)
  case atStart => exact ⟨0, by omega, rfl, hid hf.out, Below.refl _ _⟩
  case round =>
    obtain ⟨j, hj, rfl, hp, hb⟩ := hrel
    (replace f0 := keepz hb t0 f0; replace f1 := keepz hb t1 f1; replace f2 := keepz hb t2 f2; replace f3 := keepz hb t3 f3; replace f4 := keepz hb t4 f4)
    (replace t0 := keep hb t0; replace t1 := keep hb t1; replace t2 := keep hb t2; replace t3 := keep hb t3; replace t4 := keep hb t4)
    (replace s0 := keep hb s0; replace s1 := keep hb s1)
    have hbw := below_in hbW hb
    by_cases hlt : j < n
    · have hl := hn.out
      obtain ⟨b, o, rfl, hcell⟩ := (HR.out.keep hbw).at_ (by omega)
      obtain ⟨k0, k1, k2, k3, k4, ht⟩ := hcell j (by omega)
      have hs := fnd_drop (qs := qs) (a := a0) (b := a1) (j := j) (by omega)
      generalize qs[j]'(by omega) = x at k0 k1 k2 k3 k4 ht hs
      obtain ⟨x0, x1, x2, x3, x4⟩ := x
      have hlt2 : (j : Int) < (n : Int) := by omega
      have HS := hid hs
      clear hs hcell hl ht
      go_wp2_with fail
      generalize hV : wr.alloc _ = V
      have hbV : Below wr.heap.size wr V := by subst hV; go_grown
      (have u0 : V.cell? ⟨wr.heap.size, 0, none⟩ = some (.int .u8 x0) := ((by subst hV; simp [go_sem])); have u1 : V.cell? ⟨wr.heap.size, 1, none⟩ = some (.int .u32 x1) := ((by subst hV; simp [go_sem])); have u2 : V.cell? ⟨wr.heap.size, 2, none⟩ = some (.int .i64 x2) := ((by subst hV; simp [go_sem])); have u3 : V.cell? ⟨wr.heap.size, 3, none⟩ = some (.int .i64 x3) := ((by subst hV; simp [go_sem])); have u4 : V.cell? ⟨wr.heap.size, 4, none⟩ = some (.int .i64 x4) := ((by subst hV; simp [go_sem])))
      clear hV k0 k1 k2 k3 k4
      (replace f0 := keepz hbV t0 f0; replace f1 := keepz hbV t1 f1; replace f2 := keepz hbV t2 f2; replace f3 := keepz hbV t3 f3; replace f4 := keepz hbV t4 f4)
      (replace t0 := keep hbV t0; replace t1 := keep hbV t1; replace t2 := keep hbV t2; replace t3 := keep hbV t3; replace t4 := keep hbV t4)
      (replace s0 := keep hbV s0; replace s1 := keep hbV s1)
      (have g0 := Past.all s0; have g1 := Past.all s1)
      (have h0 := Past.all u0; have h1 := Past.all u1; have h2 := Past.all u2; have h3 := Past.all u3; have h4 := Past.all u4)
      cases hd : sameL x0 x1 a0 a1
      · have hs := HS.out
        rw [hd, if_neg (by decide)] at hs
        have HN : Hid (Fnd (qs.drop (j + 1)) a0 a1 q y0 y1 y2 y3 y4) := hid (by have := hp.out; unfold Fnd at this ⊢; rwa [hs] at this)
        clear hs HS hp
        refine wp_region_past (by kernel_rfl) (by kernel_rfl) ?_
        repeat (go_big_quiet_step (exact quiet_below (labelOf_any _ _ _ _ _ _)))
        refine wpQuiet_nil ?_
        rintro w4 ⟨⟨_, hx⟩, rfl⟩
        replace hb := below_in hb (below_in hbV hx)
        clear hx hbV g0 g1 h0 h1 h2 h3 h4 u0 u1 u2 u3 u4 s0 s1 t0 t1 t2 t3 t4 f0 f1 f2 f3 f4
        go_wp2
        go_roundw
        case rel => exact ⟨j + 1, by omega, by go_num, HN, hb⟩
        case measure => simp [intOf]; omega
      · have hs := HS.out
        rw [hd, if_pos rfl] at hs
        have HN : Hid (q = true ∧ x0 = y0 ∧ x1 = y1 ∧ x2 = y2 ∧ x3 = y3 ∧ x4 = y4) := hid (by
          have := hp.out
          unfold Fnd at this
          rw [hs] at this
          rcases this with ⟨h1, h2⟩ | ⟨_, h2, _⟩
          · injection h2 with h2
            injection h2 with h2 h3 h4 h5 h6
            exact ⟨h1, h2, h3, h4, h5, h6⟩
          · cases h2)
        obtain ⟨rfl, rfl, rfl, rfl, rfl, rfl⟩ := HN.out
        clear hs HS hp HN
        refine wp_region_past (by kernel_rfl) (by kernel_rfl) ?_
        repeat (go_big_quiet_step (exact quiet_below (labelOf_any _ _ _ _ _ _)))
        refine wpQuiet_nil ?_
        rintro w4 ⟨⟨_, hx⟩, rfl⟩
        have hB := below_in hbw (below_in hbV hx)
        (replace f0 := keepz hx t0 f0; replace f1 := keepz hx t1 f1; replace f2 := keepz hx t2 f2; replace f3 := keepz hx t3 f3; replace f4 := keepz hx t4 f4)
        (replace t0 := keep hx t0; replace t1 := keep hx t1; replace t2 := keep hx t2; replace t3 := keep hx t3; replace t4 := keep hx t4)
        (replace u0 := keep hx u0; replace u1 := keep hx u1; replace u2 := keep hx u2; replace u3 := keep hx u3; replace u4 := keep hx u4)
        clear hx hbV hb hbw g0 g1 h0 h1 h2 h3 h4 s0 s1
        go_wp2
        exact bodyPost_ret (v := .tuple #[.agg #[.int .u8 x0, .int .u32 x1, .int .i64 x2, .int .i64 x3, .int .i64 x4], .bool true]) (by simp [results, Try.results27, go_sem, t0, t1, t2, t3, t4]) rfl ⟨rfl, set5 hB (by omega) _ _ _ _ _⟩
    · obtain rfl : j = n := by omega
      have HN : Hid (q = false ∧ y0 = 0 ∧ y1 = 0 ∧ y2 = 0 ∧ y3 = 0 ∧ y4 = 0) := hid (by
        have := hp.out
        unfold Fnd at this
        rw [fnd_end (by have := hn.out; omega)] at this
        rcases this with ⟨_, h2⟩ | ⟨h1, _, h2⟩
        · cases h2
        · exact ⟨h1, h2⟩)
      obtain ⟨rfl, rfl, rfl, rfl, rfl, rfl⟩ := HN.out
      clear hp HN s0 s1
      replace f0 := fun o => keepfa t0 f0 o
      replace f1 := fun o => keepfa t1 f1 o
      replace f2 := fun o => keepfa t2 f2 o
      replace f3 := fun o => keepfa t3 f3 o
      replace f4 := fun o => keepfa t4 f4 o
      (replace t0 := fun o => keepa t0 o; replace t1 := fun o => keepa t1 o; replace t2 := fun o => keepa t2 o; replace t3 := fun o => keepa t3 o; replace t4 := fun o => keepa t4 o)
      go_wp2
      exact bodyPost_ret (v := .tuple #[.agg #[.int .u8 0, .int .u32 0, .int .i64 0, .int .i64 0, .int .i64 0], .bool false]) (by simp [results, Try.results27, go_sem, t0, t1, t2, t3, t4]) rfl ⟨rfl, set5 (hbw.alloc hbw.size _) (by omega) _ _ _ _ _⟩
end Go.Proofs.Ytmmjciigbmgloaa
