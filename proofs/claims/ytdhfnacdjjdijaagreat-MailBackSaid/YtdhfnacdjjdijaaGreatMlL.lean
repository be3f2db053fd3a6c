/-
  The map of shapes, by kinds: what it has, and what is looked up in it.
-/
import Derived.Test.YtdhfnacdjjdijaaGreatMlK
import Derived.WideMake
namespace Go.Proofs.YtdhfnacdjjdijaaGreat
open Go.RowKit
set_option linter.unusedVariables false
set_option linter.unusedSimpArgs false

theorem info_shape : (Tryz.prog.info? 63).map (·.size) = some 4 := by kernel_rfl
theorem zero_shape : ∀ w, (zeroValue 63).run Tryz.prog w = .ok (.agg #[.nilFunc, .nilFunc, .nilFunc, .nilFunc]) w := fun _ => by kernel_rfl

set_option maxRecDepth 100000 in
set_option maxHeartbeats 400000 in
theorem shape_open (w : World) : Calls Tryz.prog 38 #[] w fun e w' => e = .returned (.agg #[.func (.func 59) #[] #[], .func (.func 60) #[] #[], .func (.func 62) #[] #[], .func (.func 64) #[] #[]]) ∧ Below w.heap.size w w' := by
  have th := there_new w #[.nilFunc, .nilFunc, .nilFunc, .nilFunc] 63 4 rfl
  go_enter Tryz.func38, Tryz.ntmps38
  go_wp2_with (refine wpList_store_n rfl 63 _ Tryz.underlying63 rfl [.func (.func 59) #[] #[], .func (.func 60) #[] #[], .func (.func 62) #[] #[], .func (.func 64) #[] #[]] info_shape (.tmp 0) (.tmp 1) rfl w.heap.size rfl rfl (by simp [Value.oneCell']) th w.heap.size (Nat.le_refl _) ?_; intro w4 r4 _ b4 h4 z4; have u0 : w4.cell? ⟨w.heap.size, 0, none⟩ = _ := r4 0 _ rfl; have u1 : w4.cell? ⟨w.heap.size, 1, none⟩ = _ := r4 1 _ rfl; have u2 : w4.cell? ⟨w.heap.size, 2, none⟩ = _ := r4 2 _ rfl; have u3 : w4.cell? ⟨w.heap.size, 3, none⟩ = _ := r4 3 _ rfl)
  exact bodyPost_ret (v := .agg #[.func (.func 59) #[] #[], .func (.func 60) #[] #[], .func (.func 62) #[] #[], .func (.func 64) #[] #[]]) (by simp [results, Tryz.results38, go_sem, u0, u1, u2, u3]) rfl ⟨rfl, ((Below.refl _ _).alloc (Nat.le_refl _) _).trans b4⟩

set_option maxRecDepth 100000 in
set_option maxHeartbeats 400000 in
theorem shape_submit (w : World) : Calls Tryz.prog 39 #[] w fun e w' => e = .returned (.agg #[.func (.func 65) #[] #[], .func (.func 66) #[] #[], .func (.func 69) #[] #[], .func (.func 71) #[] #[]]) ∧ Below w.heap.size w w' := by
  have th := there_new w #[.nilFunc, .nilFunc, .nilFunc, .nilFunc] 63 4 rfl
  go_enter Tryz.func39, Tryz.ntmps39
  go_wp2_with (refine wpList_store_n rfl 63 _ Tryz.underlying63 rfl [.func (.func 65) #[] #[], .func (.func 66) #[] #[], .func (.func 69) #[] #[], .func (.func 71) #[] #[]] info_shape (.tmp 0) (.tmp 1) rfl w.heap.size rfl rfl (by simp [Value.oneCell']) th w.heap.size (Nat.le_refl _) ?_; intro w4 r4 _ b4 h4 z4; have u0 : w4.cell? ⟨w.heap.size, 0, none⟩ = _ := r4 0 _ rfl; have u1 : w4.cell? ⟨w.heap.size, 1, none⟩ = _ := r4 1 _ rfl; have u2 : w4.cell? ⟨w.heap.size, 2, none⟩ = _ := r4 2 _ rfl; have u3 : w4.cell? ⟨w.heap.size, 3, none⟩ = _ := r4 3 _ rfl)
  exact bodyPost_ret (v := .agg #[.func (.func 65) #[] #[], .func (.func 66) #[] #[], .func (.func 69) #[] #[], .func (.func 71) #[] #[]]) (by simp [results, Tryz.results39, go_sem, u0, u1, u2, u3]) rfl ⟨rfl, ((Below.refl _ _).alloc (Nat.le_refl _) _).trans b4⟩

set_option maxRecDepth 100000 in
set_option maxHeartbeats 400000 in
theorem shape_pull (w : World) : Calls Tryz.prog 40 #[] w fun e w' => e = .returned (.agg #[.func (.func 73) #[] #[], .func (.func 74) #[] #[], .func (.func 76) #[] #[], .func (.func 77) #[] #[]]) ∧ Below w.heap.size w w' := by
  have th := there_new w #[.nilFunc, .nilFunc, .nilFunc, .nilFunc] 63 4 rfl
  go_enter Tryz.func40, Tryz.ntmps40
  go_wp2_with (refine wpList_store_n rfl 63 _ Tryz.underlying63 rfl [.func (.func 73) #[] #[], .func (.func 74) #[] #[], .func (.func 76) #[] #[], .func (.func 77) #[] #[]] info_shape (.tmp 0) (.tmp 1) rfl w.heap.size rfl rfl (by simp [Value.oneCell']) th w.heap.size (Nat.le_refl _) ?_; intro w4 r4 _ b4 h4 z4; have u0 : w4.cell? ⟨w.heap.size, 0, none⟩ = _ := r4 0 _ rfl; have u1 : w4.cell? ⟨w.heap.size, 1, none⟩ = _ := r4 1 _ rfl; have u2 : w4.cell? ⟨w.heap.size, 2, none⟩ = _ := r4 2 _ rfl; have u3 : w4.cell? ⟨w.heap.size, 3, none⟩ = _ := r4 3 _ rfl)
  exact bodyPost_ret (v := .agg #[.func (.func 73) #[] #[], .func (.func 74) #[] #[], .func (.func 76) #[] #[], .func (.func 77) #[] #[]]) (by simp [results, Tryz.results40, go_sem, u0, u1, u2, u3]) rfl ⟨rfl, ((Below.refl _ _).alloc (Nat.le_refl _) _).trans b4⟩

set_option maxRecDepth 100000 in
set_option maxHeartbeats 400000 in
theorem shape_ask (w : World) : Calls Tryz.prog 41 #[] w fun e w' => e = .returned (.agg #[.func (.func 78) #[] #[], .func (.func 79) #[] #[], .func (.func 81) #[] #[], .func (.func 82) #[] #[]]) ∧ Below w.heap.size w w' := by
  have th := there_new w #[.nilFunc, .nilFunc, .nilFunc, .nilFunc] 63 4 rfl
  go_enter Tryz.func41, Tryz.ntmps41
  go_wp2_with (refine wpList_store_n rfl 63 _ Tryz.underlying63 rfl [.func (.func 78) #[] #[], .func (.func 79) #[] #[], .func (.func 81) #[] #[], .func (.func 82) #[] #[]] info_shape (.tmp 0) (.tmp 1) rfl w.heap.size rfl rfl (by simp [Value.oneCell']) th w.heap.size (Nat.le_refl _) ?_; intro w4 r4 _ b4 h4 z4; have u0 : w4.cell? ⟨w.heap.size, 0, none⟩ = _ := r4 0 _ rfl; have u1 : w4.cell? ⟨w.heap.size, 1, none⟩ = _ := r4 1 _ rfl; have u2 : w4.cell? ⟨w.heap.size, 2, none⟩ = _ := r4 2 _ rfl; have u3 : w4.cell? ⟨w.heap.size, 3, none⟩ = _ := r4 3 _ rfl)
  exact bodyPost_ret (v := .agg #[.func (.func 78) #[] #[], .func (.func 79) #[] #[], .func (.func 81) #[] #[], .func (.func 82) #[] #[]]) (by simp [results, Tryz.results41, go_sem, u0, u1, u2, u3]) rfl ⟨rfl, ((Below.refl _ _).alloc (Nat.le_refl _) _).trans b4⟩

set_option maxRecDepth 100000 in
set_option maxHeartbeats 400000 in
theorem shape_bare (w : World) : Calls Tryz.prog 42 #[] w fun e w' => e = .returned (.agg #[.func (.func 83) #[] #[], .func (.func 84) #[] #[], .func (.func 85) #[] #[], .func (.func 86) #[] #[]]) ∧ Below w.heap.size w w' := by
  have th := there_new w #[.nilFunc, .nilFunc, .nilFunc, .nilFunc] 63 4 rfl
  go_enter Tryz.func42, Tryz.ntmps42
  go_wp2_with (refine wpList_store_n rfl 63 _ Tryz.underlying63 rfl [.func (.func 83) #[] #[], .func (.func 84) #[] #[], .func (.func 85) #[] #[], .func (.func 86) #[] #[]] info_shape (.tmp 0) (.tmp 1) rfl w.heap.size rfl rfl (by simp [Value.oneCell']) th w.heap.size (Nat.le_refl _) ?_; intro w4 r4 _ b4 h4 z4; have u0 : w4.cell? ⟨w.heap.size, 0, none⟩ = _ := r4 0 _ rfl; have u1 : w4.cell? ⟨w.heap.size, 1, none⟩ = _ := r4 1 _ rfl; have u2 : w4.cell? ⟨w.heap.size, 2, none⟩ = _ := r4 2 _ rfl; have u3 : w4.cell? ⟨w.heap.size, 3, none⟩ = _ := r4 3 _ rfl)
  exact bodyPost_ret (v := .agg #[.func (.func 83) #[] #[], .func (.func 84) #[] #[], .func (.func 85) #[] #[], .func (.func 86) #[] #[]]) (by simp [results, Tryz.results42, go_sem, u0, u1, u2, u3]) rfl ⟨rfl, ((Below.refl _ _).alloc (Nat.le_refl _) _).trans b4⟩

set_option maxRecDepth 100000 in
set_option maxHeartbeats 400000 in
theorem shape_coded (w : World) : Calls Tryz.prog 43 #[] w fun e w' => e = .returned (.agg #[.func (.func 87) #[] #[], .func (.func 88) #[] #[], .func (.func 90) #[] #[], .func (.func 91) #[] #[]]) ∧ Below w.heap.size w w' := by
  have th := there_new w #[.nilFunc, .nilFunc, .nilFunc, .nilFunc] 63 4 rfl
  go_enter Tryz.func43, Tryz.ntmps43
  go_wp2_with (refine wpList_store_n rfl 63 _ Tryz.underlying63 rfl [.func (.func 87) #[] #[], .func (.func 88) #[] #[], .func (.func 90) #[] #[], .func (.func 91) #[] #[]] info_shape (.tmp 0) (.tmp 1) rfl w.heap.size rfl rfl (by simp [Value.oneCell']) th w.heap.size (Nat.le_refl _) ?_; intro w4 r4 _ b4 h4 z4; have u0 : w4.cell? ⟨w.heap.size, 0, none⟩ = _ := r4 0 _ rfl; have u1 : w4.cell? ⟨w.heap.size, 1, none⟩ = _ := r4 1 _ rfl; have u2 : w4.cell? ⟨w.heap.size, 2, none⟩ = _ := r4 2 _ rfl; have u3 : w4.cell? ⟨w.heap.size, 3, none⟩ = _ := r4 3 _ rfl)
  exact bodyPost_ret (v := .agg #[.func (.func 87) #[] #[], .func (.func 88) #[] #[], .func (.func 90) #[] #[], .func (.func 91) #[] #[]]) (by simp [results, Tryz.results43, go_sem, u0, u1, u2, u3]) rfl ⟨rfl, ((Below.refl _ _).alloc (Nat.le_refl _) _).trans b4⟩

set_option maxRecDepth 100000 in
set_option maxHeartbeats 400000 in
theorem shape_answer (w : World) : Calls Tryz.prog 44 #[] w fun e w' => e = .returned (.agg #[.func (.func 93) #[] #[], .func (.func 94) #[] #[], .func (.func 95) #[] #[], .func (.func 96) #[] #[]]) ∧ Below w.heap.size w w' := by
  have th := there_new w #[.nilFunc, .nilFunc, .nilFunc, .nilFunc] 63 4 rfl
  go_enter Tryz.func44, Tryz.ntmps44
  go_wp2_with (refine wpList_store_n rfl 63 _ Tryz.underlying63 rfl [.func (.func 93) #[] #[], .func (.func 94) #[] #[], .func (.func 95) #[] #[], .func (.func 96) #[] #[]] info_shape (.tmp 0) (.tmp 1) rfl w.heap.size rfl rfl (by simp [Value.oneCell']) th w.heap.size (Nat.le_refl _) ?_; intro w4 r4 _ b4 h4 z4; have u0 : w4.cell? ⟨w.heap.size, 0, none⟩ = _ := r4 0 _ rfl; have u1 : w4.cell? ⟨w.heap.size, 1, none⟩ = _ := r4 1 _ rfl; have u2 : w4.cell? ⟨w.heap.size, 2, none⟩ = _ := r4 2 _ rfl; have u3 : w4.cell? ⟨w.heap.size, 3, none⟩ = _ := r4 3 _ rfl)
  exact bodyPost_ret (v := .agg #[.func (.func 93) #[] #[], .func (.func 94) #[] #[], .func (.func 95) #[] #[], .func (.func 96) #[] #[]]) (by simp [results, Tryz.results44, go_sem, u0, u1, u2, u3]) rfl ⟨rfl, ((Below.refl _ _).alloc (Nat.le_refl _) _).trans b4⟩

set_option maxRecDepth 100000 in
set_option maxHeartbeats 400000 in
theorem shape_page (w : World) : Calls Tryz.prog 45 #[] w fun e w' => e = .returned (.agg #[.func (.func 97) #[] #[], .func (.func 98) #[] #[], .func (.func 99) #[] #[], .func (.func 101) #[] #[]]) ∧ Below w.heap.size w w' := by
  have th := there_new w #[.nilFunc, .nilFunc, .nilFunc, .nilFunc] 63 4 rfl
  go_enter Tryz.func45, Tryz.ntmps45
  go_wp2_with (refine wpList_store_n rfl 63 _ Tryz.underlying63 rfl [.func (.func 97) #[] #[], .func (.func 98) #[] #[], .func (.func 99) #[] #[], .func (.func 101) #[] #[]] info_shape (.tmp 0) (.tmp 1) rfl w.heap.size rfl rfl (by simp [Value.oneCell']) th w.heap.size (Nat.le_refl _) ?_; intro w4 r4 _ b4 h4 z4; have u0 : w4.cell? ⟨w.heap.size, 0, none⟩ = _ := r4 0 _ rfl; have u1 : w4.cell? ⟨w.heap.size, 1, none⟩ = _ := r4 1 _ rfl; have u2 : w4.cell? ⟨w.heap.size, 2, none⟩ = _ := r4 2 _ rfl; have u3 : w4.cell? ⟨w.heap.size, 3, none⟩ = _ := r4 3 _ rfl)
  exact bodyPost_ret (v := .agg #[.func (.func 97) #[] #[], .func (.func 98) #[] #[], .func (.func 99) #[] #[], .func (.func 101) #[] #[]]) (by simp [results, Tryz.results45, go_sem, u0, u1, u2, u3]) rfl ⟨rfl, ((Below.refl _ _).alloc (Nat.le_refl _) _).trans b4⟩

set_option maxRecDepth 100000 in
set_option maxHeartbeats 400000 in
theorem shape_told (w : World) : Calls Tryz.prog 46 #[] w fun e w' => e = .returned (.agg #[.func (.func 102) #[] #[], .func (.func 103) #[] #[], .func (.func 106) #[] #[], .func (.func 107) #[] #[]]) ∧ Below w.heap.size w w' := by
  have th := there_new w #[.nilFunc, .nilFunc, .nilFunc, .nilFunc] 63 4 rfl
  go_enter Tryz.func46, Tryz.ntmps46
  go_wp2_with (refine wpList_store_n rfl 63 _ Tryz.underlying63 rfl [.func (.func 102) #[] #[], .func (.func 103) #[] #[], .func (.func 106) #[] #[], .func (.func 107) #[] #[]] info_shape (.tmp 0) (.tmp 1) rfl w.heap.size rfl rfl (by simp [Value.oneCell']) th w.heap.size (Nat.le_refl _) ?_; intro w4 r4 _ b4 h4 z4; have u0 : w4.cell? ⟨w.heap.size, 0, none⟩ = _ := r4 0 _ rfl; have u1 : w4.cell? ⟨w.heap.size, 1, none⟩ = _ := r4 1 _ rfl; have u2 : w4.cell? ⟨w.heap.size, 2, none⟩ = _ := r4 2 _ rfl; have u3 : w4.cell? ⟨w.heap.size, 3, none⟩ = _ := r4 3 _ rfl)
  exact bodyPost_ret (v := .agg #[.func (.func 102) #[] #[], .func (.func 103) #[] #[], .func (.func 106) #[] #[], .func (.func 107) #[] #[]]) (by simp [results, Tryz.results46, go_sem, u0, u1, u2, u3]) rfl ⟨rfl, ((Below.refl _ _).alloc (Nat.le_refl _) _).trans b4⟩

/-- The map's entries: one a kind. -/
def tabE : List (Int × Value) := [(1, .agg #[.func (.func 59) #[] #[], .func (.func 60) #[] #[], .func (.func 62) #[] #[], .func (.func 64) #[] #[]]), (2, .agg #[.func (.func 65) #[] #[], .func (.func 66) #[] #[], .func (.func 69) #[] #[], .func (.func 71) #[] #[]]), (3, .agg #[.func (.func 73) #[] #[], .func (.func 74) #[] #[], .func (.func 76) #[] #[], .func (.func 77) #[] #[]]), (4, .agg #[.func (.func 78) #[] #[], .func (.func 79) #[] #[], .func (.func 81) #[] #[], .func (.func 82) #[] #[]]), (5, .agg #[.func (.func 83) #[] #[], .func (.func 84) #[] #[], .func (.func 85) #[] #[], .func (.func 86) #[] #[]]), (6, .agg #[.func (.func 87) #[] #[], .func (.func 88) #[] #[], .func (.func 90) #[] #[], .func (.func 91) #[] #[]]), (7, .agg #[.func (.func 93) #[] #[], .func (.func 94) #[] #[], .func (.func 95) #[] #[], .func (.func 96) #[] #[]]), (8, .agg #[.func (.func 97) #[] #[], .func (.func 98) #[] #[], .func (.func 99) #[] #[], .func (.func 101) #[] #[]]), (9, .agg #[.func (.func 102) #[] #[], .func (.func 103) #[] #[], .func (.func 106) #[] #[], .func (.func 107) #[] #[]]), (10, .agg #[.func (.func 87) #[] #[], .func (.func 88) #[] #[], .func (.func 90) #[] #[], .func (.func 91) #[] #[]])]
def entE : Nat → List (Int × Value) → Array MapEntry → Array MapEntry
  | _, [], es => es
  | i, x :: l, es => entE (i + 1) l (es.push { key := .int .u8 x.1, val := x.2, born := i })
def tabA : Array MapEntry := entE 0 tabE #[]

/-- A new key is put into a map. -/
theorem wpList_insert {ops : Array Oper} {rest : List Oper} {o : Oper} {a : Act} {w : World} {Q : Exit → Act → World → Prop} (hgd : o.guard = none) (m x v : Operand) (ho : o.op = .insert 65 m x v)
    (g : Nat) (hm : a.eval m = .map (some g)) (k : Int) (hx : a.eval x = .int .u8 k) (y : Value) (hv : a.eval v = y) (es : Array MapEntry) (cl : Nat) (hg : w.heap[g]? = some (.map es cl))
    (hf : Instr.findNow (.int .u8) (.int .u8 k) es.toList 0 = some none) (base : Nat) (hb : base ≤ g)
    (h : ∀ W, W.heap[g]? = some (.map (es.push { key := .int .u8 k, val := y, born := cl }) (cl + 1)) → Below base w W → W.heap.size = w.heap.size → wpList Tryz.prog ops Q rest (a.put o.dst undef) W) : wpList Tryz.prog ops Q (o :: rest) a w := by
  refine wpList_plain hgd fun K hK => ?_
  have hc : (Instr.checkKey false 10000 5 (.int .u8 k)).run Tryz.prog w = .ok () w := MapKept.run_checkKey (d := .int .u8) (k := .int .u8 k) Tryz.underlying5 (by simp [MapKept.IsKey]) false 9999
  have hrun : (Instr.mapUpdate 65 (.map (some g)) (.int .u8 k) y).run Tryz.prog w = .ok () { w with heap := w.heap.setIfInBounds g (.map (es.push { key := .int .u8 k, val := y, born := cl }) (cl + 1)) } := by
    simp [Instr.mapUpdate, run_underlying Tryz.underlying65, MapKept.run_getObj_map hg, hc, MapKept.run_findKey Tryz.underlying5 hf, MapKept.run_setObj_map _ hg, Result.andThen]
  unfold Oper.wp execOp
  simp only [ho, hm, hx, hv, Sem.run_bind, hrun, Result.andThen_ok, Sem.run_pure]
  refine hK _ _ (h _ (MapKept.heap_set hg).1 ⟨rfl, rfl, rfl, by simp, fun i hi => (MapKept.heap_set hg).2 i (by omega)⟩ (by simp))

/-- What a map of shapes has at a key. -/
theorem run_lookup_tab (w : World) (g : Nat) (es : Array MapEntry) (cl : Nat) (hg : w.heap[g]? = some (.map es cl)) (k : Int) (ok : Bool) (r : Option (Nat × Value)) (hf : Instr.findNow (.int .u8) (.int .u8 k) es.toList 0 = some r) :
    (Instr.lookup 65 (.map (some g)) (.int .u8 k) ok).run Tryz.prog w = .ok (match r with | some (_, v) => if ok then .tuple #[v, .bool true] else v | none => if ok then .tuple #[.agg #[.nilFunc, .nilFunc, .nilFunc, .nilFunc], .bool false] else .agg #[.nilFunc, .nilFunc, .nilFunc, .nilFunc]) w := by
  have hc : ∀ e : Bool, (Instr.checkKey e 10000 5 (.int .u8 k)).run Tryz.prog w = .ok () w := fun e => MapKept.run_checkKey (d := .int .u8) (k := .int .u8 k) Tryz.underlying5 (by simp [MapKept.IsKey]) e 9999
  have hz := zero_shape w
  match r with
  | some (i, v) => simp [Instr.lookup, run_underlying Tryz.underlying65, MapKept.run_getObj_map hg, hc, MapKept.run_findKey Tryz.underlying5 hf, Result.andThen]
  | none => simp [Instr.lookup, run_underlying Tryz.underlying65, MapKept.run_getObj_map hg, hc, MapKept.run_findKey Tryz.underlying5 hf, Result.andThen, hz]

set_option maxRecDepth 100000 in
set_option maxHeartbeats 3200000 in
theorem shapes_any (w : World) : Calls Tryz.prog 25 #[] w fun e w' => ∃ g, e = .returned (.map (some g)) ∧ w'.heap[g]? = some (.map tabA 10) ∧ w.heap.size ≤ g ∧ g < w'.heap.size ∧ Below w.heap.size w w' := by
  have hmm := @run_makeMap Tryz.prog
  obtain ⟨g, hg⟩ : ∃ g, w.heap.size = g := ⟨_, rfl⟩
  have g0 : (w.alloc (.map #[] 0)).heap[g]? = some (.map #[] 0) := by rw [← hg]; exact heap_alloc_last w _
  have b0 : Below g w (w.alloc (.map #[] 0)) := (Below.refl _ _).alloc (by omega) _
  have z0 : g < (w.alloc (.map #[] 0)).heap.size := by simp; omega
  have HG := hid hg
  go_enter Tryz.func25, Tryz.ntmps25
  go_wp2_with fail
  generalize w.alloc (.map #[] 0) = v0 at g0 b0 z0 ⊢
  clear hg hmm
  refine (shape_open _).mono ?_
  rintro e u0 ⟨rfl, c0⟩
  have k0 : u0.heap[g]? = some (.map (#[]) 0) := by rw [c0.block g z0]; exact g0
  have d0 : Below g w u0 := b0.trans (c0.mono (Nat.le_of_lt z0))
  have y0 : g < u0.heap.size := Nat.lt_of_lt_of_le z0 c0.size
  clear g0 b0 z0 c0
  go_wp2_with (refine wpList_insert rfl (.tmp 1) (.const (.int .u8 1)) (.tmp 2) rfl g rfl 1 rfl _ rfl _ _ k0 rfl g (Nat.le_refl _) ?_; intro v1 g1 a1 s1; have b1 := d0.trans a1; have z1 : g < v1.heap.size := (by rw [s1]; exact y0); clear k0 d0 y0 a1 s1)
  refine (shape_submit _).mono ?_
  rintro e u1 ⟨rfl, c1⟩
  have k1 : u1.heap[g]? = some (.map ((#[]).push { key := .int .u8 1, val := .agg #[.func (.func 59) #[] #[], .func (.func 60) #[] #[], .func (.func 62) #[] #[], .func (.func 64) #[] #[]], born := 0 }) 1) := by rw [c1.block g z1]; exact g1
  have d1 : Below g w u1 := b1.trans (c1.mono (Nat.le_of_lt z1))
  have y1 : g < u1.heap.size := Nat.lt_of_lt_of_le z1 c1.size
  clear g1 b1 z1 c1
  go_wp2_with (refine wpList_insert rfl (.tmp 1) (.const (.int .u8 2)) (.tmp 3) rfl g rfl 2 rfl _ rfl _ _ k1 rfl g (Nat.le_refl _) ?_; intro v2 g2 a2 s2; have b2 := d1.trans a2; have z2 : g < v2.heap.size := (by rw [s2]; exact y1); clear k1 d1 y1 a2 s2)
  refine (shape_pull _).mono ?_
  rintro e u2 ⟨rfl, c2⟩
  have k2 : u2.heap[g]? = some (.map (((#[]).push { key := .int .u8 1, val := .agg #[.func (.func 59) #[] #[], .func (.func 60) #[] #[], .func (.func 62) #[] #[], .func (.func 64) #[] #[]], born := 0 }).push { key := .int .u8 2, val := .agg #[.func (.func 65) #[] #[], .func (.func 66) #[] #[], .func (.func 69) #[] #[], .func (.func 71) #[] #[]], born := 1 }) 2) := by rw [c2.block g z2]; exact g2
  have d2 : Below g w u2 := b2.trans (c2.mono (Nat.le_of_lt z2))
  have y2 : g < u2.heap.size := Nat.lt_of_lt_of_le z2 c2.size
  clear g2 b2 z2 c2
  go_wp2_with (refine wpList_insert rfl (.tmp 1) (.const (.int .u8 3)) (.tmp 4) rfl g rfl 3 rfl _ rfl _ _ k2 rfl g (Nat.le_refl _) ?_; intro v3 g3 a3 s3; have b3 := d2.trans a3; have z3 : g < v3.heap.size := (by rw [s3]; exact y2); clear k2 d2 y2 a3 s3)
  refine (shape_ask _).mono ?_
  rintro e u3 ⟨rfl, c3⟩
  have k3 : u3.heap[g]? = some (.map ((((#[]).push { key := .int .u8 1, val := .agg #[.func (.func 59) #[] #[], .func (.func 60) #[] #[], .func (.func 62) #[] #[], .func (.func 64) #[] #[]], born := 0 }).push { key := .int .u8 2, val := .agg #[.func (.func 65) #[] #[], .func (.func 66) #[] #[], .func (.func 69) #[] #[], .func (.func 71) #[] #[]], born := 1 }).push { key := .int .u8 3, val := .agg #[.func (.func 73) #[] #[], .func (.func 74) #[] #[], .func (.func 76) #[] #[], .func (.func 77) #[] #[]], born := 2 }) 3) := by rw [c3.block g z3]; exact g3
  have d3 : Below g w u3 := b3.trans (c3.mono (Nat.le_of_lt z3))
  have y3 : g < u3.heap.size := Nat.lt_of_lt_of_le z3 c3.size
  clear g3 b3 z3 c3
  go_wp2_with (refine wpList_insert rfl (.tmp 1) (.const (.int .u8 4)) (.tmp 5) rfl g rfl 4 rfl _ rfl _ _ k3 rfl g (Nat.le_refl _) ?_; intro v4 g4 a4 s4; have b4 := d3.trans a4; have z4 : g < v4.heap.size := (by rw [s4]; exact y3); clear k3 d3 y3 a4 s4)
  refine (shape_bare _).mono ?_
  rintro e u4 ⟨rfl, c4⟩
  have k4 : u4.heap[g]? = some (.map (((((#[]).push { key := .int .u8 1, val := .agg #[.func (.func 59) #[] #[], .func (.func 60) #[] #[], .func (.func 62) #[] #[], .func (.func 64) #[] #[]], born := 0 }).push { key := .int .u8 2, val := .agg #[.func (.func 65) #[] #[], .func (.func 66) #[] #[], .func (.func 69) #[] #[], .func (.func 71) #[] #[]], born := 1 }).push { key := .int .u8 3, val := .agg #[.func (.func 73) #[] #[], .func (.func 74) #[] #[], .func (.func 76) #[] #[], .func (.func 77) #[] #[]], born := 2 }).push { key := .int .u8 4, val := .agg #[.func (.func 78) #[] #[], .func (.func 79) #[] #[], .func (.func 81) #[] #[], .func (.func 82) #[] #[]], born := 3 }) 4) := by rw [c4.block g z4]; exact g4
  have d4 : Below g w u4 := b4.trans (c4.mono (Nat.le_of_lt z4))
  have y4 : g < u4.heap.size := Nat.lt_of_lt_of_le z4 c4.size
  clear g4 b4 z4 c4
  go_wp2_with (refine wpList_insert rfl (.tmp 1) (.const (.int .u8 5)) (.tmp 6) rfl g rfl 5 rfl _ rfl _ _ k4 rfl g (Nat.le_refl _) ?_; intro v5 g5 a5 s5; have b5 := d4.trans a5; have z5 : g < v5.heap.size := (by rw [s5]; exact y4); clear k4 d4 y4 a5 s5)
  refine (shape_coded _).mono ?_
  rintro e u5 ⟨rfl, c5⟩
  have k5 : u5.heap[g]? = some (.map ((((((#[]).push { key := .int .u8 1, val := .agg #[.func (.func 59) #[] #[], .func (.func 60) #[] #[], .func (.func 62) #[] #[], .func (.func 64) #[] #[]], born := 0 }).push { key := .int .u8 2, val := .agg #[.func (.func 65) #[] #[], .func (.func 66) #[] #[], .func (.func 69) #[] #[], .func (.func 71) #[] #[]], born := 1 }).push { key := .int .u8 3, val := .agg #[.func (.func 73) #[] #[], .func (.func 74) #[] #[], .func (.func 76) #[] #[], .func (.func 77) #[] #[]], born := 2 }).push { key := .int .u8 4, val := .agg #[.func (.func 78) #[] #[], .func (.func 79) #[] #[], .func (.func 81) #[] #[], .func (.func 82) #[] #[]], born := 3 }).push { key := .int .u8 5, val := .agg #[.func (.func 83) #[] #[], .func (.func 84) #[] #[], .func (.func 85) #[] #[], .func (.func 86) #[] #[]], born := 4 }) 5) := by rw [c5.block g z5]; exact g5
  have d5 : Below g w u5 := b5.trans (c5.mono (Nat.le_of_lt z5))
  have y5 : g < u5.heap.size := Nat.lt_of_lt_of_le z5 c5.size
  clear g5 b5 z5 c5
  go_wp2_with (refine wpList_insert rfl (.tmp 1) (.const (.int .u8 6)) (.tmp 7) rfl g rfl 6 rfl _ rfl _ _ k5 rfl g (Nat.le_refl _) ?_; intro v6 g6 a6 s6; have b6 := d5.trans a6; have z6 : g < v6.heap.size := (by rw [s6]; exact y5); clear k5 d5 y5 a6 s6)
  refine (shape_answer _).mono ?_
  rintro e u6 ⟨rfl, c6⟩
  have k6 : u6.heap[g]? = some (.map (((((((#[]).push { key := .int .u8 1, val := .agg #[.func (.func 59) #[] #[], .func (.func 60) #[] #[], .func (.func 62) #[] #[], .func (.func 64) #[] #[]], born := 0 }).push { key := .int .u8 2, val := .agg #[.func (.func 65) #[] #[], .func (.func 66) #[] #[], .func (.func 69) #[] #[], .func (.func 71) #[] #[]], born := 1 }).push { key := .int .u8 3, val := .agg #[.func (.func 73) #[] #[], .func (.func 74) #[] #[], .func (.func 76) #[] #[], .func (.func 77) #[] #[]], born := 2 }).push { key := .int .u8 4, val := .agg #[.func (.func 78) #[] #[], .func (.func 79) #[] #[], .func (.func 81) #[] #[], .func (.func 82) #[] #[]], born := 3 }).push { key := .int .u8 5, val := .agg #[.func (.func 83) #[] #[], .func (.func 84) #[] #[], .func (.func 85) #[] #[], .func (.func 86) #[] #[]], born := 4 }).push { key := .int .u8 6, val := .agg #[.func (.func 87) #[] #[], .func (.func 88) #[] #[], .func (.func 90) #[] #[], .func (.func 91) #[] #[]], born := 5 }) 6) := by rw [c6.block g z6]; exact g6
  have d6 : Below g w u6 := b6.trans (c6.mono (Nat.le_of_lt z6))
  have y6 : g < u6.heap.size := Nat.lt_of_lt_of_le z6 c6.size
  clear g6 b6 z6 c6
  go_wp2_with (refine wpList_insert rfl (.tmp 1) (.const (.int .u8 7)) (.tmp 8) rfl g rfl 7 rfl _ rfl _ _ k6 rfl g (Nat.le_refl _) ?_; intro v7 g7 a7 s7; have b7 := d6.trans a7; have z7 : g < v7.heap.size := (by rw [s7]; exact y6); clear k6 d6 y6 a7 s7)
  refine (shape_page _).mono ?_
  rintro e u7 ⟨rfl, c7⟩
  have k7 : u7.heap[g]? = some (.map ((((((((#[]).push { key := .int .u8 1, val := .agg #[.func (.func 59) #[] #[], .func (.func 60) #[] #[], .func (.func 62) #[] #[], .func (.func 64) #[] #[]], born := 0 }).push { key := .int .u8 2, val := .agg #[.func (.func 65) #[] #[], .func (.func 66) #[] #[], .func (.func 69) #[] #[], .func (.func 71) #[] #[]], born := 1 }).push { key := .int .u8 3, val := .agg #[.func (.func 73) #[] #[], .func (.func 74) #[] #[], .func (.func 76) #[] #[], .func (.func 77) #[] #[]], born := 2 }).push { key := .int .u8 4, val := .agg #[.func (.func 78) #[] #[], .func (.func 79) #[] #[], .func (.func 81) #[] #[], .func (.func 82) #[] #[]], born := 3 }).push { key := .int .u8 5, val := .agg #[.func (.func 83) #[] #[], .func (.func 84) #[] #[], .func (.func 85) #[] #[], .func (.func 86) #[] #[]], born := 4 }).push { key := .int .u8 6, val := .agg #[.func (.func 87) #[] #[], .func (.func 88) #[] #[], .func (.func 90) #[] #[], .func (.func 91) #[] #[]], born := 5 }).push { key := .int .u8 7, val := .agg #[.func (.func 93) #[] #[], .func (.func 94) #[] #[], .func (.func 95) #[] #[], .func (.func 96) #[] #[]], born := 6 }) 7) := by rw [c7.block g z7]; exact g7
  have d7 : Below g w u7 := b7.trans (c7.mono (Nat.le_of_lt z7))
  have y7 : g < u7.heap.size := Nat.lt_of_lt_of_le z7 c7.size
  clear g7 b7 z7 c7
  go_wp2_with (refine wpList_insert rfl (.tmp 1) (.const (.int .u8 8)) (.tmp 9) rfl g rfl 8 rfl _ rfl _ _ k7 rfl g (Nat.le_refl _) ?_; intro v8 g8 a8 s8; have b8 := d7.trans a8; have z8 : g < v8.heap.size := (by rw [s8]; exact y7); clear k7 d7 y7 a8 s8)
  refine (shape_told _).mono ?_
  rintro e u8 ⟨rfl, c8⟩
  have k8 : u8.heap[g]? = some (.map (((((((((#[]).push { key := .int .u8 1, val := .agg #[.func (.func 59) #[] #[], .func (.func 60) #[] #[], .func (.func 62) #[] #[], .func (.func 64) #[] #[]], born := 0 }).push { key := .int .u8 2, val := .agg #[.func (.func 65) #[] #[], .func (.func 66) #[] #[], .func (.func 69) #[] #[], .func (.func 71) #[] #[]], born := 1 }).push { key := .int .u8 3, val := .agg #[.func (.func 73) #[] #[], .func (.func 74) #[] #[], .func (.func 76) #[] #[], .func (.func 77) #[] #[]], born := 2 }).push { key := .int .u8 4, val := .agg #[.func (.func 78) #[] #[], .func (.func 79) #[] #[], .func (.func 81) #[] #[], .func (.func 82) #[] #[]], born := 3 }).push { key := .int .u8 5, val := .agg #[.func (.func 83) #[] #[], .func (.func 84) #[] #[], .func (.func 85) #[] #[], .func (.func 86) #[] #[]], born := 4 }).push { key := .int .u8 6, val := .agg #[.func (.func 87) #[] #[], .func (.func 88) #[] #[], .func (.func 90) #[] #[], .func (.func 91) #[] #[]], born := 5 }).push { key := .int .u8 7, val := .agg #[.func (.func 93) #[] #[], .func (.func 94) #[] #[], .func (.func 95) #[] #[], .func (.func 96) #[] #[]], born := 6 }).push { key := .int .u8 8, val := .agg #[.func (.func 97) #[] #[], .func (.func 98) #[] #[], .func (.func 99) #[] #[], .func (.func 101) #[] #[]], born := 7 }) 8) := by rw [c8.block g z8]; exact g8
  have d8 : Below g w u8 := b8.trans (c8.mono (Nat.le_of_lt z8))
  have y8 : g < u8.heap.size := Nat.lt_of_lt_of_le z8 c8.size
  clear g8 b8 z8 c8
  go_wp2_with (refine wpList_insert rfl (.tmp 1) (.const (.int .u8 9)) (.tmp 10) rfl g rfl 9 rfl _ rfl _ _ k8 rfl g (Nat.le_refl _) ?_; intro v9 g9 a9 s9; have b9 := d8.trans a9; have z9 : g < v9.heap.size := (by rw [s9]; exact y8); clear k8 d8 y8 a9 s9)
  refine (shape_coded _).mono ?_
  rintro e u9 ⟨rfl, c9⟩
  have k9 : u9.heap[g]? = some (.map ((((((((((#[]).push { key := .int .u8 1, val := .agg #[.func (.func 59) #[] #[], .func (.func 60) #[] #[], .func (.func 62) #[] #[], .func (.func 64) #[] #[]], born := 0 }).push { key := .int .u8 2, val := .agg #[.func (.func 65) #[] #[], .func (.func 66) #[] #[], .func (.func 69) #[] #[], .func (.func 71) #[] #[]], born := 1 }).push { key := .int .u8 3, val := .agg #[.func (.func 73) #[] #[], .func (.func 74) #[] #[], .func (.func 76) #[] #[], .func (.func 77) #[] #[]], born := 2 }).push { key := .int .u8 4, val := .agg #[.func (.func 78) #[] #[], .func (.func 79) #[] #[], .func (.func 81) #[] #[], .func (.func 82) #[] #[]], born := 3 }).push { key := .int .u8 5, val := .agg #[.func (.func 83) #[] #[], .func (.func 84) #[] #[], .func (.func 85) #[] #[], .func (.func 86) #[] #[]], born := 4 }).push { key := .int .u8 6, val := .agg #[.func (.func 87) #[] #[], .func (.func 88) #[] #[], .func (.func 90) #[] #[], .func (.func 91) #[] #[]], born := 5 }).push { key := .int .u8 7, val := .agg #[.func (.func 93) #[] #[], .func (.func 94) #[] #[], .func (.func 95) #[] #[], .func (.func 96) #[] #[]], born := 6 }).push { key := .int .u8 8, val := .agg #[.func (.func 97) #[] #[], .func (.func 98) #[] #[], .func (.func 99) #[] #[], .func (.func 101) #[] #[]], born := 7 }).push { key := .int .u8 9, val := .agg #[.func (.func 102) #[] #[], .func (.func 103) #[] #[], .func (.func 106) #[] #[], .func (.func 107) #[] #[]], born := 8 }) 9) := by rw [c9.block g z9]; exact g9
  have d9 : Below g w u9 := b9.trans (c9.mono (Nat.le_of_lt z9))
  have y9 : g < u9.heap.size := Nat.lt_of_lt_of_le z9 c9.size
  clear g9 b9 z9 c9
  go_wp2_with (refine wpList_insert rfl (.tmp 1) (.const (.int .u8 10)) (.tmp 11) rfl g rfl 10 rfl _ rfl _ _ k9 rfl g (Nat.le_refl _) ?_; intro v10 g10 a10 s10; have b10 := d9.trans a10; have z10 : g < v10.heap.size := (by rw [s10]; exact y9); clear k9 d9 y9 a10 s10)
  go_ret
  exact ⟨g, rfl, g10, by rw [HG.out]; omega, z10, by rw [HG.out]; exact b10⟩
end Go.Proofs.YtdhfnacdjjdijaaGreat
