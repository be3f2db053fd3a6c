/-
  Whether mail may be: the program's Check of layer 10.
-/
import Derived.Test.YtdhfnacdjjdijaaGreatMlN
import Derived.Laws.EntriesVeiled
import Derived.Deep.CutRange
namespace Go.Proofs.YtdhfnacdjjdijaaGreat
open Go.RowKit
set_option linter.unusedVariables false
set_option linter.unusedSimpArgs false

theorem call_enter {f : FuncId} {fn : Func} (hf : Tryz.prog.funcs[f]? = some fn) (hname : (fn.name == "runtime.NumGoroutine") = false) (hb : fn.body.isSome = true) (args : Array Value) (w : World) :
    (callFunc f args).run Tryz.prog w = .ok (.enter f args) w := by
  have h1 : fn.name ≠ "runtime.NumGoroutine" := by simpa using hname
  obtain ⟨c, hc⟩ := Option.isSome_iff_exists.1 hb
  simp [callFunc, hf, h1, hc]

/-- The four closures of a kind. -/
structure Shp (k : Int) (f0 f1 f2 f3 : FuncId) : Prop where
  e0 : ∀ args W, (callFunc f0 args).run Tryz.prog W = .ok (.enter f0 args) W
  e1 : ∀ args W, (callFunc f1 args).run Tryz.prog W = .ok (.enter f1 args) W
  e2 : ∀ args W, (callFunc f2 args).run Tryz.prog W = .ok (.enter f2 args) W
  e3 : ∀ args W, (callFunc f3 args).run Tryz.prog W = .ok (.enter f3 args) W
  only : ∀ (m : Mld) (A : Option Addr) (n c : Nat), Hid (m.ops.length = n) → ∃ A0 n0 c0, Hid ((onlyM k m).ops.length = n0) ∧ (∀ w, RdO w A c m.ops → RdO w A0 c0 (onlyM k m).ops) ∧ ∀ W, Calls Tryz.prog f0 #[.agg #[.int .u8 m.kd, .int .i64 m.us, .int .i64 m.se, .int .i64 m.co, .int .i64 m.fr, .int .i64 m.tt, .int .u8 m.ak, .int .i64 m.t0, .int .i64 m.t1, .int .i64 m.t2, .int .i64 m.t3, .slice A n c]] W fun e w' => e = .returned (.agg #[.int .u8 (onlyM k m).kd, .int .i64 (onlyM k m).us, .int .i64 (onlyM k m).se, .int .i64 (onlyM k m).co, .int .i64 (onlyM k m).fr, .int .i64 (onlyM k m).tt, .int .u8 (onlyM k m).ak, .int .i64 (onlyM k m).t0, .int .i64 (onlyM k m).t1, .int .i64 (onlyM k m).t2, .int .i64 (onlyM k m).t3, .slice A0 n0 c0]) ∧ Below W.heap.size W w'
  may : ∀ (q : Bool) (m : Mld) (A : Option Addr) (n c : Nat), Hid (m.ops.length = n) → Hid (mayK k m = q) → ∀ w, RdO w A c m.ops → Calls Tryz.prog f1 #[.agg #[.int .u8 m.kd, .int .i64 m.us, .int .i64 m.se, .int .i64 m.co, .int .i64 m.fr, .int .i64 m.tt, .int .u8 m.ak, .int .i64 m.t0, .int .i64 m.t1, .int .i64 m.t2, .int .i64 m.t3, .slice A n c]] w fun e w' => e = .returned (.bool q) ∧ Below w.heap.size w w'
  put : ∀ (L : Nat) (m : Mld) (A : Option Addr) (n c : Nat), Hid (m.ops.length = n) → (∀ o ∈ m.ops, Opr o) → mayK k m = true → Hid ((tailK k m).length = L) → ∀ w, RdO w A c m.ops → Calls Tryz.prog f2 #[.agg #[.int .u8 m.kd, .int .i64 m.us, .int .i64 m.se, .int .i64 m.co, .int .i64 m.fr, .int .i64 m.tt, .int .u8 m.ak, .int .i64 m.t0, .int .i64 m.t1, .int .i64 m.t2, .int .i64 m.t3, .slice A n c]] w (RetBs w (tailK k m) L)
  take : ∀ (w0 : World) (g : Nat) (A : Option Addr) (n c : Nat) (l : List UInt8) (w : World), Rdr w0 w g A n c l → Calls Tryz.prog f3 #[.pointer (some ⟨g, 0, none⟩)] w (RetM w g (rdK tkO k l))

theorem RetBs.len {w : World} {l : List UInt8} {n L : Nat} (h : n = L) {e : Ending} {w' : World} (hr : RetBs w l n e w') : RetBs w l L e w' := by rw [← h]; exact hr

theorem shp1 : Shp 1 59 60 62 64 :=
  ⟨call_enter Tryz.func59 (by kernel_rfl) (by kernel_rfl), call_enter Tryz.func60 (by kernel_rfl) (by kernel_rfl), call_enter Tryz.func62 (by kernel_rfl) (by kernel_rfl), call_enter Tryz.func64 (by kernel_rfl) (by kernel_rfl),
   fun m A n c hn => ⟨none, 0, 0, hid rfl, fun w h => RdO.nil w, fun W => only_open m A n c W⟩,
   fun q m A n c hn hq w hr => may_open q m A n c hq w,
   fun L m A n c hn h0 hm hl w hr => (put_open m A n c hm w).mono fun e w' h => RetBs.len (by rw [← hl.out]; exact Eq.symm (nB_length 1 m.us)) h,
   fun w0 g A n c l w hr => take_open w0 g A n c l w hr⟩

theorem shp2 : Shp 2 65 66 69 71 :=
  ⟨call_enter Tryz.func65 (by kernel_rfl) (by kernel_rfl), call_enter Tryz.func66 (by kernel_rfl) (by kernel_rfl), call_enter Tryz.func69 (by kernel_rfl) (by kernel_rfl), call_enter Tryz.func71 (by kernel_rfl) (by kernel_rfl),
   fun m A n c hn => ⟨A, n, c, hn, fun w h => h, fun W => only_submit m A n c W⟩,
   fun q m A n c hn hq w hr => may_submit q m A n c hn hq w hr,
   fun L m A n c hn h0 hm hl w hr => put_submit L m A n c hn h0 hm hl w hr,
   fun w0 g A n c l w hr => take_submit w0 g A n c l w hr⟩

theorem shp3 : Shp 3 73 74 76 77 :=
  ⟨call_enter Tryz.func73 (by kernel_rfl) (by kernel_rfl), call_enter Tryz.func74 (by kernel_rfl) (by kernel_rfl), call_enter Tryz.func76 (by kernel_rfl) (by kernel_rfl), call_enter Tryz.func77 (by kernel_rfl) (by kernel_rfl),
   fun m A n c hn => ⟨none, 0, 0, hid rfl, fun w h => RdO.nil w, fun W => only_pull m A n c W⟩,
   fun q m A n c hn hq w hr => may_pull q m A n c hq w,
   fun L m A n c hn h0 hm hl w hr => (put_pull m A n c hm w).mono fun e w' h => RetBs.len (by rw [← hl.out]; exact Eq.symm (nB_length 3 m.fr)) h,
   fun w0 g A n c l w hr => take_pull w0 g A n c l w hr⟩

theorem shp4 : Shp 4 78 79 81 82 :=
  ⟨call_enter Tryz.func78 (by kernel_rfl) (by kernel_rfl), call_enter Tryz.func79 (by kernel_rfl) (by kernel_rfl), call_enter Tryz.func81 (by kernel_rfl) (by kernel_rfl), call_enter Tryz.func82 (by kernel_rfl) (by kernel_rfl),
   fun m A n c hn => ⟨none, 0, 0, hid rfl, fun w h => RdO.nil w, fun W => only_ask m A n c W⟩,
   fun q m A n c hn hq w hr => may_ask q m A n c hq w,
   fun L m A n c hn h0 hm hl w hr => (put_ask m A n c hm w).mono fun e w' h => RetBs.len (by rw [← hl.out]; exact Eq.symm (nB_length 1 m.ak)) h,
   fun w0 g A n c l w hr => take_ask w0 g A n c l w hr⟩

theorem shp5 : Shp 5 83 84 85 86 :=
  ⟨call_enter Tryz.func83 (by kernel_rfl) (by kernel_rfl), call_enter Tryz.func84 (by kernel_rfl) (by kernel_rfl), call_enter Tryz.func85 (by kernel_rfl) (by kernel_rfl), call_enter Tryz.func86 (by kernel_rfl) (by kernel_rfl),
   fun m A n c hn => ⟨none, 0, 0, hid rfl, fun w h => RdO.nil w, fun W => only_bare m A n c W⟩,
   fun q m A n c hn hq w hr => may_bare q m A n c hq w,
   fun L m A n c hn h0 hm hl w hr => (put_bare m A n c w).mono fun e w' h => RetBs.len (by rw [← hl.out]; exact Eq.symm (rfl)) h,
   fun w0 g A n c l w hr => take_bare w0 g A n c l w hr⟩

theorem shp6 : Shp 6 87 88 90 91 :=
  ⟨call_enter Tryz.func87 (by kernel_rfl) (by kernel_rfl), call_enter Tryz.func88 (by kernel_rfl) (by kernel_rfl), call_enter Tryz.func90 (by kernel_rfl) (by kernel_rfl), call_enter Tryz.func91 (by kernel_rfl) (by kernel_rfl),
   fun m A n c hn => ⟨none, 0, 0, hid rfl, fun w h => RdO.nil w, fun W => only_coded m A n c W⟩,
   fun q m A n c hn hq w hr => may_coded q m A n c hq w,
   fun L m A n c hn h0 hm hl w hr => (put_coded m A n c hm w).mono fun e w' h => RetBs.len (by rw [← hl.out]; exact Eq.symm (nB_length 2 m.co)) h,
   fun w0 g A n c l w hr => take_coded w0 g A n c l w hr⟩

theorem shp10 : Shp 10 87 88 90 91 :=
  ⟨call_enter Tryz.func87 (by kernel_rfl) (by kernel_rfl), call_enter Tryz.func88 (by kernel_rfl) (by kernel_rfl), call_enter Tryz.func90 (by kernel_rfl) (by kernel_rfl), call_enter Tryz.func91 (by kernel_rfl) (by kernel_rfl),
   fun m A n c hn => ⟨none, 0, 0, hid rfl, fun w h => RdO.nil w, fun W => only_coded m A n c W⟩,
   fun q m A n c hn hq w hr => may_coded q m A n c hq w,
   fun L m A n c hn h0 hm hl w hr => (put_coded m A n c hm w).mono fun e w' h => RetBs.len (by rw [← hl.out]; exact Eq.symm (nB_length 2 m.co)) h,
   fun w0 g A n c l w hr => take_coded w0 g A n c l w hr⟩

theorem shp7 : Shp 7 93 94 95 96 :=
  ⟨call_enter Tryz.func93 (by kernel_rfl) (by kernel_rfl), call_enter Tryz.func94 (by kernel_rfl) (by kernel_rfl), call_enter Tryz.func95 (by kernel_rfl) (by kernel_rfl), call_enter Tryz.func96 (by kernel_rfl) (by kernel_rfl),
   fun m A n c hn => ⟨none, 0, 0, hid rfl, fun w h => RdO.nil w, fun W => only_answer m A n c W⟩,
   fun q m A n c hn hq w hr => may_answer q m A n c hq w,
   fun L m A n c hn h0 hm hl w hr => (put_answer m A n c hm w).mono fun e w' h => RetBs.len (by rw [← hl.out]; exact Eq.symm (by rw [show tailK 7 m = nB 3 m.se ++ nB 2 m.co from rfl, List.length_append, nB_length, nB_length])) h,
   fun w0 g A n c l w hr => take_answer w0 g A n c l w hr⟩

theorem shp8 : Shp 8 97 98 99 101 :=
  ⟨call_enter Tryz.func97 (by kernel_rfl) (by kernel_rfl), call_enter Tryz.func98 (by kernel_rfl) (by kernel_rfl), call_enter Tryz.func99 (by kernel_rfl) (by kernel_rfl), call_enter Tryz.func101 (by kernel_rfl) (by kernel_rfl),
   fun m A n c hn => ⟨A, n, c, hn, fun w h => h, fun W => only_page m A n c W⟩,
   fun q m A n c hn hq w hr => may_page q m A n c hn hq w hr,
   fun L m A n c hn h0 hm hl w hr => put_page L m A n c hn h0 hm hl w hr,
   fun w0 g A n c l w hr => take_page w0 g A n c l w hr⟩

theorem shp9 : Shp 9 102 103 106 107 :=
  ⟨call_enter Tryz.func102 (by kernel_rfl) (by kernel_rfl), call_enter Tryz.func103 (by kernel_rfl) (by kernel_rfl), call_enter Tryz.func106 (by kernel_rfl) (by kernel_rfl), call_enter Tryz.func107 (by kernel_rfl) (by kernel_rfl),
   fun m A n c hn => ⟨none, 0, 0, hid rfl, fun w h => RdO.nil w, fun W => only_told m A n c W⟩,
   fun q m A n c hn hq w hr => may_told q m A n c hq w,
   fun L m A n c hn h0 hm hl w hr => (put_told m A n c hm w).mono fun e w' h => RetBs.len (by rw [← hl.out]; exact Eq.symm (by rw [show tailK 9 m = nB 1 m.ak ++ (nB 3 m.t0 ++ (nB 3 m.t1 ++ (nB 3 m.t2 ++ nB 3 m.t3))) from rfl]; simp [nB_length])) h,
   fun w0 g A n c l w hr => take_told w0 g A n c l w hr⟩

/-- Each kind has its entry. -/
theorem shp_all {k : Int} (h : isK k = true) : ∃ f0 f1 f2 f3 i, Instr.findNow (.int .u8) (.int .u8 k) tabA.toList 0 = some (some (i, .agg #[.func (.func f0) #[] #[], .func (.func f1) #[] #[], .func (.func f2) #[] #[], .func (.func f3) #[] #[]])) ∧ Shp k f0 f1 f2 f3 := by
  rcases isK_iff.1 h with rfl | rfl | rfl | rfl | rfl | rfl | rfl | rfl | rfl | rfl
  · exact ⟨_, _, _, _, _, rfl, shp1⟩
  · exact ⟨_, _, _, _, _, rfl, shp2⟩
  · exact ⟨_, _, _, _, _, rfl, shp3⟩
  · exact ⟨_, _, _, _, _, rfl, shp4⟩
  · exact ⟨_, _, _, _, _, rfl, shp5⟩
  · exact ⟨_, _, _, _, _, rfl, shp6⟩
  · exact ⟨_, _, _, _, _, rfl, shp7⟩
  · exact ⟨_, _, _, _, _, rfl, shp8⟩
  · exact ⟨_, _, _, _, _, rfl, shp9⟩
  · exact ⟨_, _, _, _, _, rfl, shp10⟩
theorem shp_none {k : Int} (h : isK k = false) : Instr.findNow (.int .u8) (.int .u8 k) tabA.toList 0 = some none := by
  have h' : ¬ (1 ≤ k ∧ k ≤ 10) := by
    intro hk
    have : isK k = true := by simp [isK, hk]
    rw [h] at this
    cases this
  have e : ∀ j : Int, 1 ≤ j → j ≤ 10 → (k == j) = false := fun j h1 h2 => by simp; omega
  simp [tabA, tabE, entE, Instr.findNow, Instr.sameNow, e]
end Go.Proofs.YtdhfnacdjjdijaaGreat

namespace Go.Proofs.YtdhfnacdjjdijaaGreat
open Go.RowKit
set_option linter.unusedVariables false
set_option linter.unusedSimpArgs false

theorem past_ad {V : World} {o : Obj} {w : World} (b : Below (V.alloc o).drew.heap.size (V.alloc o).drew w) : Below V.heap.size V w := (((Below.refl _ V).alloc (Nat.le_refl _) o).drew).trans (b.mono (by simp))

theorem range_new (w : World) (cs : List Value) (t : TypeId) : (w.alloc (.cells cs.toArray t)).rangeAt w.heap.size 0 cs := fun j v hv => by
  rw [Nat.zero_add, cell_of_row _ _ j _ t (0, 0) (heap_alloc_last w _)]
  simpa using hv
theorem range_set4 {w : World} {b : Nat} {u0 u1 u2 u3 : Value} (z0 : w.cell? ⟨b, 0, none⟩ = some u0) (z1 : w.cell? ⟨b, 1, none⟩ = some u1) (z2 : w.cell? ⟨b, 2, none⟩ = some u2) (z3 : w.cell? ⟨b, 3, none⟩ = some u3)
    (x0 : w.frozen? ⟨b, 0, none⟩ = false) (x1 : w.frozen? ⟨b, 1, none⟩ = false) (x2 : w.frozen? ⟨b, 2, none⟩ = false) (x3 : w.frozen? ⟨b, 3, none⟩ = false) (v0 v1 v2 v3 : Value) :
    ((((w.setCell ⟨b, 0, none⟩ v0).setCell ⟨b, 1, none⟩ v1).setCell ⟨b, 2, none⟩ v2).setCell ⟨b, 3, none⟩ v3).rangeAt b 0 [v0, v1, v2, v3] :=
  World.rangeAt_setCells_same w b 0 [v0, v1, v2, v3] fun j hj => by
    match j, hj with
    | 0, _ => exact ⟨by rw [z0]; rfl, x0⟩
    | 1, _ => exact ⟨by rw [z1]; rfl, x1⟩
    | 2, _ => exact ⟨by rw [z2]; rfl, x2⟩
    | 3, _ => exact ⟨by rw [z3]; rfl, x3⟩
    | j + 4, h => exact absurd h (by simp)
theorem wpList_load_s {ops : Array Oper} {rest : List Oper} {op : Oper} {a : Act} {W : World} {Q : Exit → Act → World → Prop} (hwt : Region.wanted op (yielded ops a.tmps) = true) (x : Operand) (ho : op.op = .load 63 x)
    (b : Nat) (hx : a.eval x = .pointer (some ⟨b, 0, none⟩)) {v0 v1 v2 v3 : Value} (hR : W.rangeAt b 0 [v0, v1, v2, v3]) (h : wpList Tryz.prog ops Q rest (a.put op.dst (.agg #[v0, v1, v2, v3])) W) : wpList Tryz.prog ops Q (op :: rest) a W := by
  refine wpList_step fun K hK => ?_
  rw [if_pos hwt]
  exact wp_load_mid 63 x ho b 0 hx _ _ hR Tryz.underlying63 rfl info_shape (hK _ _ h)

set_option maxRecDepth 100000 in
set_option maxHeartbeats 3200000 in
theorem mcheck_yes (f0 f1 f2 f3 : FuncId) (i : Nat) (q : Bool) (m : Mld) (A : Option Addr) (n c : Nat) (hn : Hid (m.ops.length = n)) (hf : Instr.findNow (.int .u8) (.int .u8 m.kd) tabA.toList 0 = some (some (i, .agg #[.func (.func f0) #[] #[], .func (.func f1) #[] #[], .func (.func f2) #[] #[], .func (.func f3) #[] #[]]))) (HS : Shp m.kd f0 f1 f2 f3) (hq : Hid ((mayK m.kd m && sameM m (onlyF m)) = q)) (w : World) (hr : RdO w A c m.ops) :
    Calls Tryz.prog 8 #[.agg #[.int .u8 m.kd, .int .i64 m.us, .int .i64 m.se, .int .i64 m.co, .int .i64 m.fr, .int .i64 m.tt, .int .u8 m.ak, .int .i64 m.t0, .int .i64 m.t1, .int .i64 m.t2, .int .i64 m.t3, .slice A n c]] w fun e w' => e = .returned (.int .i64 (er q)) ∧ Below w.heap.size w w' := by
  have hlk := fun (X : World) (g : Nat) (hg : X.heap[g]? = some (.map tabA 10)) => run_lookup_tab X g tabA 10 hg m.kd true _ hf
  simp only [if_true] at hlk
  have HL := hid hlk
  clear hlk hf
  go_enter Tryz.func8, Tryz.ntmps8
  go_wp2_with fail
  generalize hW : w.alloc _ = W
  have hbW : Below w.heap.size w W := by subst hW; go_grown
  have bx : BoxM W w.heap.size m A n c := by subst hW; exact boxM_new w m A n c _
  clear hW
  have s0 := bx.c0
  have p0 := fun o => keepa s0 o
  have S0 : Below W.heap.size W W.drew := (Below.refl _ _).drew
  go_cut [3, 4] from 5 to 11 (fun s3 s4 wx => ∃ b, s3 = .pointer (some ⟨b, 0, none⟩) ∧ s4 = .bool true ∧ wx.rangeAt b 0 [.func (.func f0) #[] #[], .func (.func f1) #[] #[], .func (.func f2) #[] #[], .func (.func f3) #[] #[]] ∧ Below W.heap.size W wx)
  case first =>
    go_region_with
      (first
        | (go_at_call 25; refine (shapes_any W.drew).mono ?_; rintro e w1 ⟨g, rfl, hg, hlo, hhi, b1⟩; have c1 := below_in (w := W) S0 b1; have y0 := keep c1 s0; have y1 := fun o => keepa y0 o; have L1 := HL.out w1 g hg; have L2 := fun o => HL.out (w1.alloc o) g (by rw [(MapKept.heap_alloc w1 o).2 g hhi]; exact hg))
        | (go_at_call 25; refine (shapes_any (W.alloc (.cells #[.nilFunc, .nilFunc, .nilFunc, .nilFunc] 63)).drew).mono ?_; rintro e w1 ⟨g, rfl, hg, hlo, hhi, b1⟩; have c1 := past_ad b1; have y0 := keep c1 s0; have y1 := fun o => keepa y0 o; have L1 := HL.out w1 g hg; have z0 := keep b1 (v := .nilFunc) (show ((W.alloc (.cells #[.nilFunc, .nilFunc, .nilFunc, .nilFunc] 63)).drew).cell? ⟨W.heap.size, 0, none⟩ = _ by simp [go_sem]); have x0 := keepz b1 (v := .nilFunc) (show ((W.alloc (.cells #[.nilFunc, .nilFunc, .nilFunc, .nilFunc] 63)).drew).cell? ⟨W.heap.size, 0, none⟩ = _ by simp [go_sem]) (show ((W.alloc (.cells #[.nilFunc, .nilFunc, .nilFunc, .nilFunc] 63)).drew).frozen? ⟨W.heap.size, 0, none⟩ = false by simp [go_sem]); have z1 := keep b1 (v := .nilFunc) (show ((W.alloc (.cells #[.nilFunc, .nilFunc, .nilFunc, .nilFunc] 63)).drew).cell? ⟨W.heap.size, 1, none⟩ = _ by simp [go_sem]); have x1 := keepz b1 (v := .nilFunc) (show ((W.alloc (.cells #[.nilFunc, .nilFunc, .nilFunc, .nilFunc] 63)).drew).cell? ⟨W.heap.size, 1, none⟩ = _ by simp [go_sem]) (show ((W.alloc (.cells #[.nilFunc, .nilFunc, .nilFunc, .nilFunc] 63)).drew).frozen? ⟨W.heap.size, 1, none⟩ = false by simp [go_sem]); have z2 := keep b1 (v := .nilFunc) (show ((W.alloc (.cells #[.nilFunc, .nilFunc, .nilFunc, .nilFunc] 63)).drew).cell? ⟨W.heap.size, 2, none⟩ = _ by simp [go_sem]); have x2 := keepz b1 (v := .nilFunc) (show ((W.alloc (.cells #[.nilFunc, .nilFunc, .nilFunc, .nilFunc] 63)).drew).cell? ⟨W.heap.size, 2, none⟩ = _ by simp [go_sem]) (show ((W.alloc (.cells #[.nilFunc, .nilFunc, .nilFunc, .nilFunc] 63)).drew).frozen? ⟨W.heap.size, 2, none⟩ = false by simp [go_sem]); have z3 := keep b1 (v := .nilFunc) (show ((W.alloc (.cells #[.nilFunc, .nilFunc, .nilFunc, .nilFunc] 63)).drew).cell? ⟨W.heap.size, 3, none⟩ = _ by simp [go_sem]); have x3 := keepz b1 (v := .nilFunc) (show ((W.alloc (.cells #[.nilFunc, .nilFunc, .nilFunc, .nilFunc] 63)).drew).cell? ⟨W.heap.size, 3, none⟩ = _ by simp [go_sem]) (show ((W.alloc (.cells #[.nilFunc, .nilFunc, .nilFunc, .nilFunc] 63)).drew).frozen? ⟨W.heap.size, 3, none⟩ = false by simp [go_sem])))
    all_goals
      go_wp2_with fail
      go_meet
      case rel =>
        first
          | exact ⟨_, rfl, rfl, range_set4 z0 z1 z2 z3 x0 x1 x2 x3 _ _ _ _, set4 c1 (Nat.le_refl _) _ _ _ _⟩
          | exact ⟨_, rfl, rfl, range_new w1 _ _, c1.alloc c1.size _⟩
  case rest =>
    obtain ⟨b, rfl, rfl, hT, hcb⟩ := hcut
    have t0 := hT 0 _ rfl
    have t1 := hT 1 _ rfl
    simp only [Nat.zero_add] at t0 t1
    have bxc := bx.keep hcb
    have hbc := below_in hbW hcb
    obtain ⟨q1, hq1⟩ : ∃ q, mayK m.kd m = q := ⟨_, rfl⟩
    obtain ⟨q2, hq2⟩ : ∃ q, sameM m (onlyF m) = q := ⟨_, rfl⟩
    have hqq := hq.out
    rw [hq1, hq2] at hqq
    have HQQ := hid hqq
    have HQ1 := hid hq1
    have HQ2 := hid hq2
    have E1 := HS.e1
    have HSS := hid HS
    clear s0 p0 S0 HL bx hcb hbW hq hq1 hq2 hqq HS
    go_wp2_with (refine wpList_load_m rfl (.tmp 1) rfl w.heap.size rfl bxc ?_)
    refine (HSS.out.may q1 m A n c hn HQ1 _ (hr.keep hbc)).mono ?_
    rintro e w2 ⟨rfl, b2⟩
    have bx2 := bxc.keep b2
    have hb2 := below_in hbc b2
    have hT2 := range_keep hT b2
    clear bxc hbc hT b2 t0 t1 E1
    cases q1
    · have HX : Hid (er q = 8) := hid (by rw [← HQQ.out]; rfl)
      go_wp2
      go_ret
      exact ⟨ret_int HX.out.symm, hb2⟩
    · have HX := hid (show q2 = q by rw [← HQQ.out]; rfl)
      obtain ⟨A0, n0, c0, hn0, hR0, hO⟩ := HSS.out.only m A n c hn
      have E0 := HSS.out.e0
      have HO := hid hO
      clear hO
      have one : True := trivial
      have two : True := trivial
      go_wp2_with (first
        | (clear one; refine wpList_load_m rfl (.tmp 1) rfl w.heap.size rfl bx2 ?_)
        | (clear two; refine wpList_load_s rfl (.tmp 3) rfl b rfl hT2 ?_))
      refine (hasOnly_of f0 f1 f2 f3 E0 m (onlyM m.kd m) q2 A n c hn A0 n0 c0 hn0 HO.out HQ2 _ (hr.keep hb2) (hR0 _ (hr.keep hb2))).mono ?_
      rintro e w3 ⟨rfl, b3⟩
      have hb3 := below_in hb2 b3
      clear bx2 hT2 b3 E0 HO hR0
      cases q2
      · have HY : Hid (er q = 8) := hid (by rw [← HX.out]; rfl)
        go_wp2
        go_ret
        exact ⟨ret_int HY.out.symm, hb3⟩
      · have HY : Hid (er q = 0) := hid (by rw [← HX.out]; rfl)
        go_wp2
        go_ret
        exact ⟨ret_int HY.out.symm, hb3⟩
set_option maxRecDepth 100000 in
set_option maxHeartbeats 3200000 in
theorem mcheck_no (m : Mld) (A : Option Addr) (n c : Nat) (hf : Instr.findNow (.int .u8) (.int .u8 m.kd) tabA.toList 0 = some none) (w : World) :
    Calls Tryz.prog 8 #[.agg #[.int .u8 m.kd, .int .i64 m.us, .int .i64 m.se, .int .i64 m.co, .int .i64 m.fr, .int .i64 m.tt, .int .u8 m.ak, .int .i64 m.t0, .int .i64 m.t1, .int .i64 m.t2, .int .i64 m.t3, .slice A n c]] w fun e w' => e = .returned (.int .i64 8) ∧ Below w.heap.size w w' := by
  have hlk := fun (X : World) (g : Nat) (hg : X.heap[g]? = some (.map tabA 10)) => run_lookup_tab X g tabA 10 hg m.kd true _ hf
  simp only [if_true] at hlk
  have HL := hid hlk
  clear hlk hf
  go_enter Tryz.func8, Tryz.ntmps8
  go_wp2_with fail
  generalize hW : w.alloc _ = W
  have hbW : Below w.heap.size w W := by subst hW; go_grown
  have bx : BoxM W w.heap.size m A n c := by subst hW; exact boxM_new w m A n c _
  clear hW
  have s0 := bx.c0
  have p0 := fun o => keepa s0 o
  have S0 : Below W.heap.size W W.drew := (Below.refl _ _).drew
  go_cut [3, 4] from 5 to 11 (fun s3 s4 wx => ∃ b, s3 = .pointer (some ⟨b, 0, none⟩) ∧ s4 = .bool false ∧ Below W.heap.size W wx)
  case first =>
    go_region_with
      (first
        | (go_at_call 25; refine (shapes_any W.drew).mono ?_; rintro e w1 ⟨g, rfl, hg, hlo, hhi, b1⟩; have c1 := below_in (w := W) S0 b1; have y0 := keep c1 s0; have y1 := fun o => keepa y0 o; have L1 := HL.out w1 g hg; have L2 := fun o => HL.out (w1.alloc o) g (by rw [(MapKept.heap_alloc w1 o).2 g hhi]; exact hg))
        | (go_at_call 25; refine (shapes_any (W.alloc (.cells #[.nilFunc, .nilFunc, .nilFunc, .nilFunc] 63)).drew).mono ?_; rintro e w1 ⟨g, rfl, hg, hlo, hhi, b1⟩; have c1 := past_ad b1; have y0 := keep c1 s0; have y1 := fun o => keepa y0 o; have L1 := HL.out w1 g hg; have z0 := keep b1 (v := .nilFunc) (show ((W.alloc (.cells #[.nilFunc, .nilFunc, .nilFunc, .nilFunc] 63)).drew).cell? ⟨W.heap.size, 0, none⟩ = _ by simp [go_sem]); have x0 := keepz b1 (v := .nilFunc) (show ((W.alloc (.cells #[.nilFunc, .nilFunc, .nilFunc, .nilFunc] 63)).drew).cell? ⟨W.heap.size, 0, none⟩ = _ by simp [go_sem]) (show ((W.alloc (.cells #[.nilFunc, .nilFunc, .nilFunc, .nilFunc] 63)).drew).frozen? ⟨W.heap.size, 0, none⟩ = false by simp [go_sem]); have z1 := keep b1 (v := .nilFunc) (show ((W.alloc (.cells #[.nilFunc, .nilFunc, .nilFunc, .nilFunc] 63)).drew).cell? ⟨W.heap.size, 1, none⟩ = _ by simp [go_sem]); have x1 := keepz b1 (v := .nilFunc) (show ((W.alloc (.cells #[.nilFunc, .nilFunc, .nilFunc, .nilFunc] 63)).drew).cell? ⟨W.heap.size, 1, none⟩ = _ by simp [go_sem]) (show ((W.alloc (.cells #[.nilFunc, .nilFunc, .nilFunc, .nilFunc] 63)).drew).frozen? ⟨W.heap.size, 1, none⟩ = false by simp [go_sem]); have z2 := keep b1 (v := .nilFunc) (show ((W.alloc (.cells #[.nilFunc, .nilFunc, .nilFunc, .nilFunc] 63)).drew).cell? ⟨W.heap.size, 2, none⟩ = _ by simp [go_sem]); have x2 := keepz b1 (v := .nilFunc) (show ((W.alloc (.cells #[.nilFunc, .nilFunc, .nilFunc, .nilFunc] 63)).drew).cell? ⟨W.heap.size, 2, none⟩ = _ by simp [go_sem]) (show ((W.alloc (.cells #[.nilFunc, .nilFunc, .nilFunc, .nilFunc] 63)).drew).frozen? ⟨W.heap.size, 2, none⟩ = false by simp [go_sem]); have z3 := keep b1 (v := .nilFunc) (show ((W.alloc (.cells #[.nilFunc, .nilFunc, .nilFunc, .nilFunc] 63)).drew).cell? ⟨W.heap.size, 3, none⟩ = _ by simp [go_sem]); have x3 := keepz b1 (v := .nilFunc) (show ((W.alloc (.cells #[.nilFunc, .nilFunc, .nilFunc, .nilFunc] 63)).drew).cell? ⟨W.heap.size, 3, none⟩ = _ by simp [go_sem]) (show ((W.alloc (.cells #[.nilFunc, .nilFunc, .nilFunc, .nilFunc] 63)).drew).frozen? ⟨W.heap.size, 3, none⟩ = false by simp [go_sem])))
    all_goals
      go_wp2_with fail
      go_meet
      case rel =>
        first
          | (have _t := z0; exact ⟨_, rfl, rfl, set4 c1 (Nat.le_refl _) _ _ _ _⟩)
          | exact ⟨_, rfl, rfl, c1.alloc c1.size _⟩
  case rest =>
    obtain ⟨b, rfl, rfl, hcb⟩ := hcut
    have hbc := below_in hbW hcb
    clear s0 p0 S0 HL bx hcb hbW
    go_wp2
    go_ret
    exact ⟨rfl, hbc⟩

theorem mcheck_of (j : Int) (m : Mld) (A : Option Addr) (n c : Nat) (hn : Hid (m.ops.length = n)) (hj : Hid (er (mayM m) = j)) (w : World) (hr : RdO w A c m.ops) :
    Calls Tryz.prog 8 #[.agg #[.int .u8 m.kd, .int .i64 m.us, .int .i64 m.se, .int .i64 m.co, .int .i64 m.fr, .int .i64 m.tt, .int .u8 m.ak, .int .i64 m.t0, .int .i64 m.t1, .int .i64 m.t2, .int .i64 m.t3, .slice A n c]] w fun e w' => e = .returned (.int .i64 j) ∧ Below w.heap.size w w' := by
  have hj' := hj.out
  subst hj'
  cases hk : isK m.kd
  · have e : er (mayM m) = 8 := by rw [mayM, hk]; rfl
    rw [e]
    exact mcheck_no m A n c (shp_none hk) w
  · obtain ⟨f0, f1, f2, f3, i, hf, HS⟩ := shp_all hk
    refine mcheck_yes f0 f1 f2 f3 i (mayM m) m A n c hn hf HS (hid ?_) w hr
    rw [mayM, hk]; rfl
end Go.Proofs.YtdhfnacdjjdijaaGreat
