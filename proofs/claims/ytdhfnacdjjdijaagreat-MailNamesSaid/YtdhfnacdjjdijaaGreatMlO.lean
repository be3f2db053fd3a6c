/-
  What each kind has, as one word: its four closures, by their contracts; the kind's entry in the map.
-/
import Derived.Test.YtdhfnacdjjdijaaGreatMlN
namespace Go.Proofs.YtdhfnacdjjdijaaGreat
open Go.RowKit
set_option linter.unusedVariables false
set_option linter.unusedSimpArgs false

theorem call_enter {f : FuncId} {fn : Func} (hf : Tryz.prog.funcs[f]? = some fn) (hname : (fn.name == "runtime.NumGoroutine") = false) (hb : fn.body.isSome = true) (args : Array Value) (w : World) :
    (callFunc f args).run Tryz.prog w = .ok (.enter f args) w := by
  have h1 : fn.name ≠ "runtime.NumGoroutine" := by simpa using hname
  obtain ⟨c, hc⟩ := Option.isSome_iff_exists.1 hb
  simp [callFunc, hf, h1, hc]

/-- The four closures of a kind. -/
structure Shp (k : Int) (f0 f1 f2 f3 : FuncId) : Prop where
  e0 : ∀ args W, (callFunc f0 args).run Tryz.prog W = .ok (.enter f0 args) W
  e1 : ∀ args W, (callFunc f1 args).run Tryz.prog W = .ok (.enter f1 args) W
  e2 : ∀ args W, (callFunc f2 args).run Tryz.prog W = .ok (.enter f2 args) W
  e3 : ∀ args W, (callFunc f3 args).run Tryz.prog W = .ok (.enter f3 args) W
  only : ∀ (m : Mld) (A : Option Addr) (n c : Nat), Hid (m.ops.length = n) → ∃ A0 n0 c0, Hid ((onlyM k m).ops.length = n0) ∧ (∀ w, RdO w A c m.ops → RdO w A0 c0 (onlyM k m).ops) ∧ ∀ W, Calls Tryz.prog f0 #[.agg #[.int .u8 m.kd, .int .i64 m.us, .int .i64 m.se, .int .i64 m.co, .int .i64 m.fr, .int .i64 m.tt, .int .u8 m.ak, .int .i64 m.t0, .int .i64 m.t1, .int .i64 m.t2, .int .i64 m.t3, .slice A n c]] W fun e w' => e = .returned (.agg #[.int .u8 (onlyM k m).kd, .int .i64 (onlyM k m).us, .int .i64 (onlyM k m).se, .int .i64 (onlyM k m).co, .int .i64 (onlyM k m).fr, .int .i64 (onlyM k m).tt, .int .u8 (onlyM k m).ak, .int .i64 (onlyM k m).t0, .int .i64 (onlyM k m).t1, .int .i64 (onlyM k m).t2, .int .i64 (onlyM k m).t3, .slice A0 n0 c0]) ∧ Below W.heap.size W w'
  may : ∀ (q : Bool) (m : Mld) (A : Option Addr) (n c : Nat), Hid (m.ops.length = n) → Hid (mayK k m = q) → ∀ w, RdO w A c m.ops → Calls Tryz.prog f1 #[.agg #[.int .u8 m.kd, .int .i64 m.us, .int .i64 m.se, .int .i64 m.co, .int .i64 m.fr, .int .i64 m.tt, .int .u8 m.ak, .int .i64 m.t0, .int .i64 m.t1, .int .i64 m.t2, .int .i64 m.t3, .slice A n c]] w fun e w' => e = .returned (.bool q) ∧ Below w.heap.size w w'
  put : ∀ (L : Nat) (m : Mld) (A : Option Addr) (n c : Nat), Hid (m.ops.length = n) → (∀ o ∈ m.ops, Opr o) → mayK k m = true → Hid ((tailK k m).length = L) → ∀ w, RdO w A c m.ops → Calls Tryz.prog f2 #[.agg #[.int .u8 m.kd, .int .i64 m.us, .int .i64 m.se, .int .i64 m.co, .int .i64 m.fr, .int .i64 m.tt, .int .u8 m.ak, .int .i64 m.t0, .int .i64 m.t1, .int .i64 m.t2, .int .i64 m.t3, .slice A n c]] w (RetBs w (tailK k m) L)
  take : ∀ (w0 : World) (g : Nat) (A : Option Addr) (n c : Nat) (l : List UInt8) (w : World), Rdr w0 w g A n c l → Calls Tryz.prog f3 #[.pointer (some ⟨g, 0, none⟩)] w (RetM w g (rdK tkO k l))

theorem RetBs.len {w : World} {l : List UInt8} {n L : Nat} (h : n = L) {e : Ending} {w' : World} (hr : RetBs w l n e w') : RetBs w l L e w' := by rw [← h]; exact hr

theorem shp1 : Shp 1 59 60 62 64 :=
  ⟨call_enter Tryz.func59 (by kernel_rfl) (by kernel_rfl), call_enter Tryz.func60 (by kernel_rfl) (by kernel_rfl), call_enter Tryz.func62 (by kernel_rfl) (by kernel_rfl), call_enter Tryz.func64 (by kernel_rfl) (by kernel_rfl),
   fun m A n c hn => ⟨none, 0, 0, hid rfl, fun w h => RdO.nil w, fun W => only_open m A n c W⟩,
   fun q m A n c hn hq w hr => may_open q m A n c hq w,
   fun L m A n c hn h0 hm hl w hr => (put_open m A n c hm w).mono fun e w' h => RetBs.len (by rw [← hl.out]; exact Eq.symm (nB_length 1 m.us)) h,
   fun w0 g A n c l w hr => take_open w0 g A n c l w hr⟩

theorem shp2 : Shp 2 65 66 69 71 :=
  ⟨call_enter Tryz.func65 (by kernel_rfl) (by kernel_rfl), call_enter Tryz.func66 (by kernel_rfl) (by kernel_rfl), call_enter Tryz.func69 (by kernel_rfl) (by kernel_rfl), call_enter Tryz.func71 (by kernel_rfl) (by kernel_rfl),
   fun m A n c hn => ⟨A, n, c, hn, fun w h => h, fun W => only_submit m A n c W⟩,
   fun q m A n c hn hq w hr => may_submit q m A n c hn hq w hr,
   fun L m A n c hn h0 hm hl w hr => put_submit L m A n c hn h0 hm hl w hr,
   fun w0 g A n c l w hr => take_submit w0 g A n c l w hr⟩

theorem shp3 : Shp 3 73 74 76 77 :=
  ⟨call_enter Tryz.func73 (by kernel_rfl) (by kernel_rfl), call_enter Tryz.func74 (by kernel_rfl) (by kernel_rfl), call_enter Tryz.func76 (by kernel_rfl) (by kernel_rfl), call_enter Tryz.func77 (by kernel_rfl) (by kernel_rfl),
   fun m A n c hn => ⟨none, 0, 0, hid rfl, fun w h => RdO.nil w, fun W => only_pull m A n c W⟩,
   fun q m A n c hn hq w hr => may_pull q m A n c hq w,
   fun L m A n c hn h0 hm hl w hr => (put_pull m A n c hm w).mono fun e w' h => RetBs.len (by rw [← hl.out]; exact Eq.symm (nB_length 3 m.fr)) h,
   fun w0 g A n c l w hr => take_pull w0 g A n c l w hr⟩

theorem shp4 : Shp 4 78 79 81 82 :=
  ⟨call_enter Tryz.func78 (by kernel_rfl) (by kernel_rfl), call_enter Tryz.func79 (by kernel_rfl) (by kernel_rfl), call_enter Tryz.func81 (by kernel_rfl) (by kernel_rfl), call_enter Tryz.func82 (by kernel_rfl) (by kernel_rfl),
   fun m A n c hn => ⟨none, 0, 0, hid rfl, fun w h => RdO.nil w, fun W => only_ask m A n c W⟩,
   fun q m A n c hn hq w hr => may_ask q m A n c hq w,
   fun L m A n c hn h0 hm hl w hr => (put_ask m A n c hm w).mono fun e w' h => RetBs.len (by rw [← hl.out]; exact Eq.symm (nB_length 1 m.ak)) h,
   fun w0 g A n c l w hr => take_ask w0 g A n c l w hr⟩

theorem shp5 : Shp 5 83 84 85 86 :=
  ⟨call_enter Tryz.func83 (by kernel_rfl) (by kernel_rfl), call_enter Tryz.func84 (by kernel_rfl) (by kernel_rfl), call_enter Tryz.func85 (by kernel_rfl) (by kernel_rfl), call_enter Tryz.func86 (by kernel_rfl) (by kernel_rfl),
   fun m A n c hn => ⟨none, 0, 0, hid rfl, fun w h => RdO.nil w, fun W => only_bare m A n c W⟩,
   fun q m A n c hn hq w hr => may_bare q m A n c hq w,
   fun L m A n c hn h0 hm hl w hr => (put_bare m A n c w).mono fun e w' h => RetBs.len (by rw [← hl.out]; exact Eq.symm (rfl)) h,
   fun w0 g A n c l w hr => take_bare w0 g A n c l w hr⟩

theorem shp6 : Shp 6 87 88 90 91 :=
  ⟨call_enter Tryz.func87 (by kernel_rfl) (by kernel_rfl), call_enter Tryz.func88 (by kernel_rfl) (by kernel_rfl), call_enter Tryz.func90 (by kernel_rfl) (by kernel_rfl), call_enter Tryz.func91 (by kernel_rfl) (by kernel_rfl),
   fun m A n c hn => ⟨none, 0, 0, hid rfl, fun w h => RdO.nil w, fun W => only_coded m A n c W⟩,
   fun q m A n c hn hq w hr => may_coded q m A n c hq w,
   fun L m A n c hn h0 hm hl w hr => (put_coded m A n c hm w).mono fun e w' h => RetBs.len (by rw [← hl.out]; exact Eq.symm (nB_length 2 m.co)) h,
   fun w0 g A n c l w hr => take_coded w0 g A n c l w hr⟩

theorem shp10 : Shp 10 87 88 90 91 :=
  ⟨call_enter Tryz.func87 (by kernel_rfl) (by kernel_rfl), call_enter Tryz.func88 (by kernel_rfl) (by kernel_rfl), call_enter Tryz.func90 (by kernel_rfl) (by kernel_rfl), call_enter Tryz.func91 (by kernel_rfl) (by kernel_rfl),
   fun m A n c hn => ⟨none, 0, 0, hid rfl, fun w h => RdO.nil w, fun W => only_coded m A n c W⟩,
   fun q m A n c hn hq w hr => may_coded q m A n c hq w,
   fun L m A n c hn h0 hm hl w hr => (put_coded m A n c hm w).mono fun e w' h => RetBs.len (by rw [← hl.out]; exact Eq.symm (nB_length 2 m.co)) h,
   fun w0 g A n c l w hr => take_coded w0 g A n c l w hr⟩

theorem shp7 : Shp 7 93 94 95 96 :=
  ⟨call_enter Tryz.func93 (by kernel_rfl) (by kernel_rfl), call_enter Tryz.func94 (by kernel_rfl) (by kernel_rfl), call_enter Tryz.func95 (by kernel_rfl) (by kernel_rfl), call_enter Tryz.func96 (by kernel_rfl) (by kernel_rfl),
   fun m A n c hn => ⟨none, 0, 0, hid rfl, fun w h => RdO.nil w, fun W => only_answer m A n c W⟩,
   fun q m A n c hn hq w hr => may_answer q m A n c hq w,
   fun L m A n c hn h0 hm hl w hr => (put_answer m A n c hm w).mono fun e w' h => RetBs.len (by rw [← hl.out]; exact Eq.symm (by rw [show tailK 7 m = nB 3 m.se ++ nB 2 m.co from rfl, List.length_append, nB_length, nB_length])) h,
   fun w0 g A n c l w hr => take_answer w0 g A n c l w hr⟩

theorem shp8 : Shp 8 97 98 99 101 :=
  ⟨call_enter Tryz.func97 (by kernel_rfl) (by kernel_rfl), call_enter Tryz.func98 (by kernel_rfl) (by kernel_rfl), call_enter Tryz.func99 (by kernel_rfl) (by kernel_rfl), call_enter Tryz.func101 (by kernel_rfl) (by kernel_rfl),
   fun m A n c hn => ⟨A, n, c, hn, fun w h => h, fun W => only_page m A n c W⟩,
   fun q m A n c hn hq w hr => may_page q m A n c hn hq w hr,
   fun L m A n c hn h0 hm hl w hr => put_page L m A n c hn h0 hm hl w hr,
   fun w0 g A n c l w hr => take_page w0 g A n c l w hr⟩

theorem shp9 : Shp 9 102 103 106 107 :=
  ⟨call_enter Tryz.func102 (by kernel_rfl) (by kernel_rfl), call_enter Tryz.func103 (by kernel_rfl) (by kernel_rfl), call_enter Tryz.func106 (by kernel_rfl) (by kernel_rfl), call_enter Tryz.func107 (by kernel_rfl) (by kernel_rfl),
   fun m A n c hn => ⟨none, 0, 0, hid rfl, fun w h => RdO.nil w, fun W => only_told m A n c W⟩,
   fun q m A n c hn hq w hr => may_told q m A n c hq w,
   fun L m A n c hn h0 hm hl w hr => (put_told m A n c hm w).mono fun e w' h => RetBs.len (by rw [← hl.out]; exact Eq.symm (by rw [show tailK 9 m = nB 1 m.ak ++ (nB 3 m.t0 ++ (nB 3 m.t1 ++ (nB 3 m.t2 ++ nB 3 m.t3))) from rfl]; simp [nB_length])) h,
   fun w0 g A n c l w hr => take_told w0 g A n c l w hr⟩

/-- Each kind has its entry. -/
theorem shp_all {k : Int} (h : isK k = true) : ∃ f0 f1 f2 f3 i, Instr.findNow (.int .u8) (.int .u8 k) tabA.toList 0 = some (some (i, .agg #[.func (.func f0) #[] #[], .func (.func f1) #[] #[], .func (.func f2) #[] #[], .func (.func f3) #[] #[]])) ∧ Shp k f0 f1 f2 f3 := by
  rcases isK_iff.1 h with rfl | rfl | rfl | rfl | rfl | rfl | rfl | rfl | rfl | rfl
  · exact ⟨_, _, _, _, _, rfl, shp1⟩
  · exact ⟨_, _, _, _, _, rfl, shp2⟩
  · exact ⟨_, _, _, _, _, rfl, shp3⟩
  · exact ⟨_, _, _, _, _, rfl, shp4⟩
  · exact ⟨_, _, _, _, _, rfl, shp5⟩
  · exact ⟨_, _, _, _, _, rfl, shp6⟩
  · exact ⟨_, _, _, _, _, rfl, shp7⟩
  · exact ⟨_, _, _, _, _, rfl, shp8⟩
  · exact ⟨_, _, _, _, _, rfl, shp9⟩
  · exact ⟨_, _, _, _, _, rfl, shp10⟩
theorem shp_none {k : Int} (h : isK k = false) : Instr.findNow (.int .u8) (.int .u8 k) tabA.toList 0 = some none := by
  have h' : ¬ (1 ≤ k ∧ k ≤ 10) := by
    intro hk
    have : isK k = true := by simp [isK, hk]
    rw [h] at this
    cases this
  have e : ∀ j : Int, 1 ≤ j → j ≤ 10 → (k == j) = false := fun j h1 h2 => by simp; omega
  simp [tabA, tabE, entE, Instr.findNow, Instr.sameNow, e]
end Go.Proofs.YtdhfnacdjjdijaaGreat
