/-
  The document's own answer of layer 10: how great mail is; whether two are the same.
-/
import Derived.Test.YtdhfnacdjjdijaaGreatMlD
namespace Go.Proofs.YtdhfnacdjjdijaaGreat
open Go.RowKit
set_option linter.unusedVariables false
set_option linter.unusedSimpArgs false

theorem quiet_load_e {ops : Array Oper} {rest : List Oper} {op : Oper} {a : Act} {C : World → Prop} {Q : Act → Prop} (hwt : Region.wanted op (yielded ops a.tmps) = true) (x : Operand) (ho : op.op = .load 58 x)
    (b off : Nat) (hx : a.eval x = .pointer (some ⟨b, off, none⟩)) {o : Opd} {A : Option Addr} {n c : Nat} (hB : ∀ w, C w → w.rangeAt b off ([.int .u8 o.kd, .int .u8 o.l, .int .u32 o.c, .int .u8 o.k, .int .i64 o.s, .int .u8 o.fl, .int .u32 o.fc, .int .u8 o.fk, .int .i64 o.fn, .int .i64 o.fm, .int .u8 o.al, .int .u32 o.ac, .int .u8 o.ak, .int .i64 o.an, .int .u8 o.tl, .int .u32 o.tc, .slice A n c])) (h : wpQuiet Tryz.prog ops C Q rest (a.put op.dst (.agg #[.int .u8 o.kd, .int .u8 o.l, .int .u32 o.c, .int .u8 o.k, .int .i64 o.s, .int .u8 o.fl, .int .u32 o.fc, .int .u8 o.fk, .int .i64 o.fn, .int .i64 o.fm, .int .u8 o.al, .int .u32 o.ac, .int .u8 o.ak, .int .i64 o.an, .int .u8 o.tl, .int .u32 o.tc, .slice A n c]))) : wpQuiet Tryz.prog ops C Q (op :: rest) a := by
  rw [wpQuiet, if_pos hwt]
  refine ⟨_, fun w hw => ?_, h⟩
  unfold Oper.quietAt
  rcases yieldsIf_load_mid (P := Tryz.prog) (ops := ops) (S := C) hwt 58 x ho b off hx _ _ hB Tryz.underlying58 rfl info_O with ⟨_, h⟩ | ⟨h, _⟩
  · rw [h w hw]; exact ⟨rfl, rfl⟩
  · rw [h] at hwt; cases hwt
theorem quiet_load_m {ops : Array Oper} {rest : List Oper} {op : Oper} {a : Act} {C : World → Prop} {Q : Act → Prop} (hwt : Region.wanted op (yielded ops a.tmps) = true) (x : Operand) (ho : op.op = .load 27 x)
    (b : Nat) (hx : a.eval x = .pointer (some ⟨b, 0, none⟩)) {m : Mld} {A : Option Addr} {n c : Nat} (hB : ∀ w, C w → BoxM w b m A n c) (h : wpQuiet Tryz.prog ops C Q rest (a.put op.dst (.agg #[.int .u8 m.kd, .int .i64 m.us, .int .i64 m.se, .int .i64 m.co, .int .i64 m.fr, .int .i64 m.tt, .int .u8 m.ak, .int .i64 m.t0, .int .i64 m.t1, .int .i64 m.t2, .int .i64 m.t3, .slice A n c]))) : wpQuiet Tryz.prog ops C Q (op :: rest) a := by
  rw [wpQuiet, if_pos hwt]
  refine ⟨_, fun w hw => ?_, h⟩
  unfold Oper.quietAt
  rcases yields_load_m (ops := ops) (S := C) hwt x ho b hx hB with ⟨_, h⟩ | ⟨h, _⟩
  · rw [h w hw]; exact ⟨rfl, rfl⟩
  · rw [h] at hwt; cases hwt
theorem range_past {W : World} {b off : Nat} {cs : List Value} (h : W.rangeAt b off cs) : ∀ w', (∃ x : Past W, w' = x.1) → w'.rangeAt b off cs := fun w' ⟨x, hx⟩ => by
  rw [hx]; exact range_keep h x.2
theorem BoxM.past {W : World} {b : Nat} {m : Mld} {A : Option Addr} {n c : Nat} (h : BoxM W b m A n c) : ∀ w', (∃ x : Past W, w' = x.1) → BoxM w' b m A n c := fun w' ⟨x, hx⟩ => by
  rw [hx]; exact h.keep x.2

def greatM (m : Mld) : Bool := decide (10 < m.ops.length) || (m.ops.take 20).any fun o => decide (500 < o.row.length)
theorem great_at {m : Mld} {j : Nat} (h1 : j < m.ops.length) (h2 : j < 20) (h3 : 500 < (m.ops[j]).row.length) : greatM m = true := by
  rw [greatM, Bool.or_eq_true]
  refine .inr (List.any_eq_true.2 ⟨m.ops[j], ?_, decide_eq_true h3⟩)
  rw [List.mem_iff_getElem]
  exact ⟨j, by rw [List.length_take]; omega, by simp⟩
theorem great_end {m : Mld} (h : ∀ j (h1 : j < m.ops.length), j < 20 → (m.ops[j]).row.length ≤ 500) : greatM m = decide (10 < m.ops.length) := by
  have : ((m.ops.take 20).any fun o => decide (500 < o.row.length)) = false := by
    rw [List.any_eq_false]
    intro o ho
    obtain ⟨j, hj, rfl⟩ := List.mem_iff_getElem.1 ho
    rw [List.length_take] at hj
    have := h j (by omega) (by omega)
    simp
    omega
  rw [greatM, this, Bool.or_false]
theorem great_no {m : Mld} (h : greatM m = false) : m.ops.length ≤ 10 ∧ ∀ o ∈ m.ops, o.row.length ≤ 500 := by
  rw [greatM, Bool.or_eq_false_iff, decide_eq_false_iff_not, List.any_eq_false] at h
  have h1 : m.ops.length ≤ 10 := by omega
  refine ⟨h1, fun o ho => ?_⟩
  have := h.2 o (by rw [List.take_of_length_le (by omega)]; exact ho)
  simp at this
  omega

set_option maxRecDepth 100000 in
set_option maxHeartbeats 1600000 in
theorem great_of (q : Bool) (m : Mld) (A : Option Addr) (n c : Nat) (hn : Hid (m.ops.length = n)) (hq : Hid (greatM m = q)) (w : World) (hr : RdO w A c m.ops) :
    Calls Tryz.prog 12 #[.agg #[.int .u8 m.kd, .int .i64 m.us, .int .i64 m.se, .int .i64 m.co, .int .i64 m.fr, .int .i64 m.tt, .int .u8 m.ak, .int .i64 m.t0, .int .i64 m.t1, .int .i64 m.t2, .int .i64 m.t3, .slice A n c]] w fun e w' => e = .returned (.bool q) ∧ Below w.heap.size w w' := by
  have hc2 : (c : Int) ≤ 9223372036854775807 := by have := hr.cap; omega
  have hc1 : (n : Int) ≤ c := by have := hr.len; have := hn.out; omega
  have HR := hid (hr.alloc (.cells (#[.int .u8 m.kd, .int .i64 m.us, .int .i64 m.se, .int .i64 m.co, .int .i64 m.fr, .int .i64 m.tt, .int .u8 m.ak, .int .i64 m.t0, .int .i64 m.t1, .int .i64 m.t2, .int .i64 m.t3, .slice A n c]) 27))
  clear hr
  go_enter Tryz.func12, Tryz.ntmps12
  go_wp2
  go_loop [3] (fun i => ∃ j : Nat, j ≤ n ∧ j ≤ 20 ∧ i = .int .i64 (j : Int) ∧ Hid (∀ i (h1 : i < m.ops.length), i < j → (m.ops[i]).row.length ≤ 500)) (fun i => n - (intOf i).toNat)
  case atStart => exact ⟨0, by omega, by omega, rfl, hid (fun i _ h => absurd h (by omega))⟩
  case round =>
    obtain ⟨j, hj, hj20, rfl, hz⟩ := hrel
    by_cases hlt : j < n
    · by_cases h20 : j < 20
      · have hln := hn.out
        obtain ⟨b, o, rfl, hcell⟩ := HR.out.at_ (by omega)
        obtain ⟨B, d, hR, hRi⟩ := hcell j (by omega)
        have h16 := hR 16 _ rfl
        have hrd := hRi.cap
        have hrl := hRi.len
        have hat := great_at (m := m) (j := j) (by omega) h20
        have hz' : (m.ops[j]'(by omega)).row.length ≤ 500 → ∀ i (h1 : i < m.ops.length), i < j + 1 → (m.ops[i]).row.length ≤ 500 := fun h i h1 h2 => by
          by_cases e : i = j
          · subst e; exact h
          · exact hz.out i h1 (by omega)
        generalize m.ops[j]'(by omega) = y at h16 hat hz' hrd hrl
        generalize y.row.length = k at h16 hat hz' hrd hrl
        have hlt2 : (j : Int) < (n : Int) := by omega
        have h202 : (j : Int) < 20 := by omega
        have HZ := hid hz'
        have HAT := hid hat
        clear hcell hR hRi hln hz' hat
        by_cases h5 : 500 < k
        · have h52 : (500 : Int) < (k : Int) := by omega
          have HX := hid (HAT.out h5)
          clear HAT HZ
          go_wp2
          go_ret
          exact ⟨ret_bool (by rw [← hq.out, HX.out]), by go_grown⟩
        · have h52 : ¬ (500 : Int) < (k : Int) := by omega
          have HX := hid (HZ.out (by omega))
          clear HAT HZ
          go_wp2
          go_round
          case rel => exact ⟨j + 1, by omega, by omega, by go_num, HX⟩
          case measure => simp [intOf]; omega
      · have h202 : ¬ (j : Int) < 20 := by omega
        have hlt2 : (j : Int) < (n : Int) := by omega
        have hen := great_end (m := m) fun i h1 h2 => hz.out i h1 (by omega)
        have HX := hid (show decide (10 < (n : Int)) = q by rw [← hq.out, hen, hn.out, decide_eq_decide]; omega)
        clear hen
        go_wp2
        go_ret
        exact ⟨ret_bool HX.out, by go_grown⟩
    · have hlt2 : ¬ (j : Int) < (n : Int) := by omega
      have hen := great_end (m := m) fun i h1 h2 => hz.out i h1 (by have := hn.out; omega)
      have HX := hid (show decide (10 < (n : Int)) = q by rw [← hq.out, hen, hn.out, decide_eq_decide]; omega)
      clear hen
      go_wp2
      go_ret
      exact ⟨ret_bool HX.out, by go_grown⟩

set_option maxRecDepth 100000 in
set_option maxHeartbeats 6400000 in
theorem rmsame_of (v : Bool) (a : Mld) (A : Option Addr) (n c : Nat) (hn : Hid (a.ops.length = n)) (b : Mld) (B : Option Addr) (m d : Nat) (hm : Hid (b.ops.length = m)) (hv : Hid (sameM a b = v)) (w : World) (hr : RdO w A c a.ops) (hs : RdO w B d b.ops) :
    Calls Tryz.prog 19 #[.agg #[.int .u8 a.kd, .int .i64 a.us, .int .i64 a.se, .int .i64 a.co, .int .i64 a.fr, .int .i64 a.tt, .int .u8 a.ak, .int .i64 a.t0, .int .i64 a.t1, .int .i64 a.t2, .int .i64 a.t3, .slice A n c], .agg #[.int .u8 b.kd, .int .i64 b.us, .int .i64 b.se, .int .i64 b.co, .int .i64 b.fr, .int .i64 b.tt, .int .u8 b.ak, .int .i64 b.t0, .int .i64 b.t1, .int .i64 b.t2, .int .i64 b.t3, .slice B m d]] w fun e w' => e = .returned (.bool v) ∧ Below w.heap.size w w' := by
  have hc2 : (c : Int) ≤ 9223372036854775807 := by have := hr.cap; omega
  have hc1 : (n : Int) ≤ c := by have := hr.len; have := hn.out; omega
  have hd2 : (d : Int) ≤ 9223372036854775807 := by have := hs.cap; omega
  have hd1 : (m : Int) ≤ d := by have := hs.len; have := hm.out; omega
  have hbW : Below w.heap.size w ((w.alloc (.cells (#[.int .u8 a.kd, .int .i64 a.us, .int .i64 a.se, .int .i64 a.co, .int .i64 a.fr, .int .i64 a.tt, .int .u8 a.ak, .int .i64 a.t0, .int .i64 a.t1, .int .i64 a.t2, .int .i64 a.t3, .slice A n c]) 27)).alloc (.cells (#[.int .u8 b.kd, .int .i64 b.us, .int .i64 b.se, .int .i64 b.co, .int .i64 b.fr, .int .i64 b.tt, .int .u8 b.ak, .int .i64 b.t0, .int .i64 b.t1, .int .i64 b.t2, .int .i64 b.t3, .slice B m d]) 27)) := by go_grown
  by_cases hnm : n = m
  · subst hnm
    have h := hv.out
    clear hv
    rw [sameM] at h
    obtain ⟨q0, h0⟩ : ∃ q, (a.kd == b.kd) = q := ⟨_, rfl⟩
    obtain ⟨q1, h1⟩ : ∃ q, (a.us == b.us) = q := ⟨_, rfl⟩
    obtain ⟨q2, h2⟩ : ∃ q, (a.se == b.se) = q := ⟨_, rfl⟩
    obtain ⟨q3, h3⟩ : ∃ q, (a.co == b.co) = q := ⟨_, rfl⟩
    obtain ⟨q4, h4⟩ : ∃ q, (a.fr == b.fr) = q := ⟨_, rfl⟩
    obtain ⟨q5, h5⟩ : ∃ q, (a.tt == b.tt) = q := ⟨_, rfl⟩
    obtain ⟨q6, h6⟩ : ∃ q, (a.ak == b.ak) = q := ⟨_, rfl⟩
    obtain ⟨q7, h7⟩ : ∃ q, ((a.t0 == b.t0) && (a.t1 == b.t1) && (a.t2 == b.t2) && (a.t3 == b.t3)) = q := ⟨_, rfl⟩
    obtain ⟨q8, h8⟩ : ∃ q, sameOs a.ops b.ops = q := ⟨_, rfl⟩
    rw [h0, h1, h2, h3, h4, h5, h6, h7, h8] at h
    have HQ := hid h
    have H8 := hid h8
    have E7 : ∀ W, (binOp .eql 24 (.agg #[.int .i64 a.t0, .int .i64 a.t1, .int .i64 a.t2, .int .i64 a.t3]) (.agg #[.int .i64 b.t0, .int .i64 b.t1, .int .i64 b.t2, .int .i64 b.t3])).run Tryz.prog W = .ok (.bool q7) W := fun W => by rw [← h7]; exact eql_told W _ _ _ _ _ _ _ _
    clear h h7 h8
    have bx := (boxM_new w a A n c 27).keep (past_alloc (o := .cells (#[.int .u8 b.kd, .int .i64 b.us, .int .i64 b.se, .int .i64 b.co, .int .i64 b.fr, .int .i64 b.tt, .int .u8 b.ak, .int .i64 b.t0, .int .i64 b.t1, .int .i64 b.t2, .int .i64 b.t3, .slice B n d]) 27) (Below.refl _ _))
    have by_ := boxM_new (w.alloc (.cells (#[.int .u8 a.kd, .int .i64 a.us, .int .i64 a.se, .int .i64 a.co, .int .i64 a.fr, .int .i64 a.tt, .int .u8 a.ak, .int .i64 a.t0, .int .i64 a.t1, .int .i64 a.t2, .int .i64 a.t3, .slice A n c]) 27)) b B n d 27
    rw [show (w.alloc (.cells (#[.int .u8 a.kd, .int .i64 a.us, .int .i64 a.se, .int .i64 a.co, .int .i64 a.fr, .int .i64 a.tt, .int .u8 a.ak, .int .i64 a.t0, .int .i64 a.t1, .int .i64 a.t2, .int .i64 a.t3, .slice A n c]) 27)).heap.size = w.heap.size + 1 by simp [go_sem]] at by_
    have H0 := hid h0
    have H1 := hid h1
    have H2 := hid h2
    have H3 := hid h3
    have H4 := hid h4
    have H5 := hid h5
    have H6 := hid h6
    have HR := hid (hr.keep hbW)
    have HS := hid (hs.keep hbW)
    have HE7 := hid E7
    clear h0 h1 h2 h3 h4 h5 h6 E7 hr hs
    go_enter Tryz.func19, Tryz.ntmps19
    go_wp2
    generalize World.alloc (World.alloc w _) _ = W at bx by_ HR HS hbW ⊢
    go_loopw [5] (fun i wr => ∃ (j : Nat), j ≤ n ∧ i = .int .i64 (j : Int) ∧ Hid (∀ i (h1 : i < a.ops.length) (h2 : i < b.ops.length), i < j → sameO a.ops[i] b.ops[i] = true) ∧ Below W.heap.size W wr) (fun i _ => n - (intOf i).toNat)
    case atStart => exact ⟨0, by omega, rfl, hid (fun i _ _ h => absurd h (by omega)), Below.refl _ _⟩
    case round =>
      obtain ⟨j, hj, rfl, hz, hb⟩ := hrel
      have bxr := bx.keep hb
      have byr := by_.keep hb
      have hbr := below_in hbW hb
      by_cases hlt : j < n
      · have hln := hn.out
        have hlm := hm.out
        obtain ⟨bb, o, rfl, hcell⟩ := (HR.out.keep hb).at_ (by omega)
        obtain ⟨bb', o', rfl, hcell'⟩ := (HS.out.keep hb).at_ (by omega)
        obtain ⟨X, x, hR, hRi⟩ := hcell j (by omega)
        obtain ⟨Y, y, hS, hSi⟩ := hcell' j (by omega)
        have hat : ∀ h1 : j < a.ops.length, ∀ h2 : j < b.ops.length, sameO a.ops[j] b.ops[j] = false → sameOs a.ops b.ops = false := fun h1 h2 h => sameOs_at h1 h2 h
        obtain ⟨u, hu⟩ : ∃ v, sameO (a.ops[j]'(by omega)) (b.ops[j]'(by omega)) = v := ⟨_, rfl⟩
        have HAT := hid (fun (h : u = false) => hat (by omega) (by omega) (by rw [hu, h]))
        have HZ := hid (fun (h : u = true) => (show ∀ i (h1 : i < a.ops.length) (h2 : i < b.ops.length), i < j + 1 → sameO a.ops[i] b.ops[i] = true from fun i h1 h2 hi => by
          by_cases e : i = j
          · subst e; rw [hu, h]
          · exact hz.out i h1 h2 (by omega)))
        generalize a.ops[j]'(by omega) = p at hR hRi hu
        generalize b.ops[j]'(by omega) = r at hS hSi hu
        obtain ⟨k, hk⟩ : ∃ k, p.row.length = k := ⟨_, rfl⟩
        obtain ⟨k', hk'⟩ : ∃ k, r.row.length = k := ⟨_, rfl⟩
        rw [hk] at hR
        rw [hk'] at hS
        have HK := hid hk
        have HK' := hid hk'
        have HU := hid hu
        have hlt2 : (j : Int) < (n : Int) := by omega
        have s11 := bxr.c11
        have t11 := byr.c11
        have p11 := Past.all s11
        have r11 := Past.all t11
        clear hat hcell hcell' hln hlm hk hk' hu bxr byr
        go_wp2_with fail
        refine wp_region_past (by kernel_rfl) (by kernel_rfl) ?_
        go_big_quiet_step (fail)
        go_big_quiet_step (fail)
        go_big_quiet_step (fail)
        go_big_quiet_step (fail)
        refine quiet_load_e (by rfl) (.tmp 23) rfl bb _ rfl (range_past hR) ?_
        (try simp only [Act.put, List.setIfInBounds_toArray, List.set_cons_zero, List.set_cons_succ])
        go_big_quiet_step (fail)
        go_big_quiet_step (fail)
        go_big_quiet_step (fail)
        go_big_quiet_step (fail)
        refine quiet_load_e (by rfl) (.tmp 28) rfl bb' _ rfl (range_past hS) ?_
        (try simp only [Act.put, List.setIfInBounds_toArray, List.set_cons_zero, List.set_cons_succ])
        go_big_quiet_step (exact quiet_below (rsame_of u p X k x HK r Y k' y HK' HU _ (hRi.keep (Subtype.property _)) (hSi.keep (Subtype.property _))))
        go_big_quiet_step (fail)
        refine wpQuiet_nil ?_
        intro _ hw'
        obtain ⟨x3, rfl⟩ := hw'
        have hb3 := below_in hb x3.2
        have hbr3 := below_in hbW hb3
        clear p11 r11 s11 t11 hR hS hRi hSi
        generalize x3.1 = w3 at *
        cases u
        · have HX := hid (show false = v by rw [← HQ.out, ← H8.out, HAT.out rfl, Bool.and_false])
          clear HAT HZ
          go_wp2
          go_ret
          exact ⟨ret_bool HX.out, hbr3⟩
        · have HX := hid (HZ.out rfl)
          clear HAT HZ
          go_wp2
          go_roundw
          case rel => exact ⟨j + 1, by omega, by go_num, HX, hb3⟩
          case measure => simp [intOf]; omega
      · have hlt2 : ¬ (j : Int) < (n : Int) := by omega
        have HE := hid (show q8 = true by rw [← H8.out]; exact sameOs_all (by rw [hn.out, hm.out]) fun i h1 h2 => hz.out i h1 h2 (by have := hn.out; omega))
        have bxr2 := bxr
        have byr2 := byr
        obtain ⟨s0, s1, s2, s3, s4, s5, s6, s7, s8, s9, s10, s11⟩ := bxr
        obtain ⟨t0, t1, t2, t3, t4, t5, t6, t7, t8, t9, t10, t11⟩ := byr
        have h0 := H0.out
        have h1 := H1.out
        have h2 := H2.out
        have h3 := H3.out
        have h4 := H4.out
        have h5 := H5.out
        have h6 := H6.out
        have E7 := HE7.out
        clear hz
        go_wp2_with (first
          | (refine wpList_load_t rfl (.tmp 80) rfl w.heap.size rfl bxr2 ?_)
          | (refine wpList_load_t rfl (.tmp 82) rfl (w.heap.size + 1) rfl byr2 ?_))
        all_goals
          go_ret
          refine ⟨ret_bool ?_, hbr⟩
          clear E7 bxr2 byr2 bx by_ s0 s1 s2 s3 s4 s5 s6 s7 s8 s9 s10 s11 t0 t1 t2 t3 t4 t5 t6 t7 t8 t9 t10 t11
          have hE := HE.out
          simp [← HQ.out, *]
  · have h1 : ((n : Int) != (m : Int)) = true := by simpa using (show ¬ (n : Int) = m by omega)
    have HQ := hid (show v = false by rw [← hv.out, sameM, sameOs_len (by rw [hn.out, hm.out]; exact hnm), Bool.and_false])
    clear hnm hv hr hs
    go_enter Tryz.func19, Tryz.ntmps19
    go_wp2
    go_ret
    exact ⟨ret_bool HQ.out.symm, hbW⟩
end Go.Proofs.YtdhfnacdjjdijaaGreat
