/-
  What stands behind an operation's span, by kinds: the closures that tell it.
-/
import Derived.Test.YtbhglgcnoidddaaOpI
import Derived.Test.YtbhglgcnoidddaaIdQ
import Derived.Test.YtbhglgcnoidddaaRunP
namespace Go.Proofs.Ytbhglgcnoidddaa
open Go.RowKit
set_option linter.unusedVariables false
set_option linter.unusedSimpArgs false

theorem below_al {w X : World} (h : Below w.heap.size w X) (o : Obj) : Below w.heap.size w (X.alloc o) := h.alloc h.size o

set_option maxHeartbeats 1600000 in
theorem putId_own (L : List UInt8) (m : Nat) (j : Int) (l c k n : Int) (a b d : Nat) (h : Hid (Hn l c k a b d)) (hL : Hid ((if mayI l k n = true then iby a b d n.toNat else []) = L ∧ L.length = m ∧ er (mayI l k n) = j)) (w : World) :
    Calls Try.prog 55 #[.agg #[.int .u8 l, .int .u32 c, .int .u8 k, .int .i64 n]] w fun e w' => ∃ A' c', e = .returned (.tuple #[.slice A' m c', .int .i64 j]) ∧ Own w' w.heap.size 5 A' c' L ∧ Below w.heap.size w w' := by
  go_enter Try.func55, Try.ntmps55
  cases hq : mayI l k n
  · obtain ⟨h1, h2, h3⟩ := hL.out
    rw [if_neg (by simp [hq])] at h1
    rw [hq] at h3
    subst h1 h2 h3
    have HQ := hid hq
    clear hq hL
    go_wp2_with fail
    refine (check_id l c k n _).mono ?_
    rw [HQ.out]
    rintro e w1 ⟨rfl, b1⟩
    go_wp2_with fail
    go_ret2
    exact ⟨none, 0, rfl, Own.nil _ _ _, below_in (by go_grown) b1⟩
  · obtain ⟨h1, h2, h3⟩ := hL.out
    rw [if_pos hq] at h1
    rw [hq] at h3
    rw [← h1, iby_length] at h2
    subst h1 h2 h3
    have hn : 1 ≤ n ∧ n ≤ 1099511627776 := by simp [mayI] at hq; omega
    have n0 : 0 ≤ n := by omega
    have n1 : n < 9223372036854775808 := by omega
    have HN := hid (show ((n.toNat : Nat) : Int) = n by omega)
    have HQ := hid hq
    clear hq hL hn
    go_wp2_with fail
    refine (check_id l c k n _).mono ?_
    rw [HQ.out]
    rintro e w1 ⟨rfl, b1⟩
    have hb : Below w.heap.size w w1 := below_in (by go_grown) b1
    (have x0 : w1.cell? ⟨w.heap.size, 0, none⟩ = some (.int .u8 l) := (keep b1 (by simp)); have x1 : w1.cell? ⟨w.heap.size, 1, none⟩ = some (.int .u32 c) := (keep b1 (by simp)); have x2 : w1.cell? ⟨w.heap.size, 2, none⟩ = some (.int .u8 k) := (keep b1 (by simp)); have x3 : w1.cell? ⟨w.heap.size, 3, none⟩ = some (.int .i64 n) := (keep b1 (by simp)))
    clear b1
    go_wp2_with fail
    (have y0 := fun w' (h : Below w1.heap.size w1 w') => keep h x0; have y1 := fun w' (h : Below w1.heap.size w1 w') => keep h x1; have y2 := fun w' (h : Below w1.heap.size w1 w') => keep h x2; have y3 := fun w' (h : Below w1.heap.size w1 w') => keep h x3)
    clear x0 x1 x2 x3
    go_region_held (fun w' => Below w1.heap.size w1 w') (first | assumption | exact (Below.refl _ _).drew | exact Below.trans (w := w1) (by assumption) hb2 | exact (below_step (wo := w1) (W := w1.drew) (Below.refl _ _).drew hb1).trans hb2 | exact below_step (by assumption) hb1) (first | (go_at_call 83; refine (handleBytes_any l c k a b d h _).mono ?_; rintro e w2 ⟨A1, c1, rfl, ho, hb1⟩) | (go_at_call 84; refine (put_any w1.heap.size A1 6 c1 (hby a b d) (hid (hby_length _ _ _)) n.toNat n HN n0 n1 7 7 (hid rfl) _ (by omega) (by omega) (ho.mono (by first | exact Nat.le_refl _ | exact Below.size (by assumption))) (by exact Below.size (w := w1) (by assumption))).mono ?_; rintro e w3 ⟨A2, c2, rfl, ho2, hb2⟩))
    have hB : Below w1.heap.size w1 w3 := by assumption
    go_wp2
    go_ret2
    exact ⟨A2, c2, rfl, ho2.mono hb.size, below_in hb hB⟩

/-- An id, a handle, a row that may be put: its bytes. -/
theorem putI_of (l c k n : Int) (hh : Idn l c k n) (hm : mayI l k n = true) (w : World) :
    Calls Try.prog 55 #[.agg #[.int .u8 l, .int .u32 c, .int .u8 k, .int .i64 n]] w fun e w' => ∃ A' c', e = .returned (.tuple #[.slice A' 13 c', .int .i64 0]) ∧ Own w' w.heap.size 5 A' c' (iB l c k n) ∧ Below w.heap.size w w' :=
  putId_own (iB l c k n) 13 0 l c k n _ _ _ (hid (hn_of hh.han.lab hh.han.k0 hh.han.k1)) (hid ⟨by rw [hm]; rfl, iB_length _ _ _ _, by rw [hm]; rfl⟩) w
theorem putH_of (l c k : Int) (hh : Han l c k) (hm : mayH l k = true) (w : World) :
    Calls Try.prog 54 #[.agg #[.int .u8 l, .int .u32 c, .int .u8 k]] w fun e w' => ∃ A' c', e = .returned (.tuple #[.slice A' 6 c', .int .i64 0]) ∧ Rd w' A' c' (hB l c k) ∧ Below w.heap.size w w' :=
  putHandle_of (hB l c k) 6 0 l c k _ _ _ (hid (hn_of hh.lab hh.k0 hh.k1)) (hid ⟨by rw [hm]; rfl, hB_length _ _ _, by rw [hm]; rfl⟩) w
theorem putR_of (A : Option Addr) (n c : Nat) (l : List Int) (k : Nat) (hn : Hid (l.length = n)) (hk : Hid ((wide l).length = k)) (hc : chk l = 0) (w : World) (hr : Ri w A c l) :
    Calls Try.prog 59 #[.slice A n c] w fun e w' => ∃ A' c', e = .returned (.tuple #[.slice A' k c', .int .i64 0]) ∧ Rd w' A' c' (wide l) ∧ Below w.heap.size w w' := by
  refine (rput_any A n c l hn w hr).mono ?_
  rintro e w' ⟨A', c', rfl, h1, h2⟩
  have e1 : putV l = wide l := by rw [putV, if_pos hc]
  rw [e1] at h1 ⊢
  rw [hc, hk.out]
  exact ⟨A', c', rfl, h1, h2⟩

/-- Four cells stored whole. -/
theorem wpList_store_4 {ops : Array Oper} {rest : List Oper} {op : Oper} {a : Act} {W : World} {Q : Exit → Act → World → Prop} (hgd : op.guard = none) (t : TypeId) (d : TypeDesc) (hu : Try.prog.underlying t = some d) (hd : d.isRow = true) (hi : (Try.prog.info? t).map (·.size) = some 4) (x y : Operand) (ho : op.op = .store t x y)
    (b : Nat) (hx : a.eval x = .pointer (some ⟨b, 0, none⟩)) (v0 v1 v2 v3 : Value) (hy : a.eval y = .agg #[v0, v1, v2, v3]) (h1 : #[v0, v1, v2, v3].all (·.oneCell') = true) (ht : W.there b 0 4) (base : Nat) (hb : base ≤ b)
    (h : ∀ W', W'.cell? ⟨b, 0, none⟩ = some v0 → W'.cell? ⟨b, 1, none⟩ = some v1 → W'.cell? ⟨b, 2, none⟩ = some v2 → W'.cell? ⟨b, 3, none⟩ = some v3 → Below base W W' → (∀ k, k ≠ b → W'.heap[k]? = W.heap[k]?) → wpList Try.prog ops Q rest (a.put op.dst undef) W') : wpList Try.prog ops Q (op :: rest) a W := by
  refine wpList_store_mid hgd t x y ho b 0 _ hx hy ht hi h1 ?_
  have hs := World.rangeAt_setCells_same W b 0 [v0, v1, v2, v3] ht
  exact h _ (hs 0 _ rfl) (hs 1 _ rfl) (hs 2 _ rfl) (hs 3 _ rfl) (below_setCells b base hb _ _ _) (fun k hk => heap_setCells b _ _ _ k hk)
theorem there4_new (w : World) (v0 v1 v2 v3 : Value) (t : TypeId) : (w.alloc (.cells #[v0, v1, v2, v3] t)).there w.heap.size 0 4 := fun j hj => by
  refine ⟨?_, ?_⟩
  · rw [cell_of_row _ _ _ _ t (0, 0) (heap_alloc_last w _)]
    simp; omega
  · exact frozen_of_row _ _ _ _ _ (heap_alloc_last w _)

theorem digitsL_of (k : Nat) (v z : Int) (x : Nat) (hz : Hid ((x : Int) = z)) (z0 : 0 ≤ z) (z1 : z < 9223372036854775808) (hv : v = (k : Int)) (hk : k ≤ 7) (w : World) :
    Calls Try.prog 57 #[.int .i64 z, .int .i64 v] w fun e w' => ∃ A, e = .returned (.slice A k k) ∧ Own w' w.heap.size 5 A k (dg k x) ∧ Below w.heap.size w w' := by
  refine (digits_of x z k v hz z0 z1 (hid hv) hk w).mono ?_
  rintro e w' ⟨rfl, rfl⟩
  have h := Own.lit w 5 (dg k x) (Nat.le_refl _) (by rw [dg_length]; omega)
  rw [dg_length] at h
  exact ⟨_, rfl, h, (Below.refl _ _).alloc (Nat.le_refl _) _⟩

theorem zeros_own (w : World) : Own (w.alloc (.cells (madeCells #[Value.int .u8 0] 13) 5)) w.heap.size 5 (some ⟨w.heap.size, 0, none⟩) 13 (iB 0 0 0 0) := by
  have e : madeCells #[Value.int .u8 0] 13 = (u8s (iB 0 0 0 0)).toArray := by
    apply Array.ext'
    rw [toList_madeCells_one, iB_zero]
    simp [u8s]
  rw [e]
  exact Own.lit w 5 (iB 0 0 0 0) (Nat.le_refl _) (by rw [iB_length]; omega)

set_option maxRecDepth 100000 in
set_option maxHeartbeats 800000 in
theorem afterBytes_of (l c k n : Int) (hh : Idn l c k n) (hm : Hid ((sameI l c k n 0 0 0 0 || mayI l k n) = true)) (w : World) :
    Calls Try.prog 60 #[.agg #[.int .u8 l, .int .u32 c, .int .u8 k, .int .i64 n]] w fun e w' => ∃ A' c', e = .returned (.slice A' 13 c') ∧ Own w' w.heap.size 5 A' c' (iB l c k n) ∧ Below w.heap.size w w' := by
  obtain ⟨z, hz⟩ : ∃ z, sameI l c k n 0 0 0 0 = z := ⟨_, rfl⟩
  have hE : ∀ W, (binOp .eql 28 (.agg #[.int .u8 l, .int .u32 c, .int .u8 k, .int .i64 n]) (.agg #[.int .u8 0, .int .u32 0, .int .u8 0, .int .i64 0])).run Try.prog W = .ok (.bool z) W := fun W => by rw [← hz]; exact eql_id W _ _ _ _ _ _ _ _
  cases z
  · have hI : mayI l k n = true := by have := hm.out; rw [hz] at this; simpa using this
    have HI := hid hI
    clear hz hm hI
    go_enter Try.func60, Try.ntmps60
    go_wp2_with fail
    refine (putI_of l c k n hh HI.out _).mono ?_
    rintro e w1 ⟨A1, c1, rfl, ho, b1⟩
    go_wp2
    go_ret
    exact ⟨A1, c1, rfl, ho.mono (by simp), past_alloc b1⟩
  · obtain ⟨rfl, rfl, rfl, rfl⟩ := sameI_zero hz
    clear hz hm hh
    obtain ⟨i0, hi0, hz0, hz1, hz2⟩ := info_parts info_u8
    have hmk := fun W : World => run_make (P := Try.prog) W 44 5 i0 _ Try.underlying44 hi0 hz0 .i64 .i64 13 13 (by omega) (by omega) (by rw [hz2]; omega) (by omega)
    have ho := zeros_own (w.alloc (.cells #[.int .u8 0, .int .u32 0, .int .u8 0, .int .i64 0] 28))
    rw [show (w.alloc (.cells #[.int .u8 0, .int .u32 0, .int .u8 0, .int .i64 0] 28)).heap.size = w.heap.size + 1 by simp] at ho
    have HO := hid ho
    clear ho
    go_enter Try.func60, Try.ntmps60
    go_wp2
    go_ret
    exact ⟨_, _, rfl, HO.out.mono (by omega), by go_grown⟩

set_option maxRecDepth 100000 in
set_option maxHeartbeats 800000 in
theorem tails_any (o : Opd) (A : Option Addr) (n c : Nat) (w : World) :
    Calls Try.prog 31 #[.agg #[.int .u8 o.kd, .int .u8 o.l, .int .u32 o.c, .int .u8 o.k, .int .i64 o.s, .int .u8 o.fl, .int .u32 o.fc, .int .u8 o.fk, .int .i64 o.fn, .int .i64 o.fm, .int .u8 o.al, .int .u32 o.ac, .int .u8 o.ak, .int .i64 o.an, .int .u8 o.tl, .int .u32 o.tc, .slice A n c]] w fun e w' => e = .returned (.agg #[.nilFunc, .func (.func 58) #[] #[.pointer (some ⟨w.heap.size, 0, none⟩)], .func (.func 61) #[] #[], .func (.func 62) #[] #[.pointer (some ⟨w.heap.size, 0, none⟩)]]) ∧ BoxO w' w.heap.size o A n c ∧ Below w.heap.size w w' := by
  have hi : (Try.prog.info? 62).map (·.size) = some 4 := by kernel_rfl
  have ht := there4_new (w.alloc (.cells #[.int .u8 o.kd, .int .u8 o.l, .int .u32 o.c, .int .u8 o.k, .int .i64 o.s, .int .u8 o.fl, .int .u32 o.fc, .int .u8 o.fk, .int .i64 o.fn, .int .i64 o.fm, .int .u8 o.al, .int .u32 o.ac, .int .u8 o.ak, .int .i64 o.an, .int .u8 o.tl, .int .u32 o.tc, .slice A n c] 35)) .nilFunc .nilFunc .nilFunc .nilFunc 62
  rw [World.size_alloc] at ht
  have bx := (boxO_new w o A n c 35).keep ((Below.refl _ _).alloc (Nat.le_refl _) (.cells #[.nilFunc, .nilFunc, .nilFunc, .nilFunc] 62))
  go_enter Try.func31, Try.ntmps31
  go_wp2_with (refine wpList_store_4 rfl 62 _ Try.underlying62 rfl hi (.tmp 2) (.tmp 5) rfl (w.heap.size + 1) rfl _ _ _ _ rfl (by simp [Value.oneCell']) ht w.heap.size (by omega) ?_; intro w1 s0 s1 s2 s3 b1 hh)
  exact bodyPost_ret (v := .agg #[.nilFunc, .func (.func 58) #[] #[.pointer (some ⟨w.heap.size, 0, none⟩)], .func (.func 61) #[] #[], .func (.func 62) #[] #[.pointer (some ⟨w.heap.size, 0, none⟩)]]) (by simp [results, Try.results31, go_sem, s0, s1, s2, s3]) rfl ⟨rfl, bx.other hh (by omega), (show Below w.heap.size w _ by go_grown).trans b1⟩

set_option maxHeartbeats 800000 in
theorem tails1_of (m : Nat) (o : Opd) (g : Nat) (A : Option Addr) (n c : Nat) (hn : Hid (o.row.length = n)) (hr : Opr o) (hm : mayO o = true) (hk : o.kd = 1) (hl : Hid ((tailO o).length = m)) (w : World) (bx : BoxO w g o A n c) (hri : Ri w A c o.row) :
    Calls Try.prog 58 #[.pointer (some ⟨g, 0, none⟩)] w fun e w' => ∃ A' c', e = .returned (.slice A' m c') ∧ Rd w' A' c' (tailO o) ∧ Below w.heap.size w w' := by
  obtain ⟨i0, hi0, hz0, hz1, hz2⟩ := info_parts info_u8
  have md := maid hm
  have ht : tailO o = iB o.al o.ac o.ak o.an ++ wide o.row := if_pos hk
  obtain ⟨k, hk2⟩ : ∃ k, (wide o.row).length = k := ⟨_, rfl⟩
  have hmk : 13 + k = m := by rw [← hl.out, ht, List.length_append, iB_length, hk2]
  have hk5 : k ≤ 256 := by rw [← hk2, wide_length]; have := (md.ins hk).2.1; have := md.m2; omega
  have hc := (md.ins hk).2.2.1
  have ha := hid (md.ins hk).1
  have haf := hr.aft
  have HT := hid ht
  have HK := hid hk2
  have HM := hid hmk
  clear hm hk hl hr md ht hk2 hmk
  have bx1 := bx
  obtain ⟨s0, s1, s2, s3, s4, s5, s6, s7, s8, s9, s10, s11, s12, s13, s14, s15, s16⟩ := bx1
  go_enter Try.func58, Try.ntmps58
  go_wp2_with fail
  refine (putR_of A n c o.row k hn HK hc _ hri).mono ?_
  rintro e w1 ⟨A1, c1, rfl, hr1, b1⟩
  clear s0 s1 s2 s3 s4 s5 s6 s7 s8 s9 s10 s11 s12 s13 s14 s15 s16
  replace bx := bx.keep b1
  obtain ⟨s0, s1, s2, s3, s4, s5, s6, s7, s8, s9, s10, s11, s12, s13, s14, s15, s16⟩ := bx
  go_wp2_with fail
  refine (afterBytes_of _ _ _ _ haf ha _).mono ?_
  rintro e w2 ⟨A2, c2, rfl, ho2, b2⟩
  clear s0 s1 s2 s3 s4 s5 s6 s7 s8 s9 s10 s11 s12 s13 s14 s15 s16
  replace hr1 := hr1.keep b2
  have hb := below_in b1 b2
  go_wp2_with (at_builtin; refine wpList_append_rd rfl (.tmp 12) (.tmp 13) _ rfl w1.heap.size 5 Try.underlying44 hi0 hz0 hz1 hz2 A2 13 c2 _ (hid (iB_length _ _ _ _)) rfl ho2 A1 k c1 _ HK rfl hr1 (by omega) b2.size ?_; intro A3 c3 w3 ho3 b3)
  go_ret
  refine ⟨A3, c3, by rw [HM.out]; rfl, by rw [HT.out]; exact ho3.rd, hb.trans (b3.mono b1.size)⟩

theorem tails2_any (w : World) :
    Calls Try.prog 61 #[] w fun e w' => e = .returned (.slice none 0 0) ∧ w = w' := by
  go_enter Try.func61, Try.ntmps61
  go_wp2
  go_ret
  exact ⟨rfl, rfl⟩
end Go.Proofs.Ytbhglgcnoidddaa
