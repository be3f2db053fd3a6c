/-
  The document's own answer of layer 10: the bytes of mail that has more than one part.
-/
import Derived.Test.YtdhfnacdjjdijaaGreatMnF
import Derived.Test.YtdhfnacdjjdijaaGreatMlG
namespace Go.Proofs.YtdhfnacdjjdijaaGreat
open Go.RowKit
set_option linter.unusedVariables false
set_option linter.unusedSimpArgs false

theorem below_alB {w w5 : World} {o : Obj} (h : Below (w.heap.size + 1) (w.alloc o) w5) (x : Obj) : Below (w.heap.size + 1) (w.alloc o) (w5.alloc x) := h.alloc (by have := h.size; rwa [size1] at this) x
theorem BoxM.told_at {W : World} {b : Nat} {m : Mld} {A : Option Addr} {n c : Nat} (h : BoxM W b m A n c) (ts : List Int) (hts : [m.t0, m.t1, m.t2, m.t3] = ts) (j : Nat) (hj : j < ts.length) : W.cell? ⟨b, 7 + j, none⟩ = some (.int .i64 ts[j]) := by
  subst hts
  match j, hj with
  | 0, _ => exact h.c7
  | 1, _ => exact h.c8
  | 2, _ => exact h.c9
  | 3, _ => exact h.c10

set_option maxRecDepth 100000 in
set_option maxHeartbeats 3200000 in
theorem rb_7 (z y : Int) (h0 : 0 ≤ z) (h1 : z < 16777216) (g0 : 0 ≤ y) (g1 : y < 65536) (A : Option Addr) (c : Nat) (w : World) :
    Calls Tryz.prog 29 #[.agg #[.int .u8 7, .int .i64 0, .int .i64 z, .int .i64 y, .int .i64 0, .int .i64 0, .int .u8 0, .int .i64 0, .int .i64 0, .int .i64 0, .int .i64 0, .slice A 0 c]] w (RetNew w (nB 1 7 ++ nB 3 z ++ nB 2 y) 6) := by
  obtain ⟨i0, hi0, hz0, hz1, hz2⟩ := info_parts info_u8
  have hc := countB_iff.2 ⟨h0, h1⟩
  have o1 := own2 w (.cells (#[.int .u8 7, .int .i64 0, .int .i64 z, .int .i64 y, .int .i64 0, .int .i64 0, .int .u8 0, .int .i64 0, .int .i64 0, .int .i64 0, .int .i64 0, .slice A 0 c]) 27) 7 (by omega) (by omega)
  have bx0 : BoxM (w.alloc (.cells (#[.int .u8 7, .int .i64 0, .int .i64 z, .int .i64 y, .int .i64 0, .int .i64 0, .int .u8 0, .int .i64 0, .int .i64 0, .int .i64 0, .int .i64 0, .slice A 0 c]) 27)) w.heap.size ⟨7, 0, z, y, 0, 0, 0, 0, 0, 0, 0, []⟩ A 0 c := boxM_new w ⟨7, 0, z, y, 0, 0, 0, 0, 0, 0, 0, []⟩ A 0 c 27
  have l3 := lit3 w (.cells (#[.int .u8 7, .int .i64 0, .int .i64 z, .int .i64 y, .int .i64 0, .int .i64 0, .int .u8 0, .int .i64 0, .int .i64 0, .int .i64 0, .int .i64 0, .slice A 0 c]) 27) (.cells #[.int .u8 7] 5) (nB 3 z) 3 (by rw [nB_length]) (by omega) _ rfl
  have z3 := size3 w (.cells (#[.int .u8 7, .int .i64 0, .int .i64 z, .int .i64 y, .int .i64 0, .int .i64 0, .int .u8 0, .int .i64 0, .int .i64 0, .int .i64 0, .int .i64 0, .slice A 0 c]) 27) (.cells #[.int .u8 7] 5) (.cells (u8s (nB 3 z)).toArray 5)
  have e3 := below3 w (.cells (#[.int .u8 7, .int .i64 0, .int .i64 z, .int .i64 y, .int .i64 0, .int .i64 0, .int .u8 0, .int .i64 0, .int .i64 0, .int .i64 0, .int .i64 0, .slice A 0 c]) 27) (.cells #[.int .u8 7] 5) (.cells (u8s (nB 3 z)).toArray 5)
  have k3 : Below ((w.alloc (.cells (#[.int .u8 7, .int .i64 0, .int .i64 z, .int .i64 y, .int .i64 0, .int .i64 0, .int .u8 0, .int .i64 0, .int .i64 0, .int .i64 0, .int .i64 0, .slice A 0 c]) 27)).alloc (.cells #[.int .u8 7] 5)).heap.size ((w.alloc (.cells (#[.int .u8 7, .int .i64 0, .int .i64 z, .int .i64 y, .int .i64 0, .int .i64 0, .int .u8 0, .int .i64 0, .int .i64 0, .int .i64 0, .int .i64 0, .slice A 0 c]) 27)).alloc (.cells #[.int .u8 7] 5)) (((w.alloc (.cells (#[.int .u8 7, .int .i64 0, .int .i64 z, .int .i64 y, .int .i64 0, .int .i64 0, .int .u8 0, .int .i64 0, .int .i64 0, .int .i64 0, .int .i64 0, .slice A 0 c]) 27)).alloc (.cells #[.int .u8 7] 5)).alloc (.cells (u8s (nB 3 z)).toArray 5)) := (Below.refl _ _).alloc (Nat.le_refl _) _
  have o3 := o1.keep k3
  clear o1 k3
  go_enter Tryz.func29, Tryz.ntmps29
  go_wp2_with (first
    | (go_at_call 52; refine (rthree_of _ (by assumption) _).mono ?_; rintro e w' ⟨rfl, rfl⟩)
    | (at_builtin; refine wpList_append_rd rfl (.tmp 33) (.tmp 36) _ rfl (w.heap.size + 1) 5 Tryz.underlying32 hi0 hz0 hz1 hz2 (some ⟨w.heap.size + 1, 0, none⟩) 1 1 (nB 1 7) (hid (nB_length _ _)) rfl o3 (some ⟨w.heap.size + 2, 0, none⟩) 3 3 (nB 3 z) (hid (nB_length _ _)) rfl l3 (by omega) (by rw [z3]; omega) ?_; intro A5 c5 w5 ho5 b5; have B5 := e3.trans b5; have bx5 := bx0.kept1 B5; have s3 := bx5.c3; have l5 := lit1 w5 (nB 2 y) 2 (nB_length _ _) (by omega) _ (dg2 g0 g1))
    | (at_builtin; refine wpList_append_rd rfl (.tmp 48) (.tmp 57) _ rfl (w.heap.size + 1) 5 Tryz.underlying32 hi0 hz0 hz1 hz2 A5 4 c5 (nB 1 7 ++ nB 3 z) (hid (by simp [nB_length])) rfl (ho5.keep ((Below.refl _ _).alloc (Nat.le_refl _) _)) (some ⟨w5.heap.size, 0, none⟩) 2 2 (nB 2 y) (hid (nB_length _ _)) rfl l5 (by omega) (by have := B5.size; rw [size1] at this; rw [size1]; omega) ?_; intro A6 c6 w6 ho6 b6; have B6 := (below_alB B5 _).trans b6; have bx6 := bx0.kept1 B6))
  have s11 := (bx6).c11
  go_wp2
  go_loopw [3, 6] (fun v i wr => v = .slice A6 6 c6 ∧ i = .int .i64 0 ∧ wr = w6) (fun _ _ _ => 0)
  case atStart => exact ⟨rfl, rfl, rfl⟩
  case round =>
    obtain ⟨rfl, rfl, rfl⟩ := hrel
    go_wp2
    go_ret
    exact ⟨_, _, rfl, (ho6).rd, below_al1 B6⟩

set_option maxRecDepth 100000 in
set_option maxHeartbeats 6400000 in
theorem rb_2 (l : List Opd) (A : Option Addr) (n c L : Nat) (hn : Hid (l.length = n)) (h3 : n ≤ 3) (hr0 : ∀ o ∈ l, Opr o) (hm : opsB l = true) (hl : Hid ((opsb l).length = L)) (w : World) (hr : RdO w A c l) :
    Calls Tryz.prog 29 #[.agg #[.int .u8 2, .int .i64 0, .int .i64 0, .int .i64 0, .int .i64 0, .int .i64 0, .int .u8 0, .int .i64 0, .int .i64 0, .int .i64 0, .int .i64 0, .slice A n c]] w (RetNew w (nB 1 2 ++ opsb l) (1 + L)) := by
  obtain ⟨i0, hi0, hz0, hz1, hz2⟩ := info_parts info_u8
  have hc2 : (c : Int) ≤ 9223372036854775807 := by have := hr.cap; omega
  have hc1 : (n : Int) ≤ c := by have := hr.len; have := hn.out; omega
  have HM := hid hm
  have HR0 := hid hr0
  have HR := hid hr
  clear hm hr0 hr
  have o1 := own2 w (.cells (#[.int .u8 2, .int .i64 0, .int .i64 0, .int .i64 0, .int .i64 0, .int .i64 0, .int .u8 0, .int .i64 0, .int .i64 0, .int .i64 0, .int .i64 0, .slice A n c]) 27) 2 (by omega) (by omega)
  have bx0 : BoxM (w.alloc (.cells (#[.int .u8 2, .int .i64 0, .int .i64 0, .int .i64 0, .int .i64 0, .int .i64 0, .int .u8 0, .int .i64 0, .int .i64 0, .int .i64 0, .int .i64 0, .slice A n c]) 27)) w.heap.size ⟨2, 0, 0, 0, 0, 0, 0, 0, 0, 0, 0, l⟩ A n c := boxM_new w ⟨2, 0, 0, 0, 0, 0, 0, 0, 0, 0, 0, l⟩ A n c 27
  have e1 : Below (w.heap.size + 1) (w.alloc (.cells (#[.int .u8 2, .int .i64 0, .int .i64 0, .int .i64 0, .int .i64 0, .int .i64 0, .int .u8 0, .int .i64 0, .int .i64 0, .int .i64 0, .int .i64 0, .slice A n c]) 27)) ((w.alloc (.cells (#[.int .u8 2, .int .i64 0, .int .i64 0, .int .i64 0, .int .i64 0, .int .i64 0, .int .u8 0, .int .i64 0, .int .i64 0, .int .i64 0, .int .i64 0, .slice A n c]) 27)).alloc (.cells #[.int .u8 2] 5)) := (Below.refl _ _).alloc (by rw [size1]; exact Nat.le_refl _) _
  go_enter Tryz.func29, Tryz.ntmps29
  go_wp2_with fail
  generalize World.alloc (World.alloc w _) _ = w1 at o1 e1 ⊢
  obtain ⟨pre, hpre⟩ : ∃ p, nB 1 2 = p := ⟨_, rfl⟩
  have HP0 := hid (show pre.length = 1 by rw [← hpre]; simp [nB_length])
  rw [hpre] at o1
  have s11 := (bx0.kept1 e1).c11
  go_wp2
  go_loopw [3, 6] (fun v i wr => ∃ (j : Nat) (A' : Option Addr) (c' k : Nat), j ≤ n ∧ i = .int .i64 (j : Int) ∧ v = .slice A' k c' ∧ Hid ((pre ++ opsb (l.take j)).length = k) ∧ Own wr (w.heap.size + 1) 5 A' c' (pre ++ opsb (l.take j)) ∧ Below (w.heap.size + 1) (w.alloc (.cells (#[.int .u8 2, .int .i64 0, .int .i64 0, .int .i64 0, .int .i64 0, .int .i64 0, .int .u8 0, .int .i64 0, .int .i64 0, .int .i64 0, .int .i64 0, .slice A n c]) 27)) wr) (fun _ i _ => n - (intOf i).toNat)
  case atStart => exact ⟨0, (some ⟨w.heap.size + 1, 0, none⟩), 1, 1, by omega, rfl, rfl, hid (by simp [opsb, HP0.out]), by simpa [opsb] using o1, e1⟩
  case round =>
    clear o1 s11
    obtain ⟨j, A', c', k, hj, rfl, rfl, hk, ho, hb⟩ := hrel
    have bxr := bx0.kept1 hb
    have s11 := bxr.c11
    by_cases hlt : j < n
    · have hln := hn.out
      have hk9 : k ≤ 900 := by
        have h1 : opsB (l.take j) = true := by
          rw [opsB, List.all_eq_true]
          exact fun x hx => List.all_eq_true.1 HM.out x (List.mem_of_mem_take hx)
        have := opsb_le h1
        have h2 : (l.take j).length ≤ j := List.length_take_le _ _
        have := hk.out
        rw [List.length_append, HP0.out] at this
        omega
      obtain ⟨b, o, rfl, hcell⟩ := (HR.out.keep (below_al1 hb)).at_ (by omega)
      obtain ⟨B, d, hR, hRi⟩ := hcell j (by omega)
      have hs := opsb_take l j (by omega)
      have hmj := opsB_at HM.out (j := j) (by omega)
      have hrj := HR0.out _ (List.getElem_mem (l := l) (n := j) (by omega))
      generalize l[j]'(by omega) = y at hR hRi hs hmj hrj
      obtain ⟨q, hq⟩ : ∃ q, y.row.length = q := ⟨_, rfl⟩
      obtain ⟨p, hp⟩ : ∃ p, (opb y).length = p := ⟨_, rfl⟩
      have hp9 : p ≤ 293 := by rw [← hp]; exact (opb_length hmj).2.2.1
      rw [hq] at hR
      have HK := hid hq
      have HP := hid hp
      have HS := hid hs
      have hlt2 : (j : Int) < (n : Int) := by omega
      have HMJ := hid hmj
      clear hs hcell hln hq hp hmj
      go_wp2_with (refine wpList_load_e rfl (.tmp 108) rfl b _ rfl hR ?_)
      refine (rbytes_of p y B q d HK hrj HMJ.out HP _ hRi).mono ?_
      rintro e w3 ⟨A3, c3, rfl, hr3, b3⟩
      have ho3 := ho.keep b3
      have hb3 := hb.trans (b3.mono (by have := hb.size; rw [size1] at this; omega))
      have hsz : w.heap.size + 1 ≤ w3.heap.size := by have := hb3.size; rwa [size1] at this
      clear b3 hR hRi ho bxr s11
      go_wp2_with (at_builtin; refine wpList_append_rd rfl (.tmp 104) (.tmp 110) _ rfl (w.heap.size + 1) 5 Tryz.underlying32 hi0 hz0 hz1 hz2 A' k c' (pre ++ opsb (l.take j)) hk rfl ho3 A3 p c3 (opb y) HP rfl hr3 (by omega) hsz ?_; intro A4 c4 w4 ho4 b4)
      go_roundw
      case rel => exact ⟨j + 1, A4, c4, k + p, by omega, by go_num, rfl, hid (by rw [HS.out, ← List.append_assoc, List.length_append, hk.out, HP.out]), by rw [HS.out, ← List.append_assoc]; exact ho4, hb3.trans b4⟩
      case measure => simp [intOf]; omega
    · have ej : l.take j = l := List.take_of_length_le (by have := hn.out; omega)
      have hlt2 : ¬ (j : Int) < (n : Int) := by omega
      rw [ej] at hk ho
      have ek : k = 1 + L := hk.out.symm.trans (by rw [List.length_append, HP0.out, hl.out])
      subst ek
      clear ej
      go_wp2
      go_ret
      exact ⟨A', c', rfl, by first | exact ho.rd | (have h := ho.rd; rw [← hpre] at h; simpa only [List.append_assoc] using h), below_al1 hb⟩

set_option maxRecDepth 100000 in
set_option maxHeartbeats 6400000 in
theorem rb_8 (z y : Int) (h0 : 0 ≤ z) (h1 : z < 16777216) (g0 : 0 ≤ y) (g1 : y < 16777216) (l : List Opd) (A : Option Addr) (n c L : Nat) (hn : Hid (l.length = n)) (h3 : n ≤ 3) (hr0 : ∀ o ∈ l, Opr o) (hm : opsB l = true) (hl : Hid ((opsb l).length = L)) (w : World) (hr : RdO w A c l) :
    Calls Tryz.prog 29 #[.agg #[.int .u8 8, .int .i64 0, .int .i64 0, .int .i64 0, .int .i64 z, .int .i64 y, .int .u8 0, .int .i64 0, .int .i64 0, .int .i64 0, .int .i64 0, .slice A n c]] w (RetNew w (nB 1 8 ++ nB 3 z ++ nB 3 y ++ nB 1 (n : Int) ++ opsb l) (8 + L)) := by
  obtain ⟨i0, hi0, hz0, hz1, hz2⟩ := info_parts info_u8
  have hc2 : (c : Int) ≤ 9223372036854775807 := by have := hr.cap; omega
  have hc1 : (n : Int) ≤ c := by have := hr.len; have := hn.out; omega
  have HM := hid hm
  have HR0 := hid hr0
  have HR := hid hr
  clear hm hr0 hr
  have hc := countB_iff.2 ⟨h0, h1⟩
  have hd := countB_iff.2 ⟨g0, g1⟩
  have n0 : (0 : Int) ≤ (n : Int) := by omega
  have n1 : (n : Int) < 256 := by omega
  have o1 := own2 w (.cells (#[.int .u8 8, .int .i64 0, .int .i64 0, .int .i64 0, .int .i64 z, .int .i64 y, .int .u8 0, .int .i64 0, .int .i64 0, .int .i64 0, .int .i64 0, .slice A n c]) 27) 8 (by omega) (by omega)
  have bx0 : BoxM (w.alloc (.cells (#[.int .u8 8, .int .i64 0, .int .i64 0, .int .i64 0, .int .i64 z, .int .i64 y, .int .u8 0, .int .i64 0, .int .i64 0, .int .i64 0, .int .i64 0, .slice A n c]) 27)) w.heap.size ⟨8, 0, 0, 0, z, y, 0, 0, 0, 0, 0, l⟩ A n c := boxM_new w ⟨8, 0, 0, 0, z, y, 0, 0, 0, 0, 0, l⟩ A n c 27
  have l3 := lit3 w (.cells (#[.int .u8 8, .int .i64 0, .int .i64 0, .int .i64 0, .int .i64 z, .int .i64 y, .int .u8 0, .int .i64 0, .int .i64 0, .int .i64 0, .int .i64 0, .slice A n c]) 27) (.cells #[.int .u8 8] 5) (nB 3 z) 3 (by rw [nB_length]) (by omega) _ rfl
  have z3 := size3 w (.cells (#[.int .u8 8, .int .i64 0, .int .i64 0, .int .i64 0, .int .i64 z, .int .i64 y, .int .u8 0, .int .i64 0, .int .i64 0, .int .i64 0, .int .i64 0, .slice A n c]) 27) (.cells #[.int .u8 8] 5) (.cells (u8s (nB 3 z)).toArray 5)
  have e3 := below3 w (.cells (#[.int .u8 8, .int .i64 0, .int .i64 0, .int .i64 0, .int .i64 z, .int .i64 y, .int .u8 0, .int .i64 0, .int .i64 0, .int .i64 0, .int .i64 0, .slice A n c]) 27) (.cells #[.int .u8 8] 5) (.cells (u8s (nB 3 z)).toArray 5)
  have k3 : Below ((w.alloc (.cells (#[.int .u8 8, .int .i64 0, .int .i64 0, .int .i64 0, .int .i64 z, .int .i64 y, .int .u8 0, .int .i64 0, .int .i64 0, .int .i64 0, .int .i64 0, .slice A n c]) 27)).alloc (.cells #[.int .u8 8] 5)).heap.size ((w.alloc (.cells (#[.int .u8 8, .int .i64 0, .int .i64 0, .int .i64 0, .int .i64 z, .int .i64 y, .int .u8 0, .int .i64 0, .int .i64 0, .int .i64 0, .int .i64 0, .slice A n c]) 27)).alloc (.cells #[.int .u8 8] 5)) (((w.alloc (.cells (#[.int .u8 8, .int .i64 0, .int .i64 0, .int .i64 0, .int .i64 z, .int .i64 y, .int .u8 0, .int .i64 0, .int .i64 0, .int .i64 0, .int .i64 0, .slice A n c]) 27)).alloc (.cells #[.int .u8 8] 5)).alloc (.cells (u8s (nB 3 z)).toArray 5)) := (Below.refl _ _).alloc (Nat.le_refl _) _
  have o3 := o1.keep k3
  clear o1 k3
  go_enter Tryz.func29, Tryz.ntmps29
  go_wp2_with (first
    | (go_at_call 52; refine (rthree_of _ (by assumption) _).mono ?_; rintro e w' ⟨rfl, rfl⟩)
    | (at_builtin; refine wpList_append_rd rfl (.tmp 65) (.tmp 68) _ rfl (w.heap.size + 1) 5 Tryz.underlying32 hi0 hz0 hz1 hz2 (some ⟨w.heap.size + 1, 0, none⟩) 1 1 (nB 1 8) (hid (nB_length _ _)) rfl o3 (some ⟨w.heap.size + 2, 0, none⟩) 3 3 (nB 3 z) (hid (nB_length _ _)) rfl l3 (by omega) (by rw [z3]; omega) ?_; intro A5 c5 w5 ho5 b5; have B5 := e3.trans b5; have bx5 := bx0.kept1 B5; have s5 := bx5.c5; have l5 := lit1 w5 (nB 3 y) 3 (nB_length _ _) (by omega) _ rfl)
    | (at_builtin; refine wpList_append_rd rfl (.tmp 72) (.tmp 75) _ rfl (w.heap.size + 1) 5 Tryz.underlying32 hi0 hz0 hz1 hz2 A5 4 c5 (nB 1 8 ++ nB 3 z) (hid (by simp [nB_length])) rfl (ho5.keep ((Below.refl _ _).alloc (Nat.le_refl _) _)) (some ⟨w5.heap.size, 0, none⟩) 3 3 (nB 3 y) (hid (nB_length _ _)) rfl l5 (by omega) (by have := B5.size; rw [size1] at this; rw [size1]; omega) ?_; intro A6 c6 w6 ho6 b6; have B6 := (below_alB B5 _).trans b6; have bx6 := bx0.kept1 B6; have s11 := bx6.c11; have l6 := lit1 w6 (nB 1 (n : Int)) 1 (nB_length _ _) (by omega) _ (dg1 n0 n1))
    | (at_builtin; refine wpList_append_rd rfl (.tmp 77) (.tmp 82) _ rfl (w.heap.size + 1) 5 Tryz.underlying32 hi0 hz0 hz1 hz2 A6 7 c6 (nB 1 8 ++ nB 3 z ++ nB 3 y) (hid (by simp [nB_length])) rfl (ho6.keep ((Below.refl _ _).alloc (Nat.le_refl _) _)) (some ⟨w6.heap.size, 0, none⟩) 1 1 (nB 1 (n : Int)) (hid (nB_length _ _)) rfl l6 (by omega) (by have := B6.size; rw [size1] at this; rw [size1]; omega) ?_; intro A7 c7 w7 ho7 b7; have B7 := (below_alB B6 _).trans b7; have bx7 := bx0.kept1 B7))
  obtain ⟨pre, hpre⟩ : ∃ p, nB 1 8 ++ nB 3 z ++ nB 3 y ++ nB 1 (n : Int) = p := ⟨_, rfl⟩
  have HP0 := hid (show pre.length = 8 by rw [← hpre]; simp [nB_length])
  rw [hpre] at ho7
  have s11 := (bx7).c11
  go_wp2
  go_loopw [3, 6] (fun v i wr => ∃ (j : Nat) (A' : Option Addr) (c' k : Nat), j ≤ n ∧ i = .int .i64 (j : Int) ∧ v = .slice A' k c' ∧ Hid ((pre ++ opsb (l.take j)).length = k) ∧ Own wr (w.heap.size + 1) 5 A' c' (pre ++ opsb (l.take j)) ∧ Below (w.heap.size + 1) (w.alloc (.cells (#[.int .u8 8, .int .i64 0, .int .i64 0, .int .i64 0, .int .i64 z, .int .i64 y, .int .u8 0, .int .i64 0, .int .i64 0, .int .i64 0, .int .i64 0, .slice A n c]) 27)) wr) (fun _ i _ => n - (intOf i).toNat)
  case atStart => exact ⟨0, A7, c7, 8, by omega, rfl, rfl, hid (by simp [opsb, HP0.out]), by simpa [opsb] using ho7, B7⟩
  case round =>
    clear ho7 s11
    obtain ⟨j, A', c', k, hj, rfl, rfl, hk, ho, hb⟩ := hrel
    have bxr := bx0.kept1 hb
    have s11 := bxr.c11
    by_cases hlt : j < n
    · have hln := hn.out
      have hk9 : k ≤ 900 := by
        have h1 : opsB (l.take j) = true := by
          rw [opsB, List.all_eq_true]
          exact fun x hx => List.all_eq_true.1 HM.out x (List.mem_of_mem_take hx)
        have := opsb_le h1
        have h2 : (l.take j).length ≤ j := List.length_take_le _ _
        have := hk.out
        rw [List.length_append, HP0.out] at this
        omega
      obtain ⟨b, o, rfl, hcell⟩ := (HR.out.keep (below_al1 hb)).at_ (by omega)
      obtain ⟨B, d, hR, hRi⟩ := hcell j (by omega)
      have hs := opsb_take l j (by omega)
      have hmj := opsB_at HM.out (j := j) (by omega)
      have hrj := HR0.out _ (List.getElem_mem (l := l) (n := j) (by omega))
      generalize l[j]'(by omega) = y at hR hRi hs hmj hrj
      obtain ⟨q, hq⟩ : ∃ q, y.row.length = q := ⟨_, rfl⟩
      obtain ⟨p, hp⟩ : ∃ p, (opb y).length = p := ⟨_, rfl⟩
      have hp9 : p ≤ 293 := by rw [← hp]; exact (opb_length hmj).2.2.1
      rw [hq] at hR
      have HK := hid hq
      have HP := hid hp
      have HS := hid hs
      have hlt2 : (j : Int) < (n : Int) := by omega
      have HMJ := hid hmj
      clear hs hcell hln hq hp hmj
      go_wp2_with (refine wpList_load_e rfl (.tmp 108) rfl b _ rfl hR ?_)
      refine (rbytes_of p y B q d HK hrj HMJ.out HP _ hRi).mono ?_
      rintro e w3 ⟨A3, c3, rfl, hr3, b3⟩
      have ho3 := ho.keep b3
      have hb3 := hb.trans (b3.mono (by have := hb.size; rw [size1] at this; omega))
      have hsz : w.heap.size + 1 ≤ w3.heap.size := by have := hb3.size; rwa [size1] at this
      clear b3 hR hRi ho bxr s11
      go_wp2_with (at_builtin; refine wpList_append_rd rfl (.tmp 104) (.tmp 110) _ rfl (w.heap.size + 1) 5 Tryz.underlying32 hi0 hz0 hz1 hz2 A' k c' (pre ++ opsb (l.take j)) hk rfl ho3 A3 p c3 (opb y) HP rfl hr3 (by omega) hsz ?_; intro A4 c4 w4 ho4 b4)
      go_roundw
      case rel => exact ⟨j + 1, A4, c4, k + p, by omega, by go_num, rfl, hid (by rw [HS.out, ← List.append_assoc, List.length_append, hk.out, HP.out]), by rw [HS.out, ← List.append_assoc]; exact ho4, hb3.trans b4⟩
      case measure => simp [intOf]; omega
    · have ej : l.take j = l := List.take_of_length_le (by have := hn.out; omega)
      have hlt2 : ¬ (j : Int) < (n : Int) := by omega
      rw [ej] at hk ho
      have ek : k = 8 + L := hk.out.symm.trans (by rw [List.length_append, HP0.out, hl.out])
      subst ek
      clear ej
      go_wp2
      go_ret
      exact ⟨A', c', rfl, by first | exact ho.rd | (have h := ho.rd; rw [← hpre] at h; simpa only [List.append_assoc] using h), below_al1 hb⟩

set_option maxRecDepth 100000 in
set_option maxHeartbeats 3200000 in
theorem rb_9 (z t0 t1 t2 t3 : Int) (h0 : 0 ≤ z) (h1 : z < 256) (k0 : countB t0 = true) (k1 : countB t1 = true) (k2 : countB t2 = true) (k3 : countB t3 = true) (A : Option Addr) (c : Nat) (w : World) :
    Calls Tryz.prog 29 #[.agg #[.int .u8 9, .int .i64 0, .int .i64 0, .int .i64 0, .int .i64 0, .int .i64 0, .int .u8 z, .int .i64 t0, .int .i64 t1, .int .i64 t2, .int .i64 t3, .slice A 0 c]] w (RetNew w (nB 1 9 ++ nB 1 z ++ nB 3 t0 ++ nB 3 t1 ++ nB 3 t2 ++ nB 3 t3) 14) := by
  obtain ⟨i0, hi0, hz0, hz1, hz2⟩ := info_parts info_u8
  obtain ⟨ts, hts⟩ : ∃ ts, [t0, t1, t2, t3] = ts := ⟨_, rfl⟩
  have h4 : ts.length = 4 := by rw [← hts]; rfl
  have HA := hid (show ts.all countB = true by rw [← hts]; simp [k0, k1, k2, k3])
  have H4 := hid h4
  have HTS := hid hts
  have HT := hid (show nB 1 9 ++ nB 1 z ++ nB 3 t0 ++ nB 3 t1 ++ nB 3 t2 ++ nB 3 t3 = nB 1 9 ++ nB 1 z ++ nBs ts by rw [← hts]; simp [nBs])
  clear k0 k1 k2 k3 h4 hts
  have o1 := own2 w (.cells (#[.int .u8 9, .int .i64 0, .int .i64 0, .int .i64 0, .int .i64 0, .int .i64 0, .int .u8 z, .int .i64 t0, .int .i64 t1, .int .i64 t2, .int .i64 t3, .slice A 0 c]) 27) 9 (by omega) (by omega)
  have bx0 : BoxM (w.alloc (.cells (#[.int .u8 9, .int .i64 0, .int .i64 0, .int .i64 0, .int .i64 0, .int .i64 0, .int .u8 z, .int .i64 t0, .int .i64 t1, .int .i64 t2, .int .i64 t3, .slice A 0 c]) 27)) w.heap.size ⟨9, 0, 0, 0, 0, 0, z, t0, t1, t2, t3, []⟩ A 0 c := boxM_new w ⟨9, 0, 0, 0, 0, 0, z, t0, t1, t2, t3, []⟩ A 0 c 27
  have l3 := lit3 w (.cells (#[.int .u8 9, .int .i64 0, .int .i64 0, .int .i64 0, .int .i64 0, .int .i64 0, .int .u8 z, .int .i64 t0, .int .i64 t1, .int .i64 t2, .int .i64 t3, .slice A 0 c]) 27) (.cells #[.int .u8 9] 5) (nB 1 z) 1 (by rw [nB_length]) (by omega) _ (dg1 h0 h1)
  have z3 := size3 w (.cells (#[.int .u8 9, .int .i64 0, .int .i64 0, .int .i64 0, .int .i64 0, .int .i64 0, .int .u8 z, .int .i64 t0, .int .i64 t1, .int .i64 t2, .int .i64 t3, .slice A 0 c]) 27) (.cells #[.int .u8 9] 5) (.cells ([.int .u8 z]).toArray 5)
  have e3 := below3 w (.cells (#[.int .u8 9, .int .i64 0, .int .i64 0, .int .i64 0, .int .i64 0, .int .i64 0, .int .u8 z, .int .i64 t0, .int .i64 t1, .int .i64 t2, .int .i64 t3, .slice A 0 c]) 27) (.cells #[.int .u8 9] 5) (.cells ([.int .u8 z]).toArray 5)
  have k3 : Below ((w.alloc (.cells (#[.int .u8 9, .int .i64 0, .int .i64 0, .int .i64 0, .int .i64 0, .int .i64 0, .int .u8 z, .int .i64 t0, .int .i64 t1, .int .i64 t2, .int .i64 t3, .slice A 0 c]) 27)).alloc (.cells #[.int .u8 9] 5)).heap.size ((w.alloc (.cells (#[.int .u8 9, .int .i64 0, .int .i64 0, .int .i64 0, .int .i64 0, .int .i64 0, .int .u8 z, .int .i64 t0, .int .i64 t1, .int .i64 t2, .int .i64 t3, .slice A 0 c]) 27)).alloc (.cells #[.int .u8 9] 5)) (((w.alloc (.cells (#[.int .u8 9, .int .i64 0, .int .i64 0, .int .i64 0, .int .i64 0, .int .i64 0, .int .u8 z, .int .i64 t0, .int .i64 t1, .int .i64 t2, .int .i64 t3, .slice A 0 c]) 27)).alloc (.cells #[.int .u8 9] 5)).alloc (.cells ([.int .u8 z]).toArray 5)) := (Below.refl _ _).alloc (Nat.le_refl _) _
  have o3 := o1.keep k3
  clear o1 k3
  go_enter Tryz.func29, Tryz.ntmps29
  go_wp2_with (at_builtin; refine wpList_append_rd rfl (.tmp 26) (.tmp 29) _ rfl (w.heap.size + 1) 5 Tryz.underlying32 hi0 hz0 hz1 hz2 (some ⟨w.heap.size + 1, 0, none⟩) 1 1 (nB 1 9) (hid (nB_length _ _)) rfl o3 (some ⟨w.heap.size + 2, 0, none⟩) 1 1 (nB 1 z) (hid (nB_length _ _)) rfl l3 (by omega) (by rw [z3]; omega) ?_; intro A5 c5 w5 ho5 b5; have B5 := e3.trans b5; have bx5 := bx0.kept1 B5)
  obtain ⟨pre, hpre⟩ : ∃ p, nB 1 9 ++ nB 1 z = p := ⟨_, rfl⟩
  have HP0 := hid (show pre.length = 2 by rw [← hpre]; simp [nB_length])
  rw [hpre] at ho5
  go_loopw [3, 5] (fun v i wr => ∃ (j : Nat) (A' : Option Addr) (c' k : Nat), j ≤ 4 ∧ i = .int .i64 (j : Int) ∧ v = .slice A' k c' ∧ Hid (k = 2 + 3 * j) ∧ Own wr (w.heap.size + 1) 5 A' c' (pre ++ nBs (ts.take j)) ∧ Below (w.heap.size + 1) (w.alloc (.cells (#[.int .u8 9, .int .i64 0, .int .i64 0, .int .i64 0, .int .i64 0, .int .i64 0, .int .u8 z, .int .i64 t0, .int .i64 t1, .int .i64 t2, .int .i64 t3, .slice A 0 c]) 27)) wr) (fun _ i _ => 4 - (intOf i).toNat)
  case atStart => exact ⟨0, A5, c5, 2, by omega, rfl, rfl, hid rfl, by simpa [nBs] using ho5, B5⟩
  case round =>
    clear ho5 B5 bx5 o3 l3 z3 e3 b5
    obtain ⟨j, A', c', k, hj, rfl, rfl, hk, ho, hb⟩ := hrel
    have bxr := bx0.kept1 hb
    by_cases hlt : j < 4
    · have h4 := H4.out
      have hcj := bxr.told_at ts HTS.out j (by omega)
      have hcd := List.all_eq_true.1 HA.out _ (List.getElem_mem (l := ts) (n := j) (by omega))
      have hs := nBs_take ts j (by omega)
      have hl := hid (show (pre ++ nBs (ts.take j)).length = k by rw [List.length_append, HP0.out, nBs_len, List.length_take, hk.out]; omega)
      have hk9 : k ≤ 14 := by have := hk.out; omega
      generalize ts[j]'(by omega) = d at hcj hcd hs
      have HS := hid hs
      have hlt2 : (j : Int) < 4 := by omega
      have l5 := lit1 wr (nB 3 d) 3 (nB_length _ _) (by omega) _ rfl
      clear hs h4
      go_wp2_with (first
        | (go_at_call 52; refine (rthree_of _ hcd _).mono ?_; rintro e w' ⟨rfl, rfl⟩)
        | (at_builtin; refine wpList_append_rd rfl (.tmp 90) (.tmp 95) _ rfl (w.heap.size + 1) 5 Tryz.underlying32 hi0 hz0 hz1 hz2 A' k c' _ hl rfl (ho.keep ((Below.refl _ _).alloc (Nat.le_refl _) _)) (some ⟨wr.heap.size, 0, none⟩) 3 3 (nB 3 d) (hid (nB_length _ _)) rfl l5 (by omega) (by have := hb.size; rw [size1] at this; rw [size1]; omega) ?_; intro A4 c4 w4 ho4 b4))
      go_roundw
      case rel => exact ⟨j + 1, A4, c4, k + 3, by omega, by go_num, rfl, hid (by rw [hk.out]; omega), by rw [HS.out, ← List.append_assoc]; exact ho4, (below_alB hb _).trans b4⟩
      case measure => simp [intOf]; omega
    · have ej : j = 4 := by omega
      subst ej
      have hlt2 : ¬ (((4 : Nat) : Int) < 4) := by omega
      have ek : k = 14 := hk.out
      rw [List.take_of_length_le (by rw [H4.out]; omega)] at ho
      subst ek
      have s11 := bxr.c11
      go_wp2
      go_loopw [3, 6] (fun v i wq => v = .slice A' 14 c' ∧ i = .int .i64 0 ∧ wq = wr) (fun _ _ _ => 0)
      case atStart => exact ⟨rfl, rfl, rfl⟩
      case round =>
        obtain ⟨rfl, rfl, rfl⟩ := hrel
        go_wp2
        go_ret
        exact ⟨_, _, rfl, by rw [HT.out, hpre]; exact ho.rd, below_al1 hb⟩

end Go.Proofs.YtdhfnacdjjdijaaGreat
