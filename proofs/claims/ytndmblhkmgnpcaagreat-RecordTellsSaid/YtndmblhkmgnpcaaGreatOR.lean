/-
  The document's own Get of layer 9: mathematics of its three ways.
-/
import Derived.Test.YtndmblhkmgnpcaaGreatOS
import Derived.BigRegion
import Derived.Test.YtndmblhkmgnpcaaGreatOG
import Derived.Test.YtndmblhkmgnpcaaGreatOW
import Derived.Test.YtndmblhkmgnpcaaGreatRH
import Derived.Test.YtndmblhkmgnpcaaGreatOD
import Derived.Test.YtndmblhkmgnpcaaGreatOU
namespace Go.Proofs.YtndmblhkmgnpcaaGreat
open Go.RowKit
set_option linter.unusedVariables false
set_option linter.unusedSimpArgs false

theorem g_take {l : List UInt8} (h : l.length = 13) : gL (l.take 6) = gL l ∧ gC (l.take 6) = gC l ∧ gK (l.take 6) = gK l ∧ (l.take 6).length = 6 := by
  match l, h with
  | b0 :: b1 :: b2 :: b3 :: b4 :: b5 :: r, h => exact ⟨rfl, rfl, rfl, rfl⟩

theorem cells_drop {w : World} {b o : Nat} {l : List UInt8} (hcell : ∀ j (h : j < l.length), w.cell? ⟨b, o + j, none⟩ = some (.int .u8 (l[j].toNat : Int))) (k : Nat) {j : Nat} (hj : j < (l.drop k).length) : w.cell? ⟨b, o + (k + j), none⟩ = some (.int .u8 ((l.drop k)[j].toNat : Int)) := by
  rw [List.length_drop] at hj
  rw [hcell (k + j) (by omega)]
  simp

set_option maxRecDepth 100000 in
set_option maxHeartbeats 1600000 in
theorem rhan_of (x0 x1 x5 : Int) (A : Option Addr) (c : Nat) (l : List UInt8) (hn : Hid (l.length = 6)) (hx : Hid (gL l = x0 ∧ gC l = x1 ∧ gK l = x5)) (w : World) (hr : Rd w A c l) :
    Calls Tryz.prog 102 #[.slice A 6 c] w fun e w' => e = .returned (.agg #[.int .u8 x0, .int .u32 x1, .int .u8 x5]) ∧ Below w.heap.size w w' := by
  have hc1 : (6 : Int) ≤ c := by have := hr.len; have := hn.out; omega
  have hc2 : (c : Int) ≤ 9223372036854775807 := by have := hr.cap; omega
  have hln := hn.out
  obtain ⟨b, o, rfl, hcell⟩ := hr.at_ (by rw [hn.out]; omega)
  have p0 : w.cell? ⟨b, o, none⟩ = some (.int .u8 x0) := by
    have := hcell 0 (by omega)
    rw [← hx.out.1, gL, List.getD_eq_getElem?_getD, List.getElem?_eq_getElem (by omega), Option.getD_some]
    simpa using this
  have p5 : w.cell? ⟨b, o + 5, none⟩ = some (.int .u8 x5) := by
    have := hcell 5 (by omega)
    rw [← hx.out.2.2, gK, List.getD_eq_getElem?_getD, List.getElem?_eq_getElem (by omega), Option.getD_some]
    exact this
  have hz1 := gC_range l
  obtain ⟨L, hL⟩ : ∃ L, (l.drop 1).take 4 = L := ⟨_, rfl⟩
  have HL := hid (show L.length = 4 by rw [← hL, List.length_take, List.length_drop, hln]; omega)
  have HZ := hid (show (vl L : Int) = x1 by rw [← hL]; exact hx.out.2.1)
  have z0 : 0 ≤ x1 := by rw [← hx.out.2.1]; exact hz1.1
  have z1 : x1 < 4294967296 := by rw [← hx.out.2.1]; exact hz1.2
  have hC0 : ∀ j (hj : j < L.length), w.cell? ⟨b, o + (1 + j), none⟩ = some (.int .u8 (L[j].toNat : Int)) := by
    intro j hj
    subst hL
    rw [List.length_take] at hj
    rw [cells_drop hcell 1 (j := j) (by omega)]
    simp
  have HC0 := hid hC0
  clear hx hcell hn hln hr hz1 hL hC0
  go_enter Tryz.func102, Tryz.ntmps102
  go_wp2_with fail
  generalize hW : w.alloc _ = W
  have hbw : Below w.heap.size w W := by subst hW; go_grown
  (have t0 : W.cell? ⟨w.heap.size, 0, none⟩ = some (.int .u8 0) := ((by subst hW; simp [go_sem])); have t1 : W.cell? ⟨w.heap.size, 1, none⟩ = some (.int .u32 0) := ((by subst hW; simp [go_sem])); have t2 : W.cell? ⟨w.heap.size, 2, none⟩ = some (.int .u8 0) := ((by subst hW; simp [go_sem])))
  (have f0 : W.frozen? ⟨w.heap.size, 0, none⟩ = false := ((by subst hW; simp [go_sem])); have f1 : W.frozen? ⟨w.heap.size, 1, none⟩ = false := ((by subst hW; simp [go_sem])); have f2 : W.frozen? ⟨w.heap.size, 2, none⟩ = false := ((by subst hW; simp [go_sem])))
  replace p0 := keep hbw p0
  replace p5 := keep hbw p5
  have HC := hid (fun j hj => keep hbw (HC0.out j hj))
  clear hW HC0
  go_wp2
  go_loop [3, 4] (fun v i => ∃ (j : Nat) (y : Int), j ≤ 4 ∧ i = .int .i64 (((1 + j : Nat) : Nat) : Int) ∧ v = .int .i64 y ∧ Hid ((vl (L.take j) : Int) = y)) (fun _ i => 5 - (intOf i).toNat)
  case atStart => exact ⟨0, 0, by omega, rfl, rfl, hid rfl⟩
  case round =>
    obtain ⟨j, y, hj, rfl, rfl, hy⟩ := hrel
    by_cases hlt : j < 4
    · have h1 := HC.out j (by rw [HL.out]; exact hlt)
      have hs := vl_take (l := L) (j := j) (by rw [HL.out]; exact hlt)
      have hsm := vl_small L (show j ≤ 3 by omega)
      generalize L[j]'(by rw [HL.out]; exact hlt) = d at h1 hs
      have hd := d.toNat_lt
      have hd2 : (d.toNat : Int) ≤ 255 := by omega
      have y0 : 0 ≤ y := by rw [← hy.out]; omega
      have y1 : y < 16777216 := by have := hy.out; simp at hsm; omega
      have HS := hid (show ((vl (L.take (j + 1)) : Nat) : Int) = 256 * y + d.toNat by rw [hs]; have := hy.out; omega)
      have hlt2 : (((1 + j : Nat) : Nat) : Int) < 5 := by omega
      have hlt3 : (((1 + j : Nat) : Nat) : Int) < c := by omega
      clear hs hsm hd
      go_wp2
      go_round
      case rel => exact ⟨j + 1, _, by omega, by go_num, rfl, HS⟩
      case measure => simp [intOf]; omega
    · have ej : L.take j = L := List.take_of_length_le (by have := HL.out; omega)
      have hlt2 : ¬ (((1 + j : Nat) : Nat) : Int) < 5 := by omega
      have hyz : y = x1 := by rw [← hy.out, ej, HZ.out]
      subst hyz
      clear ej hy hj hlt
      go_wp2_with fail
      go_region
      all_goals
        go_wp2
        exact bodyPost_ret (v := .agg #[.int .u8 x0, .int .u32 y, .int .u8 x5]) (by simp [results, Tryz.results102, go_sem, t0, t1, t2]) rfl ⟨rfl, set3 hbw.drew (Nat.le_refl _) _ _ _⟩

set_option maxRecDepth 100000 in
set_option maxHeartbeats 1600000 in
theorem rid9_of (x0 x1 x5 x6 : Int) (A : Option Addr) (c : Nat) (l : List UInt8) (hn : Hid (l.length = 13)) (hx : Hid (gL l = x0 ∧ gC l = x1 ∧ gK l = x5 ∧ gN l = x6)) (w : World) (hr : Rd w A c l) :
    Calls Tryz.prog 103 #[.slice A 13 c] w fun e w' => e = .returned (.agg #[.int .u8 x0, .int .u32 x1, .int .u8 x5, .int .i64 x6]) ∧ Below w.heap.size w w' := by
  have hc1 : (13 : Int) ≤ c := by have := hr.len; have := hn.out; omega
  have hc2 : (c : Int) ≤ 9223372036854775807 := by have := hr.cap; omega
  have hln := hn.out
  obtain ⟨b, o, rfl, hcell⟩ := hr.at_ (by rw [hn.out]; omega)
  have hg := g_take hln
  have HT := hid (show (l.take 6).length = 6 from hg.2.2.2)
  have HG := hid (show gL (l.take 6) = x0 ∧ gC (l.take 6) = x1 ∧ gK (l.take 6) = x5 from ⟨hg.1.trans hx.out.1, hg.2.1.trans hx.out.2.1, hg.2.2.1.trans hx.out.2.2.1⟩)
  have hz1 := gN_range l (by omega)
  obtain ⟨L, hL⟩ : ∃ L, l.drop 6 = L := ⟨_, rfl⟩
  have HL := hid (show L.length = 7 by rw [← hL, List.length_drop, hln])
  have HZ := hid (show (vl L : Int) = x6 by rw [← hL]; exact hx.out.2.2.2)
  have hC0 : ∀ j (hj : j < L.length), w.cell? ⟨b, o + (6 + j), none⟩ = some (.int .u8 (L[j].toNat : Int)) := by
    intro j hj
    subst hL
    exact cells_drop hcell 6 hj
  have HC0 := hid hC0
  have HR0 := hid (hr.take 6)
  have ht := there_new w #[.int .u8 0, .int .u32 0, .int .u8 0, .int .i64 0] 28 4 rfl
  have hi : (Tryz.prog.info? 28).map (·.size) = some 4 := by kernel_rfl
  clear hx hcell hn hln hr hz1 hL hC0 hg
  go_enter Tryz.func103, Tryz.ntmps103
  go_wp2_with fail
  generalize hW : w.alloc _ = W
  rw [hW] at ht
  have hbw : Below w.heap.size w W := by subst hW; go_grown
  have HC := hid (fun j hj => keep hbw (HC0.out j hj))
  have HR := hid (HR0.out.keep hbw)
  clear hW HC0 HR0
  go_wp2
  go_loop [3, 4] (fun v i => ∃ (j : Nat) (y : Int), j ≤ 7 ∧ i = .int .i64 (((6 + j : Nat) : Nat) : Int) ∧ v = .int .i64 y ∧ Hid ((vl (L.take j) : Int) = y)) (fun _ i => 13 - (intOf i).toNat)
  case atStart => exact ⟨0, 0, by omega, rfl, rfl, hid rfl⟩
  case round =>
    obtain ⟨j, y, hj, rfl, rfl, hy⟩ := hrel
    by_cases hlt : j < 7
    · have h1 := HC.out j (by rw [HL.out]; exact hlt)
      have hs := vl_take (l := L) (j := j) (by rw [HL.out]; exact hlt)
      have hsm := vl_small L (show j ≤ 6 by omega)
      generalize L[j]'(by rw [HL.out]; exact hlt) = d at h1 hs
      have hd := d.toNat_lt
      have hd2 : (d.toNat : Int) ≤ 255 := by omega
      have y0 : 0 ≤ y := by rw [← hy.out]; omega
      have y1 : y < 281474976710656 := by have := hy.out; simp at hsm; omega
      have HS := hid (show ((vl (L.take (j + 1)) : Nat) : Int) = 256 * y + d.toNat by rw [hs]; have := hy.out; omega)
      have hlt2 : (((6 + j : Nat) : Nat) : Int) < 13 := by omega
      have hlt3 : (((6 + j : Nat) : Nat) : Int) < c := by omega
      clear hs hsm hd
      go_wp2
      go_round
      case rel => exact ⟨j + 1, _, by omega, by go_num, rfl, HS⟩
      case measure => simp [intOf]; omega
    · have ej : L.take j = L := List.take_of_length_le (by have := HL.out; omega)
      have hlt2 : ¬ (((6 + j : Nat) : Nat) : Int) < 13 := by omega
      have hyz : y = x6 := by rw [← hy.out, ej, HZ.out]
      subst hyz
      clear ej hy hj hlt
      go_wp2_with fail
      refine (rhan_of x0 x1 x5 (some ⟨b, o, none⟩) c (l.take 6) HT HG _ HR.out).mono ?_
      rintro e w1 ⟨rfl, b1⟩
      have ht1 := there_keep ht b1
      have hb1 := below_in hbw b1
      go_wp2_with (refine wpList_store_n rfl 28 _ Tryz.underlying28 rfl [.int .u8 x0, .int .u32 x1, .int .u8 x5, .int .i64 y] hi (.tmp 2) (.tmp 21) rfl w.heap.size rfl rfl (by simp [Value.oneCell']) ht1 w.heap.size (Nat.le_refl _) ?_; intro w4 r4 _ b4 h4 z4; have u0 : w4.cell? ⟨w.heap.size, 0, none⟩ = _ := r4 0 _ rfl; have u1 : w4.cell? ⟨w.heap.size, 1, none⟩ = _ := r4 1 _ rfl; have u2 : w4.cell? ⟨w.heap.size, 2, none⟩ = _ := r4 2 _ rfl; have u3 : w4.cell? ⟨w.heap.size, 3, none⟩ = _ := r4 3 _ rfl)
      exact bodyPost_ret (v := .agg #[.int .u8 x0, .int .u32 x1, .int .u8 x5, .int .i64 y]) (by simp [results, Tryz.results103, go_sem, u0, u1, u2, u3]) rfl ⟨rfl, hb1.trans b4⟩
end Go.Proofs.YtndmblhkmgnpcaaGreat

namespace Go.Proofs.YtndmblhkmgnpcaaGreat
open Go.RowKit
set_option linter.unusedVariables false
set_option linter.unusedSimpArgs false

def refHead (b : List UInt8) : Opd :=
  { kd := (vl (b.take 1) : Int)
    l := gL ((b.drop 1).take 6), c := gC ((b.drop 1).take 6), k := gK ((b.drop 1).take 6)
    s := (vl ((b.drop 7).take 3) : Int)
    fl := gL ((b.drop 10).take 13), fc := gC ((b.drop 10).take 13), fk := gK ((b.drop 10).take 13), fn := gN ((b.drop 10).take 13)
    fm := (vl ((b.drop 23).take 1) : Int)
    al := 0, ac := 0, ak := 0, an := 0, tl := 0, tc := 0, row := [] }
/-- What the bytes of an operation are like: its head, its tail. -/
structure Cuts (b : List UInt8) (o : Opd) : Prop where
  head : refHead b = { o with al := 0, ac := 0, ak := 0, an := 0, tl := 0, tc := 0, row := [] }
  len : (opb o).length ≤ b.length
  sz : szO o.kd o.fm = ((opb o).length : Int)
  ne : szO o.kd o.fm ≠ 0
  tak : b.take (opb o).length = opb o
  aft : o.kd = 1 → gL ((b.drop 24).take 13) = o.al ∧ gC ((b.drop 24).take 13) = o.ac ∧ gK ((b.drop 24).take 13) = o.ak ∧ gN ((b.drop 24).take 13) = o.an
  row : o.kd = 1 → ((b.drop 37).take (4 * o.fm.toNat)) = wide o.row ∧ chk o.row = 0 ∧ o.tl = 0 ∧ o.tc = 0
  non : o.kd = 2 → o = refHead b
  lab : o.kd = 3 → (vl ((b.drop 24).take 1) : Int) = o.tl ∧ (vl ((b.drop 25).take 4) : Int) = o.tc ∧ o = { refHead b with tl := o.tl, tc := o.tc }
  ins : o.kd = 1 → o = { refHead b with al := o.al, ac := o.ac, ak := o.ak, an := o.an, row := o.row }
theorem cuts {b : List UInt8} {o : Opd} (h : Begins b o) : Cuts b o := by
  obtain ⟨r, hm, t, rfl⟩ := h
  have m := maid hm
  have e0 : opb o ++ t = nB 1 o.kd ++ (hB o.l o.c o.k ++ (nB 3 o.s ++ (iB o.fl o.fc o.fk o.fn ++ (nB 1 o.fm ++ (tailO o ++ t))))) := by simp [opb, headO]
  have p0 : (opb o ++ t).take 1 = nB 1 o.kd := by rw [e0]; exact List.take_left' (nB_length _ _)
  have p1 : ((opb o ++ t).drop 1).take 6 = hB o.l o.c o.k := by rw [e0]; exact mid _ _ _ (nB_length _ _) (hB_length _ _ _)
  have p2 : ((opb o ++ t).drop 7).take 3 = nB 3 o.s := by
    rw [e0, ← List.append_assoc]; exact mid _ _ _ (by simp [nB_length, hB_length]) (nB_length _ _)
  have p3 : ((opb o ++ t).drop 10).take 13 = iB o.fl o.fc o.fk o.fn := by
    rw [e0, ← List.append_assoc, ← List.append_assoc]; exact mid _ _ _ (by simp [nB_length, hB_length]) (iB_length _ _ _ _)
  have p4 : ((opb o ++ t).drop 23).take 1 = nB 1 o.fm := by
    rw [e0, ← List.append_assoc, ← List.append_assoc, ← List.append_assoc]; exact mid _ _ _ (by simp [nB_length, hB_length, iB_length]) (nB_length _ _)
  have p5 : (opb o ++ t).drop 24 = tailO o ++ t := by
    rw [opb, List.append_assoc]; exact List.drop_left' (headO_length o)
  have p6 : (opb o ++ t).drop 37 = (tailO o ++ t).drop 13 := by rw [← p5, List.drop_drop]
  have p7 : (opb o ++ t).drop 25 = (tailO o ++ t).drop 1 := by rw [← p5, List.drop_drop]
  have k0 := r.k0
  have k1 := r.k1
  have m1 := m.m1
  have m2 := m.m2
  have s1 := m.s1
  have s2 := m.s2
  have hfn := mayI_n (mayS_I m.hs)
  have q0 : ((vl (nB 1 o.kd) : Nat) : Int) = o.kd := vl_nB k0 (by simp; omega)
  have q2 : ((vl (nB 3 o.s) : Nat) : Int) = o.s := vl_nB (by omega) (by simp; omega)
  have q4 : ((vl (nB 1 o.fm) : Nat) : Int) = o.fm := vl_nB (by omega) (by simp; omega)
  obtain ⟨a1, a2, a3⟩ := gH_parts r.han
  obtain ⟨b1, b2, b3, b4⟩ := gI_parts (n := o.fn) r.spn.idn.han (by omega) (by omega)
  have hsz := opb_length hm
  have hH : refHead (opb o ++ t) = { o with al := 0, ac := 0, ak := 0, an := 0, tl := 0, tc := 0, row := [] } := by
    simp only [refHead, p0, p1, p2, p3, p4, q0, q2, q4, a1, a2, a3, b1, b2, b3, b4]
  refine ⟨hH, by rw [List.length_append]; omega, hsz.1.symm, hsz.2.2.2, List.take_left' rfl, ?_, ?_, ?_, ?_, ?_⟩
  · intro hk
    rw [p5, tailO, if_pos hk, List.append_assoc, List.take_left' (iB_length _ _ _ _)]
    rcases Bool.or_eq_true _ _ |>.mp (m.ins hk).1 with hz | hz
    · obtain ⟨z1, z2, z3, z4⟩ := sameI_zero hz
      rw [z1, z2, z3, z4]
      decide
    · have hn := mayI_n hz
      exact gI_parts (n := o.an) r.aft.han (by omega) (by omega)
  · intro hk
    obtain ⟨i1, i2, i3, i4, i5⟩ := m.ins hk
    rw [p6, tailO, if_pos hk, List.append_assoc]
    exact ⟨mid _ _ _ (iB_length _ _ _ _) (by rw [wide_length]; omega), i3, i4, i5⟩
  · intro hk
    have i1 := m.oth (by omega)
    have i2 := m.del hk
    rw [hH]
    obtain ⟨⟨j1, j2, j3, j4⟩, j5⟩ := i1
    obtain ⟨j6, j7⟩ := i2
    cases o
    simp only at j1 j2 j3 j4 j5 j6 j7
    subst j1 j2 j3 j4 j5 j6 j7
    rfl
  · intro hk
    obtain ⟨l0, l1, c0, c1⟩ := r.lab
    have hT : tailO o = nB 1 o.tl ++ nB 4 o.tc := by rw [tailO, if_neg (by omega), if_pos hk]
    rw [p5, p7, hT, List.append_assoc, List.take_left' (nB_length _ _), mid _ _ _ (nB_length _ _) (nB_length _ _)]
    refine ⟨vl_nB l0 (by simp; omega), vl_nB c0 (by simp; omega), ?_⟩
    obtain ⟨⟨j1, j2, j3, j4⟩, j5⟩ := m.oth (by omega)
    rw [hH]
    cases o
    simp only at j1 j2 j3 j4 j5
    subst j1 j2 j3 j4 j5
    rfl
  · intro hk
    obtain ⟨i1, i2, i3, i4, i5⟩ := m.ins hk
    rw [hH]
    cases o
    simp only at i4 i5
    subst i4 i5
    rfl
end Go.Proofs.YtndmblhkmgnpcaaGreat

namespace Go.Proofs.YtndmblhkmgnpcaaGreat
open Go.RowKit
set_option linter.unusedVariables false
set_option linter.unusedSimpArgs false

/-- What begins is of the one kind and number that the head tells. -/
def One (l : List UInt8) (H : Opd) (v : Int) (n : Nat) : Prop := ∀ o', Begins l o' → o'.kd = H.kd ∧ o'.fm = H.fm ∧ v = ((opb o').length : Int) ∧ v ≠ 0 ∧ ((opb o').length : Int) ≤ n
theorem one2 {l : List UInt8} {H : Opd} (hH : refHead l = H) (hk : ∀ o', Begins l o' → o'.kd = 2) : ∀ o', Begins l o' → o' = H := fun o' h => by
  rw [← hH]; exact (cuts h).non (hk o' h)
theorem one3 {l : List UInt8} {H : Opd} (hH : refHead l = H) (hk : ∀ o', Begins l o' → o'.kd = 3) {x y : Int} (hx : (vl ((l.drop 24).take 1) : Int) = x) (hy : (vl ((l.drop 25).take 4) : Int) = y) : ∀ o', Begins l o' → o' = { H with tl := x, tc := y } := fun o' h => by
  obtain ⟨h1, h2, h3⟩ := (cuts h).lab (hk o' h)
  rw [h3, ← h1, ← h2, hx, hy, hH]
theorem one1 {l : List UInt8} {H : Opd} (hH : refHead l = H) (hk : ∀ o', Begins l o' → o'.kd = 1) {m : Nat} (hm : 4 * H.fm.toNat = m) {x0 x1 x2 x3 : Int} (ha : gL ((l.drop 24).take 13) = x0 ∧ gC ((l.drop 24).take 13) = x1 ∧ gK ((l.drop 24).take 13) = x2 ∧ gN ((l.drop 24).take 13) = x3)
    {r : List Int} {j : Int} (hr : getV ((l.drop 37).take m) = r ∧ getE ((l.drop 37).take m) = j) : ∀ o', Begins l o' → j = 0 ∧ o' = { H with al := x0, ac := x1, ak := x2, an := x3, row := r } := fun o' h => by
  have k := cuts h
  obtain ⟨a1, a2, a3, a4⟩ := k.aft (hk o' h)
  obtain ⟨r1, r2, _, _⟩ := k.row (hk o' h)
  have e := k.ins (hk o' h)
  have hf : o'.fm = H.fm := by rw [← hH]; exact (congrArg Opd.fm k.head).symm
  rw [hf, hm] at r1
  have g := get_put r2
  have e2 : putV o'.row = wide o'.row := by simp [putV, r2]
  rw [e2, ← r1, hr.1, hr.2] at g
  refine ⟨g.1, ?_⟩
  rw [e, ← a1, ← a2, ← a3, ← a4, ha.1, ha.2.1, ha.2.2.1, ha.2.2.2, ← g.2.1, hH]
theorem five_bytes {l : List UInt8} (h : 29 ≤ l.length) : ((l.drop 24).take 5 ++ [0]).length = 6 ∧ gL ((l.drop 24).take 5 ++ [0]) = (vl ((l.drop 24).take 1) : Int) ∧ gC ((l.drop 24).take 5 ++ [0]) = (vl ((l.drop 25).take 4) : Int) ∧ gK ((l.drop 24).take 5 ++ [0]) = 0 := by
  have e : l.drop 25 = (l.drop 24).drop 1 := by rw [List.drop_drop]
  rw [e]
  have hl : 5 ≤ (l.drop 24).length := by rw [List.length_drop]; omega
  generalize l.drop 24 = q at hl
  match q, hl with
  | b0 :: b1 :: b2 :: b3 :: b4 :: r, hl => exact ⟨rfl, by simp [gL, vl], by simp [gC, vl], rfl⟩
theorem lab_r {l : List UInt8} : Lab ((vl ((l.drop 24).take 1) : Nat) : Int) ((vl ((l.drop 25).take 4) : Nat) : Int) := by
  have a := vl_r (l.drop 24) 1 (by omega)
  have c := vl_r (l.drop 25) 4 (by omega)
  simp only [Int.reducePow] at a c
  exact ⟨a.1, by omega, c.1, by omega⟩
theorem szO_cases {kd m v : Int} (h : szO kd m = v) (hv : v ≠ 0) : (1 ≤ m ∧ m ≤ 64) ∧ ((kd = 1 ∧ v = 37 + 4 * m) ∨ (kd = 2 ∧ v = 24) ∨ (kd = 3 ∧ v = 29)) := by
  unfold szO at h
  split at h
  · rename_i hm
    refine ⟨hm, ?_⟩
    split at h
    · rename_i hk; exact .inl ⟨hk, h.symm⟩
    · split at h
      · rename_i hk; exact .inr (.inl ⟨hk, h.symm⟩)
      · split at h
        · rename_i hk; exact .inr (.inr ⟨hk, h.symm⟩)
        · exact absurd h.symm hv
  · exact absurd h.symm hv
theorem getV_r (l : List UInt8) : In32 (getV l) := by
  by_cases h : getE l = 0
  · exact fun x hx => ok_range (chk_zero.1 (put_get h).1).2 x hx
  · have : getV l = [] := by
      by_cases h1 : 256 < l.length
      · exact (getE_many h1).2
      · by_cases h2 : l.length % 4 = 0 ∧ (rows l).all okN = true
        · exact absurd (getE_ok h1 h2.1 h2.2).1 h
        · exact (getE_bad h1 h2).2
    rw [this]
    exact In32.nil
theorem refget_of (r : List Int) (k : Nat) (j : Int) (A : Option Addr) (n c : Nat) (l : List UInt8) (hn : Hid (l.length = n)) (hx : Hid (getV l = r ∧ r.length = k ∧ getE l = j)) (w : World) (hr : Rd w A c l) :
    Calls Tryz.prog 104 #[.slice A n c] w fun e w' => ∃ A' c', e = .returned (.tuple #[.slice A' k c', .int .i64 j]) ∧ Ri w' A' c' r ∧ Below w.heap.size w w' := by
  obtain ⟨rfl, rfl, rfl⟩ := hx.out
  exact refget_any A n c l hn w hr
theorem field_lab (w : World) (l c k : Int) : (Instr.field 26 (.agg #[.int .u8 l, .int .u32 c, .int .u8 k]) 0).run Tryz.prog w = .ok (.agg #[.int .u8 l, .int .u32 c]) w := by
  simp [Instr.field, part, asAgg, go_sem]
/-- A row stays where a slice is written over a slice. -/
theorem ri_set {w : World} {A : Option Addr} {c : Nat} {r : List Int} (h : Ri w A c r) {g k : Nat} {B : Option Addr} {n d : Nat} (hg : w.cell? ⟨g, k, none⟩ = some (.slice B n d)) (v : Value) : Ri (w.setCell ⟨g, k, none⟩ v) A c r :=
  ⟨⟨h.1.1, h.1.2.1, fun hl => by
    obtain ⟨b', o', hA, hc⟩ := h.1.2.2 hl
    refine ⟨b', o', hA, fun j hj => ?_⟩
    have h1 := hc j hj
    by_cases hb : b' = g
    · subst hb
      by_cases ho : o' + j = k
      · subst ho
        rw [hg] at h1
        simp [i32s] at h1
      · rw [← h1]
        exact World.cell?_setCell_other _ _ _ _ (fun e => ho (by injection e with _ e2; exact e2.symm))
    · rw [World.cell?_of_block (w := w) (a := ⟨b', o' + j, none⟩) (Below.heap_setCell _ _ _ _ hb)]
      exact h1⟩, h.2⟩
theorem not_i32 {W : World} {b k : Nat} {x : Int} (h : BoxO W b zO none 0 0) (hk : k < 17) (hc : W.cell? ⟨b, k, none⟩ = some (.int .i32 x)) : False := by
  match k, hk, hc with
  | 0, _, hc => rw [h.c0] at hc; cases hc
  | 1, _, hc => rw [h.c1] at hc; cases hc
  | 2, _, hc => rw [h.c2] at hc; cases hc
  | 3, _, hc => rw [h.c3] at hc; cases hc
  | 4, _, hc => rw [h.c4] at hc; cases hc
  | 5, _, hc => rw [h.c5] at hc; cases hc
  | 6, _, hc => rw [h.c6] at hc; cases hc
  | 7, _, hc => rw [h.c7] at hc; cases hc
  | 8, _, hc => rw [h.c8] at hc; cases hc
  | 9, _, hc => rw [h.c9] at hc; cases hc
  | 10, _, hc => rw [h.c10] at hc; cases hc
  | 11, _, hc => rw [h.c11] at hc; cases hc
  | 12, _, hc => rw [h.c12] at hc; cases hc
  | 13, _, hc => rw [h.c13] at hc; cases hc
  | 14, _, hc => rw [h.c14] at hc; cases hc
  | 15, _, hc => rw [h.c15] at hc; cases hc
  | 16, _, hc => rw [h.c16] at hc; cases hc
  | k + 17, hk, _ => omega
/-- A row stays where an operation is written over a box of an operation. -/
theorem ri_res {w : World} {A : Option Addr} {c : Nat} {r : List Int} (h : Ri w A c r) {b : Nat} (hb : BoxO w b zO none 0 0) (vs : List Value) (hv : vs.length = 17) : Ri (w.setCells b 0 vs) A c r :=
  ⟨⟨h.1.1, h.1.2.1, fun hl => by
    obtain ⟨b', o', hA, hc⟩ := h.1.2.2 hl
    refine ⟨b', o', hA, fun j hj => ?_⟩
    have h1 := hc j hj
    by_cases he : b' = b
    · subst he
      by_cases ho : o' + j < 17
      · have h2 : (i32s r)[j] = .int .i32 (r[j]'(by simpa [i32s] using hj)) := by simp [i32s]
        rw [h2] at h1
        exact (not_i32 hb ho h1).elim
      · exact cell_out h1 (.inr (by omega))
    · rw [World.cell?_of_block (w := w) (a := ⟨b', o' + j, none⟩) (heap_setCells b vs 0 w b' he)]
      exact h1⟩, h.2⟩
/-- The result's box, as it was made. -/
structure Res9 (w0 W : World) : Prop where
  th : ThereO W w0.heap.size
  bz : BoxO W w0.heap.size zO none 0 0
theorem Res9.keep {w0 W W' : World} (h : Res9 w0 W) (hb : Below W.heap.size W W') : Res9 w0 W' := ⟨h.th.keep hb, h.bz.keep hb⟩
theorem Res9.sets {w0 W : World} (h : Res9 w0 W) {g : Nat} (hg : w0.heap.size ≠ g) (off : Nat) (vs : List Value) : Res9 w0 (W.setCells g off vs) := ⟨h.th.sets2 hg off vs, h.bz.other (fun k hk => heap_setCells g vs off W k hk) hg⟩
/-- The box that the first three ways end with: what it holds is the one operation that may begin there. -/
structure Fin9 (w0 w : World) (g : Nat) (l : List UInt8) (O : Opd) (A : Option Addr) (k c : Nat) : Prop where
  bx : BoxO w g O A k c
  len : O.row.length = k
  ri : Ri w A c O.row
  r : Opr O
  one : ∀ o', Begins l o' → o' = O
  be : Below w0.heap.size w0 w
  th : Res9 w0 w
  lt : w0.heap.size < g
theorem Fin9.keep {w0 w w' : World} {g : Nat} {l : List UInt8} {O : Opd} {A : Option Addr} {k c : Nat} (h : Fin9 w0 w g l O A k c) (hb : Below w.heap.size w w') : Fin9 w0 w' g l O A k c :=
  ⟨h.bx.keep hb, h.len, h.ri.keep hb, h.r, h.one, below_in h.be hb, h.th.keep hb, h.lt⟩
/-- The box behind the head. -/
def Head9 (X w : World) (O : Opd) (s : Value) : Prop := ∃ g, s = .pointer (some ⟨g, 0, none⟩) ∧ BoxO w g O none 0 0 ∧ ThereO w g ∧ X.heap.size ≤ g ∧ Below X.heap.size X w
end Go.Proofs.YtndmblhkmgnpcaaGreat
