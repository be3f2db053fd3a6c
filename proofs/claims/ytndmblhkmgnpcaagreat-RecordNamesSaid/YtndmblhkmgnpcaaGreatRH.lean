/-
  The program's Get.
-/
import Derived.Test.YtndmblhkmgnpcaaGreatRA
import Derived.Laws.OwnMore
import Derived.Lib.SliceRun
import Derived.RangeFuncNested
import Derived.RangeFuncBound
import Derived.RangeFuncCalls
import Derived.RangeFuncLeaves
import Derived.RangeFuncBox
import Derived.Shelf.Abstract
import Derived.Shelf.RegionOpen
import Derived.WalkKit
import Derived.OwnWalkIn
import Derived.TacticsInMore
import Derived.LoopNIn
import Derived.LoopIn
import Derived.Laws.MakeOwn
import Derived.Maps.AppendAt
namespace Go.Proofs.YtndmblhkmgnpcaaGreat
open Go.RowKit
set_option linter.unusedVariables false

theorem OwnI.own_at {w : World} {base : Nat} {e : TypeId} {A : Option Addr} {c : Nat} {l : List Int} (h : OwnI w base e A c l) (hp : 0 < l.length) :
    ∃ g, A = some ⟨g, 0, none⟩ ∧ base ≤ g ∧ (∀ j (h : j < l.length), w.cell? ⟨g, j, none⟩ = some (.int .i32 l[j])) ∧ (∀ j, w.frozen? ⟨g, j, none⟩ = false) ∧
      (∀ j x, -2147483648 ≤ x → x ≤ 2147483647 → OwnI (w.setCell ⟨g, j, none⟩ (.int .i32 x)) base e A c (l.set j x)) := by
  obtain ⟨b, o, hA, hc⟩ := h.ri.at_ hp
  have h1 := h.1
  rcases h1.2 with ⟨hv, hn⟩ | ⟨g, cap, cur, hv, hbg, hg, hnc, hcm, hcs, htk⟩
  · rw [i32s_length] at hn; omega
  · injection hv with e1 e2 e3
    subst e1
    injection hA with hA
    injection hA with hb ho
    subst hb ho
    refine ⟨g, rfl, hbg, fun j hj => by have := hc j hj; rwa [Nat.zero_add] at this, fun j => frozen_of_row w g j cur e hg, fun j x x0 x1 => ⟨?_, ?_⟩⟩
    · have hs := (World.ownsRow.stored (show w.ownsRow base e 1 (.slice (some ⟨g, 0, none⟩) (i32s l).length c) (i32s l).length (i32s l) from h1) j (.int .i32 x)).1
      have e2 : (i32s l).set j (.int .i32 x) = i32s (l.set j x) := by simp [i32s, List.map_set]
      unfold OwnV
      rw [← e2, List.length_set]
      exact hs
    · intro y hy
      rcases List.mem_or_eq_of_mem_set hy with hy | rfl
      · exact h.2 y hy
      · exact ⟨x0, x1⟩

/-- The call hands back a row of its own. -/
def RetOwn (w : World) (l : List Int) (n : Nat) (e : Ending) (w' : World) : Prop := ∃ A c, e = .returned (.slice A n c) ∧ OwnI w' w.heap.size 21 A c l ∧ Below w.heap.size w w'

set_option maxHeartbeats 400000 in
theorem clone_any (A : Option Addr) (n c : Nat) (l : List Int) (hn : Hid (l.length = n)) (h5 : n ≤ 10000) (w : World) (hr : Ri w A c l) :
    Calls Tryz.prog 74 #[.slice A n c] w (RetOwn w l n) := by
  obtain ⟨i0, hi0, hz0, hz1, hz2⟩ := info_parts info_i32
  match A with
  | none =>
    have hl := hr.none
    have e := hn.out
    subst hl
    have HN := hid e
    clear hr hn e
    go_enter Tryz.func74, Tryz.ntmps74
    have hq := Lib.run_eql_slice_nil (P := Tryz.prog) w 31 21 none n c 0 0 Tryz.underlying31
    go_wp2
    go_ret
    exact ⟨none, 0, by rw [← HN.out]; rfl, OwnI.nil _ _ _, Below.refl _ _⟩
  | some a =>
    have HR := hid hr
    have hq := Lib.run_eql_slice_nil (P := Tryz.prog) w 31 21 (some a) n c 0 0 Tryz.underlying31
    clear hr
    go_enter Tryz.func74, Tryz.ntmps74
    go_wp2_with (at_builtin; refine wpList_append_i rfl (.tmp 5) (.tmp 6) _ rfl w.heap.size 21 Tryz.underlying31 hi0 hz0 hz1 hz2 (some ⟨w.heap.size, 0, none⟩) 0 0 [] (hid rfl) rfl (OwnI.lit w 21 [] In32.nil (Nat.le_refl _) (by simp)) (some a) n c l hn rfl (HR.out.alloc _) (by omega) (by simp) ?_; intro A' c' w1 hown hb)
    go_ret
    exact ⟨A', c', by simp, hown, ((Below.refl _ _).alloc (Nat.le_refl _) _).trans hb⟩

/-- .. and it is the call's own still. -/
def RetRowOwn (w : World) (l : List Int) (z : Int) (e : Ending) (w' : World) : Prop := ∃ A c, e = .returned (.tuple #[.slice A l.length c, .int .i64 z]) ∧ OwnI w' w.heap.size 21 A c l ∧ Below w.heap.size w w'
theorem ret_own {w w' : World} {A : Option Addr} {n c : Nat} {q l : List Int} {y z : Int} (h : Hid (q = l ∧ y = z ∧ q.length = n)) (hr : OwnI w' w.heap.size 21 A c q) (hb : Below w.heap.size w w') : RetRowOwn w l z (.returned (.tuple #[.slice A n c, .int .i64 y])) w' := by
  obtain ⟨rfl, rfl, rfl⟩ := h.out
  exact ⟨A, c, rfl, hr, hb⟩
theorem ret_own_nil {w w' : World} {l : List Int} {y z : Int} (h : Hid (y = z ∧ l = [])) (hb : Below w.heap.size w w') : RetRowOwn w l z (.returned (.tuple #[.slice none 0 0, .int .i64 y])) w' :=
  ret_own (q := []) (hid ⟨h.out.2.symm, h.out.1, rfl⟩) (OwnI.nil _ _ _) hb
end Go.Proofs.YtndmblhkmgnpcaaGreat

namespace Go.Proofs.YtndmblhkmgnpcaaGreat
open Go.RowKit
set_option linter.unusedVariables false

theorem wrap_i32 {n : Int} (h0 : 0 ≤ n) (h1 : n ≤ 1114111) : IntKind.i32.wrap n = n := by
  rw [IntKind.wrap_i32]
  omega
theorem rows_at : ∀ (l : List UInt8) (j : Nat) (h : 4 * j + 3 < l.length), (rows l)[j]? = some (val4 (l[4 * j]'(by omega)) (l[4 * j + 1]'(by omega)) (l[4 * j + 2]'(by omega)) (l[4 * j + 3]'h))
  | [], _, h => by simp at h
  | [_], _, h => by simp at h
  | [_, _], _, h => by simp at h; omega
  | [_, _, _], _, h => by simp at h; omega
  | a :: b :: c :: d :: t, 0, h => rfl
  | a :: b :: c :: d :: t, j + 1, h => by
    have := rows_at t j (by simp at h; omega)
    simp only [rows, List.getElem?_cons_succ, this]
    rfl
theorem rows_take {l : List UInt8} {j q : Nat} (hq : q = 4 * j) (h : q + 3 < l.length) : (rows l).take (j + 1) = (rows l).take j ++ [val4 (l[q]'(by omega)) (l[q + 1]'(by omega)) (l[q + 2]'(by omega)) (l[q + 3]'h)] := by
  subst hq
  have h1 := rows_at l j h
  obtain ⟨hj, h2⟩ := List.getElem?_eq_some_iff.1 h1
  rw [List.take_succ_eq_append_getElem hj, h2]
theorem rows_at' {l : List UInt8} {j q : Nat} (hq : q = 4 * j) (h : q + 3 < l.length) : (rows l)[j]? = some (val4 (l[q]'(by omega)) (l[q + 1]'(by omega)) (l[q + 2]'(by omega)) (l[q + 3]'h)) := by
  subst hq
  exact rows_at l j h
theorem all_not {l : List Int} {j : Nat} {x : Int} (h : l[j]? = some x) (hx : okN x = false) : l.all okN = false := by
  rw [Bool.eq_false_iff]
  intro ha
  have := List.all_eq_true.1 ha x (List.mem_of_getElem? h)
  rw [hx] at this
  cases this
theorem all_snoc {l : List Int} {x : Int} (h : l.all okN = true) (hx : okN x = true) : (l ++ [x]).all okN = true := by simp [h, hx]
theorem sgn_low {u : Int} (h : u ≤ 1114111) : sgn u = u := by rw [sgn, if_pos (by omega)]
theorem okN_not {u : Int} (h0 : 0 ≤ u) (h1 : u ≤ 4294967295) (h2 : u ≠ 4294967295) (h3 : isR u = false) : okN (sgn u) = false := by
  have h3' : ¬ (0 ≤ u ∧ u ≤ 1114111 ∧ (u < 55296 ∨ 57343 < u)) := by rw [← isR_iff, h3]; simp
  rw [Bool.eq_false_iff]
  intro h
  have := (okN_iff _).1 h
  unfold sgn at this
  split at this <;> omega

set_option maxRecDepth 100000 in
set_option maxHeartbeats 2000000 in
theorem refget_any (A : Option Addr) (n c : Nat) (l : List UInt8) (hn : Hid (l.length = n)) (w : World) (hr : Rd w A c l) :
    Calls Tryz.prog 104 #[.slice A n c] w (RetRow w (getV l) (getE l)) := by
  obtain ⟨i0, hi0, hz0, hz1, hz2⟩ := info_parts info_i32
  by_cases h256 : 256 < n
  · have H := hid (getE_many (l := l) (by rw [hn.out]; exact h256))
    have h256' : 256 < (n : Int) := by omega
    go_enter Tryz.func104, Tryz.ntmps104
    go_wp2
    go_ret2
    exact ret_row_nil (hid ⟨H.out.1.symm, H.out.2⟩) (Below.refl _ _)
  · have HN := hid (show ¬ 256 < l.length by rw [hn.out]; exact h256)
    have h256' : ¬ 256 < (n : Int) := by omega
    have h256n : n ≤ 256 := by omega
    have hc2 : (c : Int) ≤ 9223372036854775807 := by have := hr.cap; omega
    have hc1 : (n : Int) ≤ c := by have := hr.len; have := hn.out; omega
    have HR := hid hr
    clear h256 hr
    go_enter Tryz.func104, Tryz.ntmps104
    go_wp2
    go_loopw [4, 5, 6] (fun v i x wr => ∃ (j q : Nat) (E : Option Addr) (f : Nat), j ≤ 64 ∧ Hid (q = 4 * j ∧ q ≤ n) ∧ q ≤ 256 ∧ i = .int .i64 (q : Int) ∧ v = .slice E j f ∧ Hid (((rows l).take j).length = j ∧ ((rows l).take j).all okN = true) ∧ OwnI wr w.heap.size 21 E f ((rows l).take j) ∧ Below w.heap.size w wr) (fun _ i _ _ => n - (intOf i).toNat)
    case atStart => exact ⟨0, 0, none, 0, by omega, hid ⟨rfl, by omega⟩, by omega, rfl, rfl, hid ⟨rfl, rfl⟩, OwnI.nil _ _ _, Below.refl _ _⟩
    case round =>
      obtain ⟨j, q, E, f, hj, hq, hq256, rfl, rfl, hw, hown, hb⟩ := hrel
      by_cases hlt : q + 3 < n
      · have hl := hn.out
        have hj1 : (rows l)[j]? = some (val4 (l[q]'(by omega)) (l[q + 1]'(by omega)) (l[q + 2]'(by omega)) (l[q + 3]'(by omega))) := rows_at' hq.out.1 (by omega)
        have hs := rows_take (l := l) hq.out.1 (by omega)
        obtain ⟨b, o, rfl, hcell⟩ := HR.out.at_ (by omega)
        have h1 := Past.all (keep hb (hcell q (by omega)))
        have h2 := Past.all (keep hb (hcell (q + 1) (by omega)))
        have h3 := Past.all (keep hb (hcell (q + 2) (by omega)))
        have h4 := Past.all (keep hb (hcell (q + 3) (by omega)))
        have hlt2 : (q : Int) + 3 < (n : Int) := by omega
        generalize l[q]'(by omega) = y0 at h1 hs hj1
        generalize l[q + 1]'(by omega) = y1 at h2 hs hj1
        generalize l[q + 2]'(by omega) = y2 at h3 hs hj1
        generalize l[q + 3]'(by omega) = y3 at h4 hs hj1
        have b0 := y0.toNat_lt
        have b1 := y1.toNat_lt
        have b2 := y2.toNat_lt
        have b3 := y3.toNat_lt
        have hv : val4 y0 y1 y2 y3 = sgn (16777216 * (y0.toNat : Int) + 65536 * (y1.toNat : Int) + 256 * (y2.toNat : Int) + (y3.toNat : Int)) := rfl
        generalize val4 y0 y1 y2 y3 = y at hs hj1 hv
        obtain ⟨x0, hx0⟩ : ∃ x0 : Int, (y0.toNat : Int) = x0 := ⟨_, rfl⟩
        obtain ⟨x1, hx1⟩ : ∃ x1 : Int, (y1.toNat : Int) = x1 := ⟨_, rfl⟩
        obtain ⟨x2, hx2⟩ : ∃ x2 : Int, (y2.toNat : Int) = x2 := ⟨_, rfl⟩
        obtain ⟨x3, hx3⟩ : ∃ x3 : Int, (y3.toNat : Int) = x3 := ⟨_, rfl⟩
        have a0 : 0 ≤ x0 ∧ x0 ≤ 255 := by omega
        have a1 : 0 ≤ x1 ∧ x1 ≤ 255 := by omega
        have a2 : 0 ≤ x2 ∧ x2 ≤ 255 := by omega
        have a3 : 0 ≤ x3 ∧ x3 ≤ 255 := by omega
        obtain ⟨a00, a01⟩ := a0
        obtain ⟨a10, a11⟩ := a1
        obtain ⟨a20, a21⟩ := a2
        obtain ⟨a30, a31⟩ := a3
        rw [hx0] at h1 hv
        rw [hx1] at h2 hv
        rw [hx2] at h3 hv
        rw [hx3] at h4 hv
        have HV := hid hv
        have HS := hid hs
        have HJ := hid hj1
        clear hcell hl hv hs hj1 hx0 hx1 hx2 hx3 b0 b1 b2 b3
        go_wp2_with fail
        refine wp_region_past (by kernel_rfl) (by kernel_rfl) ?_
        repeat (go_big_quiet_step (fail))
        refine wpQuiet_nil ?_
        rintro w7 ⟨⟨_, hx⟩, rfl⟩
        have hb7 : Below w.heap.size w w7 := hb.trans (hx.mono hb.size)
        have hown7 := hown.keep hx
        have hu0 : 0 ≤ 16777216 * x0 + 65536 * x1 + 256 * x2 + x3 := by omega
        have hu1 : 16777216 * x0 + 65536 * x1 + 256 * x2 + x3 ≤ 4294967295 := by omega
        generalize 16777216 * x0 + 65536 * x1 + 256 * x2 + x3 = u at HV hu0 hu1 ⊢
        have HQ := hid (show q + 4 = 4 * (j + 1) ∧ q + 4 ≤ n by have := hq.out.1; omega)
        have hj64 : j + 1 ≤ 64 := by have := hq.out.1; omega
        clear h1 h2 h3 h4 hown hb hx
        by_cases hu : u = 4294967295
        · subst hu
          have hy : y = -1 := HV.out
          have HT := hid (show (rows l).take (j + 1) = (rows l).take j ++ [-1] by rw [HS.out, hy])
          have HW := hid (show ((rows l).take (j + 1)).length = j + 1 ∧ ((rows l).take (j + 1)).all okN = true from ⟨by rw [HT.out, List.length_append, hw.out.1]; rfl, by rw [HT.out]; exact all_snoc hw.out.2 rfl⟩)
          have HL := hid hw.out.1
          clear hy
          go_wp2_with (at_builtin; refine wpList_append_i rfl (.tmp 48) (.tmp 49) _ rfl w.heap.size 21 Tryz.underlying31 hi0 hz0 hz1 hz2 E j f ((rows l).take j) HL rfl (hown7.keep ((Below.refl _ _).alloc (Nat.le_refl _) _)) (some ⟨w7.heap.size, 0, none⟩) 1 1 [-1] (hid rfl) rfl (lit_i1 w7 21 (-1) (by omega) (by omega)) (by omega) (Nat.le_trans hb7.size (by simp)) ?_; intro E' f' w2 hown2 b2)
          rw [← HT.out] at hown2
          go_roundw
          case rel => exact ⟨j + 1, q + 4, E', f', hj64, HQ, by omega, by go_num, rfl, HW, hown2, (hb7.alloc hb7.size _).trans b2⟩
          case measure => simp [intOf]; omega
        · have hu2 : (u == 4294967295) = false := by simpa using hu
          have HU := hid hu
          clear hu
          obtain ⟨r, hr⟩ : ∃ r, isR u = r := ⟨_, rfl⟩
          have H1 := hid hr
          cases r
          · have HB := hid (getE_bad HN.out (fun h => by
              have := all_not HJ.out (x := y) (by rw [HV.out]; exact okN_not hu0 hu1 HU.out hr)
              rw [h.2] at this
              cases this))
            clear hr
            go_wp2_with fail
            refine (is_any u _).mono ?_
            rintro e w1 ⟨rfl, rfl⟩
            rw [H1.out]
            go_wp2
            go_ret2
            exact ret_row_nil (hid ⟨HB.out.1.symm, HB.out.2⟩) hb7
          · have hu3 : u ≤ 1114111 := ((isR_iff u).1 hr).2.1
            have hy : y = u := by rw [HV.out, sgn_low hu3]
            have HT := hid (show (rows l).take (j + 1) = (rows l).take j ++ [u] by rw [HS.out, hy])
            have HW := hid (show ((rows l).take (j + 1)).length = j + 1 ∧ ((rows l).take (j + 1)).all okN = true from ⟨by rw [HT.out, List.length_append, hw.out.1]; rfl, by rw [HT.out]; exact all_snoc hw.out.2 (by simp [okN, hr])⟩)
            have HL := hid hw.out.1
            have hwr := wrap_i32 hu0 hu3
            clear hy hr
            go_wp2_with fail
            refine (is_any u _).mono ?_
            rintro e w1 ⟨rfl, rfl⟩
            rw [H1.out]
            go_wp2_with (at_builtin; refine wpList_append_i rfl (.tmp 53) (.tmp 56) _ rfl w.heap.size 21 Tryz.underlying31 hi0 hz0 hz1 hz2 E j f ((rows l).take j) HL rfl (hown7.keep ((Below.refl _ _).alloc (Nat.le_refl _) _)) (some ⟨w7.heap.size, 0, none⟩) 1 1 [u] (hid rfl) rfl (lit_i1 w7 21 u (by omega) (by omega)) (by omega) (Nat.le_trans hb7.size (by simp)) ?_; intro E' f' w2 hown2 b2)
            rw [← HT.out] at hown2
            go_roundw
            case rel => exact ⟨j + 1, q + 4, E', f', hj64, HQ, by omega, by go_num, rfl, HW, hown2, (hb7.alloc hb7.size _).trans b2⟩
            case measure => simp [intOf]; omega
      · have hlt2 : ¬ (q : Int) + 3 < (n : Int) := by omega
        have hl := hn.out
        have hrl := rows_length l
        have hqe := hq.out
        by_cases h4 : n % 4 = 0
        · have ej : (rows l).take j = rows l := List.take_of_length_le (by omega)
          have h4' : ((n : Int) % 4 != 0) = false := by simp; omega
          have hw2 := hw.out
          rw [ej] at hown hw2
          have HE := hid (getE_ok HN.out (by omega) hw2.2)
          have HL := hid hw2.1
          clear ej h4 hl hrl hqe hw2
          go_wp2
          go_ret2
          exact ret_row (hid ⟨HE.out.2.symm, HE.out.1.symm, HL.out⟩) hown.ri hb
        · have h4' : ((n : Int) % 4 != 0) = true := by simp; omega
          have HE := hid (getE_bad HN.out (fun h => h4 (by omega)))
          clear h4 hl hrl hqe
          go_wp2
          go_ret2
          exact ret_row_nil (hid ⟨HE.out.1.symm, HE.out.2⟩) hb
end Go.Proofs.YtndmblhkmgnpcaaGreat

namespace Go.Proofs.YtndmblhkmgnpcaaGreat
open Go.RowKit
set_option linter.unusedVariables false

theorem ofInt_int (x : Int) : ((BitVec.ofInt 32 x).toNat : Int) = x % 4294967296 := by
  rw [BitVec.toNat_ofInt]
  omega
theorem or_i32 {x y : Int} (h : x % 256 = 0) (h0 : -2147483648 ≤ x) (h1 : x ≤ 2147483647) (y0 : 0 ≤ y) (y1 : y ≤ 255) : bits .or .i32 x y = x + y := by
  show IntKind.i32.wrap ((BitVec.ofInt 32 x ||| BitVec.ofInt 32 y).toNat : Int) = _
  rw [BitVec.toNat_or]
  have hx := ofInt_int x
  have hy := ofInt_int y
  generalize (BitVec.ofInt 32 x).toNat = a at hx ⊢
  generalize (BitVec.ofInt 32 y).toNat = c at hy ⊢
  obtain ⟨k, rfl⟩ : ∃ k, a = 2 ^ 8 * k := ⟨a / 256, by omega⟩
  rw [← Nat.two_pow_add_eq_or_of_lt (show c < 2 ^ 8 by omega) k, IntKind.wrap_i32]
  omega
theorem value_eq {x0 x1 x2 x3 : Int} (a00 : 0 ≤ x0) (a01 : x0 ≤ 255) (a10 : 0 ≤ x1) (a11 : x1 ≤ 255) (a20 : 0 ≤ x2) (a21 : x2 ≤ 255) (a30 : 0 ≤ x3) (a31 : x3 ≤ 255) :
    bits .or .i32 (wrap32 (bits .or .i32 (wrap32 (bits .or .i32 (x0 * 256) x1 * 256)) x2 * 256)) x3 = sgn (16777216 * x0 + 65536 * x1 + 256 * x2 + x3) := by
  have w (n : Int) : wrap32 n = (n + 2147483648) % 4294967296 - 2147483648 := by unfold wrap32; omega
  have w1 : wrap32 ((x0 * 256 + x1) * 256) = (x0 * 256 + x1) * 256 := by rw [w]; omega
  rw [or_i32 (x := x0 * 256) (by omega) (by omega) (by omega) a10 a11, w1, or_i32 (x := (x0 * 256 + x1) * 256) (by omega) (by omega) (by omega) a20 a21, w]
  rw [or_i32 (by omega) (by omega) (by omega) a30 a31]
  unfold sgn
  split <;> omega

set_option maxRecDepth 100000 in
set_option maxHeartbeats 2000000 in
theorem value_any (b o c : Nat) (x0 x1 x2 x3 : Int) (w : World) (hc : 4 ≤ c ∧ (c : Int) ≤ 9223372036854775807)
    (h0 : w.cell? ⟨b, o, none⟩ = some (.int .u8 x0)) (h1 : w.cell? ⟨b, o + 1, none⟩ = some (.int .u8 x1)) (h2 : w.cell? ⟨b, o + 2, none⟩ = some (.int .u8 x2)) (h3 : w.cell? ⟨b, o + 3, none⟩ = some (.int .u8 x3))
    (a0 : 0 ≤ x0 ∧ x0 ≤ 255) (a1 : 0 ≤ x1 ∧ x1 ≤ 255) (a2 : 0 ≤ x2 ∧ x2 ≤ 255) (a3 : 0 ≤ x3 ∧ x3 ≤ 255) :
    Calls Tryz.prog 159 #[.slice (some ⟨b, o, none⟩) 4 c] w fun e w' => e = .returned (.int .i32 (sgn (16777216 * x0 + 65536 * x1 + 256 * x2 + x3))) ∧ w = w' := by
  obtain ⟨a00, a01⟩ := a0
  obtain ⟨a10, a11⟩ := a1
  obtain ⟨a20, a21⟩ := a2
  obtain ⟨a30, a31⟩ := a3
  obtain ⟨c0, c1⟩ := hc
  go_enter Tryz.func159, Tryz.ntmps159
  go_wp2
  go_rounds 5
  go_ret
  exact ⟨ret_int (value_eq a00 a01 a10 a11 a20 a21 a30 a31), rfl⟩
end Go.Proofs.YtndmblhkmgnpcaaGreat

namespace Go.Proofs.YtndmblhkmgnpcaaGreat
open Go.RowKit Go.Shelf
set_option linter.unusedVariables false
attribute [local go_sem] Oper.semAt_some

theorem chunk_any (A : Option Addr) (n c : Nat) (w : World) :
    Calls Tryz.prog 57 #[.slice A n c, .int .i64 4] w fun e w' => e = .returned (.func (.func 84) #[] #[.pointer (some ⟨w.heap.size, 0, none⟩), .pointer (some ⟨w.heap.size + 1, 0, none⟩)]) ∧ w' = (w.alloc (.cells #[.slice A n c] 51)).alloc (.cells #[.int .i64 4] 3) := by
  go_enter Tryz.func57, Tryz.ntmps57
  go_wp2
  go_ret
  exact ⟨by simp, rfl⟩

/-- What the iterator's two boxes and the bytes below keep. -/
def Kc (n₀ Bs Bn : Nat) (W W' : World) : Prop := Below n₀ W W' ∧ W'.heap[Bs]? = W.heap[Bs]? ∧ W'.heap[Bn]? = W.heap[Bn]?
theorem Kc.t {n₀ Bs Bn : Nat} {A B C : World} (h : Kc n₀ Bs Bn A B) (k : Kc n₀ Bs Bn B C) : Kc n₀ Bs Bn A C := ⟨h.1.trans k.1, k.2.1.trans h.2.1, k.2.2.trans h.2.2⟩
theorem Kc.drew (n₀ Bs Bn : Nat) (W : World) : Kc n₀ Bs Bn W W.drew := ⟨(Below.refl _ _).drew, rfl, rfl⟩
theorem grown_drew (W : World) : W.grownBy W.drew none := ⟨rfl, rfl, rfl, Nat.le_refl _, fun _ _ _ => rfl⟩

/-- The first k of m places. -/
def firsts (m k : Nat) : List (Fin m) := (List.finRange m).take k
theorem firsts_length {m k : Nat} (h : k ≤ m) : (firsts m k).length = k := by simp [firsts, h]
theorem firsts_succ {m k : Nat} (h : k < m) : firsts m (k + 1) = firsts m k ++ [⟨k, h⟩] := by
  rw [firsts, List.take_succ_eq_append_getElem (by simpa using h)]
  simp [firsts]

set_option maxRecDepth 100000 in
set_option maxHeartbeats 2000000 in
theorem chunk1_in (n : Nat) (hn : 1 ≤ n) (l Bs Bn n₀ b o m q c : Nat) (A : Option Addr) (hA : 0 < m → A = some ⟨b, o, none⟩) (hm : m ≤ 64) (hq : Hid (q = 4 * m)) (hq2 : q ≤ 256) (hc1 : (q : Int) ≤ c) (hc2 : (c : Int) ≤ 9223372036854775807) (J Jx : List (Fin m) → World → Prop)
    (hD : ∀ pre W, J pre W → J pre W.drew)
    (hY : ∀ pre (x : Fin m) W, J pre W → pre.length < m → YieldAt Fence.wide (n - 1) Tryz.prog l #[.slice (some ⟨b, o + 4 * x.1, none⟩) 4 4] W fun e W' =>
      (e = .returned (.bool true) ∧ J (pre ++ [x]) W' ∧ Kc n₀ Bs Bn W W') ∨ (e = .returned (.bool false) ∧ Jx (pre ++ [x]) W'))
    (W : World) (hBs : Boxed W Bs 51 (.slice A q c)) (hBn : Boxed W Bn 3 (.int .i64 4)) (h0 : J [] W) :
    CallsIn Fence.wide n Tryz.prog 84 #[.func (.yield l) #[] #[], .pointer (some ⟨Bs, 0, none⟩), .pointer (some ⟨Bn, 0, none⟩)] W fun e W' => (∃ v, e = .returned v) ∧
      ((∃ ys, ys = firsts m m ∧ J ys W') ∨ (∃ pre, (∃ k, k ≤ m ∧ pre = firsts m k) ∧ Jx pre W')) := by
  refine callsIn_of_wp Tryz.func84 rfl trivial ?_ rfl
  simp only [Tryz.ntmps84, List.size_toArray, List.length_cons, List.length_nil, Nat.reduceAdd, Nat.reduceSub, Array.replicate_succ, Array.replicate_zero, List.push_toArray, List.append_toArray, List.nil_append, List.cons_append]
  gi_wp2
  gi_loopw [4, 5] (fun i u wr => ∃ k t : Nat, k ≤ m ∧ Hid (t = 4 * k) ∧ i = .int .i64 (t : Int) ∧ Hid (J (firsts m k) wr) ∧ Kc n₀ Bs Bn W wr)
    (fun i _ _ => q - (intOf i).toNat)
  case atStart => exact ⟨0, 0, Nat.zero_le _, hid rfl, rfl, hid h0, Below.refl _ _, rfl, rfl⟩
  case round =>
    obtain ⟨k, t, hk, ht, rfl, hJs, hK⟩ := hrel
    have hs : Boxed wr Bs _ _ := hK.2.1.trans hBs
    have hn4 : Boxed wr Bn _ _ := hK.2.2.trans hBn
    have c0 := hs.cell
    have c1 := hn4.cell
    by_cases hlt : k < m
    · obtain rfl := hA (by omega)
      have hlt2 : (t : Int) < (q : Int) := by have := ht.out; have := hq.out; omega
      have ht4 : t + 4 ≤ q := by have := ht.out; have := hq.out; omega
      have mixed : Tryz.prog.follows .mixedOrders = true := by kernel_rfl
      obtain ⟨fn, tmps, assign, body, hy, hR⟩ := hY (firsts m k) ⟨k, hlt⟩ wr.drew (hD _ _ hJs.out) (by rw [firsts_length hk]; exact hlt)
      dsimp only at hy
      rw [← ht.out] at hy
      have d0 : wr.drew.cell? ⟨Bs, 0, none⟩ = _ := c0
      have d1 : wr.drew.cell? ⟨Bn, 0, none⟩ = _ := c1
      gi_wp2
      gi_region_o
      have hmin : min 4 (((q - t : Nat)) : Int) = 4 := by omega
      have HJ := hid (firsts_succ hlt)
      have HT := hid (show t + 4 = 4 * (k + 1) by have := ht.out; omega)
      try rw [hmin]
      have ht5 : (t : Int) + 4 ≤ (c : Int) := by omega
      have ht6 : (t : Int) + 4 ≤ (q : Int) := by omega
      gi_wp2
      refine hR.mono ?_
      rintro e W3 (⟨rfl, hJ3, hk3⟩ | ⟨rfl, hJx3⟩)
      · have hs3 : Boxed W3 Bs _ _ := hk3.2.1.trans hs
        have hn3 : Boxed W3 Bn _ _ := hk3.2.2.trans hn4
        have c3 := hn3.cell
        gi_wp2
        go_roundw
        case rel => exact ⟨k + 1, t + 4, by omega, HT, by go_num, hid (by rw [HJ.out]; exact hJ3), hK.t ((Kc.drew _ _ _ wr).t hk3)⟩
        case measure => simp [intOf]; omega
      · gi_wp2
        refine bodyPost_ret (results_none rfl _ _ _) rfl ?_
        exact ⟨⟨_, rfl⟩, .inr ⟨_, ⟨k + 1, by omega, HJ.out.symm⟩, hJx3⟩⟩
    · obtain rfl : k = m := by omega
      have hlt2 : ¬ (t : Int) < (q : Int) := by have := ht.out; have := hq.out; omega
      have HJ := hJs
      gi_wp2
      go_end0
      exact ⟨⟨_, rfl⟩, .inl HJ.out⟩
theorem chunk_stops (n : Nat) (hn : 1 ≤ n) (Bs Bn n₀ b o m q c : Nat) (A : Option Addr) (hA : 0 < m → A = some ⟨b, o, none⟩) (hm : m ≤ 64) (hq : Hid (q = 4 * m)) (hq2 : q ≤ 256) (hc1 : (q : Int) ≤ c) (hc2 : (c : Int) ≤ 9223372036854775807) (w : World)
    (hBs : Boxed w Bs 51 (.slice A q c)) (hBn : Boxed w Bn 3 (.int .i64 4)) :
    SeqStopsK Fence.wide n Tryz.prog 84 #[.pointer (some ⟨Bs, 0, none⟩), .pointer (some ⟨Bn, 0, none⟩)] (fun x : Fin m => #[.slice (some ⟨b, o + 4 * x.1, none⟩) 4 4]) (Kc n₀ Bs Bn) (fun ys => ys = firsts m m) (fun pre => ∃ k, k ≤ m ∧ pre = firsts m k) m w := fun l J Jx W hW hJ _ hY h0 =>
  chunk1_in n hn l Bs Bn n₀ b o m q c A hA hm hq hq2 hc1 hc2 J Jx (fun pre W' h => hJ pre W' W'.drew none h (grown_drew W') (by rintro r ⟨⟩)) hY W ((hW.block Bs hBs.lt).trans hBs) ((hW.block Bn hBn.lt).trans hBn) h0

/-- The number at a place. -/
def num (l : List UInt8) (m : Nat) (x : Fin m) : Int := (rows l)[x.1]?.getD 0
theorem val4_eq (a b c d : UInt8) : val4 a b c d = sgn (16777216 * (a.toNat : Int) + 65536 * (b.toNat : Int) + 256 * (c.toNat : Int) + (d.toNat : Int)) := by
  unfold val4 valU
  rfl
theorem num_eq {l : List UInt8} {m : Nat} (h : l.length = 4 * m) (x : Fin m) : sgn (16777216 * ((l[4 * x.1]'(by omega)).toNat : Int) + 65536 * ((l[4 * x.1 + 1]'(by omega)).toNat : Int) + 256 * ((l[4 * x.1 + 2]'(by omega)).toNat : Int) + ((l[4 * x.1 + 3]'(by omega)).toNat : Int)) = num l m x := by
  rw [num, rows_at l x.1 (by omega), Option.getD_some, val4_eq]
theorem value_num {l : List UInt8} {m : Nat} (h : l.length = 4 * m) (x : Fin m) (b o : Nat) (w : World) (hcell : ∀ j (h : j < l.length), w.cell? ⟨b, o + j, none⟩ = some (.int .u8 (l[j].toNat : Int))) :
    Calls Tryz.prog 159 #[.slice (some ⟨b, o + 4 * x.1, none⟩) 4 4] w fun e w' => e = .returned (.int .i32 (num l m x)) ∧ w = w' := by
  rw [← num_eq h x]
  have b8 (u : UInt8) : (0 : Int) ≤ (u.toNat : Int) ∧ (u.toNat : Int) ≤ 255 := by have := u.toNat_lt; omega
  exact value_any b (o + 4 * x.1) 4 _ _ _ _ w ⟨by omega, by omega⟩ (hcell (4 * x.1) (by omega)) (hcell (4 * x.1 + 1) (by omega)) (hcell (4 * x.1 + 2) (by omega)) (hcell (4 * x.1 + 3) (by omega)) (b8 _) (b8 _) (b8 _) (b8 _)
theorem num_range {l : List UInt8} {m : Nat} (h : l.length = 4 * m) (x : Fin m) : -2147483648 ≤ num l m x ∧ num l m x ≤ 2147483647 := by
  rw [← num_eq h x]
  have b8 (u : UInt8) : (0 : Int) ≤ (u.toNat : Int) ∧ (u.toNat : Int) ≤ 255 := by have := u.toNat_lt; omega
  have h0 := b8 (l[4 * x.1]'(by omega))
  have h1 := b8 (l[4 * x.1 + 1]'(by omega))
  have h2 := b8 (l[4 * x.1 + 2]'(by omega))
  have h3 := b8 (l[4 * x.1 + 3]'(by omega))
  unfold sgn
  split <;> omega
theorem firsts_num {l : List UInt8} {m : Nat} (h : m = (rows l).length) : (firsts m m).map (num l m) = rows l := by
  subst h
  apply List.ext_getElem
  · simp [firsts]
  · intro i h1 h2
    simp [firsts, num, h2]
theorem sgn_range {u : Int} (h0 : 0 ≤ u) (h1 : u ≤ 4294967295) : -2147483648 ≤ sgn u ∧ sgn u ≤ 2147483647 := by
  unfold sgn
  split <;> omega
theorem val4_range (a b c d : UInt8) : -2147483648 ≤ val4 a b c d ∧ val4 a b c d ≤ 2147483647 := by
  have hv := valU_range a b c d
  unfold val4
  exact sgn_range hv.1 hv.2
theorem rows_in32 : ∀ l : List UInt8, In32 (rows l)
  | [] => In32.nil
  | [_] => In32.nil
  | [_, _] => In32.nil
  | [_, _, _] => In32.nil
  | a :: b :: c :: d :: t => by
    have hs := val4_range a b c d
    have ht := rows_in32 t
    intro x hx
    rw [rows] at hx
    rcases List.mem_cons.1 hx with hx | hx
    · rw [hx]
      exact hs
    · exact ht x hx
theorem row_shape {W : World} {base : Nat} {e : TypeId} {v : Value} {l : List Int} (h : W.ownsRow base e 1 v l.length (i32s l)) (h2 : In32 l) : ∃ B d, v = .slice B l.length d ∧ OwnI W base e B d l := by
  have key (B : Option Addr) (d : Nat) (hv : v = .slice B l.length d) : OwnI W base e B d l := by
    refine ⟨?_, h2⟩
    unfold OwnV
    rw [i32s_length, ← hv]
    exact h
  rcases h.2 with ⟨hv, hn⟩ | ⟨g, cap, cur, hv, _⟩
  · have hv2 : v = .slice none l.length 0 := by rw [hv, hn]
    exact ⟨none, 0, hv2, key _ _ hv2⟩
  · exact ⟨_, _, hv, key _ _ hv⟩
theorem OwnI.putObj {W : World} {base : Nat} {e : TypeId} {A : Option Addr} {c : Nat} {l : List Int} (h : OwnI W base e A c l) {k : Nat} {o : Obj} (o' : Obj) (hl : W.heap[k]? = some o) (ho : o.isCells = false) : OwnI (W.putObj k o') base e A c l :=
  ⟨ownsRow_putObj (show W.ownsRow base e 1 _ _ _ from h.1) o' hl ho, h.2⟩
end Go.Proofs.YtndmblhkmgnpcaaGreat

namespace Go.Proofs.YtndmblhkmgnpcaaGreat
open Go.RowKit Go.Shelf
set_option linter.unusedVariables false
attribute [local go_sem] Oper.semAt_some

set_option maxRecDepth 100000 in
set_option maxHeartbeats 2000000 in
theorem rget_any (A : Option Addr) (n c : Nat) (l : List UInt8) (hn : Hid (l.length = n)) (w : World) (hr : Rd w A c l) :
    Calls Tryz.prog 156 #[.slice A n c] w (RetRowOwn w (getV l) (getE l)) := by
  obtain ⟨i0, hi0, hz0, hz1, hz2⟩ := info_parts info_i32
  by_cases h256 : 256 < n
  · have H := hid (getE_many (l := l) (by rw [hn.out]; exact h256))
    have h256' : 256 < (n : Int) := by omega
    go_enter Tryz.func156, Tryz.ntmps156
    go_wp2
    go_ret2
    exact ret_own_nil (hid ⟨H.out.1.symm, H.out.2⟩) (Below.refl _ _)
  have HN := hid (show ¬ 256 < l.length by rw [hn.out]; exact h256)
  have h256' : ¬ 256 < (n : Int) := by omega
  by_cases h4 : n % 4 = 0
  · have h4' : ((n : Int) % 4 != 0) = false := by simp; omega
    obtain ⟨m, hm⟩ : ∃ m, n = 4 * m := ⟨n / 4, by omega⟩
    have HM := hid hm
    have hm64 : m ≤ 64 := by omega
    have hmn : (n : Int) / 4 = (m : Int) := by omega
    have hc2 : (c : Int) ≤ 9223372036854775807 := by have := hr.cap; omega
    have hc1 : (n : Int) ≤ c := by have := hr.len; have := hn.out; omega
    have HE := hid (get_chk HN.out (by rw [hn.out]; exact h4))
    have HR := hid hr
    clear h4 hm h256 hr
    refine (callsIn_wide (n := 6)).1 ?_
    refine callsIn_of_wp_marks Tryz.func156 rfl trivial ?_ rfl
    simp only [Tryz.ntmps156, List.size_toArray, List.length_cons, List.length_nil, Nat.reduceAdd, Nat.reduceSub, Array.replicate_succ, Array.replicate_zero, List.push_toArray, List.append_toArray, List.nil_append, List.cons_append]
    obtain ⟨w1, hrun, hown0, hgr⟩ := run_make_own (P := Tryz.prog) w w.heap.size 31 21 i0 (.int .i32 0) 1 Tryz.underlying31 hi0 hz0 hz1 .i64 .i64 m (by rw [hz2]; omega) (by unfold maxLen; omega) (Nat.le_refl _)
    have hb0 : Below w.heap.size w w1 := (Below.refl _ _).grown hgr (Nat.le_refl _) (fun k hk => by cases hk)
    gi_wp2_with (refine ⟨trivial, ?_⟩; gi_at_call 57; refine (callsIn_wide.2 (chunk_any A n c _)).mono ?_; rintro e w' ⟨rfl, rfl⟩)
    obtain ⟨b, o, hA, hcell⟩ : ∃ b o, (0 < m → A = some ⟨b, o, none⟩) ∧ ∀ j (h : j < l.length), w.cell? ⟨b, o + j, none⟩ = some (.int .u8 (l[j].toNat : Int)) := by
      rcases Nat.eq_zero_or_pos m with h | h
      · exact ⟨0, 0, fun h' => by omega, fun j hj => by have := hn.out; have := HM.out; omega⟩
      · obtain ⟨b, o, h1, h2⟩ := HR.out.at_ (by have := hn.out; have := HM.out; omega)
        exact ⟨b, o, fun _ => h1, h2⟩
    have hs1 := hb0.size
    have bL := ((Boxed.new w1 31 (.slice (some ⟨w.heap.size, 0, none⟩) 0 m)).alloc (.cells #[.slice A n c] 51)).alloc (.cells #[.int .i64 4] 3)
    have bS := (Boxed.new (w1.alloc (.cells #[.slice (some ⟨w.heap.size, 0, none⟩) 0 m] 31)) 51 (.slice A n c)).alloc (.cells #[.int .i64 4] 3)
    have bN := Boxed.new ((w1.alloc (.cells #[.slice (some ⟨w.heap.size, 0, none⟩) 0 m] 31)).alloc (.cells #[.slice A n c] 51)) 3 (.int .i64 4)
    have hrow0 := ((hown0.alloc (.cells #[.slice (some ⟨w.heap.size, 0, none⟩) 0 m] 31)).alloc (.cells #[.slice A n c] 51)).alloc (.cells #[.int .i64 4] 3)
    have hB0 : Below w.heap.size w (((w1.alloc (.cells #[.slice (some ⟨w.heap.size, 0, none⟩) 0 m] 31)).alloc (.cells #[.slice A n c] 51)).alloc (.cells #[.int .i64 4] 3)) :=
      ((hb0.alloc hs1 _).alloc (by simp; omega) _).alloc (by simp; omega) _
    rw [World.size_alloc] at bS bN
    rw [World.size_alloc] at bN
    refine wpIn_rangeFunc_ownG (F := Fence.wide) rfl (by omega) (gf := 84) (lb := #[.pointer (some ⟨w1.heap.size + 1, 0, none⟩), .pointer (some ⟨w1.heap.size + 1 + 1, 0, none⟩)]) rfl trivial (enters_of Tryz.func84 (by kernel_rfl) rfl)
      (chunk_stops (6 - 1) (by omega) (w1.heap.size + 1) (w1.heap.size + 1 + 1) w.heap.size b o m n c A hA hm64 HM (by omega) hc1 hc2 _ bS bN) Kc.t
      (fun W k o o' hk hko h1 h2 => ⟨belowK_b (w := (((w1.alloc (.cells #[.slice (some ⟨w.heap.size, 0, none⟩) 0 m] 31)).alloc (.cells #[.slice A n c] 51)).alloc (.cells #[.int .i64 4] 3))) (by simp; omega) W k o o' hk hko h1 h2, World.putObj_heap_other (by simp at hk; omega), World.putObj_heap_other (by simp at hk; omega)⟩)
      (Below.refl _ _) (fun _ => rfl)
      (fun (pre : List (Fin m)) W => (((∃ v, Boxed W w1.heap.size 31 v ∧ W.ownsRow w.heap.size 21 1 v pre.length (i32s (pre.map (num l m))) ∧ True) ∧ Boxed W (w1.heap.size + 1) 51 (.slice A n c)) ∧ Boxed W (w1.heap.size + 1 + 1) 3 (.int .i64 4)) ∧ Below w.heap.size w W)
      (fun _ _ _ => False)
      (OwnFrom.and (OwnFrom.and (OwnFrom.and (Go.Own.from (holdsRow_own w.heap.size w1.heap.size 31 21 1 (fun pre : List (Fin m) => pre.length) (fun pre : List (Fin m) => i32s (pre.map (num l m))) (fun _ _ => True)) _) (Go.Own.from (boxed_own _ _ _) _)) (Go.Own.from (boxed_own _ _ _) _)) (ownFrom_below (Nat.le_refl _) (by simp; omega)))
      (fun _ _ _ _ _ hs _ _ => hs)
      ⟨⟨⟨⟨_, bL, hrow0, trivial⟩, bS⟩, bN⟩, hB0⟩
      (fun x => { tmps := #[.slice A n c, undef, .slice none 0 0, .int .i64 0, .pointer (some ⟨w1.heap.size, 0, none⟩), .slice (some ⟨b, o + 4 * x.1, none⟩) 4 4, undef, .slice A n c, .int .i64 n, .bool false, .slice A n c, .int .i64 n, .int .i64 ((n : Int) % 4), .bool false, .slice A n c, .int .i64 n, .int .i64 m, .slice (some ⟨w.heap.size, 0, none⟩) 0 m, .slice A n c, .func (.func 84) #[] #[.pointer (some ⟨w1.heap.size + 1, 0, none⟩), .pointer (some ⟨w1.heap.size + 1 + 1, 0, none⟩)], .slice (some ⟨b, o + 4 * x.1, none⟩) 4 4, undef, undef, undef, undef, undef, undef, undef, undef, undef, undef, undef], defers := [] }) ?assign ?body ?done ?stop
    case assign =>
      intro k x W K hK
      gi_wp2
      exact hK
    case body =>
      rintro k pre x W ⟨⟨⟨⟨v, hv, hrow, _⟩, hS⟩, hN⟩, hB⟩ hlt
      have hx := x.2
      have hl := hn.out
      have hM := HM.out
      obtain rfl := hA (by omega)
      have hval := value_num (hl.trans hM) x b o W.drew (fun j hj => keep hB (hcell j hj))
      obtain ⟨y, hy⟩ : ∃ y, num l m x = y := ⟨_, rfl⟩
      rw [hy] at hval
      have HY := hid hy
      have hc := hv.cell
      have hpl : pre.length < 64 := by omega
      clear hcell hl hM hy hA
      obtain ⟨v', w2, hrunA, hown', hgrow, _, _⟩ := run_append_own_at (P := Tryz.prog) (ty := 31) (w := W.drew.alloc (.cells #[.int .i32 y] 21)) w.heap.size 31 21 i0 (.int .i32 0) 1 4 Tryz.underlying31 hi0 hz0 hz1 hz2 rfl (by decide) v pre.length (i32s (pre.map (num l m))) ((show W.drew.ownsRow _ _ _ _ _ _ from hrow).alloc _) ⟨W.heap.size, 0, none⟩ 1 1 [.int .i32 y] rfl (cell_one_new _ _ _) (by simp [Value.oneCell']) (by unfold maxLen; omega) (by omega) (by have := hB.size; simp; omega)
      obtain ⟨g', cap', rfl⟩ := ownsRow_succ hown'
      have hvd : Boxed W.drew w1.heap.size 31 v := hv
      have hrowd : W.drew.ownsRow w.heap.size 21 1 v pre.length (i32s (pre.map (num l m))) := hrow
      obtain ⟨hv1, hv2, hr2, hk2, hb2⟩ := hvd.appended (by decide) hrowd hB.size hs1 hown' hgrow
      have hSd : Boxed (W.drew.alloc (.cells #[.int .i32 y] 21)) (w1.heap.size + 1) 51 _ := Boxed.alloc (W := W.drew) hS _
      have hNd : Boxed (W.drew.alloc (.cells #[.int .i32 y] 21)) (w1.heap.size + 1 + 1) 3 _ := Boxed.alloc (W := W.drew) hN _
      have hS1 := (hSd.kept hgrow (hSd.not_row (by decide) (hrowd.alloc _))).other (B' := w1.heap.size) (by omega) (.slice (some ⟨g', 0, none⟩) (pre.length + 1) cap')
      have hN1 := (hNd.kept hgrow (hNd.not_row (by decide) (hrowd.alloc _))).other (B' := w1.heap.size) (by omega) (.slice (some ⟨g', 0, none⟩) (pre.length + 1) cap')
      have hc1' := hv1.cell
      have hf1 := hv1.frozen
      have hrunB : (Builtin.append_ #[31, 31] 31 #[v, .slice (some ⟨W.heap.size, 0, none⟩) 1 1]).run Tryz.prog (W.alloc (.cells #[.int .i32 y] 21)).drew = .ok (.slice (some ⟨g', 0, none⟩) (pre.length + 1) cap') w2 := hrunA
      have hcA : (W.alloc (.cells #[.int .i32 y] 21)).cell? ⟨w1.heap.size, 0, none⟩ = some v := (hv.alloc _).cell
      have hcB : (W.alloc (.cells #[.int .i32 y] 21)).drew.cell? ⟨w1.heap.size, 0, none⟩ = some v := hcA
      clear hrunA
      simp [go_sem] at hrunB
      have HR3 := hid (show (w2.setCell ⟨w1.heap.size, 0, none⟩ (.slice (some ⟨g', 0, none⟩) (pre.length + 1) cap')).ownsRow w.heap.size 21 1 (.slice (some ⟨g', 0, none⟩) (pre.length + 1) cap') (pre ++ [x]).length (i32s ((pre ++ [x]).map (num l m))) by
        have e1 : (pre ++ [x]).length = pre.length + 1 := by simp
        have e2 : i32s ((pre ++ [x]).map (num l m)) = i32s (pre.map (num l m)) ++ [.int .i32 y] := by rw [List.map_append, i32s_append, List.map_cons, List.map_nil, HY.out]; rfl
        rw [e1, e2]
        exact hr2)
      have mixed : Tryz.prog.follows .mixedOrders = true := by kernel_rfl
      gi_wp2
      gi_region_with_o (refine ⟨trivial, ?_⟩; refine (CallsIn.inRound k (callsIn_wide.2 hval)).mono ?_; rintro e w' ⟨rfl, rfl⟩)
      all_goals gi_wp2
      all_goals exact ⟨((KeepsOthers.drew W).trans hk2).from _, ⟨(Below.refl _ W).drew.trans hb2, hS1.trans hS.symm, hN1.trans hN.symm⟩, ⟨⟨⟨_, hv2, HR3.out, trivial⟩, hS1⟩, hN1⟩, hB.trans ((Below.refl _ W).drew.trans hb2)⟩
    case done =>
      rintro D ys W hD rfl ⟨⟨⟨⟨v, hv, hrow, _⟩, hS⟩, hN⟩, hB⟩ hK
      have hc := hv.cell
      have hlm : m = (rows l).length := by rw [rows_length, hn.out]; have := HM.out; omega
      rw [firsts_length (Nat.le_refl m), firsts_num hlm] at hrow
      have HL := hid hlm.symm
      clear hlm hcell hrow0 hB0 hown0 hgr bL bS bN hrun hb0
      obtain ⟨B, d, rfl, hown⟩ := row_shape (by rw [HL.out]; exact hrow) (rows_in32 l)
      rw [HL.out] at hc
      have hD2 : w.heap.size ≤ D := by simp at hD; omega
      have hBD : Below w.heap.size w (W.putObj D (.deferred none)) := hB.trans ((Below.refl _ W).grown (grownBy_putObj' W D _) hB.size (fun j e => by cases e; exact hD2))
      have hownD := hown.putObj (.deferred none) hK rfl
      obtain ⟨z, hz⟩ : ∃ z, chk (rows l) = z := ⟨_, rfl⟩
      have HZ := hid hz
      by_cases h0 : z = 0
      · subst h0
        have H := hid (show getE l = 0 ∧ getV l = rows l by rw [HE.out.1, HE.out.2, if_pos hz]; exact ⟨hz, rfl⟩)
        clear hz hD hS hN HE
        gi_wp2_with (refine ⟨trivial, ?_⟩; gi_at_call 146; refine (callsIn_wide.2 (check_of 0 B m d (rows l) HL HZ W hown.ri)).mono ?_; rintro e w' ⟨rfl, rfl⟩)
        refine ⟨by simp, .inl ⟨_, _, rfl, run_takeDeferred hK, ?_⟩⟩
        exact ⟨_, results_tmp2 (t := 2) (u := 3) rfl _ _ _, ret_own (hid ⟨H.out.2.symm, H.out.1.symm, HL.out⟩) hownD hBD⟩
      · have H := hid (show getE l = z ∧ getV l = [] by rw [HE.out.1, HE.out.2, if_neg (by rw [hz]; exact h0)]; exact ⟨hz, rfl⟩)
        have hz2 : (z != 0) = true := by simpa using h0
        clear hz h0 hD hS hN HE
        gi_wp2_with (refine ⟨trivial, ?_⟩; gi_at_call 146; refine (callsIn_wide.2 (check_of z B m d (rows l) HL HZ W hown.ri)).mono ?_; rintro e w' ⟨rfl, rfl⟩)
        refine ⟨by simp, .inl ⟨_, _, rfl, run_takeDeferred hK, ?_⟩⟩
        exact ⟨_, results_tmp2 (t := 2) (u := 3) rfl _ _ _, ret_own_nil (hid ⟨H.out.1.symm, H.out.2⟩) hBD⟩
    case stop =>
      rintro D k pre W _ _ h _
      exact h.elim
  · have h4' : ((n : Int) % 4 != 0) = true := by simp; omega
    have HE := hid (getE_bad HN.out (fun h => h4 (by rw [← hn.out]; exact h.1)))
    clear h4
    go_enter Tryz.func156, Tryz.ntmps156
    go_wp2
    go_ret2
    exact ret_own_nil (hid ⟨HE.out.1.symm, HE.out.2⟩) (Below.refl _ _)
end Go.Proofs.YtndmblhkmgnpcaaGreat
