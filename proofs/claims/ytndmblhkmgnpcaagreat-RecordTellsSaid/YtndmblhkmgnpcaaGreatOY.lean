/-
  The document's own Get of layer 4 once more: the row that it hands back is the call's own.
-/
import Derived.Test.YtndmblhkmgnpcaaGreatOR
import Derived.Test.YtndmblhkmgnpcaaGreatOS
namespace Go.Proofs.YtndmblhkmgnpcaaGreat
open Go.RowKit
set_option linter.unusedVariables false
set_option linter.unusedSimpArgs false

set_option maxRecDepth 100000 in
set_option maxHeartbeats 2000000 in
theorem refget_own (A : Option Addr) (n c : Nat) (l : List UInt8) (hn : Hid (l.length = n)) (w : World) (hr : Rd w A c l) :
    Calls Tryz.prog 104 #[.slice A n c] w (RetRowOwn w (getV l) (getE l)) := by
  obtain ⟨i0, hi0, hz0, hz1, hz2⟩ := info_parts info_i32
  by_cases h256 : 256 < n
  · have H := hid (getE_many (l := l) (by rw [hn.out]; exact h256))
    have h256' : 256 < (n : Int) := by omega
    go_enter Tryz.func104, Tryz.ntmps104
    go_wp2
    go_ret2
    exact ret_own_nil (hid ⟨H.out.1.symm, H.out.2⟩) (Below.refl _ _)
  · have HN := hid (show ¬ 256 < l.length by rw [hn.out]; exact h256)
    have h256' : ¬ 256 < (n : Int) := by omega
    have h256n : n ≤ 256 := by omega
    have hc2 : (c : Int) ≤ 9223372036854775807 := by have := hr.cap; omega
    have hc1 : (n : Int) ≤ c := by have := hr.len; have := hn.out; omega
    have HR := hid hr
    clear h256 hr
    go_enter Tryz.func104, Tryz.ntmps104
    go_wp2
    go_loopw [4, 5, 6] (fun v i x wr => ∃ (j q : Nat) (E : Option Addr) (f : Nat), j ≤ 64 ∧ Hid (q = 4 * j ∧ q ≤ n) ∧ q ≤ 256 ∧ i = .int .i64 (q : Int) ∧ v = .slice E j f ∧ Hid (((rows l).take j).length = j ∧ ((rows l).take j).all okN = true) ∧ OwnI wr w.heap.size 21 E f ((rows l).take j) ∧ Below w.heap.size w wr) (fun _ i _ _ => n - (intOf i).toNat)
    case atStart => exact ⟨0, 0, none, 0, by omega, hid ⟨rfl, by omega⟩, by omega, rfl, rfl, hid ⟨rfl, rfl⟩, OwnI.nil _ _ _, Below.refl _ _⟩
    case round =>
      obtain ⟨j, q, E, f, hj, hq, hq256, rfl, rfl, hw, hown, hb⟩ := hrel
      by_cases hlt : q + 3 < n
      · have hl := hn.out
        have hj1 : (rows l)[j]? = some (val4 (l[q]'(by omega)) (l[q + 1]'(by omega)) (l[q + 2]'(by omega)) (l[q + 3]'(by omega))) := rows_at' hq.out.1 (by omega)
        have hs := rows_take (l := l) hq.out.1 (by omega)
        obtain ⟨b, o, rfl, hcell⟩ := HR.out.at_ (by omega)
        have h1 := Past.all (keep hb (hcell q (by omega)))
        have h2 := Past.all (keep hb (hcell (q + 1) (by omega)))
        have h3 := Past.all (keep hb (hcell (q + 2) (by omega)))
        have h4 := Past.all (keep hb (hcell (q + 3) (by omega)))
        have hlt2 : (q : Int) + 3 < (n : Int) := by omega
        generalize l[q]'(by omega) = y0 at h1 hs hj1
        generalize l[q + 1]'(by omega) = y1 at h2 hs hj1
        generalize l[q + 2]'(by omega) = y2 at h3 hs hj1
        generalize l[q + 3]'(by omega) = y3 at h4 hs hj1
        have b0 := y0.toNat_lt
        have b1 := y1.toNat_lt
        have b2 := y2.toNat_lt
        have b3 := y3.toNat_lt
        have hv : val4 y0 y1 y2 y3 = sgn (16777216 * (y0.toNat : Int) + 65536 * (y1.toNat : Int) + 256 * (y2.toNat : Int) + (y3.toNat : Int)) := rfl
        generalize val4 y0 y1 y2 y3 = y at hs hj1 hv
        obtain ⟨x0, hx0⟩ : ∃ x0 : Int, (y0.toNat : Int) = x0 := ⟨_, rfl⟩
        obtain ⟨x1, hx1⟩ : ∃ x1 : Int, (y1.toNat : Int) = x1 := ⟨_, rfl⟩
        obtain ⟨x2, hx2⟩ : ∃ x2 : Int, (y2.toNat : Int) = x2 := ⟨_, rfl⟩
        obtain ⟨x3, hx3⟩ : ∃ x3 : Int, (y3.toNat : Int) = x3 := ⟨_, rfl⟩
        have a0 : 0 ≤ x0 ∧ x0 ≤ 255 := by omega
        have a1 : 0 ≤ x1 ∧ x1 ≤ 255 := by omega
        have a2 : 0 ≤ x2 ∧ x2 ≤ 255 := by omega
        have a3 : 0 ≤ x3 ∧ x3 ≤ 255 := by omega
        obtain ⟨a00, a01⟩ := a0
        obtain ⟨a10, a11⟩ := a1
        obtain ⟨a20, a21⟩ := a2
        obtain ⟨a30, a31⟩ := a3
        rw [hx0] at h1 hv
        rw [hx1] at h2 hv
        rw [hx2] at h3 hv
        rw [hx3] at h4 hv
        have HV := hid hv
        have HS := hid hs
        have HJ := hid hj1
        clear hcell hl hv hs hj1 hx0 hx1 hx2 hx3 b0 b1 b2 b3
        go_wp2_with fail
        refine wp_region_past (by kernel_rfl) (by kernel_rfl) ?_
        repeat (go_big_quiet_step (fail))
        refine wpQuiet_nil ?_
        rintro w7 ⟨⟨_, hx⟩, rfl⟩
        have hb7 : Below w.heap.size w w7 := hb.trans (hx.mono hb.size)
        have hown7 := hown.keep hx
        have hu0 : 0 ≤ 16777216 * x0 + 65536 * x1 + 256 * x2 + x3 := by omega
        have hu1 : 16777216 * x0 + 65536 * x1 + 256 * x2 + x3 ≤ 4294967295 := by omega
        generalize 16777216 * x0 + 65536 * x1 + 256 * x2 + x3 = u at HV hu0 hu1 ⊢
        have HQ := hid (show q + 4 = 4 * (j + 1) ∧ q + 4 ≤ n by have := hq.out.1; omega)
        have hj64 : j + 1 ≤ 64 := by have := hq.out.1; omega
        clear h1 h2 h3 h4 hown hb hx
        by_cases hu : u = 4294967295
        · subst hu
          have hy : y = -1 := HV.out
          have HT := hid (show (rows l).take (j + 1) = (rows l).take j ++ [-1] by rw [HS.out, hy])
          have HW := hid (show ((rows l).take (j + 1)).length = j + 1 ∧ ((rows l).take (j + 1)).all okN = true from ⟨by rw [HT.out, List.length_append, hw.out.1]; rfl, by rw [HT.out]; exact all_snoc hw.out.2 rfl⟩)
          have HL := hid hw.out.1
          clear hy
          go_wp2_with (at_builtin; refine wpList_append_i rfl (.tmp 48) (.tmp 49) _ rfl w.heap.size 21 Tryz.underlying31 hi0 hz0 hz1 hz2 E j f ((rows l).take j) HL rfl (hown7.keep ((Below.refl _ _).alloc (Nat.le_refl _) _)) (some ⟨w7.heap.size, 0, none⟩) 1 1 [-1] (hid rfl) rfl (lit_i1 w7 21 (-1) (by omega) (by omega)) (by omega) (Nat.le_trans hb7.size (by simp)) ?_; intro E' f' w2 hown2 b2)
          rw [← HT.out] at hown2
          go_roundw
          case rel => exact ⟨j + 1, q + 4, E', f', hj64, HQ, by omega, by go_num, rfl, HW, hown2, (hb7.alloc hb7.size _).trans b2⟩
          case measure => simp [intOf]; omega
        · have hu2 : (u == 4294967295) = false := by simpa using hu
          have HU := hid hu
          clear hu
          obtain ⟨r, hr⟩ : ∃ r, isR u = r := ⟨_, rfl⟩
          have H1 := hid hr
          cases r
          · have HB := hid (getE_bad HN.out (fun h => by
              have := all_not HJ.out (x := y) (by rw [HV.out]; exact okN_not hu0 hu1 HU.out hr)
              rw [h.2] at this
              cases this))
            clear hr
            go_wp2_with fail
            refine (is_any u _).mono ?_
            rintro e w1 ⟨rfl, rfl⟩
            rw [H1.out]
            go_wp2
            go_ret2
            exact ret_own_nil (hid ⟨HB.out.1.symm, HB.out.2⟩) hb7
          · have hu3 : u ≤ 1114111 := ((isR_iff u).1 hr).2.1
            have hy : y = u := by rw [HV.out, sgn_low hu3]
            have HT := hid (show (rows l).take (j + 1) = (rows l).take j ++ [u] by rw [HS.out, hy])
            have HW := hid (show ((rows l).take (j + 1)).length = j + 1 ∧ ((rows l).take (j + 1)).all okN = true from ⟨by rw [HT.out, List.length_append, hw.out.1]; rfl, by rw [HT.out]; exact all_snoc hw.out.2 (by simp [okN, hr])⟩)
            have HL := hid hw.out.1
            have hwr := wrap_i32 hu0 hu3
            clear hy hr
            go_wp2_with fail
            refine (is_any u _).mono ?_
            rintro e w1 ⟨rfl, rfl⟩
            rw [H1.out]
            go_wp2_with (at_builtin; refine wpList_append_i rfl (.tmp 53) (.tmp 56) _ rfl w.heap.size 21 Tryz.underlying31 hi0 hz0 hz1 hz2 E j f ((rows l).take j) HL rfl (hown7.keep ((Below.refl _ _).alloc (Nat.le_refl _) _)) (some ⟨w7.heap.size, 0, none⟩) 1 1 [u] (hid rfl) rfl (lit_i1 w7 21 u (by omega) (by omega)) (by omega) (Nat.le_trans hb7.size (by simp)) ?_; intro E' f' w2 hown2 b2)
            rw [← HT.out] at hown2
            go_roundw
            case rel => exact ⟨j + 1, q + 4, E', f', hj64, HQ, by omega, by go_num, rfl, HW, hown2, (hb7.alloc hb7.size _).trans b2⟩
            case measure => simp [intOf]; omega
      · have hlt2 : ¬ (q : Int) + 3 < (n : Int) := by omega
        have hl := hn.out
        have hrl := rows_length l
        have hqe := hq.out
        by_cases h4 : n % 4 = 0
        · have ej : (rows l).take j = rows l := List.take_of_length_le (by omega)
          have h4' : ((n : Int) % 4 != 0) = false := by simp; omega
          have hw2 := hw.out
          rw [ej] at hown hw2
          have HE := hid (getE_ok HN.out (by omega) hw2.2)
          have HL := hid hw2.1
          clear ej h4 hl hrl hqe hw2
          go_wp2
          go_ret2
          exact ret_own (hid ⟨HE.out.2.symm, HE.out.1.symm, HL.out⟩) hown hb
        · have h4' : ((n : Int) % 4 != 0) = true := by simp; omega
          have HE := hid (getE_bad HN.out (fun h => h4 (by omega)))
          clear h4 hl hrl hqe
          go_wp2
          go_ret2
          exact ret_own_nil (hid ⟨HE.out.1.symm, HE.out.2⟩) hb

theorem refgeto_of (r : List Int) (k : Nat) (j : Int) (A : Option Addr) (n c : Nat) (l : List UInt8) (hn : Hid (l.length = n)) (hx : Hid (getV l = r ∧ r.length = k ∧ getE l = j)) (w : World) (hr : Rd w A c l) :
    Calls Tryz.prog 104 #[.slice A n c] w fun e w' => ∃ A' c', e = .returned (.tuple #[.slice A' k c', .int .i64 j]) ∧ OwnI w' w.heap.size 21 A' c' r ∧ Below w.heap.size w w' := by
  obtain ⟨rfl, rfl, rfl⟩ := hx.out
  exact refget_own A n c l hn w hr
theorem ownI_far {w w' : World} {base : Nat} {e : TypeId} {A : Option Addr} {c : Nat} {l : List Int} (h : OwnI w base e A c l) (hh : ∀ k, base ≤ k → w'.heap[k]? = w.heap[k]?) : OwnI w' base e A c l := by
  obtain ⟨⟨h0, h1⟩, h2⟩ := h
  refine ⟨⟨h0, ?_⟩, h2⟩
  rcases h1 with h | ⟨g, cap, cur, hv, hb, hg, r⟩
  · exact .inl h
  · exact .inr ⟨g, cap, cur, hv, hb, by rw [hh g hb]; exact hg, r⟩
/-- The box that the first three ways end with: what it holds is the one operation that may begin there; its row is the call's own. -/
structure Fino (w0 w : World) (g : Nat) (l : List UInt8) (O : Opd) (A : Option Addr) (k c : Nat) : Prop where
  bx : BoxO w g O A k c
  len : O.row.length = k
  ri : OwnI w (w0.heap.size + 1) 21 A c O.row
  r : Opr O
  one : ∀ o', Begins l o' → o' = O
  be : Below w0.heap.size w0 w
  th : Res9 w0 w
  lt : w0.heap.size < g
theorem Fino.keep {w0 w w' : World} {g : Nat} {l : List UInt8} {O : Opd} {A : Option Addr} {k c : Nat} (h : Fino w0 w g l O A k c) (hb : Below w.heap.size w w') : Fino w0 w' g l O A k c :=
  ⟨h.bx.keep hb, h.len, h.ri.keep hb, h.r, h.one, below_in h.be hb, h.th.keep hb, h.lt⟩
end Go.Proofs.YtndmblhkmgnpcaaGreat
