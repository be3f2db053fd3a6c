/-
  Operations taken from bytes, so many.
-/
import Derived.Test.YtdhfnacdjjdijaaGreatMlG
import Derived.Test.YtdhfnacdjjdijaaGreatOW
namespace Go.Proofs.YtdhfnacdjjdijaaGreat
open Go.RowKit
set_option linter.unusedVariables false
set_option linter.unusedSimpArgs false

set_option maxHeartbeats 800000 in
theorem concat4 (f t : Int) (N : Int) (L : List UInt8) (k K : Nat) (hk : Hid (L.length = k)) (hK : Hid (7 + k = K)) (h9 : K ≤ 1000) (a0 a1 a2 a3 : Option Addr) (d0 d1 d2 d3 : Nat) (w : World) (g : Nat) (hg : w.heap.size = g) (h0 : Rd w a0 d0 (nB 3 f)) (h1 : Rd w a1 d1 (nB 3 t)) (h2 : Rd w a2 d2 (nB 1 N)) (h3 : Rd w a3 d3 L) :
    Calls Tryz.prog 100 #[.slice (some ⟨g, 0, none⟩) 4 4] (w.alloc (.cells #[.slice a0 3 d0, .slice a1 3 d1, .slice a2 1 d2, .slice a3 k d3] 32)) fun e w' => ∃ A c, e = .returned (.slice A K c) ∧ Own w' w.heap.size 5 A c (nB 3 f ++ (nB 3 t ++ (nB 1 N ++ L))) ∧ Below (w.alloc (.cells #[.slice a0 3 d0, .slice a1 3 d1, .slice a2 1 d2, .slice a3 k d3] 32)).heap.size (w.alloc (.cells #[.slice a0 3 d0, .slice a1 3 d1, .slice a2 1 d2, .slice a3 k d3] 32)) w' := by
  subst hg
  have hk' := hk.out
  have hK' := hK.out
  generalize hW : w.alloc _ = W
  have hc : ∀ (j : Nat) (v : Value), ([.slice a0 3 d0, .slice a1 3 d1, .slice a2 1 d2, .slice a3 k d3] : List Value)[j]? = some v → W.cell? ⟨w.heap.size, j, none⟩ = some v := fun j v hv => by
    subst hW
    rw [cell_of_row _ _ j _ _ (0, 0) (heap_alloc_last w _)]
    simpa using hv
  have hb : Below w.heap.size w W := by subst hW; exact (Below.refl _ _).alloc (Nat.le_refl _) _
  have hp : Parts W w.heap.size [nB 3 f, nB 3 t, nB 1 N, L] := by
    intro j hj
    match j, hj with
    | 0, _ => exact ⟨a0, d0, by simpa [nB_length] using hc 0 _ rfl, h0.keep hb⟩
    | 1, _ => exact ⟨a1, d1, by simpa [nB_length] using hc 1 _ rfl, h1.keep hb⟩
    | 2, _ => exact ⟨a2, d2, by simpa [nB_length] using hc 2 _ rfl, h2.keep hb⟩
    | 3, _ => exact ⟨a3, d3, by simpa [hk'] using hc 3 _ rfl, h3.keep hb⟩
    | j + 4, h => exact absurd h (by simp)
  refine (concat_of w.heap.size 4 K _ (nB 3 f ++ (nB 3 t ++ (nB 1 N ++ L))) (hid rfl) (hid ⟨by simp, by simp [nB_length, hk']; omega⟩) (by omega) h9 (by omega) W hp).mono ?_
  rintro e w' ⟨A, c, rfl, h, b⟩
  exact ⟨A, c, rfl, h.mono hb.size, b⟩

set_option maxRecDepth 100000 in
set_option maxHeartbeats 3200000 in
theorem put_page (L : Nat) (m : Mld) (A : Option Addr) (n c : Nat) (hn : Hid (m.ops.length = n)) (hr0 : ∀ o ∈ m.ops, Opr o) (hm : mayK 8 m = true) (hl : Hid ((tailK 8 m).length = L)) (w : World) (hr : RdO w A c m.ops) :
    Calls Tryz.prog 99 #[.agg #[.int .u8 m.kd, .int .i64 m.us, .int .i64 m.se, .int .i64 m.co, .int .i64 m.fr, .int .i64 m.tt, .int .u8 m.ak, .int .i64 m.t0, .int .i64 m.t1, .int .i64 m.t2, .int .i64 m.t3, .slice A n c]] w (RetBs w (tailK 8 m) L) := by
  have h : (countB m.fr && countB m.tt && decide (m.ops.length ≤ 3) && opsB m.ops) = true := hm
  simp only [Bool.and_eq_true, decide_eq_true_eq] at h
  have h3 : n ≤ 3 := by have := hn.out; omega
  have h1 := countB_iff.1 h.1.1.1
  have h2 := countB_iff.1 h.1.1.2
  have HO := hid h.2
  have HT : Hid (tailK 8 m = nB 3 m.fr ++ (nB 3 m.tt ++ (nB 1 (n : Int) ++ opsb m.ops))) := hid (by rw [← hn.out]; rfl)
  obtain ⟨k, hk⟩ : ∃ k, (opsb m.ops).length = k := ⟨_, rfl⟩
  have hk9 : k ≤ 900 := by have := opsb_le h.2; omega
  have HK := hid hk
  have HL := hid (show 7 + k = L by rw [← hl.out, HT.out]; simp [nB_length, hk]; omega)
  have hL9 : L ≤ 1000 := by have := HL.out; omega
  have n0 : (0 : Int) ≤ (n : Int) := by omega
  have n9 : (n : Int) < 16777216 := by omega
  clear h hm hk
  go_enter Tryz.func99, Tryz.ntmps99
  go_wp2_with fail
  generalize hW : w.alloc _ = W
  have hbW : Below w.heap.size w W := by subst hW; go_grown
  have bx : BoxM W w.heap.size m A n c := by subst hW; exact boxM_new w m A n c _
  replace hr := hr.keep hbW
  clear hW
  have s4 := bx.c4
  have s5 := bx.c5
  have s11 := bx.c11
  have q4 := fun w' (h : Below W.heap.size W w') => keep h s4
  have q5 := fun w' (h : Below W.heap.size W w') => keep h s5
  have q11 := fun w' (h : Below W.heap.size W w') => keep h s11
  clear s4 s5 s11 bx
  have S0 : Below W.heap.size W W.drew := (Below.refl _ _).drew
  go_region_held (fun w' => Below W.heap.size W w') (with_reducible (first | assumption | exact S0 | exact Below.alloc (by assumption) (Below.size (by assumption)) _))
    (first
      | (go_at_call 63; have tX := fun X => dig_of 3 3 m.fr h1.1 h1.2 rfl (by omega) X; with_reducible refine (tX _).mono ?_; clear tX; rintro e w2 ⟨A2, rfl, ho2, hb2⟩; have cc2 := below_in (w := W) S0 hb2)
      | (go_at_call 63; have tX := fun X => dig_of 3 3 m.tt h2.1 h2.2 rfl (by omega) X; with_reducible refine (tX _).mono ?_; clear tX; rintro e w3 ⟨A3, rfl, ho3, hb3⟩; have cc3 := below_in (w := W) cc2 hb3)
      | (go_at_call 63; have tX := fun X => dig_of 1 1 (n : Int) n0 n9 rfl (by omega) X; with_reducible refine (tX _).mono ?_; clear tX; rintro e w4 ⟨A4, rfl, ho4, hb4⟩; have cc4 := below_in (w := W) cc3 hb4)
      | (go_at_call 70; have tX := fun X hX => opsBytes_of k A n c m.ops hn h3 hr0 HO.out HK X hX; with_reducible refine (tX _ (hr.keep cc4)).mono ?_; clear tX; rintro e w5 ⟨A5, c5, rfl, ho5, hb5⟩; have cc5 := below_in (w := W) cc4 hb5)
      | (go_at_call 100
         with_reducible refine (concat4 m.fr m.tt (n : Int) (opsb m.ops) k L HK HL hL9 _ _ _ _ _ _ _ _ _ _ ?_ ?_ ?_ ?_ ?_).mono ?_
         · simp
         · exact ((ho2.rd.keep hb3).keep hb4).keep hb5
         · exact (ho3.rd.keep hb4).keep hb5
         · exact ho4.rd.keep hb5
         · exact ho5.rd
         rintro e w9 ⟨A9, c9, rfl, ho9, b9⟩
         have cc9 := below_in (w := W) (below_al cc5 _) b9))
  all_goals
    have hB := below_in hbW cc9
    clear q4 q5 q11 cc2 cc3 cc4 cc5 cc9 hb2 hb3 hb4 hb5 ho2 ho3 ho4 ho5 b9 S0
    go_wp2
    go_ret
    exact ⟨A9, c9, rfl, by rw [HT.out]; exact ho9.rd, hB⟩
end Go.Proofs.YtdhfnacdjjdijaaGreat

namespace Go.Proofs.YtdhfnacdjjdijaaGreat
open Go.RowKit
set_option linter.unusedVariables false
set_option linter.unusedSimpArgs false

/-- What is cut off at the front of bytes, as one equation. -/
theorem cut_run {w0 : World} {A : Option Addr} {n c : Nat} {l : List UInt8} (hr : Rd w0 A c l) (hn : l.length = n) (z : Nat) (hz : z ≤ n) :
    ∃ B, (∀ W : World, (Instr.slice 32 (.slice A n c) (some (.int .i64 (z : Int))) none none).run Tryz.prog W = .ok (.slice B (n - z) (c - z)) W) ∧ Rd w0 B (c - z) (l.drop z) := by
  have hc := hr.len
  refine ⟨if c = z then A else A.map (·.add (z * 1)), fun W => ?_, ?_⟩
  · have he : Tryz.prog.elem 32 = 5 := by kernel_rfl
    rw [run_slice_l (P := Tryz.prog) (w := W) (t := 32) (a := A) (len := n) (cap := c) (ht := by rw [he]; exact Tryz.underlying32) (kl := .i64) (l := (z : Int)) (h0 := by omega) (h1 := by omega), he]
    have hs := Tryz.sizeOf5
    go_simp
  · by_cases h0 : 0 < l.length
    · obtain ⟨b, o, rfl, _⟩ := hr.at_ h0
      refine hr.behind z (by omega) fun hne => ?_
      rw [if_neg (by omega), Nat.mul_one]
      simp [Addr.add_lit]
    · have e : l = [] := List.eq_nil_of_length_eq_zero (by omega)
      subst e
      have ez : z = 0 := by simp at hn; omega
      subst ez
      exact ⟨by simp, by have := hr.2.1; unfold maxLen at *; omega, fun h => absurd h (by simp)⟩

theorem owns_far {w w' : World} {base : Nat} {e : TypeId} {s : Nat} {v : Value} {n : Nat} {xs : List Value} (h : w.ownsRow base e s v n xs) (hh : ∀ k, base ≤ k → k < w.heap.size → w'.heap[k]? = w.heap[k]?) : w'.ownsRow base e s v n xs := by
  obtain ⟨h0, h1⟩ := h
  refine ⟨h0, ?_⟩
  rcases h1 with h | ⟨g, cap, cur, hv, hbg, hg, r⟩
  · exact .inl h
  · exact .inr ⟨g, cap, cur, hv, hbg, by rw [hh g hbg (by rcases Nat.lt_or_ge g w.heap.size with h | h; exact h; rw [Array.getElem?_eq_none h] at hg; cases hg)]; exact hg, r⟩
theorem OwO.far {w w' : World} {base : Nat} {A : Option Addr} {c : Nat} {l : List Opd} (h : OwO w base A c l) (hh : ∀ k, base ≤ k → k < w.heap.size → w'.heap[k]? = w.heap[k]?) : OwO w' base A c l := by
  obtain ⟨xs, h1, h2, h3⟩ := h
  exact ⟨xs, h1, owns_far h2 hh, fun x hx => ⟨owns_far (h3 x hx).1 hh, (h3 x hx).2⟩⟩
theorem OwO.turn {g : Nat} {w w' : World} {base : Nat} {A : Option Addr} {c : Nat} {l : List Opd} (h : OwO w base A c l) (hT : Turn g w w') (hb : g < base) : OwO w' base A c l := h.far fun k h1 h2 => hT.heap k h2 (by omega)
theorem OwnI.turn' {g : Nat} {w w' : World} {base : Nat} {e : TypeId} {A : Option Addr} {c : Nat} {l : List Int} (h : OwnI w base e A c l) (hT : Turn g w w') (hb : g < base) : OwnI w' base e A c l := ⟨owns_far h.1 fun k h1 h2 => hT.heap k h2 (by omega), h.2⟩
theorem Rdr.low {w0 w w' : World} {g : Nat} {A : Option Addr} {n c : Nat} {l : List UInt8} (h : Rdr w0 w g A n c l) {base : Nat} (hb : Below base w w') (hg : g < base) (h0 : w0.heap.size ≤ base) : Rdr w0 w' g A n c l :=
  ⟨by rw [hb.cell (p := ⟨g, 0, none⟩) hg]; exact h.cell, by rw [hb.frozen (p := ⟨g, 0, none⟩) hg]; exact h.may, h.rd, h.len, h.old.trans (hb.mono h0), h.far⟩
theorem Turn.low2 {g : Nat} {w X X' : World} (h : Turn g w X) (hb : Below w.heap.size X X') (hg : g ≤ w.heap.size) : Turn g w X' :=
  ⟨Nat.le_trans h.size hb.size, fun k hk hne => (hb.block k hk).trans (h.heap k hk hne), h.low.trans (hb.mono hg)⟩

set_option maxRecDepth 100000 in
set_option maxHeartbeats 3200000 in
theorem mops_of (k : Nat) (v : Int) (w0 : World) (g : Nat) (A : Option Addr) (n c : Nat) (l : List UInt8) (hv : v = (k : Int)) (hk : k ≤ 300) (w : World) (hr : Rdr w0 w g A n c l) :
    Calls Tryz.prog 72 #[.pointer (some ⟨g, 0, none⟩), .int .i64 v] w fun e w' => ∃ A' c', e = .returned (.slice A' k c') ∧ OwO w' w.heap.size A' c' (tkO k l) ∧ (∃ B m d, Rdr w0 w' g B m d (tkR k l)) ∧ Turn g w w' := by
  subst hv
  have hg := hr.lt
  have hfar := hr.far
  have HRR := hid hr
  clear hr
  go_enter Tryz.func72, Tryz.ntmps72
  go_wp2
  go_loopw [5, 6, 7, 8, 10] (fun v _ _ _ i wr => ∃ (j : Nat) (A' : Option Addr) (c' : Nat), j ≤ k ∧ i = .int .i64 (j : Int) ∧ v = .slice A' j c' ∧ OwO wr w.heap.size A' c' (tkO j l) ∧ Hid (∃ B m d, Rdr w0 wr g B m d (tkR j l)) ∧ Turn g w wr) (fun _ _ _ _ i _ => k - (intOf i).toNat)
  case atStart => exact ⟨0, none, 0, by omega, rfl, rfl, OwO.nil _ _, hid ⟨_, _, _, HRR.out⟩, Turn.below (Below.refl _ _) (by omega)⟩
  case round =>
    obtain ⟨j, A', c', hj, rfl, rfl, ho, hR, hT⟩ := hrel
    by_cases hlt : j < k
    · obtain ⟨B, m, d, hR⟩ := hR.out
      have hsn := tk_snoc j l
      obtain ⟨r, hr0⟩ : ∃ r, tkR j l = r := ⟨_, rfl⟩
      rw [hr0] at hR hsn
      obtain ⟨y, hy⟩ : ∃ y, gO r = y := ⟨_, rfl⟩
      obtain ⟨z, hz⟩ : ∃ z, gZ r = z := ⟨_, rfl⟩
      have hzm : z ≤ m := by rw [← hz, ← hR.len]; exact gZ_le r
      obtain ⟨D, hrun, hrD⟩ := cut_run hR.rd hR.len z hzm
      have hlen : (r.drop z).length = m - z := by rw [List.length_drop, hR.len]
      have HG := hid (show Got r y (z : Int) (if gQ r then 0 else 8) by rw [← hy, ← hz]; exact got_g r)
      have HS := hid (show tkO (j + 1) l = tkO j l ++ [y] ∧ tkR (j + 1) l = r.drop z by rw [← hy, ← hz]; exact hsn)
      have HM := hid hR.len
      have hc1 := hR.cell
      have hlt2 : (j : Int) < (k : Int) := by omega
      have hrd := hR.rd.keep hR.old
      have hsz0 := hT.size
      clear hsn hr0 hy hz
      go_wp2_with fail
      refine (oget_of B m d r HM _ hrd).mono ?_
      rintro e w1 ⟨o1, A1, k1, c1, z1, j1, rfl, hgot, hk1, ho1, b1⟩
      obtain ⟨rfl, rfl, rfl⟩ := Got.one hgot HG.out
      have HK := hid hk1
      have hR1 := hR.keep b1
      have hTb := Turn.below b1 (Nat.le_trans (Nat.le_of_lt hg) hsz0)
      have hT1 := hT.trans hTb
      have hO1 := ho.keep b1
      have th := thereO_new w1 #[.int .u8 0, .int .u8 0, .int .u32 0, .int .u8 0, .int .i64 0, .int .u8 0, .int .u32 0, .int .u8 0, .int .i64 0, .int .i64 0, .int .u8 0, .int .u32 0, .int .u8 0, .int .i64 0, .int .u8 0, .int .u32 0, .slice none 0 0] rfl 58
      have hne : w1.heap.size ≠ g := by have := b1.size; omega
      have hwr : w.heap.size ≤ w1.heap.size := Nat.le_trans hsz0 b1.size
      have ho1' := OwnI.base hsz0 ho1
      clear hR hrd hgot hTb HG hk1 hc1 ho1
      go_wp2_with (first
        | (refine wpList_store_o rfl (.tmp 6) (.tmp 18) rfl w1.heap.size rfl o1 A1 k1 c1 rfl th w1.heap.size (Nat.le_refl _) ?_; intro w2 bx2 th2 b2 hh2 sz2; clear sz2 hh2; have b12 : Below w1.heap.size w1 w2 := ((Below.refl _ _).alloc (Nat.le_refl _) _).trans b2; have hR2 := hR1.keep b12; have hc2 := hR2.cell; have hf2 := hR2.may; have hTs := Turn.set g w2 (.slice D (m - z) (d - z)); have bx3 := bx2.turn hTs hne)
        | (refine wpList_load_o rfl (.tmp 6) rfl _ rfl bx3 ?_)
        | (at_builtin; refine wpList_append_o rfl (.tmp 30) (.tmp 32) rfl w.heap.size A' j c' (tkO j l) (hid (tkO_len _ _)) rfl o1 A1 k1 c1 HK _ rfl ((hO1.keep b12).turn hTs (by omega)) ((ho1'.keep b12).turn' hTs (by omega)) _ (by simp [World.setCell]) rfl (by omega) (by have := hTs.size; have := b12.size; omega) ?_; intro A4 c4 w4 ho4 b4))
      have hR4 := (hR2.turned (B := D) hrD hlen).low b4 hg (by omega)
      have hT4 := ((hT1.trans (Turn.below b12 (by omega))).trans hTs).low2 b4 (by omega)
      clear hR1 hT1 hO1 ho1' th th2 bx2 bx3 b1 b2 b12 hR2 hc2 hf2 hTs b4 hrun hrD ho hR hT
      go_roundw
      case rel => exact ⟨j + 1, A4, c4, by omega, by go_num, rfl, by rw [HS.out.1]; exact ho4, hid ⟨D, m - z, d - z, by rw [HS.out.2]; exact hR4⟩, hT4⟩
      case measure => simp [intOf]; omega
    · have ej : j = k := by omega
      subst ej
      have hlt2 : ¬ ((j : Nat) : Int) < (j : Int) := by omega
      go_wp2
      go_ret
      exact ⟨A', c', rfl, ho, hR.out, hT⟩
end Go.Proofs.YtdhfnacdjjdijaaGreat
