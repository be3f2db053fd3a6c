/-
  Layer 12's laws: spoil.
-/
import Derived.Test.YtofnjdkfhboapaaDlA
import Derived.BigRegion
namespace Go.Proofs.Ytofnjdkfhboapaa
open Go.RowKit
set_option linter.unusedVariables false
set_option linter.unusedSimpArgs false

/-- Sectors that may be written over: their bytes lie in blocks from lo to below hi. -/
structure Spo (w : World) (lo hi b o n : Nat) (R : Nat → Option Addr × Nat × Nat) : Prop where
  bl : 0 < n → lo ≤ b ∧ b < hi
  cap : ∀ j, j < n → (R j).2.1 ≤ (R j).2.2 ∧ (R j).2.2 ≤ 9223372036854775807
  hd : ∀ j, j < n → w.cell? ⟨b, o + j * 2 + 1, none⟩ = some (.slice (R j).1 (R j).2.1 (R j).2.2)
  row : ∀ j, j < n → ∀ k, k < (R j).2.1 → ∃ b', (R j).1 = some ⟨b', 0, none⟩ ∧ lo ≤ b' ∧ b' < hi ∧ b' ≠ b ∧ (∃ z : Int, w.cell? ⟨b', k, none⟩ = some (.int .u8 z)) ∧ w.frozen? ⟨b', k, none⟩ = false
theorem Spo.keep {w w' : World} {lo hi b o n : Nat} {R : Nat → Option Addr × Nat × Nat} (h : Spo w lo hi b o n R) (hb : Below w.heap.size w w') : Spo w' lo hi b o n R := by
  refine ⟨h.bl, h.cap, fun j hj => Go.Proofs.Ytofnjdkfhboapaa.keep hb (h.hd j hj), fun j hj k hk => ?_⟩
  obtain ⟨b', h1, h2, h3, h4, ⟨z, hz⟩, h5⟩ := h.row j hj k hk
  exact ⟨b', h1, h2, h3, h4, ⟨z, Go.Proofs.Ytofnjdkfhboapaa.keep hb hz⟩, keepz hb hz h5⟩
theorem Spo.byte {w : World} {lo hi b o n : Nat} {R : Nat → Option Addr × Nat × Nat} (h : Spo w lo hi b o n R) {g : Nat} (hg : g ≠ b) (q : Nat) (x : Int) : Spo (w.setCell ⟨g, q, none⟩ (.int .u8 x)) lo hi b o n R := by
  refine ⟨h.bl, h.cap, fun j hj => ?_, fun j hj k hk => ?_⟩
  · rw [World.cell?_setCell_far _ _ _ _ hg]; exact h.hd j hj
  · obtain ⟨b', h1, h2, h3, h4, ⟨z, hz⟩, h5⟩ := h.row j hj k hk
    refine ⟨b', h1, h2, h3, h4, ?_, by rw [World.frozen?_setCell]; exact h5⟩
    by_cases e : (⟨g, q, none⟩ : Addr) = ⟨b', k, none⟩
    · rw [e]
      exact ⟨x, World.cell?_setCell_same _ _ _ hz⟩
    · exact ⟨z, by rw [World.cell?_setCell_other _ _ _ _ e]; exact hz⟩
theorem Mid.cell {lo hi : Nat} {w w' : World} (h : Mid lo hi w w') {a : Addr} {v : Value} (hb : a.block < lo ∨ hi ≤ a.block) (hc : w.cell? a = some v) : w'.cell? a = some v := by
  rw [World.cell?_of_block (w := w) (h.block a.block (World.block_lt_of_cell? w a hc) hb)]; exact hc
theorem Mid.frozen {lo hi : Nat} {w w' : World} (h : Mid lo hi w w') {a : Addr} {v : Value} (hb : a.block < lo ∨ hi ≤ a.block) (hc : w.cell? a = some v) (hf : w.frozen? a = false) : w'.frozen? a = false := by
  rw [World.frozen?_of_block (w := w) (h.block a.block (World.block_lt_of_cell? w a hc) hb)]; exact hf
theorem Spo.mid {w w' : World} {lo hi b o n l2 h2 : Nat} {R : Nat → Option Addr × Nat × Nat} (h : Spo w lo hi b o n R) (hm : Mid l2 h2 w w') (hh : h2 ≤ lo) : Spo w' lo hi b o n R := by
  refine ⟨h.bl, h.cap, fun j hj => ?_, fun j hj k hk => ?_⟩
  · have := h.bl (by omega)
    exact hm.cell (a := ⟨b, o + j * 2 + 1, none⟩) (.inr (by show h2 ≤ b; omega)) (h.hd j hj)
  · obtain ⟨b', h1, h2', h3, h4, ⟨z, hz⟩, h5⟩ := h.row j hj k hk
    exact ⟨b', h1, h2', h3, h4, ⟨z, hm.cell (a := ⟨b', k, none⟩) (.inr (by show h2 ≤ b'; omega)) hz⟩, hm.frozen (a := ⟨b', k, none⟩) (.inr (by show h2 ≤ b'; omega)) hz h5⟩
theorem BoxK.mid {w w' : World} {lo hi b : Nat} {d : Dsk} {A : Option Addr} {n c : Nat} (h : BoxK w b d A n c) (hm : Mid lo hi w w') (hb : b < lo ∨ hi ≤ b) : BoxK w' b d A n c :=
  fun j v hv => hm.cell (a := ⟨b, 0 + j, none⟩) hb (h j v hv)
/-- Bytes that may be written over. -/
structure Pb (w : World) (lo hi : Nat) (A : Option Addr) (b n c : Nat) : Prop where
  at_ : 0 < n → A = some ⟨b, 0, none⟩ ∧ lo ≤ b ∧ b < hi
  le : n ≤ c ∧ c ≤ 9223372036854775807
  row : ∀ k, k < n → (∃ z : Int, w.cell? ⟨b, k, none⟩ = some (.int .u8 z)) ∧ w.frozen? ⟨b, k, none⟩ = false
theorem Pb.keep {w w' : World} {lo hi b n c : Nat} {A : Option Addr} (h : Pb w lo hi A b n c) (hb : Below w.heap.size w w') : Pb w' lo hi A b n c :=
  ⟨h.at_, h.le, fun k hk => by
    obtain ⟨⟨z, hz⟩, hf⟩ := h.row k hk
    exact ⟨⟨z, Go.Proofs.Ytofnjdkfhboapaa.keep hb hz⟩, keepz hb hz hf⟩⟩
theorem Pb.mid {w w' : World} {lo hi b n c l2 h2 : Nat} {A : Option Addr} (h : Pb w lo hi A b n c) (hm : Mid l2 h2 w w') (hh : h2 ≤ lo ∨ hi ≤ l2) : Pb w' lo hi A b n c :=
  ⟨h.at_, h.le, fun k hk => by
    obtain ⟨⟨z, hz⟩, hf⟩ := h.row k hk
    obtain ⟨_, h1, h2'⟩ := h.at_ (by omega)
    have hb : b < l2 ∨ h2 ≤ b := by omega
    exact ⟨⟨z, hm.cell (a := ⟨b, k, none⟩) hb hz⟩, hm.frozen (a := ⟨b, k, none⟩) hb hz hf⟩⟩
theorem Pb.byte {w : World} {lo hi b n c : Nat} {A : Option Addr} (h : Pb w lo hi A b n c) (q : Nat) (x : Int) : Pb (w.setCell ⟨b, q, none⟩ (.int .u8 x)) lo hi A b n c :=
  ⟨h.at_, h.le, fun k hk => by
    obtain ⟨⟨z, hz⟩, hf⟩ := h.row k hk
    refine ⟨?_, by rw [World.frozen?_setCell]; exact hf⟩
    by_cases e : (⟨b, q, none⟩ : Addr) = ⟨b, k, none⟩
    · rw [e]; exact ⟨x, World.cell?_setCell_same _ _ _ hz⟩
    · exact ⟨z, by rw [World.cell?_setCell_other _ _ _ _ e]; exact hz⟩⟩
theorem Own.pb {w : World} {base : Nat} {A : Option Addr} {c : Nat} {l : List UInt8} (h : Own w base 5 A c l) : ∃ b, Pb w base w.heap.size A b l.length c := by
  rcases Nat.eq_zero_or_pos l.length with h0 | h0
  · exact ⟨0, fun h => absurd h (by omega), ⟨h.rd.1, h.rd.2.1⟩, fun k hk => absurd hk (by omega)⟩
  · obtain ⟨g, hA, hbg, hgs, _, hc, hz⟩ := row_at h h0
    exact ⟨g, fun _ => ⟨hA, hbg, hgs⟩, ⟨h.rd.1, h.rd.2.1⟩, fun k hk => ⟨⟨(l[k].toNat : Int), hc k _ (by simp [u8s, hk])⟩, hz k⟩⟩
theorem OwT.spo {w : World} {base : Nat} {A : Option Addr} {c : Nat} {L : List Sct} (h : OwT w base A c L) : ∃ b o R, (0 < L.length → A = some ⟨b, o, none⟩) ∧ Spo w base w.heap.size b o L.length R := by
  obtain ⟨xs, rfl, h2, h3, h4⟩ := h
  rw [List.length_map]
  rcases Nat.eq_zero_or_pos xs.length with h0 | h0
  · rw [h0]
    exact ⟨0, 0, fun _ => (none, 0, 0), fun h => absurd h (by omega), fun h => absurd h (by omega), fun j hj => absurd hj (by omega), fun j hj => absurd hj (by omega), fun j hj => absurd hj (by omega)⟩
  · obtain ⟨g, hA, hbg, hgs, ⟨cur, hgc⟩, hc, hz⟩ := row_at h2 h0
    refine ⟨g, 0, fun j => if hj : j < xs.length then (xs[j].A, xs[j].l.length, xs[j].c) else (none, 0, 0), fun _ => hA, fun _ => ⟨hbg, hgs⟩, fun j hj => ?_, fun j hj => ?_, fun j hj k hk => ?_⟩
    · rw [dif_pos hj]
      have := (h3 _ (List.getElem_mem hj)).rd
      exact ⟨this.1, this.2.1⟩
    · rw [dif_pos hj, Nat.zero_add]
      exact hc _ _ (by rw [flat_at fk_len xs j hj 1 (by omega)]; rfl)
    · rw [dif_pos hj] at hk ⊢
      simp only at hk ⊢
      have ho := h3 _ (List.getElem_mem hj)
      obtain ⟨b', hB, hb1, hb2, ⟨cur', hb3⟩, hc', hz'⟩ := row_at ho (by omega)
      refine ⟨b', hB, hb1, hb2, fun e => ?_, ⟨(xs[j].l[k].toNat : Int), hc' k _ (by simp [u8s, hk])⟩, hz' k⟩
      subst e
      exact row_type hgc (by decide) ho ⟨b', 0, none⟩ hB rfl

set_option maxRecDepth 100000 in
set_option maxHeartbeats 1600000 in
theorem spoil_go (v : Dsk) (A : Option Addr) (b o n c lo hi : Nat) (R : Nat → Option Addr × Nat × Nat) (hA : 0 < n → A = some ⟨b, o, none⟩) (hnc : n ≤ c) (hc : c ≤ 9223372036854775807) (w : World) (hlo : lo ≤ w.heap.size) (hhi : hi ≤ w.heap.size) (hs : Spo w lo hi b o n R) :
    Calls Try.prog 24 #[.agg #[.slice A n c, .int .i64 v.st, .int .i64 v.lf, .bool v.dd]] w fun e w' => (∃ u, e = .returned u) ∧ Mid lo hi w w' := by
  have hc2 : (c : Int) ≤ 9223372036854775807 := by omega
  have hc1 : (n : Int) ≤ c := by omega
  have hb0 := below1 w (.cells (#[.slice A n c, .int .i64 v.st, .int .i64 v.lf, .bool v.dd]) 24)
  have hs0 := hs.keep hb0
  have hm0 : Mid lo hi w (w.alloc (.cells (#[.slice A n c, .int .i64 v.st, .int .i64 v.lf, .bool v.dd]) 24)) := Mid.of hb0
  have t0 := (boxK_new w v A n c 24).sl
  clear hs hb0
  go_enter Try.func24, Try.ntmps24
  go_wp2
  generalize World.alloc w _ = W at hs0 hm0 t0 ⊢
  go_loopw [2, 3] (fun i k wr => ∃ j : Nat, j ≤ n ∧ i = .int .i64 (j : Int) ∧ Spo wr lo hi b o n R ∧ wr.cell? ⟨w.heap.size, 0, none⟩ = some (.slice A n c) ∧ Mid lo hi w wr) (fun i _ _ => n - (intOf i).toNat)
  case atStart => exact ⟨0, by omega, rfl, hs0, t0, hm0⟩
  case round =>
    clear hs0 hm0 t0
    obtain ⟨j, hj, rfl, hs, s0, hm⟩ := hrel
    by_cases hlt : j < n
    · have hlt2 : (j : Int) < (n : Int) := by omega
      obtain rfl := hA (by omega)
      obtain ⟨⟨A1, n1, c1⟩, hx⟩ : ∃ x, R j = x := ⟨_, rfl⟩
      have hcap := hs.cap j hlt
      rw [hx] at hcap
      simp only at hcap
      have hd2 : (c1 : Int) ≤ 9223372036854775807 := by omega
      have hd1 : (n1 : Int) ≤ (c1 : Int) := by omega
      have HXX := hid hx
      clear hx hcap
      go_wp2
      go_loopw [3] (fun k wx => ∃ t : Nat, t ≤ n1 ∧ k = .int .i64 (t : Int) ∧ Spo wx lo hi b o n R ∧ wx.cell? ⟨w.heap.size, 0, none⟩ = some (.slice (some ⟨b, o, none⟩) n c) ∧ Mid lo hi w wx) (fun k _ => n1 - (intOf k).toNat)
      case atStart => exact ⟨0, by omega, rfl, hs, s0, hm⟩
      case round =>
        clear hs s0 hm
        obtain ⟨t, ht, rfl, hs, s0, hm⟩ := hrel
        have hh := hs.hd j hlt
        rw [HXX.out] at hh
        simp only at hh
        have HS := hid hs
        by_cases htn : t < n1
        · obtain ⟨b', hB, hb1, hb2, hb3, ⟨z, hz⟩, hf⟩ := hs.row j hlt t (by rw [HXX.out]; exact htn)
          rw [HXX.out] at hB
          simp only at hB
          subst hB
          have htn2 : (t : Int) < (n1 : Int) := by omega
          have hne : b' ≠ w.heap.size := by omega
          have HM := hid hm
          clear hs hm
          go_wp2_with fail
          go_region
          go_wp2_with fail
          go_roundw
          case rel => exact ⟨t + 1, by omega, by go_num, (HS.out.byte hb3 t _).keep ((Below.refl _ _).drew), Go.Proofs.Ytofnjdkfhboapaa.keep ((Below.refl _ _).drew) (by rw [World.cell?_setCell_far _ _ _ _ hne]; exact s0), (HM.out.trans (Mid.one ((Below.refl lo _).setCell (p := ⟨b', t, none⟩) hb1 _) (fun q hq => Below.heap_setCell _ _ _ _ hq) (.inl ⟨hb1, hb2⟩))).trans (Mid.of (Below.refl _ _).drew)⟩
          case measure => simp [intOf]; omega
        · have htn2 : ¬ (t : Int) < (n1 : Int) := by omega
          clear hs
          go_wp2
          go_roundw
          case rel => exact ⟨j + 1, by omega, by go_num, HS.out, s0, hm⟩
          case measure => simp [intOf]; omega
    · have hlt2 : ¬ (j : Int) < (n : Int) := by omega
      go_wp2
      exact bodyPost_end (v := .tuple #[]) (by simp [results, Try.results24]) rfl ⟨⟨_, rfl⟩, hm⟩
end Go.Proofs.Ytofnjdkfhboapaa
