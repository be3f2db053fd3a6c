/-
  Mail written over: what the statement's own spoil needs, and keeps.
-/
import Derived.Test.YtdhfnacdjjdijaaGreatMlW
namespace Go.Proofs.YtdhfnacdjjdijaaGreat
open Go.RowKit
set_option linter.unusedVariables false
set_option linter.unusedSimpArgs false

/-- Operations that may be written over: each with its row's place; what stands in them is let be. -/
structure Spo (W : World) (base b o n : Nat) (R : Nat → Option Addr × Nat × Nat) : Prop where
  lo : base ≤ b
  c16 : ∀ j, j < n → W.cell? ⟨b, o + j * 17 + 16, none⟩ = some (.slice (R j).1 (R j).2.1 (R j).2.2)
  cap : ∀ j, j < n → (R j).2.1 ≤ (R j).2.2 ∧ (R j).2.2 ≤ 9223372036854775807
  c4 : ∀ j, j < n → ∃ v, W.cell? ⟨b, o + j * 17 + 4, none⟩ = some (.int .i64 v)
  f4 : ∀ j, j < n → W.frozen? ⟨b, o + j * 17 + 4, none⟩ = false
  row : ∀ j, j < n → ∀ k, k < (R j).2.1 → ∃ b' o', (R j).1 = some ⟨b', o', none⟩ ∧ base ≤ b' ∧ b' ≠ b ∧ (∃ z, W.cell? ⟨b', o' + k, none⟩ = some (.int .i32 z)) ∧ W.frozen? ⟨b', o' + k, none⟩ = false
theorem Spo.rune {W : World} {base b o n : Nat} {R : Nat → Option Addr × Nat × Nat} (h : Spo W base b o n R) {g i : Nat} (hg : g ≠ b) (z : Int) : Spo (W.setCell ⟨g, i, none⟩ (.int .i32 z)) base b o n R := by
  have hc : ∀ k, (W.setCell ⟨g, i, none⟩ (.int .i32 z)).cell? ⟨b, k, none⟩ = W.cell? ⟨b, k, none⟩ := fun k => World.cell?_setCell_other _ _ _ _ (fun e => hg (by injection e))
  refine ⟨h.lo, fun j hj => by rw [hc]; exact h.c16 j hj, h.cap, fun j hj => by rw [hc]; exact h.c4 j hj, fun j hj => by rw [World.frozen?_setCell]; exact h.f4 j hj, fun j hj k hk => ?_⟩
  obtain ⟨b', o', h1, h2, h3, ⟨z', h4⟩, h5⟩ := h.row j hj k hk
  refine ⟨b', o', h1, h2, h3, ?_, by rw [World.frozen?_setCell]; exact h5⟩
  by_cases e : (⟨g, i, none⟩ : Addr) = ⟨b', o' + k, none⟩
  · rw [e]; exact ⟨z, World.cell?_setCell_same' _ _ _ (by rw [h4]; rfl)⟩
  · exact ⟨z', by rw [World.cell?_setCell_other _ _ _ _ e]; exact h4⟩
theorem Spo.serial {W : World} {base b o n : Nat} {R : Nat → Option Addr × Nat × Nat} (h : Spo W base b o n R) (i : Nat) (hi : i < n) (x : Int) : Spo (W.setCell ⟨b, o + i * 17 + 4, none⟩ (.int .i64 x)) base b o n R := by
  refine ⟨h.lo, fun j hj => ?_, h.cap, fun j hj => ?_, fun j hj => by rw [World.frozen?_setCell]; exact h.f4 j hj, fun j hj k hk => ?_⟩
  · rw [World.cell?_setCell_other _ _ _ _ (fun e => by injection e with _ e; omega)]; exact h.c16 j hj
  · by_cases e : i = j
    · subst e
      obtain ⟨v, hv⟩ := h.c4 i hj
      exact ⟨x, World.cell?_setCell_same' _ _ _ (by rw [hv]; rfl)⟩
    · obtain ⟨v, hv⟩ := h.c4 j hj
      exact ⟨v, by rw [World.cell?_setCell_other _ _ _ _ (fun e' => by injection e' with _ e'; omega)]; exact hv⟩
  · obtain ⟨b', o', h1, h2, h3, ⟨z', h4⟩, h5⟩ := h.row j hj k hk
    exact ⟨b', o', h1, h2, h3, ⟨z', by rw [World.cell?_setCell_other _ _ _ _ (fun e => h3 (by injection e with e; exact e.symm))]; exact h4⟩, by rw [World.frozen?_setCell]; exact h5⟩
theorem Spo.keep {W W' : World} {base b o n : Nat} {R : Nat → Option Addr × Nat × Nat} (h : Spo W base b o n R) (hb : Below W.heap.size W W') : Spo W' base b o n R := by
  refine ⟨h.lo, fun j hj => Go.Proofs.YtdhfnacdjjdijaaGreat.keep hb (h.c16 j hj), h.cap, fun j hj => ?_, fun j hj => ?_, fun j hj k hk => ?_⟩
  · obtain ⟨v, hv⟩ := h.c4 j hj
    exact ⟨v, Go.Proofs.YtdhfnacdjjdijaaGreat.keep hb hv⟩
  · obtain ⟨v, hv⟩ := h.c4 j hj
    rw [hb.frozen (p := ⟨b, o + j * 17 + 4, none⟩) (World.block_lt_of_cell? _ _ hv)]
    exact h.f4 j hj
  · obtain ⟨b', o', h1, h2, h3, ⟨z', h4⟩, h5⟩ := h.row j hj k hk
    refine ⟨b', o', h1, h2, h3, ⟨z', Go.Proofs.YtdhfnacdjjdijaaGreat.keep hb h4⟩, ?_⟩
    rw [hb.frozen (p := ⟨b', o' + k, none⟩) (World.block_lt_of_cell? _ _ h4)]
    exact h5

set_option maxRecDepth 100000 in
set_option maxHeartbeats 1600000 in
theorem spoil_go (m : Mld) (b o n c : Nat) (hnc : n ≤ c) (hc : c ≤ 9223372036854775807) (base : Nat) (R : Nat → Option Addr × Nat × Nat) (w : World) (hbase : base ≤ w.heap.size) (hs : Spo w base b o n R) :
    Calls Tryz.prog 23 #[.agg #[.int .u8 m.kd, .int .i64 m.us, .int .i64 m.se, .int .i64 m.co, .int .i64 m.fr, .int .i64 m.tt, .int .u8 m.ak, .int .i64 m.t0, .int .i64 m.t1, .int .i64 m.t2, .int .i64 m.t3, .slice (some ⟨b, o, none⟩) n c]] w fun e w' => (∃ v, e = .returned v) ∧ Below base w w' := by
  have hc2 : (c : Int) ≤ 9223372036854775807 := by omega
  have hc1 : (n : Int) ≤ c := by omega
  have hb0 : Below w.heap.size w (w.alloc (.cells (#[.int .u8 m.kd, .int .i64 m.us, .int .i64 m.se, .int .i64 m.co, .int .i64 m.fr, .int .i64 m.tt, .int .u8 m.ak, .int .i64 m.t0, .int .i64 m.t1, .int .i64 m.t2, .int .i64 m.t3, .slice (some ⟨b, o, none⟩) n c]) 27)) := (Below.refl _ _).alloc (Nat.le_refl _) _
  have hs0 := hs.keep hb0
  have hbb := hb0.mono hbase
  have t11 := (boxM_new w m (some ⟨b, o, none⟩) n c 27).c11
  clear hs hb0
  go_enter Tryz.func23, Tryz.ntmps23
  go_wp2
  generalize World.alloc w _ = W at hs0 hbb t11 ⊢
  go_loopw [2, 3] (fun i k wr => ∃ j : Nat, j ≤ n ∧ i = .int .i64 (j : Int) ∧ Spo wr base b o n R ∧ wr.cell? ⟨w.heap.size, 11, none⟩ = some (.slice (some ⟨b, o, none⟩) n c) ∧ Below base w wr) (fun i _ _ => n - (intOf i).toNat)
  case atStart => exact ⟨0, by omega, rfl, hs0, t11, hbb⟩
  case round =>
    obtain ⟨j, hj, rfl, hs, s11, hb⟩ := hrel
    by_cases hlt : j < n
    · have hlt2 : (j : Int) < (n : Int) := by omega
      obtain ⟨⟨A1, n1, c1⟩, hx⟩ : ∃ x, R j = x := ⟨_, rfl⟩
      have hcap := hs.cap j hlt
      rw [hx] at hcap
      simp only at hcap
      have hd2 : (c1 : Int) ≤ 9223372036854775807 := by omega
      have hd1 : (n1 : Int) ≤ (c1 : Int) := by omega
      have HXX := hid hx
      clear hx hcap
      go_wp2
      go_loopw [3] (fun k wx => ∃ t : Nat, t ≤ n1 ∧ k = .int .i64 (t : Int) ∧ Spo wx base b o n R ∧ wx.cell? ⟨w.heap.size, 11, none⟩ = some (.slice (some ⟨b, o, none⟩) n c) ∧ Below base w wx) (fun k _ => n1 - (intOf k).toNat)
      case atStart => exact ⟨0, by omega, rfl, hs, s11, hb⟩
      case round =>
        clear hs s11 hb
        obtain ⟨t, ht, rfl, hs, s11, hb⟩ := hrel
        have c16 := hs.c16 j hlt
        rw [HXX.out] at c16
        simp only at c16
        have HS := hid hs
        by_cases htn : t < n1
        · obtain ⟨b', o', hA, hb1, hb2, ⟨z, hz⟩, hf⟩ := hs.row j hlt t (by rw [HXX.out]; exact htn)
          rw [HXX.out] at hA
          simp only at hA
          subst hA
          have htn2 : (t : Int) < (n1 : Int) := by omega
          have hne : (⟨b', o' + t, none⟩ : Addr) ≠ ⟨w.heap.size, 11, none⟩ := fun e => by rw [e, s11] at hz; cases hz
          clear hs
          go_wp2_with fail
          go_region
          go_wp2_with fail
          go_roundw
          case rel => exact ⟨t + 1, by omega, by go_num, (HS.out.rune hb2 _).keep ((Below.refl _ _).drew), Go.Proofs.YtdhfnacdjjdijaaGreat.keep ((Below.refl _ _).drew) (by rw [World.cell?_setCell_other _ _ _ _ hne]; exact s11), (hb.setCell (p := ⟨b', o' + t, none⟩) hb1 _).drew⟩
          case measure => simp [intOf]; omega
        · have htn2 : ¬ (t : Int) < (n1 : Int) := by omega
          obtain ⟨v4, h4⟩ := hs.c4 j hlt
          have f4 := hs.f4 j hlt
          have hne : (⟨b, o + j * 17 + 4, none⟩ : Addr) ≠ ⟨w.heap.size, 11, none⟩ := fun e => by rw [e, s11] at h4; cases h4
          have s11' : (wr.setCell ⟨b, o + j * 17 + 4, none⟩ (.int .i64 (-7))).cell? ⟨w.heap.size, 11, none⟩ = some (.slice (some ⟨b, o, none⟩) n c) := by rw [World.cell?_setCell_other _ _ _ _ hne]; exact s11
          have hs' := hs.serial j hlt (-7)
          have hb' := hb.setCell (p := ⟨b, o + j * 17 + 4, none⟩) hs.lo (.int .i64 (-7))
          clear hs
          go_wp2
          go_roundw
          case rel => exact ⟨j + 1, by omega, by go_num, hs', s11', hb'⟩
          case measure => simp [intOf]; omega
    · have hlt2 : ¬ (j : Int) < (n : Int) := by omega
      go_wp2
      exact bodyPost_end (v := .tuple #[]) (by simp [results, Tryz.results23]) rfl ⟨⟨_, rfl⟩, hb⟩

theorem frozen_cells {W : World} {g : Nat} {cur : Array Value} {t : TypeId} (h : W.heap[g]? = some (.cells cur t (0, 0))) (i : Nat) : W.frozen? ⟨g, i, none⟩ = false := by
  simp [World.frozen?, h]
/-- Operations of the call's own may be written over. -/
theorem OwO.spo {w : World} {base : Nat} {A : Option Addr} {c : Nat} {l : List Opd} (h : OwO w base A c l) (hp : 0 < l.length) : ∃ b o R, A = some ⟨b, o, none⟩ ∧ Spo w base b o l.length R := by
  obtain ⟨xs, rfl, h2, h3⟩ := h
  rw [List.length_map] at hp
  have hrd := h2.rd fx_len
  obtain ⟨b, o, hA, hc⟩ := hrd.2.2 hp
  obtain ⟨h0, h1⟩ := h2
  rcases h1 with ⟨hv, hn⟩ | ⟨g, cap, cur, hv, hbg, hg, hnc, hcm, hcs, htk⟩
  · omega
  rw [hA] at hv
  injection hv with hv1 hv2 hv3
  injection hv1 with hv1
  injection hv1 with hv1 hv4
  subst hv1 hv4
  have cell : ∀ j (hj : j < xs.length) i, i < 17 → ∀ v, (fx xs[j])[i]? = some v → w.cell? ⟨b, 0 + j * 17 + i, none⟩ = some v := fun j hj i hi v hv => by
    rw [Nat.add_assoc]
    exact Rds.each (c := c) fx_len hc j hj i hi v hv
  refine ⟨b, 0, fun j => if hj : j < xs.length then (xs[j].A, xs[j].o.row.length, xs[j].c) else (none, 0, 0), hA, ?_⟩
  rw [List.length_map]
  refine ⟨hbg, fun j hj => ?_, fun j hj => ?_, fun j hj => ?_, fun j hj => frozen_cells hg _, fun j hj k hk => ?_⟩
  · rw [dif_pos hj]; exact cell j hj 16 (by omega) _ rfl
  · rw [dif_pos hj]
    have hr := (h3 _ (List.getElem_mem hj)).ri
    exact ⟨hr.len, hr.cap⟩
  · exact ⟨xs[j].o.s, cell j hj 4 (by omega) _ rfl⟩
  · rw [dif_pos hj] at hk ⊢
    have hown := h3 _ (List.getElem_mem hj)
    have hk' : k < xs[j].o.row.length := hk
    obtain ⟨b', o', hA', hc'⟩ := hown.ri.at_ (by omega)
    obtain ⟨⟨_, k1⟩, _⟩ := hown
    rcases k1 with ⟨kv, kn⟩ | ⟨g', cap', cur', kv, kbg, kg, _⟩
    · have kn' : (i32s xs[j].o.row).length = 0 := kn
      rw [i32s_length] at kn'
      omega
    rw [hA'] at kv
    injection kv with kv1
    injection kv1 with kv1
    injection kv1 with kv1 kv4
    subst kv1
    refine ⟨b', o', hA', kbg, fun e => ?_, ⟨_, hc' k hk⟩, frozen_cells kg _⟩
    subst e
    rw [kg] at hg
    simp at hg

set_option maxRecDepth 100000 in
set_option maxHeartbeats 800000 in
theorem spoil_of (m : Mld) (A : Option Addr) (n c : Nat) (hn : Hid (m.ops.length = n)) (base : Nat) (w : World) (hbase : base ≤ w.heap.size) (ho : OwO w base A c m.ops) :
    Calls Tryz.prog 23 #[.agg #[.int .u8 m.kd, .int .i64 m.us, .int .i64 m.se, .int .i64 m.co, .int .i64 m.fr, .int .i64 m.tt, .int .u8 m.ak, .int .i64 m.t0, .int .i64 m.t1, .int .i64 m.t2, .int .i64 m.t3, .slice A n c]] w fun e w' => (∃ v, e = .returned v) ∧ Below base w w' := by
  by_cases h0 : n = 0
  · subst h0
    have hbb : Below base w (w.alloc (.cells (#[.int .u8 m.kd, .int .i64 m.us, .int .i64 m.se, .int .i64 m.co, .int .i64 m.fr, .int .i64 m.tt, .int .u8 m.ak, .int .i64 m.t0, .int .i64 m.t1, .int .i64 m.t2, .int .i64 m.t3, .slice A 0 c]) 27)) := ((Below.refl _ _).alloc (Nat.le_refl _) _).mono hbase
    clear ho
    go_enter Tryz.func23, Tryz.ntmps23
    go_wp2
    go_loopw [2] (fun i wr => i = .int .i64 0 ∧ wr = w.alloc (.cells (#[.int .u8 m.kd, .int .i64 m.us, .int .i64 m.se, .int .i64 m.co, .int .i64 m.fr, .int .i64 m.tt, .int .u8 m.ak, .int .i64 m.t0, .int .i64 m.t1, .int .i64 m.t2, .int .i64 m.t3, .slice A 0 c]) 27)) (fun _ _ => 0)
    case atStart => exact ⟨rfl, rfl⟩
    case round =>
      obtain ⟨rfl, rfl⟩ := hrel
      go_wp2
      exact bodyPost_end (v := .tuple #[]) (by simp [results, Tryz.results23]) rfl ⟨⟨_, rfl⟩, hbb⟩
  · have hln := hn.out
    have h1 := ho.rd.len
    have h2 := ho.rd.cap
    obtain ⟨b, o, R, rfl, hs⟩ := ho.spo (by omega)
    rw [hln] at hs
    exact spoil_go m b o n c (by omega) h2 base R w hbase hs
end Go.Proofs.YtdhfnacdjjdijaaGreat
