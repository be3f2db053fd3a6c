/-
  The document's own answers of layer 12: Twin.
-/
import Derived.Test.YtofnjdkfhboapaaDkC
import Derived.Deep.RegionHeldLaw
namespace Go.Proofs.Ytofnjdkfhboapaa
open Go.RowKit
set_option linter.unusedVariables false
set_option linter.unusedSimpArgs false

theorem sct_take (L : List Sct) (j : Nat) (hj : j < L.length) : L.take j ++ [⟨L[j].a, L[j].b⟩] = L.take (j + 1) := (List.take_succ_eq_append_getElem hj).symm
theorem own_other {W W' : World} {b : Nat} (hh : ∀ k, k ≠ b → W'.heap[k]? = W.heap[k]?) {base : Nat} (hb : b < base) {e : TypeId} {s k : Nat} {v : Value} {xs : List Value} (h : W.ownsRow base e s v k xs) : W'.ownsRow base e s v k xs := by
  obtain ⟨h0, h1⟩ := h
  refine ⟨h0, ?_⟩
  rcases h1 with h | ⟨g, cap, cur, hv, hbg, hg, r⟩
  · exact .inl h
  · exact .inr ⟨g, cap, cur, hv, hbg, by rw [hh g (by omega)]; exact hg, r⟩
theorem OwS.setc {W : World} {base : Nat} {A : Option Addr} {c : Nat} {L : List Sct} (h : OwS W base A c L) {g : Nat} (hg : g < base) (k : Nat) (v : Value) : OwS (W.setCell ⟨g, k, none⟩ v) base A c L := by
  obtain ⟨xs, h1, h2, h3⟩ := h
  have hh : ∀ q, q ≠ g → (W.setCell ⟨g, k, none⟩ v).heap[q]? = W.heap[q]? := fun q hq => Below.heap_setCell _ _ _ _ hq
  exact ⟨xs, h1, own_other hh hg h2, fun x hx => own_other hh hg (h3 x hx)⟩
theorem froz_new (w : World) (cs : Array Value) (t : TypeId) (k : Nat) : (w.alloc (.cells cs t)).frozen? ⟨w.heap.size, k, none⟩ = false := frozen_of_row _ _ _ _ _ (heap_alloc_last w _)
set_option maxRecDepth 100000 in
set_option maxHeartbeats 3200000 in
theorem ktwin_of (d : Dsk) (A : Option Addr) (n c : Nat) (hn : Hid (d.se.length = n)) (h5 : n ≤ 9000) (h6 : Hid (∀ i (hi : i < d.se.length), d.se[i].b.length ≤ 140737488355328)) (w : World) (hr : RdS w A c d.se) :
    Calls Try.prog 15 #[.agg #[.slice A n c, .int .i64 d.st, .int .i64 d.lf, .bool d.dd]] w fun e w' => ∃ A' c', e = .returned (.agg #[.slice A' n c', .int .i64 d.st, .int .i64 d.lf, .bool d.dd]) ∧ OwS w' w.heap.size A' c' d.se ∧ Below w.heap.size w w' := by
  obtain ⟨i0, hi0, hz0, hz1, hz2⟩ := info_parts info_u8
  have hc2 : (c : Int) ≤ 9223372036854775807 := by have := hr.cap; omega
  have hc1 : (n : Int) ≤ c := by have := hr.len; have := hn.out; omega
  have xa := (boxK_new w d A n c 24).keep (below1 _ (.cells (#[.slice none 0 0, .int .i64 zK.st, .int .i64 zK.lf, .bool zK.dd]) 24))
  have hb0 := below_in (below1 w (.cells (#[.slice A n c, .int .i64 d.st, .int .i64 d.lf, .bool d.dd]) 24)) (below1 _ (.cells (#[.slice none 0 0, .int .i64 zK.st, .int .i64 zK.lf, .bool zK.dd]) 24))
  have xz := boxK_new (w.alloc (.cells (#[.slice A n c, .int .i64 d.st, .int .i64 d.lf, .bool d.dd]) 24)) zK none 0 0 24
  have fz := froz_new (w.alloc (.cells (#[.slice A n c, .int .i64 d.st, .int .i64 d.lf, .bool d.dd]) 24)) (#[.slice none 0 0, .int .i64 zK.st, .int .i64 zK.lf, .bool zK.dd]) 24
  have f0 := keepz (below1 (w.alloc (.cells (#[.slice A n c, .int .i64 d.st, .int .i64 d.lf, .bool d.dd]) 24)) (.cells (#[.slice none 0 0, .int .i64 zK.st, .int .i64 zK.lf, .bool zK.dd]) 24)) (boxK_new w d A n c 24).sl (froz_new w _ _ 0)
  have es : (w.alloc (.cells (#[.slice A n c, .int .i64 d.st, .int .i64 d.lf, .bool d.dd]) 24)).heap.size = w.heap.size + 1 := by simp [go_sem]
  have ew : ((w.alloc (.cells (#[.slice A n c, .int .i64 d.st, .int .i64 d.lf, .bool d.dd]) 24)).alloc (.cells (#[.slice none 0 0, .int .i64 zK.st, .int .i64 zK.lf, .bool zK.dd]) 24)).heap.size = w.heap.size + 2 := by simp [go_sem]
  rw [es] at xz fz
  have HR := hid hr
  clear hr es
  go_enter Try.func15, Try.ntmps15
  go_wp2
  replace xa : BoxK ((w.alloc (.cells (#[.slice A n c, .int .i64 d.st, .int .i64 d.lf, .bool d.dd]) 24)).alloc (.cells (#[.slice none 0 0, .int .i64 0, .int .i64 0, .bool false]) 24)) w.heap.size d A n c := xa
  replace xz : BoxK ((w.alloc (.cells (#[.slice A n c, .int .i64 d.st, .int .i64 d.lf, .bool d.dd]) 24)).alloc (.cells (#[.slice none 0 0, .int .i64 0, .int .i64 0, .bool false]) 24)) (w.heap.size + 1) zK none 0 0 := xz
  replace fz : ∀ k, ((w.alloc (.cells (#[.slice A n c, .int .i64 d.st, .int .i64 d.lf, .bool d.dd]) 24)).alloc (.cells (#[.slice none 0 0, .int .i64 0, .int .i64 0, .bool false]) 24)).frozen? ⟨w.heap.size + 1, k, none⟩ = false := fz
  replace f0 : ((w.alloc (.cells (#[.slice A n c, .int .i64 d.st, .int .i64 d.lf, .bool d.dd]) 24)).alloc (.cells (#[.slice none 0 0, .int .i64 0, .int .i64 0, .bool false]) 24)).frozen? ⟨w.heap.size, 0, none⟩ = false := f0
  replace ew : ((w.alloc (.cells (#[.slice A n c, .int .i64 d.st, .int .i64 d.lf, .bool d.dd]) 24)).alloc (.cells (#[.slice none 0 0, .int .i64 0, .int .i64 0, .bool false]) 24)).heap.size = w.heap.size + 2 := ew
  replace hb0 : Below w.heap.size w ((w.alloc (.cells (#[.slice A n c, .int .i64 d.st, .int .i64 d.lf, .bool d.dd]) 24)).alloc (.cells (#[.slice none 0 0, .int .i64 0, .int .i64 0, .bool false]) 24)) := hb0
  generalize World.alloc (World.alloc w _) _ = W at xa xz fz f0 ew hb0 ⊢
  have EW := hid ew
  clear ew
  go_loopw [3, 4] (fun v i wr => ∃ (j : Nat) (A' : Option Addr) (c' : Nat), j ≤ n ∧ v = .slice A' j c' ∧ i = .int .i64 (j : Int) ∧ OwS wr W.heap.size A' c' (d.se.take j) ∧ Below W.heap.size W wr) (fun _ i _ => n - (intOf i).toNat)
  case atStart => exact ⟨0, none, 0, by omega, rfl, rfl, OwS.nil _ _, Below.refl _ _⟩
  case round =>
    obtain ⟨j, A', c', hj, rfl, rfl, ho, hb⟩ := hrel
    have hbw := below_in hb0 hb
    have x0 := xa.sl
    have x0' := (xa.keep hb).sl
    by_cases hjn : j < n
    · have hlt2 : (j : Int) < (n : Int) := by omega
      have hjl : j < d.se.length := by rw [hn.out]; exact hjn
      obtain ⟨b, o, rfl, hcell⟩ := (HR.out.keep hb0).at_ (by omega)
      obtain ⟨X, x, y0, y1, hX⟩ := hcell j hjl
      have hst := sct_take d.se j hjl
      have hl6 := h6.out j hjl
      obtain ⟨z, hz⟩ : ∃ z, d.se[j].a = z := ⟨_, rfl⟩
      obtain ⟨l, hl⟩ : ∃ l, d.se[j].b = l := ⟨_, rfl⟩
      obtain ⟨p, hp⟩ : ∃ p, l.length = p := ⟨_, rfl⟩
      rw [hz] at y0 hst
      rw [hl, hp] at y1 hl6
      rw [hl] at hX hst
      have HP := hid hp
      have HST := hid hst
      have HJ := hid (show (d.se.take j).length = j by rw [List.length_take]; omega)
      clear hst hp hl hz hcell hjl
      have q0 := fun w' (h : Below W.heap.size W w') => Go.Proofs.Ytofnjdkfhboapaa.keep h x0
      have q1 := fun w' (h : Below W.heap.size W w') => Go.Proofs.Ytofnjdkfhboapaa.keep h y0
      have q2 := fun w' (h : Below W.heap.size W w') => Go.Proofs.Ytofnjdkfhboapaa.keep h y1
      go_wp2_with fail
      clear x0 x0' y0 y1
      have S0 : Below W.heap.size W wr.drew := hb.drew
      go_region_held_law (fun w' => Below W.heap.size W w') (with_reducible (first | assumption | exact S0 | exact Below.alloc (by assumption) (Below.size (by assumption)) _))
        (first
          | (refine step_append_rdx rfl (.const (.slice none 0 0)) (.tmp 24) _ (by rfl) wr.drew.heap.size 5 Try.underlying30 hi0 hz0 hz1 hz2 none 0 0 [] (hid rfl) (by rfl) (Own.nil _ _ _) X p x l HP (by rfl) (hX.keep S0) (by omega) (Nat.le_refl _) ?_; intro A2 c2 w2 ho2 b2; rw [List.nil_append] at ho2; have hb2 := below_in S0 b2; have hw2 := (ho.keep (Below.refl _ wr).drew).keep b2; replace ho2 := Own.mono ho2 S0.size)
          | (refine step_append_k rfl (.tmp 12) (.tmp 27) rfl rfl W.heap.size A' j c' (d.se.take j) HJ (by rfl) z l A2 p c2 HP w2 rfl hw2 ho2 w2.heap.size rfl (by rfl) (by omega) hb2.size ?_; intro A3 c3 w3 ho3 b3; have hb3 := hb2.trans b3))
      all_goals
        rw [HST.out] at ho3
        clear q0 q1 q2 S0 b2 hb2 hw2 ho2 b3 ho hb hbw hX
        go_simp
        go_wp2
        go_roundw
        case rel => exact ⟨j + 1, A3, c3, by omega, rfl, by go_num, ho3, hb3⟩
        case measure => simp [intOf]; omega
    · have hlt2 : ¬ (j : Int) < (n : Int) := by omega
      have ej : j = n := by omega
      subst ej
      rw [List.take_of_length_le (by have := hn.out; omega)] at ho
      have x1 := (xa.keep hb).s
      have x2 := (xa.keep hb).l
      have x3 := (xa.keep hb).d
      have z0 := (xz.keep hb).sl
      have z1 := (xz.keep hb).s
      have z2 := (xz.keep hb).l
      have z3 := (xz.keep hb).d
      have k0 := keepz hb x0 f0
      have g0 := keepz hb xz.sl (fz 0)
      have g1 := keepz hb xz.s (fz 1)
      have g2 := keepz hb xz.l (fz 2)
      have g3 := keepz hb xz.d (fz 3)
      have hzr := hb.size
      clear x0 xa xz fz f0
      go_wp2
      have ew := EW.out
      exact bodyPost_ret (v := .agg #[.slice A' j c', .int .i64 d.st, .int .i64 d.lf, .bool d.dd]) (by simp [results, Try.results15, go_sem, *]) rfl ⟨A', c', rfl, OwS.base (((((ho.setc (by omega) _ _).setc (by omega) _ _).setc (by omega) _ _).setc (by omega) _ _).setc (by omega) _ _) hb0.size, set4 (hbw.setCell (Nat.le_refl _) _) (by omega) _ _ _ _⟩
end Go.Proofs.Ytofnjdkfhboapaa
