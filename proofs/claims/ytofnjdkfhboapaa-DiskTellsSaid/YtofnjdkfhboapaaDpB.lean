/-
  The program's own answers of layer 12: Twin.
-/
import Derived.Test.YtofnjdkfhboapaaDpA
import Derived.Test.YtofnjdkfhboapaaDpW
import Derived.Deep.RegionHeldLaw
namespace Go.Proofs.Ytofnjdkfhboapaa
open Go.RowKit
set_option linter.unusedVariables false
set_option linter.unusedSimpArgs false

set_option maxHeartbeats 400000 in
theorem clone_any (A : Option Addr) (n c : Nat) (l : List UInt8) (hn : Hid (l.length = n)) (hlen : n ≤ 140737488355328) (w : World) (hr : Rd w A c l) :
    Calls Try.prog 36 #[.slice A n c] w fun e w' => ∃ A' c', e = .returned (.slice A' n c') ∧ Own w' w.heap.size 5 A' c' l ∧ Below w.heap.size w w' := by
  obtain ⟨i0, hi0, hz0, hz1, hz2⟩ := info_parts info_u8
  have hnil : ∀ W : World, (binOp .eql 30 (.slice A n c) (.slice none 0 0)).run Try.prog W = .ok (.bool A.isNone) W := fun W => Lib.run_eql_slice_nil W _ _ A n c 0 0 Try.underlying30
  match A with
  | none =>
    have hl : l = [] := by
      rcases Nat.eq_zero_or_pos l.length with h0 | h0
      · exact List.eq_nil_of_length_eq_zero h0
      · obtain ⟨b, o, hA, _⟩ := hr.2.2 h0
        cases hA
    subst hl
    have e := hn.out
    simp at e
    subst e
    clear hr hn
    go_enter Try.func36, Try.ntmps36
    go_wp2
    go_ret
    exact ⟨none, 0, rfl, Own.nil _ _ _, Below.refl _ _⟩
  | some a =>
    go_enter Try.func36, Try.ntmps36
    go_wp2_with (at_builtin; refine wpList_append_rdx rfl (.tmp 5) (.tmp 6) _ rfl w.heap.size 5 Try.underlying30 hi0 hz0 hz1 hz2 (some ⟨w.heap.size, 0, none⟩) 0 0 [] (hid rfl) rfl (Own.lit w 5 [] (Nat.le_refl _) (by simp)) (some a) n c l hn rfl (hr.alloc _) (by omega) (by simp) ?_; intro A' c' w1 hown hb)
    go_ret
    exact ⟨A', c', by simp, hown, ((Below.refl _ _).alloc (Nat.le_refl _) _).trans hb⟩

def zeroS (n : Nat) : List Sct := List.replicate n ⟨0, []⟩
theorem made_S (n : Nat) : madeCells #[.int .i64 0, .slice none 0 0] (n * 2) = (flat fk (List.replicate n ⟨0, none, 0, []⟩)).toArray := by
  refine Array.ext (by simp [madeCells, flat_length fk_len]) fun k h1 h2 => ?_
  have hk : k < n * 2 := by simpa [madeCells] using h1
  have e := flat_at fk_len (List.replicate n (⟨0, none, 0, []⟩ : Sx)) (k / 2) (by rw [List.length_replicate]; omega) (k % 2) (Nat.mod_lt _ (by omega))
  rw [show k / 2 * 2 + k % 2 = k by omega, List.getElem?_eq_getElem (by simpa using h2)] at e
  have e2 : (flat fk (List.replicate n (⟨0, none, 0, []⟩ : Sx))).toArray[k] = (flat fk (List.replicate n (⟨0, none, 0, []⟩ : Sx)))[k]'(by simpa using h2) := by simp
  rw [e2]
  rcases Nat.mod_two_eq_zero_or_one k with h | h <;> simp [h, fk] at e <;> simp [madeCells, h, e]
/-- n zero sectors made. -/
theorem make_S (W : World) (n : Nat) (z : Int) (hz : (n : Int) = z) (h5 : n ≤ 9000) : ∃ cs : Array Value, (Instr.makeSlice 22 (.int .i64 z) (.int .i64 z)).run Try.prog W = .ok (.slice (some ⟨W.heap.size, 0, none⟩) n n) (W.alloc (.cells cs 56)) ∧ OwT (W.alloc (.cells cs 56)) W.heap.size (some ⟨W.heap.size, 0, none⟩) n (zeroS n) := by
  obtain ⟨i, hi, hz0, hs, hb⟩ := info_parts info_Sc
  subst hz
  have h := run_make (P := Try.prog) W 22 56 i _ Try.underlying22 hi hz0 .i64 .i64 n n (by omega) (Int.le_refl _) (by rw [hb]; omega) (by omega)
  have ec : (Value.agg #[.int .i64 0, .slice none 0 0]).cells = #[.int .i64 0, .slice none 0 0] := by simp [go_sem]
  rw [hs, ec, Int.toNat_natCast, made_S] at h
  refine ⟨_, h, List.replicate n ⟨0, none, 0, []⟩, by simp [zeroS, toS], ?_, fun x hx => ?_, fun i j hi hj hij => ?_⟩
  · have := World.ownsRow_lit (base := W.heap.size) (e := 56) (size := 2) W (flat fk (List.replicate n ⟨0, none, 0, []⟩)).toArray n (Nat.le_refl _) (by unfold maxLen; omega) (by simp [flat_length fk_len])
    simpa [Owns] using this
  · obtain rfl := List.eq_of_mem_replicate hx
    exact Own.nil _ _ _
  · exact .inl (by simp)

theorem zero_set (l : List Sct) (j : Nat) (hj : j < l.length) : (l.take j ++ zeroS (l.length - j)).set j ⟨l[j].a, l[j].b⟩ = l.take (j + 1) ++ zeroS (l.length - (j + 1)) := by
  rw [List.set_append_right _ _ (by rw [List.length_take]; omega), List.length_take, Nat.min_eq_left (by omega), Nat.sub_self, ← sct_take l j hj, zeroS, show l.length - j = l.length - (j + 1) + 1 by omega, List.replicate_succ, List.set_cons_zero]
  simp [zeroS]

/-- The call hands back a disk in new memory, with no room behind its sectors. -/
def RetT (w : World) (d : Dsk) (n : Nat) (e : Ending) (w' : World) : Prop := ∃ g, e = .returned (.agg #[.slice (some ⟨g, 0, none⟩) n n, .int .i64 d.st, .int .i64 d.lf, .bool d.dd]) ∧ OwT w' w.heap.size (some ⟨g, 0, none⟩) n d.se ∧ Below w.heap.size w w'

set_option maxRecDepth 100000 in
set_option maxHeartbeats 3200000 in
theorem dtwin_of (d : Dsk) (A : Option Addr) (n c : Nat) (hn : Hid (d.se.length = n)) (h5 : n ≤ 9000) (h6 : Hid (∀ i (hi : i < d.se.length), d.se[i].b.length ≤ 140737488355328)) (w : World) (hr : RdS w A c d.se) :
    Calls Try.prog 19 #[.agg #[.slice A n c, .int .i64 d.st, .int .i64 d.lf, .bool d.dd]] w (RetT w d n) := by
  have hc2 : (c : Int) ≤ 9223372036854775807 := by have := hr.cap; omega
  have hc1 : (n : Int) ≤ c := by have := hr.len; have := hn.out; omega
  have tk := twoK_new w d A n c
  have HR := hid hr
  clear hr
  go_enter Try.func19, Try.ntmps19
  have x0 := tk.xa.sl
  obtain ⟨cs, hmk, hown⟩ := make_S ((w.alloc (.cells (#[.slice A n c, .int .i64 d.st, .int .i64 d.lf, .bool d.dd]) 24)).alloc (.cells (#[.slice none 0 0, .int .i64 0, .int .i64 0, .bool false]) 24)) n (n : Int) rfl h5
  have hbm := below1 ((w.alloc (.cells (#[.slice A n c, .int .i64 d.st, .int .i64 d.lf, .bool d.dd]) 24)).alloc (.cells (#[.slice none 0 0, .int .i64 0, .int .i64 0, .bool false]) 24)) (.cells cs 56)
  go_wp2
  generalize World.alloc (World.alloc w _) _ = W at tk x0 hmk hown hbm ⊢
  have es : W.heap.size = w.heap.size + 1 + 1 := tk.sz
  rw [es] at hown
  obtain ⟨G, hG⟩ : ∃ G, w.heap.size + 1 + 1 = G := ⟨_, rfl⟩
  rw [hG] at hown es ⊢
  have ES := hid es
  have hown0 : OwT (World.alloc W (Obj.cells cs 56)) G (some ⟨G, 0, none⟩) n (d.se.take 0 ++ zeroS (n - 0)) := by simpa using hown
  clear hmk es hG hown
  generalize World.alloc W _ = W1 at hown0 hbm ⊢
  go_loopw [13] (fun i wr => ∃ (j : Nat), j ≤ n ∧ i = .int .i64 (j : Int) ∧ OwT wr G (some ⟨G, 0, none⟩) n (d.se.take j ++ zeroS (n - j)) ∧ Below W.heap.size W wr) (fun i _ => n - (intOf i).toNat)
  case atStart => exact ⟨0, by omega, rfl, hown0, hbm⟩
  case round =>
    clear hown0 hbm
    obtain ⟨j, hj, rfl, ho, hb⟩ := hrel
    have hbw := below_in tk.be hb
    by_cases hjn : j < n
    · have hlt2 : (j : Int) < (n : Int) := by omega
      have hjl : j < d.se.length := by rw [hn.out]; exact hjn
      obtain ⟨b, o, rfl, hcell⟩ := (HR.out.keep hbw).at_ (by omega)
      obtain ⟨X, x, y0, y1, hX⟩ := hcell j hjl
      have hst := zero_set d.se j hjl
      rw [hn.out] at hst
      have hl6 := h6.out j hjl
      generalize d.se[j].a = z at y0 hst
      generalize d.se[j].b = l at y1 hst hX hl6
      obtain ⟨p, hp⟩ : ∃ p, l.length = p := ⟨_, rfl⟩
      rw [hp] at y1 hl6
      have HP := hid hp
      have HST := hid hst
      have hjl2 := hid (show j < (d.se.take j ++ zeroS (n - j)).length by rw [List.length_append, List.length_take, zeroS, List.length_replicate]; omega)
      have t0 : (wr.alloc (.cells #[.int .i64 z, .slice X p x] 56)).cell? ⟨wr.heap.size, 0, none⟩ = some (.int .i64 z) := range_new wr #[.int .i64 z, .slice X p x] 56 0 _ rfl
      have t1 : (wr.alloc (.cells #[.int .i64 z, .slice X p x] 56)).cell? ⟨wr.heap.size, 1, none⟩ = some (.slice X p x) := range_new wr #[.int .i64 z, .slice X p x] 56 1 _ rfl
      have hwr := below1 wr (.cells #[.int .i64 z, .slice X p x] 56)
      clear hst hp hcell hjl
      go_wp2_with fail
      generalize World.alloc wr _ = W4 at t0 t1 hwr ⊢
      obtain ⟨-, -, -, -, hGw⟩ := ho.slot j hjl2.out
      have ho4 := ho.keep hwr
      have hX4 := hX.keep hwr
      have hb4 := below_in hb hwr
      obtain ⟨⟨v0, hv0⟩, ⟨v1, hv1⟩, hfz, hGb, hGs⟩ := ho4.slot j hjl2.out
      have q0 := fun w' (h : But G W4 w') => h.cell (a := ⟨wr.heap.size, 0, none⟩) (Nat.ne_of_gt hGw) t0
      have q1 := fun w' (h : But G W4 w') => h.cell (a := ⟨wr.heap.size, 1, none⟩) (Nat.ne_of_gt hGw) t1
      have S0 : But G W4 W4.drew := But.of (Below.refl _ W4).drew
      have hjc : (j : Int) < n := hlt2
      clear x0 y0 y1 t0 t1 hwr ho hX hb hbw
      go_region_held (fun w' => But G W4 w') (with_reducible (first | assumption | exact S0 | exact But.setc (But.setc hbt _ _) _ _))
        ((go_at_call 36; refine (clone_any X p x l HP hl6 _ hX4.drew).mono ?_; rintro e w5 ⟨A5, c5, rfl, ho5, b5⟩; have hb5 := below_in (Below.refl _ W4).drew b5; have hbt : But G W4 w5 := But.of hb5; have r2 := keep hb5 hv0; have r3 := keep hb5 hv1; have r4 := keepz hb5 hv0 (hfz _); have r5 := keepz hb5 hv1 (hfz _)))
      obtain ⟨hn6, hb6⟩ := OwT.put (ho4.keep (Below.refl _ W4).drew) j hjl2.out z HP.out b5 ho5 (Nat.le_of_lt hGs)
      rw [HST.out] at hn6
      have hb7 : Below W.heap.size W _ := (below_in hb4 hb5).trans (by rw [ES.out]; exact hb6)
      clear q0 q1 S0 r2 r3 r4 r5 hbt hb5 b5 ho5 ho4 hX4 hb4 hv0 hv1 hfz hGb hGs hb6
      generalize World.setCell _ _ _ = w6 at hn6 hb7 ⊢
      go_wp2
      go_roundw
      case rel => exact ⟨j + 1, by omega, by go_num, hn6, hb7⟩
      case measure => simp [intOf]; omega
    · have hlt2 : ¬ (j : Int) < (n : Int) := by omega
      obtain rfl : j = n := by omega
      rw [Nat.sub_self, zeroS, List.replicate_zero, List.append_nil, List.take_of_length_le (by have := hn.out; omega)] at ho
      obtain ⟨xa, xz, fa, fz, hbw⟩ := tk.keep hb
      have hs1 := hid hb.size
      have ew := hid tk.sz
      have x0 := xa.sl
      have x1 := xa.s
      have x2 := xa.l
      have x3 := xa.d
      have z0 := xz.sl
      have z1 := xz.s
      have z2 := xz.l
      have z3 := xz.d
      have f0 := fa 0 (by omega)
      have g0 := fz 0 (by omega)
      have g1 := fz 1 (by omega)
      have g2 := fz 2 (by omega)
      have g3 := fz 3 (by omega)
      clear xa xz fa fz tk
      go_wp2
      have hs1' := hs1.out
      have es := ES.out
      have ew' := ew.out
      exact bodyPost_ret (v := .agg #[.slice (some ⟨G, 0, none⟩) j j, .int .i64 d.st, .int .i64 d.lf, .bool d.dd]) (by simp [results, Try.results19, go_sem, *]) rfl ⟨G, rfl, OwT.base (((((ho.setc (by omega) _ _).setc (by omega) _ _).setc (by omega) _ _).setc (by omega) _ _).setc (by omega) _ _) (by omega), set4 (hbw.setCell (Nat.le_refl _) _) (by omega) _ _ _ _⟩
end Go.Proofs.Ytofnjdkfhboapaa
