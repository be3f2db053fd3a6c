/-
  The contracts of strings.Builder's methods, at a builder of the call's own.
-/
import Derived.Test.YtikcknngcdjnhaaRunX
namespace Go.Proofs.Ytikcknngcdjnhaa
open Go.RowKit Go.Shelf
set_option linter.unusedVariables false

/-- A builder in block b, which holds p and the bytes l, in memory behind it. -/
def Bld (w : World) (b : Nat) (p : Value) (l : List UInt8) : Prop := ∃ A c, w.heap[b]? = some (.cells #[p, .slice A l.length c] 53 (0, 0)) ∧ Own w (b + 1) 5 A c l
def Fresh (p : Value) (b : Nat) : Prop := p = .pointer none ∨ p = .pointer (some ⟨b, 0, none⟩)
theorem size_bld : (Try.prog.info? 53).map (·.size) = some 2 := by kernel_rfl
theorem lies_bld : liesAt Try.prog Try.prog.depth 53 (2 / Try.prog.cellsOf 53) 0 53 1 = true := by kernel_rfl
theorem Bld.lt {w : World} {b : Nat} {p : Value} {l : List UInt8} (h : Bld w b p l) : b < w.heap.size := by
  obtain ⟨A, c, hb, _⟩ := h
  exact (Array.getElem?_eq_some_iff.1 hb).1

set_option maxHeartbeats 1000000 in
set_option maxRecDepth 100000 in
theorem copy_used (b : Nat) (w : World) (h0 : w.cell? ⟨b, 0, none⟩ = some (.pointer (some ⟨b, 0, none⟩))) :
    Calls Try.prog 37 #[.pointer (some ⟨b, 0, none⟩)] w fun e w' => e = .returned (.tuple #[]) ∧ w = w' := by
  obtain ⟨j, hj, _⟩ := Option.map_eq_some_iff.1 size_bld
  have hn := Lib.run_neq_ptr_same (P := Try.prog) w ⟨b, 0, none⟩ Try.underlying51 hj
  go_enter Try.func37, Try.ntmps37
  go_wp2
  go_end0
  exact ⟨rfl, rfl⟩

set_option maxHeartbeats 1000000 in
set_option maxRecDepth 100000 in
theorem copy_fresh (b : Nat) (w : World) (h0 : w.cell? ⟨b, 0, none⟩ = some (.pointer none)) (hsh : w.shape? b = some (53, 2)) (hfz : w.frozen? ⟨b, 0, none⟩ = false) :
    Calls Try.prog 37 #[.pointer (some ⟨b, 0, none⟩)] w fun e w' => e = .returned (.tuple #[]) ∧ w' = w.setCell ⟨b, 0, none⟩ (.pointer (some ⟨b, 0, none⟩)) := by
  obtain ⟨j, hj, hjs⟩ := Option.map_eq_some_iff.1 size_bld
  go_enter Try.func37, Try.ntmps37
  go_wp2
  rw [Lib.run_to_unsafe w ⟨b, 0, none⟩ Try.underlying51 Try.underlying81 hj (by rw [hjs]; decide) hsh (Nat.zero_lt_succ 1)]
  simp only [Result.andThen]
  rw [Oper.upon_value]
  go_wp2
  rw [run_callFunc_extern Try.func45 (by kernel_rfl) (by kernel_rfl) (by kernel_rfl) (e := Extern.AbiNoEscape.same) (by kernel_rfl)]
  rw [Lib.run_noEscape]
  simp only [Result.andThen]
  rw [Oper.upon_value]
  go_wp2
  rw [Lib.run_from_unsafe w ⟨b, 0, none⟩ Try.underlying81 Try.underlying51 hj hsh lies_bld]
  simp only [Result.andThen]
  rw [Oper.upon_value]
  go_wp2
  go_end0
  exact ⟨rfl, rfl⟩

theorem copy_any (b : Nat) (p : Value) (l : List UInt8) (w : World) (hf : Fresh p b) (h : Bld w b p l) :
    Calls Try.prog 37 #[.pointer (some ⟨b, 0, none⟩)] w fun e w' => e = .returned (.tuple #[]) ∧ Bld w' b (.pointer (some ⟨b, 0, none⟩)) l ∧ Below b w w' := by
  obtain ⟨A, c, hb, hown⟩ := h
  have c0 : w.cell? ⟨b, 0, none⟩ = some p := by rw [Lib.cell_of_heap hb]; rfl
  rcases hf with rfl | rfl
  · refine (copy_fresh b w c0 (by simp [World.shape?, hb]) (Lib.frozen_of_heap hb 0)).mono ?_
    rintro e w' ⟨rfl, rfl⟩
    refine ⟨rfl, ⟨A, c, ?_, hown.other (by omega) 0 _⟩, (Below.refl _ _).setCell (p := ⟨b, 0, none⟩) (Nat.le_refl _) _⟩
    rw [heap_setCell_same w b 0 _ _ _ hb]
    rfl
  · refine (copy_used b w c0).mono ?_
    rintro e w' ⟨rfl, rfl⟩
    exact ⟨rfl, ⟨A, c, hb, hown⟩, Below.refl _ _⟩

set_option maxRecDepth 100000 in
set_option maxHeartbeats 1000000 in
theorem wstr_any (b : Nat) (p : Value) (l : List UInt8) (n : Nat) (hn : Hid (l.length = n)) (h5 : n ≤ 1000000) (s : ByteArray) (m : List UInt8) (k : Nat) (hm : Hid (s.data.toList = m ∧ m.length = k)) (hk : k ≤ 1000000) (w : World) (hf : Fresh p b) (h : Bld w b p l) :
    Calls Try.prog 23 #[.pointer (some ⟨b, 0, none⟩), .string s] w fun e w' => (∃ v, e = .returned v) ∧ Bld w' b (.pointer (some ⟨b, 0, none⟩)) (l ++ m) ∧ Below b w w' := by
  obtain ⟨i0, hi0, hz0, hz1, hz2⟩ := info_parts info_u8
  have hsz := h.lt
  go_enter Try.func23, Try.ntmps23
  go_wp2_with fail
  refine (copy_any b p l _ hf h).mono ?_
  rintro e w1 ⟨rfl, ⟨A, c, hb, hown⟩, hb1⟩
  have c1 : w1.cell? ⟨b, 1, none⟩ = some (.slice A n c) := by rw [Lib.cell_of_heap hb, ← hn.out]; rfl
  have HB := hid hb
  clear hb
  have hs1 : b + 1 ≤ w1.heap.size := by have := hb1.size; omega
  go_wp2_with (at_builtin; refine wpList_append_str rfl (.tmp 12) (.tmp 13) _ _ rfl (b + 1) 5 Try.underlying26 Try.underlying9 hi0 hz0 hz1 hz2 A n c l hn rfl hown s m k hm rfl (by omega) hs1 ?_; intro A' c' w2 hown2 hb2; have d1 : w2.cell? ⟨b, 1, none⟩ = some (.slice A n c) := (hb2.cell (p := ⟨b, 1, none⟩) (by simp)).trans c1; have f1 : w2.frozen? ⟨b, 1, none⟩ = false := (hb2.frozen (p := ⟨b, 1, none⟩) (by simp)).trans (Lib.frozen_of_heap HB.out 1))
  go_wp2
  go_ret2
  refine ⟨⟨_, rfl⟩, ⟨A', c', ?_, hown2.other (by omega) 1 _⟩, (hb1.trans (hb2.mono (by omega))).setCell (p := ⟨b, 1, none⟩) (Nat.le_refl _) _⟩
  rw [heap_setCell_same w2 b 1 _ _ _ ((hb2.block b (by omega)).trans HB.out)]
  have e : (l ++ m).length = n + k := by rw [List.length_append, hn.out, hm.out.2]
  rw [e]
  rfl

set_option maxRecDepth 100000 in
set_option maxHeartbeats 1000000 in
theorem wrune_any (b : Nat) (p : Value) (l : List UInt8) (n : Nat) (hn : Hid (l.length = n)) (h5 : n ≤ 100000 - 4) (r : Int) (hr : isR r = true) (k : Nat) (hk : Hid ((bts r).length = k)) (w : World) (hf : Fresh p b) (h : Bld w b p l) :
    Calls Try.prog 24 #[.pointer (some ⟨b, 0, none⟩), .int .i32 r] w fun e w' => (∃ v, e = .returned v) ∧ Bld w' b (.pointer (some ⟨b, 0, none⟩)) (l ++ bts r) ∧ Below b w w' := by
  have hsz := h.lt
  go_enter Try.func24, Try.ntmps24
  go_wp2_with fail
  refine (copy_any b p l _ hf h).mono ?_
  rintro e w1 ⟨rfl, ⟨A, c, hb, hown⟩, hb1⟩
  have c1 : w1.cell? ⟨b, 1, none⟩ = some (.slice A n c) := by rw [Lib.cell_of_heap hb, ← hn.out]; rfl
  have HB := hid hb
  clear hb
  have hs1 : b + 1 ≤ w1.heap.size := by have := hb1.size; omega
  go_wp2_with fail
  refine (apprune_any (b + 1) A n c l r hn h5 hr k hk _ hown hs1).mono ?_
  rintro e w2 ⟨A', c', rfl, hown2, hb2⟩
  have d1 : w2.cell? ⟨b, 1, none⟩ = some (.slice A n c) := (hb2.cell (p := ⟨b, 1, none⟩) (by simp)).trans c1
  have f1 : w2.frozen? ⟨b, 1, none⟩ = false := (hb2.frozen (p := ⟨b, 1, none⟩) (by simp)).trans (Lib.frozen_of_heap HB.out 1)
  go_wp2
  go_ret2
  refine ⟨⟨_, rfl⟩, ⟨A', c', ?_, hown2.other (by omega) 1 _⟩, (hb1.trans (hb2.mono (by omega))).setCell (p := ⟨b, 1, none⟩) (Nat.le_refl _) _⟩
  rw [heap_setCell_same w2 b 1 _ _ _ ((hb2.block b (by omega)).trans HB.out)]
  have e : (l ++ bts r).length = n + k := by rw [List.length_append, hn.out, hk.out]
  rw [e]
  rfl

/-! ### String -/
def ren : Ren := ⟨fun | 169 => 25 | n => n, fun | 70 => 51 | 9 => 9 | 0 => 0 | 72 => 53 | 37 => 26 | 127 => 76 | 3 => 3 | 5 => 5 | n => n, fun | n => n⟩
theorem lays169 : Lays.n169 Try.prog ren where
  mixed := by kernel_rfl
  f169 := Try.func25.trans (congrArg some (by kernel_rfl))
  t0 := Try.underlying0
  a0 := Try.isAgg0
  z0 := Try.sizeOf0
  v0 := Try.zeroValue0
  t3 := Try.underlying3
  a3 := Try.isAgg3
  z3 := Try.sizeOf3
  v3 := Try.zeroValue3
  t9 := Try.underlying9
  a9 := Try.isAgg9
  z9 := Try.sizeOf9
  v9 := Try.zeroValue9
  t37 := Try.underlying26
  a37 := Try.isAgg26
  z37 := Try.sizeOf26
  v37 := Try.zeroValue26
  t70 := Try.underlying51
  a70 := Try.isAgg51
  z70 := Try.sizeOf51
  v70 := Try.zeroValue51
  t72 := Try.underlying53
  a72 := Try.isAgg53
  z72 := Try.sizeOf53
  v72 := Try.zeroValue53
  t127 := Try.underlying76
  a127 := Try.isAgg76
  z127 := Try.sizeOf76
  v127 := Try.zeroValue76
theorem extra : Builder.Extra Try.prog ren where
  sizeBuilder := size_bld
  liesBuilder := lies_bld
  t5 := Try.underlying5
  a5 := Try.isAgg5
  z5 := Try.sizeOf5
  v5 := Try.zeroValue5
  infoByte := info_u8
  cellsByte := by kernel_rfl
  sizeByte := by kernel_rfl
  neB5 := by decide
theorem Bld.is {w : World} {b : Nat} {p : Value} {l : List UInt8} (hf : Fresh p b) (h : Bld w b p l) : Lib.IsBuilder 53 5 b b (Lib.byteCells l) w := by
  obtain ⟨A, c, hb, hown⟩ := h
  have key : Lib.BuilderAt 53 5 b b p (Lib.byteCells l) w := by
    refine ⟨Nat.le_refl _, _, hb, ?_, fun e => ?_⟩
    · have h2 : Own w b 5 A c l := hown.mono (Nat.le_succ b)
      have e : (Lib.byteCells l).length = l.length := u8s_length l
      rw [e]
      exact h2
    · have := hown.block b e
      omega
  rcases hf with rfl | rfl
  · exact .inl key
  · exact .inr key
theorem string_any (b : Nat) (p : Value) (l : List UInt8) (w : World) (hf : Fresh p b) (h : Bld w b p l) :
    Calls Try.prog 25 #[.pointer (some ⟨b, 0, none⟩)] w fun e w' => e = .returned (.string ⟨l.toArray⟩) ∧ Below b w w' :=
  Any.Builder_String_any lays169 extra b b l w (h.is hf) (Nat.le_of_lt h.lt)
end Go.Proofs.Ytikcknngcdjnhaa
