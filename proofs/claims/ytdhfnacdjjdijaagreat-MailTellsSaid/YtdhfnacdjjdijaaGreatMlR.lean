/-
  What bytes tell: the program's read of layer 10.
-/
import Derived.Test.YtdhfnacdjjdijaaGreatMlQ
namespace Go.Proofs.YtdhfnacdjjdijaaGreat
open Go.RowKit
set_option linter.unusedVariables false
set_option linter.unusedSimpArgs false

/-- The call hands back mail in new memory. -/
def RetOM (w : World) (m : Mld) (e : Ending) (w' : World) : Prop := ∃ A k c, e = .returned (.agg #[.int .u8 m.kd, .int .i64 m.us, .int .i64 m.se, .int .i64 m.co, .int .i64 m.fr, .int .i64 m.tt, .int .u8 m.ak, .int .i64 m.t0, .int .i64 m.t1, .int .i64 m.t2, .int .i64 m.t3, .slice A k c]) ∧ m.ops.length = k ∧ OwO w' w.heap.size A c m.ops ∧ Below w.heap.size w w'

/-- The result's box and a reader of bytes, both new. -/
structure Fresh (w W : World) (l : List UInt8) : Prop where
  th : ThereM W w.heap.size
  rd : ∃ B m d, Rdr w W (w.heap.size + 1) B m d l
  be : Below w.heap.size w W
  sz : w.heap.size + 1 < W.heap.size
theorem fresh_new (w : World) (A : Option Addr) (n c : Nat) (l : List UInt8) (hr : Rd w A c l) (hn : l.length = n) (Z : Array Value) (hZ : Z.size = 12) (t1 t2 : TypeId) :
    Fresh w ((w.alloc (.cells Z t1)).alloc (.cells #[.slice A n c] t2)) l := by
  have e1 : (w.alloc (.cells Z t1)).heap.size = w.heap.size + 1 := by simp
  have hb : Below w.heap.size w ((w.alloc (.cells Z t1)).alloc (.cells #[.slice A n c] t2)) := by go_grown
  refine ⟨(thereM_new w Z hZ t1).keep ((Below.refl _ _).alloc (Nat.le_refl _) _), ⟨A, n, c, ?_, ?_, hr, hn, hb, by omega⟩, hb, by simp⟩
  · have := cell_of_row _ _ 0 _ _ (0, 0) (heap_alloc_last (w.alloc (.cells Z t1)) (.cells #[.slice A n c] t2))
    rw [e1] at this
    rw [this]; rfl
  · have := frozen_of_row _ _ 0 _ _ (heap_alloc_last (w.alloc (.cells Z t1)) (.cells #[.slice A n c] t2))
    rw [e1] at this
    exact this
theorem Fresh.turn {w W W' : World} {l l' : List UInt8} (h : Fresh w W l) (hR : ∃ B m d, Rdr w W' (w.heap.size + 1) B m d l') (hT : Turn (w.heap.size + 1) W W') : Fresh w W' l' :=
  ⟨there_turn h.th hT (by omega), hR, h.be.trans (hT.low.mono (by omega)), Nat.lt_of_lt_of_le h.sz hT.size⟩
theorem Fresh.keep {w W W' : World} {l : List UInt8} (h : Fresh w W l) (hb : Below W.heap.size W W') : Fresh w W' l := by
  obtain ⟨B, m, d, hR⟩ := h.rd
  exact ⟨h.th.keep hb, ⟨B, m, d, hR.keep hb⟩, below_in h.be hb, Nat.lt_of_lt_of_le h.sz hb.size⟩

set_option maxRecDepth 100000 in
set_option maxHeartbeats 3200000 in
theorem mread_yes (k : Int) (m0 : Mld) (f0 f1 f2 f3 : FuncId) (i : Nat) (A : Option Addr) (n c : Nat) (l : List UInt8) (hn : Hid (l.length = n)) (hk : Hid (nu 1 l = k)) (hf : Instr.findNow (.int .u8) (.int .u8 k) tabA.toList 0 = some (some (i, .agg #[.func (.func f0) #[] #[], .func (.func f1) #[] #[], .func (.func f2) #[] #[], .func (.func f3) #[] #[]]))) (HS : Shp k f0 f1 f2 f3) (hm0 : Hid (rdK tkO k (l.drop 1) = m0)) (w : World) (hr : Rd w A c l) :
    Calls Tryz.prog 30 #[.slice A n c] w (RetOM w { m0 with kd := k }) := by
  have hlk := fun (X : World) (g : Nat) (hg : X.heap[g]? = some (.map tabA 10)) => run_lookup_tab X g tabA 10 hg k true _ hf
  simp only [if_true] at hlk
  have HL := hid hlk
  have k9 : 0 ≤ k ∧ k ≤ 255 := by rw [← hk.out]; exact nu_byte _
  have hw : IntKind.u8.wrap k = k := by rw [IntKind.wrap_u8]; omega
  have F0 := fresh_new w A n c l hr hn.out (#[.int .u8 0, .int .i64 0, .int .i64 0, .int .i64 0, .int .i64 0, .int .i64 0, .int .u8 0, .int .i64 0, .int .i64 0, .int .i64 0, .int .i64 0, .slice none 0 0]) rfl 27 84
  have HSS := hid HS
  obtain ⟨l1, hl1⟩ : ∃ x, l.drop 1 = x := ⟨_, rfl⟩
  have HL1 := hid hl1
  have HM0 := hid (show rdK tkO k l1 = m0 by rw [← hl1]; exact hm0.out)
  clear hl1 hm0
  clear hlk hf hr HS
  go_enter Tryz.func30, Tryz.ntmps30
  go_wp2_with fail
  obtain ⟨B, m, d, hR⟩ := F0.rd
  refine (mnumber_of 1 1 k w (w.heap.size + 1) B m d l rfl (by omega) hk _ hR).mono ?_
  rintro e w1 ⟨rfl, hQ, hT⟩
  rw [HL1.out] at hQ
  have F1 := F0.turn hQ hT
  clear F0 hR hQ hT
  go_wp2_with fail
  refine (shapes_any _).mono ?_
  rintro e w2 ⟨g, rfl, hg, hlo, hhi, b2⟩
  have F2 := F1.keep b2
  have Y1 := HL.out w2 g hg
  have th := there_new w2 #[.nilFunc, .nilFunc, .nilFunc, .nilFunc] 63 4 rfl
  have E3 := HSS.out.e3
  clear F1 b2 hg hlo hhi hw HL
  go_wp2_with (refine wpList_store_n rfl 63 _ Tryz.underlying63 rfl [.func (.func f0) #[] #[], .func (.func f1) #[] #[], .func (.func f2) #[] #[], .func (.func f3) #[] #[]] info_shape (.tmp 5) (.tmp 18) rfl w2.heap.size rfl rfl (by simp [Value.oneCell']) th w2.heap.size (Nat.le_refl _) ?_; intro w3 r3 t3 b3 h3 z3; clear h3 z3; have F3 := F2.keep (((Below.refl _ _).alloc (Nat.le_refl _) _).trans b3); have u3 : w3.cell? ⟨w2.heap.size, 3, none⟩ = _ := r3 3 _ rfl)
  obtain ⟨B, m, d, hR⟩ := F3.rd
  refine (HSS.out.take w (w.heap.size + 1) B m d l1 _ hR).mono ?_
  rw [HM0.out]
  rintro e w4 ⟨A4, n4, c4, rfl, hn4, ho4, hT4⟩
  have hs3 := F3.sz
  have th4 := there_turn F3.th hT4 (by omega)
  have be4 := F3.be.trans (hT4.low.mono (by omega))
  have thb := thereM_new w4 (#[.int .u8 0, .int .i64 0, .int .i64 0, .int .i64 0, .int .i64 0, .int .i64 0, .int .u8 0, .int .i64 0, .int .i64 0, .int .i64 0, .int .i64 0, .slice none 0 0]) rfl 27
  have hlt4 := ThereM.lt th4
  have ho4' := ho4.base (base' := w.heap.size + 1) (by omega)
  clear Y1 th E3 F2 F3 r3 t3 b3 u3 hR hT4 ho4 HSS
  have one : True := trivial
  have two : True := trivial
  go_wp2_with (first
    | (clear one; refine wpList_store_m rfl (.tmp 7) (.tmp 26) rfl w4.heap.size rfl m0 A4 n4 c4 rfl thb w4.heap.size (Nat.le_refl _) ?_; intro w5 bx5 th5 b5 hh5 sz5; clear sz5 hh5; have b45 : Below w4.heap.size w4 w5 := ((Below.refl _ _).alloc (Nat.le_refl _) _).trans b5; have u0 := bx5.c0; have f0' := ThereM.at_ th5 0 (by omega); have bx6 : BoxM (w5.setCell ⟨w4.heap.size, 0, none⟩ (.int .u8 k)) w4.heap.size { m0 with kd := k } A4 n4 c4 := setM0 bx5 th5 k; have b46 : Below w4.heap.size w4 (w5.setCell ⟨w4.heap.size, 0, none⟩ (.int .u8 k)) := b45.setCell (p := ⟨w4.heap.size, 0, none⟩) (Nat.le_refl _) _; have th6 := ThereM.keep th4 b46; have ho6 : OwO (w5.setCell ⟨w4.heap.size, 0, none⟩ (.int .u8 k)) (w.heap.size + 1) A4 c4 m0.ops := ho4'.keep b46)
    | (clear two; refine wpList_load_m rfl (.tmp 7) rfl w4.heap.size rfl bx6 ?_)
    | (refine wpList_store_m rfl (.tmp 2) (.tmp 29) rfl w.heap.size rfl { m0 with kd := k } A4 n4 c4 rfl th6 w.heap.size (Nat.le_refl _) ?_; intro w9 bx9 th9 b9 hh9 sz9))
  have hbe := (below_in be4 b46).trans b9
  exact bodyPost_ret (results_m rfl rfl bx9) rfl ⟨A4, n4, c4, rfl, hn4, (ho6.far fun k' h1 h2 => hh9 k' (by omega)).base (by omega), hbe⟩

set_option maxRecDepth 100000 in
set_option maxHeartbeats 3200000 in
theorem mread_no (k : Int) (A : Option Addr) (n c : Nat) (l : List UInt8) (hn : Hid (l.length = n)) (hk : Hid (nu 1 l = k)) (hf : Instr.findNow (.int .u8) (.int .u8 k) tabA.toList 0 = some none) (w : World) (hr : Rd w A c l) :
    Calls Tryz.prog 30 #[.slice A n c] w (RetOM w zM) := by
  have hlk := fun (X : World) (g : Nat) (hg : X.heap[g]? = some (.map tabA 10)) => run_lookup_tab X g tabA 10 hg k true _ hf
  simp only [if_true] at hlk
  have HL := hid hlk
  have k9 : 0 ≤ k ∧ k ≤ 255 := by rw [← hk.out]; exact nu_byte _
  have hw : IntKind.u8.wrap k = k := by rw [IntKind.wrap_u8]; omega
  have F0 := fresh_new w A n c l hr hn.out (#[.int .u8 0, .int .i64 0, .int .i64 0, .int .i64 0, .int .i64 0, .int .i64 0, .int .u8 0, .int .i64 0, .int .i64 0, .int .i64 0, .int .i64 0, .slice none 0 0]) rfl 27 84
  clear hlk hf hr
  go_enter Tryz.func30, Tryz.ntmps30
  go_wp2_with fail
  obtain ⟨B, m, d, hR⟩ := F0.rd
  refine (mnumber_of 1 1 k w (w.heap.size + 1) B m d l rfl (by omega) hk _ hR).mono ?_
  rintro e w1 ⟨rfl, hQ, hT⟩
  have F1 := F0.turn hQ hT
  clear F0 hR hQ hT
  go_wp2_with fail
  refine (shapes_any _).mono ?_
  rintro e w2 ⟨g, rfl, hg, hlo, hhi, b2⟩
  have F2 := F1.keep b2
  have Y1 := HL.out w2 g hg
  have th := there_new w2 #[.nilFunc, .nilFunc, .nilFunc, .nilFunc] 63 4 rfl
  clear F1 b2 hg hlo hhi hw HL
  have one : True := trivial
  go_wp2_with (first
    | (clear one; refine wpList_store_n rfl 63 _ Tryz.underlying63 rfl [.nilFunc, .nilFunc, .nilFunc, .nilFunc] info_shape (.tmp 5) (.tmp 18) rfl w2.heap.size rfl rfl (by simp [Value.oneCell']) th w2.heap.size (Nat.le_refl _) ?_; intro w3 r3 t3 b3 h3 z3; clear h3 z3; have F3 := F2.keep (((Below.refl _ _).alloc (Nat.le_refl _) _).trans b3); have th3 := F3.th)
    | (refine wpList_store_m rfl (.tmp 2) (.tmp 22) rfl w.heap.size rfl zM none 0 0 rfl th3 w.heap.size (Nat.le_refl _) ?_; intro w9 bx9 th9 b9 hh9 sz9))
  exact bodyPost_ret (results_m rfl rfl bx9) rfl ⟨none, 0, 0, rfl, rfl, OwO.nil _ _, F3.be.trans b9⟩

theorem mread_of (m0 : Mld) (A : Option Addr) (n c : Nat) (l : List UInt8) (hn : Hid (l.length = n)) (hm0 : Hid (rdP l = m0)) (w : World) (hr : Rd w A c l) :
    Calls Tryz.prog 30 #[.slice A n c] w (RetOM w m0) := by
  have h := hm0.out
  rw [rdP, rdM] at h
  cases hk : isK (nu 1 l)
  · rw [hk] at h
    have h : zM = m0 := h
    rw [← h]
    exact mread_no _ A n c l hn (hid rfl) (shp_none hk) w hr
  · rw [hk] at h
    have h : { rdK tkO (nu 1 l) (l.drop 1) with kd := nu 1 l } = m0 := h
    rw [← h]
    obtain ⟨f0, f1, f2, f3, i, hf, HS⟩ := shp_all hk
    exact mread_yes _ _ f0 f1 f2 f3 i A n c l hn (hid rfl) hf HS (hid rfl) w hr
end Go.Proofs.YtdhfnacdjjdijaaGreat
