/-
  The program's Get of layer 9.
-/
import Derived.Test.YtbhglgcnoidddaaOpU
import Derived.Test.YtbhglgcnoidddaaOpN
import Derived.Test.YtbhglgcnoidddaaOpV
namespace Go.Proofs.Ytbhglgcnoidddaa
open Go.RowKit
set_option linter.unusedVariables false
set_option linter.unusedSimpArgs false

/-- What Get has to tell. -/
def Got (l : List UInt8) (o : Opd) (z j : Int) : Prop := (Begins l o ∧ z = ((opb o).length : Int) ∧ j = 0) ∨ ((∀ o', ¬ Begins l o') ∧ o = zO ∧ z = 0 ∧ j = 8)
theorem Got.one {l : List UInt8} {o o' : Opd} {z z' j j' : Int} (h : Got l o z j) (h' : Got l o' z' j') : o = o' ∧ z = z' ∧ j = j' := by
  rcases h with ⟨h1, h2, h3⟩ | ⟨h1, h2, h3, h4⟩
  · rcases h' with ⟨k1, k2, k3⟩ | ⟨k1, k2, k3, k4⟩
    · obtain rfl := begins_one h1 k1
      exact ⟨rfl, h2.trans k2.symm, h3.trans k3.symm⟩
    · exact absurd h1 (k1 _)
  · rcases h' with ⟨k1, k2, k3⟩ | ⟨k1, k2, k3, k4⟩
    · exact absurd k1 (h1 _)
    · exact ⟨h2.trans k2.symm, h3.trans k3.symm, h4.trans k4.symm⟩

theorem pick_r {q : Bool} {x b : Int} (h0 : 0 ≤ x) (h1 : x ≤ b) : 0 ≤ pick q x ∧ pick q x ≤ b := by
  cases q
  · exact ⟨by rw [pick_false]; omega, by rw [pick_false]; omega⟩
  · exact ⟨h0, h1⟩
theorem han_r (q : Bool) (l : List UInt8) : Han (pick q (gL l)) (pick q (gC l)) (pick q (gK l)) := by
  have h1 := gL_range l
  have h2 := gC_range l
  have h3 := gK_range l
  exact ⟨⟨(pick_r h1.1 h1.2).1, (pick_r h1.1 h1.2).2, (pick_r (b := 4294967295) h2.1 (by omega)).1, (pick_r h2.1 (by omega)).2⟩, (pick_r h3.1 h3.2).1, (pick_r h3.1 h3.2).2⟩
theorem idn_r (q : Bool) {l : List UInt8} (h : l.length ≤ 13) : Idn (pick q (gL l)) (pick q (gC l)) (pick q (gK l)) (pick q (gN l)) := by
  have h1 := gN_range l h
  have := pick_r (q := q) h1.1 (b := 9223372036854775807) (by omega)
  exact ⟨han_r q l, by unfold In64; omega⟩
theorem han_0 : Han 0 0 0 := ⟨⟨by omega, by omega, by omega, by omega⟩, by omega, by omega⟩
theorem idn_0 : Idn 0 0 0 0 := ⟨han_0, by simp [In64]⟩
theorem vl_r (l : List UInt8) (k : Nat) (hk : k ≤ 4) : 0 ≤ (vl (l.take k) : Int) ∧ (vl (l.take k) : Int) < 256 ^ k := by
  have h1 := vl_lt (l.take k)
  have h2 : 256 ^ (l.take k).length ≤ 256 ^ k := Nat.pow_le_pow_right (by decide) (by rw [List.length_take]; omega)
  have e : ((256 ^ k : Nat) : Int) = (256 : Int) ^ k := by simp
  omega
theorem tail_r (kd m : Int) (t : List UInt8) : Idn (rdTail kd m t).1.1 (rdTail kd m t).1.2.1 (rdTail kd m t).1.2.2.1 (rdTail kd m t).1.2.2.2 ∧ Lab (rdTail kd m t).2.1.1 (rdTail kd m t).2.1.2 ∧ In32 (rdTail kd m t).2.2 := by
  have d1 := vl_r t 1 (by omega)
  have d4 := vl_r (t.drop 1) 4 (by omega)
  simp only [Int.reducePow] at d1 d4
  unfold rdTail
  split
  · exact ⟨idn_0, han_0.lab, In32.nil⟩
  · split
    · refine ⟨idn_r _ (by rw [List.length_take]; omega), han_0.lab, ?_⟩
      show In32 (getV _)
      unfold getV
      split
      · exact rows_in32 _
      · exact In32.nil
    · split
      · exact ⟨idn_0, ⟨d1.1, by show (vl (t.take 1) : Int) ≤ 255; omega, d4.1, by show (vl ((t.drop 1).take 4) : Int) ≤ 4294967295; omega⟩, In32.nil⟩
      · exact ⟨idn_0, han_0.lab, In32.nil⟩
theorem rdO_r (l : List UInt8) : Opr (rdO l) := by
  have a := vl_r l 1 (by omega)
  have b := vl_r (l.drop 7) 3 (by omega)
  have c := vl_r (l.drop 23) 1 (by omega)
  simp only [Int.reducePow] at a b c
  obtain ⟨hI, hL, hR⟩ := tail_r (rdHead l).kd (rdHead l).fm (l.drop 24)
  refine ⟨a.1, by show (vl (l.take 1) : Int) ≤ 255; omega, han_r _ _, ?_, ⟨idn_r _ (by rw [List.length_take]; omega), ?_⟩, hI, hL, hR⟩
  · show In64 ((vl ((l.drop 7).take 3) : Nat) : Int)
    unfold In64; omega
  · show In64 ((vl ((l.drop 23).take 1) : Nat) : Int)
    unfold In64; omega

set_option maxRecDepth 100000 in
set_option maxHeartbeats 3200000 in
theorem oget_of (A : Option Addr) (n c : Nat) (l : List UInt8) (hn : Hid (l.length = n)) (w : World) (hr : Rd w A c l) :
    Calls Try.prog 10 #[.slice A n c] w fun e w' => ∃ o A' k c' z j, e = .returned (.tuple #[.agg #[.int .u8 o.kd, .int .u8 o.l, .int .u32 o.c, .int .u8 o.k, .int .i64 o.s, .int .u8 o.fl, .int .u32 o.fc, .int .u8 o.fk, .int .i64 o.fn, .int .i64 o.fm, .int .u8 o.al, .int .u32 o.ac, .int .u8 o.ak, .int .i64 o.an, .int .u8 o.tl, .int .u32 o.tc, .slice A' k c'], .int .i64 z, .int .i64 j]) ∧ Got l o z j ∧ o.row.length = k ∧ OwnI w' w.heap.size 21 A' c' o.row ∧ Below w.heap.size w w' := by
  obtain ⟨O, hO⟩ : ∃ O, rdO l = O := ⟨_, rfl⟩
  have HO := hid hO
  have hOr : Opr O := by rw [← hO]; exact rdO_r l
  have hone : ∀ o', Begins l o' → o' = O := fun o' h => (rdO_of h).symm.trans hO
  have th0 := thereO_new w #[.int .u8 0, .int .u8 0, .int .u32 0, .int .u8 0, .int .i64 0, .int .u8 0, .int .u32 0, .int .u8 0, .int .i64 0, .int .i64 0, .int .u8 0, .int .u32 0, .int .u8 0, .int .i64 0, .int .u8 0, .int .u32 0, .slice none 0 0] rfl 35
  clear hO
  go_enter Try.func10, Try.ntmps10
  go_wp2_with fail
  refine (read_of O A n c l hn HO _ (hr.alloc _)).mono ?_
  rintro e w1 ⟨A1, k1, c1, rfl, hk1, ho1, b1⟩
  have th1 := th0.keep b1
  have hb1 := past_alloc b1
  have hbase : w.heap.size < (w.alloc (.cells #[.int .u8 0, .int .u8 0, .int .u32 0, .int .u8 0, .int .i64 0, .int .u8 0, .int .u32 0, .int .u8 0, .int .i64 0, .int .i64 0, .int .u8 0, .int .u32 0, .int .u8 0, .int .i64 0, .int .u8 0, .int .u32 0, .slice none 0 0] 35)).heap.size := by simp
  have HK := hid hk1
  clear th0 b1 hk1
  go_wp2_with (first
    | (refine wpList_store_o rfl (.tmp 2) (.tmp 7) rfl w.heap.size rfl O A1 k1 c1 rfl th1 w.heap.size (Nat.le_refl _) ?_; intro w2 bx2 th2 b2 hh2 sz2)
    | (refine wpList_load_o rfl (.tmp 2) rfl _ rfl bx2 ?_))
  have ho2 := (ho1.other hh2 hbase).base (base' := w.heap.size + 1) (by simp)
  have hb2 := hb1.trans b2
  clear ho1 th1 hb1 b2 hh2 sz2 hbase
  cases hm : mayO O
  · have HM := hid hm
    have HN := hid (show ∀ o', ¬ Begins l o' from fun o' h => by have e := hone o' h; rw [e] at h; have := h.may; rw [hm] at this; cases this)
    clear hm hone
    refine (oput_no O A1 k1 c1 HK HM _ ho2.ri).mono ?_
    rintro e w3 ⟨rfl, b3⟩
    have th3 := th2.keep b3
    have hb3 := below_in hb2 b3
    clear th2 bx2 b3 hb2 ho2 hr HM
    go_wp2_with (refine wpList_store_o rfl (.tmp 2) (.tmp 21) rfl w.heap.size rfl zO none 0 0 rfl th3 w.heap.size (Nat.le_refl _) ?_; intro w4 bx4 th4 b4 hh4 sz4)
    exact bodyPost_ret (results_o3 rfl rfl bx4) rfl ⟨zO, none, 0, 0, 0, 8, rfl, .inr ⟨HN.out, rfl, rfl, rfl⟩, rfl, OwnI.nil _ _ _, hb3.trans b4⟩
  · obtain ⟨m, hl⟩ : ∃ m, (opb O).length = m := ⟨_, rfl⟩
    obtain ⟨q, hq⟩ : ∃ q, preB l (opb O) = q := ⟨_, rfl⟩
    have HL := hid hl
    have HQ := hid hq
    have HM := hid hm
    refine (oput_yes m O A1 k1 c1 HK hOr hm HL _ ho2.ri).mono ?_
    rintro e w3 ⟨A3, c3, rfl, hr3, b3⟩
    have th3 := th2.keep b3
    have bx3 := bx2.keep b3
    have ho3 := ho2.keep b3
    have hb3 := below_in hb2 b3
    have hr4 := hr.keep hb3
    clear th2 bx2 b3 hb2 ho2 hl hm
    go_wp2_with fail
    refine (hasPrefix_of q A n c l hn A3 m c3 (opb O) HL HQ _ hr4 hr3).mono ?_
    rintro e w5 ⟨rfl, rfl⟩
    clear hr hr4 hr3
    cases q
    · have HN := hid (show ∀ o', ¬ Begins l o' from fun o' h => by have e := hone o' h; rw [e] at h; have := preB_iff.2 h.pre; rw [hq] at this; cases this)
      clear hq hone bx3 ho3
      go_wp2_with (refine wpList_store_o rfl (.tmp 2) (.tmp 21) rfl w.heap.size rfl zO none 0 0 rfl th3 w.heap.size (Nat.le_refl _) ?_; intro w4 bx4 th4 b4 hh4 sz4)
      exact bodyPost_ret (results_o3 rfl rfl bx4) rfl ⟨zO, none, 0, 0, 0, 8, rfl, .inr ⟨HN.out, rfl, rfl, rfl⟩, rfl, OwnI.nil _ _ _, hb3.trans b4⟩
    · have HB := hid (show Begins l O from ⟨hOr, HM.out, preB_iff.1 hq⟩)
      clear hq hone
      go_wp2_with (first
        | (refine wpList_load_o rfl (.tmp 2) rfl _ rfl bx3 ?_)
        | (refine wpList_store_o rfl (.tmp 2) (.tmp 22) rfl w.heap.size rfl O A1 k1 c1 rfl th3 w.heap.size (Nat.le_refl _) ?_; intro w4 bx4 th4 b4 hh4 sz4))
      exact bodyPost_ret (results_o3 rfl rfl bx4) rfl ⟨O, A1, k1, c1, (m : Int), 0, rfl, .inl ⟨HB.out, by rw [HL.out], rfl⟩, HK.out, (ho3.other hh4 (by omega)).base (by omega), hb3.trans b4⟩
end Go.Proofs.Ytbhglgcnoidddaa
