/-
  The program's Get of layer 9.
-/
import Derived.Test.YtndmblhkmgnpcaaGreatOP
import Derived.Test.YtndmblhkmgnpcaaGreatRA
import Derived.Test.YtndmblhkmgnpcaaGreatOU
import Derived.Test.YtndmblhkmgnpcaaGreatON
namespace Go.Proofs.YtndmblhkmgnpcaaGreat
open Go.RowKit
set_option linter.unusedVariables false
set_option linter.unusedSimpArgs false

set_option maxHeartbeats 400000 in
theorem bequal_of (q : Bool) (A : Option Addr) (n c : Nat) (l : List UInt8) (hn : Hid (l.length = n)) (B : Option Addr) (k d : Nat) (m : List UInt8) (hk : Hid (m.length = k)) (hq : Hid ((l == m) = q)) (w : World) (hr : Rd w A c l) (hs : Rd w B d m) :
    Calls Tryz.prog 34 #[.slice A n c, .slice B k d] w fun e w' => e = .returned (.bool q) ∧ w = w' := by
  have y1 := rd_string hn hr
  have y2 := rd_string hk hs
  clear hr hs
  go_enter Tryz.func34, Tryz.ntmps34
  go_wp2
  go_ret
  exact ⟨ret_bool (by rw [← hq.out]), rfl⟩

set_option maxHeartbeats 800000 in
theorem hasPrefix_of (q : Bool) (A : Option Addr) (n c : Nat) (l : List UInt8) (hn : Hid (l.length = n)) (B : Option Addr) (k d : Nat) (m : List UInt8) (hk : Hid (m.length = k)) (hq : Hid (preB l m = q)) (w : World) (hr : Rd w A c l) (hs : Rd w B d m) :
    Calls Tryz.prog 107 #[.slice A n c, .slice B k d] w fun e w' => e = .returned (.bool q) ∧ w = w' := by
  have hc2 : (c : Int) ≤ 9223372036854775807 := by have := hr.cap; omega
  have hc1 : (n : Int) ≤ c := by have := hr.len; have := hn.out; omega
  have h := hq.out
  rw [preB, hn.out, hk.out] at h
  by_cases hkn : k ≤ n
  · rw [decide_eq_true hkn, Bool.true_and] at h
    have HQ := hid h
    have hl := hid (show (l.take k).length = k by rw [List.length_take, hn.out]; omega)
    have hkn2 : (k : Int) ≤ n := by omega
    have hrt := hr.take k
    clear h hq
    match A with
    | none =>
      go_enter Tryz.func107, Tryz.ntmps107
      go_wp2_with fail
      refine (bequal_of q none k c (l.take k) hl B k d m hk HQ _ hrt hs).mono ?_
      rintro e w1 ⟨rfl, rfl⟩
      go_wp2
      go_ret
      exact ⟨rfl, rfl⟩
    | some a =>
      go_enter Tryz.func107, Tryz.ntmps107
      go_wp2_with fail
      refine (bequal_of q (some a) k c (l.take k) hl B k d m hk HQ _ hrt hs).mono ?_
      rintro e w1 ⟨rfl, rfl⟩
      go_wp2
      go_ret
      exact ⟨rfl, rfl⟩
  · rw [decide_eq_false hkn, Bool.false_and] at h
    have HQ := hid h
    have hkn2 : ¬ (k : Int) ≤ n := by omega
    clear h hq hr hs
    go_enter Tryz.func107, Tryz.ntmps107
    go_wp2
    go_ret
    exact ⟨ret_bool HQ.out, rfl⟩
end Go.Proofs.YtndmblhkmgnpcaaGreat

namespace Go.Proofs.YtndmblhkmgnpcaaGreat
open Go.RowKit
set_option linter.unusedVariables false
set_option linter.unusedSimpArgs false

set_option maxRecDepth 100000 in
set_option maxHeartbeats 3200000 in
theorem oget_of (A : Option Addr) (n c : Nat) (l : List UInt8) (hn : Hid (l.length = n)) (w : World) (hr : Rd w A c l) :
    Calls Tryz.prog 78 #[.slice A n c] w fun e w' => ∃ o A' k c' z j, e = .returned (.tuple #[.agg #[.int .u8 o.kd, .int .u8 o.l, .int .u32 o.c, .int .u8 o.k, .int .i64 o.s, .int .u8 o.fl, .int .u32 o.fc, .int .u8 o.fk, .int .i64 o.fn, .int .i64 o.fm, .int .u8 o.al, .int .u32 o.ac, .int .u8 o.ak, .int .i64 o.an, .int .u8 o.tl, .int .u32 o.tc, .slice A' k c'], .int .i64 z, .int .i64 j]) ∧ Got l o z j ∧ o.row.length = k ∧ OwnI w' w.heap.size 21 A' c' o.row ∧ Below w.heap.size w w' := by
  obtain ⟨O, hO⟩ : ∃ O, rdO l = O := ⟨_, rfl⟩
  have HO := hid hO
  have hOr : Opr O := by rw [← hO]; exact rdO_r l
  have hone : ∀ o', Begins l o' → o' = O := fun o' h => (rdO_of h).symm.trans hO
  have th0 := thereO_new w #[.int .u8 0, .int .u8 0, .int .u32 0, .int .u8 0, .int .i64 0, .int .u8 0, .int .u32 0, .int .u8 0, .int .i64 0, .int .i64 0, .int .u8 0, .int .u32 0, .int .u8 0, .int .i64 0, .int .u8 0, .int .u32 0, .slice none 0 0] rfl 33
  clear hO
  go_enter Tryz.func78, Tryz.ntmps78
  go_wp2_with fail
  refine (read_of O A n c l hn HO _ (hr.alloc _)).mono ?_
  rintro e w1 ⟨A1, k1, c1, rfl, hk1, ho1, b1⟩
  have th1 := th0.keep b1
  have hb1 := past_alloc b1
  have hbase : w.heap.size < (w.alloc (.cells #[.int .u8 0, .int .u8 0, .int .u32 0, .int .u8 0, .int .i64 0, .int .u8 0, .int .u32 0, .int .u8 0, .int .i64 0, .int .i64 0, .int .u8 0, .int .u32 0, .int .u8 0, .int .i64 0, .int .u8 0, .int .u32 0, .slice none 0 0] 33)).heap.size := by simp
  have HK := hid hk1
  clear th0 b1 hk1
  go_wp2_with (first
    | (refine wpList_store_o rfl (.tmp 2) (.tmp 7) rfl w.heap.size rfl O A1 k1 c1 rfl th1 w.heap.size (Nat.le_refl _) ?_; intro w2 bx2 th2 b2 hh2 sz2)
    | (refine wpList_load_o rfl (.tmp 2) rfl _ rfl bx2 ?_))
  have ho2 := (ho1.other hh2 hbase).base (base' := w.heap.size + 1) (by simp)
  have hb2 := hb1.trans b2
  clear ho1 th1 hb1 b2 hh2 sz2 hbase
  cases hm : mayO O
  · have HM := hid hm
    have HN := hid (show ∀ o', ¬ Begins l o' from fun o' h => by have e := hone o' h; rw [e] at h; have := h.may; rw [hm] at this; cases this)
    clear hm hone
    refine (oput_no O A1 k1 c1 HK HM _ ho2.ri).mono ?_
    rintro e w3 ⟨rfl, b3⟩
    have th3 := th2.keep b3
    have hb3 := below_in hb2 b3
    clear th2 bx2 b3 hb2 ho2 hr HM
    go_wp2_with (refine wpList_store_o rfl (.tmp 2) (.tmp 21) rfl w.heap.size rfl zO none 0 0 rfl th3 w.heap.size (Nat.le_refl _) ?_; intro w4 bx4 th4 b4 hh4 sz4)
    exact bodyPost_ret (results_o3 rfl rfl bx4) rfl ⟨zO, none, 0, 0, 0, 8, rfl, .inr ⟨HN.out, rfl, rfl, rfl⟩, rfl, OwnI.nil _ _ _, hb3.trans b4⟩
  · obtain ⟨m, hl⟩ : ∃ m, (opb O).length = m := ⟨_, rfl⟩
    obtain ⟨q, hq⟩ : ∃ q, preB l (opb O) = q := ⟨_, rfl⟩
    have HL := hid hl
    have HQ := hid hq
    have HM := hid hm
    refine (oput_yes m O A1 k1 c1 HK hOr hm HL _ ho2.ri).mono ?_
    rintro e w3 ⟨A3, c3, rfl, hr3, b3⟩
    have th3 := th2.keep b3
    have bx3 := bx2.keep b3
    have ho3 := ho2.keep b3
    have hb3 := below_in hb2 b3
    have hr4 := hr.keep hb3
    clear th2 bx2 b3 hb2 ho2 hl hm
    go_wp2_with fail
    refine (hasPrefix_of q A n c l hn A3 m c3 (opb O) HL HQ _ hr4 hr3).mono ?_
    rintro e w5 ⟨rfl, rfl⟩
    clear hr hr4 hr3
    cases q
    · have HN := hid (show ∀ o', ¬ Begins l o' from fun o' h => by have e := hone o' h; rw [e] at h; have := preB_iff.2 h.pre; rw [hq] at this; cases this)
      clear hq hone bx3 ho3
      go_wp2_with (refine wpList_store_o rfl (.tmp 2) (.tmp 21) rfl w.heap.size rfl zO none 0 0 rfl th3 w.heap.size (Nat.le_refl _) ?_; intro w4 bx4 th4 b4 hh4 sz4)
      exact bodyPost_ret (results_o3 rfl rfl bx4) rfl ⟨zO, none, 0, 0, 0, 8, rfl, .inr ⟨HN.out, rfl, rfl, rfl⟩, rfl, OwnI.nil _ _ _, hb3.trans b4⟩
    · have HB := hid (show Begins l O from ⟨hOr, HM.out, preB_iff.1 hq⟩)
      clear hq hone
      go_wp2_with (first
        | (refine wpList_load_o rfl (.tmp 2) rfl _ rfl bx3 ?_)
        | (refine wpList_store_o rfl (.tmp 2) (.tmp 22) rfl w.heap.size rfl O A1 k1 c1 rfl th3 w.heap.size (Nat.le_refl _) ?_; intro w4 bx4 th4 b4 hh4 sz4))
      exact bodyPost_ret (results_o3 rfl rfl bx4) rfl ⟨O, A1, k1, c1, (m : Int), 0, rfl, .inl ⟨HB.out, by rw [HL.out], rfl⟩, HK.out, (ho3.other hh4 (by omega)).base (by omega), hb3.trans b4⟩
end Go.Proofs.YtndmblhkmgnpcaaGreat
