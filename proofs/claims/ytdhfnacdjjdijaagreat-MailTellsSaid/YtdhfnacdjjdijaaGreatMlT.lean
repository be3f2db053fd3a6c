/-
  The program's Get of layer 10.
-/
import Derived.Test.YtdhfnacdjjdijaaGreatMlR
namespace Go.Proofs.YtdhfnacdjjdijaaGreat
open Go.RowKit
set_option linter.unusedVariables false
set_option linter.unusedSimpArgs false

/-- The call hands back what bytes are as mail, and an error. -/
def RetG (w : World) (l : List UInt8) (e : Ending) (w' : World) : Prop := ∃ m A k c j, e = .returned (.tuple #[.agg #[.int .u8 m.kd, .int .i64 m.us, .int .i64 m.se, .int .i64 m.co, .int .i64 m.fr, .int .i64 m.tt, .int .u8 m.ak, .int .i64 m.t0, .int .i64 m.t1, .int .i64 m.t2, .int .i64 m.t3, .slice A k c], .int .i64 j]) ∧ Gom l m j ∧ m.ops.length = k ∧ OwO w' w.heap.size A c m.ops ∧ Below w.heap.size w w'
theorem gom_no {l : List UInt8} {m : Mld} (h1 : rdP l = m) (h2 : ¬ (mayM m = true ∧ mlb m = l)) : Gom l zM 90 := .inr ⟨fun m' h => h2 (by rw [← h1, rdP_of h]; exact ⟨h.may, h.eq⟩), rfl, rfl⟩
theorem gom_yes {l : List UInt8} {m : Mld} (h1 : rdP l = m) (h2 : mayM m = true) (h3 : mlb m = l) : Gom l m 0 := .inl ⟨⟨by rw [← h1]; exact rdP_r l, h2, h3⟩, rfl⟩

set_option maxRecDepth 100000 in
set_option maxHeartbeats 3200000 in
theorem mget_of (A : Option Addr) (n c : Nat) (l : List UInt8) (hn : Hid (l.length = n)) (w : World) (hr : Rd w A c l) :
    Calls Tryz.prog 16 #[.slice A n c] w (RetG w l) := by
  obtain ⟨O, hO⟩ : ∃ O, rdP l = O := ⟨_, rfl⟩
  have HO := hid hO
  have hOr : Mlr O := by rw [← hO]; exact rdP_r l
  have th0 := thereM_new w (#[.int .u8 0, .int .i64 0, .int .i64 0, .int .i64 0, .int .i64 0, .int .i64 0, .int .u8 0, .int .i64 0, .int .i64 0, .int .i64 0, .int .i64 0, .slice none 0 0]) rfl 27
  have hb0 : Below w.heap.size w (w.alloc (.cells (#[.int .u8 0, .int .i64 0, .int .i64 0, .int .i64 0, .int .i64 0, .int .i64 0, .int .u8 0, .int .i64 0, .int .i64 0, .int .i64 0, .int .i64 0, .slice none 0 0]) 27)) := (Below.refl _ _).alloc (Nat.le_refl _) _
  have hz0 : (w.alloc (.cells (#[.int .u8 0, .int .i64 0, .int .i64 0, .int .i64 0, .int .i64 0, .int .i64 0, .int .u8 0, .int .i64 0, .int .i64 0, .int .i64 0, .int .i64 0, .slice none 0 0]) 27)).heap.size = w.heap.size + 1 := by simp
  clear hO
  go_enter Tryz.func16, Tryz.ntmps16
  go_wp2_with fail
  refine (mread_of O A n c l hn HO _ (hr.keep hb0)).mono ?_
  rintro e w1 ⟨A1, k1, c1, rfl, hk1, ho1, b1⟩
  have th1 := th0.keep b1
  have hb1 := below_in hb0 b1
  have ho1' := ho1.base (base' := w.heap.size + 1) (by omega)
  have HK := hid hk1
  have thb := thereM_new w1 (#[.int .u8 0, .int .i64 0, .int .i64 0, .int .i64 0, .int .i64 0, .int .i64 0, .int .u8 0, .int .i64 0, .int .i64 0, .int .i64 0, .int .i64 0, .slice none 0 0]) rfl 27
  have hlt1 := ThereM.lt th1
  clear th0 hb0 b1 hk1 ho1 hz0
  have one : True := trivial
  have two : True := trivial
  go_wp2_with (first
    | (clear one; refine wpList_store_m rfl (.tmp 4) (.tmp 8) rfl w1.heap.size rfl O A1 k1 c1 rfl thb w1.heap.size (Nat.le_refl _) ?_; intro w2 bx2 th2 b2 hh2 sz2; clear hh2 sz2; have b12 : Below w1.heap.size w1 w2 := ((Below.refl _ _).alloc (Nat.le_refl _) _).trans b2)
    | (clear two; refine wpList_load_m rfl (.tmp 4) rfl w1.heap.size rfl bx2 ?_))
  have hb2 := below_in hb1 b12
  have ho2 := ho1'.keep b12
  have thr2 := ThereM.keep th1 b12
  clear thb th1 ho1' hb1 b2 th2 b12
  cases hm : mayM O
  · have HM := hid hm
    have HN := hid (gom_no HO.out (fun h => by rw [hm] at h; cases h.1))
    clear hm
    refine (mput_no O A1 k1 c1 HK HM _ ho2.rd).mono ?_
    rintro e w3 ⟨rfl, b3⟩
    have th3 := ThereM.keep thr2 b3
    have hb3 := below_in hb2 b3
    clear thr2 bx2 b3 hb2 ho2 hr HM
    go_wp2_with (refine wpList_store_m rfl (.tmp 2) (.tmp 22) rfl w.heap.size rfl zM none 0 0 rfl th3 w.heap.size (Nat.le_refl _) ?_; intro w4 bx4 th4 b4 hh4 sz4)
    exact bodyPost_ret (results_m2 rfl rfl bx4) rfl ⟨zM, none, 0, 0, 90, rfl, HN.out, rfl, OwO.nil _ _, hb3.trans b4⟩
  · obtain ⟨L, hl⟩ : ∃ L, (mlb O).length = L := ⟨_, rfl⟩
    obtain ⟨q, hq⟩ : ∃ q, (mlb O == l) = q := ⟨_, rfl⟩
    have HL := hid hl
    have HQ := hid hq
    have HM := hid hm
    refine (mput_yes L O A1 k1 c1 HK hOr hm HL _ ho2.rd).mono ?_
    rintro e w3 ⟨A3, c3, rfl, hr3, b3⟩
    have th3 := ThereM.keep thr2 b3
    have bx3 := bx2.keep b3
    have ho3 := ho2.keep b3
    have hb3 := below_in hb2 b3
    have hr4 := hr.keep hb3
    clear thr2 bx2 b3 hb2 ho2 hl hm hr
    go_wp2_with fail
    refine (bequal_of q A3 L c3 (mlb O) HL A n c l hn HQ _ hr3 hr4).mono ?_
    rintro e w5 ⟨rfl, rfl⟩
    clear hr4 hr3
    cases q
    · have HN := hid (gom_no HO.out (fun h => by have e := h.2; rw [e] at hq; simp at hq))
      clear hq bx3 ho3 HQ
      go_wp2_with (refine wpList_store_m rfl (.tmp 2) (.tmp 22) rfl w.heap.size rfl zM none 0 0 rfl th3 w.heap.size (Nat.le_refl _) ?_; intro w4 bx4 th4 b4 hh4 sz4)
      exact bodyPost_ret (results_m2 rfl rfl bx4) rfl ⟨zM, none, 0, 0, 90, rfl, HN.out, rfl, OwO.nil _ _, hb3.trans b4⟩
    · have HB := hid (gom_yes HO.out HM.out (by simpa using hq))
      clear hq HQ
      have three : True := trivial
      go_wp2_with (first
        | (clear three; refine wpList_load_m rfl (.tmp 4) rfl w1.heap.size rfl bx3 ?_)
        | (refine wpList_store_m rfl (.tmp 2) (.tmp 23) rfl w.heap.size rfl O A1 k1 c1 rfl th3 w.heap.size (Nat.le_refl _) ?_; intro w4 bx4 th4 b4 hh4 sz4))
      exact bodyPost_ret (results_m2 rfl rfl bx4) rfl ⟨O, A1, k1, c1, 0, rfl, HB.out, HK.out, (ho3.far fun k' h1 h2 => hh4 k' (by omega)).base (by omega), hb3.trans b4⟩
end Go.Proofs.YtdhfnacdjjdijaaGreat
