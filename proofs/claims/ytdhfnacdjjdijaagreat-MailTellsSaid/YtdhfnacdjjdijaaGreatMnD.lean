/-
  Mail in new memory: the document's own answer.
-/
import Derived.Test.YtdhfnacdjjdijaaGreatMlU
namespace Go.Proofs.YtdhfnacdjjdijaaGreat
open Go.RowKit
set_option linter.unusedVariables false
set_option linter.unusedSimpArgs false

set_option maxRecDepth 100000 in
set_option maxHeartbeats 3200000 in
theorem rmtwin_of (m : Mld) (A : Option Addr) (n c : Nat) (hn : Hid (m.ops.length = n)) (h5 : n ≤ 5000) (hrow : ∀ o ∈ m.ops, o.row.length ≤ 10000) (w : World) (hr : RdO w A c m.ops) :
    Calls Tryz.prog 13 #[.agg #[.int .u8 m.kd, .int .i64 m.us, .int .i64 m.se, .int .i64 m.co, .int .i64 m.fr, .int .i64 m.tt, .int .u8 m.ak, .int .i64 m.t0, .int .i64 m.t1, .int .i64 m.t2, .int .i64 m.t3, .slice A n c]] w (RetOM w m) := by
  have hc2 : (c : Int) ≤ 9223372036854775807 := by have := hr.cap; omega
  have hc1 : (n : Int) ≤ c := by have := hr.len; have := hn.out; omega
  have pp := pairM_new w m A n c (#[.int .u8 0, .int .i64 0, .int .i64 0, .int .i64 0, .int .i64 0, .int .i64 0, .int .u8 0, .int .i64 0, .int .i64 0, .int .i64 0, .int .i64 0, .slice none 0 0]) rfl
  have HROW := hid hrow
  have HR := hid (hr.keep pp.be)
  obtain ⟨l, hl⟩ : ∃ l, m.ops = l := ⟨_, rfl⟩
  have HLL := hid hl
  have hn' : l.length = n := by rw [← hl]; exact hn.out
  have HN := hid hn'
  rw [hl] at HR HROW
  clear hrow hr hl hn' hn
  go_enter Tryz.func13, Tryz.ntmps13
  go_wp2
  generalize World.alloc (World.alloc w _) _ = W at pp HR ⊢
  go_loopw [3, 4] (fun v i wr => ∃ (j : Nat) (A' : Option Addr) (c' : Nat), j ≤ n ∧ i = .int .i64 (j : Int) ∧ v = .slice A' j c' ∧ OwO wr W.heap.size A' c' (l.take j) ∧ Below W.heap.size W wr) (fun _ i _ => n - (intOf i).toNat)
  case atStart => exact ⟨0, none, 0, by omega, rfl, rfl, OwO.nil _ _, Below.refl _ _⟩
  case round =>
    obtain ⟨j, A', c', hj, rfl, rfl, ho, hb⟩ := hrel
    by_cases hlt : j < n
    · have hln := HN.out
      obtain ⟨b, o, rfl, hcell⟩ := (HR.out.keep hb).at_ (by omega)
      obtain ⟨B, d, hR, hRi⟩ := hcell j (by omega)
      have hs : l.take (j + 1) = l.take j ++ [l[j]'(by omega)] := List.take_succ_eq_append_getElem (by omega)
      have hrow5 := HROW.out _ (List.getElem_mem (l := l) (n := j) (by omega))
      have htl := hid (show (l.take j).length = j by rw [List.length_take]; omega)
      generalize l[j]'(by omega) = y at hR hRi hs hrow5
      obtain ⟨q, hq⟩ : ∃ q, y.row.length = q := ⟨_, rfl⟩
      rw [hq] at hR hrow5
      have HK := hid hq
      have HS := hid hs
      have hlt2 : (j : Int) < (n : Int) := by omega
      have bxr := pp.bx.keep hb
      have s11 := bxr.c11
      clear hs hcell hln hq
      go_wp2_with (refine wpList_load_e rfl (.tmp 16) rfl b _ rfl hR ?_)
      refine (rtwin_any y B q d HK hrow5 _ hRi).mono ?_
      rintro e w3 ⟨A3, c3, rfl, ho3, b03⟩
      have ho' := ho.keep b03
      have hb3 := below_in hb b03
      have hsz := hb3.size
      have ho3' := OwnI.base hb.size ho3
      clear b03 hR hRi ho ho3 bxr s11
      have four : True := trivial
      go_wp2_with (at_builtin; clear four; refine wpList_append_o rfl (.tmp 12) (.tmp 19) rfl W.heap.size A' j c' (l.take j) htl rfl y A3 q c3 HK _ rfl ho' ho3' _ rfl rfl (by omega) hsz ?_; intro A4 c4 w4 ho4 b4)
      go_roundw
      case rel => exact ⟨j + 1, A4, c4, by omega, by go_num, rfl, by rw [HS.out]; exact ho4, hb3.trans b4⟩
      case measure => simp [intOf]; omega
    · have ej : j = n := by omega
      subst ej
      have hlt2 : ¬ ((j : Nat) : Int) < (j : Int) := by omega
      rw [List.take_of_length_le (by rw [HN.out]; omega)] at ho
      have hsW := pp.sz
      have bx1 := pp.bx.keep hb
      have tx1 := ThereM.keep pp.tx hb
      have ty1 := ThereM.keep pp.ty hb
      have hbe := below_in pp.be hb
      have c11 := bx1.c11
      have f11 := ThereM.at_ tx1 11 (by omega)
      have bx2 : BoxM (wr.setCell ⟨w.heap.size, 11, none⟩ (.slice A' j c')) w.heap.size { m with ops := l } A' j c' := setM11 bx1 tx1 A' j c' l
      have ty2 : ThereM (wr.setCell ⟨w.heap.size, 11, none⟩ (.slice A' j c')) (w.heap.size + 1) := ThereM.other (b := w.heap.size) (fun k' hk' => Below.heap_setCell wr ⟨w.heap.size, 11, none⟩ (.slice A' j c') k' hk') (by omega) ty1
      have hbe2 : Below w.heap.size w (wr.setCell ⟨w.heap.size, 11, none⟩ (.slice A' j c')) := hbe.setCell (p := ⟨w.heap.size, 11, none⟩) (Nat.le_refl _) _
      have ho2 : OwO (wr.setCell ⟨w.heap.size, 11, none⟩ (.slice A' j c')) W.heap.size A' c' l := ho.far fun k' h1 h2 => Below.heap_setCell wr ⟨w.heap.size, 11, none⟩ (.slice A' j c') k' (by show k' ≠ w.heap.size; omega)
      have HB := hid bx1
      clear bx1 tx1 ty1 hbe ho
      have one : True := trivial
      go_wp2_with (first
        | (clear one; refine wpList_load_m rfl (.tmp 1) rfl w.heap.size rfl bx2 ?_)
        | (refine wpList_store_m rfl (.tmp 2) (.tmp 23) rfl (w.heap.size + 1) rfl { m with ops := l } A' j c' rfl ty2 w.heap.size (by omega) ?_; intro w4 bx4 th4 b4 hh4 sz4))
      exact bodyPost_ret (results_m rfl rfl bx4) rfl ⟨A', j, c', rfl, by rw [HLL.out]; exact HN.out, by rw [HLL.out]; exact (ho2.far fun k' h1 h2 => hh4 k' (by omega)).base (by omega), hbe2.trans b4⟩
end Go.Proofs.YtdhfnacdjjdijaaGreat
