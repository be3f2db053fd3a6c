/-
  slices.Chunk's iterator at rows of four bytes.
-/
import Derived.RangeFuncNested
import Derived.RangeFuncBound
import Derived.RangeFuncCalls
import Derived.RangeFuncLeaves
import Derived.RangeFuncBox
import Derived.Shelf.Abstract
import Derived.Shelf.RegionOpen
import Derived.WalkKit
import Derived.OwnWalkIn
import Derived.TacticsInMore
import Derived.LoopNIn
import Derived.LoopIn
import Derived.Test.YtbhglgcnoidddaaRunV
namespace Go.Proofs.Ytbhglgcnoidddaa
open Go.RowKit Go.Shelf
set_option linter.unusedVariables false
attribute [local go_sem] Oper.semAt_some

theorem chunk_any (A : Option Addr) (n c : Nat) (w : World) :
    Calls Try.prog 88 #[.slice A n c, .int .i64 4] w fun e w' => e = .returned (.func (.func 93) #[] #[.pointer (some ⟨w.heap.size, 0, none⟩), .pointer (some ⟨w.heap.size + 1, 0, none⟩)]) ∧ w' = (w.alloc (.cells #[.slice A n c] 44)).alloc (.cells #[.int .i64 4] 3) := by
  go_enter Try.func88, Try.ntmps88
  go_wp2
  go_ret
  exact ⟨by simp, rfl⟩

/-- What the iterator's two boxes and the bytes below keep. -/
def Kc (n₀ Bs Bn : Nat) (W W' : World) : Prop := Below n₀ W W' ∧ W'.heap[Bs]? = W.heap[Bs]? ∧ W'.heap[Bn]? = W.heap[Bn]?
theorem Kc.t {n₀ Bs Bn : Nat} {A B C : World} (h : Kc n₀ Bs Bn A B) (k : Kc n₀ Bs Bn B C) : Kc n₀ Bs Bn A C := ⟨h.1.trans k.1, k.2.1.trans h.2.1, k.2.2.trans h.2.2⟩
theorem Kc.drew (n₀ Bs Bn : Nat) (W : World) : Kc n₀ Bs Bn W W.drew := ⟨(Below.refl _ _).drew, rfl, rfl⟩
theorem grown_drew (W : World) : W.grownBy W.drew none := ⟨rfl, rfl, rfl, Nat.le_refl _, fun _ _ _ => rfl⟩

/-- The first k of m places. -/
def firsts (m k : Nat) : List (Fin m) := (List.finRange m).take k
theorem firsts_length {m k : Nat} (h : k ≤ m) : (firsts m k).length = k := by simp [firsts, h]
theorem firsts_succ {m k : Nat} (h : k < m) : firsts m (k + 1) = firsts m k ++ [⟨k, h⟩] := by
  rw [firsts, List.take_succ_eq_append_getElem (by simpa using h)]
  simp [firsts]

set_option maxRecDepth 100000 in
set_option maxHeartbeats 2000000 in
theorem chunk1_in (n : Nat) (hn : 1 ≤ n) (l Bs Bn n₀ b o m q c : Nat) (A : Option Addr) (hA : 0 < m → A = some ⟨b, o, none⟩) (hm : m ≤ 64) (hq : Hid (q = 4 * m)) (hq2 : q ≤ 256) (hc1 : (q : Int) ≤ c) (hc2 : (c : Int) ≤ 9223372036854775807) (J Jx : List (Fin m) → World → Prop)
    (hD : ∀ pre W, J pre W → J pre W.drew)
    (hY : ∀ pre (x : Fin m) W, J pre W → pre.length < m → YieldAt Fence.wide (n - 1) Try.prog l #[.slice (some ⟨b, o + 4 * x.1, none⟩) 4 4] W fun e W' =>
      (e = .returned (.bool true) ∧ J (pre ++ [x]) W' ∧ Kc n₀ Bs Bn W W') ∨ (e = .returned (.bool false) ∧ Jx (pre ++ [x]) W'))
    (W : World) (hBs : Boxed W Bs 44 (.slice A q c)) (hBn : Boxed W Bn 3 (.int .i64 4)) (h0 : J [] W) :
    CallsIn Fence.wide n Try.prog 93 #[.func (.yield l) #[] #[], .pointer (some ⟨Bs, 0, none⟩), .pointer (some ⟨Bn, 0, none⟩)] W fun e W' => (∃ v, e = .returned v) ∧
      ((∃ ys, ys = firsts m m ∧ J ys W') ∨ (∃ pre, (∃ k, k ≤ m ∧ pre = firsts m k) ∧ Jx pre W')) := by
  refine callsIn_of_wp Try.func93 rfl trivial ?_ rfl
  simp only [Try.ntmps93, List.size_toArray, List.length_cons, List.length_nil, Nat.reduceAdd, Nat.reduceSub, Array.replicate_succ, Array.replicate_zero, List.push_toArray, List.append_toArray, List.nil_append, List.cons_append]
  gi_wp2
  gi_loopw [4, 5] (fun i u wr => ∃ k t : Nat, k ≤ m ∧ Hid (t = 4 * k) ∧ i = .int .i64 (t : Int) ∧ Hid (J (firsts m k) wr) ∧ Kc n₀ Bs Bn W wr)
    (fun i _ _ => q - (intOf i).toNat)
  case atStart => exact ⟨0, 0, Nat.zero_le _, hid rfl, rfl, hid h0, Below.refl _ _, rfl, rfl⟩
  case round =>
    obtain ⟨k, t, hk, ht, rfl, hJs, hK⟩ := hrel
    have hs : Boxed wr Bs _ _ := hK.2.1.trans hBs
    have hn4 : Boxed wr Bn _ _ := hK.2.2.trans hBn
    have c0 := hs.cell
    have c1 := hn4.cell
    by_cases hlt : k < m
    · obtain rfl := hA (by omega)
      have hlt2 : (t : Int) < (q : Int) := by have := ht.out; have := hq.out; omega
      have ht4 : t + 4 ≤ q := by have := ht.out; have := hq.out; omega
      have mixed : Try.prog.follows .mixedOrders = true := by kernel_rfl
      obtain ⟨fn, tmps, assign, body, hy, hR⟩ := hY (firsts m k) ⟨k, hlt⟩ wr.drew (hD _ _ hJs.out) (by rw [firsts_length hk]; exact hlt)
      dsimp only at hy
      rw [← ht.out] at hy
      have d0 : wr.drew.cell? ⟨Bs, 0, none⟩ = _ := c0
      have d1 : wr.drew.cell? ⟨Bn, 0, none⟩ = _ := c1
      gi_wp2
      gi_region_o
      have hmin : min 4 (((q - t : Nat)) : Int) = 4 := by omega
      have HJ := hid (firsts_succ hlt)
      have HT := hid (show t + 4 = 4 * (k + 1) by have := ht.out; omega)
      try rw [hmin]
      have ht5 : (t : Int) + 4 ≤ (c : Int) := by omega
      have ht6 : (t : Int) + 4 ≤ (q : Int) := by omega
      gi_wp2
      refine hR.mono ?_
      rintro e W3 (⟨rfl, hJ3, hk3⟩ | ⟨rfl, hJx3⟩)
      · have hs3 : Boxed W3 Bs _ _ := hk3.2.1.trans hs
        have hn3 : Boxed W3 Bn _ _ := hk3.2.2.trans hn4
        have c3 := hn3.cell
        gi_wp2
        go_roundw
        case rel => exact ⟨k + 1, t + 4, by omega, HT, by go_num, hid (by rw [HJ.out]; exact hJ3), hK.t ((Kc.drew _ _ _ wr).t hk3)⟩
        case measure => simp [intOf]; omega
      · gi_wp2
        refine bodyPost_ret (results_none rfl _ _ _) rfl ?_
        exact ⟨⟨_, rfl⟩, .inr ⟨_, ⟨k + 1, by omega, HJ.out.symm⟩, hJx3⟩⟩
    · obtain rfl : k = m := by omega
      have hlt2 : ¬ (t : Int) < (q : Int) := by have := ht.out; have := hq.out; omega
      have HJ := hJs
      gi_wp2
      go_end0
      exact ⟨⟨_, rfl⟩, .inl HJ.out⟩
theorem chunk_stops (n : Nat) (hn : 1 ≤ n) (Bs Bn n₀ b o m q c : Nat) (A : Option Addr) (hA : 0 < m → A = some ⟨b, o, none⟩) (hm : m ≤ 64) (hq : Hid (q = 4 * m)) (hq2 : q ≤ 256) (hc1 : (q : Int) ≤ c) (hc2 : (c : Int) ≤ 9223372036854775807) (w : World)
    (hBs : Boxed w Bs 44 (.slice A q c)) (hBn : Boxed w Bn 3 (.int .i64 4)) :
    SeqStopsK Fence.wide n Try.prog 93 #[.pointer (some ⟨Bs, 0, none⟩), .pointer (some ⟨Bn, 0, none⟩)] (fun x : Fin m => #[.slice (some ⟨b, o + 4 * x.1, none⟩) 4 4]) (Kc n₀ Bs Bn) (fun ys => ys = firsts m m) (fun pre => ∃ k, k ≤ m ∧ pre = firsts m k) m w := fun l J Jx W hW hJ _ hY h0 =>
  chunk1_in n hn l Bs Bn n₀ b o m q c A hA hm hq hq2 hc1 hc2 J Jx (fun pre W' h => hJ pre W' W'.drew none h (grown_drew W') (by rintro r ⟨⟩)) hY W ((hW.block Bs hBs.lt).trans hBs) ((hW.block Bn hBn.lt).trans hBn) h0

/-- The number at a place. -/
def num (l : List UInt8) (m : Nat) (x : Fin m) : Int := (rows l)[x.1]?.getD 0
theorem val4_eq (a b c d : UInt8) : val4 a b c d = sgn (16777216 * (a.toNat : Int) + 65536 * (b.toNat : Int) + 256 * (c.toNat : Int) + (d.toNat : Int)) := by
  unfold val4 valU
  rfl
theorem num_eq {l : List UInt8} {m : Nat} (h : l.length = 4 * m) (x : Fin m) : sgn (16777216 * ((l[4 * x.1]'(by omega)).toNat : Int) + 65536 * ((l[4 * x.1 + 1]'(by omega)).toNat : Int) + 256 * ((l[4 * x.1 + 2]'(by omega)).toNat : Int) + ((l[4 * x.1 + 3]'(by omega)).toNat : Int)) = num l m x := by
  rw [num, rows_at l x.1 (by omega), Option.getD_some, val4_eq]
theorem value_num {l : List UInt8} {m : Nat} (h : l.length = 4 * m) (x : Fin m) (b o : Nat) (w : World) (hcell : ∀ j (h : j < l.length), w.cell? ⟨b, o + j, none⟩ = some (.int .u8 (l[j].toNat : Int))) :
    Calls Try.prog 89 #[.slice (some ⟨b, o + 4 * x.1, none⟩) 4 4] w fun e w' => e = .returned (.int .i32 (num l m x)) ∧ w = w' := by
  rw [← num_eq h x]
  have b8 (u : UInt8) : (0 : Int) ≤ (u.toNat : Int) ∧ (u.toNat : Int) ≤ 255 := by have := u.toNat_lt; omega
  exact value_any b (o + 4 * x.1) 4 _ _ _ _ w ⟨by omega, by omega⟩ (hcell (4 * x.1) (by omega)) (hcell (4 * x.1 + 1) (by omega)) (hcell (4 * x.1 + 2) (by omega)) (hcell (4 * x.1 + 3) (by omega)) (b8 _) (b8 _) (b8 _) (b8 _)
theorem num_range {l : List UInt8} {m : Nat} (h : l.length = 4 * m) (x : Fin m) : -2147483648 ≤ num l m x ∧ num l m x ≤ 2147483647 := by
  rw [← num_eq h x]
  have b8 (u : UInt8) : (0 : Int) ≤ (u.toNat : Int) ∧ (u.toNat : Int) ≤ 255 := by have := u.toNat_lt; omega
  have h0 := b8 (l[4 * x.1]'(by omega))
  have h1 := b8 (l[4 * x.1 + 1]'(by omega))
  have h2 := b8 (l[4 * x.1 + 2]'(by omega))
  have h3 := b8 (l[4 * x.1 + 3]'(by omega))
  unfold sgn
  split <;> omega
theorem firsts_num {l : List UInt8} {m : Nat} (h : m = (rows l).length) : (firsts m m).map (num l m) = rows l := by
  subst h
  apply List.ext_getElem
  · simp [firsts]
  · intro i h1 h2
    simp [firsts, num, h2]
theorem sgn_range {u : Int} (h0 : 0 ≤ u) (h1 : u ≤ 4294967295) : -2147483648 ≤ sgn u ∧ sgn u ≤ 2147483647 := by
  unfold sgn
  split <;> omega
theorem val4_range (a b c d : UInt8) : -2147483648 ≤ val4 a b c d ∧ val4 a b c d ≤ 2147483647 := by
  have hv := valU_range a b c d
  unfold val4
  exact sgn_range hv.1 hv.2
theorem rows_in32 : ∀ l : List UInt8, In32 (rows l)
  | [] => In32.nil
  | [_] => In32.nil
  | [_, _] => In32.nil
  | [_, _, _] => In32.nil
  | a :: b :: c :: d :: t => by
    have hs := val4_range a b c d
    have ht := rows_in32 t
    intro x hx
    rw [rows] at hx
    rcases List.mem_cons.1 hx with hx | hx
    · rw [hx]
      exact hs
    · exact ht x hx
theorem row_shape {W : World} {base : Nat} {e : TypeId} {v : Value} {l : List Int} (h : W.ownsRow base e 1 v l.length (i32s l)) (h2 : In32 l) : ∃ B d, v = .slice B l.length d ∧ OwnI W base e B d l := by
  have key (B : Option Addr) (d : Nat) (hv : v = .slice B l.length d) : OwnI W base e B d l := by
    refine ⟨?_, h2⟩
    unfold OwnV
    rw [i32s_length, ← hv]
    exact h
  rcases h.2 with ⟨hv, hn⟩ | ⟨g, cap, cur, hv, _⟩
  · have hv2 : v = .slice none l.length 0 := by rw [hv, hn]
    exact ⟨none, 0, hv2, key _ _ hv2⟩
  · exact ⟨_, _, hv, key _ _ hv⟩
theorem OwnI.putObj {W : World} {base : Nat} {e : TypeId} {A : Option Addr} {c : Nat} {l : List Int} (h : OwnI W base e A c l) {k : Nat} {o : Obj} (o' : Obj) (hl : W.heap[k]? = some o) (ho : o.isCells = false) : OwnI (W.putObj k o') base e A c l :=
  ⟨ownsRow_putObj (show W.ownsRow base e 1 _ _ _ from h.1) o' hl ho, h.2⟩
end Go.Proofs.Ytbhglgcnoidddaa
