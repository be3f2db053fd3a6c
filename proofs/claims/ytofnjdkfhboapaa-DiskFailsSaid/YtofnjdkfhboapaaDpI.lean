/-
  slices.Insert of one sector, where there is no room: a new row.
-/
import Derived.Test.YtofnjdkfhboapaaDpV
import Derived.Deep.RegionLaw
import Derived.Deep.AppendSrc
import Derived.Lib.AppendZerosOnto
namespace Go.Proofs.Ytofnjdkfhboapaa
open Go.RowKit
set_option linter.unusedVariables false
set_option linter.unusedSimpArgs false

theorem run_copy_row_s {P : Program} (w : World) (dT sT ty elem : TypeId) (g o dLen dCap : Nat) (a : Addr) (sLen sCap : Nat) (cur : List Value) (t : TypeId) (cs : List Value) (s : Nat)
    (hu : P.underlying dT = some (.slice elem)) (hs : (P.info? elem).map (·.size) = some s)
    (hg : w.heap[g]? = some (.cells cur.toArray t (0, 0))) (hn : cs.length = Nat.min sLen dLen * s)
    (hsrc : ∀ j v, cs[j]? = some v → w.cell? (a.add j) = some v) (hfit : o + cs.length ≤ cur.length) (h1 : ∀ v ∈ cs, v.oneCell' = true) :
    (Builtin.copy_ #[dT, sT] ty #[.slice (some ⟨g, o, none⟩) dLen dCap, .slice (some a) sLen sCap]).run P w =
      .ok (goInt (Nat.min sLen dLen)) (w.setRow g (splice cur o cs).toArray) := by
  have hl := run_loadCells_list (P := P) w a cs hsrc
  have hst := run_storeCells_at P g o t cs 0 cur.toArray w hg (by simpa using hfit) h1
  cases hq : P.info? elem with
  | none => simp [hq] at hs
  | some i =>
    have hi : i.size = s := by simpa [hq] using hs
    simp [Builtin.copy_, run_underlying hu, Builtin.lenOf, Builtin.firstCells, sizeOf, typeInfo, hq, hi, ← hn, hl, hst, splice]

section
variable {P : Program} {w : World} {ops : Array Oper} {o : Oper} {a : Act} {Q : Exit → Act → World → Prop}
theorem wpList_copy_s {rest : List Oper} (hgd : o.guard = none) (d s : Operand) (t : TypeId) (ho : o.op = .call { callee := .builtin .copy, args := #[d, s], argTypes := #[t, t] }) (elem : TypeId) (sz : Nat) (hu : P.underlying t = some (.slice elem)) (hs : (P.info? elem).map (·.size) = some sz)
    (g off dLen dCap : Nat) (ad : Addr) (sLen sCap : Nat) (hd : a.eval d = .slice (some ⟨g, off, none⟩) dLen dCap) (hx : a.eval s = .slice (some ad) sLen sCap)
    (cur : List Value) (e : TypeId) (hg : w.heap[g]? = some (.cells cur.toArray e (0, 0))) (cs : List Value) (hn : cs.length = Nat.min sLen dLen * sz)
    (hsrc : ∀ j v, cs[j]? = some v → w.cell? (ad.add j) = some v) (hfit : off + cs.length ≤ cur.length) (h1 : ∀ v ∈ cs, v.oneCell' = true)
    (h : ∀ w', Hid (w'.heap[g]? = some (.cells (splice cur off cs).toArray e (0, 0))) → But g w w' → w'.heap.size = w.heap.size → wpList P ops Q rest (a.put o.dst (goInt (Nat.min sLen dLen))) w') : wpList P ops Q (o :: rest) a w := by
  refine wpList_plain hgd fun K hK => ?_
  have hrun := run_copy_row_s (P := P) w t t o.type elem g off dLen dCap ad sLen sCap cur e cs sz hu hs hg hn hsrc hfit h1
  unfold Oper.wp
  simp [execOp, ho, resolve, invoke, builtin, hd, hx, hrun, Result.andThen]
  exact hK _ _ (h _ (setRow_heap w g _ _ e _ hg) ⟨rfl, rfl, rfl, by simp [World.setRow], fun k _ hk => setRow_other w g k _ hk⟩ (by simp [World.setRow]))
theorem step_copy_s {K : Act → World → Prop} {E : Prop} (hgd : o.guard = none) (d s : Operand) (t : TypeId) (ho : o.op = .call { callee := .builtin .copy, args := #[d, s], argTypes := #[t, t] }) (elem : TypeId) (sz : Nat) (hu : P.underlying t = some (.slice elem)) (hs : (P.info? elem).map (·.size) = some sz)
    (g off dLen dCap : Nat) (ad : Addr) (sLen sCap : Nat) (hd : a.eval d = .slice (some ⟨g, off, none⟩) dLen dCap) (hx : a.eval s = .slice (some ad) sLen sCap)
    (cur : List Value) (e : TypeId) (hg : w.heap[g]? = some (.cells cur.toArray e (0, 0))) (cs : List Value) (hn : cs.length = Nat.min sLen dLen * sz)
    (hsrc : ∀ j v, cs[j]? = some v → w.cell? (ad.add j) = some v) (hfit : off + cs.length ≤ cur.length) (h1 : ∀ v ∈ cs, v.oneCell' = true)
    (h : ∀ w', Hid (w'.heap[g]? = some (.cells (splice cur off cs).toArray e (0, 0))) → But g w w' → w'.heap.size = w.heap.size → K (a.put o.dst (goInt (Nat.min sLen dLen))) w') :
    if Region.wanted o (yielded ops a.tmps) = true then Oper.wp P o a w K Q else E := by
  have hw : Region.wanted o (yielded ops a.tmps) = true := by simp [Region.wanted, hgd]
  rw [if_pos hw]
  have hrun := run_copy_row_s (P := P) w t t o.type elem g off dLen dCap ad sLen sCap cur e cs sz hu hs hg hn hsrc hfit h1
  unfold Oper.wp
  simp [execOp, ho, resolve, invoke, builtin, hd, hx, hrun, Result.andThen]
  exact h _ (setRow_heap w g _ _ e _ hg) ⟨rfl, rfl, rfl, by simp [World.setRow], fun k _ hk => setRow_other w g k _ hk⟩ (by simp [World.setRow])
end

theorem flat_take : ∀ (l : List Sx) (k : Nat), (flat fk l).take (k * 2) = flat fk (l.take k)
  | [], k => by simp [flat]
  | x :: l, 0 => by simp [flat]
  | x :: l, k + 1 => by
    rw [List.take_succ_cons, flat, flat, show (k + 1) * 2 = (fk x).length + k * 2 by rw [fk_len]; omega, List.take_length_add_append, flat_take l k]
theorem flat_drop : ∀ (l : List Sx) (k : Nat), (flat fk l).drop (k * 2) = flat fk (l.drop k)
  | [], k => by simp [flat]
  | x :: l, 0 => by simp [flat]
  | x :: l, k + 1 => by
    rw [List.drop_succ_cons, flat, show (k + 1) * 2 = (fk x).length + k * 2 by rw [fk_len]; omega, List.drop_length_add_append, flat_drop l k]
theorem splice_at (X Z V : List Value) : splice (X ++ Z) X.length V = X ++ (V ++ Z.drop V.length) := by
  have e1 : (X ++ Z).take X.length = X := by simp
  have e2 : (X ++ Z).drop (X.length + V.length) = Z.drop V.length := by rw [List.drop_length_add_append]
  rw [splice, e1, e2]
theorem two_splices (X Z Y V : List Value) (k m n : Nat) (hX : X.length = k) (hV : V.length = m) (hn : n = k + m + Y.length) (hZ : m + Y.length ≤ Z.length) : (splice (splice (X ++ Z) k V) (k + m) Y).take n = X ++ (V ++ Y) ∧ (splice (splice (X ++ Z) k V) (k + m) Y).length = (X ++ Z).length := by
  subst hX hV
  rw [splice_at, ← List.append_assoc, ← List.length_append, splice_at]
  refine ⟨?_, by simp; omega⟩
  rw [← List.append_assoc, List.take_left' (by simp; omega), List.append_assoc]

/-- The call hands back one more sector, in a new row. -/
def RetIn (w : World) (n : Nat) (l : List Sx) (e : Ending) (w' : World) : Prop := ∃ c, e = .returned (.slice (some ⟨w.heap.size, 0, none⟩) n c) ∧ Owns fk 2 w' w.heap.size 56 (some ⟨w.heap.size, 0, none⟩) c l ∧ Below w.heap.size w w'

set_option maxRecDepth 100000 in
set_option maxHeartbeats 3200000 in
theorem insert_end (g n vb : Nat) (xs : List Sx) (x : Sx) (w : World) (hn : xs.length = n) (h5 : n ≤ 9000)
    (hcs : ∀ j u, (flat fk xs)[j]? = some u → w.cell? ⟨g, 0 + j, none⟩ = some u) (hvs : ∀ j u, (fk x)[j]? = some u → w.cell? ⟨vb, 0 + j, none⟩ = some u) :
    Calls Try.prog 45 #[.slice (some ⟨g, 0, none⟩) n n, .int .i64 (n : Int), .slice (some ⟨vb, 0, none⟩) 1 1] w (RetIn w (n + 1) (xs ++ [x])) := by
  obtain ⟨i0, hi0, hz0, hz1, hz2⟩ := info_parts info_Sc
  have hsrc : Src Try.prog i0.size 22 (.slice (some ⟨vb, 0, none⟩) 1 1) 1 (fk x) w := by
    rw [hz1]
    exact Src.ofSlice w Try.underlying22 ⟨vb, 0, none⟩ 1 1 (fk x) rfl (fun j u hj => by rw [Addr.add_lit]; exact hvs j u hj) (fk_one x)
  have hold : (Builtin.firstCells i0.size n (.slice (some ⟨g, 0, none⟩) n n)).run Try.prog w.drew = .ok (flat fk xs).toArray w.drew := by
    rw [hz1]
    exact run_firstCells_some w.drew 2 n ⟨g, 0, none⟩ n n (flat fk xs) (by rw [flat_length fk_len, hn]) (fun j u hj => by rw [Addr.add_lit]; exact hcs j u hj)
  have hrun : ∀ ty, (Builtin.append_ #[22, 22] ty #[.slice (some ⟨g, 0, none⟩) n n, .slice (some ⟨vb, 0, none⟩) 1 1]).run Try.prog w = _ := fun ty =>
    run_append_grow_src w 22 22 ty 56 i0 _ Try.underlying22 hi0 hz0 (some ⟨g, 0, none⟩) n n (flat fk xs) hold _ 1 (fk x) hsrc (by omega) (by omega) (by rw [hz2]; exact growslice_fits (by omega) (by omega))
  have hge := grownCap_ge w (n + 1) n 56
  have hle := grownCap_le_maxLen w (n + 1) n 56 (by unfold maxLen; omega)
  generalize grownCap w (n + 1) n 56 = G at hrun hge hle
  have ec : (Value.agg #[.int .i64 0, .slice none 0 0]).cells = #[.int .i64 0, .slice none 0 0] := by simp [go_sem]
  rw [ec] at hrun
  have HG := hid (And.intro hge hle)
  have hzs : (Builtin.zeroCells #[.int .i64 0, .slice none 0 0] (G - (n + 1))).size = (G - (n + 1)) * 2 := by simp [Builtin.zeroCells]
  generalize hrow : ((flat fk xs ++ fk x).toArray ++ Builtin.zeroCells #[.int .i64 0, .slice none 0 0] (G - (n + 1))) = ROW at hrun
  have HRW := hid hrow
  have HN := hid hn
  have HZ := hid hzs
  clear hge hle hold hsrc hcs hvs ec hrow hn hzs hz0 hz1 hz2 hi0
  go_enter Try.func45, Try.ntmps45
  go_wp2_with (at_builtin; refine Lib.wpList_append_run _ rfl _ _ _ _ rfl _ _ rfl rfl _ _ (hrun _) ?_)
  all_goals
    go_ret
    have hn := HN.out
    have hrow := HRW.out
    have hzs := HZ.out
    obtain ⟨hge, hle⟩ := HG.out
    refine ⟨G, rfl, ?_, ((Below.refl _ w).drew).alloc (Nat.le_refl _) _⟩
    refine ⟨flat_length fk_len _, .inr ⟨w.heap.size, G, ROW, by simp [hn], Nat.le_refl _, heap_alloc_new w.drew _, by simp [hn]; omega, hle, ?_, ?_⟩⟩
    · rw [← hrow, Array.size_append, hzs]
      simp [flat_length fk_len, fk_len, hn]
      omega
    · rw [← hrow, Array.toList_append, flat_append]
      refine List.take_left' ?_
      simp [flat, flat_length fk_len, fk_len, hn]
      omega

set_option maxRecDepth 100000 in
set_option maxHeartbeats 600000 in
theorem insert_mid (g n i vb : Nat) (xs : List Sx) (x : Sx) (w : World) (hn : xs.length = n) (h5 : n ≤ 9000) (hi : i < n)
    (hcs : ∀ j u, (flat fk xs)[j]? = some u → w.cell? ⟨g, 0 + j, none⟩ = some u) (hvs : ∀ j u, (fk x)[j]? = some u → w.cell? ⟨vb, 0 + j, none⟩ = some u) :
    Calls Try.prog 45 #[.slice (some ⟨g, 0, none⟩) n n, .int .i64 (i : Int), .slice (some ⟨vb, 0, none⟩) 1 1] w (RetIn w (n + 1) (xs.take i ++ x :: xs.drop i)) := by
  obtain ⟨i0, hi0, hz0, hz1, hz2⟩ := info_parts info_Sc
  have hgw : g < w.heap.size := World.block_lt_of_cell? w ⟨g, 0 + 0, none⟩ (hcs 0 _ (List.getElem?_eq_getElem (by rw [flat_length fk_len, hn]; omega)))
  have hvw : vb < w.heap.size := World.block_lt_of_cell? w ⟨vb, 0 + 0, none⟩ (hvs 0 _ rfl)
  have hold : (Builtin.firstCells i0.size i (.slice (some ⟨g, 0, none⟩) i n)).run Try.prog w.drew = .ok (flat fk (xs.take i)).toArray w.drew := by
    rw [hz1]
    exact run_firstCells_some w.drew 2 i ⟨g, 0, none⟩ i n (flat fk (xs.take i)) (by rw [flat_length fk_len, List.length_take, hn, Nat.min_eq_left (by omega)]) (fun j u hj => by
      rw [Addr.add_lit]
      rw [← flat_take, List.getElem?_take] at hj
      split at hj
      · exact hcs j u hj
      · cases hj)
  have ec : (Value.agg #[.int .i64 0, .slice none 0 0]).cells = #[.int .i64 0, .slice none 0 0] := by simp [go_sem]
  have hrz := fun ty => Lib.run_append_grow_zeros w 22 3 ty 56 i0 _ .i64 .i64 Try.underlying22 Try.underlying3 hi0 hz0 (some ⟨g, 0, none⟩) i n (flat fk (xs.take i)) hold (n + 1 - i) (by omega) (by omega) (by omega) (by omega) (by rw [hz2]; omega) (by rw [hz2]; exact growslice_fits (by omega) (by omega))
  have hc1 : ((n + 1 - i : Nat) : Int) = (n : Int) + 1 - (i : Int) := by omega
  have hc2 : i + (n + 1 - i) = n + 1 := by omega
  simp only [ec, hc1, hc2] at hrz
  have hge := grownCap_ge w (n + 1) n 56
  have hle := grownCap_le_maxLen w (n + 1) n 56 (by unfold maxLen; omega)
  generalize grownCap w (n + 1) n 56 = G at hrz hge hle
  have hle2 : (G : Int) ≤ 9223372036854775807 := by unfold maxLen at hle; omega
  obtain ⟨Z, hZ⟩ : ∃ Z : List Value, Z = (Builtin.zeroCells #[.int .i64 0, .slice none 0 0] (n + 1 - i)).toList ++ (Builtin.zeroCells #[.int .i64 0, .slice none 0 0] (G - (n + 1))).toList := ⟨_, rfl⟩
  have hZl : Z.length = (n + 1 - i) * 2 + (G - (n + 1)) * 2 := by rw [hZ, List.length_append, Array.length_toList, Array.length_toList]; simp [Builtin.zeroCells]
  have hrow : ((flat fk (xs.take i)).toArray ++ Builtin.zeroCells #[.int .i64 0, .slice none 0 0] (n + 1 - i) ++ Builtin.zeroCells #[.int .i64 0, .slice none 0 0] (G - (n + 1))) = (flat fk (xs.take i) ++ Z).toArray := by
    apply Array.ext'
    rw [hZ]
    simp
  simp only [hrow] at hrz
  have hXl : (flat fk (xs.take i)).length = i * 2 := by rw [flat_length fk_len, List.length_take, hn, Nat.min_eq_left (by omega)]
  have hYl : (flat fk (xs.drop i)).length = (n - i) * 2 := by rw [flat_length fk_len, List.length_drop, hn]
  obtain ⟨H, hH⟩ : ∃ H, w.heap.size = H := ⟨_, rfl⟩
  have hgH : w.drew.alloc (.cells (flat fk (xs.take i) ++ Z).toArray 56) = (w.alloc (.cells (flat fk (xs.take i) ++ Z).toArray 56)).drew := rfl
  have hW1g : (w.drew.alloc (.cells (flat fk (xs.take i) ++ Z).toArray 56)).heap[H]? = some (.cells (flat fk (xs.take i) ++ Z).toArray 56 (0, 0)) := by rw [← hH]; exact heap_alloc_new w.drew _
  have hbW : Below w.heap.size w (w.drew.alloc (.cells (flat fk (xs.take i) ++ Z).toArray 56)) := ((Below.refl _ w).drew).alloc (Nat.le_refl _) _
  have hvs1 : ∀ j u, (fk x)[j]? = some u → (w.drew.alloc (.cells (flat fk (xs.take i) ++ Z).toArray 56)).cell? ⟨vb, 0 + j, none⟩ = some u := fun j u hj => keep hbW (hvs j u hj)
  have hcs1 : ∀ j u, (flat fk xs)[j]? = some u → (w.drew.alloc (.cells (flat fk (xs.take i) ++ Z).toArray 56)).cell? ⟨g, 0 + j, none⟩ = some u := fun j u hj => keep hbW (hcs j u hj)
  have hzS : (w.drew.alloc (.cells (flat fk (xs.take i) ++ Z).toArray 56)).heap.size = H + 1 := by rw [← hH]; simp [go_sem]
  rw [hH] at hrz hgw hvw
  have hne1 : ¬ ((i : Int) = (n : Int)) := by omega
  have hG1 : ¬ (G = i) := by omega
  have hG2 : ¬ (G = i + 1) := by omega
  have hin : ¬ (n = i) := by omega
  have hi2 : (i : Int) ≤ (n : Int) := by omega
  have hnG : (n : Int) + 1 ≤ (G : Int) := by omega
  have htn : ((i : Int) + 1).toNat = i + 1 := by omega
  have FY := hid hYl
  have FZ := hid hZl
  have FH := hid hH
  have FG := hid (And.intro hge hle)
  obtain ⟨X, hXX⟩ : ∃ X, X = flat fk (xs.take i) := ⟨_, rfl⟩
  have HXX := hid hXX
  rw [← hXX] at hgH hW1g hbW hXl hzS
  simp only [← hXX] at hrz hvs1 hcs1
  clear hXX hold hrow
  have FX := hid hXl
  have FV := hid hvs1
  have FC := hid hcs1
  generalize w.drew.alloc (.cells (X ++ Z).toArray 56) = W1 at *
  clear ec hZ hZl hXl hYl hvs hcs hvs1 hcs1 hH hgH hge hle hz0 hz2
  go_enter Try.func45, Try.ntmps45
  have hs2 : (Try.prog.info? 56).map (·.size) = some 2 := by rw [hi0]; simp [hz1]
  have hmin : Nat.min 1 (n + 1 - i) * 2 = 2 := by show min 1 (n + 1 - i) * 2 = 2; omega
  have hmin2 : Nat.min (n - i) (n - i) * 2 = (n - i) * 2 := by show min (n - i) (n - i) * 2 = (n - i) * 2; omega
  have hw1 : IntKind.i64.wrap ((i : Int) + 1) = (i : Int) + 1 := by rw [IntKind.wrap_i64]; omega
  have hb1 : (0 : Int) ≤ (i : Int) + 1 := by omega
  have hb3 : (i : Int) + 1 ≤ (n : Int) + 1 := by omega
  have FM := hid hmin
  have FM2 := hid hmin2
  have FS := hid hs2
  clear hmin hmin2 hs2 hc1 hc2 hi0
  have one : True := trivial
  go_wp2_with (first
    | (at_builtin; refine Lib.wpList_append_run _ rfl _ _ _ _ rfl _ _ rfl rfl _ _ (hrz _) ?_)
    | (clear one; refine wpList_copy_s rfl (.tmp 43) (.tmp 44) 22 rfl 56 2 Try.underlying22 FS.out H (i * 2) (n + 1 - i) (G - i) ⟨vb, 0, none⟩ 1 1 rfl rfl (X ++ Z) 56 hW1g (fk x) FM.out.symm (fun j u hj => by rw [Addr.add_lit]; exact FV.out j u hj) (by rw [List.length_append, FX.out, FZ.out, fk_len]; have := FG.out; omega) (fk_one x) ?_; intro w2 g2 bt2 z2))
  have hb2 : Below w.heap.size w w2 := hbW.trans (bt2.below (by rw [FH.out]; exact Nat.le_refl _) (by have := FH.out; omega))
  have hc2 : ∀ j u, (flat fk (xs.drop i))[j]? = some u → w2.cell? ⟨g, i * 2 + j, none⟩ = some u := fun j u hj => by
    rw [← flat_drop, List.getElem?_drop] at hj
    have h := FC.out _ _ hj
    rw [Nat.zero_add] at h
    exact bt2.cell (a := ⟨g, i * 2 + j, none⟩) (by show g ≠ H; omega) h
  have FC2 : Hid (∀ j u, (flat fk (xs.drop i))[j]? = some u → w2.drew.cell? ((⟨g, i * 2, none⟩ : Addr).add j) = some u) := hid fun j u hj => by rw [Addr.add_lit]; exact hc2 j u hj
  obtain ⟨c2, hg2⟩ : ∃ c2, splice (X ++ Z) (i * 2) (fk x) = c2 := ⟨_, rfl⟩
  rw [hg2] at g2
  have hl2 : c2.length = G * 2 := by rw [← hg2, length_splice _ _ _ (by rw [List.length_append, FX.out, FZ.out, fk_len]; have := FG.out; omega), List.length_append, FX.out, FZ.out]; have := FG.out; omega
  have F2 := hid hg2
  have FD : Hid (w2.drew.heap[H]? = some (.cells c2.toArray 56 (0, 0))) := g2
  have FL := hid hl2
  clear hc2 hg2 hl2 hW1g hbW FV FC bt2 z2 hzS
  go_region_law (refine step_copy_s rfl (.tmp 50) (.tmp 53) 22 rfl 56 2 Try.underlying22 FS.out H ((i + 1) * 2) (n - i) (G - (i + 1)) ⟨g, i * 2, none⟩ (n - i) (n - i) (by simp [Act.eval, Act.put]) (by simp [Act.eval, Act.put]) c2 56 FD.out (flat fk (xs.drop i)) (by rw [FM2.out]; exact FY.out) FC2.out (by rw [FL.out, FY.out]; have := FG.out; omega) (flat_one fk_one _) ?_; intro w3 g3 bt3 z3)
  go_wp2
  go_ret
  have e2 : splice c2 ((i + 1) * 2) (flat fk (xs.drop i)) = splice (splice (X ++ Z) (i * 2) (fk x)) (i * 2 + 2) (flat fk (xs.drop i)) := by rw [F2.out, Nat.succ_mul]
  rw [e2] at g3
  have hge := FG.out
  have hX := FX.out
  have hY := FY.out
  have hZ := FZ.out
  have hH := FH.out
  subst hH
  have h2 := two_splices X Z (flat fk (xs.drop i)) (fk x) (i * 2) 2 ((n + 1) * 2) hX (fk_len x) (by omega) (by omega)
  refine ⟨G, by first | rfl | simp, ?_, ?_⟩
  · have hX' : X = flat fk (xs.take i) := HXX.out
    refine ⟨flat_length fk_len _, .inr ⟨w.heap.size, G, _, ?_, Nat.le_refl _, g3.out, ?_, hge.2, ?_, ?_⟩⟩
    · simp [hn]; try omega
    · simp [hn]; try omega
    · rw [List.size_toArray, h2.2, List.length_append]; omega
    · have el : (xs.take i ++ x :: xs.drop i).length = n + 1 := by simp [hn]; omega
      rw [el]
      show (splice (splice (X ++ Z) (i * 2) (fk x)) (i * 2 + 2) (flat fk (xs.drop i))).take ((n + 1) * 2) = _
      rw [h2.1, flat_append, flat, hX']
  · exact hb2.trans ((Below.refl _ w2).drew.trans (bt3.below (Nat.le_refl _) (by have := hb2.size; exact this)))
end Go.Proofs.Ytofnjdkfhboapaa
