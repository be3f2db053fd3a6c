/-
  How disks, sectors, bytes, numbers that come in are opened; with the form's own reach, where bytes may have any length.
-/
import Derived.SizedLaws
import Derived.Test.YtofnjdkfhboapaaDkW
import Derived.Test.YtofnjdkfhboapaaLaw
namespace Go.Proofs.Ytofnjdkfhboapaa
open Go.ChangeShapes Go.WideShapes Go.ChangeAt Go.RowKit Go.Joins Go.Deep
set_option linter.unusedVariables false
set_option linter.unusedSimpArgs false
set_option maxRecDepth 100000

theorem own : ownKnob Try.prog.godebug = none := by kernel_rfl
theorem laidOut : laidOutB Try.prog = true := by kernel_rfl
theorem cells_u8 : Try.prog.cellsOf 5 = 1 := by kernel_rfl
theorem cells_int : Try.prog.cellsOf 3 = 1 := by kernel_rfl
theorem cells_bool : Try.prog.cellsOf 4 = 1 := by kernel_rfl
theorem cells_bs : Try.prog.cellsOf 30 = 1 := by kernel_rfl
theorem cells_ss : Try.prog.cellsOf 22 = 1 := by kernel_rfl
theorem cells_Sc : Try.prog.cellsOf 56 = 2 := by kernel_rfl
theorem cells_Dk : Try.prog.cellsOf 24 = 4 := by kernel_rfl
def In64 (n : Int) : Prop := -9223372036854775808 ≤ n ∧ n ≤ 9223372036854775807
theorem part_is {cs : List Value} {o m k : Nat} {l : List Value} (hk : m = k) (h : (cs.drop o).take m = l) : (cs.drop o).take k = l := by rw [← hk]; exact h
theorem trod_bytes {H : Type} {enc : TypeId × Value → H} {W : World} {base : Nat} {spare : Nat → Bool} {held : Bool} {fuel : Nat} {cs : List Value} {x : DataW H × List MemPlace}
    (hf : DataW.trod enc Try.prog W base spare held fuel 30 cs = some x) : ∃ (A : Option Addr) (n c : Nat) (l : List UInt8), cs = [.slice A n c] ∧ Hid (l.length = n) ∧ Rd W A c l := by
  have ht := Try.underlying30
  have he := Try.underlying5
  have hc := cells_u8
  rcases open_ints ht he hc hf with ⟨hcs, hx⟩ | ⟨a, len', cap', zs, hcs, _, hl, hm, hz, hx, hcell, hwz⟩
  · exact ⟨none, 0, 0, [], hcs, hid rfl, Rd.nil W⟩
  · have hzl : len' ≤ zs.length := by rw [hz]; split <;> omega
    have hlen : ((zs.take len').map fun n => UInt8.ofNat n.toNat).length = len' := by simp; omega
    refine ⟨some a, len', cap', (zs.take len').map fun n => UInt8.ofNat n.toNat, hcs, hid hlen, by omega, hm, fun hp => ?_⟩
    obtain ⟨ab, ao, spot⟩ := a
    have hspot : spot = none := by simpa [Addr.add] using World.cell?_spot (hcell 0 (by omega))
    subst hspot
    refine ⟨ab, ao, rfl, fun j hj => ?_⟩
    rw [hlen] at hj
    have hcj := hcell j (by omega)
    rw [Addr.add_lit] at hcj
    rw [hcj]
    have hb := range_u8 hwz j
    simp only [List.getElem_map, List.getElem_take]
    have e : zs.getD j 0 = zs[j]'(by omega) := by simp [List.getD, List.getElem?_eq_getElem (show j < zs.length by omega)]
    rw [List.getD_eq_getElem?_getD] at e
    rw [e] at hb
    rw [List.getD_eq_getElem?_getD, e]
    congr 2
    simp only [UInt8.toNat_ofNat']
    omega
theorem mem_weightsAll {H : Type} {P : Program} {e : TypeId} : ∀ {ds : List (DataW H)} {d : DataW H}, d ∈ ds → ∀ n ∈ d.weights P e, n ∈ DataW.weightsAll P e ds
  | d0 :: ds, d, hd, n, hn => by
    simp only [DataW.weightsAll, List.mem_append]
    rcases List.mem_cons.1 hd with rfl | h
    · exact Or.inl hn
    · exact Or.inr (mem_weightsAll h n hn)
  | [], _, hd, _, _ => by cases hd
theorem mem_weights_slice {H : Type} {P : Program} {t e : TypeId} (ht : P.underlying t = some (.slice e)) {l r : List (DataW H)} {d : DataW H} (hd : d ∈ l) (n : Nat) (hn : n ∈ d.weights P e) : n ∈ (DataW.slice l r).weights P t := by
  simp only [DataW.weights, ht, List.mem_cons, List.mem_append]
  exact Or.inr (Or.inl (mem_weightsAll hd n hn))

theorem trod_bytes_sized {H : Type} {enc : TypeId × Value → H} {W : World} {base : Nat} {spare : Nat → Bool} {held : Bool} {fuel : Nat} {cs : List Value} {x : DataW H × List MemPlace}
    (hf : DataW.trod enc Try.prog W base spare held fuel 30 cs = some x) : ∃ (A : Option Addr) (n c : Nat) (l : List UInt8), cs = [.slice A n c] ∧ Hid (l.length = n) ∧ Rd W A c l ∧ ((∀ k ∈ x.1.weights Try.prog 30, k ≤ reachBytes) → l.length ≤ reachBytes) := by
  obtain ⟨A, n, c, l, hcs, hn, hr⟩ := trod_bytes hf
  refine ⟨A, n, c, l, hcs, hn, hr, fun hk => ?_⟩
  rcases open_ints Try.underlying30 Try.underlying5 cells_u8 hf with ⟨hcs', hx⟩ | ⟨a, len', cap', zs, hcs', _, hl, hm, hz, hx, _, _⟩
  · rw [hcs] at hcs'
    have e : n = 0 := by injection hcs' with h1; injection h1
    rw [hn.out, e]
    exact Nat.zero_le _
  · rw [hcs] at hcs'
    have e : n = len' := by injection hcs' with h1; injection h1
    rw [hn.out, e]
    subst hx
    have hb : Try.prog.bytesOf 5 = 1 := by kernel_rfl
    have h := hk _ (by simp only [DataW.weights, Try.underlying30, List.mem_cons]; exact Or.inl rfl)
    rw [hb] at h
    have hzl : len' ≤ zs.length := by rw [hz]; split <;> omega
    simp [lits] at h
    omega

/-- A slice that came in, with what each thing in it was read as. -/
theorem trod_rs_d {α : Type} {f : α → List Value} {s : Nat} {H : Type} {enc : TypeId × Value → H} {P : Program} {W : World} {base : Nat} {spare : Nat → Bool} {held : Bool} {t e : TypeId} {fuel : Nat} {cs : List Value} {x : DataW H × List MemPlace} {T : DataW H → α → Prop}
    (ht : P.underlying t = some (.slice e)) (hc : P.cellsOf e = s) (hs : ∀ x, (f x).length = s) (hs0 : 0 < s)
    (hE : ∀ fuel cs x, DataW.trod enc P W base spare held fuel e cs = some x → ∃ y, cs = f y ∧ T x.1 y)
    (h : DataW.trod enc P W base spare held fuel t cs = some x) : ∃ (A : Option Addr) (n c : Nat) (l : List α), cs = [.slice A n c] ∧ Hid (l.length = n) ∧ Rds f W A c l ∧ ∀ y ∈ l, ∃ d, T d y ∧ ∀ k ∈ d.weights P e, k ∈ x.1.weights P t := by
  rcases open_slice ht h with ⟨hcs, hx⟩ | ⟨a, len, cap, m, n, D, Pl, hcs, hb, hl, hm, hmm, hx, hi⟩
  · exact ⟨none, 0, 0, [], hcs, hid rfl, Rds.nil W, fun y hy => by cases hy⟩
  · have each : ∀ j, j < len → ∃ y : α, (∀ i u, (f y)[i]? = some u → W.cell? (a.add (j * s + i)) = some u) ∧ T (D j) y ∧ ∀ k ∈ (D j).weights P e, k ∈ x.1.weights P t := by
      intro j hj
      obtain ⟨cs', h1, h2⟩ := hi j (by rw [hmm]; split <;> omega)
      rw [hc] at h1
      obtain ⟨y, rfl, hy⟩ := hE _ _ _ h2
      obtain ⟨_, hcl, hat⟩ := World.cells?_some h1
      refine ⟨y, fun i u hu => ?_, hy, fun k hk => ?_⟩
      · have hil : i < s := by
          have := (List.getElem?_eq_some_iff.1 hu).1
          rwa [hs] at this
        rw [← Go.Deep.add_add, hat i hil, hu]
      · rw [hx]
        exact mem_weights_slice ht (List.mem_map.2 ⟨j, List.mem_range.2 hj, rfl⟩) k hk
    obtain ⟨l, hlen, hp⟩ := list_choice len each
    refine ⟨some a, len, cap, l, hcs, hid hlen, ⟨by omega, hm, fun h0 => ?_⟩, fun y hy => ?_⟩
    · obtain ⟨ab, ao, spot⟩ := a
      have hspot : spot = none := by
        have h00 : 0 < (f l[0]).length := by rw [hs]; exact hs0
        have := (hp 0 h0).1 0 _ (List.getElem?_eq_getElem h00)
        simpa [Addr.add] using World.cell?_spot this
      subst hspot
      exact ⟨ab, ao, rfl, rds_of_each hs hs0 fun j hj i u hu => by have := (hp j hj).1 i u hu; rwa [Addr.add_lit] at this⟩
    · obtain ⟨j, hj, rfl⟩ := List.mem_iff_getElem.1 hy
      exact ⟨D j, (hp j hj).2⟩


section
variable {H : Type} {enc : TypeId × Value → H} {W : World} {base : Nat} {spare : Nat → Bool} {held : Bool}
theorem trod_sector {fuel : Nat} {cs : List Value} {x : DataW H × List MemPlace} (h : DataW.trod enc Try.prog W base spare held fuel 56 cs = some x) : ∃ y : Sx, cs = fk y ∧ InD y.a ∧ Rd W y.A y.c y.l ∧ ((∀ k ∈ x.1.weights Try.prog 56, k ≤ reachBytes) → y.l.length ≤ reachBytes) := by
  obtain ⟨xs, fu, rfl, hx, hlen, hl, hf⟩ := DataW.trod_struct Try.underlying56 h
  have h0 := hf 0 _ rfl
  have h1 := hf 1 _ rfl
  rw [cells_Sc] at hlen
  match xs, hl with
  | [y0, y1], _ =>
    obtain ⟨a, e0, -, w0⟩ := DataW.trod_int Try.underlying3 h0
    obtain ⟨A, n, c, l, e1, hn, hr, hs⟩ := trod_bytes_sized h1
    replace e0 : (cs.drop 0).take 1 = [.int .i64 a] := part_is cells_int e0
    replace e1 : (cs.drop 1).take 1 = [.slice A n c] := part_is cells_bs e1
    have hn' := hn.out
    subst hn'
    match cs, hlen with
    | [c0, c1], _ =>
      simp at e0 e1
      subst e0 e1
      have b0 := bounds_i64 w0
      have i0 : InD a := ⟨by omega, by omega⟩
      refine ⟨⟨a, A, c, l⟩, rfl, i0, hr, fun hk => hs fun k hkk => hk k ?_⟩
      rw [hx]
      simp only [DataW.weights, Try.underlying56, List.map_cons, List.map_nil, DataW.weightsEach, List.mem_append]
      exact .inr (.inl hkk)
theorem trod_disk {fuel : Nat} {cs : List Value} {x : DataW H × List MemPlace} (h : DataW.trod enc Try.prog W base spare held fuel 24 cs = some x) : ∃ (d : Dsk) (A : Option Addr) (n c : Nat), cs = [.slice A n c, .int .i64 d.st, .int .i64 d.lf, .bool d.dd] ∧ Dkr d ∧ Hid (d.se.length = n) ∧ RdS W A c d.se ∧ ((∀ k ∈ x.1.weights Try.prog 24, k ≤ reachBytes) → ∀ s ∈ d.se, s.b.length ≤ reachBytes) := by
  obtain ⟨xs, fu, rfl, hx, hlen, hl, hf⟩ := DataW.trod_struct Try.underlying24 h
  have h0 := hf 0 _ rfl
  have h1 := hf 1 _ rfl
  have h2 := hf 2 _ rfl
  have h3 := hf 3 _ rfl
  rw [cells_Dk] at hlen
  match xs, hl with
  | [y0, y1, y2, y3], _ =>
    obtain ⟨A, n, c, us, e0, hn, hr, hT⟩ := trod_rs_d (f := fk) (T := fun (d : DataW H) (y : Sx) => InD y.a ∧ Rd W y.A y.c y.l ∧ ((∀ k ∈ d.weights Try.prog 56, k ≤ reachBytes) → y.l.length ≤ reachBytes)) Try.underlying22 cells_Sc fk_len (by omega) (fun fuel cs x h => trod_sector h) h0
    obtain ⟨st, e1, -, w1⟩ := DataW.trod_int Try.underlying3 h1
    obtain ⟨lf, e2, -, w2⟩ := DataW.trod_int Try.underlying3 h2
    obtain ⟨dd, e3, -⟩ := DataW.trod_bool Try.underlying4 h3
    replace e0 : (cs.drop 0).take 1 = [.slice A n c] := part_is cells_ss e0
    replace e1 : (cs.drop 1).take 1 = [.int .i64 st] := part_is cells_int e1
    replace e2 : (cs.drop 2).take 1 = [.int .i64 lf] := part_is cells_int e2
    replace e3 : (cs.drop 3).take 1 = [.bool dd] := part_is cells_bool e3
    match cs, hlen with
    | [c0, c1, c2, c3], _ =>
      simp at e0 e1 e2 e3
      subst e0 e1 e2 e3
      have b1 := bounds_i64 w1
      have b2 := bounds_i64 w2
      have i1 : InD st := ⟨by omega, by omega⟩
      have i2 : InD lf := ⟨by omega, by omega⟩
      refine ⟨⟨us.map toS, st, lf, dd⟩, A, n, c, rfl, ⟨fun s hs => ?_, i1, i2⟩, hid (by rw [List.length_map]; exact hn.out), ⟨us, rfl, hr, fun u hu => ?_⟩, fun hk s hs => ?_⟩
      · obtain ⟨u, hu, rfl⟩ := List.mem_map.1 hs
        obtain ⟨_, h, _⟩ := hT u hu
        exact h.1
      · obtain ⟨_, h, _⟩ := hT u hu
        exact h.2.1
      · obtain ⟨u, hu, rfl⟩ := List.mem_map.1 hs
        obtain ⟨_, h, hw⟩ := hT u hu
        refine h.2.2 fun k hkk => hk k ?_
        rw [hx]
        simp only [DataW.weights, Try.underlying24, List.map_cons, List.map_nil, DataW.weightsEach, List.mem_append]
        exact .inl (hw k hkk)
end

section
variable {H : Type} {enc : TypeId × Value → H} {W : World} {base b0 : Nat} {spare : Nat → Bool} {held : Bool} {v : Value} {d : DataW H} {p : List MemPlace} {r : Reach}
theorem open_i64 (hv : Value.okWide Try.prog W r b0 3 v) (h : DataW.Trod enc Try.prog W base spare held 3 v d p) : ∃ x : Int, v = .int .i64 x ∧ In64 x := by
  obtain ⟨x, rfl, rfl, rfl, wx⟩ := open_int Try.underlying3 hv h
  have hb := bounds_i64 wx
  exact ⟨x, rfl, by omega, by omega⟩
theorem open_bytes (hv : Value.okWide Try.prog W r b0 30 v) (h : DataW.Trod enc Try.prog W base spare held 30 v d p) : ∃ (A : Option Addr) (n c : Nat) (l : List UInt8), v = .slice A n c ∧ Hid (l.length = n) ∧ Rd W A c l :=
  open_rd Try.underlying30 Try.underlying5 cells_u8 hv h
theorem open_u8 (hv : Value.okWide Try.prog W r b0 5 v) (h : DataW.Trod enc Try.prog W base spare held 5 v d p) : ∃ x : Int, v = .int .u8 x ∧ 0 ≤ x ∧ x ≤ 255 := by
  obtain ⟨x, rfl, rfl, rfl, wx⟩ := open_int Try.underlying5 hv h
  have hb := bounds_u8 wx
  exact ⟨x, rfl, by omega, by omega⟩
theorem open_disk_sized (hv : Value.okWide Try.prog W r b0 24 v) (h : DataW.Trod enc Try.prog W base spare held 24 v d p) : ∃ (a : Dsk) (A : Option Addr) (n c : Nat), v = .agg #[.slice A n c, .int .i64 a.st, .int .i64 a.lf, .bool a.dd] ∧ (Dkr a ∧ Hid (a.se.length = n) ∧ RdS W A c a.se) ∧ ((∀ k ∈ d.weights Try.prog 24, k ≤ reachBytes) → ∀ s ∈ a.se, s.b.length ≤ reachBytes) := by
  obtain ⟨cs, rfl, hsz⟩ := okWide_struct Try.underlying24 hv
  obtain ⟨fuel, hf⟩ := h
  obtain ⟨a, A, n, c, e, h1, h2, h3, h4⟩ := trod_disk hf
  refine ⟨a, A, n, c, ?_, ⟨h1, h2, h3⟩, h4⟩
  obtain ⟨cs⟩ := cs
  simp only [Value.cells] at e
  rw [e]
theorem open_disk (hv : Value.okWide Try.prog W r b0 24 v) (h : DataW.Trod enc Try.prog W base spare held 24 v d p) : ∃ (a : Dsk) (A : Option Addr) (n c : Nat), v = .agg #[.slice A n c, .int .i64 a.st, .int .i64 a.lf, .bool a.dd] ∧ (Dkr a ∧ Hid (a.se.length = n) ∧ RdS W A c a.se) := by
  obtain ⟨a, A, n, c, e, h, _⟩ := open_disk_sized hv h
  exact ⟨a, A, n, c, e, h⟩
/-- Ints that came in. -/
theorem open_ints64 (hv : Value.okWide Try.prog W r b0 48 v) (h : DataW.Trod enc Try.prog W base spare held 48 v d p) : ∃ (A : Option Addr) (n c : Nat) (l : List Int), v = .slice A n c ∧ (Hid (l.length = n) ∧ RdV W A c (l.map fun x => .int .i64 x) ∧ ∀ x ∈ l, InD x) := by
  obtain ⟨a1, len, cap, rfl⟩ := okWide_slice Try.underlying48 hv
  obtain ⟨fuel, hf⟩ := h
  rcases open_ints Try.underlying48 Try.underlying3 cells_int hf with ⟨hcs, hx⟩ | ⟨a, len', cap', zs, hcs, _, hl, hm, hz, hx, hcell, hwz⟩
  · simp [Value.cells] at hcs
    obtain ⟨rfl, rfl, rfl⟩ := hcs
    exact ⟨none, 0, 0, [], rfl, hid rfl, RdV.nil W, fun x hx => (by cases hx)⟩
  · simp [Value.cells] at hcs
    obtain ⟨rfl, rfl, rfl⟩ := hcs
    have hzl : len ≤ zs.length := by rw [hz]; split <;> omega
    have hlen : (zs.take len).length = len := by rw [List.length_take]; omega
    have hb : ∀ x ∈ zs, InD x := fun x hx => by
      have := bounds_i64 (hwz x hx)
      exact ⟨by omega, by omega⟩
    refine ⟨some a, len, cap, zs.take len, rfl, hid hlen, ⟨by rw [List.length_map]; omega, hm, fun hp => ?_⟩, fun x hx => hb x (List.mem_of_mem_take hx)⟩
    rw [List.length_map, hlen] at hp
    obtain ⟨ab, ao, spot⟩ := a
    have hspot : spot = none := by simpa [Addr.add] using World.cell?_spot (hcell 0 (by omega))
    subst hspot
    refine ⟨ab, ao, rfl, fun j hj => ?_⟩
    rw [List.length_map, hlen] at hj
    have hcj := hcell j (by omega)
    rw [Addr.add_lit] at hcj
    rw [hcj]
    simp [List.getD, List.getElem?_eq_getElem (show j < zs.length by omega)]
end
section
variable {H : Type} {enc : TypeId × Value → H} {P : Program} {w : World} {base : Nat} {spare : Nat → Bool} {held : Bool}
theorem trodAll_five {t0 t1 t2 t3 t4 : TypeId} {args : Array Value} {ds : List (DataW H)} {ps : List MemPlace} (h : DataW.TrodAll enc P w base spare held [t0, t1, t2, t3, t4] args.toList ds ps) :
    ∃ v0 v1 v2 v3 v4 d0 d1 d2 d3 d4 p0 p1 p2 p3 p4, args = #[v0, v1, v2, v3, v4] ∧ ds = [d0, d1, d2, d3, d4] ∧ ps = p0 ++ p1 ++ p2 ++ p3 ++ p4 ∧ DataW.Trod enc P w base spare held t0 v0 d0 p0 ∧ DataW.Trod enc P w base spare held t1 v1 d1 p1 ∧ DataW.Trod enc P w base spare held t2 v2 d2 p2 ∧ DataW.Trod enc P w base spare held t3 v3 d3 p3 ∧ DataW.Trod enc P w base spare held t4 v4 d4 p4 := by
  obtain ⟨v0, s0, d0, e0, p0, q0, h0, rfl, rfl, k0, r0⟩ := trodAll_cons h
  obtain ⟨v1, s1, d1, e1, p1, q1, h1, rfl, rfl, k1, r1⟩ := trodAll_cons r0
  obtain ⟨v2, s2, d2, e2, p2, q2, h2, rfl, rfl, k2, r2⟩ := trodAll_cons r1
  obtain ⟨v3, s3, d3, e3, p3, q3, h3, rfl, rfl, k3, r3⟩ := trodAll_cons r2
  obtain ⟨v4, s4, d4, e4, p4, q4, h4, rfl, rfl, k4, r4⟩ := trodAll_cons r3
  obtain ⟨rfl, rfl, rfl⟩ := trodAll_nil r4
  exact ⟨v0, v1, v2, v3, v4, d0, d1, d2, d3, d4, p0, p1, p2, p3, p4, by cases args; simp_all, rfl, by simp, k0, k1, k2, k3, k4⟩
end
end Go.Proofs.Ytofnjdkfhboapaa
