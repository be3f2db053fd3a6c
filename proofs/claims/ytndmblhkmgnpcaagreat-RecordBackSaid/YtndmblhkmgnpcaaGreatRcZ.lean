/-
  OPENING, WITH THE FORM'S OWN REACH: blocks that come in, no one of them longer than the form lets a row be.
-/
import Derived.SizedLaws
import Derived.Test.YtndmblhkmgnpcaaGreatRcO
namespace Go.Proofs.YtndmblhkmgnpcaaGreat
open Go.ChangeShapes Go.WideShapes Go.ChangeAt Go.RowKit Go.Joins Go.Deep
set_option linter.unusedVariables false
set_option linter.unusedSimpArgs false

theorem mem_weightsAll {H : Type} {P : Program} {e : TypeId} : ∀ {ds : List (DataW H)} {d : DataW H}, d ∈ ds → ∀ n ∈ d.weights P e, n ∈ DataW.weightsAll P e ds
  | d0 :: ds, d, hd, n, hn => by
    simp only [DataW.weightsAll, List.mem_append]
    rcases List.mem_cons.1 hd with rfl | h
    · exact Or.inl hn
    · exact Or.inr (mem_weightsAll h n hn)
  | [], _, hd, _, _ => by cases hd
theorem mem_weights_slice {H : Type} {P : Program} {t e : TypeId} (ht : P.underlying t = some (.slice e)) {l r : List (DataW H)} {d : DataW H} (hd : d ∈ l) (n : Nat) (hn : n ∈ d.weights P e) : n ∈ (DataW.slice l r).weights P t := by
  simp only [DataW.weights, ht, List.mem_cons, List.mem_append]
  exact Or.inr (Or.inl (mem_weightsAll hd n hn))

theorem trod_bytes_sized {H : Type} {enc : TypeId × Value → H} {W : World} {base : Nat} {spare : Nat → Bool} {held : Bool} {fuel : Nat} {cs : List Value} {x : DataW H × List MemPlace}
    (hf : DataW.trod enc Tryz.prog W base spare held fuel 51 cs = some x) : ∃ (A : Option Addr) (n c : Nat) (l : List UInt8), cs = [.slice A n c] ∧ Hid (l.length = n) ∧ Rd W A c l ∧ ((∀ k ∈ x.1.weights Tryz.prog 51, k ≤ reachBytes) → l.length ≤ reachBytes) := by
  obtain ⟨A, n, c, l, hcs, hn, hr⟩ := trod_bytes hf
  refine ⟨A, n, c, l, hcs, hn, hr, fun hk => ?_⟩
  rcases open_ints Tryz.underlying51 Tryz.underlying5 cells_u8 hf with ⟨hcs', hx⟩ | ⟨a, len', cap', zs, hcs', _, hl, hm, hz, hx, _, _⟩
  · rw [hcs] at hcs'
    have e : n = 0 := by injection hcs' with h1; injection h1
    rw [hn.out, e]
    exact Nat.zero_le _
  · rw [hcs] at hcs'
    have e : n = len' := by injection hcs' with h1; injection h1
    rw [hn.out, e]
    subst hx
    have hb : Tryz.prog.bytesOf 5 = 1 := by kernel_rfl
    have h := hk _ (by simp only [DataW.weights, Tryz.underlying51, List.mem_cons]; exact Or.inl rfl)
    rw [hb] at h
    have hzl : len' ≤ zs.length := by rw [hz]; split <;> omega
    simp [lits] at h
    omega

/-- A slice that came in, with what each thing in it was read as. -/
theorem trod_rs_d {α : Type} {f : α → List Value} {s : Nat} {H : Type} {enc : TypeId × Value → H} {P : Program} {W : World} {base : Nat} {spare : Nat → Bool} {held : Bool} {t e : TypeId} {fuel : Nat} {cs : List Value} {x : DataW H × List MemPlace} {T : DataW H → α → Prop}
    (ht : P.underlying t = some (.slice e)) (hc : P.cellsOf e = s) (hs : ∀ x, (f x).length = s) (hs0 : 0 < s)
    (hE : ∀ fuel cs x, DataW.trod enc P W base spare held fuel e cs = some x → ∃ y, cs = f y ∧ T x.1 y)
    (h : DataW.trod enc P W base spare held fuel t cs = some x) : ∃ (A : Option Addr) (n c : Nat) (l : List α), cs = [.slice A n c] ∧ Hid (l.length = n) ∧ Rds f W A c l ∧ ∀ y ∈ l, ∃ d, T d y ∧ ∀ k ∈ d.weights P e, k ∈ x.1.weights P t := by
  rcases open_slice ht h with ⟨hcs, hx⟩ | ⟨a, len, cap, m, n, D, Pl, hcs, hb, hl, hm, hmm, hx, hi⟩
  · exact ⟨none, 0, 0, [], hcs, hid rfl, Rds.nil W, fun y hy => by cases hy⟩
  · have each : ∀ j, j < len → ∃ y : α, (∀ i u, (f y)[i]? = some u → W.cell? (a.add (j * s + i)) = some u) ∧ T (D j) y ∧ ∀ k ∈ (D j).weights P e, k ∈ x.1.weights P t := by
      intro j hj
      obtain ⟨cs', h1, h2⟩ := hi j (by rw [hmm]; split <;> omega)
      rw [hc] at h1
      obtain ⟨y, rfl, hy⟩ := hE _ _ _ h2
      obtain ⟨_, hcl, hat⟩ := World.cells?_some h1
      refine ⟨y, fun i u hu => ?_, hy, fun k hk => ?_⟩
      · have hil : i < s := by
          have := (List.getElem?_eq_some_iff.1 hu).1
          rwa [hs] at this
        rw [← Go.Deep.add_add, hat i hil, hu]
      · rw [hx]
        exact mem_weights_slice ht (List.mem_map.2 ⟨j, List.mem_range.2 hj, rfl⟩) k hk
    obtain ⟨l, hlen, hp⟩ := list_choice len each
    refine ⟨some a, len, cap, l, hcs, hid hlen, ⟨by omega, hm, fun h0 => ?_⟩, fun y hy => ?_⟩
    · obtain ⟨ab, ao, spot⟩ := a
      have hspot : spot = none := by
        have h00 : 0 < (f l[0]).length := by rw [hs]; exact hs0
        have := (hp 0 h0).1 0 _ (List.getElem?_eq_getElem h00)
        simpa [Addr.add] using World.cell?_spot this
      subst hspot
      exact ⟨ab, ao, rfl, rds_of_each hs hs0 fun j hj i u hu => by have := (hp j hj).1 i u hu; rwa [Addr.add_lit] at this⟩
    · obtain ⟨j, hj, rfl⟩ := List.mem_iff_getElem.1 hy
      exact ⟨D j, (hp j hj).2⟩

section
variable {H : Type} {enc : TypeId × Value → H} {W : World} {base b0 : Nat} {spare : Nat → Bool} {held : Bool} {v : Value} {d : DataW H} {p : List MemPlace} {r : Reach}
set_option maxRecDepth 2000000 in
theorem open_blks_sized (hv : Value.okWide Tryz.prog W r b0 45 v) (h : DataW.Trod enc Tryz.prog W base spare held 45 v d p) (hk : ∀ k ∈ d.weights Tryz.prog 45, k ≤ reachBytes) :
    ∃ (A : Option Addr) (n c : Nat) (L : List (List UInt8)), v = .slice A n c ∧ (Hid (L.length = n) ∧ RdB W A c L) ∧ Hid (∀ i (h : i < L.length), L[i].length ≤ 140737488351232) := by
  obtain ⟨a1, len, cap, rfl⟩ := okWide_slice Tryz.underlying45 hv
  obtain ⟨fuel, hf⟩ := h
  obtain ⟨A, n, c, xs, e, hn, hr, hT⟩ := trod_rs_d (f := fb) (T := fun (d : DataW H) (y : Bx) => Rd W y.A y.c y.l ∧ ((∀ k ∈ d.weights Tryz.prog 51, k ≤ reachBytes) → y.l.length ≤ reachBytes)) Tryz.underlying45 cells_lu8 fb_len (by omega) (fun fuel cs x h => by
    obtain ⟨A, n, c, l, e, hn, hr, hs⟩ := trod_bytes_sized h
    have hn' := hn.out
    subst hn'
    exact ⟨⟨A, c, l⟩, e, hr, hs⟩) hf
  simp [Value.cells] at e
  obtain ⟨rfl, rfl, rfl⟩ := e
  refine ⟨_, _, _, xs.map (·.l), rfl, ⟨hid (by rw [List.length_map]; exact hn.out), ⟨xs, rfl, hr, fun y hy => ?_⟩⟩, hid fun i hi => ?_⟩
  · obtain ⟨_, h1, _⟩ := hT y hy
    exact h1.1
  · have hi' : i < xs.length := by rwa [List.length_map] at hi
    obtain ⟨dd, ⟨_, h1⟩, h2⟩ := hT xs[i] (List.getElem_mem hi')
    rw [List.getElem_map]
    exact h1 fun k hkd => hk k (h2 k hkd)
end
section
variable {H : Type} {enc : TypeId × Value → H} {P : Program} {w : World} {base : Nat} {spare : Nat → Bool} {held : Bool}
theorem trodAll_five {t0 t1 t2 t3 t4 : TypeId} {args : Array Value} {ds : List (DataW H)} {ps : List MemPlace} (h : DataW.TrodAll enc P w base spare held [t0, t1, t2, t3, t4] args.toList ds ps) :
    ∃ v0 v1 v2 v3 v4 d0 d1 d2 d3 d4 p0 p1 p2 p3 p4, args = #[v0, v1, v2, v3, v4] ∧ ds = [d0, d1, d2, d3, d4] ∧ ps = p0 ++ p1 ++ p2 ++ p3 ++ p4 ∧ DataW.Trod enc P w base spare held t0 v0 d0 p0 ∧ DataW.Trod enc P w base spare held t1 v1 d1 p1 ∧ DataW.Trod enc P w base spare held t2 v2 d2 p2 ∧ DataW.Trod enc P w base spare held t3 v3 d3 p3 ∧ DataW.Trod enc P w base spare held t4 v4 d4 p4 := by
  obtain ⟨v0, s0, d0, e0, p0, q0, h0, rfl, rfl, k0, r0⟩ := trodAll_cons h
  obtain ⟨v1, s1, d1, e1, p1, q1, h1, rfl, rfl, k1, r1⟩ := trodAll_cons r0
  obtain ⟨v2, s2, d2, e2, p2, q2, h2, rfl, rfl, k2, r2⟩ := trodAll_cons r1
  obtain ⟨v3, s3, d3, e3, p3, q3, h3, rfl, rfl, k3, r3⟩ := trodAll_cons r2
  obtain ⟨v4, s4, d4, e4, p4, q4, h4, rfl, rfl, k4, r4⟩ := trodAll_cons r3
  obtain ⟨rfl, rfl, rfl⟩ := trodAll_nil r4
  exact ⟨v0, v1, v2, v3, v4, d0, d1, d2, d3, d4, p0, p1, p2, p3, p4, by cases args; simp_all, rfl, by simp, k0, k1, k2, k3, k4⟩
end
end Go.Proofs.YtndmblhkmgnpcaaGreat
