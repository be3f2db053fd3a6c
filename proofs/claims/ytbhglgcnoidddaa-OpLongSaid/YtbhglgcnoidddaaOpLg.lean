/-
  THE STATEMENT OpLong: how many bytes an operation has hangs on its kind and on how many elements it has alone, and no beginning of its bytes is one's; for every operation, every other row and every number. No condition but the statement's own guards.
-/
import Derived.Test.YtbhglgcnoidddaaOpX
import Derived.Test.YtbhglgcnoidddaaOpW
namespace Go.Proofs.Ytbhglgcnoidddaa
open Go.ChangeShapes Go.WideShapes Go.ChangeAt Go.RowKit Go.Joins
set_option linter.unusedVariables false
set_option linter.unusedSimpArgs false

theorem Ri.take {w : World} {A : Option Addr} {c : Nat} {l : List Int} (h : Ri w A c l) (k : Nat) : Ri w A c (l.take k) := by
  refine ⟨⟨?_, h.1.2.1, fun hp => ?_⟩, fun x hx => h.2 x (List.mem_of_mem_take hx)⟩
  · have := h.1.1
    simp only [i32s, List.length_map, List.length_take] at this ⊢
    omega
  · have h0 : 0 < (i32s l).length := by
      simp only [i32s, List.length_map, List.length_take] at hp ⊢
      omega
    obtain ⟨b, o, hA, hc⟩ := h.1.2.2 h0
    refine ⟨b, o, hA, fun j hj => ?_⟩
    have hj2 : j < (i32s l).length := by
      simp only [i32s, List.length_map, List.length_take] at hj ⊢
      omega
    rw [hc j hj2]
    simp [i32s]
theorem no_part {o : Opd} (hr : Opr o) (hm : mayO o = true) {k : Nat} (hk : k < (opb o).length) (o' : Opd) : ¬ Begins ((opb o).take k) o' := fun h => by
  have h1 : Begins (opb o) o' := ⟨h.r, h.may, h.pre.trans (List.take_prefix _ _)⟩
  have h2 : Begins (opb o) o := ⟨hr, hm, List.prefix_refl _⟩
  obtain rfl := begins_one h1 h2
  have := h.pre.length_le
  rw [List.length_take] at this
  omega
theorem row_opr {o : Opd} (hr : Opr o) {l : List Int} (hl : In32 l) : Opr { o with row := l } := ⟨hr.k0, hr.k1, hr.han, hr.s64, hr.spn, hr.aft, hr.lab, hl⟩

set_option maxRecDepth 100000 in
set_option maxHeartbeats 6400000 in
theorem olong_walk (o : Opd) (A : Option Addr) (n c : Nat) (B : Option Addr) (m d : Nat) (l : List Int) (k : Int) (hk : In64 k) (w : World) (hr : Opr o ∧ Hid (o.row.length = n) ∧ Ri w A c o.row) (hs : Hid (l.length = m) ∧ Ri w B d l) :
    Calls Try.prog 6 #[.agg #[.int .u8 o.kd, .int .u8 o.l, .int .u32 o.c, .int .u8 o.k, .int .i64 o.s, .int .u8 o.fl, .int .u32 o.fc, .int .u8 o.fk, .int .i64 o.fn, .int .i64 o.fm, .int .u8 o.al, .int .u32 o.ac, .int .u8 o.ak, .int .i64 o.an, .int .u8 o.tl, .int .u32 o.tc, .slice A n c], .slice B m d, .int .i64 k] w fun e w' => e = .returned (.bool true) ∧ Below w.heap.size w w' := by
  obtain ⟨i0, hi0, hz0, hz1, hz2⟩ := info_parts info_i32
  obtain ⟨hor, hn, hra⟩ := hr
  obtain ⟨hm, hsl⟩ := hs
  have bx0 := boxO_new w o A n c 35
  have HS := hid hsl
  have hm2 : (m : Int) ≤ d := by have := hsl.len; have := hm.out; omega
  have hd2 : (d : Int) ≤ 9223372036854775807 := hsl.cap |> fun h => by omega
  go_enter Try.func6, Try.ntmps6
  go_wp2_with fail
  refine (alive_any _).mono ?_
  rintro e w1 ⟨rfl, b1⟩
  have bx1 := bx0.keep b1
  have hb1 := past_alloc b1
  clear bx0 b1 hsl
  have t16 := bx1.c16
  by_cases hn5 : 1000 < n
  · have d1 : (1000 : Int) < (n : Int) := by omega
    go_wp2
    go_ret
    exact ⟨rfl, hb1⟩
  have d1 : ¬ (1000 : Int) < (n : Int) := by omega
  by_cases hmn : m < n
  · have d2 : (m : Int) < (n : Int) := by omega
    go_wp2
    go_ret
    exact ⟨rfl, hb1⟩
  have d2 : ¬ (m : Int) < (n : Int) := by omega
  have hmn2 : (n : Int) ≤ m := by omega
  have HT := hid (show (l.take n).length = n by rw [List.length_take, hm.out]; omega)
  have HPr := hid (row_opr hor (HS.out.take n).in32)
  obtain ⟨L2, m2, j2, hL2⟩ : ∃ L2 m2 j2, (if mayO { o with row := l.take n } = true then opb { o with row := l.take n } else []) = L2 ∧ L2.length = m2 ∧ er (mayO { o with row := l.take n }) = j2 := ⟨_, _, _, rfl, rfl, rfl⟩
  have HL2 := hid hL2
  cases hq : mayO o
  · have HQ := hid hq
    clear hq hL2 HL2 HPr
    go_wp2_with (refine wpList_load_o rfl (.tmp 3) rfl _ rfl bx1 ?_)
    refine (oput_no o A n c hn HQ _ (hra.keep hb1)).mono ?_
    rintro e w2 ⟨rfl, b2⟩
    go_wp2
    go_ret
    exact ⟨rfl, below_in hb1 b2⟩
  obtain ⟨p, hp⟩ : ∃ p, (opb o).length = p := ⟨_, rfl⟩
  have hlen := opb_length hq
  have hsz : szO o.kd o.fm = (p : Int) := by rw [← hlen.1, hp]
  have HJ : Hid ((j2 = 0 ∧ m2 = p) ∨ j2 = 8) := hid (by
    cases hq2 : mayO { o with row := l.take n }
    · rw [hq2] at hL2; exact .inr hL2.2.2.symm
    · refine .inl ⟨by rw [← hL2.2.2, hq2]; rfl, ?_⟩
      have h2 := opb_length hq2
      rw [← hL2.2.1, ← hL2.1, if_pos hq2]
      have : ((opb { o with row := l.take n }).length : Int) = (p : Int) := h2.1.trans hsz
      omega)
  have HSZ := hid hsz
  have HP := hid hp
  have HQ := hid hq
  have hp24 : 24 ≤ p := by rw [← hp]; exact hlen.2.1
  have hp293 : p ≤ 293 := by rw [← hp]; exact hlen.2.2.1
  clear hL2 hlen hsz hp hq
  go_wp2_with (refine wpList_load_o rfl (.tmp 3) rfl _ rfl bx1 ?_)
  refine (oput_yes p o A n c hn hor HQ.out HP _ (hra.keep hb1)).mono ?_
  rintro e w2 ⟨A2, c2, rfl, hr2, b2⟩
  obtain ⟨xb, xo, rfl, _⟩ := hr2.at_ (by rw [HP.out]; omega)
  have bx2 := bx1.keep b2
  have hb2 := below_in hb1 b2
  have hc21 : (p : Int) ≤ c2 := by have := hr2.len; have := HP.out; omega
  have hc22 : (c2 : Int) ≤ 9223372036854775807 := by have := hr2.cap; omega
  have u0 := bx2.c0
  have u9 := bx2.c9
  clear bx1 t16 b2 hb1
  go_wp2_with fail
  refine (size_of (p : Int) _ _ HSZ _).mono ?_
  rintro e w3 ⟨rfl, rfl⟩
  have t16 := bx2.c16
  clear u0 u9
  by_cases hk0 : 0 ≤ k
  · by_cases hkp : k < (p : Int)
    · obtain ⟨kk, rfl⟩ : ∃ kk : Nat, k = (kk : Int) := ⟨k.toNat, by omega⟩
      have hkk : kk < p := by omega
      have HK := hid (show ((opb o).take kk).length = kk by rw [List.length_take, HP.out]; omega)
      have hkc : (kk : Int) ≤ c2 := by omega
      have HN := hid (no_part hor HQ.out (k := kk) (by rw [HP.out]; exact hkk))
      go_wp2_with fail
      refine (oget_of (some ⟨xb, xo, none⟩) kk c2 ((opb o).take kk) HK _ (hr2.take kk)).mono ?_
      rintro e w3 ⟨o9, A9, k9, c9, z9, j9, rfl, hg, hk9, ho9, b3⟩
      obtain rfl : j9 = 8 := by
        rcases hg with ⟨h1, _⟩ | ⟨_, _, _, h⟩
        · exact absurd h1 (HN.out _)
        · exact h
      have bx3 := bx2.keep b3
      have hb3 := below_in hb2 b3
      clear bx2 hb2 b3 hg hk9 ho9 hr2 t16 HN HK
      rcases B with _ | bb
      all_goals
        go_wp2_with (first
          | (refine wpList_store_o rfl (.tmp 10) (.tmp 69) rfl w3.heap.size rfl o9 A9 k9 c9 rfl (thereO_new w3 _ rfl _) w3.heap.size (Nat.le_refl _) ?_; intro w4 bx4 th4 b4 hh4 sz4; have b34 : Below w3.heap.size w3 w4 := ((Below.refl _ _).alloc (Nat.le_refl _) _).trans b4; have bxo := bx3.keep b34; have hb4 := below_in hb3 b34; clear sz4 hh4 b4)
          | (refine wpList_load_o rfl (.tmp 3) rfl _ rfl bxo ?_)
          | (refine wpList_store_o rfl (.tmp 13) (.tmp 74) rfl w4.heap.size rfl o A n c rfl (thereO_new w4 _ rfl _) w4.heap.size (Nat.le_refl _) ?_; intro w5 bx5 th5 b5 hh5 sz5; have b45 : Below w4.heap.size w4 w5 := ((Below.refl _ _).alloc (Nat.le_refl _) _).trans b5; clear sz5 hh5 b5; have u16 := (bxo.keep b45).c16; have hb5 := below_in hb4 b45; have hs5 := (HS.out.keep hb5).take n)
          | (at_builtin; refine wpList_append_i rfl (.const (.slice none 0 0)) (.tmp 79) _ rfl w5.heap.size 21 Try.underlying33 hi0 hz0 hz1 hz2 none 0 0 [] (hid rfl) rfl (OwnI.nil _ _ _) _ n d (l.take n) HT rfl hs5 (by omega) (Nat.le_refl _) ?_; intro A6 c6 w6 ho6 b6; have bx6 := bx5.keep b6; have th6 := th5.keep b6; have s16 := bx6.c16; have f16 := th6.at_ 16 (by omega); have bx7 : BoxO (World.setCell w6 ⟨w4.heap.size, 16, none⟩ (.slice A6 n c6)) w4.heap.size { o with row := l.take n } A6 n c6 := set_row bx6 th6 A6 n c6 (l.take n); have hb6 := below_in hb5 b6; have ri7 : Ri (World.setCell w6 ⟨w4.heap.size, 16, none⟩ (.slice A6 n c6)) A6 c6 (l.take n) := (ho6.other (W' := World.setCells w6 w4.heap.size 16 [.slice A6 n c6]) (fun j hj => heap_setCells _ _ 16 w6 j hj) (World.block_lt_of_cell? w5 _ bx5.c0)).ri; have hb7 : Below w.heap.size w (World.setCell w6 ⟨w4.heap.size, 16, none⟩ (.slice A6 n c6)) := hb6.setCell (p := ⟨w4.heap.size, 16, none⟩) hb4.size _)
          | (refine wpList_load_o rfl (.tmp 13) rfl _ rfl bx7 ?_))
        refine (oput_of L2 m2 j2 { o with row := l.take n } A6 n c6 HT HPr.out HL2 _ ri7).mono ?_
        rintro e w8 ⟨A8, c8, rfl, hr8, b8⟩
        have hb8 := below_in hb7 b8
        rcases HJ.out with ⟨rfl, rfl⟩ | rfl
        · go_wp2
          go_ret
          exact ⟨rfl, hb8⟩
        · go_wp2
          go_ret
          exact ⟨rfl, hb8⟩
    · obtain ⟨w4, rfl⟩ : ∃ w4, w4 = w2 := ⟨_, rfl⟩
      have bxo := bx2
      have hb4 := hb2
      rcases B with _ | bb
      all_goals
        go_wp2_with (first
          | (refine wpList_load_o rfl (.tmp 3) rfl _ rfl bxo ?_)
          | (refine wpList_store_o rfl (.tmp 13) (.tmp 74) rfl w4.heap.size rfl o A n c rfl (thereO_new w4 _ rfl _) w4.heap.size (Nat.le_refl _) ?_; intro w5 bx5 th5 b5 hh5 sz5; have b45 : Below w4.heap.size w4 w5 := ((Below.refl _ _).alloc (Nat.le_refl _) _).trans b5; clear sz5 hh5 b5; have u16 := (bxo.keep b45).c16; have hb5 := below_in hb4 b45; have hs5 := (HS.out.keep hb5).take n)
          | (at_builtin; refine wpList_append_i rfl (.const (.slice none 0 0)) (.tmp 79) _ rfl w5.heap.size 21 Try.underlying33 hi0 hz0 hz1 hz2 none 0 0 [] (hid rfl) rfl (OwnI.nil _ _ _) _ n d (l.take n) HT rfl hs5 (by omega) (Nat.le_refl _) ?_; intro A6 c6 w6 ho6 b6; have bx6 := bx5.keep b6; have th6 := th5.keep b6; have s16 := bx6.c16; have f16 := th6.at_ 16 (by omega); have bx7 : BoxO (World.setCell w6 ⟨w4.heap.size, 16, none⟩ (.slice A6 n c6)) w4.heap.size { o with row := l.take n } A6 n c6 := set_row bx6 th6 A6 n c6 (l.take n); have hb6 := below_in hb5 b6; have ri7 : Ri (World.setCell w6 ⟨w4.heap.size, 16, none⟩ (.slice A6 n c6)) A6 c6 (l.take n) := (ho6.other (W' := World.setCells w6 w4.heap.size 16 [.slice A6 n c6]) (fun j hj => heap_setCells _ _ 16 w6 j hj) (World.block_lt_of_cell? w5 _ bx5.c0)).ri; have hb7 : Below w.heap.size w (World.setCell w6 ⟨w4.heap.size, 16, none⟩ (.slice A6 n c6)) := hb6.setCell (p := ⟨w4.heap.size, 16, none⟩) hb4.size _)
          | (refine wpList_load_o rfl (.tmp 13) rfl _ rfl bx7 ?_))
        refine (oput_of L2 m2 j2 { o with row := l.take n } A6 n c6 HT HPr.out HL2 _ ri7).mono ?_
        rintro e w8 ⟨A8, c8, rfl, hr8, b8⟩
        have hb8 := below_in hb7 b8
        rcases HJ.out with ⟨rfl, rfl⟩ | rfl
        · go_wp2
          go_ret
          exact ⟨rfl, hb8⟩
        · go_wp2
          go_ret
          exact ⟨rfl, hb8⟩
  · obtain ⟨w4, rfl⟩ : ∃ w4, w4 = w2 := ⟨_, rfl⟩
    have bxo := bx2
    have hb4 := hb2
    rcases B with _ | bb
    all_goals
      go_wp2_with (first
        | (refine wpList_load_o rfl (.tmp 3) rfl _ rfl bxo ?_)
        | (refine wpList_store_o rfl (.tmp 13) (.tmp 74) rfl w4.heap.size rfl o A n c rfl (thereO_new w4 _ rfl _) w4.heap.size (Nat.le_refl _) ?_; intro w5 bx5 th5 b5 hh5 sz5; have b45 : Below w4.heap.size w4 w5 := ((Below.refl _ _).alloc (Nat.le_refl _) _).trans b5; clear sz5 hh5 b5; have u16 := (bxo.keep b45).c16; have hb5 := below_in hb4 b45; have hs5 := (HS.out.keep hb5).take n)
        | (at_builtin; refine wpList_append_i rfl (.const (.slice none 0 0)) (.tmp 79) _ rfl w5.heap.size 21 Try.underlying33 hi0 hz0 hz1 hz2 none 0 0 [] (hid rfl) rfl (OwnI.nil _ _ _) _ n d (l.take n) HT rfl hs5 (by omega) (Nat.le_refl _) ?_; intro A6 c6 w6 ho6 b6; have bx6 := bx5.keep b6; have th6 := th5.keep b6; have s16 := bx6.c16; have f16 := th6.at_ 16 (by omega); have bx7 : BoxO (World.setCell w6 ⟨w4.heap.size, 16, none⟩ (.slice A6 n c6)) w4.heap.size { o with row := l.take n } A6 n c6 := set_row bx6 th6 A6 n c6 (l.take n); have hb6 := below_in hb5 b6; have ri7 : Ri (World.setCell w6 ⟨w4.heap.size, 16, none⟩ (.slice A6 n c6)) A6 c6 (l.take n) := (ho6.other (W' := World.setCells w6 w4.heap.size 16 [.slice A6 n c6]) (fun j hj => heap_setCells _ _ 16 w6 j hj) (World.block_lt_of_cell? w5 _ bx5.c0)).ri; have hb7 : Below w.heap.size w (World.setCell w6 ⟨w4.heap.size, 16, none⟩ (.slice A6 n c6)) := hb6.setCell (p := ⟨w4.heap.size, 16, none⟩) hb4.size _)
        | (refine wpList_load_o rfl (.tmp 13) rfl _ rfl bx7 ?_))
      refine (oput_of L2 m2 j2 { o with row := l.take n } A6 n c6 HT HPr.out HL2 _ ri7).mono ?_
      rintro e w8 ⟨A8, c8, rfl, hr8, b8⟩
      have hb8 := below_in hb7 b8
      rcases HJ.out with ⟨rfl, rfl⟩ | rfl
      · go_wp2
        go_ret
        exact ⟨rfl, hb8⟩
      · go_wp2
        go_ret
        exact ⟨rfl, hb8⟩


set_option maxRecDepth 100000 in
theorem olong_lifted (os : Os) (started : os.Started) (H : Type) (enc : TypeId × Value → H) :
    ReturnsInHanded {} Try.checked os 6 .any (Rows.opLongSpec.pre6 enc Try.prog Try.f6 Rows.opLongRow.domain false) (Rows.opLongSpec.post enc Try.prog Try.f6 false true false false) := by
  refine returnsInHanded_of_change (C := Try.checked) own started (by kernel_rfl) Try.func6
    (ChangeSpec.witness6 (enc := enc) (C := Try.checked) false ⟨#[], #[.agg #[.int .u8 0, .int .u8 0, .int .u32 0, .int .u8 0, .int .i64 0, .int .u8 0, .int .u32 0, .int .u8 0, .int .i64 0, .int .i64 0, .int .u8 0, .int .u32 0, .int .u8 0, .int .i64 0, .int .u8 0, .int .u32 0, .slice none 0 0], .slice none 0 0, .int .i64 0], []⟩ 8 (by kernel_rfl) (by kernel_rfl) (by kernel_rfl) (by kernel_rfl)) ?_
  intro W base args ds gs before hval0 hW _ _
  have hval : ∀ (j : Nat) t v, Try.f6.params[j]? = some t → args[j]? = some v → Value.okWide Try.prog W .any base t v := hval0
  have hW' := hW
  obtain ⟨p, q, hA0, hV, rfl, _, _⟩ := hW
  have hA : DataW.TrodAll enc Try.prog W 0 (fun _ => true) true Try.f6.params.toList args.toList ds p := hA0
  rw [Try.params6] at hA hval
  obtain ⟨v0, v1, v2, d0, d1, d2, p0, p1, p2, rfl, rfl, rfl, h0, h1, h2⟩ := trodAll_three hA
  obtain ⟨rfl, rfl⟩ := trodVars_none hV
  obtain ⟨o, A, n, c, rfl, hr⟩ := open_op (hval 0 _ v0 rfl rfl) h0
  obtain ⟨B, m, d, l, rfl, hs⟩ := open_row (hval 1 _ v1 rfl rfl) h1
  obtain ⟨k, rfl, hk⟩ := open_i64 (hval 2 _ v2 rfl rfl) h2
  refine (olong_walk o A n c B m d l k hk W hr hs).mono fun e W' ⟨he, hg⟩ => ?_
  subst he
  exact ⟨_, rfl, law_post laidOut (by kernel_rfl) rfl Try.underlying4 rfl rfl hW' hg⟩

theorem olong_holds : Rows.OpLongSaid :=
  OpenClaim.holds_of_wide 6 Try.f6 rfl rfl rfl rfl rfl rfl rfl ⟨rfl, rfl, rfl, rfl, rfl⟩ rfl rfl rfl rfl rfl (by kernel_rfl) Try.func6 (by kernel_rfl)
    (of_decide_eq_true (by kernel_rfl)) (by unfold Func.isWrapper; rw [if_neg (of_decide_eq_false (by kernel_rfl))]; exact ⟨rfl, rfl⟩)
    (fun os started H enc _ => olong_lifted os started H enc)
#print axioms olong_holds
end Go.Proofs.Ytbhglgcnoidddaa
