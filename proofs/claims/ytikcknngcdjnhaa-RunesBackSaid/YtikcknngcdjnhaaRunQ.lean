/-
  The contracts of HasPrefix, standIn and the program's Of.
-/
import Derived.Test.YtikcknngcdjnhaaRunO
import Derived.Lib.OthersKept
import Derived.Laws.Runes
namespace Go.Proofs.Ytikcknngcdjnhaa
open Go.RowKit
set_option linter.unusedVariables false

theorem prefix_take (l p : List UInt8) (h : p.length ≤ l.length) : Lib.hasPrefix l p = (l.take p.length == p) := by
  unfold Lib.hasPrefix
  rw [Bool.eq_iff_iff, List.isPrefixOf_iff_prefix, List.prefix_iff_eq_take, beq_iff_eq]
  exact ⟨fun h => h.symm, fun h => h.symm⟩
theorem prefix_short (l p : List UInt8) (h : ¬ p.length ≤ l.length) : Lib.hasPrefix l p = false := by
  unfold Lib.hasPrefix
  rw [Bool.eq_false_iff]
  intro hh
  rw [List.isPrefixOf_iff_prefix] at hh
  exact h hh.length_le

theorem lite_of (v : Bool) (s p : ByteArray) (hv : Hid (Lib.hasPrefix s.data.toList p.data.toList = v)) (h1 : s.size ≤ 10000) (h2 : p.size ≤ 10000) (w : World) :
    Calls Try.prog 44 #[.string s, .string p] w fun e w' => e = .returned (.bool v) ∧ w = w' := by
  have h1' : (s.size : Int) ≤ 10000 := by omega
  have h2' : (p.size : Int) ≤ 10000 := by omega
  by_cases h : p.size ≤ s.size
  · have h' : (p.size : Int) ≤ s.size := by omega
    have H := hid (show v = ((s.extract 0 p.size).toList == p.toList) by
      rw [← hv.out, prefix_take _ _ (by simpa using h), toList_take s _ rfl, ByteArray.toList_eq]
      simp)
    go_enter Try.func44, Try.ntmps44
    go_wp2
    go_ret
    exact ⟨ret_bool H.out.symm, rfl⟩
  · have h' : ¬ (p.size : Int) ≤ s.size := by omega
    have H := hid (show v = false by rw [← hv.out]; exact prefix_short _ _ (by simpa using h))
    go_enter Try.func44, Try.ntmps44
    go_wp2
    go_ret
    exact ⟨ret_bool H.out.symm, rfl⟩
theorem prefix_of (v : Bool) (s p : ByteArray) (hv : Hid (Lib.hasPrefix s.data.toList p.data.toList = v)) (h1 : s.size ≤ 10000) (h2 : p.size ≤ 10000) (w : World) :
    Calls Try.prog 36 #[.string s, .string p] w fun e w' => e = .returned (.bool v) ∧ w = w' := by
  go_enter Try.func36, Try.ntmps36
  go_wp2_with (go_at_call 44; refine (lite_of v s p hv h1 h2 _).mono ?_; rintro e w' ⟨rfl, rfl⟩)
  go_ret
  exact ⟨rfl, rfl⟩

theorem stand_of (v : Bool) (r : Int) (s : ByteArray) (l : List UInt8) (hs : Hid (s.data.toList = l)) (hv : Hid ((r == 65533 && !Lib.hasPrefix l [239, 191, 189]) = v)) (h1 : s.size ≤ 10000) (w : World) :
    Calls Try.prog 21 #[.int .i32 r, .string s] w fun e w' => e = .returned (.bool v) ∧ w = w' := by
  by_cases hr : r = 65533
  · obtain ⟨q, hq⟩ : ∃ q, Lib.hasPrefix l [239, 191, 189] = q := ⟨_, rfl⟩
    have H := hid (show v = !q by rw [← hv.out, hq, hr]; simp)
    have he : Utf8.encode 65533 = ⟨#[239, 191, 189]⟩ := by decide
    have HQ := hid (show Lib.hasPrefix s.data.toList (⟨#[239, 191, 189]⟩ : ByteArray).data.toList = q by rw [hs.out]; exact hq)
    subst hr
    clear hq
    go_enter Try.func21, Try.ntmps21
    go_wp2_with (go_at_call 36; refine (prefix_of q s ⟨#[239, 191, 189]⟩ HQ h1 (by decide) _).mono ?_; rintro e w' ⟨rfl, rfl⟩)
    go_ret
    exact ⟨ret_bool H.out.symm, rfl⟩
  · have H := hid (show v = false by rw [← hv.out]; simp [hr])
    have hr2 : (r == 65533) = false := by simpa using hr
    clear hr
    go_enter Try.func21, Try.ntmps21
    go_wp2
    go_ret
    exact ⟨ret_bool H.out.symm, rfl⟩

theorem dec_at (s : ByteArray) (l : List UInt8) (h : s.data.toList = l) (i : Nat) (hi : i ≤ s.size) : Utf8.decode s i = dec (l.drop i) := by
  have hg (k : Nat) : g (l.drop i) k = (s.get! (i + k)).toNat := by
    subst h
    unfold g
    rw [List.getD_eq_getElem?_getD, List.getElem?_drop]
    by_cases hk : i + k < s.size
    · rw [List.getElem?_eq_getElem (by simpa using hk)]
      show _ = (s.data[i + k]!).toNat
      rw [getElem!_pos s.data (i + k) hk]
      rfl
    · rw [List.getElem?_eq_none (by simp; omega)]
      show _ = (s.data[i + k]!).toNat
      rw [getElem!_neg s.data (i + k) hk]
      rfl
  have hl : (l.drop i).length = s.size - i := by rw [List.length_drop, ← h]; simp
  rw [Lib.decode_at, dec, hl, hg 0, hg 1, hg 2, hg 3]
  rfl

theorem OwnV.iter {w : World} {base : Nat} {e : TypeId} {A : Option Addr} {c : Nat} {l : List Value} (h : OwnV w base e A c l) (k : Nat) (s : ByteArray) (pos : Nat) (hk : k < base) : OwnV (w.iterAt k s pos) base e A c l := by
  obtain ⟨h0, h1⟩ := h
  refine ⟨h0, ?_⟩
  rcases h1 with h | ⟨g, cap, cur, hv, hbg, hg, r⟩
  · exact .inl h
  · exact .inr ⟨g, cap, cur, hv, hbg, (Lib.iterAt_other w k g s pos (by omega)).trans hg, r⟩
theorem OwnI.iter {w : World} {base : Nat} {e : TypeId} {A : Option Addr} {c : Nat} {l : List Int} (h : OwnI w base e A c l) (k : Nat) (s : ByteArray) (pos : Nat) (hk : k < base) : OwnI (w.iterAt k s pos) base e A c l := ⟨OwnV.iter h.1 k s pos hk, h.2⟩

/-- What 'next' finds: a stand-in or a rune. -/
theorem bad_fst {l : List UInt8} (h : bad l = true) : fst l = none := by simp [fst, h]
theorem good_fst {l : List UInt8} (h : bad l = false) : fst l = some (((dec l).1 : Int), (dec l).2) := by simp [fst, h]
theorem bad_eq (l : List UInt8) : bad l = (((dec l).1 : Int) == 65533 && !Lib.hasPrefix l [239, 191, 189]) := by
  unfold bad
  congr 1
  rw [Bool.eq_iff_iff, beq_iff_eq, beq_iff_eq]
  omega

set_option maxRecDepth 100000 in
set_option maxHeartbeats 1000000 in
theorem of_any (s : ByteArray) (l : List UInt8) (hs : Hid (s.data.toList = l)) (h1 : s.size ≤ 10000) (w : World) :
    Calls Try.prog 7 #[.string s] w (RetRow w (ofV l) (ofE l)) := by
  obtain ⟨i0, hi0, hz0, hz1, hz2⟩ := info_parts info_i32
  have hlen : l.length = s.size := by rw [← hs.out]; simp
  have HL := hid hlen
  clear hlen
  go_enter Try.func7, Try.ntmps7
  go_wp2
  go_loopw [4, 5, 6] (fun v4 v5 v6 wr => ∃ (j : Nat) (pre : List Int) (k : Nat) (A : Option Addr) (c : Nat), wr.heap[w.heap.size]? = some (.stringIter s j) ∧ Hid (Sofar l j pre) ∧ Hid ((pre.take 65).length = k) ∧ v4 = .slice A k c ∧ OwnI wr (w.heap.size + 1) 21 A c (pre.take 65) ∧ Below w.heap.size w wr) (fun _ _ _ wr => s.size - wr.iterPos w.heap.size)
  case atStart =>
    exact ⟨0, [], 0, none, 0, World.iter_heap w s 0, hid (sofar_start l), hid rfl, rfl, OwnI.nil _ _ _, (Below.refl _ _).alloc (Nat.le_refl _) _⟩
  case round =>
    obtain ⟨j, pre, k, A, c, hit, hf, hk, rfl, hown, hb⟩ := hrel
    have hsz : w.heap.size < wr.heap.size := (Array.getElem?_eq_some_iff.1 hit).1
    have hj := hf.out.1
    have hl := HL.out
    have hk65 : k ≤ 65 := by rw [← hk.out, List.length_take]; omega
    have hk10 : (k : Int) ≤ 65 := by omega
    by_cases hp : j < s.size
    · obtain ⟨L, hL⟩ : ∃ L, l.drop j = L := ⟨_, rfl⟩
      obtain ⟨r, m, hrm⟩ : ∃ r m, Utf8.decode s j = (r, m) := ⟨_, _, rfl⟩
      have hdc : dec L = (r, m) := by rw [← hL, ← dec_at s l hs.out j (by omega), hrm]
      obtain ⟨z, hz⟩ : ∃ z : Int, (r : Int) = z := ⟨_, rfl⟩
      have hnx : ∀ ty, (Instr.next (.pointer (some ⟨w.heap.size, 0, none⟩)) true ty).run Try.prog wr = .ok (.tuple #[.bool true, .int .i64 j, .int .i32 z]) (wr.iterAt w.heap.size s (j + m)) := fun ty => by
        have := Lib.run_next_any_at (P := Try.prog) wr w.heap.size s j ty hit hp
        rw [hrm] at this
        rw [← hz]
        exact this
      obtain ⟨wi, hwi⟩ : ∃ wi, wr.iterAt w.heap.size s (j + m) = wi := ⟨_, rfl⟩
      have hit2 : wi.heap[w.heap.size]? = some (.stringIter s (j + m)) := by rw [← hwi]; exact Lib.iterAt_heap wr _ s j _ hit
      have hown2 : OwnI wi (w.heap.size + 1) 21 A c (pre.take 65) := by rw [← hwi]; exact hown.iter _ _ _ (by omega)
      have hb2 : Below w.heap.size w wi := by rw [← hwi]; exact Lib.below_iterAt hb (Nat.le_refl _) _ _
      have hsz2 : w.heap.size < wi.heap.size := (Array.getElem?_eq_some_iff.1 hit2).1
      rw [hwi] at hnx
      obtain ⟨v, hv⟩ : ∃ v, bad L = v := ⟨_, rfl⟩
      have HV := hid (show (z == 65533 && !Lib.hasPrefix L [239, 191, 189]) = v by rw [← hv, bad_eq, hdc, ← hz])
      have HD := hid (show (s.extract j s.size).data.toList = L by rw [← hL]; exact data_drop s l hs.out j _ rfl)
      have hsx : (s.extract j s.size).size ≤ 10000 := by rw [ByteArray.size_extract]; omega
      have HX := hid hsx
      have hj2 : (j : Int) ≤ (s.size : Int) := by omega
      have hs3 : (s.size : Int) ≤ 10000 := by omega
      have hj3 : j < l.length := by omega
      have hitH := hid hit
      have hit2H := hid hit2
      clear hwi hown hsx hit hit2 hrm
      cases v
      · have hg := good_fst hv
        rw [hdc] at hg
        simp only [hz] at hg
        obtain ⟨hst, hn0, hn1, hm0, hm1⟩ := sofar_step hf.out hj3 (by rw [hL]; exact hg)
        have HS := hid hst
        have HM := hid hm1
        clear hst hg hdc hL hv hz hm1 hl
        by_cases hk64 : k ≤ 64
        · have hk64' : (k : Int) ≤ 64 := by omega
          have hpl : pre.length ≤ 64 := by have := hk.out; rw [List.length_take] at this; omega
          have HT := hid (show (pre ++ [z]).take 65 = pre.take 65 ++ [z] by rw [List.take_of_length_le (by simp; omega), List.take_of_length_le (by omega)])
          have HK := hid (show ((pre ++ [z]).take 65).length = k + 1 by rw [HT.out, List.length_append, hk.out]; rfl)
          go_wp2_with (first | (go_at_call 21; refine (stand_of false z _ L HD HV HX.out _).mono ?_; rintro e w' ⟨rfl, rfl⟩) | (at_builtin; refine wpList_append_i rfl (.tmp 21) (.tmp 23) _ rfl (w.heap.size + 1) 21 Try.underlying22 hi0 hz0 hz1 hz2 A k c (pre.take 65) hk rfl (hown2.keep ((Below.refl _ _).alloc (Nat.le_refl _) _)) (some ⟨wi.heap.size, 0, none⟩) 1 1 [z] (hid rfl) rfl (lit_one wi 21 z (by omega) (by omega)) (by omega) (by simp; omega) ?_; intro A' c' w2 hown3 b3))
          have hit3 : w2.heap[w.heap.size]? = some (.stringIter s (j + m)) := by
            rw [b3.block w.heap.size (by omega), Lib.alloc_old _ _ _ hsz2]
            exact hit2H.out
          go_roundw
          case rel => exact ⟨j + m, pre ++ [z], k + 1, A', c', hit3, HS, HK, rfl, by rw [HT.out]; exact hown3, (hb2.alloc hb2.size _).trans (b3.mono (by omega))⟩
          case measure =>
            have := HM.out
            simp only [World.iterPos, hit3, hitH.out]
            omega
        · have hk64' : ¬ (k : Int) ≤ 64 := by omega
          have hpl : 65 ≤ pre.length := by have := hk.out; rw [List.length_take] at this; omega
          have HT := hid (show (pre ++ [z]).take 65 = pre.take 65 from List.take_append_of_le_length hpl)
          have HK := hid (show ((pre ++ [z]).take 65).length = k by rw [HT.out, hk.out])
          go_wp2_with (go_at_call 21; refine (stand_of false z _ L HD HV HX.out _).mono ?_; rintro e w' ⟨rfl, rfl⟩)
          go_roundw
          case rel => exact ⟨j + m, pre ++ [z], k, A, c, hit2H.out, HS, HK, rfl, by rw [HT.out]; exact hown2, hb2⟩
          case measure =>
            have := HM.out
            simp only [World.iterPos, hit2H.out, hitH.out]
            omega
      · have H := hid (sofar_bad hf.out hj3 (by rw [hL]; exact bad_fst hv))
        clear hdc hL hv hz hl
        go_wp2_with (go_at_call 21; refine (stand_of true z _ L HD HV HX.out _).mono ?_; rintro e w' ⟨rfl, rfl⟩)
        go_ret2
        exact ret_row_nil (hid ⟨H.out.1.symm, H.out.2⟩) hb2
    · have HO := hid (sofar_end hf.out (by omega))
      have hnx : ∀ ty, (Instr.next (.pointer (some ⟨w.heap.size, 0, none⟩)) true ty).run Try.prog wr = .ok (.tuple #[.bool false]) wr := fun ty => Lib.run_next_end_at wr w.heap.size s j ty hit hp
      have hpl := hk.out
      rw [List.length_take] at hpl
      by_cases hbig : 64 < k
      · have H := hid (of_many HO.out (by omega))
        have hb2 : (64 : Int) < k := by omega
        clear hpl hit hl
        go_wp2
        go_ret2
        exact ret_row_nil (hid ⟨H.out.1.symm, H.out.2⟩) hb
      · have H := hid (of_some HO.out (by omega))
        have hb2 : ¬ (64 : Int) < k := by omega
        have HT := hid (show pre.take 65 = pre from List.take_of_length_le (by omega))
        clear hpl hit hl
        go_wp2
        go_ret2
        exact ret_row (hid ⟨by rw [HT.out, H.out.2], H.out.1.symm, hk.out⟩) hown.ri hb
end Go.Proofs.Ytikcknngcdjnhaa
