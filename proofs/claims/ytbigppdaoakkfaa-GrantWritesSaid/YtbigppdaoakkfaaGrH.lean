/-
  The contracts of the reference's Bytes and Put.
-/
import Derived.Test.YtbigppdaoakkfaaGrF
import Derived.Test.YtbigppdaoakkfaaGrY
import Derived.OwnWalk
namespace Go.Proofs.Ytbigppdaoakkfaa
open Go.RowKit
set_option linter.unusedVariables false
set_option linter.unusedSimpArgs false

set_option maxRecDepth 100000 in
set_option maxHeartbeats 1600000 in
theorem rbytes_any (u l c : Int) (b : Bool) (ht : Gr.typed ⟨u, l, c, b⟩) (hq : mayG ⟨u, l, c, b⟩ = true) (w : World) :
    Calls Try.prog 36 #[.agg #[.int .i64 u, .int .u8 l, .int .u32 c, .bool b]] w fun e w' => ∃ A' c', e = .returned (.slice A' 7 c') ∧ Rd w' A' c' (gby u.toNat b l.toNat c.toNat) ∧ Below w.heap.size w w' := by
  have hu := mayG_u hq
  have HN := hid (hn_of ht.lab (k := 0) (by omega) (by omega))
  have HU := hid (show u = ((UInt8.ofNat u.toNat).toNat : Int) by rw [ofNat_toNat (by show u.toNat < 256; have := hu.2; simp only at this; omega)]; have := hu.1; simp only at this; omega)
  have hu0 : 0 ≤ u := hu.1
  have hu7 : u ≤ 7 := hu.2
  have hn5 : Hid (((hby l.toNat c.toNat 0).take 5).length = 5) := hid (by rw [List.length_take, hby_length]; rfl)
  obtain ⟨i0, hi0, hz0, hz1, hz2⟩ := info_parts info_u8
  clear hu hq ht
  cases b
  · go_enter Try.func36, Try.ntmps36
    go_wp2_with fail
    refine (named_any l c 0 l.toNat c.toNat 0 HN _).mono ?_
    rintro e w1 ⟨A1, c1, rfl, ho1, b1⟩
    have hr5 := hid (ho1.rd.take 5)
    have hc6 : 6 ≤ c1 := by have := ho1.rd.len; rwa [hby_length] at this
    have hcm : (c1 : Int) ≤ 9223372036854775807 := by have := ho1.rd.cap; omega
    have hc0 : ¬ c1 = 0 := by omega
    have hO := hid ((own_two (w.alloc (.cells #[.int .i64 u, .int .u8 l, .int .u32 c, .bool false] 36)) w.heap.size (w.heap.size + 1) (by simp) (by omega) u 0 (UInt8.ofNat u.toNat) 0 HU (hid rfl)).keep b1)
    replace b1 := past_alloc2 b1
    have hz := b1.size
    clear ho1
    go_wp2_with (at_builtin; refine wpList_append_rd rfl (.tmp 13) (.tmp 19) _ rfl w.heap.size 5 Try.underlying38 hi0 hz0 hz1 hz2 (some ⟨w.heap.size + 1, 0, none⟩) 2 2 [UInt8.ofNat u.toNat, 0] (hid rfl) rfl hO.out A1 5 c1 ((hby l.toNat c.toNat 0).take 5) hn5 rfl hr5.out (by omega) hz ?_; intro A' c' w2 ho2 hb2)
    go_ret
    exact ⟨A', c', rfl, ho2.rd, b1.trans hb2⟩
  · go_enter Try.func36, Try.ntmps36
    go_wp2_with fail
    refine (named_any l c 0 l.toNat c.toNat 0 HN _).mono ?_
    rintro e w1 ⟨A1, c1, rfl, ho1, b1⟩
    have hr5 := hid (ho1.rd.take 5)
    have hc6 : 6 ≤ c1 := by have := ho1.rd.len; rwa [hby_length] at this
    have hcm : (c1 : Int) ≤ 9223372036854775807 := by have := ho1.rd.cap; omega
    have hc0 : ¬ c1 = 0 := by omega
    have hO := hid ((own_two (w.alloc (.cells #[.int .i64 u, .int .u8 l, .int .u32 c, .bool true] 36)) w.heap.size (w.heap.size + 1) (by simp) (by omega) u 1 (UInt8.ofNat u.toNat) 1 HU (hid rfl)).keep b1)
    replace b1 := past_alloc2 b1
    have hz := b1.size
    clear ho1
    go_wp2_with (at_builtin; refine wpList_append_rd rfl (.tmp 13) (.tmp 19) _ rfl w.heap.size 5 Try.underlying38 hi0 hz0 hz1 hz2 (some ⟨w.heap.size + 1, 0, none⟩) 2 2 [UInt8.ofNat u.toNat, 1] (hid rfl) rfl hO.out A1 5 c1 ((hby l.toNat c.toNat 0).take 5) hn5 rfl hr5.out (by omega) hz ?_; intro A' c' w2 ho2 hb2)
    go_ret
    exact ⟨A', c', rfl, ho2.rd, b1.trans hb2⟩

set_option maxRecDepth 100000 in
set_option maxHeartbeats 800000 in
theorem rput_of (L : List UInt8) (m : Nat) (k : Int) (u l c : Int) (b : Bool) (ht : Gr.typed ⟨u, l, c, b⟩) (hL : Hid (pb ⟨u, l, c, b⟩ = L ∧ L.length = m ∧ er (mayG ⟨u, l, c, b⟩) = k)) (w : World) :
    Calls Try.prog 23 #[.agg #[.int .i64 u, .int .u8 l, .int .u32 c, .bool b]] w fun e w' => ∃ A' c', e = .returned (.tuple #[.slice A' m c', .int .i64 k]) ∧ Rd w' A' c' L ∧ Below w.heap.size w w' := by
  cases hq : mayG ⟨u, l, c, b⟩
  · have hx := hL.out
    rw [pb, hq, if_neg (by decide)] at hx
    obtain ⟨rfl, rfl, rfl⟩ := hx
    have HQ := hid hq
    clear hq hL
    go_enter Try.func23, Try.ntmps23
    go_wp2_with fail
    refine (rmay_of false u l c b HQ _).mono ?_
    rintro e w1 ⟨rfl, b1⟩
    replace b1 := past_alloc b1
    go_wp2
    go_ret2
    exact ⟨none, 0, rfl, Rd.nil _, b1⟩
  · have hx := hL.out
    rw [pb, if_pos hq, hq] at hx
    obtain ⟨rfl, hm, rfl⟩ := hx
    rw [gby_length] at hm
    subst hm
    have HQ := hid hq
    clear hq hL
    go_enter Try.func23, Try.ntmps23
    go_wp2_with fail
    refine (rmay_of true u l c b HQ _).mono ?_
    rintro e w1 ⟨rfl, b1⟩
    (have s0 : w1.cell? ⟨w.heap.size, 0, none⟩ = some (.int .i64 u) := (keep b1 (by simp [go_sem])); have s1 : w1.cell? ⟨w.heap.size, 1, none⟩ = some (.int .u8 l) := (keep b1 (by simp [go_sem])); have s2 : w1.cell? ⟨w.heap.size, 2, none⟩ = some (.int .u32 c) := (keep b1 (by simp [go_sem])); have s3 : w1.cell? ⟨w.heap.size, 3, none⟩ = some (.bool b) := (keep b1 (by simp [go_sem])))
    replace b1 := past_alloc b1
    go_wp2_with fail
    refine (rbytes_any u l c b ht HQ.out _).mono ?_
    rintro e w2 ⟨A1, c1, rfl, hr1, b2⟩
    replace b1 := below_in b1 b2
    go_wp2
    go_ret2
    exact ⟨A1, c1, rfl, hr1, b1⟩
end Go.Proofs.Ytbigppdaoakkfaa
