/-
  RecordBack: what is put is got, with the head of its first block; each block's head bears that start and number, its place, and how many there are; without one block, or in another order, it is no record, nor is one with a block of another start, or number; any record, starts and numbers, and which block.
  Conditions: none but the statement's own guard (1,000 runes).
-/
import Derived.Test.YtndmblhkmgnpcaaGreatRlM
import Derived.Test.YtndmblhkmgnpcaaGreatRcO
import Derived.Test.YtndmblhkmgnpcaaGreatRcZ
import Derived.Test.YtndmblhkmgnpcaaGreatLaw
import Derived.BigRegion
namespace Go.Proofs.YtndmblhkmgnpcaaGreat
open Go.ChangeShapes Go.WideShapes Go.ChangeAt Go.RowKit Go.Joins
set_option linter.unusedVariables false
set_option linter.unusedSimpArgs false

/-- What the law's later parts stand on. -/
structure Bk (w W : World) (a : Rec) (A : Option Addr) (n c : Nat) (l : List (List UInt8)) (A2 : Option Addr) (c2 : Nat) : Prop where
  xa : BoxR W w.heap.size a A n c
  ra : Ri W A c a.op.row
  rl : RdB W A2 c2 l
  be : Below w.heap.size w W
theorem Bk.keep {w W W' : World} {a : Rec} {A : Option Addr} {n c : Nat} {l : List (List UInt8)} {A2 : Option Addr} {c2 : Nat} (h : Bk w W a A n c l A2 c2) (hb : Below W.heap.size W W') : Bk w W' a A n c l A2 c2 := ⟨h.xa.keep hb, h.ra.keep hb, h.rl.keep hb, below_in h.be hb⟩
theorem swap_at {l : List (List UInt8)} {k i : Nat} (hk : k < l.length) (hi : i < l.length) (hne : k ≠ i) : ∃ h : k < ((l.set k l[i]).set i l[k]).length, ((l.set k l[i]).set i l[k])[k] = l[i] := by
  have h : k < ((l.set k l[i]).set i l[k]).length := by simpa using hk
  refine ⟨h, ?_⟩
  rw [List.getElem_set_ne (by omega), List.getElem_set_self]

set_option maxRecDepth 100000 in
set_option maxHeartbeats 25600000 in
theorem rback_walk (a : Rec) (A : Option Addr) (n c : Nat) (s t u z : Int) (hz : In64 z) (w : World) (hr : Recr a ∧ Hid (a.op.row.length = n) ∧ Ri w A c a.op.row) :
    Calls Tryz.prog 5 #[.agg #[.int .u8 a.kd, .int .i64 a.us, .int .u8 a.op.kd, .int .u8 a.op.l, .int .u32 a.op.c, .int .u8 a.op.k, .int .i64 a.op.s, .int .u8 a.op.fl, .int .u32 a.op.fc, .int .u8 a.op.fk, .int .i64 a.op.fn, .int .i64 a.op.fm, .int .u8 a.op.al, .int .u32 a.op.ac, .int .u8 a.op.ak, .int .i64 a.op.an, .int .u8 a.op.tl, .int .u32 a.op.tc, .slice A n c, .int .i64 a.co, .int .i64 a.gr.u, .int .u8 a.gr.l, .int .u32 a.gr.c, .bool a.gr.ok], .int .i64 s, .int .i64 t, .int .i64 u, .int .i64 z] w fun e w' => e = .returned (.bool true) ∧ Below w.heap.size w w' := by
  obtain ⟨har, hn, hra⟩ := hr
  have xa := boxR_new w a A n c 40
  have hb := below1 w (.cells (#[.int .u8 a.kd, .int .i64 a.us, .int .u8 a.op.kd, .int .u8 a.op.l, .int .u32 a.op.c, .int .u8 a.op.k, .int .i64 a.op.s, .int .u8 a.op.fl, .int .u32 a.op.fc, .int .u8 a.op.fk, .int .i64 a.op.fn, .int .i64 a.op.fm, .int .u8 a.op.al, .int .u32 a.op.ac, .int .u8 a.op.ak, .int .i64 a.op.an, .int .u8 a.op.tl, .int .u32 a.op.tc, .slice A n c, .int .i64 a.co, .int .i64 a.gr.u, .int .u8 a.gr.l, .int .u32 a.gr.c, .bool a.gr.ok]) 40)
  have HRA := hid hra
  have HZ := hid hz
  clear hra hz
  obtain ⟨l, m, j, hL⟩ : ∃ l m j, putL a s t = l ∧ l.length = m ∧ putE a s t = j := ⟨_, _, _, rfl, rfl, rfl⟩
  have HL := hid hL
  clear hL
  go_enter Tryz.func5, Tryz.ntmps5
  go_wp2_with fail
  refine (alive_any _).mono ?_
  rintro e w1 ⟨rfl, b1⟩
  replace xa := xa.keep b1
  replace hb := below_in hb b1
  clear b1
  have sa := xa.sl
  by_cases d1 : (1000 : Int) < (n : Int)
  · go_wp2
    go_ret
    exact ⟨rfl, hb⟩
  have one : True := trivial
  go_wp2_with (clear one; (with_reducible refine at_load 40 (.tmp 5) ?_); refine wpList_load_r rfl (.tmp 5) rfl w.heap.size rfl xa ?_)
  refine (rec_put_of l m j a A n c hn har s t HL _ (HRA.out.keep hb)).mono ?_
  rintro e w2 ⟨A2, c2, rfl, ho2, b2⟩
  have S2 : Bk w w2 a A n c l A2 c2 := ⟨xa.keep b2, HRA.out.keep (below_in hb b2), ho2.rd, below_in hb b2⟩
  clear b2 ho2 xa hb sa
  by_cases hj : j = 0
  case neg =>
    have hj' : (j != 0) = true := by simpa using hj
    have hl0 : l = [] := by rw [← HL.out.1]; exact put_none (by rw [HL.out.2.2]; exact hj)
    have hm0 : m = 0 := by rw [← HL.out.2.1, hl0]; rfl
    have hb2 := S2.be
    subst hm0
    clear S2 hj hl0
    go_wp2
    go_ret
    exact ⟨rfl, hb2⟩
  subst hj
  have HRIS := hid (show Ris l a s t by have h := put_ris har HL.out.2.2; rwa [HL.out.1] at h)
  have hm3 := HRIS.out.pos
  rw [HL.out.2.1] at hm3
  have HLM := hid HL.out.2.1
  clear HL
  go_wp2_with fail
  refine (rec_get_of A2 m c2 l HLM (by omega) _ S2.rl).mono ?_
  rintro e w3 ⟨r3, A3, k3, c3, s3, t3, i3, f3, j3, rfl, hg3, hk3, ho3, b3⟩
  obtain ⟨rfl, rfl, rfl, rfl, rfl, rfl⟩ := got_of HRIS.out hg3
  have HK3 := hid hk3
  have HRI := hid ho3.ri
  have R3 := rs_new w3 40 42
  have S3 := S2.keep b3
  have HSR := hid (sameR_self r3)
  rw [HLM.out]
  clear hk3 hg3 ho3 b3 S2
  have one : True := trivial
  have NEQ := neqD
  go_wp2_with (first
    | (clear one; (with_reducible refine at_store 40 (.tmp 14) (.tmp 60) ?_); refine wpList_store_r rfl (.tmp 14) (.tmp 60) rfl w3.heap.size rfl r3 A3 k3 c3 rfl R3.tr w3.heap.size (Nat.le_refl _) ?_; intro w4 bx4 tx4 b4 h4 z4; have td4 : ThereD w4 (w3.heap.size + 1) := there_other R3.td h4 (by omega))
    | ((with_reducible refine at_store 42 (.tmp 15) (.tmp 61) ?_); refine wpList_store_d rfl (.tmp 15) (.tmp 61) rfl (w3.heap.size + 1) rfl s3 t3 0 (m : Int) rfl td4 w3.heap.size (Nat.le_succ _) ?_; intro w5 bd5 td5 b5 h5 z5; have bx5 := bx4.other h5 (by omega); have b35 := (R3.be.trans b4).trans b5; have S5 := S3.keep b35)
    | ((with_reducible refine at_load 40 (.tmp 14) ?_); refine wpList_load_r rfl (.tmp 14) rfl w3.heap.size rfl bx5 ?_)
    | ((with_reducible refine at_load 40 (.tmp 5) ?_); refine wpList_load_r rfl (.tmp 5) rfl w.heap.size rfl S5.xa ?_)
    | (go_at_call 25; refine (rec_same_of true r3 A3 k3 c3 HK3 r3 A n c hn HSR _ (HRI.out.keep b35) S5.ra).mono ?_; rintro e w6 ⟨rfl, b6⟩; have bd6 := bd5.keep b6; have S6 := S5.keep b6)
    | ((with_reducible refine at_load 42 (.tmp 15) ?_); refine wpList_load_d rfl (.tmp 15) rfl (w3.heap.size + 1) rfl bd6 ?_))
  clear bd6 b6 S5 b35 bx5 bd5 td5 b5 h5 z5 bx4 tx4 b4 h4 z4 td4 R3 S3 HRI HK3 HSR
  have hc2 : (c2 : Int) ≤ 9223372036854775807 := by have := S6.rl.cap; omega
  have hc1 : (m : Int) ≤ c2 := by have := S6.rl.len; have := HLM.out; omega
  have HS6 := hid S6
  clear S6
  go_loopw [17, 18, 19] (fun i _ _ wr => ∃ j : Nat, j ≤ m ∧ i = .int .i64 (j : Int) ∧ Below w6.heap.size w6 wr) (fun i _ _ _ => m - (intOf i).toNat)
  case atStart => exact ⟨0, by omega, rfl, Below.refl _ _⟩
  case round =>
    obtain ⟨j, hjm, rfl, hbr⟩ := hrel
    have S := HS6.out.keep hbr
    by_cases hlt : j < m
    · have hlt2 : (j : Int) < (m : Int) := by omega
      have hjl : j < l.length := by rw [HLM.out]; exact hlt
      obtain ⟨b, o, rfl, hcell⟩ := S.rl.at_ (by omega)
      obtain ⟨X, x, hX, hRX⟩ := hcell j hjl
      obtain ⟨q0, q1, q2, q3, q4, q5⟩ := HRIS.out.at_ j hjl
      obtain ⟨lj, hlj⟩ : ∃ lj, l[j] = lj := ⟨_, rfl⟩
      rw [hlj] at hX hRX q0 q1 q2 q3 q4 q5
      rw [q5] at hX
      have HX := hid (show okHd lj = true ∧ pick true (hS lj) = s3 ∧ pick true (hN lj) = t3 ∧ pick true (hI lj) = (j : Int) ∧ pick true (hF lj) = (m : Int) from ⟨q0, q1, q2, q3, by rw [pick_true, q4, HLM.out]⟩)
      have HQ5 := hid q5
      clear hcell q0 q1 q2 q3 q4 q5 hlj hjl
      go_wp2_with fail
      refine (rec_head_of true s3 t3 (j : Int) (m : Int) X 128 x lj HQ5 HX _ hRX).mono ?_
      rintro e w7 ⟨rfl, b7⟩
      have hX7 : ∀ ob, (w7.alloc ob).cell? _ = _ := fun ob => Go.Proofs.YtndmblhkmgnpcaaGreat.keep (below1 w7 ob) (Go.Proofs.YtndmblhkmgnpcaaGreat.keep b7 hX)
      have hbr7 := below_in hbr b7
      have e0 : er true = 0 := rfl
      rw [e0]
      clear hX hRX b7 S e0
      go_wp2
      have hbr8 := below_in hbr7 (below1 w7 (.cells (#[.int .i64 s3, .int .i64 t3, .int .i64 (j : Int), .int .i64 (m : Int)]) 42))
      generalize World.alloc w7 _ = w8 at hbr8 ⊢
      clear hX7
      go_roundw
      case rel => exact ⟨j + 1, by omega, by go_num, hbr8⟩
      case measure => simp [intOf]; omega
    · have hlt2 : ¬ (j : Int) < (m : Int) := by omega
      have ej : j = m := by omega
      subst ej
      have hbS := S.be
      by_cases h2 : j < 2
      · have h2' : (j : Int) < 2 := by omega
        clear S
        go_wp2
        go_ret
        exact ⟨rfl, hbS⟩
      have h2' : ¬ (j : Int) < 2 := by omega
      by_cases hz0 : z < 0
      · clear S
        go_wp2
        go_ret
        exact ⟨rfl, hbS⟩
      by_cases hzm : (j : Int) ≤ z
      · clear S
        go_wp2
        go_ret
        exact ⟨rfl, hbS⟩
      obtain ⟨k, rfl⟩ : ∃ k : Nat, z = (k : Int) := ⟨z.toNat, by omega⟩
      have hkm : k < j := by omega
      have hkm' : (k : Int) < (j : Int) := by omega
      generalize j = n2 at *
      generalize wr = W at *
      obtain ⟨D, hrunD0, hRD⟩ := cutB_from S.rl HLM.out (k + 1) ((k : Int) + 1) (by omega) (by omega)
      have hrunD := hid hrunD0
      have hwk : IntKind.i64.wrap ((k : Int) + 1) = (k : Int) + 1 := by rw [IntKind.wrap_i64]; omega
      have hkc : (k : Int) ≤ (c2 : Int) := by omega
      have HLT := hid (show (l.take k).length = k by rw [List.length_take, HLM.out]; omega)
      have HLD := hid (show (l.drop (k + 1)).length = n2 - (k + 1) by rw [List.length_drop, HLM.out])
      have HRT := hid (S.rl.take k)
      have HRD := hid hRD
      have HLC := hid (show (l.take k ++ l.drop (k + 1)).length = n2 - 1 by rw [List.length_append, HLT.out, HLD.out]; omega)
      have HNC := hid (fun r' s' n' => ris_cut HRIS.out (k := k) (by rw [HLM.out]; exact hkm) (r' := r') (s' := s') (n' := n'))
      clear hrunD0 hRD HS6 hbr
      go_wp2_with fail
      go_cut [20, 21, 22] from 128 to 141 (fun s20 s21 s22 wx => s22 = .int .i64 8 ∧ Below W.heap.size W wx)
      case first => as_aux_lemma =>
          have s : Below W.heap.size W W.drew := (Below.refl _ _).drew
          refine wp_region_held_drew (S := fun w' => Below W.heap.size W w') (by kernel_rfl) s (fun hHeld => ?_)
          clear hbS S
          generalize W.drew = V0 at *
          refine wpAnyH_take (i := 0) (oi := { dst := some 129, op := Op.move (Operand.tmp 12), type := 45, pos := "outright.go:77", after := #[], guard := none }) (v := ?_) rfl (by kernel_rfl) (by kernel_rfl) (by kernel_rfl) (fun _ _ _ h => h) (Or.inl ⟨by rfl, ?_⟩) hHeld ?_
          rotate_left
          · intro w9 hSw
            (try dsimp only at hSw)
            go_simp <;> with_reducible rfl
          (try simp only [Act.put, List.setIfInBounds_toArray, List.set_cons_zero, List.set_cons_succ])
          refine wpAnyH_take (i := 1) (oi := { dst := some 130, op := Op.move (Operand.tmp 4), type := 3, pos := "outright.go:77", after := #[], guard := none }) (v := ?_) rfl (by kernel_rfl) (by kernel_rfl) (by kernel_rfl) (fun _ _ _ h => h) (Or.inl ⟨by rfl, ?_⟩) hHeld ?_
          rotate_left
          · intro w9 hSw
            (try dsimp only at hSw)
            go_simp <;> with_reducible rfl
          (try simp only [Act.put, List.setIfInBounds_toArray, List.set_cons_zero, List.set_cons_succ])
          refine wpAnyH_take (i := 2) (oi := { dst := some 131, op := Op.slice 45 (Operand.tmp 129) none (some (Operand.tmp 130)) none, type := 45, pos := "outright.go:77", after := #[{ on := 0, ground := Ground.data }, { on := 1, ground := Ground.data }], guard := none }) (v := ?_) rfl (by kernel_rfl) (by kernel_rfl) (by kernel_rfl) (fun _ _ _ h => h) (Or.inl ⟨by rfl, ?_⟩) hHeld ?_
          rotate_left
          · intro w9 hSw
            (try dsimp only at hSw)
            have y := hkc
            go_simp <;> with_reducible rfl
          (try simp only [Act.put, List.setIfInBounds_toArray, List.set_cons_zero, List.set_cons_succ])
          refine wpAnyH_take (i := 4) (oi := { dst := some 133, op := Op.move (Operand.tmp 12), type := 45, pos := "outright.go:77", after := #[], guard := none }) (v := ?_) rfl (by kernel_rfl) (by kernel_rfl) (by kernel_rfl) (fun _ _ _ h => h) (Or.inl ⟨by rfl, ?_⟩) hHeld ?_
          rotate_left
          · intro w9 hSw
            (try dsimp only at hSw)
            go_simp <;> with_reducible rfl
          (try simp only [Act.put, List.setIfInBounds_toArray, List.set_cons_zero, List.set_cons_succ])
          refine wpAnyH_take (i := 5) (oi := { dst := some 134, op := Op.move (Operand.tmp 4), type := 3, pos := "outright.go:77", after := #[], guard := none }) (v := ?_) rfl (by kernel_rfl) (by kernel_rfl) (by kernel_rfl) (fun _ _ _ h => h) (Or.inl ⟨by rfl, ?_⟩) hHeld ?_
          rotate_left
          · intro w9 hSw
            (try dsimp only at hSw)
            go_simp <;> with_reducible rfl
          (try simp only [Act.put, List.setIfInBounds_toArray, List.set_cons_zero, List.set_cons_succ])
          refine wpAnyH_take (i := 6) (oi := { dst := some 135, op := Op.binOp BinOp.add 3 (Operand.tmp 134) (Operand.const (Value.int IntKind.i64 1)) 3, type := 3, pos := "outright.go:77", after := #[{ on := 5, ground := Ground.data }], guard := none }) (v := ?_) rfl (by kernel_rfl) (by kernel_rfl) (by kernel_rfl) (fun _ _ _ h => h) (Or.inl ⟨by rfl, ?_⟩) hHeld ?_
          rotate_left
          · intro w9 hSw
            (try dsimp only at hSw)
            have y := hwk
            go_simp <;> with_reducible rfl
          (try simp only [Act.put, List.setIfInBounds_toArray, List.set_cons_zero, List.set_cons_succ])
          refine wpAnyH_take (i := 7) (oi := { dst := some 136, op := Op.slice 45 (Operand.tmp 133) (some (Operand.tmp 135)) none none, type := 45, pos := "outright.go:77", after := #[{ on := 4, ground := Ground.data }, { on := 6, ground := Ground.data }], guard := none }) (v := ?_) rfl (by kernel_rfl) (by kernel_rfl) (by kernel_rfl) (fun _ _ _ h => h) (Or.inl ⟨by rfl, ?_⟩) hHeld ?_
          rotate_left
          · intro w9 hSw
            (try dsimp only at hSw)
            have y := hrunD.out w9
            go_simp <;> with_reducible rfl
          (try simp only [Act.put, List.setIfInBounds_toArray, List.set_cons_zero, List.set_cons_succ])
          refine wpAnyH_ready (rs := [3, 14, 15]) (by kernel_rfl) (by simp) ?_
          refine AllReadyH.cons rfl (fun K hK => ?_) (AllReadyH.cons rfl (fun K hK => ?_) (AllReadyH.cons rfl (fun K hK => ?_) AllReadyH.nil))
          · refine step_append_c (w0 := W) rfl (.const (.slice none 0 0)) (.tmp 131) rfl rfl none 0 0 [] (hid rfl) rfl (CpB.nil W V0 s) A2 k c2 (l.take k) HLT rfl HRT.out (by omega) ?_
            intro A5 c5 V1 cp nr
            rw [List.nil_append] at cp
            rw [Nat.zero_add]
            clear nr
            replace s := cp.be
            refine hK.out _ _ s (fun hHeld => ?_)
            clear hK K
            refine wpAnyH_ready (rs := [8, 14, 15]) (by kernel_rfl) (by simp) ?_
            refine AllReadyH.cons rfl (fun K hK => ?_) (AllReadyH.cons rfl (fun K hK => ?_) (AllReadyH.cons rfl (fun K hK => ?_) AllReadyH.nil))
            · refine step_append_c (w0 := W) rfl (.tmp 132) (.tmp 136) rfl rfl A5 k c5 (l.take k) HLT rfl cp D (n2 - (k + 1)) (c2 - (k + 1)) (l.drop (k + 1)) HLD rfl HRD.out (by omega) ?_
              intro A6 c6 V2 cp6 nr
              clear nr
              replace s := cp6.be
              rw [show k + (n2 - (k + 1)) = n2 - 1 by omega]
              clear cp
              refine hK.out _ _ s (fun hHeld => ?_)
              clear hK K
              refine wpAnyH_ready (rs := [9, 14, 15]) (by kernel_rfl) (by simp) ?_
              refine AllReadyH.cons rfl (fun K hK => ?_) (AllReadyH.cons rfl (fun K hK => ?_) (AllReadyH.cons rfl (fun K hK => ?_) AllReadyH.nil))
              · go_simp
                go_wp2_with (go_at_call 7; refine (rec_get_of A6 (n2 - 1) c6 (l.take k ++ l.drop (k + 1)) HLC (by omega) _ cp6.rd).mono ?_; rintro e V3 ⟨r3, A3, k3, c3, s3, t3, i3, f3, j3, rfl, hg3, hk3, ho3, b⟩)
                obtain ⟨-, -, -, -, -, e3⟩ := got_not HNC.out hg3
                subst e3
                clear hg3 hk3 ho3 cp6
                replace s := below_in s b
                clear b
                refine hK.out _ _ s (fun hHeld => ?_)
                clear hK K
                refine wpAnyH_take (i := 10) (oi := { dst := some 128, op := Op.move (Operand.tmp 138), type := 43, pos := "outright.go:77", after := #[{ on := 9, ground := Ground.data }], guard := none }) (v := ?_) rfl (by kernel_rfl) (by kernel_rfl) (by kernel_rfl) (fun _ _ _ h => h) (Or.inl ⟨by rfl, ?_⟩) hHeld ?_
                rotate_left
                · intro w9 hSw
                  (try dsimp only at hSw)
                  go_simp <;> with_reducible rfl
                (try simp only [Act.put, List.setIfInBounds_toArray, List.set_cons_zero, List.set_cons_succ])
                refine wpAnyH_take (i := 11) (oi := { dst := some 139, op := Op.extract (Operand.tmp 128) 0, type := 40, pos := "outright.go:77", after := #[{ on := 10, ground := Ground.data }], guard := none }) (v := ?_) rfl (by kernel_rfl) (by kernel_rfl) (by kernel_rfl) (fun _ _ _ h => h) (Or.inl ⟨by rfl, ?_⟩) hHeld ?_
                rotate_left
                · intro w9 hSw
                  (try dsimp only at hSw)
                  go_simp <;> with_reducible rfl
                (try simp only [Act.put, List.setIfInBounds_toArray, List.set_cons_zero, List.set_cons_succ])
                refine wpAnyH_take (i := 12) (oi := { dst := some 140, op := Op.extract (Operand.tmp 128) 1, type := 42, pos := "outright.go:77", after := #[{ on := 10, ground := Ground.data }, { on := 16, ground := Ground.gcOnly Departure.lateStores }], guard := none }) (v := ?_) rfl (by kernel_rfl) (by kernel_rfl) (by kernel_rfl) (fun _ _ _ h => h) (Or.inl ⟨by rfl, ?_⟩) hHeld ?_
                rotate_left
                · intro w9 hSw
                  (try dsimp only at hSw)
                  go_simp <;> with_reducible rfl
                (try simp only [Act.put, List.setIfInBounds_toArray, List.set_cons_zero, List.set_cons_succ])
                refine wpAnyH_take (i := 13) (oi := { dst := some 141, op := Op.extract (Operand.tmp 128) 2, type := 34, pos := "outright.go:77", after := #[{ on := 10, ground := Ground.data }, { on := 17, ground := Ground.gcOnly Departure.lateStores }], guard := none }) (v := ?_) rfl (by kernel_rfl) (by kernel_rfl) (by kernel_rfl) (fun _ _ _ h => h) (Or.inl ⟨by rfl, ?_⟩) hHeld ?_
                rotate_left
                · intro w9 hSw
                  (try dsimp only at hSw)
                  go_simp <;> with_reducible rfl
                (try simp only [Act.put, List.setIfInBounds_toArray, List.set_cons_zero, List.set_cons_succ])
                refine wpAnyH_ready (rs := [14, 15]) (by kernel_rfl) (by simp) ?_
                refine AllReadyH.cons rfl (fun K hK => ?_) (AllReadyH.cons rfl (fun K hK => ?_) AllReadyH.nil)
                · go_simp
                  go_wp2
                  have b := below1 V3 (.cells (#[.int .u8 0, .int .i64 0, .int .u8 0, .int .u8 0, .int .u32 0, .int .u8 0, .int .i64 0, .int .u8 0, .int .u32 0, .int .u8 0, .int .i64 0, .int .i64 0, .int .u8 0, .int .u32 0, .int .u8 0, .int .i64 0, .int .u8 0, .int .u32 0, .slice none 0 0, .int .i64 0, .int .i64 0, .int .u8 0, .int .u32 0, .bool false]) 40)
                  obtain ⟨g20, hg20, T20⟩ : ∃ g, V3.heap.size = g ∧ TrF W (V3.alloc (.cells (#[.int .u8 0, .int .i64 0, .int .u8 0, .int .u8 0, .int .u32 0, .int .u8 0, .int .i64 0, .int .u8 0, .int .u32 0, .int .u8 0, .int .i64 0, .int .i64 0, .int .u8 0, .int .u32 0, .int .u8 0, .int .i64 0, .int .u8 0, .int .u32 0, .slice none 0 0, .int .i64 0, .int .i64 0, .int .u8 0, .int .u32 0, .bool false]) 40)) g := ⟨_, rfl, trf_new s⟩
                  replace s := below_in s b
                  clear b
                  rw [hg20]
                  generalize World.alloc V3 _ = V4 at s T20 ⊢
                  clear hg20
                  refine hK.out _ _ s (fun hHeld => ?_)
                  clear hK K
                  refine wpAnyH_ready (rs := [15]) (by kernel_rfl) (by simp) ?_
                  refine AllReadyH.cons rfl (fun K hK => ?_) AllReadyH.nil
                  · go_simp
                    go_wp2
                    have b := below1 V4 (.cells (#[.int .i64 0, .int .i64 0, .int .i64 0, .int .i64 0]) 42)
                    obtain ⟨g21, hg21, T21⟩ : ∃ g, V4.heap.size = g ∧ TdF W (V4.alloc (.cells (#[.int .i64 0, .int .i64 0, .int .i64 0, .int .i64 0]) 42)) g := ⟨_, rfl, tdf_new s⟩
                    have hne : g20 ≠ g21 := by have := T20.lt; omega
                    replace T20 := T20.keep b
                    replace s := below_in s b
                    clear b
                    rw [hg21]
                    generalize World.alloc V4 _ = V5 at s T21 T20 ⊢
                    clear hg21
                    refine hK.out _ _ s (fun hHeld => ?_)
                    clear hK K
                    refine wpAnyH_ready (rs := [16]) (by kernel_rfl) (by simp) ?_
                    refine AllReadyH.cons rfl (fun K hK => ?_) AllReadyH.nil
                    rw [if_pos (by rfl)]
                    refine wp_store_mid 40 (.tmp 20) (.tmp 139) rfl g20 0 (#[.int .u8 r3.kd, .int .i64 r3.us, .int .u8 r3.op.kd, .int .u8 r3.op.l, .int .u32 r3.op.c, .int .u8 r3.op.k, .int .i64 r3.op.s, .int .u8 r3.op.fl, .int .u32 r3.op.fc, .int .u8 r3.op.fk, .int .i64 r3.op.fn, .int .i64 r3.op.fm, .int .u8 r3.op.al, .int .u32 r3.op.ac, .int .u8 r3.op.ak, .int .i64 r3.op.an, .int .u8 r3.op.tl, .int .u32 r3.op.tc, .slice A3 k3 c3, .int .i64 r3.co, .int .i64 r3.gr.u, .int .u8 r3.gr.l, .int .u32 r3.gr.c, .bool r3.gr.ok]) rfl rfl T20.th info_R (by simp [Value.oneCell']) ?_
                    (try simp only [Act.put, List.setIfInBounds_toArray, List.set_cons_zero, List.set_cons_succ])
                    have s2 := s.trans (below_setCells g20 W.heap.size T20.ge ([.int .u8 r3.kd, .int .i64 r3.us, .int .u8 r3.op.kd, .int .u8 r3.op.l, .int .u32 r3.op.c, .int .u8 r3.op.k, .int .i64 r3.op.s, .int .u8 r3.op.fl, .int .u32 r3.op.fc, .int .u8 r3.op.fk, .int .i64 r3.op.fn, .int .i64 r3.op.fm, .int .u8 r3.op.al, .int .u32 r3.op.ac, .int .u8 r3.op.ak, .int .i64 r3.op.an, .int .u8 r3.op.tl, .int .u32 r3.op.tc, .slice A3 k3 c3, .int .i64 r3.co, .int .i64 r3.gr.u, .int .u8 r3.gr.l, .int .u32 r3.gr.c, .bool r3.gr.ok]) 0 _)
                    have T22 := T21.put (vs := ([.int .u8 r3.kd, .int .i64 r3.us, .int .u8 r3.op.kd, .int .u8 r3.op.l, .int .u32 r3.op.c, .int .u8 r3.op.k, .int .i64 r3.op.s, .int .u8 r3.op.fl, .int .u32 r3.op.fc, .int .u8 r3.op.fk, .int .i64 r3.op.fn, .int .i64 r3.op.fm, .int .u8 r3.op.al, .int .u32 r3.op.ac, .int .u8 r3.op.ak, .int .i64 r3.op.an, .int .u8 r3.op.tl, .int .u32 r3.op.tc, .slice A3 k3 c3, .int .i64 r3.co, .int .i64 r3.gr.u, .int .u8 r3.gr.l, .int .u32 r3.gr.c, .bool r3.gr.ok])) hne
                    generalize World.setCells _ g20 0 _ = X2 at s2 T22 ⊢
                    refine hK.out _ _ s2 (fun hHeld => ?_)
                    clear hK K
                    refine wpAnyH_ready (rs := [17]) (by kernel_rfl) (by simp) ?_
                    refine AllReadyH.cons rfl (fun K hK => ?_) AllReadyH.nil
                    rw [if_pos (by rfl)]
                    refine wp_store_mid 42 (.tmp 21) (.tmp 140) rfl g21 0 (#[.int .i64 s3, .int .i64 t3, .int .i64 i3, .int .i64 f3]) rfl rfl T22.th info_D (by simp [Value.oneCell']) ?_
                    (try simp only [Act.put, List.setIfInBounds_toArray, List.set_cons_zero, List.set_cons_succ])
                    have s4 := s2.trans (below_setCells g21 W.heap.size T22.ge ([.int .i64 s3, .int .i64 t3, .int .i64 i3, .int .i64 f3]) 0 _)
                    generalize World.setCells _ g21 0 _ = X3 at s4 ⊢
                    refine hK.out _ _ s4 (fun hHeld => ?_)
                    clear hK K
                    refine wpAnyH_take (i := 18) (oi := { dst := some 22, op := Op.assign (Operand.tmp 141), type := 34, pos := "outright.go:77", after := #[{ on := 13, ground := Ground.data }, { on := 17, ground := Ground.chain }, { on := 0, ground := Ground.phase }, { on := 1, ground := Ground.phase }, { on := 2, ground := Ground.phase }, { on := 3, ground := Ground.phase }, { on := 4, ground := Ground.phase }, { on := 5, ground := Ground.phase }, { on := 6, ground := Ground.phase }, { on := 7, ground := Ground.phase }, { on := 8, ground := Ground.phase }, { on := 9, ground := Ground.phase }, { on := 10, ground := Ground.phase }, { on := 11, ground := Ground.phase }, { on := 12, ground := Ground.phase }, { on := 13, ground := Ground.phase }, { on := 14, ground := Ground.phase }, { on := 15, ground := Ground.phase }, { on := 16, ground := Ground.phase }, { on := 17, ground := Ground.phase }], guard := none }) (v := ?_) rfl (by kernel_rfl) (by kernel_rfl) (by kernel_rfl) (fun _ _ _ h => h) (Or.inl ⟨by rfl, ?_⟩) hHeld ?_
                    rotate_left
                    · intro w9 hSw
                      (try dsimp only at hSw)
                      go_simp <;> with_reducible rfl
                    (try simp only [Act.put, List.setIfInBounds_toArray, List.set_cons_zero, List.set_cons_succ])
                    refine wpAnyH_done (by kernel_rfl) ?_ _
                    clear hHeld
                    go_wp2_with fail
                    go_meet
                    case rel => exact ⟨rfl, s4⟩
                · go_simp
                  go_wp2
                  have b := below1 V3 (.cells (#[.int .i64 0, .int .i64 0, .int .i64 0, .int .i64 0]) 42)
                  obtain ⟨g21, hg21, T21⟩ : ∃ g, V3.heap.size = g ∧ TdF W (V3.alloc (.cells (#[.int .i64 0, .int .i64 0, .int .i64 0, .int .i64 0]) 42)) g := ⟨_, rfl, tdf_new s⟩
                  replace s := below_in s b
                  clear b
                  rw [hg21]
                  generalize World.alloc V3 _ = V6 at s T21 ⊢
                  clear hg21
                  refine hK.out _ _ s (fun hHeld => ?_)
                  clear hK K
                  refine wpAnyH_ready (rs := [14]) (by kernel_rfl) (by simp) ?_
                  refine AllReadyH.cons rfl (fun K hK => ?_) AllReadyH.nil
                  · go_simp
                    go_wp2
                    have b := below1 V6 (.cells (#[.int .u8 0, .int .i64 0, .int .u8 0, .int .u8 0, .int .u32 0, .int .u8 0, .int .i64 0, .int .u8 0, .int .u32 0, .int .u8 0, .int .i64 0, .int .i64 0, .int .u8 0, .int .u32 0, .int .u8 0, .int .i64 0, .int .u8 0, .int .u32 0, .slice none 0 0, .int .i64 0, .int .i64 0, .int .u8 0, .int .u32 0, .bool false]) 40)
                    obtain ⟨g20, hg20, T20⟩ : ∃ g, V6.heap.size = g ∧ TrF W (V6.alloc (.cells (#[.int .u8 0, .int .i64 0, .int .u8 0, .int .u8 0, .int .u32 0, .int .u8 0, .int .i64 0, .int .u8 0, .int .u32 0, .int .u8 0, .int .i64 0, .int .i64 0, .int .u8 0, .int .u32 0, .int .u8 0, .int .i64 0, .int .u8 0, .int .u32 0, .slice none 0 0, .int .i64 0, .int .i64 0, .int .u8 0, .int .u32 0, .bool false]) 40)) g := ⟨_, rfl, trf_new s⟩
                    have hne : g20 ≠ g21 := by have := T21.lt; omega
                    replace T21 := T21.keep b
                    replace s := below_in s b
                    clear b
                    rw [hg20]
                    generalize World.alloc V6 _ = V7 at s T20 T21 ⊢
                    clear hg20
                    refine hK.out _ _ s (fun hHeld => ?_)
                    clear hK K
                    refine wpAnyH_ready (rs := [16]) (by kernel_rfl) (by simp) ?_
                    refine AllReadyH.cons rfl (fun K hK => ?_) AllReadyH.nil
                    rw [if_pos (by rfl)]
                    refine wp_store_mid 40 (.tmp 20) (.tmp 139) rfl g20 0 (#[.int .u8 r3.kd, .int .i64 r3.us, .int .u8 r3.op.kd, .int .u8 r3.op.l, .int .u32 r3.op.c, .int .u8 r3.op.k, .int .i64 r3.op.s, .int .u8 r3.op.fl, .int .u32 r3.op.fc, .int .u8 r3.op.fk, .int .i64 r3.op.fn, .int .i64 r3.op.fm, .int .u8 r3.op.al, .int .u32 r3.op.ac, .int .u8 r3.op.ak, .int .i64 r3.op.an, .int .u8 r3.op.tl, .int .u32 r3.op.tc, .slice A3 k3 c3, .int .i64 r3.co, .int .i64 r3.gr.u, .int .u8 r3.gr.l, .int .u32 r3.gr.c, .bool r3.gr.ok]) rfl rfl T20.th info_R (by simp [Value.oneCell']) ?_
                    (try simp only [Act.put, List.setIfInBounds_toArray, List.set_cons_zero, List.set_cons_succ])
                    have s2 := s.trans (below_setCells g20 W.heap.size T20.ge ([.int .u8 r3.kd, .int .i64 r3.us, .int .u8 r3.op.kd, .int .u8 r3.op.l, .int .u32 r3.op.c, .int .u8 r3.op.k, .int .i64 r3.op.s, .int .u8 r3.op.fl, .int .u32 r3.op.fc, .int .u8 r3.op.fk, .int .i64 r3.op.fn, .int .i64 r3.op.fm, .int .u8 r3.op.al, .int .u32 r3.op.ac, .int .u8 r3.op.ak, .int .i64 r3.op.an, .int .u8 r3.op.tl, .int .u32 r3.op.tc, .slice A3 k3 c3, .int .i64 r3.co, .int .i64 r3.gr.u, .int .u8 r3.gr.l, .int .u32 r3.gr.c, .bool r3.gr.ok]) 0 _)
                    have T22 := T21.put (vs := ([.int .u8 r3.kd, .int .i64 r3.us, .int .u8 r3.op.kd, .int .u8 r3.op.l, .int .u32 r3.op.c, .int .u8 r3.op.k, .int .i64 r3.op.s, .int .u8 r3.op.fl, .int .u32 r3.op.fc, .int .u8 r3.op.fk, .int .i64 r3.op.fn, .int .i64 r3.op.fm, .int .u8 r3.op.al, .int .u32 r3.op.ac, .int .u8 r3.op.ak, .int .i64 r3.op.an, .int .u8 r3.op.tl, .int .u32 r3.op.tc, .slice A3 k3 c3, .int .i64 r3.co, .int .i64 r3.gr.u, .int .u8 r3.gr.l, .int .u32 r3.gr.c, .bool r3.gr.ok])) hne
                    generalize World.setCells _ g20 0 _ = X2 at s2 T22 ⊢
                    refine hK.out _ _ s2 (fun hHeld => ?_)
                    clear hK K
                    refine wpAnyH_ready (rs := [17]) (by kernel_rfl) (by simp) ?_
                    refine AllReadyH.cons rfl (fun K hK => ?_) AllReadyH.nil
                    rw [if_pos (by rfl)]
                    refine wp_store_mid 42 (.tmp 21) (.tmp 140) rfl g21 0 (#[.int .i64 s3, .int .i64 t3, .int .i64 i3, .int .i64 f3]) rfl rfl T22.th info_D (by simp [Value.oneCell']) ?_
                    (try simp only [Act.put, List.setIfInBounds_toArray, List.set_cons_zero, List.set_cons_succ])
                    have s4 := s2.trans (below_setCells g21 W.heap.size T22.ge ([.int .i64 s3, .int .i64 t3, .int .i64 i3, .int .i64 f3]) 0 _)
                    generalize World.setCells _ g21 0 _ = X3 at s4 ⊢
                    refine hK.out _ _ s4 (fun hHeld => ?_)
                    clear hK K
                    refine wpAnyH_take (i := 18) (oi := { dst := some 22, op := Op.assign (Operand.tmp 141), type := 34, pos := "outright.go:77", after := #[{ on := 13, ground := Ground.data }, { on := 17, ground := Ground.chain }, { on := 0, ground := Ground.phase }, { on := 1, ground := Ground.phase }, { on := 2, ground := Ground.phase }, { on := 3, ground := Ground.phase }, { on := 4, ground := Ground.phase }, { on := 5, ground := Ground.phase }, { on := 6, ground := Ground.phase }, { on := 7, ground := Ground.phase }, { on := 8, ground := Ground.phase }, { on := 9, ground := Ground.phase }, { on := 10, ground := Ground.phase }, { on := 11, ground := Ground.phase }, { on := 12, ground := Ground.phase }, { on := 13, ground := Ground.phase }, { on := 14, ground := Ground.phase }, { on := 15, ground := Ground.phase }, { on := 16, ground := Ground.phase }, { on := 17, ground := Ground.phase }], guard := none }) (v := ?_) rfl (by kernel_rfl) (by kernel_rfl) (by kernel_rfl) (fun _ _ _ h => h) (Or.inl ⟨by rfl, ?_⟩) hHeld ?_
                    rotate_left
                    · intro w9 hSw
                      (try dsimp only at hSw)
                      go_simp <;> with_reducible rfl
                    (try simp only [Act.put, List.setIfInBounds_toArray, List.set_cons_zero, List.set_cons_succ])
                    refine wpAnyH_done (by kernel_rfl) ?_ _
                    clear hHeld
                    go_wp2_with fail
                    go_meet
                    case rel => exact ⟨rfl, s4⟩
              · go_simp
                go_wp2
                have b := below1 V2 (.cells (#[.int .u8 0, .int .i64 0, .int .u8 0, .int .u8 0, .int .u32 0, .int .u8 0, .int .i64 0, .int .u8 0, .int .u32 0, .int .u8 0, .int .i64 0, .int .i64 0, .int .u8 0, .int .u32 0, .int .u8 0, .int .i64 0, .int .u8 0, .int .u32 0, .slice none 0 0, .int .i64 0, .int .i64 0, .int .u8 0, .int .u32 0, .bool false]) 40)
                obtain ⟨g20, hg20, T20⟩ : ∃ g, V2.heap.size = g ∧ TrF W (V2.alloc (.cells (#[.int .u8 0, .int .i64 0, .int .u8 0, .int .u8 0, .int .u32 0, .int .u8 0, .int .i64 0, .int .u8 0, .int .u32 0, .int .u8 0, .int .i64 0, .int .i64 0, .int .u8 0, .int .u32 0, .int .u8 0, .int .i64 0, .int .u8 0, .int .u32 0, .slice none 0 0, .int .i64 0, .int .i64 0, .int .u8 0, .int .u32 0, .bool false]) 40)) g := ⟨_, rfl, trf_new s⟩
                replace cp6 := cp6.keep b
                replace s := below_in s b
                clear b
                rw [hg20]
                generalize World.alloc V2 _ = V8 at s T20 cp6 ⊢
                clear hg20
                refine hK.out _ _ s (fun hHeld => ?_)
                clear hK K
                refine wpAnyH_ready (rs := [9, 15]) (by kernel_rfl) (by simp) ?_
                refine AllReadyH.cons rfl (fun K hK => ?_) (AllReadyH.cons rfl (fun K hK => ?_) AllReadyH.nil)
                · go_simp
                  go_wp2_with (go_at_call 7; refine (rec_get_of A6 (n2 - 1) c6 (l.take k ++ l.drop (k + 1)) HLC (by omega) _ cp6.rd).mono ?_; rintro e V9 ⟨r3, A3, k3, c3, s3, t3, i3, f3, j3, rfl, hg3, hk3, ho3, b⟩)
                  obtain ⟨-, -, -, -, -, e3⟩ := got_not HNC.out hg3
                  subst e3
                  clear hg3 hk3 ho3 cp6
                  replace T20 := T20.keep b
                  replace s := below_in s b
                  clear b
                  refine hK.out _ _ s (fun hHeld => ?_)
                  clear hK K
                  refine wpAnyH_take (i := 10) (oi := { dst := some 128, op := Op.move (Operand.tmp 138), type := 43, pos := "outright.go:77", after := #[{ on := 9, ground := Ground.data }], guard := none }) (v := ?_) rfl (by kernel_rfl) (by kernel_rfl) (by kernel_rfl) (fun _ _ _ h => h) (Or.inl ⟨by rfl, ?_⟩) hHeld ?_
                  rotate_left
                  · intro w9 hSw
                    (try dsimp only at hSw)
                    go_simp <;> with_reducible rfl
                  (try simp only [Act.put, List.setIfInBounds_toArray, List.set_cons_zero, List.set_cons_succ])
                  refine wpAnyH_take (i := 11) (oi := { dst := some 139, op := Op.extract (Operand.tmp 128) 0, type := 40, pos := "outright.go:77", after := #[{ on := 10, ground := Ground.data }], guard := none }) (v := ?_) rfl (by kernel_rfl) (by kernel_rfl) (by kernel_rfl) (fun _ _ _ h => h) (Or.inl ⟨by rfl, ?_⟩) hHeld ?_
                  rotate_left
                  · intro w9 hSw
                    (try dsimp only at hSw)
                    go_simp <;> with_reducible rfl
                  (try simp only [Act.put, List.setIfInBounds_toArray, List.set_cons_zero, List.set_cons_succ])
                  refine wpAnyH_take (i := 12) (oi := { dst := some 140, op := Op.extract (Operand.tmp 128) 1, type := 42, pos := "outright.go:77", after := #[{ on := 10, ground := Ground.data }, { on := 16, ground := Ground.gcOnly Departure.lateStores }], guard := none }) (v := ?_) rfl (by kernel_rfl) (by kernel_rfl) (by kernel_rfl) (fun _ _ _ h => h) (Or.inl ⟨by rfl, ?_⟩) hHeld ?_
                  rotate_left
                  · intro w9 hSw
                    (try dsimp only at hSw)
                    go_simp <;> with_reducible rfl
                  (try simp only [Act.put, List.setIfInBounds_toArray, List.set_cons_zero, List.set_cons_succ])
                  refine wpAnyH_take (i := 13) (oi := { dst := some 141, op := Op.extract (Operand.tmp 128) 2, type := 34, pos := "outright.go:77", after := #[{ on := 10, ground := Ground.data }, { on := 17, ground := Ground.gcOnly Departure.lateStores }], guard := none }) (v := ?_) rfl (by kernel_rfl) (by kernel_rfl) (by kernel_rfl) (fun _ _ _ h => h) (Or.inl ⟨by rfl, ?_⟩) hHeld ?_
                  rotate_left
                  · intro w9 hSw
                    (try dsimp only at hSw)
                    go_simp <;> with_reducible rfl
                  (try simp only [Act.put, List.setIfInBounds_toArray, List.set_cons_zero, List.set_cons_succ])
                  refine wpAnyH_ready (rs := [15]) (by kernel_rfl) (by simp) ?_
                  refine AllReadyH.cons rfl (fun K hK => ?_) AllReadyH.nil
                  · go_simp
                    go_wp2
                    have b := below1 V9 (.cells (#[.int .i64 0, .int .i64 0, .int .i64 0, .int .i64 0]) 42)
                    obtain ⟨g21, hg21, T21⟩ : ∃ g, V9.heap.size = g ∧ TdF W (V9.alloc (.cells (#[.int .i64 0, .int .i64 0, .int .i64 0, .int .i64 0]) 42)) g := ⟨_, rfl, tdf_new s⟩
                    have hne : g20 ≠ g21 := by have := T20.lt; omega
                    replace T20 := T20.keep b
                    replace s := below_in s b
                    clear b
                    rw [hg21]
                    generalize World.alloc V9 _ = V10 at s T21 T20 ⊢
                    clear hg21
                    refine hK.out _ _ s (fun hHeld => ?_)
                    clear hK K
                    refine wpAnyH_ready (rs := [16]) (by kernel_rfl) (by simp) ?_
                    refine AllReadyH.cons rfl (fun K hK => ?_) AllReadyH.nil
                    rw [if_pos (by rfl)]
                    refine wp_store_mid 40 (.tmp 20) (.tmp 139) rfl g20 0 (#[.int .u8 r3.kd, .int .i64 r3.us, .int .u8 r3.op.kd, .int .u8 r3.op.l, .int .u32 r3.op.c, .int .u8 r3.op.k, .int .i64 r3.op.s, .int .u8 r3.op.fl, .int .u32 r3.op.fc, .int .u8 r3.op.fk, .int .i64 r3.op.fn, .int .i64 r3.op.fm, .int .u8 r3.op.al, .int .u32 r3.op.ac, .int .u8 r3.op.ak, .int .i64 r3.op.an, .int .u8 r3.op.tl, .int .u32 r3.op.tc, .slice A3 k3 c3, .int .i64 r3.co, .int .i64 r3.gr.u, .int .u8 r3.gr.l, .int .u32 r3.gr.c, .bool r3.gr.ok]) rfl rfl T20.th info_R (by simp [Value.oneCell']) ?_
                    (try simp only [Act.put, List.setIfInBounds_toArray, List.set_cons_zero, List.set_cons_succ])
                    have s2 := s.trans (below_setCells g20 W.heap.size T20.ge ([.int .u8 r3.kd, .int .i64 r3.us, .int .u8 r3.op.kd, .int .u8 r3.op.l, .int .u32 r3.op.c, .int .u8 r3.op.k, .int .i64 r3.op.s, .int .u8 r3.op.fl, .int .u32 r3.op.fc, .int .u8 r3.op.fk, .int .i64 r3.op.fn, .int .i64 r3.op.fm, .int .u8 r3.op.al, .int .u32 r3.op.ac, .int .u8 r3.op.ak, .int .i64 r3.op.an, .int .u8 r3.op.tl, .int .u32 r3.op.tc, .slice A3 k3 c3, .int .i64 r3.co, .int .i64 r3.gr.u, .int .u8 r3.gr.l, .int .u32 r3.gr.c, .bool r3.gr.ok]) 0 _)
                    have T22 := T21.put (vs := ([.int .u8 r3.kd, .int .i64 r3.us, .int .u8 r3.op.kd, .int .u8 r3.op.l, .int .u32 r3.op.c, .int .u8 r3.op.k, .int .i64 r3.op.s, .int .u8 r3.op.fl, .int .u32 r3.op.fc, .int .u8 r3.op.fk, .int .i64 r3.op.fn, .int .i64 r3.op.fm, .int .u8 r3.op.al, .int .u32 r3.op.ac, .int .u8 r3.op.ak, .int .i64 r3.op.an, .int .u8 r3.op.tl, .int .u32 r3.op.tc, .slice A3 k3 c3, .int .i64 r3.co, .int .i64 r3.gr.u, .int .u8 r3.gr.l, .int .u32 r3.gr.c, .bool r3.gr.ok])) hne
                    generalize World.setCells _ g20 0 _ = X2 at s2 T22 ⊢
                    refine hK.out _ _ s2 (fun hHeld => ?_)
                    clear hK K
                    refine wpAnyH_ready (rs := [17]) (by kernel_rfl) (by simp) ?_
                    refine AllReadyH.cons rfl (fun K hK => ?_) AllReadyH.nil
                    rw [if_pos (by rfl)]
                    refine wp_store_mid 42 (.tmp 21) (.tmp 140) rfl g21 0 (#[.int .i64 s3, .int .i64 t3, .int .i64 i3, .int .i64 f3]) rfl rfl T22.th info_D (by simp [Value.oneCell']) ?_
                    (try simp only [Act.put, List.setIfInBounds_toArray, List.set_cons_zero, List.set_cons_succ])
                    have s4 := s2.trans (below_setCells g21 W.heap.size T22.ge ([.int .i64 s3, .int .i64 t3, .int .i64 i3, .int .i64 f3]) 0 _)
                    generalize World.setCells _ g21 0 _ = X3 at s4 ⊢
                    refine hK.out _ _ s4 (fun hHeld => ?_)
                    clear hK K
                    refine wpAnyH_take (i := 18) (oi := { dst := some 22, op := Op.assign (Operand.tmp 141), type := 34, pos := "outright.go:77", after := #[{ on := 13, ground := Ground.data }, { on := 17, ground := Ground.chain }, { on := 0, ground := Ground.phase }, { on := 1, ground := Ground.phase }, { on := 2, ground := Ground.phase }, { on := 3, ground := Ground.phase }, { on := 4, ground := Ground.phase }, { on := 5, ground := Ground.phase }, { on := 6, ground := Ground.phase }, { on := 7, ground := Ground.phase }, { on := 8, ground := Ground.phase }, { on := 9, ground := Ground.phase }, { on := 10, ground := Ground.phase }, { on := 11, ground := Ground.phase }, { on := 12, ground := Ground.phase }, { on := 13, ground := Ground.phase }, { on := 14, ground := Ground.phase }, { on := 15, ground := Ground.phase }, { on := 16, ground := Ground.phase }, { on := 17, ground := Ground.phase }], guard := none }) (v := ?_) rfl (by kernel_rfl) (by kernel_rfl) (by kernel_rfl) (fun _ _ _ h => h) (Or.inl ⟨by rfl, ?_⟩) hHeld ?_
                    rotate_left
                    · intro w9 hSw
                      (try dsimp only at hSw)
                      go_simp <;> with_reducible rfl
                    (try simp only [Act.put, List.setIfInBounds_toArray, List.set_cons_zero, List.set_cons_succ])
                    refine wpAnyH_done (by kernel_rfl) ?_ _
                    clear hHeld
                    go_wp2_with fail
                    go_meet
                    case rel => exact ⟨rfl, s4⟩
                · go_simp
                  go_wp2
                  have b := below1 V8 (.cells (#[.int .i64 0, .int .i64 0, .int .i64 0, .int .i64 0]) 42)
                  obtain ⟨g21, hg21, T21⟩ : ∃ g, V8.heap.size = g ∧ TdF W (V8.alloc (.cells (#[.int .i64 0, .int .i64 0, .int .i64 0, .int .i64 0]) 42)) g := ⟨_, rfl, tdf_new s⟩
                  have hne : g20 ≠ g21 := by have := T20.lt; omega
                  replace T20 := T20.keep b
                  replace cp6 := cp6.keep b
                  replace s := below_in s b
                  clear b
                  rw [hg21]
                  generalize World.alloc V8 _ = V11 at s T21 T20 cp6 ⊢
                  clear hg21
                  refine hK.out _ _ s (fun hHeld => ?_)
                  clear hK K
                  refine wpAnyH_ready (rs := [9]) (by kernel_rfl) (by simp) ?_
                  refine AllReadyH.cons rfl (fun K hK => ?_) AllReadyH.nil
                  · go_simp
                    go_wp2_with (go_at_call 7; refine (rec_get_of A6 (n2 - 1) c6 (l.take k ++ l.drop (k + 1)) HLC (by omega) _ cp6.rd).mono ?_; rintro e V12 ⟨r3, A3, k3, c3, s3, t3, i3, f3, j3, rfl, hg3, hk3, ho3, b⟩)
                    obtain ⟨-, -, -, -, -, e3⟩ := got_not HNC.out hg3
                    subst e3
                    clear hg3 hk3 ho3 cp6
                    replace T20 := T20.keep b
                    replace T21 := T21.keep b
                    replace s := below_in s b
                    clear b
                    refine hK.out _ _ s (fun hHeld => ?_)
                    clear hK K
                    refine wpAnyH_take (i := 10) (oi := { dst := some 128, op := Op.move (Operand.tmp 138), type := 43, pos := "outright.go:77", after := #[{ on := 9, ground := Ground.data }], guard := none }) (v := ?_) rfl (by kernel_rfl) (by kernel_rfl) (by kernel_rfl) (fun _ _ _ h => h) (Or.inl ⟨by rfl, ?_⟩) hHeld ?_
                    rotate_left
                    · intro w9 hSw
                      (try dsimp only at hSw)
                      go_simp <;> with_reducible rfl
                    (try simp only [Act.put, List.setIfInBounds_toArray, List.set_cons_zero, List.set_cons_succ])
                    refine wpAnyH_take (i := 11) (oi := { dst := some 139, op := Op.extract (Operand.tmp 128) 0, type := 40, pos := "outright.go:77", after := #[{ on := 10, ground := Ground.data }], guard := none }) (v := ?_) rfl (by kernel_rfl) (by kernel_rfl) (by kernel_rfl) (fun _ _ _ h => h) (Or.inl ⟨by rfl, ?_⟩) hHeld ?_
                    rotate_left
                    · intro w9 hSw
                      (try dsimp only at hSw)
                      go_simp <;> with_reducible rfl
                    (try simp only [Act.put, List.setIfInBounds_toArray, List.set_cons_zero, List.set_cons_succ])
                    refine wpAnyH_take (i := 12) (oi := { dst := some 140, op := Op.extract (Operand.tmp 128) 1, type := 42, pos := "outright.go:77", after := #[{ on := 10, ground := Ground.data }, { on := 16, ground := Ground.gcOnly Departure.lateStores }], guard := none }) (v := ?_) rfl (by kernel_rfl) (by kernel_rfl) (by kernel_rfl) (fun _ _ _ h => h) (Or.inl ⟨by rfl, ?_⟩) hHeld ?_
                    rotate_left
                    · intro w9 hSw
                      (try dsimp only at hSw)
                      go_simp <;> with_reducible rfl
                    (try simp only [Act.put, List.setIfInBounds_toArray, List.set_cons_zero, List.set_cons_succ])
                    refine wpAnyH_take (i := 13) (oi := { dst := some 141, op := Op.extract (Operand.tmp 128) 2, type := 34, pos := "outright.go:77", after := #[{ on := 10, ground := Ground.data }, { on := 17, ground := Ground.gcOnly Departure.lateStores }], guard := none }) (v := ?_) rfl (by kernel_rfl) (by kernel_rfl) (by kernel_rfl) (fun _ _ _ h => h) (Or.inl ⟨by rfl, ?_⟩) hHeld ?_
                    rotate_left
                    · intro w9 hSw
                      (try dsimp only at hSw)
                      go_simp <;> with_reducible rfl
                    (try simp only [Act.put, List.setIfInBounds_toArray, List.set_cons_zero, List.set_cons_succ])
                    refine wpAnyH_ready (rs := [16]) (by kernel_rfl) (by simp) ?_
                    refine AllReadyH.cons rfl (fun K hK => ?_) AllReadyH.nil
                    rw [if_pos (by rfl)]
                    refine wp_store_mid 40 (.tmp 20) (.tmp 139) rfl g20 0 (#[.int .u8 r3.kd, .int .i64 r3.us, .int .u8 r3.op.kd, .int .u8 r3.op.l, .int .u32 r3.op.c, .int .u8 r3.op.k, .int .i64 r3.op.s, .int .u8 r3.op.fl, .int .u32 r3.op.fc, .int .u8 r3.op.fk, .int .i64 r3.op.fn, .int .i64 r3.op.fm, .int .u8 r3.op.al, .int .u32 r3.op.ac, .int .u8 r3.op.ak, .int .i64 r3.op.an, .int .u8 r3.op.tl, .int .u32 r3.op.tc, .slice A3 k3 c3, .int .i64 r3.co, .int .i64 r3.gr.u, .int .u8 r3.gr.l, .int .u32 r3.gr.c, .bool r3.gr.ok]) rfl rfl T20.th info_R (by simp [Value.oneCell']) ?_
                    (try simp only [Act.put, List.setIfInBounds_toArray, List.set_cons_zero, List.set_cons_succ])
                    have s2 := s.trans (below_setCells g20 W.heap.size T20.ge ([.int .u8 r3.kd, .int .i64 r3.us, .int .u8 r3.op.kd, .int .u8 r3.op.l, .int .u32 r3.op.c, .int .u8 r3.op.k, .int .i64 r3.op.s, .int .u8 r3.op.fl, .int .u32 r3.op.fc, .int .u8 r3.op.fk, .int .i64 r3.op.fn, .int .i64 r3.op.fm, .int .u8 r3.op.al, .int .u32 r3.op.ac, .int .u8 r3.op.ak, .int .i64 r3.op.an, .int .u8 r3.op.tl, .int .u32 r3.op.tc, .slice A3 k3 c3, .int .i64 r3.co, .int .i64 r3.gr.u, .int .u8 r3.gr.l, .int .u32 r3.gr.c, .bool r3.gr.ok]) 0 _)
                    have T22 := T21.put (vs := ([.int .u8 r3.kd, .int .i64 r3.us, .int .u8 r3.op.kd, .int .u8 r3.op.l, .int .u32 r3.op.c, .int .u8 r3.op.k, .int .i64 r3.op.s, .int .u8 r3.op.fl, .int .u32 r3.op.fc, .int .u8 r3.op.fk, .int .i64 r3.op.fn, .int .i64 r3.op.fm, .int .u8 r3.op.al, .int .u32 r3.op.ac, .int .u8 r3.op.ak, .int .i64 r3.op.an, .int .u8 r3.op.tl, .int .u32 r3.op.tc, .slice A3 k3 c3, .int .i64 r3.co, .int .i64 r3.gr.u, .int .u8 r3.gr.l, .int .u32 r3.gr.c, .bool r3.gr.ok])) hne
                    generalize World.setCells _ g20 0 _ = X2 at s2 T22 ⊢
                    refine hK.out _ _ s2 (fun hHeld => ?_)
                    clear hK K
                    refine wpAnyH_ready (rs := [17]) (by kernel_rfl) (by simp) ?_
                    refine AllReadyH.cons rfl (fun K hK => ?_) AllReadyH.nil
                    rw [if_pos (by rfl)]
                    refine wp_store_mid 42 (.tmp 21) (.tmp 140) rfl g21 0 (#[.int .i64 s3, .int .i64 t3, .int .i64 i3, .int .i64 f3]) rfl rfl T22.th info_D (by simp [Value.oneCell']) ?_
                    (try simp only [Act.put, List.setIfInBounds_toArray, List.set_cons_zero, List.set_cons_succ])
                    have s4 := s2.trans (below_setCells g21 W.heap.size T22.ge ([.int .i64 s3, .int .i64 t3, .int .i64 i3, .int .i64 f3]) 0 _)
                    generalize World.setCells _ g21 0 _ = X3 at s4 ⊢
                    refine hK.out _ _ s4 (fun hHeld => ?_)
                    clear hK K
                    refine wpAnyH_take (i := 18) (oi := { dst := some 22, op := Op.assign (Operand.tmp 141), type := 34, pos := "outright.go:77", after := #[{ on := 13, ground := Ground.data }, { on := 17, ground := Ground.chain }, { on := 0, ground := Ground.phase }, { on := 1, ground := Ground.phase }, { on := 2, ground := Ground.phase }, { on := 3, ground := Ground.phase }, { on := 4, ground := Ground.phase }, { on := 5, ground := Ground.phase }, { on := 6, ground := Ground.phase }, { on := 7, ground := Ground.phase }, { on := 8, ground := Ground.phase }, { on := 9, ground := Ground.phase }, { on := 10, ground := Ground.phase }, { on := 11, ground := Ground.phase }, { on := 12, ground := Ground.phase }, { on := 13, ground := Ground.phase }, { on := 14, ground := Ground.phase }, { on := 15, ground := Ground.phase }, { on := 16, ground := Ground.phase }, { on := 17, ground := Ground.phase }], guard := none }) (v := ?_) rfl (by kernel_rfl) (by kernel_rfl) (by kernel_rfl) (fun _ _ _ h => h) (Or.inl ⟨by rfl, ?_⟩) hHeld ?_
                    rotate_left
                    · intro w9 hSw
                      (try dsimp only at hSw)
                      go_simp <;> with_reducible rfl
                    (try simp only [Act.put, List.setIfInBounds_toArray, List.set_cons_zero, List.set_cons_succ])
                    refine wpAnyH_done (by kernel_rfl) ?_ _
                    clear hHeld
                    go_wp2_with fail
                    go_meet
                    case rel => exact ⟨rfl, s4⟩
              · go_simp
                go_wp2
                have b := below1 V2 (.cells (#[.int .i64 0, .int .i64 0, .int .i64 0, .int .i64 0]) 42)
                obtain ⟨g21, hg21, T21⟩ : ∃ g, V2.heap.size = g ∧ TdF W (V2.alloc (.cells (#[.int .i64 0, .int .i64 0, .int .i64 0, .int .i64 0]) 42)) g := ⟨_, rfl, tdf_new s⟩
                replace cp6 := cp6.keep b
                replace s := below_in s b
                clear b
                rw [hg21]
                generalize World.alloc V2 _ = V13 at s T21 cp6 ⊢
                clear hg21
                refine hK.out _ _ s (fun hHeld => ?_)
                clear hK K
                refine wpAnyH_ready (rs := [9, 14]) (by kernel_rfl) (by simp) ?_
                refine AllReadyH.cons rfl (fun K hK => ?_) (AllReadyH.cons rfl (fun K hK => ?_) AllReadyH.nil)
                · go_simp
                  go_wp2_with (go_at_call 7; refine (rec_get_of A6 (n2 - 1) c6 (l.take k ++ l.drop (k + 1)) HLC (by omega) _ cp6.rd).mono ?_; rintro e V14 ⟨r3, A3, k3, c3, s3, t3, i3, f3, j3, rfl, hg3, hk3, ho3, b⟩)
                  obtain ⟨-, -, -, -, -, e3⟩ := got_not HNC.out hg3
                  subst e3
                  clear hg3 hk3 ho3 cp6
                  replace T21 := T21.keep b
                  replace s := below_in s b
                  clear b
                  refine hK.out _ _ s (fun hHeld => ?_)
                  clear hK K
                  refine wpAnyH_take (i := 10) (oi := { dst := some 128, op := Op.move (Operand.tmp 138), type := 43, pos := "outright.go:77", after := #[{ on := 9, ground := Ground.data }], guard := none }) (v := ?_) rfl (by kernel_rfl) (by kernel_rfl) (by kernel_rfl) (fun _ _ _ h => h) (Or.inl ⟨by rfl, ?_⟩) hHeld ?_
                  rotate_left
                  · intro w9 hSw
                    (try dsimp only at hSw)
                    go_simp <;> with_reducible rfl
                  (try simp only [Act.put, List.setIfInBounds_toArray, List.set_cons_zero, List.set_cons_succ])
                  refine wpAnyH_take (i := 11) (oi := { dst := some 139, op := Op.extract (Operand.tmp 128) 0, type := 40, pos := "outright.go:77", after := #[{ on := 10, ground := Ground.data }], guard := none }) (v := ?_) rfl (by kernel_rfl) (by kernel_rfl) (by kernel_rfl) (fun _ _ _ h => h) (Or.inl ⟨by rfl, ?_⟩) hHeld ?_
                  rotate_left
                  · intro w9 hSw
                    (try dsimp only at hSw)
                    go_simp <;> with_reducible rfl
                  (try simp only [Act.put, List.setIfInBounds_toArray, List.set_cons_zero, List.set_cons_succ])
                  refine wpAnyH_take (i := 12) (oi := { dst := some 140, op := Op.extract (Operand.tmp 128) 1, type := 42, pos := "outright.go:77", after := #[{ on := 10, ground := Ground.data }, { on := 16, ground := Ground.gcOnly Departure.lateStores }], guard := none }) (v := ?_) rfl (by kernel_rfl) (by kernel_rfl) (by kernel_rfl) (fun _ _ _ h => h) (Or.inl ⟨by rfl, ?_⟩) hHeld ?_
                  rotate_left
                  · intro w9 hSw
                    (try dsimp only at hSw)
                    go_simp <;> with_reducible rfl
                  (try simp only [Act.put, List.setIfInBounds_toArray, List.set_cons_zero, List.set_cons_succ])
                  refine wpAnyH_take (i := 13) (oi := { dst := some 141, op := Op.extract (Operand.tmp 128) 2, type := 34, pos := "outright.go:77", after := #[{ on := 10, ground := Ground.data }, { on := 17, ground := Ground.gcOnly Departure.lateStores }], guard := none }) (v := ?_) rfl (by kernel_rfl) (by kernel_rfl) (by kernel_rfl) (fun _ _ _ h => h) (Or.inl ⟨by rfl, ?_⟩) hHeld ?_
                  rotate_left
                  · intro w9 hSw
                    (try dsimp only at hSw)
                    go_simp <;> with_reducible rfl
                  (try simp only [Act.put, List.setIfInBounds_toArray, List.set_cons_zero, List.set_cons_succ])
                  refine wpAnyH_ready (rs := [14]) (by kernel_rfl) (by simp) ?_
                  refine AllReadyH.cons rfl (fun K hK => ?_) AllReadyH.nil
                  · go_simp
                    go_wp2
                    have b := below1 V14 (.cells (#[.int .u8 0, .int .i64 0, .int .u8 0, .int .u8 0, .int .u32 0, .int .u8 0, .int .i64 0, .int .u8 0, .int .u32 0, .int .u8 0, .int .i64 0, .int .i64 0, .int .u8 0, .int .u32 0, .int .u8 0, .int .i64 0, .int .u8 0, .int .u32 0, .slice none 0 0, .int .i64 0, .int .i64 0, .int .u8 0, .int .u32 0, .bool false]) 40)
                    obtain ⟨g20, hg20, T20⟩ : ∃ g, V14.heap.size = g ∧ TrF W (V14.alloc (.cells (#[.int .u8 0, .int .i64 0, .int .u8 0, .int .u8 0, .int .u32 0, .int .u8 0, .int .i64 0, .int .u8 0, .int .u32 0, .int .u8 0, .int .i64 0, .int .i64 0, .int .u8 0, .int .u32 0, .int .u8 0, .int .i64 0, .int .u8 0, .int .u32 0, .slice none 0 0, .int .i64 0, .int .i64 0, .int .u8 0, .int .u32 0, .bool false]) 40)) g := ⟨_, rfl, trf_new s⟩
                    have hne : g20 ≠ g21 := by have := T21.lt; omega
                    replace T21 := T21.keep b
                    replace s := below_in s b
                    clear b
                    rw [hg20]
                    generalize World.alloc V14 _ = V15 at s T20 T21 ⊢
                    clear hg20
                    refine hK.out _ _ s (fun hHeld => ?_)
                    clear hK K
                    refine wpAnyH_ready (rs := [16]) (by kernel_rfl) (by simp) ?_
                    refine AllReadyH.cons rfl (fun K hK => ?_) AllReadyH.nil
                    rw [if_pos (by rfl)]
                    refine wp_store_mid 40 (.tmp 20) (.tmp 139) rfl g20 0 (#[.int .u8 r3.kd, .int .i64 r3.us, .int .u8 r3.op.kd, .int .u8 r3.op.l, .int .u32 r3.op.c, .int .u8 r3.op.k, .int .i64 r3.op.s, .int .u8 r3.op.fl, .int .u32 r3.op.fc, .int .u8 r3.op.fk, .int .i64 r3.op.fn, .int .i64 r3.op.fm, .int .u8 r3.op.al, .int .u32 r3.op.ac, .int .u8 r3.op.ak, .int .i64 r3.op.an, .int .u8 r3.op.tl, .int .u32 r3.op.tc, .slice A3 k3 c3, .int .i64 r3.co, .int .i64 r3.gr.u, .int .u8 r3.gr.l, .int .u32 r3.gr.c, .bool r3.gr.ok]) rfl rfl T20.th info_R (by simp [Value.oneCell']) ?_
                    (try simp only [Act.put, List.setIfInBounds_toArray, List.set_cons_zero, List.set_cons_succ])
                    have s2 := s.trans (below_setCells g20 W.heap.size T20.ge ([.int .u8 r3.kd, .int .i64 r3.us, .int .u8 r3.op.kd, .int .u8 r3.op.l, .int .u32 r3.op.c, .int .u8 r3.op.k, .int .i64 r3.op.s, .int .u8 r3.op.fl, .int .u32 r3.op.fc, .int .u8 r3.op.fk, .int .i64 r3.op.fn, .int .i64 r3.op.fm, .int .u8 r3.op.al, .int .u32 r3.op.ac, .int .u8 r3.op.ak, .int .i64 r3.op.an, .int .u8 r3.op.tl, .int .u32 r3.op.tc, .slice A3 k3 c3, .int .i64 r3.co, .int .i64 r3.gr.u, .int .u8 r3.gr.l, .int .u32 r3.gr.c, .bool r3.gr.ok]) 0 _)
                    have T22 := T21.put (vs := ([.int .u8 r3.kd, .int .i64 r3.us, .int .u8 r3.op.kd, .int .u8 r3.op.l, .int .u32 r3.op.c, .int .u8 r3.op.k, .int .i64 r3.op.s, .int .u8 r3.op.fl, .int .u32 r3.op.fc, .int .u8 r3.op.fk, .int .i64 r3.op.fn, .int .i64 r3.op.fm, .int .u8 r3.op.al, .int .u32 r3.op.ac, .int .u8 r3.op.ak, .int .i64 r3.op.an, .int .u8 r3.op.tl, .int .u32 r3.op.tc, .slice A3 k3 c3, .int .i64 r3.co, .int .i64 r3.gr.u, .int .u8 r3.gr.l, .int .u32 r3.gr.c, .bool r3.gr.ok])) hne
                    generalize World.setCells _ g20 0 _ = X2 at s2 T22 ⊢
                    refine hK.out _ _ s2 (fun hHeld => ?_)
                    clear hK K
                    refine wpAnyH_ready (rs := [17]) (by kernel_rfl) (by simp) ?_
                    refine AllReadyH.cons rfl (fun K hK => ?_) AllReadyH.nil
                    rw [if_pos (by rfl)]
                    refine wp_store_mid 42 (.tmp 21) (.tmp 140) rfl g21 0 (#[.int .i64 s3, .int .i64 t3, .int .i64 i3, .int .i64 f3]) rfl rfl T22.th info_D (by simp [Value.oneCell']) ?_
                    (try simp only [Act.put, List.setIfInBounds_toArray, List.set_cons_zero, List.set_cons_succ])
                    have s4 := s2.trans (below_setCells g21 W.heap.size T22.ge ([.int .i64 s3, .int .i64 t3, .int .i64 i3, .int .i64 f3]) 0 _)
                    generalize World.setCells _ g21 0 _ = X3 at s4 ⊢
                    refine hK.out _ _ s4 (fun hHeld => ?_)
                    clear hK K
                    refine wpAnyH_take (i := 18) (oi := { dst := some 22, op := Op.assign (Operand.tmp 141), type := 34, pos := "outright.go:77", after := #[{ on := 13, ground := Ground.data }, { on := 17, ground := Ground.chain }, { on := 0, ground := Ground.phase }, { on := 1, ground := Ground.phase }, { on := 2, ground := Ground.phase }, { on := 3, ground := Ground.phase }, { on := 4, ground := Ground.phase }, { on := 5, ground := Ground.phase }, { on := 6, ground := Ground.phase }, { on := 7, ground := Ground.phase }, { on := 8, ground := Ground.phase }, { on := 9, ground := Ground.phase }, { on := 10, ground := Ground.phase }, { on := 11, ground := Ground.phase }, { on := 12, ground := Ground.phase }, { on := 13, ground := Ground.phase }, { on := 14, ground := Ground.phase }, { on := 15, ground := Ground.phase }, { on := 16, ground := Ground.phase }, { on := 17, ground := Ground.phase }], guard := none }) (v := ?_) rfl (by kernel_rfl) (by kernel_rfl) (by kernel_rfl) (fun _ _ _ h => h) (Or.inl ⟨by rfl, ?_⟩) hHeld ?_
                    rotate_left
                    · intro w9 hSw
                      (try dsimp only at hSw)
                      go_simp <;> with_reducible rfl
                    (try simp only [Act.put, List.setIfInBounds_toArray, List.set_cons_zero, List.set_cons_succ])
                    refine wpAnyH_done (by kernel_rfl) ?_ _
                    clear hHeld
                    go_wp2_with fail
                    go_meet
                    case rel => exact ⟨rfl, s4⟩
                · go_simp
                  go_wp2
                  have b := below1 V13 (.cells (#[.int .u8 0, .int .i64 0, .int .u8 0, .int .u8 0, .int .u32 0, .int .u8 0, .int .i64 0, .int .u8 0, .int .u32 0, .int .u8 0, .int .i64 0, .int .i64 0, .int .u8 0, .int .u32 0, .int .u8 0, .int .i64 0, .int .u8 0, .int .u32 0, .slice none 0 0, .int .i64 0, .int .i64 0, .int .u8 0, .int .u32 0, .bool false]) 40)
                  obtain ⟨g20, hg20, T20⟩ : ∃ g, V13.heap.size = g ∧ TrF W (V13.alloc (.cells (#[.int .u8 0, .int .i64 0, .int .u8 0, .int .u8 0, .int .u32 0, .int .u8 0, .int .i64 0, .int .u8 0, .int .u32 0, .int .u8 0, .int .i64 0, .int .i64 0, .int .u8 0, .int .u32 0, .int .u8 0, .int .i64 0, .int .u8 0, .int .u32 0, .slice none 0 0, .int .i64 0, .int .i64 0, .int .u8 0, .int .u32 0, .bool false]) 40)) g := ⟨_, rfl, trf_new s⟩
                  have hne : g20 ≠ g21 := by have := T21.lt; omega
                  replace T21 := T21.keep b
                  replace cp6 := cp6.keep b
                  replace s := below_in s b
                  clear b
                  rw [hg20]
                  generalize World.alloc V13 _ = V16 at s T20 T21 cp6 ⊢
                  clear hg20
                  refine hK.out _ _ s (fun hHeld => ?_)
                  clear hK K
                  refine wpAnyH_ready (rs := [9]) (by kernel_rfl) (by simp) ?_
                  refine AllReadyH.cons rfl (fun K hK => ?_) AllReadyH.nil
                  · go_simp
                    go_wp2_with (go_at_call 7; refine (rec_get_of A6 (n2 - 1) c6 (l.take k ++ l.drop (k + 1)) HLC (by omega) _ cp6.rd).mono ?_; rintro e V17 ⟨r3, A3, k3, c3, s3, t3, i3, f3, j3, rfl, hg3, hk3, ho3, b⟩)
                    obtain ⟨-, -, -, -, -, e3⟩ := got_not HNC.out hg3
                    subst e3
                    clear hg3 hk3 ho3 cp6
                    replace T20 := T20.keep b
                    replace T21 := T21.keep b
                    replace s := below_in s b
                    clear b
                    refine hK.out _ _ s (fun hHeld => ?_)
                    clear hK K
                    refine wpAnyH_take (i := 10) (oi := { dst := some 128, op := Op.move (Operand.tmp 138), type := 43, pos := "outright.go:77", after := #[{ on := 9, ground := Ground.data }], guard := none }) (v := ?_) rfl (by kernel_rfl) (by kernel_rfl) (by kernel_rfl) (fun _ _ _ h => h) (Or.inl ⟨by rfl, ?_⟩) hHeld ?_
                    rotate_left
                    · intro w9 hSw
                      (try dsimp only at hSw)
                      go_simp <;> with_reducible rfl
                    (try simp only [Act.put, List.setIfInBounds_toArray, List.set_cons_zero, List.set_cons_succ])
                    refine wpAnyH_take (i := 11) (oi := { dst := some 139, op := Op.extract (Operand.tmp 128) 0, type := 40, pos := "outright.go:77", after := #[{ on := 10, ground := Ground.data }], guard := none }) (v := ?_) rfl (by kernel_rfl) (by kernel_rfl) (by kernel_rfl) (fun _ _ _ h => h) (Or.inl ⟨by rfl, ?_⟩) hHeld ?_
                    rotate_left
                    · intro w9 hSw
                      (try dsimp only at hSw)
                      go_simp <;> with_reducible rfl
                    (try simp only [Act.put, List.setIfInBounds_toArray, List.set_cons_zero, List.set_cons_succ])
                    refine wpAnyH_take (i := 12) (oi := { dst := some 140, op := Op.extract (Operand.tmp 128) 1, type := 42, pos := "outright.go:77", after := #[{ on := 10, ground := Ground.data }, { on := 16, ground := Ground.gcOnly Departure.lateStores }], guard := none }) (v := ?_) rfl (by kernel_rfl) (by kernel_rfl) (by kernel_rfl) (fun _ _ _ h => h) (Or.inl ⟨by rfl, ?_⟩) hHeld ?_
                    rotate_left
                    · intro w9 hSw
                      (try dsimp only at hSw)
                      go_simp <;> with_reducible rfl
                    (try simp only [Act.put, List.setIfInBounds_toArray, List.set_cons_zero, List.set_cons_succ])
                    refine wpAnyH_take (i := 13) (oi := { dst := some 141, op := Op.extract (Operand.tmp 128) 2, type := 34, pos := "outright.go:77", after := #[{ on := 10, ground := Ground.data }, { on := 17, ground := Ground.gcOnly Departure.lateStores }], guard := none }) (v := ?_) rfl (by kernel_rfl) (by kernel_rfl) (by kernel_rfl) (fun _ _ _ h => h) (Or.inl ⟨by rfl, ?_⟩) hHeld ?_
                    rotate_left
                    · intro w9 hSw
                      (try dsimp only at hSw)
                      go_simp <;> with_reducible rfl
                    (try simp only [Act.put, List.setIfInBounds_toArray, List.set_cons_zero, List.set_cons_succ])
                    refine wpAnyH_ready (rs := [16]) (by kernel_rfl) (by simp) ?_
                    refine AllReadyH.cons rfl (fun K hK => ?_) AllReadyH.nil
                    rw [if_pos (by rfl)]
                    refine wp_store_mid 40 (.tmp 20) (.tmp 139) rfl g20 0 (#[.int .u8 r3.kd, .int .i64 r3.us, .int .u8 r3.op.kd, .int .u8 r3.op.l, .int .u32 r3.op.c, .int .u8 r3.op.k, .int .i64 r3.op.s, .int .u8 r3.op.fl, .int .u32 r3.op.fc, .int .u8 r3.op.fk, .int .i64 r3.op.fn, .int .i64 r3.op.fm, .int .u8 r3.op.al, .int .u32 r3.op.ac, .int .u8 r3.op.ak, .int .i64 r3.op.an, .int .u8 r3.op.tl, .int .u32 r3.op.tc, .slice A3 k3 c3, .int .i64 r3.co, .int .i64 r3.gr.u, .int .u8 r3.gr.l, .int .u32 r3.gr.c, .bool r3.gr.ok]) rfl rfl T20.th info_R (by simp [Value.oneCell']) ?_
                    (try simp only [Act.put, List.setIfInBounds_toArray, List.set_cons_zero, List.set_cons_succ])
                    have s2 := s.trans (below_setCells g20 W.heap.size T20.ge ([.int .u8 r3.kd, .int .i64 r3.us, .int .u8 r3.op.kd, .int .u8 r3.op.l, .int .u32 r3.op.c, .int .u8 r3.op.k, .int .i64 r3.op.s, .int .u8 r3.op.fl, .int .u32 r3.op.fc, .int .u8 r3.op.fk, .int .i64 r3.op.fn, .int .i64 r3.op.fm, .int .u8 r3.op.al, .int .u32 r3.op.ac, .int .u8 r3.op.ak, .int .i64 r3.op.an, .int .u8 r3.op.tl, .int .u32 r3.op.tc, .slice A3 k3 c3, .int .i64 r3.co, .int .i64 r3.gr.u, .int .u8 r3.gr.l, .int .u32 r3.gr.c, .bool r3.gr.ok]) 0 _)
                    have T22 := T21.put (vs := ([.int .u8 r3.kd, .int .i64 r3.us, .int .u8 r3.op.kd, .int .u8 r3.op.l, .int .u32 r3.op.c, .int .u8 r3.op.k, .int .i64 r3.op.s, .int .u8 r3.op.fl, .int .u32 r3.op.fc, .int .u8 r3.op.fk, .int .i64 r3.op.fn, .int .i64 r3.op.fm, .int .u8 r3.op.al, .int .u32 r3.op.ac, .int .u8 r3.op.ak, .int .i64 r3.op.an, .int .u8 r3.op.tl, .int .u32 r3.op.tc, .slice A3 k3 c3, .int .i64 r3.co, .int .i64 r3.gr.u, .int .u8 r3.gr.l, .int .u32 r3.gr.c, .bool r3.gr.ok])) hne
                    generalize World.setCells _ g20 0 _ = X2 at s2 T22 ⊢
                    refine hK.out _ _ s2 (fun hHeld => ?_)
                    clear hK K
                    refine wpAnyH_ready (rs := [17]) (by kernel_rfl) (by simp) ?_
                    refine AllReadyH.cons rfl (fun K hK => ?_) AllReadyH.nil
                    rw [if_pos (by rfl)]
                    refine wp_store_mid 42 (.tmp 21) (.tmp 140) rfl g21 0 (#[.int .i64 s3, .int .i64 t3, .int .i64 i3, .int .i64 f3]) rfl rfl T22.th info_D (by simp [Value.oneCell']) ?_
                    (try simp only [Act.put, List.setIfInBounds_toArray, List.set_cons_zero, List.set_cons_succ])
                    have s4 := s2.trans (below_setCells g21 W.heap.size T22.ge ([.int .i64 s3, .int .i64 t3, .int .i64 i3, .int .i64 f3]) 0 _)
                    generalize World.setCells _ g21 0 _ = X3 at s4 ⊢
                    refine hK.out _ _ s4 (fun hHeld => ?_)
                    clear hK K
                    refine wpAnyH_take (i := 18) (oi := { dst := some 22, op := Op.assign (Operand.tmp 141), type := 34, pos := "outright.go:77", after := #[{ on := 13, ground := Ground.data }, { on := 17, ground := Ground.chain }, { on := 0, ground := Ground.phase }, { on := 1, ground := Ground.phase }, { on := 2, ground := Ground.phase }, { on := 3, ground := Ground.phase }, { on := 4, ground := Ground.phase }, { on := 5, ground := Ground.phase }, { on := 6, ground := Ground.phase }, { on := 7, ground := Ground.phase }, { on := 8, ground := Ground.phase }, { on := 9, ground := Ground.phase }, { on := 10, ground := Ground.phase }, { on := 11, ground := Ground.phase }, { on := 12, ground := Ground.phase }, { on := 13, ground := Ground.phase }, { on := 14, ground := Ground.phase }, { on := 15, ground := Ground.phase }, { on := 16, ground := Ground.phase }, { on := 17, ground := Ground.phase }], guard := none }) (v := ?_) rfl (by kernel_rfl) (by kernel_rfl) (by kernel_rfl) (fun _ _ _ h => h) (Or.inl ⟨by rfl, ?_⟩) hHeld ?_
                    rotate_left
                    · intro w9 hSw
                      (try dsimp only at hSw)
                      go_simp <;> with_reducible rfl
                    (try simp only [Act.put, List.setIfInBounds_toArray, List.set_cons_zero, List.set_cons_succ])
                    refine wpAnyH_done (by kernel_rfl) ?_ _
                    clear hHeld
                    go_wp2_with fail
                    go_meet
                    case rel => exact ⟨rfl, s4⟩
            · go_simp
              go_wp2
              have b := below1 V1 (.cells (#[.int .u8 0, .int .i64 0, .int .u8 0, .int .u8 0, .int .u32 0, .int .u8 0, .int .i64 0, .int .u8 0, .int .u32 0, .int .u8 0, .int .i64 0, .int .i64 0, .int .u8 0, .int .u32 0, .int .u8 0, .int .i64 0, .int .u8 0, .int .u32 0, .slice none 0 0, .int .i64 0, .int .i64 0, .int .u8 0, .int .u32 0, .bool false]) 40)
              obtain ⟨g20, hg20, T20⟩ : ∃ g, V1.heap.size = g ∧ TrF W (V1.alloc (.cells (#[.int .u8 0, .int .i64 0, .int .u8 0, .int .u8 0, .int .u32 0, .int .u8 0, .int .i64 0, .int .u8 0, .int .u32 0, .int .u8 0, .int .i64 0, .int .i64 0, .int .u8 0, .int .u32 0, .int .u8 0, .int .i64 0, .int .u8 0, .int .u32 0, .slice none 0 0, .int .i64 0, .int .i64 0, .int .u8 0, .int .u32 0, .bool false]) 40)) g := ⟨_, rfl, trf_new s⟩
              replace cp := cp.keep b
              replace s := below_in s b
              clear b
              rw [hg20]
              generalize World.alloc V1 _ = V18 at s T20 cp ⊢
              clear hg20
              refine hK.out _ _ s (fun hHeld => ?_)
              clear hK K
              refine wpAnyH_ready (rs := [8, 15]) (by kernel_rfl) (by simp) ?_
              refine AllReadyH.cons rfl (fun K hK => ?_) (AllReadyH.cons rfl (fun K hK => ?_) AllReadyH.nil)
              · refine step_append_c (w0 := W) rfl (.tmp 132) (.tmp 136) rfl rfl A5 k c5 (l.take k) HLT rfl cp D (n2 - (k + 1)) (c2 - (k + 1)) (l.drop (k + 1)) HLD rfl HRD.out (by omega) ?_
                intro A6 c6 V19 cp6 nr
                replace T20 := T20.keepn nr
                clear nr
                replace s := cp6.be
                rw [show k + (n2 - (k + 1)) = n2 - 1 by omega]
                clear cp
                refine hK.out _ _ s (fun hHeld => ?_)
                clear hK K
                refine wpAnyH_ready (rs := [9, 15]) (by kernel_rfl) (by simp) ?_
                refine AllReadyH.cons rfl (fun K hK => ?_) (AllReadyH.cons rfl (fun K hK => ?_) AllReadyH.nil)
                · go_simp
                  go_wp2_with (go_at_call 7; refine (rec_get_of A6 (n2 - 1) c6 (l.take k ++ l.drop (k + 1)) HLC (by omega) _ cp6.rd).mono ?_; rintro e V20 ⟨r3, A3, k3, c3, s3, t3, i3, f3, j3, rfl, hg3, hk3, ho3, b⟩)
                  obtain ⟨-, -, -, -, -, e3⟩ := got_not HNC.out hg3
                  subst e3
                  clear hg3 hk3 ho3 cp6
                  replace T20 := T20.keep b
                  replace s := below_in s b
                  clear b
                  refine hK.out _ _ s (fun hHeld => ?_)
                  clear hK K
                  refine wpAnyH_take (i := 10) (oi := { dst := some 128, op := Op.move (Operand.tmp 138), type := 43, pos := "outright.go:77", after := #[{ on := 9, ground := Ground.data }], guard := none }) (v := ?_) rfl (by kernel_rfl) (by kernel_rfl) (by kernel_rfl) (fun _ _ _ h => h) (Or.inl ⟨by rfl, ?_⟩) hHeld ?_
                  rotate_left
                  · intro w9 hSw
                    (try dsimp only at hSw)
                    go_simp <;> with_reducible rfl
                  (try simp only [Act.put, List.setIfInBounds_toArray, List.set_cons_zero, List.set_cons_succ])
                  refine wpAnyH_take (i := 11) (oi := { dst := some 139, op := Op.extract (Operand.tmp 128) 0, type := 40, pos := "outright.go:77", after := #[{ on := 10, ground := Ground.data }], guard := none }) (v := ?_) rfl (by kernel_rfl) (by kernel_rfl) (by kernel_rfl) (fun _ _ _ h => h) (Or.inl ⟨by rfl, ?_⟩) hHeld ?_
                  rotate_left
                  · intro w9 hSw
                    (try dsimp only at hSw)
                    go_simp <;> with_reducible rfl
                  (try simp only [Act.put, List.setIfInBounds_toArray, List.set_cons_zero, List.set_cons_succ])
                  refine wpAnyH_take (i := 12) (oi := { dst := some 140, op := Op.extract (Operand.tmp 128) 1, type := 42, pos := "outright.go:77", after := #[{ on := 10, ground := Ground.data }, { on := 16, ground := Ground.gcOnly Departure.lateStores }], guard := none }) (v := ?_) rfl (by kernel_rfl) (by kernel_rfl) (by kernel_rfl) (fun _ _ _ h => h) (Or.inl ⟨by rfl, ?_⟩) hHeld ?_
                  rotate_left
                  · intro w9 hSw
                    (try dsimp only at hSw)
                    go_simp <;> with_reducible rfl
                  (try simp only [Act.put, List.setIfInBounds_toArray, List.set_cons_zero, List.set_cons_succ])
                  refine wpAnyH_take (i := 13) (oi := { dst := some 141, op := Op.extract (Operand.tmp 128) 2, type := 34, pos := "outright.go:77", after := #[{ on := 10, ground := Ground.data }, { on := 17, ground := Ground.gcOnly Departure.lateStores }], guard := none }) (v := ?_) rfl (by kernel_rfl) (by kernel_rfl) (by kernel_rfl) (fun _ _ _ h => h) (Or.inl ⟨by rfl, ?_⟩) hHeld ?_
                  rotate_left
                  · intro w9 hSw
                    (try dsimp only at hSw)
                    go_simp <;> with_reducible rfl
                  (try simp only [Act.put, List.setIfInBounds_toArray, List.set_cons_zero, List.set_cons_succ])
                  refine wpAnyH_ready (rs := [15]) (by kernel_rfl) (by simp) ?_
                  refine AllReadyH.cons rfl (fun K hK => ?_) AllReadyH.nil
                  · go_simp
                    go_wp2
                    have b := below1 V20 (.cells (#[.int .i64 0, .int .i64 0, .int .i64 0, .int .i64 0]) 42)
                    obtain ⟨g21, hg21, T21⟩ : ∃ g, V20.heap.size = g ∧ TdF W (V20.alloc (.cells (#[.int .i64 0, .int .i64 0, .int .i64 0, .int .i64 0]) 42)) g := ⟨_, rfl, tdf_new s⟩
                    have hne : g20 ≠ g21 := by have := T20.lt; omega
                    replace T20 := T20.keep b
                    replace s := below_in s b
                    clear b
                    rw [hg21]
                    generalize World.alloc V20 _ = V21 at s T21 T20 ⊢
                    clear hg21
                    refine hK.out _ _ s (fun hHeld => ?_)
                    clear hK K
                    refine wpAnyH_ready (rs := [16]) (by kernel_rfl) (by simp) ?_
                    refine AllReadyH.cons rfl (fun K hK => ?_) AllReadyH.nil
                    rw [if_pos (by rfl)]
                    refine wp_store_mid 40 (.tmp 20) (.tmp 139) rfl g20 0 (#[.int .u8 r3.kd, .int .i64 r3.us, .int .u8 r3.op.kd, .int .u8 r3.op.l, .int .u32 r3.op.c, .int .u8 r3.op.k, .int .i64 r3.op.s, .int .u8 r3.op.fl, .int .u32 r3.op.fc, .int .u8 r3.op.fk, .int .i64 r3.op.fn, .int .i64 r3.op.fm, .int .u8 r3.op.al, .int .u32 r3.op.ac, .int .u8 r3.op.ak, .int .i64 r3.op.an, .int .u8 r3.op.tl, .int .u32 r3.op.tc, .slice A3 k3 c3, .int .i64 r3.co, .int .i64 r3.gr.u, .int .u8 r3.gr.l, .int .u32 r3.gr.c, .bool r3.gr.ok]) rfl rfl T20.th info_R (by simp [Value.oneCell']) ?_
                    (try simp only [Act.put, List.setIfInBounds_toArray, List.set_cons_zero, List.set_cons_succ])
                    have s2 := s.trans (below_setCells g20 W.heap.size T20.ge ([.int .u8 r3.kd, .int .i64 r3.us, .int .u8 r3.op.kd, .int .u8 r3.op.l, .int .u32 r3.op.c, .int .u8 r3.op.k, .int .i64 r3.op.s, .int .u8 r3.op.fl, .int .u32 r3.op.fc, .int .u8 r3.op.fk, .int .i64 r3.op.fn, .int .i64 r3.op.fm, .int .u8 r3.op.al, .int .u32 r3.op.ac, .int .u8 r3.op.ak, .int .i64 r3.op.an, .int .u8 r3.op.tl, .int .u32 r3.op.tc, .slice A3 k3 c3, .int .i64 r3.co, .int .i64 r3.gr.u, .int .u8 r3.gr.l, .int .u32 r3.gr.c, .bool r3.gr.ok]) 0 _)
                    have T22 := T21.put (vs := ([.int .u8 r3.kd, .int .i64 r3.us, .int .u8 r3.op.kd, .int .u8 r3.op.l, .int .u32 r3.op.c, .int .u8 r3.op.k, .int .i64 r3.op.s, .int .u8 r3.op.fl, .int .u32 r3.op.fc, .int .u8 r3.op.fk, .int .i64 r3.op.fn, .int .i64 r3.op.fm, .int .u8 r3.op.al, .int .u32 r3.op.ac, .int .u8 r3.op.ak, .int .i64 r3.op.an, .int .u8 r3.op.tl, .int .u32 r3.op.tc, .slice A3 k3 c3, .int .i64 r3.co, .int .i64 r3.gr.u, .int .u8 r3.gr.l, .int .u32 r3.gr.c, .bool r3.gr.ok])) hne
                    generalize World.setCells _ g20 0 _ = X2 at s2 T22 ⊢
                    refine hK.out _ _ s2 (fun hHeld => ?_)
                    clear hK K
                    refine wpAnyH_ready (rs := [17]) (by kernel_rfl) (by simp) ?_
                    refine AllReadyH.cons rfl (fun K hK => ?_) AllReadyH.nil
                    rw [if_pos (by rfl)]
                    refine wp_store_mid 42 (.tmp 21) (.tmp 140) rfl g21 0 (#[.int .i64 s3, .int .i64 t3, .int .i64 i3, .int .i64 f3]) rfl rfl T22.th info_D (by simp [Value.oneCell']) ?_
                    (try simp only [Act.put, List.setIfInBounds_toArray, List.set_cons_zero, List.set_cons_succ])
                    have s4 := s2.trans (below_setCells g21 W.heap.size T22.ge ([.int .i64 s3, .int .i64 t3, .int .i64 i3, .int .i64 f3]) 0 _)
                    generalize World.setCells _ g21 0 _ = X3 at s4 ⊢
                    refine hK.out _ _ s4 (fun hHeld => ?_)
                    clear hK K
                    refine wpAnyH_take (i := 18) (oi := { dst := some 22, op := Op.assign (Operand.tmp 141), type := 34, pos := "outright.go:77", after := #[{ on := 13, ground := Ground.data }, { on := 17, ground := Ground.chain }, { on := 0, ground := Ground.phase }, { on := 1, ground := Ground.phase }, { on := 2, ground := Ground.phase }, { on := 3, ground := Ground.phase }, { on := 4, ground := Ground.phase }, { on := 5, ground := Ground.phase }, { on := 6, ground := Ground.phase }, { on := 7, ground := Ground.phase }, { on := 8, ground := Ground.phase }, { on := 9, ground := Ground.phase }, { on := 10, ground := Ground.phase }, { on := 11, ground := Ground.phase }, { on := 12, ground := Ground.phase }, { on := 13, ground := Ground.phase }, { on := 14, ground := Ground.phase }, { on := 15, ground := Ground.phase }, { on := 16, ground := Ground.phase }, { on := 17, ground := Ground.phase }], guard := none }) (v := ?_) rfl (by kernel_rfl) (by kernel_rfl) (by kernel_rfl) (fun _ _ _ h => h) (Or.inl ⟨by rfl, ?_⟩) hHeld ?_
                    rotate_left
                    · intro w9 hSw
                      (try dsimp only at hSw)
                      go_simp <;> with_reducible rfl
                    (try simp only [Act.put, List.setIfInBounds_toArray, List.set_cons_zero, List.set_cons_succ])
                    refine wpAnyH_done (by kernel_rfl) ?_ _
                    clear hHeld
                    go_wp2_with fail
                    go_meet
                    case rel => exact ⟨rfl, s4⟩
                · go_simp
                  go_wp2
                  have b := below1 V19 (.cells (#[.int .i64 0, .int .i64 0, .int .i64 0, .int .i64 0]) 42)
                  obtain ⟨g21, hg21, T21⟩ : ∃ g, V19.heap.size = g ∧ TdF W (V19.alloc (.cells (#[.int .i64 0, .int .i64 0, .int .i64 0, .int .i64 0]) 42)) g := ⟨_, rfl, tdf_new s⟩
                  have hne : g20 ≠ g21 := by have := T20.lt; omega
                  replace T20 := T20.keep b
                  replace cp6 := cp6.keep b
                  replace s := below_in s b
                  clear b
                  rw [hg21]
                  generalize World.alloc V19 _ = V22 at s T21 T20 cp6 ⊢
                  clear hg21
                  refine hK.out _ _ s (fun hHeld => ?_)
                  clear hK K
                  refine wpAnyH_ready (rs := [9]) (by kernel_rfl) (by simp) ?_
                  refine AllReadyH.cons rfl (fun K hK => ?_) AllReadyH.nil
                  · go_simp
                    go_wp2_with (go_at_call 7; refine (rec_get_of A6 (n2 - 1) c6 (l.take k ++ l.drop (k + 1)) HLC (by omega) _ cp6.rd).mono ?_; rintro e V23 ⟨r3, A3, k3, c3, s3, t3, i3, f3, j3, rfl, hg3, hk3, ho3, b⟩)
                    obtain ⟨-, -, -, -, -, e3⟩ := got_not HNC.out hg3
                    subst e3
                    clear hg3 hk3 ho3 cp6
                    replace T20 := T20.keep b
                    replace T21 := T21.keep b
                    replace s := below_in s b
                    clear b
                    refine hK.out _ _ s (fun hHeld => ?_)
                    clear hK K
                    refine wpAnyH_take (i := 10) (oi := { dst := some 128, op := Op.move (Operand.tmp 138), type := 43, pos := "outright.go:77", after := #[{ on := 9, ground := Ground.data }], guard := none }) (v := ?_) rfl (by kernel_rfl) (by kernel_rfl) (by kernel_rfl) (fun _ _ _ h => h) (Or.inl ⟨by rfl, ?_⟩) hHeld ?_
                    rotate_left
                    · intro w9 hSw
                      (try dsimp only at hSw)
                      go_simp <;> with_reducible rfl
                    (try simp only [Act.put, List.setIfInBounds_toArray, List.set_cons_zero, List.set_cons_succ])
                    refine wpAnyH_take (i := 11) (oi := { dst := some 139, op := Op.extract (Operand.tmp 128) 0, type := 40, pos := "outright.go:77", after := #[{ on := 10, ground := Ground.data }], guard := none }) (v := ?_) rfl (by kernel_rfl) (by kernel_rfl) (by kernel_rfl) (fun _ _ _ h => h) (Or.inl ⟨by rfl, ?_⟩) hHeld ?_
                    rotate_left
                    · intro w9 hSw
                      (try dsimp only at hSw)
                      go_simp <;> with_reducible rfl
                    (try simp only [Act.put, List.setIfInBounds_toArray, List.set_cons_zero, List.set_cons_succ])
                    refine wpAnyH_take (i := 12) (oi := { dst := some 140, op := Op.extract (Operand.tmp 128) 1, type := 42, pos := "outright.go:77", after := #[{ on := 10, ground := Ground.data }, { on := 16, ground := Ground.gcOnly Departure.lateStores }], guard := none }) (v := ?_) rfl (by kernel_rfl) (by kernel_rfl) (by kernel_rfl) (fun _ _ _ h => h) (Or.inl ⟨by rfl, ?_⟩) hHeld ?_
                    rotate_left
                    · intro w9 hSw
                      (try dsimp only at hSw)
                      go_simp <;> with_reducible rfl
                    (try simp only [Act.put, List.setIfInBounds_toArray, List.set_cons_zero, List.set_cons_succ])
                    refine wpAnyH_take (i := 13) (oi := { dst := some 141, op := Op.extract (Operand.tmp 128) 2, type := 34, pos := "outright.go:77", after := #[{ on := 10, ground := Ground.data }, { on := 17, ground := Ground.gcOnly Departure.lateStores }], guard := none }) (v := ?_) rfl (by kernel_rfl) (by kernel_rfl) (by kernel_rfl) (fun _ _ _ h => h) (Or.inl ⟨by rfl, ?_⟩) hHeld ?_
                    rotate_left
                    · intro w9 hSw
                      (try dsimp only at hSw)
                      go_simp <;> with_reducible rfl
                    (try simp only [Act.put, List.setIfInBounds_toArray, List.set_cons_zero, List.set_cons_succ])
                    refine wpAnyH_ready (rs := [16]) (by kernel_rfl) (by simp) ?_
                    refine AllReadyH.cons rfl (fun K hK => ?_) AllReadyH.nil
                    rw [if_pos (by rfl)]
                    refine wp_store_mid 40 (.tmp 20) (.tmp 139) rfl g20 0 (#[.int .u8 r3.kd, .int .i64 r3.us, .int .u8 r3.op.kd, .int .u8 r3.op.l, .int .u32 r3.op.c, .int .u8 r3.op.k, .int .i64 r3.op.s, .int .u8 r3.op.fl, .int .u32 r3.op.fc, .int .u8 r3.op.fk, .int .i64 r3.op.fn, .int .i64 r3.op.fm, .int .u8 r3.op.al, .int .u32 r3.op.ac, .int .u8 r3.op.ak, .int .i64 r3.op.an, .int .u8 r3.op.tl, .int .u32 r3.op.tc, .slice A3 k3 c3, .int .i64 r3.co, .int .i64 r3.gr.u, .int .u8 r3.gr.l, .int .u32 r3.gr.c, .bool r3.gr.ok]) rfl rfl T20.th info_R (by simp [Value.oneCell']) ?_
                    (try simp only [Act.put, List.setIfInBounds_toArray, List.set_cons_zero, List.set_cons_succ])
                    have s2 := s.trans (below_setCells g20 W.heap.size T20.ge ([.int .u8 r3.kd, .int .i64 r3.us, .int .u8 r3.op.kd, .int .u8 r3.op.l, .int .u32 r3.op.c, .int .u8 r3.op.k, .int .i64 r3.op.s, .int .u8 r3.op.fl, .int .u32 r3.op.fc, .int .u8 r3.op.fk, .int .i64 r3.op.fn, .int .i64 r3.op.fm, .int .u8 r3.op.al, .int .u32 r3.op.ac, .int .u8 r3.op.ak, .int .i64 r3.op.an, .int .u8 r3.op.tl, .int .u32 r3.op.tc, .slice A3 k3 c3, .int .i64 r3.co, .int .i64 r3.gr.u, .int .u8 r3.gr.l, .int .u32 r3.gr.c, .bool r3.gr.ok]) 0 _)
                    have T22 := T21.put (vs := ([.int .u8 r3.kd, .int .i64 r3.us, .int .u8 r3.op.kd, .int .u8 r3.op.l, .int .u32 r3.op.c, .int .u8 r3.op.k, .int .i64 r3.op.s, .int .u8 r3.op.fl, .int .u32 r3.op.fc, .int .u8 r3.op.fk, .int .i64 r3.op.fn, .int .i64 r3.op.fm, .int .u8 r3.op.al, .int .u32 r3.op.ac, .int .u8 r3.op.ak, .int .i64 r3.op.an, .int .u8 r3.op.tl, .int .u32 r3.op.tc, .slice A3 k3 c3, .int .i64 r3.co, .int .i64 r3.gr.u, .int .u8 r3.gr.l, .int .u32 r3.gr.c, .bool r3.gr.ok])) hne
                    generalize World.setCells _ g20 0 _ = X2 at s2 T22 ⊢
                    refine hK.out _ _ s2 (fun hHeld => ?_)
                    clear hK K
                    refine wpAnyH_ready (rs := [17]) (by kernel_rfl) (by simp) ?_
                    refine AllReadyH.cons rfl (fun K hK => ?_) AllReadyH.nil
                    rw [if_pos (by rfl)]
                    refine wp_store_mid 42 (.tmp 21) (.tmp 140) rfl g21 0 (#[.int .i64 s3, .int .i64 t3, .int .i64 i3, .int .i64 f3]) rfl rfl T22.th info_D (by simp [Value.oneCell']) ?_
                    (try simp only [Act.put, List.setIfInBounds_toArray, List.set_cons_zero, List.set_cons_succ])
                    have s4 := s2.trans (below_setCells g21 W.heap.size T22.ge ([.int .i64 s3, .int .i64 t3, .int .i64 i3, .int .i64 f3]) 0 _)
                    generalize World.setCells _ g21 0 _ = X3 at s4 ⊢
                    refine hK.out _ _ s4 (fun hHeld => ?_)
                    clear hK K
                    refine wpAnyH_take (i := 18) (oi := { dst := some 22, op := Op.assign (Operand.tmp 141), type := 34, pos := "outright.go:77", after := #[{ on := 13, ground := Ground.data }, { on := 17, ground := Ground.chain }, { on := 0, ground := Ground.phase }, { on := 1, ground := Ground.phase }, { on := 2, ground := Ground.phase }, { on := 3, ground := Ground.phase }, { on := 4, ground := Ground.phase }, { on := 5, ground := Ground.phase }, { on := 6, ground := Ground.phase }, { on := 7, ground := Ground.phase }, { on := 8, ground := Ground.phase }, { on := 9, ground := Ground.phase }, { on := 10, ground := Ground.phase }, { on := 11, ground := Ground.phase }, { on := 12, ground := Ground.phase }, { on := 13, ground := Ground.phase }, { on := 14, ground := Ground.phase }, { on := 15, ground := Ground.phase }, { on := 16, ground := Ground.phase }, { on := 17, ground := Ground.phase }], guard := none }) (v := ?_) rfl (by kernel_rfl) (by kernel_rfl) (by kernel_rfl) (fun _ _ _ h => h) (Or.inl ⟨by rfl, ?_⟩) hHeld ?_
                    rotate_left
                    · intro w9 hSw
                      (try dsimp only at hSw)
                      go_simp <;> with_reducible rfl
                    (try simp only [Act.put, List.setIfInBounds_toArray, List.set_cons_zero, List.set_cons_succ])
                    refine wpAnyH_done (by kernel_rfl) ?_ _
                    clear hHeld
                    go_wp2_with fail
                    go_meet
                    case rel => exact ⟨rfl, s4⟩
              · go_simp
                go_wp2
                have b := below1 V18 (.cells (#[.int .i64 0, .int .i64 0, .int .i64 0, .int .i64 0]) 42)
                obtain ⟨g21, hg21, T21⟩ : ∃ g, V18.heap.size = g ∧ TdF W (V18.alloc (.cells (#[.int .i64 0, .int .i64 0, .int .i64 0, .int .i64 0]) 42)) g := ⟨_, rfl, tdf_new s⟩
                have hne : g20 ≠ g21 := by have := T20.lt; omega
                replace T20 := T20.keep b
                replace cp := cp.keep b
                replace s := below_in s b
                clear b
                rw [hg21]
                generalize World.alloc V18 _ = V24 at s T21 T20 cp ⊢
                clear hg21
                refine hK.out _ _ s (fun hHeld => ?_)
                clear hK K
                refine wpAnyH_ready (rs := [8]) (by kernel_rfl) (by simp) ?_
                refine AllReadyH.cons rfl (fun K hK => ?_) AllReadyH.nil
                · refine step_append_c (w0 := W) rfl (.tmp 132) (.tmp 136) rfl rfl A5 k c5 (l.take k) HLT rfl cp D (n2 - (k + 1)) (c2 - (k + 1)) (l.drop (k + 1)) HLD rfl HRD.out (by omega) ?_
                  intro A6 c6 V25 cp6 nr
                  replace T20 := T20.keepn nr
                  replace T21 := T21.keepn nr
                  clear nr
                  replace s := cp6.be
                  rw [show k + (n2 - (k + 1)) = n2 - 1 by omega]
                  clear cp
                  refine hK.out _ _ s (fun hHeld => ?_)
                  clear hK K
                  refine wpAnyH_ready (rs := [9]) (by kernel_rfl) (by simp) ?_
                  refine AllReadyH.cons rfl (fun K hK => ?_) AllReadyH.nil
                  · go_simp
                    go_wp2_with (go_at_call 7; refine (rec_get_of A6 (n2 - 1) c6 (l.take k ++ l.drop (k + 1)) HLC (by omega) _ cp6.rd).mono ?_; rintro e V26 ⟨r3, A3, k3, c3, s3, t3, i3, f3, j3, rfl, hg3, hk3, ho3, b⟩)
                    obtain ⟨-, -, -, -, -, e3⟩ := got_not HNC.out hg3
                    subst e3
                    clear hg3 hk3 ho3 cp6
                    replace T20 := T20.keep b
                    replace T21 := T21.keep b
                    replace s := below_in s b
                    clear b
                    refine hK.out _ _ s (fun hHeld => ?_)
                    clear hK K
                    refine wpAnyH_take (i := 10) (oi := { dst := some 128, op := Op.move (Operand.tmp 138), type := 43, pos := "outright.go:77", after := #[{ on := 9, ground := Ground.data }], guard := none }) (v := ?_) rfl (by kernel_rfl) (by kernel_rfl) (by kernel_rfl) (fun _ _ _ h => h) (Or.inl ⟨by rfl, ?_⟩) hHeld ?_
                    rotate_left
                    · intro w9 hSw
                      (try dsimp only at hSw)
                      go_simp <;> with_reducible rfl
                    (try simp only [Act.put, List.setIfInBounds_toArray, List.set_cons_zero, List.set_cons_succ])
                    refine wpAnyH_take (i := 11) (oi := { dst := some 139, op := Op.extract (Operand.tmp 128) 0, type := 40, pos := "outright.go:77", after := #[{ on := 10, ground := Ground.data }], guard := none }) (v := ?_) rfl (by kernel_rfl) (by kernel_rfl) (by kernel_rfl) (fun _ _ _ h => h) (Or.inl ⟨by rfl, ?_⟩) hHeld ?_
                    rotate_left
                    · intro w9 hSw
                      (try dsimp only at hSw)
                      go_simp <;> with_reducible rfl
                    (try simp only [Act.put, List.setIfInBounds_toArray, List.set_cons_zero, List.set_cons_succ])
                    refine wpAnyH_take (i := 12) (oi := { dst := some 140, op := Op.extract (Operand.tmp 128) 1, type := 42, pos := "outright.go:77", after := #[{ on := 10, ground := Ground.data }, { on := 16, ground := Ground.gcOnly Departure.lateStores }], guard := none }) (v := ?_) rfl (by kernel_rfl) (by kernel_rfl) (by kernel_rfl) (fun _ _ _ h => h) (Or.inl ⟨by rfl, ?_⟩) hHeld ?_
                    rotate_left
                    · intro w9 hSw
                      (try dsimp only at hSw)
                      go_simp <;> with_reducible rfl
                    (try simp only [Act.put, List.setIfInBounds_toArray, List.set_cons_zero, List.set_cons_succ])
                    refine wpAnyH_take (i := 13) (oi := { dst := some 141, op := Op.extract (Operand.tmp 128) 2, type := 34, pos := "outright.go:77", after := #[{ on := 10, ground := Ground.data }, { on := 17, ground := Ground.gcOnly Departure.lateStores }], guard := none }) (v := ?_) rfl (by kernel_rfl) (by kernel_rfl) (by kernel_rfl) (fun _ _ _ h => h) (Or.inl ⟨by rfl, ?_⟩) hHeld ?_
                    rotate_left
                    · intro w9 hSw
                      (try dsimp only at hSw)
                      go_simp <;> with_reducible rfl
                    (try simp only [Act.put, List.setIfInBounds_toArray, List.set_cons_zero, List.set_cons_succ])
                    refine wpAnyH_ready (rs := [16]) (by kernel_rfl) (by simp) ?_
                    refine AllReadyH.cons rfl (fun K hK => ?_) AllReadyH.nil
                    rw [if_pos (by rfl)]
                    refine wp_store_mid 40 (.tmp 20) (.tmp 139) rfl g20 0 (#[.int .u8 r3.kd, .int .i64 r3.us, .int .u8 r3.op.kd, .int .u8 r3.op.l, .int .u32 r3.op.c, .int .u8 r3.op.k, .int .i64 r3.op.s, .int .u8 r3.op.fl, .int .u32 r3.op.fc, .int .u8 r3.op.fk, .int .i64 r3.op.fn, .int .i64 r3.op.fm, .int .u8 r3.op.al, .int .u32 r3.op.ac, .int .u8 r3.op.ak, .int .i64 r3.op.an, .int .u8 r3.op.tl, .int .u32 r3.op.tc, .slice A3 k3 c3, .int .i64 r3.co, .int .i64 r3.gr.u, .int .u8 r3.gr.l, .int .u32 r3.gr.c, .bool r3.gr.ok]) rfl rfl T20.th info_R (by simp [Value.oneCell']) ?_
                    (try simp only [Act.put, List.setIfInBounds_toArray, List.set_cons_zero, List.set_cons_succ])
                    have s2 := s.trans (below_setCells g20 W.heap.size T20.ge ([.int .u8 r3.kd, .int .i64 r3.us, .int .u8 r3.op.kd, .int .u8 r3.op.l, .int .u32 r3.op.c, .int .u8 r3.op.k, .int .i64 r3.op.s, .int .u8 r3.op.fl, .int .u32 r3.op.fc, .int .u8 r3.op.fk, .int .i64 r3.op.fn, .int .i64 r3.op.fm, .int .u8 r3.op.al, .int .u32 r3.op.ac, .int .u8 r3.op.ak, .int .i64 r3.op.an, .int .u8 r3.op.tl, .int .u32 r3.op.tc, .slice A3 k3 c3, .int .i64 r3.co, .int .i64 r3.gr.u, .int .u8 r3.gr.l, .int .u32 r3.gr.c, .bool r3.gr.ok]) 0 _)
                    have T22 := T21.put (vs := ([.int .u8 r3.kd, .int .i64 r3.us, .int .u8 r3.op.kd, .int .u8 r3.op.l, .int .u32 r3.op.c, .int .u8 r3.op.k, .int .i64 r3.op.s, .int .u8 r3.op.fl, .int .u32 r3.op.fc, .int .u8 r3.op.fk, .int .i64 r3.op.fn, .int .i64 r3.op.fm, .int .u8 r3.op.al, .int .u32 r3.op.ac, .int .u8 r3.op.ak, .int .i64 r3.op.an, .int .u8 r3.op.tl, .int .u32 r3.op.tc, .slice A3 k3 c3, .int .i64 r3.co, .int .i64 r3.gr.u, .int .u8 r3.gr.l, .int .u32 r3.gr.c, .bool r3.gr.ok])) hne
                    generalize World.setCells _ g20 0 _ = X2 at s2 T22 ⊢
                    refine hK.out _ _ s2 (fun hHeld => ?_)
                    clear hK K
                    refine wpAnyH_ready (rs := [17]) (by kernel_rfl) (by simp) ?_
                    refine AllReadyH.cons rfl (fun K hK => ?_) AllReadyH.nil
                    rw [if_pos (by rfl)]
                    refine wp_store_mid 42 (.tmp 21) (.tmp 140) rfl g21 0 (#[.int .i64 s3, .int .i64 t3, .int .i64 i3, .int .i64 f3]) rfl rfl T22.th info_D (by simp [Value.oneCell']) ?_
                    (try simp only [Act.put, List.setIfInBounds_toArray, List.set_cons_zero, List.set_cons_succ])
                    have s4 := s2.trans (below_setCells g21 W.heap.size T22.ge ([.int .i64 s3, .int .i64 t3, .int .i64 i3, .int .i64 f3]) 0 _)
                    generalize World.setCells _ g21 0 _ = X3 at s4 ⊢
                    refine hK.out _ _ s4 (fun hHeld => ?_)
                    clear hK K
                    refine wpAnyH_take (i := 18) (oi := { dst := some 22, op := Op.assign (Operand.tmp 141), type := 34, pos := "outright.go:77", after := #[{ on := 13, ground := Ground.data }, { on := 17, ground := Ground.chain }, { on := 0, ground := Ground.phase }, { on := 1, ground := Ground.phase }, { on := 2, ground := Ground.phase }, { on := 3, ground := Ground.phase }, { on := 4, ground := Ground.phase }, { on := 5, ground := Ground.phase }, { on := 6, ground := Ground.phase }, { on := 7, ground := Ground.phase }, { on := 8, ground := Ground.phase }, { on := 9, ground := Ground.phase }, { on := 10, ground := Ground.phase }, { on := 11, ground := Ground.phase }, { on := 12, ground := Ground.phase }, { on := 13, ground := Ground.phase }, { on := 14, ground := Ground.phase }, { on := 15, ground := Ground.phase }, { on := 16, ground := Ground.phase }, { on := 17, ground := Ground.phase }], guard := none }) (v := ?_) rfl (by kernel_rfl) (by kernel_rfl) (by kernel_rfl) (fun _ _ _ h => h) (Or.inl ⟨by rfl, ?_⟩) hHeld ?_
                    rotate_left
                    · intro w9 hSw
                      (try dsimp only at hSw)
                      go_simp <;> with_reducible rfl
                    (try simp only [Act.put, List.setIfInBounds_toArray, List.set_cons_zero, List.set_cons_succ])
                    refine wpAnyH_done (by kernel_rfl) ?_ _
                    clear hHeld
                    go_wp2_with fail
                    go_meet
                    case rel => exact ⟨rfl, s4⟩
            · go_simp
              go_wp2
              have b := below1 V1 (.cells (#[.int .i64 0, .int .i64 0, .int .i64 0, .int .i64 0]) 42)
              obtain ⟨g21, hg21, T21⟩ : ∃ g, V1.heap.size = g ∧ TdF W (V1.alloc (.cells (#[.int .i64 0, .int .i64 0, .int .i64 0, .int .i64 0]) 42)) g := ⟨_, rfl, tdf_new s⟩
              replace cp := cp.keep b
              replace s := below_in s b
              clear b
              rw [hg21]
              generalize World.alloc V1 _ = V27 at s T21 cp ⊢
              clear hg21
              refine hK.out _ _ s (fun hHeld => ?_)
              clear hK K
              refine wpAnyH_ready (rs := [8, 14]) (by kernel_rfl) (by simp) ?_
              refine AllReadyH.cons rfl (fun K hK => ?_) (AllReadyH.cons rfl (fun K hK => ?_) AllReadyH.nil)
              · refine step_append_c (w0 := W) rfl (.tmp 132) (.tmp 136) rfl rfl A5 k c5 (l.take k) HLT rfl cp D (n2 - (k + 1)) (c2 - (k + 1)) (l.drop (k + 1)) HLD rfl HRD.out (by omega) ?_
                intro A6 c6 V28 cp6 nr
                replace T21 := T21.keepn nr
                clear nr
                replace s := cp6.be
                rw [show k + (n2 - (k + 1)) = n2 - 1 by omega]
                clear cp
                refine hK.out _ _ s (fun hHeld => ?_)
                clear hK K
                refine wpAnyH_ready (rs := [9, 14]) (by kernel_rfl) (by simp) ?_
                refine AllReadyH.cons rfl (fun K hK => ?_) (AllReadyH.cons rfl (fun K hK => ?_) AllReadyH.nil)
                · go_simp
                  go_wp2_with (go_at_call 7; refine (rec_get_of A6 (n2 - 1) c6 (l.take k ++ l.drop (k + 1)) HLC (by omega) _ cp6.rd).mono ?_; rintro e V29 ⟨r3, A3, k3, c3, s3, t3, i3, f3, j3, rfl, hg3, hk3, ho3, b⟩)
                  obtain ⟨-, -, -, -, -, e3⟩ := got_not HNC.out hg3
                  subst e3
                  clear hg3 hk3 ho3 cp6
                  replace T21 := T21.keep b
                  replace s := below_in s b
                  clear b
                  refine hK.out _ _ s (fun hHeld => ?_)
                  clear hK K
                  refine wpAnyH_take (i := 10) (oi := { dst := some 128, op := Op.move (Operand.tmp 138), type := 43, pos := "outright.go:77", after := #[{ on := 9, ground := Ground.data }], guard := none }) (v := ?_) rfl (by kernel_rfl) (by kernel_rfl) (by kernel_rfl) (fun _ _ _ h => h) (Or.inl ⟨by rfl, ?_⟩) hHeld ?_
                  rotate_left
                  · intro w9 hSw
                    (try dsimp only at hSw)
                    go_simp <;> with_reducible rfl
                  (try simp only [Act.put, List.setIfInBounds_toArray, List.set_cons_zero, List.set_cons_succ])
                  refine wpAnyH_take (i := 11) (oi := { dst := some 139, op := Op.extract (Operand.tmp 128) 0, type := 40, pos := "outright.go:77", after := #[{ on := 10, ground := Ground.data }], guard := none }) (v := ?_) rfl (by kernel_rfl) (by kernel_rfl) (by kernel_rfl) (fun _ _ _ h => h) (Or.inl ⟨by rfl, ?_⟩) hHeld ?_
                  rotate_left
                  · intro w9 hSw
                    (try dsimp only at hSw)
                    go_simp <;> with_reducible rfl
                  (try simp only [Act.put, List.setIfInBounds_toArray, List.set_cons_zero, List.set_cons_succ])
                  refine wpAnyH_take (i := 12) (oi := { dst := some 140, op := Op.extract (Operand.tmp 128) 1, type := 42, pos := "outright.go:77", after := #[{ on := 10, ground := Ground.data }, { on := 16, ground := Ground.gcOnly Departure.lateStores }], guard := none }) (v := ?_) rfl (by kernel_rfl) (by kernel_rfl) (by kernel_rfl) (fun _ _ _ h => h) (Or.inl ⟨by rfl, ?_⟩) hHeld ?_
                  rotate_left
                  · intro w9 hSw
                    (try dsimp only at hSw)
                    go_simp <;> with_reducible rfl
                  (try simp only [Act.put, List.setIfInBounds_toArray, List.set_cons_zero, List.set_cons_succ])
                  refine wpAnyH_take (i := 13) (oi := { dst := some 141, op := Op.extract (Operand.tmp 128) 2, type := 34, pos := "outright.go:77", after := #[{ on := 10, ground := Ground.data }, { on := 17, ground := Ground.gcOnly Departure.lateStores }], guard := none }) (v := ?_) rfl (by kernel_rfl) (by kernel_rfl) (by kernel_rfl) (fun _ _ _ h => h) (Or.inl ⟨by rfl, ?_⟩) hHeld ?_
                  rotate_left
                  · intro w9 hSw
                    (try dsimp only at hSw)
                    go_simp <;> with_reducible rfl
                  (try simp only [Act.put, List.setIfInBounds_toArray, List.set_cons_zero, List.set_cons_succ])
                  refine wpAnyH_ready (rs := [14]) (by kernel_rfl) (by simp) ?_
                  refine AllReadyH.cons rfl (fun K hK => ?_) AllReadyH.nil
                  · go_simp
                    go_wp2
                    have b := below1 V29 (.cells (#[.int .u8 0, .int .i64 0, .int .u8 0, .int .u8 0, .int .u32 0, .int .u8 0, .int .i64 0, .int .u8 0, .int .u32 0, .int .u8 0, .int .i64 0, .int .i64 0, .int .u8 0, .int .u32 0, .int .u8 0, .int .i64 0, .int .u8 0, .int .u32 0, .slice none 0 0, .int .i64 0, .int .i64 0, .int .u8 0, .int .u32 0, .bool false]) 40)
                    obtain ⟨g20, hg20, T20⟩ : ∃ g, V29.heap.size = g ∧ TrF W (V29.alloc (.cells (#[.int .u8 0, .int .i64 0, .int .u8 0, .int .u8 0, .int .u32 0, .int .u8 0, .int .i64 0, .int .u8 0, .int .u32 0, .int .u8 0, .int .i64 0, .int .i64 0, .int .u8 0, .int .u32 0, .int .u8 0, .int .i64 0, .int .u8 0, .int .u32 0, .slice none 0 0, .int .i64 0, .int .i64 0, .int .u8 0, .int .u32 0, .bool false]) 40)) g := ⟨_, rfl, trf_new s⟩
                    have hne : g20 ≠ g21 := by have := T21.lt; omega
                    replace T21 := T21.keep b
                    replace s := below_in s b
                    clear b
                    rw [hg20]
                    generalize World.alloc V29 _ = V30 at s T20 T21 ⊢
                    clear hg20
                    refine hK.out _ _ s (fun hHeld => ?_)
                    clear hK K
                    refine wpAnyH_ready (rs := [16]) (by kernel_rfl) (by simp) ?_
                    refine AllReadyH.cons rfl (fun K hK => ?_) AllReadyH.nil
                    rw [if_pos (by rfl)]
                    refine wp_store_mid 40 (.tmp 20) (.tmp 139) rfl g20 0 (#[.int .u8 r3.kd, .int .i64 r3.us, .int .u8 r3.op.kd, .int .u8 r3.op.l, .int .u32 r3.op.c, .int .u8 r3.op.k, .int .i64 r3.op.s, .int .u8 r3.op.fl, .int .u32 r3.op.fc, .int .u8 r3.op.fk, .int .i64 r3.op.fn, .int .i64 r3.op.fm, .int .u8 r3.op.al, .int .u32 r3.op.ac, .int .u8 r3.op.ak, .int .i64 r3.op.an, .int .u8 r3.op.tl, .int .u32 r3.op.tc, .slice A3 k3 c3, .int .i64 r3.co, .int .i64 r3.gr.u, .int .u8 r3.gr.l, .int .u32 r3.gr.c, .bool r3.gr.ok]) rfl rfl T20.th info_R (by simp [Value.oneCell']) ?_
                    (try simp only [Act.put, List.setIfInBounds_toArray, List.set_cons_zero, List.set_cons_succ])
                    have s2 := s.trans (below_setCells g20 W.heap.size T20.ge ([.int .u8 r3.kd, .int .i64 r3.us, .int .u8 r3.op.kd, .int .u8 r3.op.l, .int .u32 r3.op.c, .int .u8 r3.op.k, .int .i64 r3.op.s, .int .u8 r3.op.fl, .int .u32 r3.op.fc, .int .u8 r3.op.fk, .int .i64 r3.op.fn, .int .i64 r3.op.fm, .int .u8 r3.op.al, .int .u32 r3.op.ac, .int .u8 r3.op.ak, .int .i64 r3.op.an, .int .u8 r3.op.tl, .int .u32 r3.op.tc, .slice A3 k3 c3, .int .i64 r3.co, .int .i64 r3.gr.u, .int .u8 r3.gr.l, .int .u32 r3.gr.c, .bool r3.gr.ok]) 0 _)
                    have T22 := T21.put (vs := ([.int .u8 r3.kd, .int .i64 r3.us, .int .u8 r3.op.kd, .int .u8 r3.op.l, .int .u32 r3.op.c, .int .u8 r3.op.k, .int .i64 r3.op.s, .int .u8 r3.op.fl, .int .u32 r3.op.fc, .int .u8 r3.op.fk, .int .i64 r3.op.fn, .int .i64 r3.op.fm, .int .u8 r3.op.al, .int .u32 r3.op.ac, .int .u8 r3.op.ak, .int .i64 r3.op.an, .int .u8 r3.op.tl, .int .u32 r3.op.tc, .slice A3 k3 c3, .int .i64 r3.co, .int .i64 r3.gr.u, .int .u8 r3.gr.l, .int .u32 r3.gr.c, .bool r3.gr.ok])) hne
                    generalize World.setCells _ g20 0 _ = X2 at s2 T22 ⊢
                    refine hK.out _ _ s2 (fun hHeld => ?_)
                    clear hK K
                    refine wpAnyH_ready (rs := [17]) (by kernel_rfl) (by simp) ?_
                    refine AllReadyH.cons rfl (fun K hK => ?_) AllReadyH.nil
                    rw [if_pos (by rfl)]
                    refine wp_store_mid 42 (.tmp 21) (.tmp 140) rfl g21 0 (#[.int .i64 s3, .int .i64 t3, .int .i64 i3, .int .i64 f3]) rfl rfl T22.th info_D (by simp [Value.oneCell']) ?_
                    (try simp only [Act.put, List.setIfInBounds_toArray, List.set_cons_zero, List.set_cons_succ])
                    have s4 := s2.trans (below_setCells g21 W.heap.size T22.ge ([.int .i64 s3, .int .i64 t3, .int .i64 i3, .int .i64 f3]) 0 _)
                    generalize World.setCells _ g21 0 _ = X3 at s4 ⊢
                    refine hK.out _ _ s4 (fun hHeld => ?_)
                    clear hK K
                    refine wpAnyH_take (i := 18) (oi := { dst := some 22, op := Op.assign (Operand.tmp 141), type := 34, pos := "outright.go:77", after := #[{ on := 13, ground := Ground.data }, { on := 17, ground := Ground.chain }, { on := 0, ground := Ground.phase }, { on := 1, ground := Ground.phase }, { on := 2, ground := Ground.phase }, { on := 3, ground := Ground.phase }, { on := 4, ground := Ground.phase }, { on := 5, ground := Ground.phase }, { on := 6, ground := Ground.phase }, { on := 7, ground := Ground.phase }, { on := 8, ground := Ground.phase }, { on := 9, ground := Ground.phase }, { on := 10, ground := Ground.phase }, { on := 11, ground := Ground.phase }, { on := 12, ground := Ground.phase }, { on := 13, ground := Ground.phase }, { on := 14, ground := Ground.phase }, { on := 15, ground := Ground.phase }, { on := 16, ground := Ground.phase }, { on := 17, ground := Ground.phase }], guard := none }) (v := ?_) rfl (by kernel_rfl) (by kernel_rfl) (by kernel_rfl) (fun _ _ _ h => h) (Or.inl ⟨by rfl, ?_⟩) hHeld ?_
                    rotate_left
                    · intro w9 hSw
                      (try dsimp only at hSw)
                      go_simp <;> with_reducible rfl
                    (try simp only [Act.put, List.setIfInBounds_toArray, List.set_cons_zero, List.set_cons_succ])
                    refine wpAnyH_done (by kernel_rfl) ?_ _
                    clear hHeld
                    go_wp2_with fail
                    go_meet
                    case rel => exact ⟨rfl, s4⟩
                · go_simp
                  go_wp2
                  have b := below1 V28 (.cells (#[.int .u8 0, .int .i64 0, .int .u8 0, .int .u8 0, .int .u32 0, .int .u8 0, .int .i64 0, .int .u8 0, .int .u32 0, .int .u8 0, .int .i64 0, .int .i64 0, .int .u8 0, .int .u32 0, .int .u8 0, .int .i64 0, .int .u8 0, .int .u32 0, .slice none 0 0, .int .i64 0, .int .i64 0, .int .u8 0, .int .u32 0, .bool false]) 40)
                  obtain ⟨g20, hg20, T20⟩ : ∃ g, V28.heap.size = g ∧ TrF W (V28.alloc (.cells (#[.int .u8 0, .int .i64 0, .int .u8 0, .int .u8 0, .int .u32 0, .int .u8 0, .int .i64 0, .int .u8 0, .int .u32 0, .int .u8 0, .int .i64 0, .int .i64 0, .int .u8 0, .int .u32 0, .int .u8 0, .int .i64 0, .int .u8 0, .int .u32 0, .slice none 0 0, .int .i64 0, .int .i64 0, .int .u8 0, .int .u32 0, .bool false]) 40)) g := ⟨_, rfl, trf_new s⟩
                  have hne : g20 ≠ g21 := by have := T21.lt; omega
                  replace T21 := T21.keep b
                  replace cp6 := cp6.keep b
                  replace s := below_in s b
                  clear b
                  rw [hg20]
                  generalize World.alloc V28 _ = V31 at s T20 T21 cp6 ⊢
                  clear hg20
                  refine hK.out _ _ s (fun hHeld => ?_)
                  clear hK K
                  refine wpAnyH_ready (rs := [9]) (by kernel_rfl) (by simp) ?_
                  refine AllReadyH.cons rfl (fun K hK => ?_) AllReadyH.nil
                  · go_simp
                    go_wp2_with (go_at_call 7; refine (rec_get_of A6 (n2 - 1) c6 (l.take k ++ l.drop (k + 1)) HLC (by omega) _ cp6.rd).mono ?_; rintro e V32 ⟨r3, A3, k3, c3, s3, t3, i3, f3, j3, rfl, hg3, hk3, ho3, b⟩)
                    obtain ⟨-, -, -, -, -, e3⟩ := got_not HNC.out hg3
                    subst e3
                    clear hg3 hk3 ho3 cp6
                    replace T20 := T20.keep b
                    replace T21 := T21.keep b
                    replace s := below_in s b
                    clear b
                    refine hK.out _ _ s (fun hHeld => ?_)
                    clear hK K
                    refine wpAnyH_take (i := 10) (oi := { dst := some 128, op := Op.move (Operand.tmp 138), type := 43, pos := "outright.go:77", after := #[{ on := 9, ground := Ground.data }], guard := none }) (v := ?_) rfl (by kernel_rfl) (by kernel_rfl) (by kernel_rfl) (fun _ _ _ h => h) (Or.inl ⟨by rfl, ?_⟩) hHeld ?_
                    rotate_left
                    · intro w9 hSw
                      (try dsimp only at hSw)
                      go_simp <;> with_reducible rfl
                    (try simp only [Act.put, List.setIfInBounds_toArray, List.set_cons_zero, List.set_cons_succ])
                    refine wpAnyH_take (i := 11) (oi := { dst := some 139, op := Op.extract (Operand.tmp 128) 0, type := 40, pos := "outright.go:77", after := #[{ on := 10, ground := Ground.data }], guard := none }) (v := ?_) rfl (by kernel_rfl) (by kernel_rfl) (by kernel_rfl) (fun _ _ _ h => h) (Or.inl ⟨by rfl, ?_⟩) hHeld ?_
                    rotate_left
                    · intro w9 hSw
                      (try dsimp only at hSw)
                      go_simp <;> with_reducible rfl
                    (try simp only [Act.put, List.setIfInBounds_toArray, List.set_cons_zero, List.set_cons_succ])
                    refine wpAnyH_take (i := 12) (oi := { dst := some 140, op := Op.extract (Operand.tmp 128) 1, type := 42, pos := "outright.go:77", after := #[{ on := 10, ground := Ground.data }, { on := 16, ground := Ground.gcOnly Departure.lateStores }], guard := none }) (v := ?_) rfl (by kernel_rfl) (by kernel_rfl) (by kernel_rfl) (fun _ _ _ h => h) (Or.inl ⟨by rfl, ?_⟩) hHeld ?_
                    rotate_left
                    · intro w9 hSw
                      (try dsimp only at hSw)
                      go_simp <;> with_reducible rfl
                    (try simp only [Act.put, List.setIfInBounds_toArray, List.set_cons_zero, List.set_cons_succ])
                    refine wpAnyH_take (i := 13) (oi := { dst := some 141, op := Op.extract (Operand.tmp 128) 2, type := 34, pos := "outright.go:77", after := #[{ on := 10, ground := Ground.data }, { on := 17, ground := Ground.gcOnly Departure.lateStores }], guard := none }) (v := ?_) rfl (by kernel_rfl) (by kernel_rfl) (by kernel_rfl) (fun _ _ _ h => h) (Or.inl ⟨by rfl, ?_⟩) hHeld ?_
                    rotate_left
                    · intro w9 hSw
                      (try dsimp only at hSw)
                      go_simp <;> with_reducible rfl
                    (try simp only [Act.put, List.setIfInBounds_toArray, List.set_cons_zero, List.set_cons_succ])
                    refine wpAnyH_ready (rs := [16]) (by kernel_rfl) (by simp) ?_
                    refine AllReadyH.cons rfl (fun K hK => ?_) AllReadyH.nil
                    rw [if_pos (by rfl)]
                    refine wp_store_mid 40 (.tmp 20) (.tmp 139) rfl g20 0 (#[.int .u8 r3.kd, .int .i64 r3.us, .int .u8 r3.op.kd, .int .u8 r3.op.l, .int .u32 r3.op.c, .int .u8 r3.op.k, .int .i64 r3.op.s, .int .u8 r3.op.fl, .int .u32 r3.op.fc, .int .u8 r3.op.fk, .int .i64 r3.op.fn, .int .i64 r3.op.fm, .int .u8 r3.op.al, .int .u32 r3.op.ac, .int .u8 r3.op.ak, .int .i64 r3.op.an, .int .u8 r3.op.tl, .int .u32 r3.op.tc, .slice A3 k3 c3, .int .i64 r3.co, .int .i64 r3.gr.u, .int .u8 r3.gr.l, .int .u32 r3.gr.c, .bool r3.gr.ok]) rfl rfl T20.th info_R (by simp [Value.oneCell']) ?_
                    (try simp only [Act.put, List.setIfInBounds_toArray, List.set_cons_zero, List.set_cons_succ])
                    have s2 := s.trans (below_setCells g20 W.heap.size T20.ge ([.int .u8 r3.kd, .int .i64 r3.us, .int .u8 r3.op.kd, .int .u8 r3.op.l, .int .u32 r3.op.c, .int .u8 r3.op.k, .int .i64 r3.op.s, .int .u8 r3.op.fl, .int .u32 r3.op.fc, .int .u8 r3.op.fk, .int .i64 r3.op.fn, .int .i64 r3.op.fm, .int .u8 r3.op.al, .int .u32 r3.op.ac, .int .u8 r3.op.ak, .int .i64 r3.op.an, .int .u8 r3.op.tl, .int .u32 r3.op.tc, .slice A3 k3 c3, .int .i64 r3.co, .int .i64 r3.gr.u, .int .u8 r3.gr.l, .int .u32 r3.gr.c, .bool r3.gr.ok]) 0 _)
                    have T22 := T21.put (vs := ([.int .u8 r3.kd, .int .i64 r3.us, .int .u8 r3.op.kd, .int .u8 r3.op.l, .int .u32 r3.op.c, .int .u8 r3.op.k, .int .i64 r3.op.s, .int .u8 r3.op.fl, .int .u32 r3.op.fc, .int .u8 r3.op.fk, .int .i64 r3.op.fn, .int .i64 r3.op.fm, .int .u8 r3.op.al, .int .u32 r3.op.ac, .int .u8 r3.op.ak, .int .i64 r3.op.an, .int .u8 r3.op.tl, .int .u32 r3.op.tc, .slice A3 k3 c3, .int .i64 r3.co, .int .i64 r3.gr.u, .int .u8 r3.gr.l, .int .u32 r3.gr.c, .bool r3.gr.ok])) hne
                    generalize World.setCells _ g20 0 _ = X2 at s2 T22 ⊢
                    refine hK.out _ _ s2 (fun hHeld => ?_)
                    clear hK K
                    refine wpAnyH_ready (rs := [17]) (by kernel_rfl) (by simp) ?_
                    refine AllReadyH.cons rfl (fun K hK => ?_) AllReadyH.nil
                    rw [if_pos (by rfl)]
                    refine wp_store_mid 42 (.tmp 21) (.tmp 140) rfl g21 0 (#[.int .i64 s3, .int .i64 t3, .int .i64 i3, .int .i64 f3]) rfl rfl T22.th info_D (by simp [Value.oneCell']) ?_
                    (try simp only [Act.put, List.setIfInBounds_toArray, List.set_cons_zero, List.set_cons_succ])
                    have s4 := s2.trans (below_setCells g21 W.heap.size T22.ge ([.int .i64 s3, .int .i64 t3, .int .i64 i3, .int .i64 f3]) 0 _)
                    generalize World.setCells _ g21 0 _ = X3 at s4 ⊢
                    refine hK.out _ _ s4 (fun hHeld => ?_)
                    clear hK K
                    refine wpAnyH_take (i := 18) (oi := { dst := some 22, op := Op.assign (Operand.tmp 141), type := 34, pos := "outright.go:77", after := #[{ on := 13, ground := Ground.data }, { on := 17, ground := Ground.chain }, { on := 0, ground := Ground.phase }, { on := 1, ground := Ground.phase }, { on := 2, ground := Ground.phase }, { on := 3, ground := Ground.phase }, { on := 4, ground := Ground.phase }, { on := 5, ground := Ground.phase }, { on := 6, ground := Ground.phase }, { on := 7, ground := Ground.phase }, { on := 8, ground := Ground.phase }, { on := 9, ground := Ground.phase }, { on := 10, ground := Ground.phase }, { on := 11, ground := Ground.phase }, { on := 12, ground := Ground.phase }, { on := 13, ground := Ground.phase }, { on := 14, ground := Ground.phase }, { on := 15, ground := Ground.phase }, { on := 16, ground := Ground.phase }, { on := 17, ground := Ground.phase }], guard := none }) (v := ?_) rfl (by kernel_rfl) (by kernel_rfl) (by kernel_rfl) (fun _ _ _ h => h) (Or.inl ⟨by rfl, ?_⟩) hHeld ?_
                    rotate_left
                    · intro w9 hSw
                      (try dsimp only at hSw)
                      go_simp <;> with_reducible rfl
                    (try simp only [Act.put, List.setIfInBounds_toArray, List.set_cons_zero, List.set_cons_succ])
                    refine wpAnyH_done (by kernel_rfl) ?_ _
                    clear hHeld
                    go_wp2_with fail
                    go_meet
                    case rel => exact ⟨rfl, s4⟩
              · go_simp
                go_wp2
                have b := below1 V27 (.cells (#[.int .u8 0, .int .i64 0, .int .u8 0, .int .u8 0, .int .u32 0, .int .u8 0, .int .i64 0, .int .u8 0, .int .u32 0, .int .u8 0, .int .i64 0, .int .i64 0, .int .u8 0, .int .u32 0, .int .u8 0, .int .i64 0, .int .u8 0, .int .u32 0, .slice none 0 0, .int .i64 0, .int .i64 0, .int .u8 0, .int .u32 0, .bool false]) 40)
                obtain ⟨g20, hg20, T20⟩ : ∃ g, V27.heap.size = g ∧ TrF W (V27.alloc (.cells (#[.int .u8 0, .int .i64 0, .int .u8 0, .int .u8 0, .int .u32 0, .int .u8 0, .int .i64 0, .int .u8 0, .int .u32 0, .int .u8 0, .int .i64 0, .int .i64 0, .int .u8 0, .int .u32 0, .int .u8 0, .int .i64 0, .int .u8 0, .int .u32 0, .slice none 0 0, .int .i64 0, .int .i64 0, .int .u8 0, .int .u32 0, .bool false]) 40)) g := ⟨_, rfl, trf_new s⟩
                have hne : g20 ≠ g21 := by have := T21.lt; omega
                replace T21 := T21.keep b
                replace cp := cp.keep b
                replace s := below_in s b
                clear b
                rw [hg20]
                generalize World.alloc V27 _ = V33 at s T20 T21 cp ⊢
                clear hg20
                refine hK.out _ _ s (fun hHeld => ?_)
                clear hK K
                refine wpAnyH_ready (rs := [8]) (by kernel_rfl) (by simp) ?_
                refine AllReadyH.cons rfl (fun K hK => ?_) AllReadyH.nil
                · refine step_append_c (w0 := W) rfl (.tmp 132) (.tmp 136) rfl rfl A5 k c5 (l.take k) HLT rfl cp D (n2 - (k + 1)) (c2 - (k + 1)) (l.drop (k + 1)) HLD rfl HRD.out (by omega) ?_
                  intro A6 c6 V34 cp6 nr
                  replace T20 := T20.keepn nr
                  replace T21 := T21.keepn nr
                  clear nr
                  replace s := cp6.be
                  rw [show k + (n2 - (k + 1)) = n2 - 1 by omega]
                  clear cp
                  refine hK.out _ _ s (fun hHeld => ?_)
                  clear hK K
                  refine wpAnyH_ready (rs := [9]) (by kernel_rfl) (by simp) ?_
                  refine AllReadyH.cons rfl (fun K hK => ?_) AllReadyH.nil
                  · go_simp
                    go_wp2_with (go_at_call 7; refine (rec_get_of A6 (n2 - 1) c6 (l.take k ++ l.drop (k + 1)) HLC (by omega) _ cp6.rd).mono ?_; rintro e V35 ⟨r3, A3, k3, c3, s3, t3, i3, f3, j3, rfl, hg3, hk3, ho3, b⟩)
                    obtain ⟨-, -, -, -, -, e3⟩ := got_not HNC.out hg3
                    subst e3
                    clear hg3 hk3 ho3 cp6
                    replace T20 := T20.keep b
                    replace T21 := T21.keep b
                    replace s := below_in s b
                    clear b
                    refine hK.out _ _ s (fun hHeld => ?_)
                    clear hK K
                    refine wpAnyH_take (i := 10) (oi := { dst := some 128, op := Op.move (Operand.tmp 138), type := 43, pos := "outright.go:77", after := #[{ on := 9, ground := Ground.data }], guard := none }) (v := ?_) rfl (by kernel_rfl) (by kernel_rfl) (by kernel_rfl) (fun _ _ _ h => h) (Or.inl ⟨by rfl, ?_⟩) hHeld ?_
                    rotate_left
                    · intro w9 hSw
                      (try dsimp only at hSw)
                      go_simp <;> with_reducible rfl
                    (try simp only [Act.put, List.setIfInBounds_toArray, List.set_cons_zero, List.set_cons_succ])
                    refine wpAnyH_take (i := 11) (oi := { dst := some 139, op := Op.extract (Operand.tmp 128) 0, type := 40, pos := "outright.go:77", after := #[{ on := 10, ground := Ground.data }], guard := none }) (v := ?_) rfl (by kernel_rfl) (by kernel_rfl) (by kernel_rfl) (fun _ _ _ h => h) (Or.inl ⟨by rfl, ?_⟩) hHeld ?_
                    rotate_left
                    · intro w9 hSw
                      (try dsimp only at hSw)
                      go_simp <;> with_reducible rfl
                    (try simp only [Act.put, List.setIfInBounds_toArray, List.set_cons_zero, List.set_cons_succ])
                    refine wpAnyH_take (i := 12) (oi := { dst := some 140, op := Op.extract (Operand.tmp 128) 1, type := 42, pos := "outright.go:77", after := #[{ on := 10, ground := Ground.data }, { on := 16, ground := Ground.gcOnly Departure.lateStores }], guard := none }) (v := ?_) rfl (by kernel_rfl) (by kernel_rfl) (by kernel_rfl) (fun _ _ _ h => h) (Or.inl ⟨by rfl, ?_⟩) hHeld ?_
                    rotate_left
                    · intro w9 hSw
                      (try dsimp only at hSw)
                      go_simp <;> with_reducible rfl
                    (try simp only [Act.put, List.setIfInBounds_toArray, List.set_cons_zero, List.set_cons_succ])
                    refine wpAnyH_take (i := 13) (oi := { dst := some 141, op := Op.extract (Operand.tmp 128) 2, type := 34, pos := "outright.go:77", after := #[{ on := 10, ground := Ground.data }, { on := 17, ground := Ground.gcOnly Departure.lateStores }], guard := none }) (v := ?_) rfl (by kernel_rfl) (by kernel_rfl) (by kernel_rfl) (fun _ _ _ h => h) (Or.inl ⟨by rfl, ?_⟩) hHeld ?_
                    rotate_left
                    · intro w9 hSw
                      (try dsimp only at hSw)
                      go_simp <;> with_reducible rfl
                    (try simp only [Act.put, List.setIfInBounds_toArray, List.set_cons_zero, List.set_cons_succ])
                    refine wpAnyH_ready (rs := [16]) (by kernel_rfl) (by simp) ?_
                    refine AllReadyH.cons rfl (fun K hK => ?_) AllReadyH.nil
                    rw [if_pos (by rfl)]
                    refine wp_store_mid 40 (.tmp 20) (.tmp 139) rfl g20 0 (#[.int .u8 r3.kd, .int .i64 r3.us, .int .u8 r3.op.kd, .int .u8 r3.op.l, .int .u32 r3.op.c, .int .u8 r3.op.k, .int .i64 r3.op.s, .int .u8 r3.op.fl, .int .u32 r3.op.fc, .int .u8 r3.op.fk, .int .i64 r3.op.fn, .int .i64 r3.op.fm, .int .u8 r3.op.al, .int .u32 r3.op.ac, .int .u8 r3.op.ak, .int .i64 r3.op.an, .int .u8 r3.op.tl, .int .u32 r3.op.tc, .slice A3 k3 c3, .int .i64 r3.co, .int .i64 r3.gr.u, .int .u8 r3.gr.l, .int .u32 r3.gr.c, .bool r3.gr.ok]) rfl rfl T20.th info_R (by simp [Value.oneCell']) ?_
                    (try simp only [Act.put, List.setIfInBounds_toArray, List.set_cons_zero, List.set_cons_succ])
                    have s2 := s.trans (below_setCells g20 W.heap.size T20.ge ([.int .u8 r3.kd, .int .i64 r3.us, .int .u8 r3.op.kd, .int .u8 r3.op.l, .int .u32 r3.op.c, .int .u8 r3.op.k, .int .i64 r3.op.s, .int .u8 r3.op.fl, .int .u32 r3.op.fc, .int .u8 r3.op.fk, .int .i64 r3.op.fn, .int .i64 r3.op.fm, .int .u8 r3.op.al, .int .u32 r3.op.ac, .int .u8 r3.op.ak, .int .i64 r3.op.an, .int .u8 r3.op.tl, .int .u32 r3.op.tc, .slice A3 k3 c3, .int .i64 r3.co, .int .i64 r3.gr.u, .int .u8 r3.gr.l, .int .u32 r3.gr.c, .bool r3.gr.ok]) 0 _)
                    have T22 := T21.put (vs := ([.int .u8 r3.kd, .int .i64 r3.us, .int .u8 r3.op.kd, .int .u8 r3.op.l, .int .u32 r3.op.c, .int .u8 r3.op.k, .int .i64 r3.op.s, .int .u8 r3.op.fl, .int .u32 r3.op.fc, .int .u8 r3.op.fk, .int .i64 r3.op.fn, .int .i64 r3.op.fm, .int .u8 r3.op.al, .int .u32 r3.op.ac, .int .u8 r3.op.ak, .int .i64 r3.op.an, .int .u8 r3.op.tl, .int .u32 r3.op.tc, .slice A3 k3 c3, .int .i64 r3.co, .int .i64 r3.gr.u, .int .u8 r3.gr.l, .int .u32 r3.gr.c, .bool r3.gr.ok])) hne
                    generalize World.setCells _ g20 0 _ = X2 at s2 T22 ⊢
                    refine hK.out _ _ s2 (fun hHeld => ?_)
                    clear hK K
                    refine wpAnyH_ready (rs := [17]) (by kernel_rfl) (by simp) ?_
                    refine AllReadyH.cons rfl (fun K hK => ?_) AllReadyH.nil
                    rw [if_pos (by rfl)]
                    refine wp_store_mid 42 (.tmp 21) (.tmp 140) rfl g21 0 (#[.int .i64 s3, .int .i64 t3, .int .i64 i3, .int .i64 f3]) rfl rfl T22.th info_D (by simp [Value.oneCell']) ?_
                    (try simp only [Act.put, List.setIfInBounds_toArray, List.set_cons_zero, List.set_cons_succ])
                    have s4 := s2.trans (below_setCells g21 W.heap.size T22.ge ([.int .i64 s3, .int .i64 t3, .int .i64 i3, .int .i64 f3]) 0 _)
                    generalize World.setCells _ g21 0 _ = X3 at s4 ⊢
                    refine hK.out _ _ s4 (fun hHeld => ?_)
                    clear hK K
                    refine wpAnyH_take (i := 18) (oi := { dst := some 22, op := Op.assign (Operand.tmp 141), type := 34, pos := "outright.go:77", after := #[{ on := 13, ground := Ground.data }, { on := 17, ground := Ground.chain }, { on := 0, ground := Ground.phase }, { on := 1, ground := Ground.phase }, { on := 2, ground := Ground.phase }, { on := 3, ground := Ground.phase }, { on := 4, ground := Ground.phase }, { on := 5, ground := Ground.phase }, { on := 6, ground := Ground.phase }, { on := 7, ground := Ground.phase }, { on := 8, ground := Ground.phase }, { on := 9, ground := Ground.phase }, { on := 10, ground := Ground.phase }, { on := 11, ground := Ground.phase }, { on := 12, ground := Ground.phase }, { on := 13, ground := Ground.phase }, { on := 14, ground := Ground.phase }, { on := 15, ground := Ground.phase }, { on := 16, ground := Ground.phase }, { on := 17, ground := Ground.phase }], guard := none }) (v := ?_) rfl (by kernel_rfl) (by kernel_rfl) (by kernel_rfl) (fun _ _ _ h => h) (Or.inl ⟨by rfl, ?_⟩) hHeld ?_
                    rotate_left
                    · intro w9 hSw
                      (try dsimp only at hSw)
                      go_simp <;> with_reducible rfl
                    (try simp only [Act.put, List.setIfInBounds_toArray, List.set_cons_zero, List.set_cons_succ])
                    refine wpAnyH_done (by kernel_rfl) ?_ _
                    clear hHeld
                    go_wp2_with fail
                    go_meet
                    case rel => exact ⟨rfl, s4⟩
          · go_simp
            go_wp2
            have b := below1 V0 (.cells (#[.int .u8 0, .int .i64 0, .int .u8 0, .int .u8 0, .int .u32 0, .int .u8 0, .int .i64 0, .int .u8 0, .int .u32 0, .int .u8 0, .int .i64 0, .int .i64 0, .int .u8 0, .int .u32 0, .int .u8 0, .int .i64 0, .int .u8 0, .int .u32 0, .slice none 0 0, .int .i64 0, .int .i64 0, .int .u8 0, .int .u32 0, .bool false]) 40)
            obtain ⟨g20, hg20, T20⟩ : ∃ g, V0.heap.size = g ∧ TrF W (V0.alloc (.cells (#[.int .u8 0, .int .i64 0, .int .u8 0, .int .u8 0, .int .u32 0, .int .u8 0, .int .i64 0, .int .u8 0, .int .u32 0, .int .u8 0, .int .i64 0, .int .i64 0, .int .u8 0, .int .u32 0, .int .u8 0, .int .i64 0, .int .u8 0, .int .u32 0, .slice none 0 0, .int .i64 0, .int .i64 0, .int .u8 0, .int .u32 0, .bool false]) 40)) g := ⟨_, rfl, trf_new s⟩
            replace s := below_in s b
            clear b
            rw [hg20]
            generalize World.alloc V0 _ = V36 at s T20 ⊢
            clear hg20
            refine hK.out _ _ s (fun hHeld => ?_)
            clear hK K
            refine wpAnyH_ready (rs := [3, 15]) (by kernel_rfl) (by simp) ?_
            refine AllReadyH.cons rfl (fun K hK => ?_) (AllReadyH.cons rfl (fun K hK => ?_) AllReadyH.nil)
            · refine step_append_c (w0 := W) rfl (.const (.slice none 0 0)) (.tmp 131) rfl rfl none 0 0 [] (hid rfl) rfl (CpB.nil W V36 s) A2 k c2 (l.take k) HLT rfl HRT.out (by omega) ?_
              intro A5 c5 V37 cp nr
              rw [List.nil_append] at cp
              rw [Nat.zero_add]
              replace T20 := T20.keepn nr
              clear nr
              replace s := cp.be
              refine hK.out _ _ s (fun hHeld => ?_)
              clear hK K
              refine wpAnyH_ready (rs := [8, 15]) (by kernel_rfl) (by simp) ?_
              refine AllReadyH.cons rfl (fun K hK => ?_) (AllReadyH.cons rfl (fun K hK => ?_) AllReadyH.nil)
              · refine step_append_c (w0 := W) rfl (.tmp 132) (.tmp 136) rfl rfl A5 k c5 (l.take k) HLT rfl cp D (n2 - (k + 1)) (c2 - (k + 1)) (l.drop (k + 1)) HLD rfl HRD.out (by omega) ?_
                intro A6 c6 V38 cp6 nr
                replace T20 := T20.keepn nr
                clear nr
                replace s := cp6.be
                rw [show k + (n2 - (k + 1)) = n2 - 1 by omega]
                clear cp
                refine hK.out _ _ s (fun hHeld => ?_)
                clear hK K
                refine wpAnyH_ready (rs := [9, 15]) (by kernel_rfl) (by simp) ?_
                refine AllReadyH.cons rfl (fun K hK => ?_) (AllReadyH.cons rfl (fun K hK => ?_) AllReadyH.nil)
                · go_simp
                  go_wp2_with (go_at_call 7; refine (rec_get_of A6 (n2 - 1) c6 (l.take k ++ l.drop (k + 1)) HLC (by omega) _ cp6.rd).mono ?_; rintro e V39 ⟨r3, A3, k3, c3, s3, t3, i3, f3, j3, rfl, hg3, hk3, ho3, b⟩)
                  obtain ⟨-, -, -, -, -, e3⟩ := got_not HNC.out hg3
                  subst e3
                  clear hg3 hk3 ho3 cp6
                  replace T20 := T20.keep b
                  replace s := below_in s b
                  clear b
                  refine hK.out _ _ s (fun hHeld => ?_)
                  clear hK K
                  refine wpAnyH_take (i := 10) (oi := { dst := some 128, op := Op.move (Operand.tmp 138), type := 43, pos := "outright.go:77", after := #[{ on := 9, ground := Ground.data }], guard := none }) (v := ?_) rfl (by kernel_rfl) (by kernel_rfl) (by kernel_rfl) (fun _ _ _ h => h) (Or.inl ⟨by rfl, ?_⟩) hHeld ?_
                  rotate_left
                  · intro w9 hSw
                    (try dsimp only at hSw)
                    go_simp <;> with_reducible rfl
                  (try simp only [Act.put, List.setIfInBounds_toArray, List.set_cons_zero, List.set_cons_succ])
                  refine wpAnyH_take (i := 11) (oi := { dst := some 139, op := Op.extract (Operand.tmp 128) 0, type := 40, pos := "outright.go:77", after := #[{ on := 10, ground := Ground.data }], guard := none }) (v := ?_) rfl (by kernel_rfl) (by kernel_rfl) (by kernel_rfl) (fun _ _ _ h => h) (Or.inl ⟨by rfl, ?_⟩) hHeld ?_
                  rotate_left
                  · intro w9 hSw
                    (try dsimp only at hSw)
                    go_simp <;> with_reducible rfl
                  (try simp only [Act.put, List.setIfInBounds_toArray, List.set_cons_zero, List.set_cons_succ])
                  refine wpAnyH_take (i := 12) (oi := { dst := some 140, op := Op.extract (Operand.tmp 128) 1, type := 42, pos := "outright.go:77", after := #[{ on := 10, ground := Ground.data }, { on := 16, ground := Ground.gcOnly Departure.lateStores }], guard := none }) (v := ?_) rfl (by kernel_rfl) (by kernel_rfl) (by kernel_rfl) (fun _ _ _ h => h) (Or.inl ⟨by rfl, ?_⟩) hHeld ?_
                  rotate_left
                  · intro w9 hSw
                    (try dsimp only at hSw)
                    go_simp <;> with_reducible rfl
                  (try simp only [Act.put, List.setIfInBounds_toArray, List.set_cons_zero, List.set_cons_succ])
                  refine wpAnyH_take (i := 13) (oi := { dst := some 141, op := Op.extract (Operand.tmp 128) 2, type := 34, pos := "outright.go:77", after := #[{ on := 10, ground := Ground.data }, { on := 17, ground := Ground.gcOnly Departure.lateStores }], guard := none }) (v := ?_) rfl (by kernel_rfl) (by kernel_rfl) (by kernel_rfl) (fun _ _ _ h => h) (Or.inl ⟨by rfl, ?_⟩) hHeld ?_
                  rotate_left
                  · intro w9 hSw
                    (try dsimp only at hSw)
                    go_simp <;> with_reducible rfl
                  (try simp only [Act.put, List.setIfInBounds_toArray, List.set_cons_zero, List.set_cons_succ])
                  refine wpAnyH_ready (rs := [15]) (by kernel_rfl) (by simp) ?_
                  refine AllReadyH.cons rfl (fun K hK => ?_) AllReadyH.nil
                  · go_simp
                    go_wp2
                    have b := below1 V39 (.cells (#[.int .i64 0, .int .i64 0, .int .i64 0, .int .i64 0]) 42)
                    obtain ⟨g21, hg21, T21⟩ : ∃ g, V39.heap.size = g ∧ TdF W (V39.alloc (.cells (#[.int .i64 0, .int .i64 0, .int .i64 0, .int .i64 0]) 42)) g := ⟨_, rfl, tdf_new s⟩
                    have hne : g20 ≠ g21 := by have := T20.lt; omega
                    replace T20 := T20.keep b
                    replace s := below_in s b
                    clear b
                    rw [hg21]
                    generalize World.alloc V39 _ = V40 at s T21 T20 ⊢
                    clear hg21
                    refine hK.out _ _ s (fun hHeld => ?_)
                    clear hK K
                    refine wpAnyH_ready (rs := [16]) (by kernel_rfl) (by simp) ?_
                    refine AllReadyH.cons rfl (fun K hK => ?_) AllReadyH.nil
                    rw [if_pos (by rfl)]
                    refine wp_store_mid 40 (.tmp 20) (.tmp 139) rfl g20 0 (#[.int .u8 r3.kd, .int .i64 r3.us, .int .u8 r3.op.kd, .int .u8 r3.op.l, .int .u32 r3.op.c, .int .u8 r3.op.k, .int .i64 r3.op.s, .int .u8 r3.op.fl, .int .u32 r3.op.fc, .int .u8 r3.op.fk, .int .i64 r3.op.fn, .int .i64 r3.op.fm, .int .u8 r3.op.al, .int .u32 r3.op.ac, .int .u8 r3.op.ak, .int .i64 r3.op.an, .int .u8 r3.op.tl, .int .u32 r3.op.tc, .slice A3 k3 c3, .int .i64 r3.co, .int .i64 r3.gr.u, .int .u8 r3.gr.l, .int .u32 r3.gr.c, .bool r3.gr.ok]) rfl rfl T20.th info_R (by simp [Value.oneCell']) ?_
                    (try simp only [Act.put, List.setIfInBounds_toArray, List.set_cons_zero, List.set_cons_succ])
                    have s2 := s.trans (below_setCells g20 W.heap.size T20.ge ([.int .u8 r3.kd, .int .i64 r3.us, .int .u8 r3.op.kd, .int .u8 r3.op.l, .int .u32 r3.op.c, .int .u8 r3.op.k, .int .i64 r3.op.s, .int .u8 r3.op.fl, .int .u32 r3.op.fc, .int .u8 r3.op.fk, .int .i64 r3.op.fn, .int .i64 r3.op.fm, .int .u8 r3.op.al, .int .u32 r3.op.ac, .int .u8 r3.op.ak, .int .i64 r3.op.an, .int .u8 r3.op.tl, .int .u32 r3.op.tc, .slice A3 k3 c3, .int .i64 r3.co, .int .i64 r3.gr.u, .int .u8 r3.gr.l, .int .u32 r3.gr.c, .bool r3.gr.ok]) 0 _)
                    have T22 := T21.put (vs := ([.int .u8 r3.kd, .int .i64 r3.us, .int .u8 r3.op.kd, .int .u8 r3.op.l, .int .u32 r3.op.c, .int .u8 r3.op.k, .int .i64 r3.op.s, .int .u8 r3.op.fl, .int .u32 r3.op.fc, .int .u8 r3.op.fk, .int .i64 r3.op.fn, .int .i64 r3.op.fm, .int .u8 r3.op.al, .int .u32 r3.op.ac, .int .u8 r3.op.ak, .int .i64 r3.op.an, .int .u8 r3.op.tl, .int .u32 r3.op.tc, .slice A3 k3 c3, .int .i64 r3.co, .int .i64 r3.gr.u, .int .u8 r3.gr.l, .int .u32 r3.gr.c, .bool r3.gr.ok])) hne
                    generalize World.setCells _ g20 0 _ = X2 at s2 T22 ⊢
                    refine hK.out _ _ s2 (fun hHeld => ?_)
                    clear hK K
                    refine wpAnyH_ready (rs := [17]) (by kernel_rfl) (by simp) ?_
                    refine AllReadyH.cons rfl (fun K hK => ?_) AllReadyH.nil
                    rw [if_pos (by rfl)]
                    refine wp_store_mid 42 (.tmp 21) (.tmp 140) rfl g21 0 (#[.int .i64 s3, .int .i64 t3, .int .i64 i3, .int .i64 f3]) rfl rfl T22.th info_D (by simp [Value.oneCell']) ?_
                    (try simp only [Act.put, List.setIfInBounds_toArray, List.set_cons_zero, List.set_cons_succ])
                    have s4 := s2.trans (below_setCells g21 W.heap.size T22.ge ([.int .i64 s3, .int .i64 t3, .int .i64 i3, .int .i64 f3]) 0 _)
                    generalize World.setCells _ g21 0 _ = X3 at s4 ⊢
                    refine hK.out _ _ s4 (fun hHeld => ?_)
                    clear hK K
                    refine wpAnyH_take (i := 18) (oi := { dst := some 22, op := Op.assign (Operand.tmp 141), type := 34, pos := "outright.go:77", after := #[{ on := 13, ground := Ground.data }, { on := 17, ground := Ground.chain }, { on := 0, ground := Ground.phase }, { on := 1, ground := Ground.phase }, { on := 2, ground := Ground.phase }, { on := 3, ground := Ground.phase }, { on := 4, ground := Ground.phase }, { on := 5, ground := Ground.phase }, { on := 6, ground := Ground.phase }, { on := 7, ground := Ground.phase }, { on := 8, ground := Ground.phase }, { on := 9, ground := Ground.phase }, { on := 10, ground := Ground.phase }, { on := 11, ground := Ground.phase }, { on := 12, ground := Ground.phase }, { on := 13, ground := Ground.phase }, { on := 14, ground := Ground.phase }, { on := 15, ground := Ground.phase }, { on := 16, ground := Ground.phase }, { on := 17, ground := Ground.phase }], guard := none }) (v := ?_) rfl (by kernel_rfl) (by kernel_rfl) (by kernel_rfl) (fun _ _ _ h => h) (Or.inl ⟨by rfl, ?_⟩) hHeld ?_
                    rotate_left
                    · intro w9 hSw
                      (try dsimp only at hSw)
                      go_simp <;> with_reducible rfl
                    (try simp only [Act.put, List.setIfInBounds_toArray, List.set_cons_zero, List.set_cons_succ])
                    refine wpAnyH_done (by kernel_rfl) ?_ _
                    clear hHeld
                    go_wp2_with fail
                    go_meet
                    case rel => exact ⟨rfl, s4⟩
                · go_simp
                  go_wp2
                  have b := below1 V38 (.cells (#[.int .i64 0, .int .i64 0, .int .i64 0, .int .i64 0]) 42)
                  obtain ⟨g21, hg21, T21⟩ : ∃ g, V38.heap.size = g ∧ TdF W (V38.alloc (.cells (#[.int .i64 0, .int .i64 0, .int .i64 0, .int .i64 0]) 42)) g := ⟨_, rfl, tdf_new s⟩
                  have hne : g20 ≠ g21 := by have := T20.lt; omega
                  replace T20 := T20.keep b
                  replace cp6 := cp6.keep b
                  replace s := below_in s b
                  clear b
                  rw [hg21]
                  generalize World.alloc V38 _ = V41 at s T21 T20 cp6 ⊢
                  clear hg21
                  refine hK.out _ _ s (fun hHeld => ?_)
                  clear hK K
                  refine wpAnyH_ready (rs := [9]) (by kernel_rfl) (by simp) ?_
                  refine AllReadyH.cons rfl (fun K hK => ?_) AllReadyH.nil
                  · go_simp
                    go_wp2_with (go_at_call 7; refine (rec_get_of A6 (n2 - 1) c6 (l.take k ++ l.drop (k + 1)) HLC (by omega) _ cp6.rd).mono ?_; rintro e V42 ⟨r3, A3, k3, c3, s3, t3, i3, f3, j3, rfl, hg3, hk3, ho3, b⟩)
                    obtain ⟨-, -, -, -, -, e3⟩ := got_not HNC.out hg3
                    subst e3
                    clear hg3 hk3 ho3 cp6
                    replace T20 := T20.keep b
                    replace T21 := T21.keep b
                    replace s := below_in s b
                    clear b
                    refine hK.out _ _ s (fun hHeld => ?_)
                    clear hK K
                    refine wpAnyH_take (i := 10) (oi := { dst := some 128, op := Op.move (Operand.tmp 138), type := 43, pos := "outright.go:77", after := #[{ on := 9, ground := Ground.data }], guard := none }) (v := ?_) rfl (by kernel_rfl) (by kernel_rfl) (by kernel_rfl) (fun _ _ _ h => h) (Or.inl ⟨by rfl, ?_⟩) hHeld ?_
                    rotate_left
                    · intro w9 hSw
                      (try dsimp only at hSw)
                      go_simp <;> with_reducible rfl
                    (try simp only [Act.put, List.setIfInBounds_toArray, List.set_cons_zero, List.set_cons_succ])
                    refine wpAnyH_take (i := 11) (oi := { dst := some 139, op := Op.extract (Operand.tmp 128) 0, type := 40, pos := "outright.go:77", after := #[{ on := 10, ground := Ground.data }], guard := none }) (v := ?_) rfl (by kernel_rfl) (by kernel_rfl) (by kernel_rfl) (fun _ _ _ h => h) (Or.inl ⟨by rfl, ?_⟩) hHeld ?_
                    rotate_left
                    · intro w9 hSw
                      (try dsimp only at hSw)
                      go_simp <;> with_reducible rfl
                    (try simp only [Act.put, List.setIfInBounds_toArray, List.set_cons_zero, List.set_cons_succ])
                    refine wpAnyH_take (i := 12) (oi := { dst := some 140, op := Op.extract (Operand.tmp 128) 1, type := 42, pos := "outright.go:77", after := #[{ on := 10, ground := Ground.data }, { on := 16, ground := Ground.gcOnly Departure.lateStores }], guard := none }) (v := ?_) rfl (by kernel_rfl) (by kernel_rfl) (by kernel_rfl) (fun _ _ _ h => h) (Or.inl ⟨by rfl, ?_⟩) hHeld ?_
                    rotate_left
                    · intro w9 hSw
                      (try dsimp only at hSw)
                      go_simp <;> with_reducible rfl
                    (try simp only [Act.put, List.setIfInBounds_toArray, List.set_cons_zero, List.set_cons_succ])
                    refine wpAnyH_take (i := 13) (oi := { dst := some 141, op := Op.extract (Operand.tmp 128) 2, type := 34, pos := "outright.go:77", after := #[{ on := 10, ground := Ground.data }, { on := 17, ground := Ground.gcOnly Departure.lateStores }], guard := none }) (v := ?_) rfl (by kernel_rfl) (by kernel_rfl) (by kernel_rfl) (fun _ _ _ h => h) (Or.inl ⟨by rfl, ?_⟩) hHeld ?_
                    rotate_left
                    · intro w9 hSw
                      (try dsimp only at hSw)
                      go_simp <;> with_reducible rfl
                    (try simp only [Act.put, List.setIfInBounds_toArray, List.set_cons_zero, List.set_cons_succ])
                    refine wpAnyH_ready (rs := [16]) (by kernel_rfl) (by simp) ?_
                    refine AllReadyH.cons rfl (fun K hK => ?_) AllReadyH.nil
                    rw [if_pos (by rfl)]
                    refine wp_store_mid 40 (.tmp 20) (.tmp 139) rfl g20 0 (#[.int .u8 r3.kd, .int .i64 r3.us, .int .u8 r3.op.kd, .int .u8 r3.op.l, .int .u32 r3.op.c, .int .u8 r3.op.k, .int .i64 r3.op.s, .int .u8 r3.op.fl, .int .u32 r3.op.fc, .int .u8 r3.op.fk, .int .i64 r3.op.fn, .int .i64 r3.op.fm, .int .u8 r3.op.al, .int .u32 r3.op.ac, .int .u8 r3.op.ak, .int .i64 r3.op.an, .int .u8 r3.op.tl, .int .u32 r3.op.tc, .slice A3 k3 c3, .int .i64 r3.co, .int .i64 r3.gr.u, .int .u8 r3.gr.l, .int .u32 r3.gr.c, .bool r3.gr.ok]) rfl rfl T20.th info_R (by simp [Value.oneCell']) ?_
                    (try simp only [Act.put, List.setIfInBounds_toArray, List.set_cons_zero, List.set_cons_succ])
                    have s2 := s.trans (below_setCells g20 W.heap.size T20.ge ([.int .u8 r3.kd, .int .i64 r3.us, .int .u8 r3.op.kd, .int .u8 r3.op.l, .int .u32 r3.op.c, .int .u8 r3.op.k, .int .i64 r3.op.s, .int .u8 r3.op.fl, .int .u32 r3.op.fc, .int .u8 r3.op.fk, .int .i64 r3.op.fn, .int .i64 r3.op.fm, .int .u8 r3.op.al, .int .u32 r3.op.ac, .int .u8 r3.op.ak, .int .i64 r3.op.an, .int .u8 r3.op.tl, .int .u32 r3.op.tc, .slice A3 k3 c3, .int .i64 r3.co, .int .i64 r3.gr.u, .int .u8 r3.gr.l, .int .u32 r3.gr.c, .bool r3.gr.ok]) 0 _)
                    have T22 := T21.put (vs := ([.int .u8 r3.kd, .int .i64 r3.us, .int .u8 r3.op.kd, .int .u8 r3.op.l, .int .u32 r3.op.c, .int .u8 r3.op.k, .int .i64 r3.op.s, .int .u8 r3.op.fl, .int .u32 r3.op.fc, .int .u8 r3.op.fk, .int .i64 r3.op.fn, .int .i64 r3.op.fm, .int .u8 r3.op.al, .int .u32 r3.op.ac, .int .u8 r3.op.ak, .int .i64 r3.op.an, .int .u8 r3.op.tl, .int .u32 r3.op.tc, .slice A3 k3 c3, .int .i64 r3.co, .int .i64 r3.gr.u, .int .u8 r3.gr.l, .int .u32 r3.gr.c, .bool r3.gr.ok])) hne
                    generalize World.setCells _ g20 0 _ = X2 at s2 T22 ⊢
                    refine hK.out _ _ s2 (fun hHeld => ?_)
                    clear hK K
                    refine wpAnyH_ready (rs := [17]) (by kernel_rfl) (by simp) ?_
                    refine AllReadyH.cons rfl (fun K hK => ?_) AllReadyH.nil
                    rw [if_pos (by rfl)]
                    refine wp_store_mid 42 (.tmp 21) (.tmp 140) rfl g21 0 (#[.int .i64 s3, .int .i64 t3, .int .i64 i3, .int .i64 f3]) rfl rfl T22.th info_D (by simp [Value.oneCell']) ?_
                    (try simp only [Act.put, List.setIfInBounds_toArray, List.set_cons_zero, List.set_cons_succ])
                    have s4 := s2.trans (below_setCells g21 W.heap.size T22.ge ([.int .i64 s3, .int .i64 t3, .int .i64 i3, .int .i64 f3]) 0 _)
                    generalize World.setCells _ g21 0 _ = X3 at s4 ⊢
                    refine hK.out _ _ s4 (fun hHeld => ?_)
                    clear hK K
                    refine wpAnyH_take (i := 18) (oi := { dst := some 22, op := Op.assign (Operand.tmp 141), type := 34, pos := "outright.go:77", after := #[{ on := 13, ground := Ground.data }, { on := 17, ground := Ground.chain }, { on := 0, ground := Ground.phase }, { on := 1, ground := Ground.phase }, { on := 2, ground := Ground.phase }, { on := 3, ground := Ground.phase }, { on := 4, ground := Ground.phase }, { on := 5, ground := Ground.phase }, { on := 6, ground := Ground.phase }, { on := 7, ground := Ground.phase }, { on := 8, ground := Ground.phase }, { on := 9, ground := Ground.phase }, { on := 10, ground := Ground.phase }, { on := 11, ground := Ground.phase }, { on := 12, ground := Ground.phase }, { on := 13, ground := Ground.phase }, { on := 14, ground := Ground.phase }, { on := 15, ground := Ground.phase }, { on := 16, ground := Ground.phase }, { on := 17, ground := Ground.phase }], guard := none }) (v := ?_) rfl (by kernel_rfl) (by kernel_rfl) (by kernel_rfl) (fun _ _ _ h => h) (Or.inl ⟨by rfl, ?_⟩) hHeld ?_
                    rotate_left
                    · intro w9 hSw
                      (try dsimp only at hSw)
                      go_simp <;> with_reducible rfl
                    (try simp only [Act.put, List.setIfInBounds_toArray, List.set_cons_zero, List.set_cons_succ])
                    refine wpAnyH_done (by kernel_rfl) ?_ _
                    clear hHeld
                    go_wp2_with fail
                    go_meet
                    case rel => exact ⟨rfl, s4⟩
              · go_simp
                go_wp2
                have b := below1 V37 (.cells (#[.int .i64 0, .int .i64 0, .int .i64 0, .int .i64 0]) 42)
                obtain ⟨g21, hg21, T21⟩ : ∃ g, V37.heap.size = g ∧ TdF W (V37.alloc (.cells (#[.int .i64 0, .int .i64 0, .int .i64 0, .int .i64 0]) 42)) g := ⟨_, rfl, tdf_new s⟩
                have hne : g20 ≠ g21 := by have := T20.lt; omega
                replace T20 := T20.keep b
                replace cp := cp.keep b
                replace s := below_in s b
                clear b
                rw [hg21]
                generalize World.alloc V37 _ = V43 at s T21 T20 cp ⊢
                clear hg21
                refine hK.out _ _ s (fun hHeld => ?_)
                clear hK K
                refine wpAnyH_ready (rs := [8]) (by kernel_rfl) (by simp) ?_
                refine AllReadyH.cons rfl (fun K hK => ?_) AllReadyH.nil
                · refine step_append_c (w0 := W) rfl (.tmp 132) (.tmp 136) rfl rfl A5 k c5 (l.take k) HLT rfl cp D (n2 - (k + 1)) (c2 - (k + 1)) (l.drop (k + 1)) HLD rfl HRD.out (by omega) ?_
                  intro A6 c6 V44 cp6 nr
                  replace T20 := T20.keepn nr
                  replace T21 := T21.keepn nr
                  clear nr
                  replace s := cp6.be
                  rw [show k + (n2 - (k + 1)) = n2 - 1 by omega]
                  clear cp
                  refine hK.out _ _ s (fun hHeld => ?_)
                  clear hK K
                  refine wpAnyH_ready (rs := [9]) (by kernel_rfl) (by simp) ?_
                  refine AllReadyH.cons rfl (fun K hK => ?_) AllReadyH.nil
                  · go_simp
                    go_wp2_with (go_at_call 7; refine (rec_get_of A6 (n2 - 1) c6 (l.take k ++ l.drop (k + 1)) HLC (by omega) _ cp6.rd).mono ?_; rintro e V45 ⟨r3, A3, k3, c3, s3, t3, i3, f3, j3, rfl, hg3, hk3, ho3, b⟩)
                    obtain ⟨-, -, -, -, -, e3⟩ := got_not HNC.out hg3
                    subst e3
                    clear hg3 hk3 ho3 cp6
                    replace T20 := T20.keep b
                    replace T21 := T21.keep b
                    replace s := below_in s b
                    clear b
                    refine hK.out _ _ s (fun hHeld => ?_)
                    clear hK K
                    refine wpAnyH_take (i := 10) (oi := { dst := some 128, op := Op.move (Operand.tmp 138), type := 43, pos := "outright.go:77", after := #[{ on := 9, ground := Ground.data }], guard := none }) (v := ?_) rfl (by kernel_rfl) (by kernel_rfl) (by kernel_rfl) (fun _ _ _ h => h) (Or.inl ⟨by rfl, ?_⟩) hHeld ?_
                    rotate_left
                    · intro w9 hSw
                      (try dsimp only at hSw)
                      go_simp <;> with_reducible rfl
                    (try simp only [Act.put, List.setIfInBounds_toArray, List.set_cons_zero, List.set_cons_succ])
                    refine wpAnyH_take (i := 11) (oi := { dst := some 139, op := Op.extract (Operand.tmp 128) 0, type := 40, pos := "outright.go:77", after := #[{ on := 10, ground := Ground.data }], guard := none }) (v := ?_) rfl (by kernel_rfl) (by kernel_rfl) (by kernel_rfl) (fun _ _ _ h => h) (Or.inl ⟨by rfl, ?_⟩) hHeld ?_
                    rotate_left
                    · intro w9 hSw
                      (try dsimp only at hSw)
                      go_simp <;> with_reducible rfl
                    (try simp only [Act.put, List.setIfInBounds_toArray, List.set_cons_zero, List.set_cons_succ])
                    refine wpAnyH_take (i := 12) (oi := { dst := some 140, op := Op.extract (Operand.tmp 128) 1, type := 42, pos := "outright.go:77", after := #[{ on := 10, ground := Ground.data }, { on := 16, ground := Ground.gcOnly Departure.lateStores }], guard := none }) (v := ?_) rfl (by kernel_rfl) (by kernel_rfl) (by kernel_rfl) (fun _ _ _ h => h) (Or.inl ⟨by rfl, ?_⟩) hHeld ?_
                    rotate_left
                    · intro w9 hSw
                      (try dsimp only at hSw)
                      go_simp <;> with_reducible rfl
                    (try simp only [Act.put, List.setIfInBounds_toArray, List.set_cons_zero, List.set_cons_succ])
                    refine wpAnyH_take (i := 13) (oi := { dst := some 141, op := Op.extract (Operand.tmp 128) 2, type := 34, pos := "outright.go:77", after := #[{ on := 10, ground := Ground.data }, { on := 17, ground := Ground.gcOnly Departure.lateStores }], guard := none }) (v := ?_) rfl (by kernel_rfl) (by kernel_rfl) (by kernel_rfl) (fun _ _ _ h => h) (Or.inl ⟨by rfl, ?_⟩) hHeld ?_
                    rotate_left
                    · intro w9 hSw
                      (try dsimp only at hSw)
                      go_simp <;> with_reducible rfl
                    (try simp only [Act.put, List.setIfInBounds_toArray, List.set_cons_zero, List.set_cons_succ])
                    refine wpAnyH_ready (rs := [16]) (by kernel_rfl) (by simp) ?_
                    refine AllReadyH.cons rfl (fun K hK => ?_) AllReadyH.nil
                    rw [if_pos (by rfl)]
                    refine wp_store_mid 40 (.tmp 20) (.tmp 139) rfl g20 0 (#[.int .u8 r3.kd, .int .i64 r3.us, .int .u8 r3.op.kd, .int .u8 r3.op.l, .int .u32 r3.op.c, .int .u8 r3.op.k, .int .i64 r3.op.s, .int .u8 r3.op.fl, .int .u32 r3.op.fc, .int .u8 r3.op.fk, .int .i64 r3.op.fn, .int .i64 r3.op.fm, .int .u8 r3.op.al, .int .u32 r3.op.ac, .int .u8 r3.op.ak, .int .i64 r3.op.an, .int .u8 r3.op.tl, .int .u32 r3.op.tc, .slice A3 k3 c3, .int .i64 r3.co, .int .i64 r3.gr.u, .int .u8 r3.gr.l, .int .u32 r3.gr.c, .bool r3.gr.ok]) rfl rfl T20.th info_R (by simp [Value.oneCell']) ?_
                    (try simp only [Act.put, List.setIfInBounds_toArray, List.set_cons_zero, List.set_cons_succ])
                    have s2 := s.trans (below_setCells g20 W.heap.size T20.ge ([.int .u8 r3.kd, .int .i64 r3.us, .int .u8 r3.op.kd, .int .u8 r3.op.l, .int .u32 r3.op.c, .int .u8 r3.op.k, .int .i64 r3.op.s, .int .u8 r3.op.fl, .int .u32 r3.op.fc, .int .u8 r3.op.fk, .int .i64 r3.op.fn, .int .i64 r3.op.fm, .int .u8 r3.op.al, .int .u32 r3.op.ac, .int .u8 r3.op.ak, .int .i64 r3.op.an, .int .u8 r3.op.tl, .int .u32 r3.op.tc, .slice A3 k3 c3, .int .i64 r3.co, .int .i64 r3.gr.u, .int .u8 r3.gr.l, .int .u32 r3.gr.c, .bool r3.gr.ok]) 0 _)
                    have T22 := T21.put (vs := ([.int .u8 r3.kd, .int .i64 r3.us, .int .u8 r3.op.kd, .int .u8 r3.op.l, .int .u32 r3.op.c, .int .u8 r3.op.k, .int .i64 r3.op.s, .int .u8 r3.op.fl, .int .u32 r3.op.fc, .int .u8 r3.op.fk, .int .i64 r3.op.fn, .int .i64 r3.op.fm, .int .u8 r3.op.al, .int .u32 r3.op.ac, .int .u8 r3.op.ak, .int .i64 r3.op.an, .int .u8 r3.op.tl, .int .u32 r3.op.tc, .slice A3 k3 c3, .int .i64 r3.co, .int .i64 r3.gr.u, .int .u8 r3.gr.l, .int .u32 r3.gr.c, .bool r3.gr.ok])) hne
                    generalize World.setCells _ g20 0 _ = X2 at s2 T22 ⊢
                    refine hK.out _ _ s2 (fun hHeld => ?_)
                    clear hK K
                    refine wpAnyH_ready (rs := [17]) (by kernel_rfl) (by simp) ?_
                    refine AllReadyH.cons rfl (fun K hK => ?_) AllReadyH.nil
                    rw [if_pos (by rfl)]
                    refine wp_store_mid 42 (.tmp 21) (.tmp 140) rfl g21 0 (#[.int .i64 s3, .int .i64 t3, .int .i64 i3, .int .i64 f3]) rfl rfl T22.th info_D (by simp [Value.oneCell']) ?_
                    (try simp only [Act.put, List.setIfInBounds_toArray, List.set_cons_zero, List.set_cons_succ])
                    have s4 := s2.trans (below_setCells g21 W.heap.size T22.ge ([.int .i64 s3, .int .i64 t3, .int .i64 i3, .int .i64 f3]) 0 _)
                    generalize World.setCells _ g21 0 _ = X3 at s4 ⊢
                    refine hK.out _ _ s4 (fun hHeld => ?_)
                    clear hK K
                    refine wpAnyH_take (i := 18) (oi := { dst := some 22, op := Op.assign (Operand.tmp 141), type := 34, pos := "outright.go:77", after := #[{ on := 13, ground := Ground.data }, { on := 17, ground := Ground.chain }, { on := 0, ground := Ground.phase }, { on := 1, ground := Ground.phase }, { on := 2, ground := Ground.phase }, { on := 3, ground := Ground.phase }, { on := 4, ground := Ground.phase }, { on := 5, ground := Ground.phase }, { on := 6, ground := Ground.phase }, { on := 7, ground := Ground.phase }, { on := 8, ground := Ground.phase }, { on := 9, ground := Ground.phase }, { on := 10, ground := Ground.phase }, { on := 11, ground := Ground.phase }, { on := 12, ground := Ground.phase }, { on := 13, ground := Ground.phase }, { on := 14, ground := Ground.phase }, { on := 15, ground := Ground.phase }, { on := 16, ground := Ground.phase }, { on := 17, ground := Ground.phase }], guard := none }) (v := ?_) rfl (by kernel_rfl) (by kernel_rfl) (by kernel_rfl) (fun _ _ _ h => h) (Or.inl ⟨by rfl, ?_⟩) hHeld ?_
                    rotate_left
                    · intro w9 hSw
                      (try dsimp only at hSw)
                      go_simp <;> with_reducible rfl
                    (try simp only [Act.put, List.setIfInBounds_toArray, List.set_cons_zero, List.set_cons_succ])
                    refine wpAnyH_done (by kernel_rfl) ?_ _
                    clear hHeld
                    go_wp2_with fail
                    go_meet
                    case rel => exact ⟨rfl, s4⟩
            · go_simp
              go_wp2
              have b := below1 V36 (.cells (#[.int .i64 0, .int .i64 0, .int .i64 0, .int .i64 0]) 42)
              obtain ⟨g21, hg21, T21⟩ : ∃ g, V36.heap.size = g ∧ TdF W (V36.alloc (.cells (#[.int .i64 0, .int .i64 0, .int .i64 0, .int .i64 0]) 42)) g := ⟨_, rfl, tdf_new s⟩
              have hne : g20 ≠ g21 := by have := T20.lt; omega
              replace T20 := T20.keep b
              replace s := below_in s b
              clear b
              rw [hg21]
              generalize World.alloc V36 _ = V46 at s T21 T20 ⊢
              clear hg21
              refine hK.out _ _ s (fun hHeld => ?_)
              clear hK K
              refine wpAnyH_ready (rs := [3]) (by kernel_rfl) (by simp) ?_
              refine AllReadyH.cons rfl (fun K hK => ?_) AllReadyH.nil
              · refine step_append_c (w0 := W) rfl (.const (.slice none 0 0)) (.tmp 131) rfl rfl none 0 0 [] (hid rfl) rfl (CpB.nil W V46 s) A2 k c2 (l.take k) HLT rfl HRT.out (by omega) ?_
                intro A5 c5 V47 cp nr
                rw [List.nil_append] at cp
                rw [Nat.zero_add]
                replace T20 := T20.keepn nr
                replace T21 := T21.keepn nr
                clear nr
                replace s := cp.be
                refine hK.out _ _ s (fun hHeld => ?_)
                clear hK K
                refine wpAnyH_ready (rs := [8]) (by kernel_rfl) (by simp) ?_
                refine AllReadyH.cons rfl (fun K hK => ?_) AllReadyH.nil
                · refine step_append_c (w0 := W) rfl (.tmp 132) (.tmp 136) rfl rfl A5 k c5 (l.take k) HLT rfl cp D (n2 - (k + 1)) (c2 - (k + 1)) (l.drop (k + 1)) HLD rfl HRD.out (by omega) ?_
                  intro A6 c6 V48 cp6 nr
                  replace T20 := T20.keepn nr
                  replace T21 := T21.keepn nr
                  clear nr
                  replace s := cp6.be
                  rw [show k + (n2 - (k + 1)) = n2 - 1 by omega]
                  clear cp
                  refine hK.out _ _ s (fun hHeld => ?_)
                  clear hK K
                  refine wpAnyH_ready (rs := [9]) (by kernel_rfl) (by simp) ?_
                  refine AllReadyH.cons rfl (fun K hK => ?_) AllReadyH.nil
                  · go_simp
                    go_wp2_with (go_at_call 7; refine (rec_get_of A6 (n2 - 1) c6 (l.take k ++ l.drop (k + 1)) HLC (by omega) _ cp6.rd).mono ?_; rintro e V49 ⟨r3, A3, k3, c3, s3, t3, i3, f3, j3, rfl, hg3, hk3, ho3, b⟩)
                    obtain ⟨-, -, -, -, -, e3⟩ := got_not HNC.out hg3
                    subst e3
                    clear hg3 hk3 ho3 cp6
                    replace T20 := T20.keep b
                    replace T21 := T21.keep b
                    replace s := below_in s b
                    clear b
                    refine hK.out _ _ s (fun hHeld => ?_)
                    clear hK K
                    refine wpAnyH_take (i := 10) (oi := { dst := some 128, op := Op.move (Operand.tmp 138), type := 43, pos := "outright.go:77", after := #[{ on := 9, ground := Ground.data }], guard := none }) (v := ?_) rfl (by kernel_rfl) (by kernel_rfl) (by kernel_rfl) (fun _ _ _ h => h) (Or.inl ⟨by rfl, ?_⟩) hHeld ?_
                    rotate_left
                    · intro w9 hSw
                      (try dsimp only at hSw)
                      go_simp <;> with_reducible rfl
                    (try simp only [Act.put, List.setIfInBounds_toArray, List.set_cons_zero, List.set_cons_succ])
                    refine wpAnyH_take (i := 11) (oi := { dst := some 139, op := Op.extract (Operand.tmp 128) 0, type := 40, pos := "outright.go:77", after := #[{ on := 10, ground := Ground.data }], guard := none }) (v := ?_) rfl (by kernel_rfl) (by kernel_rfl) (by kernel_rfl) (fun _ _ _ h => h) (Or.inl ⟨by rfl, ?_⟩) hHeld ?_
                    rotate_left
                    · intro w9 hSw
                      (try dsimp only at hSw)
                      go_simp <;> with_reducible rfl
                    (try simp only [Act.put, List.setIfInBounds_toArray, List.set_cons_zero, List.set_cons_succ])
                    refine wpAnyH_take (i := 12) (oi := { dst := some 140, op := Op.extract (Operand.tmp 128) 1, type := 42, pos := "outright.go:77", after := #[{ on := 10, ground := Ground.data }, { on := 16, ground := Ground.gcOnly Departure.lateStores }], guard := none }) (v := ?_) rfl (by kernel_rfl) (by kernel_rfl) (by kernel_rfl) (fun _ _ _ h => h) (Or.inl ⟨by rfl, ?_⟩) hHeld ?_
                    rotate_left
                    · intro w9 hSw
                      (try dsimp only at hSw)
                      go_simp <;> with_reducible rfl
                    (try simp only [Act.put, List.setIfInBounds_toArray, List.set_cons_zero, List.set_cons_succ])
                    refine wpAnyH_take (i := 13) (oi := { dst := some 141, op := Op.extract (Operand.tmp 128) 2, type := 34, pos := "outright.go:77", after := #[{ on := 10, ground := Ground.data }, { on := 17, ground := Ground.gcOnly Departure.lateStores }], guard := none }) (v := ?_) rfl (by kernel_rfl) (by kernel_rfl) (by kernel_rfl) (fun _ _ _ h => h) (Or.inl ⟨by rfl, ?_⟩) hHeld ?_
                    rotate_left
                    · intro w9 hSw
                      (try dsimp only at hSw)
                      go_simp <;> with_reducible rfl
                    (try simp only [Act.put, List.setIfInBounds_toArray, List.set_cons_zero, List.set_cons_succ])
                    refine wpAnyH_ready (rs := [16]) (by kernel_rfl) (by simp) ?_
                    refine AllReadyH.cons rfl (fun K hK => ?_) AllReadyH.nil
                    rw [if_pos (by rfl)]
                    refine wp_store_mid 40 (.tmp 20) (.tmp 139) rfl g20 0 (#[.int .u8 r3.kd, .int .i64 r3.us, .int .u8 r3.op.kd, .int .u8 r3.op.l, .int .u32 r3.op.c, .int .u8 r3.op.k, .int .i64 r3.op.s, .int .u8 r3.op.fl, .int .u32 r3.op.fc, .int .u8 r3.op.fk, .int .i64 r3.op.fn, .int .i64 r3.op.fm, .int .u8 r3.op.al, .int .u32 r3.op.ac, .int .u8 r3.op.ak, .int .i64 r3.op.an, .int .u8 r3.op.tl, .int .u32 r3.op.tc, .slice A3 k3 c3, .int .i64 r3.co, .int .i64 r3.gr.u, .int .u8 r3.gr.l, .int .u32 r3.gr.c, .bool r3.gr.ok]) rfl rfl T20.th info_R (by simp [Value.oneCell']) ?_
                    (try simp only [Act.put, List.setIfInBounds_toArray, List.set_cons_zero, List.set_cons_succ])
                    have s2 := s.trans (below_setCells g20 W.heap.size T20.ge ([.int .u8 r3.kd, .int .i64 r3.us, .int .u8 r3.op.kd, .int .u8 r3.op.l, .int .u32 r3.op.c, .int .u8 r3.op.k, .int .i64 r3.op.s, .int .u8 r3.op.fl, .int .u32 r3.op.fc, .int .u8 r3.op.fk, .int .i64 r3.op.fn, .int .i64 r3.op.fm, .int .u8 r3.op.al, .int .u32 r3.op.ac, .int .u8 r3.op.ak, .int .i64 r3.op.an, .int .u8 r3.op.tl, .int .u32 r3.op.tc, .slice A3 k3 c3, .int .i64 r3.co, .int .i64 r3.gr.u, .int .u8 r3.gr.l, .int .u32 r3.gr.c, .bool r3.gr.ok]) 0 _)
                    have T22 := T21.put (vs := ([.int .u8 r3.kd, .int .i64 r3.us, .int .u8 r3.op.kd, .int .u8 r3.op.l, .int .u32 r3.op.c, .int .u8 r3.op.k, .int .i64 r3.op.s, .int .u8 r3.op.fl, .int .u32 r3.op.fc, .int .u8 r3.op.fk, .int .i64 r3.op.fn, .int .i64 r3.op.fm, .int .u8 r3.op.al, .int .u32 r3.op.ac, .int .u8 r3.op.ak, .int .i64 r3.op.an, .int .u8 r3.op.tl, .int .u32 r3.op.tc, .slice A3 k3 c3, .int .i64 r3.co, .int .i64 r3.gr.u, .int .u8 r3.gr.l, .int .u32 r3.gr.c, .bool r3.gr.ok])) hne
                    generalize World.setCells _ g20 0 _ = X2 at s2 T22 ⊢
                    refine hK.out _ _ s2 (fun hHeld => ?_)
                    clear hK K
                    refine wpAnyH_ready (rs := [17]) (by kernel_rfl) (by simp) ?_
                    refine AllReadyH.cons rfl (fun K hK => ?_) AllReadyH.nil
                    rw [if_pos (by rfl)]
                    refine wp_store_mid 42 (.tmp 21) (.tmp 140) rfl g21 0 (#[.int .i64 s3, .int .i64 t3, .int .i64 i3, .int .i64 f3]) rfl rfl T22.th info_D (by simp [Value.oneCell']) ?_
                    (try simp only [Act.put, List.setIfInBounds_toArray, List.set_cons_zero, List.set_cons_succ])
                    have s4 := s2.trans (below_setCells g21 W.heap.size T22.ge ([.int .i64 s3, .int .i64 t3, .int .i64 i3, .int .i64 f3]) 0 _)
                    generalize World.setCells _ g21 0 _ = X3 at s4 ⊢
                    refine hK.out _ _ s4 (fun hHeld => ?_)
                    clear hK K
                    refine wpAnyH_take (i := 18) (oi := { dst := some 22, op := Op.assign (Operand.tmp 141), type := 34, pos := "outright.go:77", after := #[{ on := 13, ground := Ground.data }, { on := 17, ground := Ground.chain }, { on := 0, ground := Ground.phase }, { on := 1, ground := Ground.phase }, { on := 2, ground := Ground.phase }, { on := 3, ground := Ground.phase }, { on := 4, ground := Ground.phase }, { on := 5, ground := Ground.phase }, { on := 6, ground := Ground.phase }, { on := 7, ground := Ground.phase }, { on := 8, ground := Ground.phase }, { on := 9, ground := Ground.phase }, { on := 10, ground := Ground.phase }, { on := 11, ground := Ground.phase }, { on := 12, ground := Ground.phase }, { on := 13, ground := Ground.phase }, { on := 14, ground := Ground.phase }, { on := 15, ground := Ground.phase }, { on := 16, ground := Ground.phase }, { on := 17, ground := Ground.phase }], guard := none }) (v := ?_) rfl (by kernel_rfl) (by kernel_rfl) (by kernel_rfl) (fun _ _ _ h => h) (Or.inl ⟨by rfl, ?_⟩) hHeld ?_
                    rotate_left
                    · intro w9 hSw
                      (try dsimp only at hSw)
                      go_simp <;> with_reducible rfl
                    (try simp only [Act.put, List.setIfInBounds_toArray, List.set_cons_zero, List.set_cons_succ])
                    refine wpAnyH_done (by kernel_rfl) ?_ _
                    clear hHeld
                    go_wp2_with fail
                    go_meet
                    case rel => exact ⟨rfl, s4⟩
          · go_simp
            go_wp2
            have b := below1 V0 (.cells (#[.int .i64 0, .int .i64 0, .int .i64 0, .int .i64 0]) 42)
            obtain ⟨g21, hg21, T21⟩ : ∃ g, V0.heap.size = g ∧ TdF W (V0.alloc (.cells (#[.int .i64 0, .int .i64 0, .int .i64 0, .int .i64 0]) 42)) g := ⟨_, rfl, tdf_new s⟩
            replace s := below_in s b
            clear b
            rw [hg21]
            generalize World.alloc V0 _ = V50 at s T21 ⊢
            clear hg21
            refine hK.out _ _ s (fun hHeld => ?_)
            clear hK K
            refine wpAnyH_ready (rs := [3, 14]) (by kernel_rfl) (by simp) ?_
            refine AllReadyH.cons rfl (fun K hK => ?_) (AllReadyH.cons rfl (fun K hK => ?_) AllReadyH.nil)
            · refine step_append_c (w0 := W) rfl (.const (.slice none 0 0)) (.tmp 131) rfl rfl none 0 0 [] (hid rfl) rfl (CpB.nil W V50 s) A2 k c2 (l.take k) HLT rfl HRT.out (by omega) ?_
              intro A5 c5 V51 cp nr
              rw [List.nil_append] at cp
              rw [Nat.zero_add]
              replace T21 := T21.keepn nr
              clear nr
              replace s := cp.be
              refine hK.out _ _ s (fun hHeld => ?_)
              clear hK K
              refine wpAnyH_ready (rs := [8, 14]) (by kernel_rfl) (by simp) ?_
              refine AllReadyH.cons rfl (fun K hK => ?_) (AllReadyH.cons rfl (fun K hK => ?_) AllReadyH.nil)
              · refine step_append_c (w0 := W) rfl (.tmp 132) (.tmp 136) rfl rfl A5 k c5 (l.take k) HLT rfl cp D (n2 - (k + 1)) (c2 - (k + 1)) (l.drop (k + 1)) HLD rfl HRD.out (by omega) ?_
                intro A6 c6 V52 cp6 nr
                replace T21 := T21.keepn nr
                clear nr
                replace s := cp6.be
                rw [show k + (n2 - (k + 1)) = n2 - 1 by omega]
                clear cp
                refine hK.out _ _ s (fun hHeld => ?_)
                clear hK K
                refine wpAnyH_ready (rs := [9, 14]) (by kernel_rfl) (by simp) ?_
                refine AllReadyH.cons rfl (fun K hK => ?_) (AllReadyH.cons rfl (fun K hK => ?_) AllReadyH.nil)
                · go_simp
                  go_wp2_with (go_at_call 7; refine (rec_get_of A6 (n2 - 1) c6 (l.take k ++ l.drop (k + 1)) HLC (by omega) _ cp6.rd).mono ?_; rintro e V53 ⟨r3, A3, k3, c3, s3, t3, i3, f3, j3, rfl, hg3, hk3, ho3, b⟩)
                  obtain ⟨-, -, -, -, -, e3⟩ := got_not HNC.out hg3
                  subst e3
                  clear hg3 hk3 ho3 cp6
                  replace T21 := T21.keep b
                  replace s := below_in s b
                  clear b
                  refine hK.out _ _ s (fun hHeld => ?_)
                  clear hK K
                  refine wpAnyH_take (i := 10) (oi := { dst := some 128, op := Op.move (Operand.tmp 138), type := 43, pos := "outright.go:77", after := #[{ on := 9, ground := Ground.data }], guard := none }) (v := ?_) rfl (by kernel_rfl) (by kernel_rfl) (by kernel_rfl) (fun _ _ _ h => h) (Or.inl ⟨by rfl, ?_⟩) hHeld ?_
                  rotate_left
                  · intro w9 hSw
                    (try dsimp only at hSw)
                    go_simp <;> with_reducible rfl
                  (try simp only [Act.put, List.setIfInBounds_toArray, List.set_cons_zero, List.set_cons_succ])
                  refine wpAnyH_take (i := 11) (oi := { dst := some 139, op := Op.extract (Operand.tmp 128) 0, type := 40, pos := "outright.go:77", after := #[{ on := 10, ground := Ground.data }], guard := none }) (v := ?_) rfl (by kernel_rfl) (by kernel_rfl) (by kernel_rfl) (fun _ _ _ h => h) (Or.inl ⟨by rfl, ?_⟩) hHeld ?_
                  rotate_left
                  · intro w9 hSw
                    (try dsimp only at hSw)
                    go_simp <;> with_reducible rfl
                  (try simp only [Act.put, List.setIfInBounds_toArray, List.set_cons_zero, List.set_cons_succ])
                  refine wpAnyH_take (i := 12) (oi := { dst := some 140, op := Op.extract (Operand.tmp 128) 1, type := 42, pos := "outright.go:77", after := #[{ on := 10, ground := Ground.data }, { on := 16, ground := Ground.gcOnly Departure.lateStores }], guard := none }) (v := ?_) rfl (by kernel_rfl) (by kernel_rfl) (by kernel_rfl) (fun _ _ _ h => h) (Or.inl ⟨by rfl, ?_⟩) hHeld ?_
                  rotate_left
                  · intro w9 hSw
                    (try dsimp only at hSw)
                    go_simp <;> with_reducible rfl
                  (try simp only [Act.put, List.setIfInBounds_toArray, List.set_cons_zero, List.set_cons_succ])
                  refine wpAnyH_take (i := 13) (oi := { dst := some 141, op := Op.extract (Operand.tmp 128) 2, type := 34, pos := "outright.go:77", after := #[{ on := 10, ground := Ground.data }, { on := 17, ground := Ground.gcOnly Departure.lateStores }], guard := none }) (v := ?_) rfl (by kernel_rfl) (by kernel_rfl) (by kernel_rfl) (fun _ _ _ h => h) (Or.inl ⟨by rfl, ?_⟩) hHeld ?_
                  rotate_left
                  · intro w9 hSw
                    (try dsimp only at hSw)
                    go_simp <;> with_reducible rfl
                  (try simp only [Act.put, List.setIfInBounds_toArray, List.set_cons_zero, List.set_cons_succ])
                  refine wpAnyH_ready (rs := [14]) (by kernel_rfl) (by simp) ?_
                  refine AllReadyH.cons rfl (fun K hK => ?_) AllReadyH.nil
                  · go_simp
                    go_wp2
                    have b := below1 V53 (.cells (#[.int .u8 0, .int .i64 0, .int .u8 0, .int .u8 0, .int .u32 0, .int .u8 0, .int .i64 0, .int .u8 0, .int .u32 0, .int .u8 0, .int .i64 0, .int .i64 0, .int .u8 0, .int .u32 0, .int .u8 0, .int .i64 0, .int .u8 0, .int .u32 0, .slice none 0 0, .int .i64 0, .int .i64 0, .int .u8 0, .int .u32 0, .bool false]) 40)
                    obtain ⟨g20, hg20, T20⟩ : ∃ g, V53.heap.size = g ∧ TrF W (V53.alloc (.cells (#[.int .u8 0, .int .i64 0, .int .u8 0, .int .u8 0, .int .u32 0, .int .u8 0, .int .i64 0, .int .u8 0, .int .u32 0, .int .u8 0, .int .i64 0, .int .i64 0, .int .u8 0, .int .u32 0, .int .u8 0, .int .i64 0, .int .u8 0, .int .u32 0, .slice none 0 0, .int .i64 0, .int .i64 0, .int .u8 0, .int .u32 0, .bool false]) 40)) g := ⟨_, rfl, trf_new s⟩
                    have hne : g20 ≠ g21 := by have := T21.lt; omega
                    replace T21 := T21.keep b
                    replace s := below_in s b
                    clear b
                    rw [hg20]
                    generalize World.alloc V53 _ = V54 at s T20 T21 ⊢
                    clear hg20
                    refine hK.out _ _ s (fun hHeld => ?_)
                    clear hK K
                    refine wpAnyH_ready (rs := [16]) (by kernel_rfl) (by simp) ?_
                    refine AllReadyH.cons rfl (fun K hK => ?_) AllReadyH.nil
                    rw [if_pos (by rfl)]
                    refine wp_store_mid 40 (.tmp 20) (.tmp 139) rfl g20 0 (#[.int .u8 r3.kd, .int .i64 r3.us, .int .u8 r3.op.kd, .int .u8 r3.op.l, .int .u32 r3.op.c, .int .u8 r3.op.k, .int .i64 r3.op.s, .int .u8 r3.op.fl, .int .u32 r3.op.fc, .int .u8 r3.op.fk, .int .i64 r3.op.fn, .int .i64 r3.op.fm, .int .u8 r3.op.al, .int .u32 r3.op.ac, .int .u8 r3.op.ak, .int .i64 r3.op.an, .int .u8 r3.op.tl, .int .u32 r3.op.tc, .slice A3 k3 c3, .int .i64 r3.co, .int .i64 r3.gr.u, .int .u8 r3.gr.l, .int .u32 r3.gr.c, .bool r3.gr.ok]) rfl rfl T20.th info_R (by simp [Value.oneCell']) ?_
                    (try simp only [Act.put, List.setIfInBounds_toArray, List.set_cons_zero, List.set_cons_succ])
                    have s2 := s.trans (below_setCells g20 W.heap.size T20.ge ([.int .u8 r3.kd, .int .i64 r3.us, .int .u8 r3.op.kd, .int .u8 r3.op.l, .int .u32 r3.op.c, .int .u8 r3.op.k, .int .i64 r3.op.s, .int .u8 r3.op.fl, .int .u32 r3.op.fc, .int .u8 r3.op.fk, .int .i64 r3.op.fn, .int .i64 r3.op.fm, .int .u8 r3.op.al, .int .u32 r3.op.ac, .int .u8 r3.op.ak, .int .i64 r3.op.an, .int .u8 r3.op.tl, .int .u32 r3.op.tc, .slice A3 k3 c3, .int .i64 r3.co, .int .i64 r3.gr.u, .int .u8 r3.gr.l, .int .u32 r3.gr.c, .bool r3.gr.ok]) 0 _)
                    have T22 := T21.put (vs := ([.int .u8 r3.kd, .int .i64 r3.us, .int .u8 r3.op.kd, .int .u8 r3.op.l, .int .u32 r3.op.c, .int .u8 r3.op.k, .int .i64 r3.op.s, .int .u8 r3.op.fl, .int .u32 r3.op.fc, .int .u8 r3.op.fk, .int .i64 r3.op.fn, .int .i64 r3.op.fm, .int .u8 r3.op.al, .int .u32 r3.op.ac, .int .u8 r3.op.ak, .int .i64 r3.op.an, .int .u8 r3.op.tl, .int .u32 r3.op.tc, .slice A3 k3 c3, .int .i64 r3.co, .int .i64 r3.gr.u, .int .u8 r3.gr.l, .int .u32 r3.gr.c, .bool r3.gr.ok])) hne
                    generalize World.setCells _ g20 0 _ = X2 at s2 T22 ⊢
                    refine hK.out _ _ s2 (fun hHeld => ?_)
                    clear hK K
                    refine wpAnyH_ready (rs := [17]) (by kernel_rfl) (by simp) ?_
                    refine AllReadyH.cons rfl (fun K hK => ?_) AllReadyH.nil
                    rw [if_pos (by rfl)]
                    refine wp_store_mid 42 (.tmp 21) (.tmp 140) rfl g21 0 (#[.int .i64 s3, .int .i64 t3, .int .i64 i3, .int .i64 f3]) rfl rfl T22.th info_D (by simp [Value.oneCell']) ?_
                    (try simp only [Act.put, List.setIfInBounds_toArray, List.set_cons_zero, List.set_cons_succ])
                    have s4 := s2.trans (below_setCells g21 W.heap.size T22.ge ([.int .i64 s3, .int .i64 t3, .int .i64 i3, .int .i64 f3]) 0 _)
                    generalize World.setCells _ g21 0 _ = X3 at s4 ⊢
                    refine hK.out _ _ s4 (fun hHeld => ?_)
                    clear hK K
                    refine wpAnyH_take (i := 18) (oi := { dst := some 22, op := Op.assign (Operand.tmp 141), type := 34, pos := "outright.go:77", after := #[{ on := 13, ground := Ground.data }, { on := 17, ground := Ground.chain }, { on := 0, ground := Ground.phase }, { on := 1, ground := Ground.phase }, { on := 2, ground := Ground.phase }, { on := 3, ground := Ground.phase }, { on := 4, ground := Ground.phase }, { on := 5, ground := Ground.phase }, { on := 6, ground := Ground.phase }, { on := 7, ground := Ground.phase }, { on := 8, ground := Ground.phase }, { on := 9, ground := Ground.phase }, { on := 10, ground := Ground.phase }, { on := 11, ground := Ground.phase }, { on := 12, ground := Ground.phase }, { on := 13, ground := Ground.phase }, { on := 14, ground := Ground.phase }, { on := 15, ground := Ground.phase }, { on := 16, ground := Ground.phase }, { on := 17, ground := Ground.phase }], guard := none }) (v := ?_) rfl (by kernel_rfl) (by kernel_rfl) (by kernel_rfl) (fun _ _ _ h => h) (Or.inl ⟨by rfl, ?_⟩) hHeld ?_
                    rotate_left
                    · intro w9 hSw
                      (try dsimp only at hSw)
                      go_simp <;> with_reducible rfl
                    (try simp only [Act.put, List.setIfInBounds_toArray, List.set_cons_zero, List.set_cons_succ])
                    refine wpAnyH_done (by kernel_rfl) ?_ _
                    clear hHeld
                    go_wp2_with fail
                    go_meet
                    case rel => exact ⟨rfl, s4⟩
                · go_simp
                  go_wp2
                  have b := below1 V52 (.cells (#[.int .u8 0, .int .i64 0, .int .u8 0, .int .u8 0, .int .u32 0, .int .u8 0, .int .i64 0, .int .u8 0, .int .u32 0, .int .u8 0, .int .i64 0, .int .i64 0, .int .u8 0, .int .u32 0, .int .u8 0, .int .i64 0, .int .u8 0, .int .u32 0, .slice none 0 0, .int .i64 0, .int .i64 0, .int .u8 0, .int .u32 0, .bool false]) 40)
                  obtain ⟨g20, hg20, T20⟩ : ∃ g, V52.heap.size = g ∧ TrF W (V52.alloc (.cells (#[.int .u8 0, .int .i64 0, .int .u8 0, .int .u8 0, .int .u32 0, .int .u8 0, .int .i64 0, .int .u8 0, .int .u32 0, .int .u8 0, .int .i64 0, .int .i64 0, .int .u8 0, .int .u32 0, .int .u8 0, .int .i64 0, .int .u8 0, .int .u32 0, .slice none 0 0, .int .i64 0, .int .i64 0, .int .u8 0, .int .u32 0, .bool false]) 40)) g := ⟨_, rfl, trf_new s⟩
                  have hne : g20 ≠ g21 := by have := T21.lt; omega
                  replace T21 := T21.keep b
                  replace cp6 := cp6.keep b
                  replace s := below_in s b
                  clear b
                  rw [hg20]
                  generalize World.alloc V52 _ = V55 at s T20 T21 cp6 ⊢
                  clear hg20
                  refine hK.out _ _ s (fun hHeld => ?_)
                  clear hK K
                  refine wpAnyH_ready (rs := [9]) (by kernel_rfl) (by simp) ?_
                  refine AllReadyH.cons rfl (fun K hK => ?_) AllReadyH.nil
                  · go_simp
                    go_wp2_with (go_at_call 7; refine (rec_get_of A6 (n2 - 1) c6 (l.take k ++ l.drop (k + 1)) HLC (by omega) _ cp6.rd).mono ?_; rintro e V56 ⟨r3, A3, k3, c3, s3, t3, i3, f3, j3, rfl, hg3, hk3, ho3, b⟩)
                    obtain ⟨-, -, -, -, -, e3⟩ := got_not HNC.out hg3
                    subst e3
                    clear hg3 hk3 ho3 cp6
                    replace T20 := T20.keep b
                    replace T21 := T21.keep b
                    replace s := below_in s b
                    clear b
                    refine hK.out _ _ s (fun hHeld => ?_)
                    clear hK K
                    refine wpAnyH_take (i := 10) (oi := { dst := some 128, op := Op.move (Operand.tmp 138), type := 43, pos := "outright.go:77", after := #[{ on := 9, ground := Ground.data }], guard := none }) (v := ?_) rfl (by kernel_rfl) (by kernel_rfl) (by kernel_rfl) (fun _ _ _ h => h) (Or.inl ⟨by rfl, ?_⟩) hHeld ?_
                    rotate_left
                    · intro w9 hSw
                      (try dsimp only at hSw)
                      go_simp <;> with_reducible rfl
                    (try simp only [Act.put, List.setIfInBounds_toArray, List.set_cons_zero, List.set_cons_succ])
                    refine wpAnyH_take (i := 11) (oi := { dst := some 139, op := Op.extract (Operand.tmp 128) 0, type := 40, pos := "outright.go:77", after := #[{ on := 10, ground := Ground.data }], guard := none }) (v := ?_) rfl (by kernel_rfl) (by kernel_rfl) (by kernel_rfl) (fun _ _ _ h => h) (Or.inl ⟨by rfl, ?_⟩) hHeld ?_
                    rotate_left
                    · intro w9 hSw
                      (try dsimp only at hSw)
                      go_simp <;> with_reducible rfl
                    (try simp only [Act.put, List.setIfInBounds_toArray, List.set_cons_zero, List.set_cons_succ])
                    refine wpAnyH_take (i := 12) (oi := { dst := some 140, op := Op.extract (Operand.tmp 128) 1, type := 42, pos := "outright.go:77", after := #[{ on := 10, ground := Ground.data }, { on := 16, ground := Ground.gcOnly Departure.lateStores }], guard := none }) (v := ?_) rfl (by kernel_rfl) (by kernel_rfl) (by kernel_rfl) (fun _ _ _ h => h) (Or.inl ⟨by rfl, ?_⟩) hHeld ?_
                    rotate_left
                    · intro w9 hSw
                      (try dsimp only at hSw)
                      go_simp <;> with_reducible rfl
                    (try simp only [Act.put, List.setIfInBounds_toArray, List.set_cons_zero, List.set_cons_succ])
                    refine wpAnyH_take (i := 13) (oi := { dst := some 141, op := Op.extract (Operand.tmp 128) 2, type := 34, pos := "outright.go:77", after := #[{ on := 10, ground := Ground.data }, { on := 17, ground := Ground.gcOnly Departure.lateStores }], guard := none }) (v := ?_) rfl (by kernel_rfl) (by kernel_rfl) (by kernel_rfl) (fun _ _ _ h => h) (Or.inl ⟨by rfl, ?_⟩) hHeld ?_
                    rotate_left
                    · intro w9 hSw
                      (try dsimp only at hSw)
                      go_simp <;> with_reducible rfl
                    (try simp only [Act.put, List.setIfInBounds_toArray, List.set_cons_zero, List.set_cons_succ])
                    refine wpAnyH_ready (rs := [16]) (by kernel_rfl) (by simp) ?_
                    refine AllReadyH.cons rfl (fun K hK => ?_) AllReadyH.nil
                    rw [if_pos (by rfl)]
                    refine wp_store_mid 40 (.tmp 20) (.tmp 139) rfl g20 0 (#[.int .u8 r3.kd, .int .i64 r3.us, .int .u8 r3.op.kd, .int .u8 r3.op.l, .int .u32 r3.op.c, .int .u8 r3.op.k, .int .i64 r3.op.s, .int .u8 r3.op.fl, .int .u32 r3.op.fc, .int .u8 r3.op.fk, .int .i64 r3.op.fn, .int .i64 r3.op.fm, .int .u8 r3.op.al, .int .u32 r3.op.ac, .int .u8 r3.op.ak, .int .i64 r3.op.an, .int .u8 r3.op.tl, .int .u32 r3.op.tc, .slice A3 k3 c3, .int .i64 r3.co, .int .i64 r3.gr.u, .int .u8 r3.gr.l, .int .u32 r3.gr.c, .bool r3.gr.ok]) rfl rfl T20.th info_R (by simp [Value.oneCell']) ?_
                    (try simp only [Act.put, List.setIfInBounds_toArray, List.set_cons_zero, List.set_cons_succ])
                    have s2 := s.trans (below_setCells g20 W.heap.size T20.ge ([.int .u8 r3.kd, .int .i64 r3.us, .int .u8 r3.op.kd, .int .u8 r3.op.l, .int .u32 r3.op.c, .int .u8 r3.op.k, .int .i64 r3.op.s, .int .u8 r3.op.fl, .int .u32 r3.op.fc, .int .u8 r3.op.fk, .int .i64 r3.op.fn, .int .i64 r3.op.fm, .int .u8 r3.op.al, .int .u32 r3.op.ac, .int .u8 r3.op.ak, .int .i64 r3.op.an, .int .u8 r3.op.tl, .int .u32 r3.op.tc, .slice A3 k3 c3, .int .i64 r3.co, .int .i64 r3.gr.u, .int .u8 r3.gr.l, .int .u32 r3.gr.c, .bool r3.gr.ok]) 0 _)
                    have T22 := T21.put (vs := ([.int .u8 r3.kd, .int .i64 r3.us, .int .u8 r3.op.kd, .int .u8 r3.op.l, .int .u32 r3.op.c, .int .u8 r3.op.k, .int .i64 r3.op.s, .int .u8 r3.op.fl, .int .u32 r3.op.fc, .int .u8 r3.op.fk, .int .i64 r3.op.fn, .int .i64 r3.op.fm, .int .u8 r3.op.al, .int .u32 r3.op.ac, .int .u8 r3.op.ak, .int .i64 r3.op.an, .int .u8 r3.op.tl, .int .u32 r3.op.tc, .slice A3 k3 c3, .int .i64 r3.co, .int .i64 r3.gr.u, .int .u8 r3.gr.l, .int .u32 r3.gr.c, .bool r3.gr.ok])) hne
                    generalize World.setCells _ g20 0 _ = X2 at s2 T22 ⊢
                    refine hK.out _ _ s2 (fun hHeld => ?_)
                    clear hK K
                    refine wpAnyH_ready (rs := [17]) (by kernel_rfl) (by simp) ?_
                    refine AllReadyH.cons rfl (fun K hK => ?_) AllReadyH.nil
                    rw [if_pos (by rfl)]
                    refine wp_store_mid 42 (.tmp 21) (.tmp 140) rfl g21 0 (#[.int .i64 s3, .int .i64 t3, .int .i64 i3, .int .i64 f3]) rfl rfl T22.th info_D (by simp [Value.oneCell']) ?_
                    (try simp only [Act.put, List.setIfInBounds_toArray, List.set_cons_zero, List.set_cons_succ])
                    have s4 := s2.trans (below_setCells g21 W.heap.size T22.ge ([.int .i64 s3, .int .i64 t3, .int .i64 i3, .int .i64 f3]) 0 _)
                    generalize World.setCells _ g21 0 _ = X3 at s4 ⊢
                    refine hK.out _ _ s4 (fun hHeld => ?_)
                    clear hK K
                    refine wpAnyH_take (i := 18) (oi := { dst := some 22, op := Op.assign (Operand.tmp 141), type := 34, pos := "outright.go:77", after := #[{ on := 13, ground := Ground.data }, { on := 17, ground := Ground.chain }, { on := 0, ground := Ground.phase }, { on := 1, ground := Ground.phase }, { on := 2, ground := Ground.phase }, { on := 3, ground := Ground.phase }, { on := 4, ground := Ground.phase }, { on := 5, ground := Ground.phase }, { on := 6, ground := Ground.phase }, { on := 7, ground := Ground.phase }, { on := 8, ground := Ground.phase }, { on := 9, ground := Ground.phase }, { on := 10, ground := Ground.phase }, { on := 11, ground := Ground.phase }, { on := 12, ground := Ground.phase }, { on := 13, ground := Ground.phase }, { on := 14, ground := Ground.phase }, { on := 15, ground := Ground.phase }, { on := 16, ground := Ground.phase }, { on := 17, ground := Ground.phase }], guard := none }) (v := ?_) rfl (by kernel_rfl) (by kernel_rfl) (by kernel_rfl) (fun _ _ _ h => h) (Or.inl ⟨by rfl, ?_⟩) hHeld ?_
                    rotate_left
                    · intro w9 hSw
                      (try dsimp only at hSw)
                      go_simp <;> with_reducible rfl
                    (try simp only [Act.put, List.setIfInBounds_toArray, List.set_cons_zero, List.set_cons_succ])
                    refine wpAnyH_done (by kernel_rfl) ?_ _
                    clear hHeld
                    go_wp2_with fail
                    go_meet
                    case rel => exact ⟨rfl, s4⟩
              · go_simp
                go_wp2
                have b := below1 V51 (.cells (#[.int .u8 0, .int .i64 0, .int .u8 0, .int .u8 0, .int .u32 0, .int .u8 0, .int .i64 0, .int .u8 0, .int .u32 0, .int .u8 0, .int .i64 0, .int .i64 0, .int .u8 0, .int .u32 0, .int .u8 0, .int .i64 0, .int .u8 0, .int .u32 0, .slice none 0 0, .int .i64 0, .int .i64 0, .int .u8 0, .int .u32 0, .bool false]) 40)
                obtain ⟨g20, hg20, T20⟩ : ∃ g, V51.heap.size = g ∧ TrF W (V51.alloc (.cells (#[.int .u8 0, .int .i64 0, .int .u8 0, .int .u8 0, .int .u32 0, .int .u8 0, .int .i64 0, .int .u8 0, .int .u32 0, .int .u8 0, .int .i64 0, .int .i64 0, .int .u8 0, .int .u32 0, .int .u8 0, .int .i64 0, .int .u8 0, .int .u32 0, .slice none 0 0, .int .i64 0, .int .i64 0, .int .u8 0, .int .u32 0, .bool false]) 40)) g := ⟨_, rfl, trf_new s⟩
                have hne : g20 ≠ g21 := by have := T21.lt; omega
                replace T21 := T21.keep b
                replace cp := cp.keep b
                replace s := below_in s b
                clear b
                rw [hg20]
                generalize World.alloc V51 _ = V57 at s T20 T21 cp ⊢
                clear hg20
                refine hK.out _ _ s (fun hHeld => ?_)
                clear hK K
                refine wpAnyH_ready (rs := [8]) (by kernel_rfl) (by simp) ?_
                refine AllReadyH.cons rfl (fun K hK => ?_) AllReadyH.nil
                · refine step_append_c (w0 := W) rfl (.tmp 132) (.tmp 136) rfl rfl A5 k c5 (l.take k) HLT rfl cp D (n2 - (k + 1)) (c2 - (k + 1)) (l.drop (k + 1)) HLD rfl HRD.out (by omega) ?_
                  intro A6 c6 V58 cp6 nr
                  replace T20 := T20.keepn nr
                  replace T21 := T21.keepn nr
                  clear nr
                  replace s := cp6.be
                  rw [show k + (n2 - (k + 1)) = n2 - 1 by omega]
                  clear cp
                  refine hK.out _ _ s (fun hHeld => ?_)
                  clear hK K
                  refine wpAnyH_ready (rs := [9]) (by kernel_rfl) (by simp) ?_
                  refine AllReadyH.cons rfl (fun K hK => ?_) AllReadyH.nil
                  · go_simp
                    go_wp2_with (go_at_call 7; refine (rec_get_of A6 (n2 - 1) c6 (l.take k ++ l.drop (k + 1)) HLC (by omega) _ cp6.rd).mono ?_; rintro e V59 ⟨r3, A3, k3, c3, s3, t3, i3, f3, j3, rfl, hg3, hk3, ho3, b⟩)
                    obtain ⟨-, -, -, -, -, e3⟩ := got_not HNC.out hg3
                    subst e3
                    clear hg3 hk3 ho3 cp6
                    replace T20 := T20.keep b
                    replace T21 := T21.keep b
                    replace s := below_in s b
                    clear b
                    refine hK.out _ _ s (fun hHeld => ?_)
                    clear hK K
                    refine wpAnyH_take (i := 10) (oi := { dst := some 128, op := Op.move (Operand.tmp 138), type := 43, pos := "outright.go:77", after := #[{ on := 9, ground := Ground.data }], guard := none }) (v := ?_) rfl (by kernel_rfl) (by kernel_rfl) (by kernel_rfl) (fun _ _ _ h => h) (Or.inl ⟨by rfl, ?_⟩) hHeld ?_
                    rotate_left
                    · intro w9 hSw
                      (try dsimp only at hSw)
                      go_simp <;> with_reducible rfl
                    (try simp only [Act.put, List.setIfInBounds_toArray, List.set_cons_zero, List.set_cons_succ])
                    refine wpAnyH_take (i := 11) (oi := { dst := some 139, op := Op.extract (Operand.tmp 128) 0, type := 40, pos := "outright.go:77", after := #[{ on := 10, ground := Ground.data }], guard := none }) (v := ?_) rfl (by kernel_rfl) (by kernel_rfl) (by kernel_rfl) (fun _ _ _ h => h) (Or.inl ⟨by rfl, ?_⟩) hHeld ?_
                    rotate_left
                    · intro w9 hSw
                      (try dsimp only at hSw)
                      go_simp <;> with_reducible rfl
                    (try simp only [Act.put, List.setIfInBounds_toArray, List.set_cons_zero, List.set_cons_succ])
                    refine wpAnyH_take (i := 12) (oi := { dst := some 140, op := Op.extract (Operand.tmp 128) 1, type := 42, pos := "outright.go:77", after := #[{ on := 10, ground := Ground.data }, { on := 16, ground := Ground.gcOnly Departure.lateStores }], guard := none }) (v := ?_) rfl (by kernel_rfl) (by kernel_rfl) (by kernel_rfl) (fun _ _ _ h => h) (Or.inl ⟨by rfl, ?_⟩) hHeld ?_
                    rotate_left
                    · intro w9 hSw
                      (try dsimp only at hSw)
                      go_simp <;> with_reducible rfl
                    (try simp only [Act.put, List.setIfInBounds_toArray, List.set_cons_zero, List.set_cons_succ])
                    refine wpAnyH_take (i := 13) (oi := { dst := some 141, op := Op.extract (Operand.tmp 128) 2, type := 34, pos := "outright.go:77", after := #[{ on := 10, ground := Ground.data }, { on := 17, ground := Ground.gcOnly Departure.lateStores }], guard := none }) (v := ?_) rfl (by kernel_rfl) (by kernel_rfl) (by kernel_rfl) (fun _ _ _ h => h) (Or.inl ⟨by rfl, ?_⟩) hHeld ?_
                    rotate_left
                    · intro w9 hSw
                      (try dsimp only at hSw)
                      go_simp <;> with_reducible rfl
                    (try simp only [Act.put, List.setIfInBounds_toArray, List.set_cons_zero, List.set_cons_succ])
                    refine wpAnyH_ready (rs := [16]) (by kernel_rfl) (by simp) ?_
                    refine AllReadyH.cons rfl (fun K hK => ?_) AllReadyH.nil
                    rw [if_pos (by rfl)]
                    refine wp_store_mid 40 (.tmp 20) (.tmp 139) rfl g20 0 (#[.int .u8 r3.kd, .int .i64 r3.us, .int .u8 r3.op.kd, .int .u8 r3.op.l, .int .u32 r3.op.c, .int .u8 r3.op.k, .int .i64 r3.op.s, .int .u8 r3.op.fl, .int .u32 r3.op.fc, .int .u8 r3.op.fk, .int .i64 r3.op.fn, .int .i64 r3.op.fm, .int .u8 r3.op.al, .int .u32 r3.op.ac, .int .u8 r3.op.ak, .int .i64 r3.op.an, .int .u8 r3.op.tl, .int .u32 r3.op.tc, .slice A3 k3 c3, .int .i64 r3.co, .int .i64 r3.gr.u, .int .u8 r3.gr.l, .int .u32 r3.gr.c, .bool r3.gr.ok]) rfl rfl T20.th info_R (by simp [Value.oneCell']) ?_
                    (try simp only [Act.put, List.setIfInBounds_toArray, List.set_cons_zero, List.set_cons_succ])
                    have s2 := s.trans (below_setCells g20 W.heap.size T20.ge ([.int .u8 r3.kd, .int .i64 r3.us, .int .u8 r3.op.kd, .int .u8 r3.op.l, .int .u32 r3.op.c, .int .u8 r3.op.k, .int .i64 r3.op.s, .int .u8 r3.op.fl, .int .u32 r3.op.fc, .int .u8 r3.op.fk, .int .i64 r3.op.fn, .int .i64 r3.op.fm, .int .u8 r3.op.al, .int .u32 r3.op.ac, .int .u8 r3.op.ak, .int .i64 r3.op.an, .int .u8 r3.op.tl, .int .u32 r3.op.tc, .slice A3 k3 c3, .int .i64 r3.co, .int .i64 r3.gr.u, .int .u8 r3.gr.l, .int .u32 r3.gr.c, .bool r3.gr.ok]) 0 _)
                    have T22 := T21.put (vs := ([.int .u8 r3.kd, .int .i64 r3.us, .int .u8 r3.op.kd, .int .u8 r3.op.l, .int .u32 r3.op.c, .int .u8 r3.op.k, .int .i64 r3.op.s, .int .u8 r3.op.fl, .int .u32 r3.op.fc, .int .u8 r3.op.fk, .int .i64 r3.op.fn, .int .i64 r3.op.fm, .int .u8 r3.op.al, .int .u32 r3.op.ac, .int .u8 r3.op.ak, .int .i64 r3.op.an, .int .u8 r3.op.tl, .int .u32 r3.op.tc, .slice A3 k3 c3, .int .i64 r3.co, .int .i64 r3.gr.u, .int .u8 r3.gr.l, .int .u32 r3.gr.c, .bool r3.gr.ok])) hne
                    generalize World.setCells _ g20 0 _ = X2 at s2 T22 ⊢
                    refine hK.out _ _ s2 (fun hHeld => ?_)
                    clear hK K
                    refine wpAnyH_ready (rs := [17]) (by kernel_rfl) (by simp) ?_
                    refine AllReadyH.cons rfl (fun K hK => ?_) AllReadyH.nil
                    rw [if_pos (by rfl)]
                    refine wp_store_mid 42 (.tmp 21) (.tmp 140) rfl g21 0 (#[.int .i64 s3, .int .i64 t3, .int .i64 i3, .int .i64 f3]) rfl rfl T22.th info_D (by simp [Value.oneCell']) ?_
                    (try simp only [Act.put, List.setIfInBounds_toArray, List.set_cons_zero, List.set_cons_succ])
                    have s4 := s2.trans (below_setCells g21 W.heap.size T22.ge ([.int .i64 s3, .int .i64 t3, .int .i64 i3, .int .i64 f3]) 0 _)
                    generalize World.setCells _ g21 0 _ = X3 at s4 ⊢
                    refine hK.out _ _ s4 (fun hHeld => ?_)
                    clear hK K
                    refine wpAnyH_take (i := 18) (oi := { dst := some 22, op := Op.assign (Operand.tmp 141), type := 34, pos := "outright.go:77", after := #[{ on := 13, ground := Ground.data }, { on := 17, ground := Ground.chain }, { on := 0, ground := Ground.phase }, { on := 1, ground := Ground.phase }, { on := 2, ground := Ground.phase }, { on := 3, ground := Ground.phase }, { on := 4, ground := Ground.phase }, { on := 5, ground := Ground.phase }, { on := 6, ground := Ground.phase }, { on := 7, ground := Ground.phase }, { on := 8, ground := Ground.phase }, { on := 9, ground := Ground.phase }, { on := 10, ground := Ground.phase }, { on := 11, ground := Ground.phase }, { on := 12, ground := Ground.phase }, { on := 13, ground := Ground.phase }, { on := 14, ground := Ground.phase }, { on := 15, ground := Ground.phase }, { on := 16, ground := Ground.phase }, { on := 17, ground := Ground.phase }], guard := none }) (v := ?_) rfl (by kernel_rfl) (by kernel_rfl) (by kernel_rfl) (fun _ _ _ h => h) (Or.inl ⟨by rfl, ?_⟩) hHeld ?_
                    rotate_left
                    · intro w9 hSw
                      (try dsimp only at hSw)
                      go_simp <;> with_reducible rfl
                    (try simp only [Act.put, List.setIfInBounds_toArray, List.set_cons_zero, List.set_cons_succ])
                    refine wpAnyH_done (by kernel_rfl) ?_ _
                    clear hHeld
                    go_wp2_with fail
                    go_meet
                    case rel => exact ⟨rfl, s4⟩
            · go_simp
              go_wp2
              have b := below1 V50 (.cells (#[.int .u8 0, .int .i64 0, .int .u8 0, .int .u8 0, .int .u32 0, .int .u8 0, .int .i64 0, .int .u8 0, .int .u32 0, .int .u8 0, .int .i64 0, .int .i64 0, .int .u8 0, .int .u32 0, .int .u8 0, .int .i64 0, .int .u8 0, .int .u32 0, .slice none 0 0, .int .i64 0, .int .i64 0, .int .u8 0, .int .u32 0, .bool false]) 40)
              obtain ⟨g20, hg20, T20⟩ : ∃ g, V50.heap.size = g ∧ TrF W (V50.alloc (.cells (#[.int .u8 0, .int .i64 0, .int .u8 0, .int .u8 0, .int .u32 0, .int .u8 0, .int .i64 0, .int .u8 0, .int .u32 0, .int .u8 0, .int .i64 0, .int .i64 0, .int .u8 0, .int .u32 0, .int .u8 0, .int .i64 0, .int .u8 0, .int .u32 0, .slice none 0 0, .int .i64 0, .int .i64 0, .int .u8 0, .int .u32 0, .bool false]) 40)) g := ⟨_, rfl, trf_new s⟩
              have hne : g20 ≠ g21 := by have := T21.lt; omega
              replace T21 := T21.keep b
              replace s := below_in s b
              clear b
              rw [hg20]
              generalize World.alloc V50 _ = V60 at s T20 T21 ⊢
              clear hg20
              refine hK.out _ _ s (fun hHeld => ?_)
              clear hK K
              refine wpAnyH_ready (rs := [3]) (by kernel_rfl) (by simp) ?_
              refine AllReadyH.cons rfl (fun K hK => ?_) AllReadyH.nil
              · refine step_append_c (w0 := W) rfl (.const (.slice none 0 0)) (.tmp 131) rfl rfl none 0 0 [] (hid rfl) rfl (CpB.nil W V60 s) A2 k c2 (l.take k) HLT rfl HRT.out (by omega) ?_
                intro A5 c5 V61 cp nr
                rw [List.nil_append] at cp
                rw [Nat.zero_add]
                replace T20 := T20.keepn nr
                replace T21 := T21.keepn nr
                clear nr
                replace s := cp.be
                refine hK.out _ _ s (fun hHeld => ?_)
                clear hK K
                refine wpAnyH_ready (rs := [8]) (by kernel_rfl) (by simp) ?_
                refine AllReadyH.cons rfl (fun K hK => ?_) AllReadyH.nil
                · refine step_append_c (w0 := W) rfl (.tmp 132) (.tmp 136) rfl rfl A5 k c5 (l.take k) HLT rfl cp D (n2 - (k + 1)) (c2 - (k + 1)) (l.drop (k + 1)) HLD rfl HRD.out (by omega) ?_
                  intro A6 c6 V62 cp6 nr
                  replace T20 := T20.keepn nr
                  replace T21 := T21.keepn nr
                  clear nr
                  replace s := cp6.be
                  rw [show k + (n2 - (k + 1)) = n2 - 1 by omega]
                  clear cp
                  refine hK.out _ _ s (fun hHeld => ?_)
                  clear hK K
                  refine wpAnyH_ready (rs := [9]) (by kernel_rfl) (by simp) ?_
                  refine AllReadyH.cons rfl (fun K hK => ?_) AllReadyH.nil
                  · go_simp
                    go_wp2_with (go_at_call 7; refine (rec_get_of A6 (n2 - 1) c6 (l.take k ++ l.drop (k + 1)) HLC (by omega) _ cp6.rd).mono ?_; rintro e V63 ⟨r3, A3, k3, c3, s3, t3, i3, f3, j3, rfl, hg3, hk3, ho3, b⟩)
                    obtain ⟨-, -, -, -, -, e3⟩ := got_not HNC.out hg3
                    subst e3
                    clear hg3 hk3 ho3 cp6
                    replace T20 := T20.keep b
                    replace T21 := T21.keep b
                    replace s := below_in s b
                    clear b
                    refine hK.out _ _ s (fun hHeld => ?_)
                    clear hK K
                    refine wpAnyH_take (i := 10) (oi := { dst := some 128, op := Op.move (Operand.tmp 138), type := 43, pos := "outright.go:77", after := #[{ on := 9, ground := Ground.data }], guard := none }) (v := ?_) rfl (by kernel_rfl) (by kernel_rfl) (by kernel_rfl) (fun _ _ _ h => h) (Or.inl ⟨by rfl, ?_⟩) hHeld ?_
                    rotate_left
                    · intro w9 hSw
                      (try dsimp only at hSw)
                      go_simp <;> with_reducible rfl
                    (try simp only [Act.put, List.setIfInBounds_toArray, List.set_cons_zero, List.set_cons_succ])
                    refine wpAnyH_take (i := 11) (oi := { dst := some 139, op := Op.extract (Operand.tmp 128) 0, type := 40, pos := "outright.go:77", after := #[{ on := 10, ground := Ground.data }], guard := none }) (v := ?_) rfl (by kernel_rfl) (by kernel_rfl) (by kernel_rfl) (fun _ _ _ h => h) (Or.inl ⟨by rfl, ?_⟩) hHeld ?_
                    rotate_left
                    · intro w9 hSw
                      (try dsimp only at hSw)
                      go_simp <;> with_reducible rfl
                    (try simp only [Act.put, List.setIfInBounds_toArray, List.set_cons_zero, List.set_cons_succ])
                    refine wpAnyH_take (i := 12) (oi := { dst := some 140, op := Op.extract (Operand.tmp 128) 1, type := 42, pos := "outright.go:77", after := #[{ on := 10, ground := Ground.data }, { on := 16, ground := Ground.gcOnly Departure.lateStores }], guard := none }) (v := ?_) rfl (by kernel_rfl) (by kernel_rfl) (by kernel_rfl) (fun _ _ _ h => h) (Or.inl ⟨by rfl, ?_⟩) hHeld ?_
                    rotate_left
                    · intro w9 hSw
                      (try dsimp only at hSw)
                      go_simp <;> with_reducible rfl
                    (try simp only [Act.put, List.setIfInBounds_toArray, List.set_cons_zero, List.set_cons_succ])
                    refine wpAnyH_take (i := 13) (oi := { dst := some 141, op := Op.extract (Operand.tmp 128) 2, type := 34, pos := "outright.go:77", after := #[{ on := 10, ground := Ground.data }, { on := 17, ground := Ground.gcOnly Departure.lateStores }], guard := none }) (v := ?_) rfl (by kernel_rfl) (by kernel_rfl) (by kernel_rfl) (fun _ _ _ h => h) (Or.inl ⟨by rfl, ?_⟩) hHeld ?_
                    rotate_left
                    · intro w9 hSw
                      (try dsimp only at hSw)
                      go_simp <;> with_reducible rfl
                    (try simp only [Act.put, List.setIfInBounds_toArray, List.set_cons_zero, List.set_cons_succ])
                    refine wpAnyH_ready (rs := [16]) (by kernel_rfl) (by simp) ?_
                    refine AllReadyH.cons rfl (fun K hK => ?_) AllReadyH.nil
                    rw [if_pos (by rfl)]
                    refine wp_store_mid 40 (.tmp 20) (.tmp 139) rfl g20 0 (#[.int .u8 r3.kd, .int .i64 r3.us, .int .u8 r3.op.kd, .int .u8 r3.op.l, .int .u32 r3.op.c, .int .u8 r3.op.k, .int .i64 r3.op.s, .int .u8 r3.op.fl, .int .u32 r3.op.fc, .int .u8 r3.op.fk, .int .i64 r3.op.fn, .int .i64 r3.op.fm, .int .u8 r3.op.al, .int .u32 r3.op.ac, .int .u8 r3.op.ak, .int .i64 r3.op.an, .int .u8 r3.op.tl, .int .u32 r3.op.tc, .slice A3 k3 c3, .int .i64 r3.co, .int .i64 r3.gr.u, .int .u8 r3.gr.l, .int .u32 r3.gr.c, .bool r3.gr.ok]) rfl rfl T20.th info_R (by simp [Value.oneCell']) ?_
                    (try simp only [Act.put, List.setIfInBounds_toArray, List.set_cons_zero, List.set_cons_succ])
                    have s2 := s.trans (below_setCells g20 W.heap.size T20.ge ([.int .u8 r3.kd, .int .i64 r3.us, .int .u8 r3.op.kd, .int .u8 r3.op.l, .int .u32 r3.op.c, .int .u8 r3.op.k, .int .i64 r3.op.s, .int .u8 r3.op.fl, .int .u32 r3.op.fc, .int .u8 r3.op.fk, .int .i64 r3.op.fn, .int .i64 r3.op.fm, .int .u8 r3.op.al, .int .u32 r3.op.ac, .int .u8 r3.op.ak, .int .i64 r3.op.an, .int .u8 r3.op.tl, .int .u32 r3.op.tc, .slice A3 k3 c3, .int .i64 r3.co, .int .i64 r3.gr.u, .int .u8 r3.gr.l, .int .u32 r3.gr.c, .bool r3.gr.ok]) 0 _)
                    have T22 := T21.put (vs := ([.int .u8 r3.kd, .int .i64 r3.us, .int .u8 r3.op.kd, .int .u8 r3.op.l, .int .u32 r3.op.c, .int .u8 r3.op.k, .int .i64 r3.op.s, .int .u8 r3.op.fl, .int .u32 r3.op.fc, .int .u8 r3.op.fk, .int .i64 r3.op.fn, .int .i64 r3.op.fm, .int .u8 r3.op.al, .int .u32 r3.op.ac, .int .u8 r3.op.ak, .int .i64 r3.op.an, .int .u8 r3.op.tl, .int .u32 r3.op.tc, .slice A3 k3 c3, .int .i64 r3.co, .int .i64 r3.gr.u, .int .u8 r3.gr.l, .int .u32 r3.gr.c, .bool r3.gr.ok])) hne
                    generalize World.setCells _ g20 0 _ = X2 at s2 T22 ⊢
                    refine hK.out _ _ s2 (fun hHeld => ?_)
                    clear hK K
                    refine wpAnyH_ready (rs := [17]) (by kernel_rfl) (by simp) ?_
                    refine AllReadyH.cons rfl (fun K hK => ?_) AllReadyH.nil
                    rw [if_pos (by rfl)]
                    refine wp_store_mid 42 (.tmp 21) (.tmp 140) rfl g21 0 (#[.int .i64 s3, .int .i64 t3, .int .i64 i3, .int .i64 f3]) rfl rfl T22.th info_D (by simp [Value.oneCell']) ?_
                    (try simp only [Act.put, List.setIfInBounds_toArray, List.set_cons_zero, List.set_cons_succ])
                    have s4 := s2.trans (below_setCells g21 W.heap.size T22.ge ([.int .i64 s3, .int .i64 t3, .int .i64 i3, .int .i64 f3]) 0 _)
                    generalize World.setCells _ g21 0 _ = X3 at s4 ⊢
                    refine hK.out _ _ s4 (fun hHeld => ?_)
                    clear hK K
                    refine wpAnyH_take (i := 18) (oi := { dst := some 22, op := Op.assign (Operand.tmp 141), type := 34, pos := "outright.go:77", after := #[{ on := 13, ground := Ground.data }, { on := 17, ground := Ground.chain }, { on := 0, ground := Ground.phase }, { on := 1, ground := Ground.phase }, { on := 2, ground := Ground.phase }, { on := 3, ground := Ground.phase }, { on := 4, ground := Ground.phase }, { on := 5, ground := Ground.phase }, { on := 6, ground := Ground.phase }, { on := 7, ground := Ground.phase }, { on := 8, ground := Ground.phase }, { on := 9, ground := Ground.phase }, { on := 10, ground := Ground.phase }, { on := 11, ground := Ground.phase }, { on := 12, ground := Ground.phase }, { on := 13, ground := Ground.phase }, { on := 14, ground := Ground.phase }, { on := 15, ground := Ground.phase }, { on := 16, ground := Ground.phase }, { on := 17, ground := Ground.phase }], guard := none }) (v := ?_) rfl (by kernel_rfl) (by kernel_rfl) (by kernel_rfl) (fun _ _ _ h => h) (Or.inl ⟨by rfl, ?_⟩) hHeld ?_
                    rotate_left
                    · intro w9 hSw
                      (try dsimp only at hSw)
                      go_simp <;> with_reducible rfl
                    (try simp only [Act.put, List.setIfInBounds_toArray, List.set_cons_zero, List.set_cons_succ])
                    refine wpAnyH_done (by kernel_rfl) ?_ _
                    clear hHeld
                    go_wp2_with fail
                    go_meet
                    case rel => exact ⟨rfl, s4⟩
      case rest =>
        obtain ⟨rfl, hcb⟩ := hcut
        replace S := S.keep hcb
        clear hcb hrunD HLT HLD HRT HRD HLC HNC hwk hkc hbS
        have cp0 := CpB.nil wc wc (Below.refl _ _)
        have one : True := trivial
        go_wp2_with (at_builtin; clear one; refine wpList_append_c rfl (.const (.slice none 0 0)) (.tmp 142) rfl rfl none 0 0 [] (hid rfl) rfl cp0 A2 n2 c2 l HLM rfl S.rl (by omega) ?_; intro A5 c5 w8 cp nr; clear nr; rw [List.nil_append] at cp; rw [Nat.zero_add])
        obtain ⟨i2, hi2⟩ : ∃ i2, (k + 1) % n2 = i2 := ⟨_, rfl⟩
        have hi2n : i2 < n2 := by rw [← hi2]; exact Nat.mod_lt _ (by omega)
        have hki : k ≠ i2 := by
          rw [← hi2]
          rcases Nat.lt_or_ge (k + 1) n2 with h | h
          · rw [Nat.mod_eq_of_lt h]; omega
          · have e : k + 1 = n2 := by omega
            rw [e, Nat.mod_self]; omega
        have hrem : ((k : Int) + 1).tmod (n2 : Int) = (i2 : Int) := by
          rw [← hi2, Int.tmod_eq_emod_of_nonneg (by omega), Int.natCast_emod, Int.natCast_add]
          rfl
        have hkl : k < l.length := by rw [HLM.out]; exact hkm
        have hil : i2 < l.length := by rw [HLM.out]; exact hi2n
        obtain ⟨g, rfl, hgw, hgc, hgf, hgs⟩ := cp.at_ (by rw [HLM.out]; omega)
        obtain ⟨X1, x1, hX1, hR1⟩ := hgc k hkl
        obtain ⟨X2, x2, hX2, hR2⟩ := hgc i2 hil
        have cpA := hgs k X2 x2 l[i2] hR2
        obtain ⟨g', eg, -, hgc', hgf', hgs'⟩ := cpA.at_ (by rw [List.length_set, HLM.out]; omega)
        cases eg
        obtain ⟨X3, x3, hX3, -⟩ := hgc' i2 (by rw [List.length_set]; exact hil)
        have f3 := hgf' i2
        have hq0 : ¬ n2 = 0 := by omega
        have cpB := hgs' i2 X1 x1 l[k] hR1
        have HSW := hid (swap_at hkl hil hki)
        obtain ⟨L9, hL9⟩ : ∃ L9, (l.set k l[i2]).set i2 l[k] = L9 := ⟨_, rfl⟩
        have HL9 := hid (show L9.length = n2 by rw [← hL9, List.length_set, List.length_set, HLM.out])
        have HN9 := hid (show ∀ r' s' n', ¬ Ris L9 r' s' n' from fun r' s' n' => by
          obtain ⟨h1, h2⟩ := HSW.out
          rw [← hL9]
          exact ris_place HRIS.out hil h1 (Ne.symm hki) h2)
        rw [hL9] at cpB
        have HCP := hid cpB
        have f1 := hgf k
        have f2 := hgf i2
        have hi2' : (i2 : Int) < (n2 : Int) := by omega
        have hn20 : ¬ (n2 : Int) = 0 := by omega
        have hc52 : (c5 : Int) ≤ 9223372036854775807 := by have := cp.rd.cap; omega
        have hc51 : (n2 : Int) ≤ c5 := by have := cp.rd.len; have := HLM.out; omega
        have hwk : IntKind.i64.wrap ((k : Int) + 1) = (k : Int) + 1 := by rw [IntKind.wrap_i64]; omega
        generalize ((l.set k l[i2])[i2]'(by rw [List.length_set]; exact hil)).length = p3 at hX3
        generalize l[k].length = p1 at *
        generalize l[i2].length = p2 at *
        clear cpA cpB hgs hgs' hgc hgf hgc' hgf' hR1 hR2 HSW hL9 hi2 cp cp0
        go_region
        have cp9 := HCP.out.keep (Below.refl _ _).drew
        generalize (World.setCell (World.setCell w8 _ _) _ _).drew = W9 at cp9 ⊢
        have S9 := S.keep cp9.be
        have hcp9 := hid cp9
        clear HCP S f1 f2 f3 hX1 hX2 hX3 cp9 hwk hrem hi2n hi2' hki hil hgw hq0
        go_wp2_with fail
        refine (rec_get_of _ n2 c5 L9 HL9 (by omega) _ hcp9.out.rd).mono ?_
        rintro e w10 ⟨r10, A10, k10, c10, s10, t10, i10, f10, j10, rfl, hg10, hk10, ho10, b10⟩
        obtain ⟨-, -, -, -, -, e10⟩ := got_not HN9.out hg10
        subst e10
        have R10 := rs_new w10 40 42
        have S10 := S9.keep b10
        clear hg10 hk10 ho10 b10 hcp9 S9 HN9
        obtain ⟨l2, m2, j2, hL2⟩ : ∃ l m j, putL r3 u t3 = l ∧ l.length = m ∧ putE r3 u t3 = j := ⟨_, _, _, rfl, rfl, rfl⟩
        obtain ⟨l4, m4, j4, hL4⟩ : ∃ l m j, putL r3 s3 u = l ∧ l.length = m ∧ putE r3 s3 u = j := ⟨_, _, _, rfl, rfl, rfl⟩
        have HL2 := hid hL2
        have HL4 := hid hL4
        clear hL2 hL4
        have one : True := trivial
        have two : True := trivial
        go_wp2_with (first
          | (clear one; (with_reducible refine at_store 40 (.tmp 24) (.tmp 169) ?_); refine wpList_store_r rfl (.tmp 24) (.tmp 169) rfl w10.heap.size rfl r10 A10 k10 c10 rfl R10.tr w10.heap.size (Nat.le_refl _) ?_; intro w11 bx11 tx11 b11 h11 z11; have td11 : ThereD w11 (w10.heap.size + 1) := there_other R10.td h11 (by omega))
          | ((with_reducible refine at_store 42 (.tmp 25) (.tmp 170) ?_); refine wpList_store_d rfl (.tmp 25) (.tmp 170) rfl (w10.heap.size + 1) rfl s10 t10 i10 f10 rfl td11 w10.heap.size (Nat.le_succ _) ?_; intro w12 bd12 td12 b12 h12 z12; have S12 := S10.keep ((R10.be.trans b11).trans b12))
          | (clear two; (with_reducible refine at_load 40 (.tmp 5) ?_); refine wpList_load_r rfl (.tmp 5) rfl w.heap.size rfl S12.xa ?_))
        clear R10 bx11 tx11 b11 h11 z11 td11 bd12 td12 b12 h12 z12 S10
        refine (rec_put_of l2 m2 j2 r3 A n c hn har u t3 HL2 _ S12.ra).mono ?_
        rintro e w13 ⟨A13, c13, rfl, ho13, b13⟩
        have S13 := S12.keep b13
        have HR13 := hid ho13.rd
        clear b13 ho13 S12
        have two : True := trivial
        go_wp2_with (clear two; (with_reducible refine at_load 40 (.tmp 5) ?_); refine wpList_load_r rfl (.tmp 5) rfl w.heap.size rfl S13.xa ?_)
        refine (rec_put_of l4 m4 j4 r3 A n c hn har s3 u HL4 _ S13.ra).mono ?_
        rintro e W5 ⟨A14, c14, rfl, ho14, b14⟩
        have S14 := S13.keep b14
        have HR2 := hid (HR13.out.keep b14)
        have HR4 := hid ho14.rd
        have hV : Below W5.heap.size W5 W5 := Below.refl _ _
        have hbW := S14.be
        have HS := hid S14
        clear b14 ho14 S13 HR13 S14
        have P1 : (j2 != 0) = true ∨ ((j2 != 0) = false ∧ (u == s3) = true) ∨ ((j2 != 0) = false ∧ (u == s3) = false ∧ m2 = n2 ∧ Hid (∀ V, Below W5.heap.size W5 V → Calls Tryz.prog 27 #[.slice A2 n2 c2, .slice A13 n2 c13, .int .i64 (k : Int)] V fun e w' => e = .returned (.bool true) ∧ Below V.heap.size V w')) := by
          obtain ⟨q1, q2, q3⟩ := HL2.out
          by_cases h0 : j2 = 0
          · subst h0
            by_cases hs : u = s3
            · exact .inr (.inl ⟨rfl, by simpa using hs⟩)
            · have h := put_ris har q3
              rw [q1] at h
              have e : l2.length = n2 := by rw [h.len, ← HRIS.out.len, HLM.out]
              rw [q2] at e
              refine .inr (.inr ⟨rfl, by simpa using hs, e, hid fun V hb => ?_⟩)
              exact mixed_of l l2 r3 r3 s3 t3 u t3 HRIS.out h (.inl (Ne.symm hs)) n2 k HLM (hid (by rw [q2, e])) hkm (by omega) A2 c2 A13 c13 V (HS.out.rl.keep hb) (HR2.out.keep hb)
          · exact .inl (by simpa using h0)
        have P2 : (j4 != 0) = true ∨ ((j4 != 0) = false ∧ (u == t3) = true) ∨ ((j4 != 0) = false ∧ (u == t3) = false ∧ m4 = n2 ∧ Hid (∀ V, Below W5.heap.size W5 V → Calls Tryz.prog 27 #[.slice A2 n2 c2, .slice A14 n2 c14, .int .i64 (k : Int)] V fun e w' => e = .returned (.bool true) ∧ Below V.heap.size V w')) := by
          obtain ⟨q1, q2, q3⟩ := HL4.out
          by_cases h0 : j4 = 0
          · subst h0
            by_cases hs : u = t3
            · exact .inr (.inl ⟨rfl, by simpa using hs⟩)
            · have h := put_ris har q3
              rw [q1] at h
              have e : l4.length = n2 := by rw [h.len, ← HRIS.out.len, HLM.out]
              rw [q2] at e
              refine .inr (.inr ⟨rfl, by simpa using hs, e, hid fun V hb => ?_⟩)
              exact mixed_of l l4 r3 r3 s3 t3 s3 u HRIS.out h (.inr (Ne.symm hs)) n2 k HLM (hid (by rw [q2, e])) hkm (by omega) A2 c2 A14 c14 V (HS.out.rl.keep hb) (HR4.out.keep hb)
          · exact .inl (by simpa using h0)
        clear HL2 HL4 HR2 HR4 HS HRIS HLM HL9
        rcases P1 with ha | ⟨ha, hb1⟩ | ⟨ha, hb1, rfl, HM1⟩ <;> rcases P2 with hc | ⟨hc, hd1⟩ | ⟨hc, hd1, hm4, HM2⟩
        all_goals (try subst hm4)
        all_goals
          go_wp2_with (first
            | (go_at_call 27; (with_reducible refine (HM1.out _ hV).mono ?_); rintro e w' ⟨rfl, b⟩; replace hV := below_in hV b; clear b)
            | (go_at_call 27; (with_reducible refine (HM2.out _ hV).mono ?_); rintro e w' ⟨rfl, b⟩; replace hV := below_in hV b; clear b))
          go_ret
          exact ⟨rfl, below_in hbW hV⟩



set_option maxRecDepth 100000 in
theorem rback_lifted (os : Os) (started : os.Started) (H : Type) (enc : TypeId × Value → H) :
    ReturnsInHanded {} Tryz.checked os 5 .any (Rows.recordBackSpec.pre6 enc Tryz.prog Tryz.f5 Rows.recordBackRow.domain false) (Rows.recordBackSpec.post enc Tryz.prog Tryz.f5 false true false false) := by
  refine returnsInHanded_of_change (C := Tryz.checked) own started (by kernel_rfl) Tryz.func5
    (ChangeSpec.witness6 (enc := enc) (C := Tryz.checked) false ⟨#[], #[.agg #[.int .u8 0, .int .i64 0, .int .u8 0, .int .u8 0, .int .u32 0, .int .u8 0, .int .i64 0, .int .u8 0, .int .u32 0, .int .u8 0, .int .i64 0, .int .i64 0, .int .u8 0, .int .u32 0, .int .u8 0, .int .i64 0, .int .u8 0, .int .u32 0, .slice none 0 0, .int .i64 0, .int .i64 0, .int .u8 0, .int .u32 0, .bool false], .int .i64 0, .int .i64 0, .int .i64 0, .int .i64 0], []⟩ 8 (by kernel_rfl) (by kernel_rfl) (by kernel_rfl) (by kernel_rfl)) ?_
  intro W base args ds gs before hval0 hW _ _
  have hval : ∀ (j : Nat) t v, Tryz.f5.params[j]? = some t → args[j]? = some v → Value.okWide Tryz.prog W .any base t v := hval0
  have hW' := hW
  obtain ⟨p, q, hA0, hV, rfl, _, _⟩ := hW
  have hA : DataW.TrodAll enc Tryz.prog W 0 (fun _ => true) true Tryz.f5.params.toList args.toList ds p := hA0
  rw [Tryz.params5] at hA hval
  obtain ⟨v0, v1, v2, v3, v4, d0, d1, d2, d3, d4, p0, p1, p2, p3, p4, rfl, rfl, rfl, h0, h1, h2, h3, h4⟩ := trodAll_five hA
  obtain ⟨rfl, rfl⟩ := trodVars_none hV
  obtain ⟨a, A, n, c, rfl, hr⟩ := open_rec (hval 0 _ v0 rfl rfl) h0
  obtain ⟨s, rfl, _⟩ := open_i64 (hval 1 _ v1 rfl rfl) h1
  obtain ⟨t, rfl, _⟩ := open_i64 (hval 2 _ v2 rfl rfl) h2
  obtain ⟨u, rfl, _⟩ := open_i64 (hval 3 _ v3 rfl rfl) h3
  obtain ⟨z, rfl, hz⟩ := open_i64 (hval 4 _ v4 rfl rfl) h4
  refine (rback_walk a A n c s t u z hz W hr).mono fun e W' ⟨he, hg⟩ => ?_
  subst he
  exact ⟨_, rfl, law_post laidOut (by kernel_rfl) rfl Tryz.underlying4 rfl rfl hW' hg⟩

theorem rback_holds : Rows.RecordBackSaid :=
  OpenClaim.holds_of_wide 5 Tryz.f5 rfl rfl rfl rfl rfl rfl rfl ⟨rfl, rfl, rfl, rfl, rfl⟩ rfl rfl rfl rfl rfl (by kernel_rfl) Tryz.func5 (by kernel_rfl)
    (of_decide_eq_true (by kernel_rfl)) (by unfold Func.isWrapper; rw [if_neg (of_decide_eq_false (by kernel_rfl))]; exact ⟨rfl, rfl⟩)
    (fun os started H enc _ => rback_lifted os started H enc)
#print axioms rback_holds
end Go.Proofs.YtndmblhkmgnpcaaGreat
