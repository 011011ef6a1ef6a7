/-
  burrowref09.Stream, walked: the document's stream. Conditions: 2^46 bytes at most.
-/
import Derived.Test.YtbccnkjfjlmflaaGreatDoorCrs
import Derived.Test.YtbccnkjfjlmflaaGreatDoorEqa
import Derived.Deep.Cut
import Derived.Deep.CutRange
namespace Go.Proofs.YtbccnkjfjlmflaaGreatDoor
open Go.RowKit
set_option linter.unusedVariables false
set_option linter.unusedSimpArgs false

theorem Bx.got {w w' w2 : World} {l : List (Nat × TypeId × List UInt8)} (h : Bx w l w') (g : Nat) (t : TypeId) (b : List UInt8) (hb : Below w'.heap.size w' w2) (hg : w'.heap.size ≤ g) (ht : Bt w2 g t b) : Bx w ((g, t, b) :: l) w2 := by
  refine ⟨(h.on hb).below, List.pairwise_cons.2 ⟨fun y hy => ?_, h.sep⟩, fun x hx => ?_⟩
  · have := (h.all y hy).2.lt
    show g ≠ y.1
    omega
  · rcases List.mem_cons.1 hx with rfl | hx
    · exact ⟨Nat.le_trans h.below.size hg, ht⟩
    · exact ⟨(h.all x hx).1, (h.all x hx).2.on hb⟩
theorem rd_one (w : World) (x : UInt8) : Rd (w.alloc (.cells #[bv x] 5)) (some ⟨w.heap.size, 0, none⟩) [x] := bt_rd (b := [x]) (t := 5) (heap_alloc_new w _)
theorem Sx.drew {w w' : World} {l : List (Nat × TypeId × List UInt8)} {v : Value} {bs : List UInt8} (h : Sx w l v bs w') : Sx w l v bs w'.drew := ⟨h.bx.drew, own_on h.ow (Below.refl _ _).drew, h.far⟩
theorem step_app {ops : Array Oper} {o : Oper} {a : Act} {w : World} {K : Act → World → Prop} {Q : Exit → Act → World → Prop} {E : Prop} (hgd : o.guard = none) (s x : Operand)
    (ho : o.op = .call { callee := .builtin .append, args := #[s, x], argTypes := #[23, 23] }) (hty : o.type = 23) (vs vx : Value) (hs : a.eval s = vs) (hx : a.eval x = vx) (v' : Value) (w' : World)
    (hrun : (Builtin.append_ #[23, 23] 23 #[vs, vx]).run Tryz.prog w = .ok v' w') (h : K (a.put o.dst v') w') :
    if Region.wanted o (yielded ops a.tmps) = true then Oper.wp Tryz.prog o a w K Q else E := by
  have hw : Region.wanted o (yielded ops a.tmps) = true := by simp [Region.wanted, hgd]
  rw [if_pos hw]
  unfold Oper.wp
  simp [execOp, ho, hty, resolve, invoke, builtin, hs, hx, hrun, Result.andThen]
  exact h
set_option maxRecDepth 100000 in
set_option maxHeartbeats 4000000 in
theorem rstream_any (key first : List UInt8) (A : Option Addr) (c : Nat) (b : List UInt8) (n : Nat) (w : World) (hk : key.length = 16) (hf : first.length = 16) (hn : b.length = n) (hr : Rd w A b) (hl : n ≤ 70368744177664) :
    Calls Tryz.prog 9 #[.agg (bvs key).toArray, .agg (bvs first).toArray, .slice A n c] w fun e w' => ∃ v, e = .returned v ∧ Hid (Ow w' w.heap.size v (strm key first b) ∧ Below w.heap.size w w') := by
  have HK := hid hk
  have HFI := hid hf
  have HN := hid hn
  have HR := hid hr
  have HLN := hid hl
  clear hk hf hn hr hl
  have B1 := hid (bx2 w 22 22 key first)
  go_enter Tryz.func9, Tryz.ntmps9
  go_upto_region 1 with fail
  generalize (w.alloc (.cells (bvs key).toArray 22)).alloc (.cells (bvs first).toArray 22) = w1 at *
  by_cases hn0 : n = 0
  · have HE := hid (p := strm key first b = []) (List.eq_nil_of_length_eq_zero (by rw [strm_length, HN.out, hn0]))
    have hni : (n : Int) = 0 := by omega
    clear hn0
    go_wp2_with fail
    go_ret
    exact ⟨_, rfl, hid ⟨by rw [HE.out]; exact Ow.nil _ _, B1.out.below⟩⟩
  · have hni : ¬ (n : Int) = 0 := by omega
    clear hn0
    go_wp2_with fail
    refine (newBox_any _).mono ?_
    rintro e w2 ⟨g, rfl, hq⟩
    have B2 := hid (B1.out.got g 70 SI hq.out.2.2 hq.out.2.1 hq.out.1)
    clear hq B1 hni
    have S0 := hid (p := Sx w [(g, 70, SI), (w.heap.size + 1, 22, fr first 0), (w.heap.size, 22, key)] (.slice none 0 0) ((strm key first b).take (od n 0)) w2) (by rw [show od n 0 = 0 by unfold od; omega, List.take_zero]; exact Sx.new B2.out)
    clear B2
    go_upto_region 5 with fail
    go_wp2_with fail
    go_loopw [8, 9] (fun vo ii wr => ∃ (k lv cv : Nat) (Av : Option Addr), vo = .slice Av lv cv ∧ k ≤ n ∧ ii = .int .i64 k ∧ Hid (Sx w [(g, 70, SI), (w.heap.size + 1, 22, fr first k), (w.heap.size, 22, key)] (.slice Av lv cv) ((strm key first b).take (od n k)) wr)) (fun _ ii _ => n - (intOf ii).toNat)
    case atStart => exact ⟨0, 0, 0, none, rfl, Nat.zero_le _, rfl, S0⟩
    case round =>
      clear S0
      obtain ⟨k, lv, cv, Av, rfl, hk, rfl, SJ⟩ := hrel
      by_cases hlt : k < n
      · have HKN := hid hlt
        have hki : (k : Int) < (n : Int) := by omega
        have hkz : (0 : Int) ≤ (k : Int) := by omega
        obtain ⟨ga, o, rfl, hga, hcell⟩ := HR.out (by have := HN.out; omega)
        have HCB := hid (p := ∀ m, m < n → ∀ W, Below w.heap.size w W → W.cell? ⟨ga, o + m, none⟩ = some (bv (gb b m))) (fun m hm W hW => by
          have hkb : m < b.length := by have := HN.out; omega
          rw [gb_lt hkb]
          exact (hW.cell (p := ⟨ga, o + m, none⟩) hga).trans (hcell m hkb))
        clear hcell hga
        have HFL := hid (fr_length first (k + 1) HFI.out)
        by_cases h16 : k % 16 = 0
        · have H16 := hid h16
          have re : (k : Int) % 16 = 0 := by omega
          have rt : Int.tmod (k : Int) 16 = 0 := by rw [Int.tmod_eq_emod_of_nonneg (by omega)]; exact re
          rw [od_in n k h16 hlt] at SJ
          clear h16 hlt
          by_cases hk0 : k = 0
          · have hk0i : ¬ (0 : Int) < (k : Int) := by omega
            rw [fr_on first k (by omega)] at SJ
            clear hk0
            go_upto_region 8 with fail
            go_upto_region 14 with fail
            have hlk := ld_all (SJ.out.bx.bt 2 rfl) 22 _ Tryz.underlying22 rfl 16 HK.out row16
            have hlf := ld_all (SJ.out.bx.bt 1 rfl) 22 _ Tryz.underlying22 rfl 16 HFL.out row16
            go_upto_region 15 with fail
            go_wp2_with (first | ((with_reducible refine isD 47 rfl ?_); refine wp_ld (by kernel_rfl) 22 (.tmp 3) rfl _ rfl _ hlk ?_) | ((with_reducible refine isD 48 rfl ?_); refine wp_ld (by kernel_rfl) 22 (.tmp 4) rfl _ rfl _ hlf ?_))
            refine (rblock_any g key (fr first (k + 1)) _ (SJ.out.bx.bt 0 rfl) HK.out HFL.out).mono ?_
            rintro e wq ⟨rfl, hba⟩
            have S1 := hid (SJ.out.on hba)
            clear hlk hlf hba SJ
            have S2 := hid (p := Sx w ((wq.heap.size, 22, List.replicate 16 0) :: [(g, 70, SI), (w.heap.size + 1, 22, fr first (k + 1)), (w.heap.size, 22, key)]) (.slice Av lv cv) ((strm key first b).take k) (wq.alloc (.cells (bvs (List.replicate 16 0)).toArray 22))) (S1.out.add 22 (List.replicate 16 0))
            have hst := st_all (S2.out.bx.bt 0 rfl) 22 (enc key (fr first (k + 1))) 16 (enc_length _ _) (by simp) row16
            have S3 := hid (p := Sx w ((wq.heap.size, 22, enc key (fr first (k + 1))) :: [(g, 70, SI), (w.heap.size + 1, 22, fr first (k + 1)), (w.heap.size, 22, key)]) (.slice Av lv cv) ((strm key first b).take k) ((wq.alloc (.cells (bvs (List.replicate 16 0)).toArray 22)).setRow wq.heap.size (bvs (enc key (fr first (k + 1)))).toArray)) (S2.out.row 0 rfl (enc key (fr first (k + 1))))
            rw [z16] at hst
            rw [z16] at S3
            clear S1 S2
            go_upto_region 16 with (((with_reducible refine isS 22 (.tmp 11) (.tmp 49) rfl ?_); refine wp_st (by kernel_rfl) 22 (.tmp 11) (.tmp 49) rfl _ _ rfl rfl hst ?_))
            clear hst
            generalize hg : wq.heap.size = gs at *
            clear hg
            generalize (wq.alloc _).setRow gs _ = ws at *
            have S4 := hid (p := Sx w [(gs, 22, enc key (fr first (k + 1))), (g, 70, SI), (w.heap.size + 1, 22, fr first (k + 1)), (w.heap.size, 22, key)] (.slice Av lv cv) ((strm key first b).take (k + 0)) ws) S3.out
            clear S3
            go_wp2_with fail
            go_loopw [8, 12] (fun vo ii wr => ∃ (j l' c' : Nat) (A' : Option Addr), vo = .slice A' l' c' ∧ j ≤ 16 ∧ k + j ≤ n ∧ ii = .int .i64 j ∧ Hid (Sx w [(gs, 22, enc key (fr first (k + 1))), (g, 70, SI), (w.heap.size + 1, 22, fr first (k + 1)), (w.heap.size, 22, key)] (.slice A' l' c') ((strm key first b).take (k + j)) wr)) (fun _ ii _ => 16 - (intOf ii).toNat)
            case atStart => exact ⟨0, lv, cv, Av, rfl, Nat.zero_le _, Nat.le_of_lt HKN.out, rfl, S4⟩
            case round =>
              clear S4
              obtain ⟨j, l', c', A', rfl, hj, hjn, rfl, SJ⟩ := hrel
              obtain ⟨m, hm⟩ : ∃ m, m = k + j := ⟨_, rfl⟩
              have mw : IntKind.i64.wrap ((k : Int) + (j : Int)) = (m : Int) := by have := HLN.out; rw [IntKind.wrap_i64]; omega
              have HJM := hid hm
              by_cases hc : j < 16 ∧ k + j < n
              · have HJ := hid hc
                have ji : (j : Int) < 16 := by omega
                have jz : (0 : Int) ≤ (j : Int) := by omega
                have mi : (m : Int) < (n : Int) := by omega
                have mz : (0 : Int) ≤ (m : Int) := by omega
                have HMN := hid (show m < n by omega)
                have hx := xor_u8 (gb b m) (gb (enc key (fr first (k + 1))) j)
                have HX := hid (p := gb b m ^^^ gb (enc key (fr first (k + 1))) j = gb b m ^^^ ks key first m) (by rw [fr_ks key first k j H16.out (by omega), hm])
                rw [HX.out] at hx
                have SD := hid SJ.out.drew
                have hb := (Below.refl wr.drew.heap.size wr.drew).alloc (Nat.le_refl _) (.cells #[bv (gb b m ^^^ ks key first m)] 5)
                have SB2 := hid (SD.out.on hb)
                obtain ⟨A2, n2, c2, w3, hrun, S5, hn2⟩ := SB2.out.put (p := [gb b m ^^^ ks key first m]) (A := some ⟨wr.drew.heap.size, 0, none⟩) (m := 1) (c := 1) (rd_one wr.drew _) rfl (by simp) (by rw [List.length_take, strm_length, HN.out]; have := HLN.out; omega)
                have S6 := hid (p := Sx w [(gs, 22, enc key (fr first (k + 1))), (g, 70, SI), (w.heap.size + 1, 22, fr first (k + 1)), (w.heap.size, 22, key)] (.slice A2 n2 c2) ((strm key first b).take (k + (j + 1))) w3) (by have h5 := S5.out; rw [← HJM.out] at h5; rw [← Nat.add_assoc, ← HJM.out, strm_more key first b m (by rw [HN.out]; omega)]; exact h5)
                have HL2 := hid (show k + (j + 1) ≤ n by omega)
                have BJ := hid SJ.out.bx
                have BB := hid SB2.out.bx
                have BA := hid S6.out.bx
                clear hn2 S5 hb SJ HX SD SB2
                generalize gb b m ^^^ ks key first m = z at *
                clear hm hc hj hjn
                go_upto_region 19 with fail
                refine wp_region_noPanic ?_
                refine Goes.region (fun (_ : Array Bool) (u : World) => Bx w [(gs, 22, enc key (fr first (k + 1))), (g, 70, SI), (w.heap.size + 1, 22, fr first (k + 1)), (w.heap.size, 22, key)] u) (by as_aux_lemma => kernel_rfl) ?_
                have BJ := hid (BJ.out.drew)
                refine Goes.take (i := 0) (o := ⟨some 62, _, _, _, _, _⟩) (v := ?_) [] rfl (by as_aux_lemma => kernel_rfl) (by as_aux_lemma => kernel_rfl) (by as_aux_lemma => kernel_rfl) (fun _ _ _ h => h) (by as_aux_lemma => kernel_rfl) (fun L u h => h) (Or.inl ⟨by rfl, ?_⟩) BJ.out ?_
                rotate_left
                · intro u hY; go_simp; try with_reducible rfl
                try simp only [putz]
                refine Goes.take (i := 1) (o := ⟨some 63, _, _, _, _, _⟩) (v := ?_) [] rfl (by as_aux_lemma => kernel_rfl) (by as_aux_lemma => kernel_rfl) (by as_aux_lemma => kernel_rfl) (fun _ _ _ h => h) (by as_aux_lemma => kernel_rfl) (fun L u h => h) (Or.inl ⟨by rfl, ?_⟩) BJ.out ?_
                rotate_left
                · intro u hY; go_simp; try with_reducible rfl
                try simp only [putz]
                refine Goes.take (i := 2) (o := ⟨some 64, _, _, _, _, _⟩) (v := ?_) [] rfl (by as_aux_lemma => kernel_rfl) (by as_aux_lemma => kernel_rfl) (by as_aux_lemma => kernel_rfl) (fun _ _ _ h => h) (by as_aux_lemma => kernel_rfl) (fun L u h => h) (Or.inl ⟨by rfl, ?_⟩) BJ.out ?_
                rotate_left
                · intro u hY; go_simp; try with_reducible rfl
                try simp only [putz]
                refine Goes.take (i := 3) (o := ⟨some 65, _, _, _, _, _⟩) (v := ?_) [] rfl (by as_aux_lemma => kernel_rfl) (by as_aux_lemma => kernel_rfl) (by as_aux_lemma => kernel_rfl) (fun _ _ _ h => h) (by as_aux_lemma => kernel_rfl) (fun L u h => h) (Or.inl ⟨by rfl, ?_⟩) BJ.out ?_
                rotate_left
                · intro u hY; go_simp; try with_reducible rfl
                try simp only [putz]
                refine Goes.take (i := 4) (o := ⟨some 66, _, _, _, _, _⟩) (v := ?_) [] rfl (by as_aux_lemma => kernel_rfl) (by as_aux_lemma => kernel_rfl) (by as_aux_lemma => kernel_rfl) (fun _ _ _ h => h) (by as_aux_lemma => kernel_rfl) (fun L u h => h) (Or.inl ⟨by rfl, ?_⟩) BJ.out ?_
                rotate_left
                · intro u hY; go_simp; try with_reducible rfl
                try simp only [putz]
                refine Goes.take (i := 5) (o := ⟨some 67, _, _, _, _, _⟩) (v := ?_) [] rfl (by as_aux_lemma => kernel_rfl) (by as_aux_lemma => kernel_rfl) (by as_aux_lemma => kernel_rfl) (fun _ _ _ h => h) (by as_aux_lemma => kernel_rfl) (fun L u h => h) (Or.inl ⟨by rfl, ?_⟩) BJ.out ?_
                rotate_left
                · intro u hY; go_simp; try with_reducible rfl
                try simp only [putz]
                refine Goes.take (i := 6) (o := ⟨some 68, _, _, _, _, _⟩) (v := ?_) [] rfl (by as_aux_lemma => kernel_rfl) (by as_aux_lemma => kernel_rfl) (by as_aux_lemma => kernel_rfl) (fun _ _ _ h => h) (by as_aux_lemma => kernel_rfl) (fun L u h => h) (Or.inl ⟨by rfl, ?_⟩) BJ.out ?_
                rotate_left
                · intro u hY; have hX := SPl.yet hY; have hc := HCB.out m HMN.out u hX.below; clear hY hX; go_simp; try with_reducible rfl
                try simp only [putz]
                refine Goes.take (i := 7) (o := ⟨some 69, _, _, _, _, _⟩) (v := ?_) [] rfl (by as_aux_lemma => kernel_rfl) (by as_aux_lemma => kernel_rfl) (by as_aux_lemma => kernel_rfl) (fun _ _ _ h => h) (by as_aux_lemma => kernel_rfl) (fun L u h => h) (Or.inl ⟨by rfl, ?_⟩) BJ.out ?_
                rotate_left
                · intro u hY; go_simp; try with_reducible rfl
                try simp only [putz]
                refine Goes.take (i := 8) (o := ⟨some 70, _, _, _, _, _⟩) (v := ?_) [] rfl (by as_aux_lemma => kernel_rfl) (by as_aux_lemma => kernel_rfl) (by as_aux_lemma => kernel_rfl) (fun _ _ _ h => h) (by as_aux_lemma => kernel_rfl) (fun L u h => h) (Or.inl ⟨by rfl, ?_⟩) BJ.out ?_
                rotate_left
                · intro u hY; go_simp; try with_reducible rfl
                try simp only [putz]
                refine Goes.take (i := 9) (o := ⟨some 71, _, _, _, _, _⟩) (v := ?_) [] rfl (by as_aux_lemma => kernel_rfl) (by as_aux_lemma => kernel_rfl) (by as_aux_lemma => kernel_rfl) (fun _ _ _ h => h) (by as_aux_lemma => kernel_rfl) (fun L u h => h) (Or.inl ⟨by rfl, ?_⟩) BJ.out ?_
                rotate_left
                · intro u hY; have hX := SPl.yet hY; have hc := hX.cell 0 rfl j (by rw [enc_length]; exact HJ.out.1); clear hY hX; go_simp; try with_reducible rfl
                try simp only [putz]
                refine Goes.take (i := 10) (o := ⟨some 72, _, _, _, _, _⟩) (v := ?_) [] rfl (by as_aux_lemma => kernel_rfl) (by as_aux_lemma => kernel_rfl) (by as_aux_lemma => kernel_rfl) (fun _ _ _ h => h) (by as_aux_lemma => kernel_rfl) (fun L u h => h) (Or.inl ⟨by rfl, ?_⟩) BJ.out ?_
                rotate_left
                · intro u hY; go_simp; try with_reducible rfl
                try simp only [putz]
                refine Goes.one (i := 11) (o := ⟨some 73, _, _, _, _, _⟩) (by as_aux_lemma => kernel_rfl) rfl (fun K hK => ?_)
                go_simp
                refine hK.out _ _ BB.out ?_
                clear hK K
                try simp only [putz]
                refine Goes.one (i := 12) (o := ⟨some 74, _, _, _, _, _⟩) (by as_aux_lemma => kernel_rfl) rfl (fun K hK => ?_)
                refine step_app rfl (.tmp 62) (.tmp 73) rfl rfl _ _ rfl rfl _ w3 hrun.out ?_
                refine hK.out _ _ BA.out ?_
                clear hK K
                try simp only [putz]
                refine Goes.take (i := 13) (o := ⟨some 8, _, _, _, _, _⟩) (v := ?_) [] rfl (by as_aux_lemma => kernel_rfl) (by as_aux_lemma => kernel_rfl) (by as_aux_lemma => kernel_rfl) (fun _ _ _ h => h) (by as_aux_lemma => kernel_rfl) (fun L u h => h) (Or.inl ⟨by rfl, ?_⟩) BA.out ?_
                rotate_left
                · intro u hY; go_simp; try with_reducible rfl
                try simp only [putz]
                refine Goes.done (by as_aux_lemma => kernel_rfl) ?_ _
                refine NoPanic.normal ?_
                go_wp2
                go_roundw
                case rel => exact ⟨j + 1, n2, c2, A2, rfl, HJ.out.1, HL2.out, by go_num, S6⟩
                case measure => have := HJ.out; simp [intOf]; omega
              · have HE := hid (show k + j = od n (k + 1) by have := od_at n k j H16.out HKN.out hj hc; omega)
                have S6 := hid (p := Sx w [(g, 70, SI), (w.heap.size + 1, 22, fr first (k + 1)), (w.heap.size, 22, key)] (.slice A' l' c') ((strm key first b).take (od n (k + 1))) wr) (by rw [← HE.out]; exact SJ.out.tail)
                clear SJ HE
                by_cases h16 : j < 16
                · have ji : (j : Int) < 16 := by omega
                  have mi : ¬ (m : Int) < (n : Int) := by omega
                  have kb : (k : Int) < 70368744177665 := by have := HLN.out; have := HKN.out; omega
                  clear hm hc hj hjn h16
                  go_wp2
                  go_roundw
                  case rel => exact ⟨k + 1, l', c', A', rfl, HKN.out, by go_num, S6⟩
                  case measure => have := HKN.out; simp [intOf]; omega
                · have ji : ¬ (j : Int) < 16 := by omega
                  have kb : (k : Int) < 70368744177665 := by have := HLN.out; have := HKN.out; omega
                  clear hm hc hj hjn h16
                  go_wp2
                  go_roundw
                  case rel => exact ⟨k + 1, l', c', A', rfl, HKN.out, by go_num, S6⟩
                  case measure => have := HKN.out; simp [intOf]; omega
          · have hk0i : (0 : Int) < (k : Int) := by omega
            have HNX := hid (fr_up first k H16.out (by omega))
            clear hk0
            go_upto_if 29 with fail
            go_cut [10] from 23 to 42 (fun _ wx => Hid (Sx w [(g, 70, SI), (w.heap.size + 1, 22, fr first (k + 1)), (w.heap.size, 22, key)] (.slice Av lv cv) ((strm key first b).take k) wx))
            case first =>
              have HFK := hid (fr_length first k HFI.out)
              generalize fr first k = f at *
              have S0 := hid (p := Sx w [(g, 70, SI), (w.heap.size + 1, 22, rs f 0), (w.heap.size, 22, key)] (.slice Av lv cv) ((strm key first b).take k) wr) (by rw [rs_none _ HFK.out]; exact SJ.out)
              clear SJ
              go_wp2_with fail
              go_loopw [10] (fun ii wr => ∃ m : Nat, m ≤ 16 ∧ ii = .int .i64 (15 - (m : Int)) ∧ Hid (∀ i, i < 16 → 16 ≤ i + m → gb f i + 1 = 0) ∧ Hid (Sx w [(g, 70, SI), (w.heap.size + 1, 22, rs f m), (w.heap.size, 22, key)] (.slice Av lv cv) ((strm key first b).take k) wr)) (fun ii _ => (intOf ii + 1).toNat)
              case atStart => exact ⟨0, Nat.zero_le _, rfl, hid (fun i h1 h2 => by omega), S0⟩
              case round =>
                clear S0
                obtain ⟨m, hm, rfl, HZ, SJ⟩ := hrel
                by_cases hlt : m < 16
                · have HM := hid hlt
                  obtain ⟨j, hj⟩ : ∃ j, j = 15 - m := ⟨_, rfl⟩
                  have hji : (15 : Int) - (m : Int) = (j : Int) := by omega
                  have hc := SJ.out.bx.cell 1 rfl j (by rw [rs_length]; omega)
                  rw [show gb (rs f m) j = gb f j by rw [rs, gb_tab _ _ _ (by omega), if_neg (by omega)]] at hc
                  have hfz := SJ.out.bx.frozen 1 rfl j
                  have hs := iv_succ (gb f j)
                  have HJ := hid hj
                  have hj16 : j < 16 := by omega
                  have jz : (0 : Int) ≤ (j : Int) := by omega
                  clear hj
                  rw [hji]
                  clear hji
                  have BN := hid (SJ.out.set 1 rfl j (gb f j + 1))
                  by_cases hx : gb f j + 1 = 0
                  · have HZ2 := hid (p := ∀ i, i < 16 → 16 ≤ i + (m + 1) → gb f i + 1 = 0) (fun i h1 h2 => by
                      by_cases h : i = j
                      · subst h; exact hx
                      · exact HZ.out i h1 (by have := HJ.out; omega))
                    rw [hx] at BN hs
                    have e0 : iv 0 = 0 := rfl
                    rw [show (rs f m).set j 0 = rs f (m + 1) by rw [HJ.out]; exact rs_step f m HM.out] at BN
                    rw [e0] at hs
                    have hc2 := BN.out.bx.cell 1 rfl j (by rw [rs_length]; exact hj16)
                    rw [show gb (rs f (m + 1)) j = 0 by rw [rs, gb_tab _ _ _ hj16, if_pos (by have := HJ.out; omega)]] at hc2
                    have hc3 : (wr.setCell ⟨w.heap.size + 1, j, none⟩ (.int .u8 0)).cell? ⟨w.heap.size + 1, j, none⟩ = some (.int .u8 0) := hc2
                    clear hc2
                    have BN2 := hid (p := Sx w [(g, 70, SI), (w.heap.size + 1, 22, rs f (m + 1)), (w.heap.size, 22, key)] (.slice Av lv cv) ((strm key first b).take k) (wr.setCell ⟨w.heap.size + 1, j, none⟩ (.int .u8 0))) BN.out
                    generalize gb f j = p at *
                    clear BN
                    go_upto_region 12 with fail
                    go_wp2_with fail
                    clear hc hfz hs
                    generalize wr.setCell ⟨w.heap.size + 1, j, none⟩ (.int .u8 0) = w2 at *
                    go_wp2
                    go_roundw
                    case rel => exact ⟨m + 1, by omega, by congr 1; have := HJ.out; omega, HZ2, BN2⟩
                    case measure => simp [intOf]
                  · have hz := iv_zero _ hx
                    have hn : (rs f m).set j (gb f j + 1) = nxt f := by
                      have := nxt_at f HFK.out m HM.out HZ.out (by rw [← HJ.out]; exact hx)
                      rwa [← HJ.out] at this
                    rw [hn] at BN
                    have hc2 := BN.out.bx.cell 1 rfl j (by rw [nxt_length, HFK.out]; exact hj16)
                    rw [show gb (nxt f) j = gb f j + 1 by rw [← hn, gb_set _ _ _ _ (by rw [rs_length]; exact hj16), if_pos rfl]] at hc2
                    rw [HNX.out] at BN
                    clear hn hx
                    generalize gb f j + 1 = y at *
                    generalize gb f j = p at *
                    go_upto_region 13 with fail
                    clear hc hfz hs
                    generalize wr.setCell ⟨w.heap.size + 1, j, none⟩ (bv y) = w2 at *
                    go_wp2_with fail
                    go_meet
                    exact BN
                · have h16 : m = 16 := by omega
                  have hji : (15 : Int) - (m : Int) = -1 := by omega
                  rw [h16, nxt_all f HFK.out (fun i hi => HZ.out i hi (by omega)), HNX.out] at SJ
                  rw [hji]
                  clear h16 hji hlt hm HZ
                  go_wp2_with fail
                  go_meet
                  exact SJ
            case rest =>
              clear SJ
              have SJ := hcut
              go_upto_region 14 with fail
              have hlk := ld_all (SJ.out.bx.bt 2 rfl) 22 _ Tryz.underlying22 rfl 16 HK.out row16
              have hlf := ld_all (SJ.out.bx.bt 1 rfl) 22 _ Tryz.underlying22 rfl 16 HFL.out row16
              go_upto_region 15 with fail
              go_wp2_with (first | ((with_reducible refine isD 47 rfl ?_); refine wp_ld (by kernel_rfl) 22 (.tmp 3) rfl _ rfl _ hlk ?_) | ((with_reducible refine isD 48 rfl ?_); refine wp_ld (by kernel_rfl) 22 (.tmp 4) rfl _ rfl _ hlf ?_))
              refine (rblock_any g key (fr first (k + 1)) _ (SJ.out.bx.bt 0 rfl) HK.out HFL.out).mono ?_
              rintro e wq ⟨rfl, hba⟩
              have S1 := hid (SJ.out.on hba)
              clear hlk hlf hba SJ
              have S2 := hid (p := Sx w ((wq.heap.size, 22, List.replicate 16 0) :: [(g, 70, SI), (w.heap.size + 1, 22, fr first (k + 1)), (w.heap.size, 22, key)]) (.slice Av lv cv) ((strm key first b).take k) (wq.alloc (.cells (bvs (List.replicate 16 0)).toArray 22))) (S1.out.add 22 (List.replicate 16 0))
              have hst := st_all (S2.out.bx.bt 0 rfl) 22 (enc key (fr first (k + 1))) 16 (enc_length _ _) (by simp) row16
              have S3 := hid (p := Sx w ((wq.heap.size, 22, enc key (fr first (k + 1))) :: [(g, 70, SI), (w.heap.size + 1, 22, fr first (k + 1)), (w.heap.size, 22, key)]) (.slice Av lv cv) ((strm key first b).take k) ((wq.alloc (.cells (bvs (List.replicate 16 0)).toArray 22)).setRow wq.heap.size (bvs (enc key (fr first (k + 1)))).toArray)) (S2.out.row 0 rfl (enc key (fr first (k + 1))))
              rw [z16] at hst
              rw [z16] at S3
              clear S1 S2
              go_upto_region 16 with (((with_reducible refine isS 22 (.tmp 11) (.tmp 49) rfl ?_); refine wp_st (by kernel_rfl) 22 (.tmp 11) (.tmp 49) rfl _ _ rfl rfl hst ?_))
              clear hst
              generalize hg : wq.heap.size = gs at *
              clear hg
              generalize (wq.alloc _).setRow gs _ = ws at *
              have S4 := hid (p := Sx w [(gs, 22, enc key (fr first (k + 1))), (g, 70, SI), (w.heap.size + 1, 22, fr first (k + 1)), (w.heap.size, 22, key)] (.slice Av lv cv) ((strm key first b).take (k + 0)) ws) S3.out
              clear S3
              go_wp2_with fail
              go_loopw [8, 12] (fun vo ii wr => ∃ (j l' c' : Nat) (A' : Option Addr), vo = .slice A' l' c' ∧ j ≤ 16 ∧ k + j ≤ n ∧ ii = .int .i64 j ∧ Hid (Sx w [(gs, 22, enc key (fr first (k + 1))), (g, 70, SI), (w.heap.size + 1, 22, fr first (k + 1)), (w.heap.size, 22, key)] (.slice A' l' c') ((strm key first b).take (k + j)) wr)) (fun _ ii _ => 16 - (intOf ii).toNat)
              case atStart => exact ⟨0, lv, cv, Av, rfl, Nat.zero_le _, Nat.le_of_lt HKN.out, rfl, S4⟩
              case round =>
                clear S4
                obtain ⟨j, l', c', A', rfl, hj, hjn, rfl, SJ⟩ := hrel
                obtain ⟨m, hm⟩ : ∃ m, m = k + j := ⟨_, rfl⟩
                have mw : IntKind.i64.wrap ((k : Int) + (j : Int)) = (m : Int) := by have := HLN.out; rw [IntKind.wrap_i64]; omega
                have HJM := hid hm
                by_cases hc : j < 16 ∧ k + j < n
                · have HJ := hid hc
                  have ji : (j : Int) < 16 := by omega
                  have jz : (0 : Int) ≤ (j : Int) := by omega
                  have mi : (m : Int) < (n : Int) := by omega
                  have mz : (0 : Int) ≤ (m : Int) := by omega
                  have HMN := hid (show m < n by omega)
                  have hx := xor_u8 (gb b m) (gb (enc key (fr first (k + 1))) j)
                  have HX := hid (p := gb b m ^^^ gb (enc key (fr first (k + 1))) j = gb b m ^^^ ks key first m) (by rw [fr_ks key first k j H16.out (by omega), hm])
                  rw [HX.out] at hx
                  have SD := hid SJ.out.drew
                  have hb := (Below.refl wr.drew.heap.size wr.drew).alloc (Nat.le_refl _) (.cells #[bv (gb b m ^^^ ks key first m)] 5)
                  have SB2 := hid (SD.out.on hb)
                  obtain ⟨A2, n2, c2, w3, hrun, S5, hn2⟩ := SB2.out.put (p := [gb b m ^^^ ks key first m]) (A := some ⟨wr.drew.heap.size, 0, none⟩) (m := 1) (c := 1) (rd_one wr.drew _) rfl (by simp) (by rw [List.length_take, strm_length, HN.out]; have := HLN.out; omega)
                  have S6 := hid (p := Sx w [(gs, 22, enc key (fr first (k + 1))), (g, 70, SI), (w.heap.size + 1, 22, fr first (k + 1)), (w.heap.size, 22, key)] (.slice A2 n2 c2) ((strm key first b).take (k + (j + 1))) w3) (by have h5 := S5.out; rw [← HJM.out] at h5; rw [← Nat.add_assoc, ← HJM.out, strm_more key first b m (by rw [HN.out]; omega)]; exact h5)
                  have HL2 := hid (show k + (j + 1) ≤ n by omega)
                  have BJ := hid SJ.out.bx
                  have BB := hid SB2.out.bx
                  have BA := hid S6.out.bx
                  clear hn2 S5 hb SJ HX SD SB2
                  generalize gb b m ^^^ ks key first m = z at *
                  clear hm hc hj hjn
                  go_upto_region 19 with fail
                  refine wp_region_noPanic ?_
                  refine Goes.region (fun (_ : Array Bool) (u : World) => Bx w [(gs, 22, enc key (fr first (k + 1))), (g, 70, SI), (w.heap.size + 1, 22, fr first (k + 1)), (w.heap.size, 22, key)] u) (by as_aux_lemma => kernel_rfl) ?_
                  have BJ := hid (BJ.out.drew)
                  refine Goes.take (i := 0) (o := ⟨some 62, _, _, _, _, _⟩) (v := ?_) [] rfl (by as_aux_lemma => kernel_rfl) (by as_aux_lemma => kernel_rfl) (by as_aux_lemma => kernel_rfl) (fun _ _ _ h => h) (by as_aux_lemma => kernel_rfl) (fun L u h => h) (Or.inl ⟨by rfl, ?_⟩) BJ.out ?_
                  rotate_left
                  · intro u hY; go_simp; try with_reducible rfl
                  try simp only [putz]
                  refine Goes.take (i := 1) (o := ⟨some 63, _, _, _, _, _⟩) (v := ?_) [] rfl (by as_aux_lemma => kernel_rfl) (by as_aux_lemma => kernel_rfl) (by as_aux_lemma => kernel_rfl) (fun _ _ _ h => h) (by as_aux_lemma => kernel_rfl) (fun L u h => h) (Or.inl ⟨by rfl, ?_⟩) BJ.out ?_
                  rotate_left
                  · intro u hY; go_simp; try with_reducible rfl
                  try simp only [putz]
                  refine Goes.take (i := 2) (o := ⟨some 64, _, _, _, _, _⟩) (v := ?_) [] rfl (by as_aux_lemma => kernel_rfl) (by as_aux_lemma => kernel_rfl) (by as_aux_lemma => kernel_rfl) (fun _ _ _ h => h) (by as_aux_lemma => kernel_rfl) (fun L u h => h) (Or.inl ⟨by rfl, ?_⟩) BJ.out ?_
                  rotate_left
                  · intro u hY; go_simp; try with_reducible rfl
                  try simp only [putz]
                  refine Goes.take (i := 3) (o := ⟨some 65, _, _, _, _, _⟩) (v := ?_) [] rfl (by as_aux_lemma => kernel_rfl) (by as_aux_lemma => kernel_rfl) (by as_aux_lemma => kernel_rfl) (fun _ _ _ h => h) (by as_aux_lemma => kernel_rfl) (fun L u h => h) (Or.inl ⟨by rfl, ?_⟩) BJ.out ?_
                  rotate_left
                  · intro u hY; go_simp; try with_reducible rfl
                  try simp only [putz]
                  refine Goes.take (i := 4) (o := ⟨some 66, _, _, _, _, _⟩) (v := ?_) [] rfl (by as_aux_lemma => kernel_rfl) (by as_aux_lemma => kernel_rfl) (by as_aux_lemma => kernel_rfl) (fun _ _ _ h => h) (by as_aux_lemma => kernel_rfl) (fun L u h => h) (Or.inl ⟨by rfl, ?_⟩) BJ.out ?_
                  rotate_left
                  · intro u hY; go_simp; try with_reducible rfl
                  try simp only [putz]
                  refine Goes.take (i := 5) (o := ⟨some 67, _, _, _, _, _⟩) (v := ?_) [] rfl (by as_aux_lemma => kernel_rfl) (by as_aux_lemma => kernel_rfl) (by as_aux_lemma => kernel_rfl) (fun _ _ _ h => h) (by as_aux_lemma => kernel_rfl) (fun L u h => h) (Or.inl ⟨by rfl, ?_⟩) BJ.out ?_
                  rotate_left
                  · intro u hY; go_simp; try with_reducible rfl
                  try simp only [putz]
                  refine Goes.take (i := 6) (o := ⟨some 68, _, _, _, _, _⟩) (v := ?_) [] rfl (by as_aux_lemma => kernel_rfl) (by as_aux_lemma => kernel_rfl) (by as_aux_lemma => kernel_rfl) (fun _ _ _ h => h) (by as_aux_lemma => kernel_rfl) (fun L u h => h) (Or.inl ⟨by rfl, ?_⟩) BJ.out ?_
                  rotate_left
                  · intro u hY; have hX := SPl.yet hY; have hc := HCB.out m HMN.out u hX.below; clear hY hX; go_simp; try with_reducible rfl
                  try simp only [putz]
                  refine Goes.take (i := 7) (o := ⟨some 69, _, _, _, _, _⟩) (v := ?_) [] rfl (by as_aux_lemma => kernel_rfl) (by as_aux_lemma => kernel_rfl) (by as_aux_lemma => kernel_rfl) (fun _ _ _ h => h) (by as_aux_lemma => kernel_rfl) (fun L u h => h) (Or.inl ⟨by rfl, ?_⟩) BJ.out ?_
                  rotate_left
                  · intro u hY; go_simp; try with_reducible rfl
                  try simp only [putz]
                  refine Goes.take (i := 8) (o := ⟨some 70, _, _, _, _, _⟩) (v := ?_) [] rfl (by as_aux_lemma => kernel_rfl) (by as_aux_lemma => kernel_rfl) (by as_aux_lemma => kernel_rfl) (fun _ _ _ h => h) (by as_aux_lemma => kernel_rfl) (fun L u h => h) (Or.inl ⟨by rfl, ?_⟩) BJ.out ?_
                  rotate_left
                  · intro u hY; go_simp; try with_reducible rfl
                  try simp only [putz]
                  refine Goes.take (i := 9) (o := ⟨some 71, _, _, _, _, _⟩) (v := ?_) [] rfl (by as_aux_lemma => kernel_rfl) (by as_aux_lemma => kernel_rfl) (by as_aux_lemma => kernel_rfl) (fun _ _ _ h => h) (by as_aux_lemma => kernel_rfl) (fun L u h => h) (Or.inl ⟨by rfl, ?_⟩) BJ.out ?_
                  rotate_left
                  · intro u hY; have hX := SPl.yet hY; have hc := hX.cell 0 rfl j (by rw [enc_length]; exact HJ.out.1); clear hY hX; go_simp; try with_reducible rfl
                  try simp only [putz]
                  refine Goes.take (i := 10) (o := ⟨some 72, _, _, _, _, _⟩) (v := ?_) [] rfl (by as_aux_lemma => kernel_rfl) (by as_aux_lemma => kernel_rfl) (by as_aux_lemma => kernel_rfl) (fun _ _ _ h => h) (by as_aux_lemma => kernel_rfl) (fun L u h => h) (Or.inl ⟨by rfl, ?_⟩) BJ.out ?_
                  rotate_left
                  · intro u hY; go_simp; try with_reducible rfl
                  try simp only [putz]
                  refine Goes.one (i := 11) (o := ⟨some 73, _, _, _, _, _⟩) (by as_aux_lemma => kernel_rfl) rfl (fun K hK => ?_)
                  go_simp
                  refine hK.out _ _ BB.out ?_
                  clear hK K
                  try simp only [putz]
                  refine Goes.one (i := 12) (o := ⟨some 74, _, _, _, _, _⟩) (by as_aux_lemma => kernel_rfl) rfl (fun K hK => ?_)
                  refine step_app rfl (.tmp 62) (.tmp 73) rfl rfl _ _ rfl rfl _ w3 hrun.out ?_
                  refine hK.out _ _ BA.out ?_
                  clear hK K
                  try simp only [putz]
                  refine Goes.take (i := 13) (o := ⟨some 8, _, _, _, _, _⟩) (v := ?_) [] rfl (by as_aux_lemma => kernel_rfl) (by as_aux_lemma => kernel_rfl) (by as_aux_lemma => kernel_rfl) (fun _ _ _ h => h) (by as_aux_lemma => kernel_rfl) (fun L u h => h) (Or.inl ⟨by rfl, ?_⟩) BA.out ?_
                  rotate_left
                  · intro u hY; go_simp; try with_reducible rfl
                  try simp only [putz]
                  refine Goes.done (by as_aux_lemma => kernel_rfl) ?_ _
                  refine NoPanic.normal ?_
                  go_wp2
                  go_roundw
                  case rel => exact ⟨j + 1, n2, c2, A2, rfl, HJ.out.1, HL2.out, by go_num, S6⟩
                  case measure => have := HJ.out; simp [intOf]; omega
                · have HE := hid (show k + j = od n (k + 1) by have := od_at n k j H16.out HKN.out hj hc; omega)
                  have S6 := hid (p := Sx w [(g, 70, SI), (w.heap.size + 1, 22, fr first (k + 1)), (w.heap.size, 22, key)] (.slice A' l' c') ((strm key first b).take (od n (k + 1))) wr) (by rw [← HE.out]; exact SJ.out.tail)
                  clear SJ HE
                  by_cases h16 : j < 16
                  · have ji : (j : Int) < 16 := by omega
                    have mi : ¬ (m : Int) < (n : Int) := by omega
                    have kb : (k : Int) < 70368744177665 := by have := HLN.out; have := HKN.out; omega
                    clear hm hc hj hjn h16
                    go_wp2
                    go_roundw
                    case rel => exact ⟨k + 1, l', c', A', rfl, HKN.out, by go_num, S6⟩
                    case measure => have := HKN.out; simp [intOf]; omega
                  · have ji : ¬ (j : Int) < 16 := by omega
                    have kb : (k : Int) < 70368744177665 := by have := HLN.out; have := HKN.out; omega
                    clear hm hc hj hjn h16
                    go_wp2
                    go_roundw
                    case rel => exact ⟨k + 1, l', c', A', rfl, HKN.out, by go_num, S6⟩
                    case measure => have := HKN.out; simp [intOf]; omega
        · have S6 := hid (p := Sx w [(g, 70, SI), (w.heap.size + 1, 22, fr first (k + 1)), (w.heap.size, 22, key)] (.slice Av lv cv) ((strm key first b).take (od n (k + 1))) wr) (by rw [← fr_on first k (by omega), ← od_on n k h16]; exact SJ.out)
          have k0 : (0 : Int) < (k : Int) := by omega
          obtain ⟨r, hr⟩ : ∃ r, r = k % 16 := ⟨_, rfl⟩
          have re : (k : Int) % 16 = (r : Int) := by omega
          have rt : Int.tmod (k : Int) 16 = (r : Int) := by rw [Int.tmod_eq_emod_of_nonneg (by omega)]; exact re
          have rb : ((r : Int) == 0) = false := beq_eq_false_iff_ne.2 (by omega)
          clear SJ h16 hlt hr
          go_upto_region 8 with fail
          go_upto_region 14 with fail
          go_upto_region 7 with fail
          have kb : (k : Int) < 70368744177665 := by have := HLN.out; have := HKN.out; omega
          go_wp2
          go_roundw
          case rel => exact ⟨k + 1, lv, cv, Av, rfl, HKN.out, by go_num, S6⟩
          case measure => have := HKN.out; simp [intOf]; omega
      · have hkn : k = n := by omega
        have hki : ¬ (k : Int) < (n : Int) := by omega
        have S6 := hid (p := Ow wr w.heap.size (.slice Av lv cv) (strm key first b)) (by have := SJ.out.ow; rwa [hkn, od_end, List.take_of_length_le (by rw [strm_length, HN.out]; exact Nat.le_refl _)] at this)
        have B6 := hid SJ.out.bx.below
        clear SJ hkn hlt hk
        go_wp2_with fail
        go_ret
        exact ⟨_, rfl, hid ⟨S6.out, B6.out⟩⟩
end Go.Proofs.YtbccnkjfjlmflaaGreatDoor
