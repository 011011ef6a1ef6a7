/-
  ciphers.Block, Back, walked. Conditions: none.
-/
import Derived.Test.YtbccnkjfjlmflaaGreatDoorCil
import Derived.Test.YtbccnkjfjlmflaaGreatDoorCik
namespace Go.Proofs.YtbccnkjfjlmflaaGreatDoor
open Go.RowKit
set_option linter.unusedVariables false
set_option linter.unusedSimpArgs false

set_option maxRecDepth 100000 in
set_option maxHeartbeats 4000000 in
theorem block_any (key b : List UInt8) (w : World) (hk : key.length = 16) (hb : b.length = 16) :
    Calls Tryz.prog 12 #[.agg (bvs key).toArray, .agg (bvs b).toArray] w fun e w' => e = .returned (.agg (bvs (enc key b)).toArray) ∧ Below w.heap.size w w' := by
  have HK := hid hk
  have HB := hid hb
  clear hk hb
  have HW := hid (p := encw (wk key 10) b = enc key b) (by rw [wk_all key HK.out]; rfl)
  have B1 := hid (bx3 w 22 22 22 key b (List.replicate 16 0))
  go_enter Tryz.func12, Tryz.ntmps12
  go_upto_region 1 with fail
  rw [← z16]
  generalize ((w.alloc (.cells (bvs key).toArray 22)).alloc (.cells (bvs b).toArray 22)).alloc (.cells (bvs (List.replicate 16 0)).toArray 22) = w1 at *
  go_wp2_with fail
  refine (substitutes_any w1).mono ?_
  rintro e w2 ⟨rfl, hb2⟩
  have B2 := hid (B1.out.on hb2)
  clear hb2 B1
  have B3 := hid (p := Bx w ((w2.heap.size, 49, List.replicate 256 0) :: [(w.heap.size + 1 + 1, 22, List.replicate 16 0), (w.heap.size + 1, 22, b), (w.heap.size, 22, key)]) (w2.alloc (.cells Tryz.zeroCells49 49))) (by rw [z256E]; exact B2.out.add 49 (List.replicate 256 0))
  have hst := st_all (B3.out.bt 0 rfl) 49 SB 256 rfl (by simp) tb256
  have B4 := hid (p := Bx w ((w2.heap.size, 49, SB) :: [(w.heap.size + 1 + 1, 22, List.replicate 16 0), (w.heap.size + 1, 22, b), (w.heap.size, 22, key)]) ((w2.alloc (.cells Tryz.zeroCells49 49)).setRow w2.heap.size (bvs SB).toArray)) (B3.out.row 0 rfl SB)
  clear B2 B3
  go_upto_region 2 with (((with_reducible refine isS 49 (.tmp 5) (.tmp 6) rfl ?_); refine wp_st (by kernel_rfl) 49 (.tmp 5) (.tmp 6) rfl _ _ rfl rfl hst ?_))
  clear hst
  generalize hg5 : w2.heap.size = g5 at *
  clear hg5
  generalize (w2.alloc (.cells Tryz.zeroCells49 49)).setRow g5 (bvs SB).toArray = w3 at *
  have BJ := hid (p := Bx w [(g5, 49, SB), (w.heap.size + 1 + 1, 22, List.replicate 16 0), (w.heap.size + 1, 22, b), (w.heap.size, 22, key)] _) B4.out
  clear B4
  refine wp_region_noPanic ?_
  refine Goes.region (SBx w [(g5, 49, SB), (w.heap.size + 1 + 1, 22, List.replicate 16 0), (w.heap.size + 1, 22, b), (w.heap.size, 22, key)] [2, 3]) (by as_aux_lemma => kernel_rfl) ?_
  have BJ := hid (BJ.out.drew)
  refine Goes.take (i := 0) (o := ⟨some 7, _, _, _, _, _⟩) [3] rfl (by as_aux_lemma => kernel_rfl) (by as_aux_lemma => kernel_rfl) (by as_aux_lemma => kernel_rfl) (fun _ _ _ h => h) (by as_aux_lemma => kernel_rfl) (fun L u h => SBx.quiet (by decide) h) (Or.inl ⟨by rfl, fun u hY => y_ld _ _ rfl _ _ rfl (have hX := SBx.yet hY (by decide); ld_all (hX.bt 2 rfl) 22 _ Tryz.underlying22 rfl 16 HB.out row16)⟩) (SBx.of BJ.out) ?_
  try simp only [putz]
  refine Goes.take (i := 1) (o := ⟨some 8, _, _, _, _, _⟩) [2] rfl (by as_aux_lemma => kernel_rfl) (by as_aux_lemma => kernel_rfl) (by as_aux_lemma => kernel_rfl) (fun _ _ _ h => h) (by as_aux_lemma => kernel_rfl) (fun L u h => SBx.quiet (by decide) h) (Or.inl ⟨by rfl, fun u hY => y_ld _ _ rfl _ _ rfl (have hX := SBx.yet hY (by decide); ld_all (hX.bt 3 rfl) 22 _ Tryz.underlying22 rfl 16 HK.out row16)⟩) (SBx.of BJ.out) ?_
  try simp only [putz]
  refine Goes.one (i := 2) (o := ⟨some 9, _, _, _, _, _⟩) (by as_aux_lemma => kernel_rfl) rfl (fun K hK => ?_)
  go_simp
  with_reducible refine (spread_any g5 key _ (BJ.out.bt 0 rfl) HK.out).mono ?_
  rintro e wa ⟨rfl, hba⟩
  have BJ := hid (BJ.out.on hba)
  clear hba
  go_wp2_with fail
  refine hK.out _ _ (SBx.of BJ.out) ?_
  clear hK K
  try simp only [putz]
  refine Goes.one (i := 3) (o := ⟨some 10, _, _, _, _, _⟩) (by as_aux_lemma => kernel_rfl) rfl (fun K hK => ?_)
  go_simp
  with_reducible refine (in_any g5 b (wk key 10) _ (BJ.out.bt 0 rfl) HB.out (wk_length key HK.out 10 (by decide))).mono ?_
  rintro e wb ⟨rfl, hba⟩
  have BJ := hid (BJ.out.on hba)
  clear hba
  rw [HW.out]
  go_wp2_with fail
  refine hK.out _ _ (SBx.of BJ.out) ?_
  clear hK K
  try simp only [putz]
  refine Goes.one (i := 4) (o := ⟨none, _, _, _, _, _⟩) (by as_aux_lemma => kernel_rfl) rfl (fun K hK => ?_)
  have hst := st_all (BJ.out.bt 1 rfl) 22 (enc key b) 16 (enc_length _ _) (by simp) row16
  have hrow := BJ.out.row 1 rfl (enc key b)
  have HZ2 := hid (hrow.bt 1 rfl)
  have HB2 := hid hrow.below
  clear hrow
  unfold Bt at HZ2
  refine step_st (by kernel_rfl) 22 (.tmp 4) (.tmp 10) rfl _ _ rfl rfl hst ?_
  clear hst BJ
  refine hK.out _ _ (SBx.off (by decide)) ?_
  clear hK K
  try simp only [putz]
  refine Goes.done (by as_aux_lemma => kernel_rfl) ?_ _
  refine NoPanic.normal ?_
  have HI := hid (p := (Tryz.prog.info? 22).map (·.size) = some (bvs (enc key b)).toArray.size) (by rw [bsz, enc_length]; exact row16)
  generalize hz : (bvs (enc key b)).toArray = z at *
  have HZ := hid hz
  clear hz
  go_wp2_with fail
  exact bodyPost_ret (v := .agg z) (results_cell_row (p := 4) (ty := 22) Tryz.results12 _ _ _ 22 z (0, 0) _ rfl HZ2.out Tryz.underlying22 rfl HI.out) rfl ⟨by rw [HZ.out], HB2.out⟩
set_option maxRecDepth 100000 in
set_option maxHeartbeats 4000000 in
theorem back_any (key b : List UInt8) (w : World) (hk : key.length = 16) (hb : b.length = 16) :
    Calls Tryz.prog 13 #[.agg (bvs key).toArray, .agg (bvs b).toArray] w fun e w' => e = .returned (.agg (bvs (dec key b)).toArray) ∧ Below w.heap.size w w' := by
  have HK := hid hk
  have HB := hid hb
  clear hk hb
  have HW := hid (p := decw (wk key 10) b = dec key b) (by rw [wk_all key HK.out]; rfl)
  have B1 := hid (bx3 w 22 22 22 key b (List.replicate 16 0))
  go_enter Tryz.func13, Tryz.ntmps13
  go_upto_region 1 with fail
  rw [← z16]
  generalize ((w.alloc (.cells (bvs key).toArray 22)).alloc (.cells (bvs b).toArray 22)).alloc (.cells (bvs (List.replicate 16 0)).toArray 22) = w1 at *
  go_wp2_with fail
  refine (substitutes_any w1).mono ?_
  rintro e w2 ⟨rfl, hb2⟩
  have B2 := hid (B1.out.on hb2)
  clear hb2 B1
  have B3 := hid (p := Bx w ((w2.heap.size, 49, List.replicate 256 0) :: [(w.heap.size + 1 + 1, 22, List.replicate 16 0), (w.heap.size + 1, 22, b), (w.heap.size, 22, key)]) (w2.alloc (.cells Tryz.zeroCells49 49))) (by rw [z256E]; exact B2.out.add 49 (List.replicate 256 0))
  have hst := st_all (B3.out.bt 0 rfl) 49 SB 256 rfl (by simp) tb256
  have B4 := hid (p := Bx w ((w2.heap.size, 49, SB) :: [(w.heap.size + 1 + 1, 22, List.replicate 16 0), (w.heap.size + 1, 22, b), (w.heap.size, 22, key)]) ((w2.alloc (.cells Tryz.zeroCells49 49)).setRow w2.heap.size (bvs SB).toArray)) (B3.out.row 0 rfl SB)
  clear B2 B3
  go_upto_region 2 with (((with_reducible refine isS 49 (.tmp 5) (.tmp 7) rfl ?_); refine wp_st (by kernel_rfl) 49 (.tmp 5) (.tmp 7) rfl _ _ rfl rfl hst ?_))
  clear hst
  generalize hg5 : w2.heap.size = g5 at *
  clear hg5
  generalize (w2.alloc (.cells Tryz.zeroCells49 49)).setRow g5 (bvs SB).toArray = w3 at *
  have hld := ld_all (B4.out.bt 0 rfl) 49 _ Tryz.underlying49 rfl 256 rfl tb256
  go_wp2_with (((with_reducible refine isD 8 rfl ?_); refine wp_ld (by kernel_rfl) 49 (.tmp 5) rfl _ rfl _ hld ?_))
  refine (undoing_any w3).mono ?_
  rintro e w4 ⟨rfl, hb4⟩
  have B5 := hid (B4.out.on hb4)
  clear hb4 B4 hld
  have B6 := hid (p := Bx w ((w4.heap.size, 49, List.replicate 256 0) :: [(g5, 49, SB), (w.heap.size + 1 + 1, 22, List.replicate 16 0), (w.heap.size + 1, 22, b), (w.heap.size, 22, key)]) (w4.alloc (.cells Tryz.zeroCells49 49))) (by rw [z256E]; exact B5.out.add 49 (List.replicate 256 0))
  have hst := st_all (B6.out.bt 0 rfl) 49 IB 256 rfl (by simp) tb256
  have B4 := hid (p := Bx w ((w4.heap.size, 49, IB) :: [(g5, 49, SB), (w.heap.size + 1 + 1, 22, List.replicate 16 0), (w.heap.size + 1, 22, b), (w.heap.size, 22, key)]) ((w4.alloc (.cells Tryz.zeroCells49 49)).setRow w4.heap.size (bvs IB).toArray)) (B6.out.row 0 rfl IB)
  clear B5 B6
  go_upto_region 3 with (((with_reducible refine isS 49 (.tmp 6) (.tmp 9) rfl ?_); refine wp_st (by kernel_rfl) 49 (.tmp 6) (.tmp 9) rfl _ _ rfl rfl hst ?_))
  clear hst
  generalize hg6 : w4.heap.size = g6 at *
  clear hg6
  generalize (w4.alloc (.cells Tryz.zeroCells49 49)).setRow g6 (bvs IB).toArray = w5 at *
  have BJ := hid (p := Bx w [(g6, 49, IB), (g5, 49, SB), (w.heap.size + 1 + 1, 22, List.replicate 16 0), (w.heap.size + 1, 22, b), (w.heap.size, 22, key)] _) B4.out
  clear B4
  refine wp_region_noPanic ?_
  refine Goes.region (SBx w [(g6, 49, IB), (g5, 49, SB), (w.heap.size + 1 + 1, 22, List.replicate 16 0), (w.heap.size + 1, 22, b), (w.heap.size, 22, key)] [2, 3]) (by as_aux_lemma => kernel_rfl) ?_
  have BJ := hid (BJ.out.drew)
  refine Goes.take (i := 0) (o := ⟨some 10, _, _, _, _, _⟩) [3] rfl (by as_aux_lemma => kernel_rfl) (by as_aux_lemma => kernel_rfl) (by as_aux_lemma => kernel_rfl) (fun _ _ _ h => h) (by as_aux_lemma => kernel_rfl) (fun L u h => SBx.quiet (by decide) h) (Or.inl ⟨by rfl, fun u hY => y_ld _ _ rfl _ _ rfl (have hX := SBx.yet hY (by decide); ld_all (hX.bt 3 rfl) 22 _ Tryz.underlying22 rfl 16 HB.out row16)⟩) (SBx.of BJ.out) ?_
  try simp only [putz]
  refine Goes.take (i := 1) (o := ⟨some 11, _, _, _, _, _⟩) [2] rfl (by as_aux_lemma => kernel_rfl) (by as_aux_lemma => kernel_rfl) (by as_aux_lemma => kernel_rfl) (fun _ _ _ h => h) (by as_aux_lemma => kernel_rfl) (fun L u h => SBx.quiet (by decide) h) (Or.inl ⟨by rfl, fun u hY => y_ld _ _ rfl _ _ rfl (have hX := SBx.yet hY (by decide); ld_all (hX.bt 4 rfl) 22 _ Tryz.underlying22 rfl 16 HK.out row16)⟩) (SBx.of BJ.out) ?_
  try simp only [putz]
  refine Goes.one (i := 2) (o := ⟨some 12, _, _, _, _, _⟩) (by as_aux_lemma => kernel_rfl) rfl (fun K hK => ?_)
  go_simp
  with_reducible refine (spread_any g5 key _ (BJ.out.bt 1 rfl) HK.out).mono ?_
  rintro e wa ⟨rfl, hba⟩
  have BJ := hid (BJ.out.on hba)
  clear hba
  go_wp2_with fail
  refine hK.out _ _ (SBx.of BJ.out) ?_
  clear hK K
  try simp only [putz]
  refine Goes.one (i := 3) (o := ⟨some 13, _, _, _, _, _⟩) (by as_aux_lemma => kernel_rfl) rfl (fun K hK => ?_)
  go_simp
  with_reducible refine (out_any g6 b (wk key 10) _ (BJ.out.bt 0 rfl) HB.out (wk_length key HK.out 10 (by decide))).mono ?_
  rintro e wb ⟨rfl, hba⟩
  have BJ := hid (BJ.out.on hba)
  clear hba
  rw [HW.out]
  go_wp2_with fail
  refine hK.out _ _ (SBx.of BJ.out) ?_
  clear hK K
  try simp only [putz]
  refine Goes.one (i := 4) (o := ⟨none, _, _, _, _, _⟩) (by as_aux_lemma => kernel_rfl) rfl (fun K hK => ?_)
  have hst := st_all (BJ.out.bt 2 rfl) 22 (dec key b) 16 (dec_length _ _) (by simp) row16
  have hrow := BJ.out.row 2 rfl (dec key b)
  have HZ2 := hid (hrow.bt 2 rfl)
  have HB2 := hid hrow.below
  clear hrow
  unfold Bt at HZ2
  refine step_st (by kernel_rfl) 22 (.tmp 4) (.tmp 13) rfl _ _ rfl rfl hst ?_
  clear hst BJ
  refine hK.out _ _ (SBx.off (by decide)) ?_
  clear hK K
  try simp only [putz]
  refine Goes.done (by as_aux_lemma => kernel_rfl) ?_ _
  refine NoPanic.normal ?_
  have HI := hid (p := (Tryz.prog.info? 22).map (·.size) = some (bvs (dec key b)).toArray.size) (by rw [bsz, dec_length]; exact row16)
  generalize hz : (bvs (dec key b)).toArray = z at *
  have HZ := hid hz
  clear hz
  go_wp2_with fail
  exact bodyPost_ret (v := .agg z) (results_cell_row (p := 4) (ty := 22) Tryz.results13 _ _ _ 22 z (0, 0) _ rfl HZ2.out Tryz.underlying22 rfl HI.out) rfl ⟨by rw [HZ.out], HB2.out⟩
end Go.Proofs.YtbccnkjfjlmflaaGreatDoor
