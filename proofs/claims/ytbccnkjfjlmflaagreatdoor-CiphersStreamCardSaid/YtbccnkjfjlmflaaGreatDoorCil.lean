/-
  ciphers.out, walked. Conditions: none.
-/
import Derived.Test.YtbccnkjfjlmflaaGreatDoorCij
namespace Go.Proofs.YtbccnkjfjlmflaaGreatDoor
open Go.RowKit
set_option linter.unusedVariables false
set_option linter.unusedSimpArgs false

set_option maxRecDepth 100000 in
set_option maxHeartbeats 4000000 in
theorem out_any (g : Nat) (b wd : List UInt8) (w : World) (ht : Bt w g 49 IB) (hb : b.length = 16) (hwl : wd.length = 176) :
    Calls Tryz.prog 67 #[.agg (bvs b).toArray, .agg (bvs wd).toArray, .pointer (some ⟨g, 0, none⟩)] w fun e w' => e = .returned (.agg (bvs (decw wd b)).toArray) ∧ Below w.heap.size w w' := by
  have HT := hid ht
  have HB := hid hb
  have HWL := hid hwl
  clear ht hb hwl
  have B3 := hid (bx3 w 51 53 51 b wd (List.replicate 16 0))
  go_enter Tryz.func67, Tryz.ntmps67
  go_upto_region 1 with fail
  rw [← z16]
  generalize ((w.alloc (.cells (bvs b).toArray 51)).alloc (.cells (bvs wd).toArray 53)).alloc (.cells (bvs (List.replicate 16 0)).toArray 51) = w1 at *
  have B4 := hid (p := Bx w [(w.heap.size + 1 + 1, 51, List.replicate 16 0), (w.heap.size + 1, 53, wd), (w.heap.size, 51, oub wd b 0)] w1) B3.out
  clear B3
  go_step3
  go_wp2_with fail
  go_step3
  go_wp2_with fail
  go_loopw [7] (fun i wr => ∃ j m : Nat, Hid (j + m = 10) ∧ i = .int .i64 m ∧ Hid (Bx w [(w.heap.size + 1 + 1, 51, List.replicate 16 0), (w.heap.size + 1, 53, wd), (w.heap.size, 51, oub wd b j)] wr)) (fun i _ => (intOf i + 1).toNat)
  case atStart => exact ⟨0, 10, hid rfl, rfl, B4⟩
  case round =>
    clear B4
    obtain ⟨j, m, HM, rfl, BJ⟩ := hrel
    have HIL := hid (oub_length wd b j HB.out)
    have HRL := hid (rkw_length wd m (by rw [HWL.out]; have := HM.out; omega))
    have HAG := hid (ag_ark wd m (oub wd b j))
    have h11 : (m : Int) < 11 := by have := HM.out; omega
    have h00 : (0 : Int) ≤ (m : Int) := by omega
    go_upto_region 3 with fail
    refine wp_region_noPanic ?_
    refine Goes.region (SBx w [(w.heap.size + 1 + 1, 51, List.replicate 16 0), (w.heap.size + 1, 53, wd), (w.heap.size, 51, oub wd b j)] [4]) (by as_aux_lemma => kernel_rfl) ?_
    have BJ := hid (BJ.out.drew)
    refine Goes.take (i := 0) (o := ⟨some 10, _, _, _, _, _⟩) [4] rfl (by as_aux_lemma => kernel_rfl) (by as_aux_lemma => kernel_rfl) (by as_aux_lemma => kernel_rfl) (fun _ _ _ h => h) (by as_aux_lemma => kernel_rfl) (fun L u h => SBx.quiet (by decide) h) (Or.inl ⟨by rfl, fun u hY => y_ld _ _ rfl _ _ rfl (have hX := SBx.yet hY (by decide); ld_all (hX.bt 2 rfl) 51 _ Tryz.underlying51 rfl 16 HIL.out st16)⟩) (SBx.of BJ.out) ?_
    try simp only [putz]
    refine Goes.take (i := 1) (o := ⟨some 11, _, _, _, _, _⟩) (v := ?_) [] rfl (by as_aux_lemma => kernel_rfl) (by as_aux_lemma => kernel_rfl) (by as_aux_lemma => kernel_rfl) (fun _ _ _ h => h) (by as_aux_lemma => kernel_rfl) (fun L u h => SBx.quiet (by decide) h) (Or.inl ⟨by rfl, ?_⟩) (SBx.of BJ.out) ?_
    rotate_left
    · intro u hY; go_simp; try with_reducible rfl
    try simp only [putz]
    refine Goes.take (i := 2) (o := ⟨some 12, _, _, _, _, _⟩) (v := ?_) [] rfl (by as_aux_lemma => kernel_rfl) (by as_aux_lemma => kernel_rfl) (by as_aux_lemma => kernel_rfl) (fun _ _ _ h => h) (by as_aux_lemma => kernel_rfl) (fun L u h => SBx.quiet (by decide) h) (Or.inl ⟨by rfl, ?_⟩) (SBx.of BJ.out) ?_
    rotate_left
    · intro u hY; go_simp; try with_reducible rfl
    try simp only [putz]
    refine Goes.take (i := 3) (o := ⟨some 13, _, _, _, _, _⟩) [4] rfl (by as_aux_lemma => kernel_rfl) (by as_aux_lemma => kernel_rfl) (by as_aux_lemma => kernel_rfl) (fun _ _ _ h => h) (by as_aux_lemma => kernel_rfl) (fun L u h => SBx.quiet (by decide) h) (Or.inl ⟨by rfl, fun u hY => y_ld _ _ rfl _ _ rfl (have hX := SBx.yet hY (by decide); ld_rkw (hX.bt 1 rfl) 51 _ Tryz.underlying51 rfl m (by rw [HWL.out]; have := HM.out; omega) st16)⟩) (SBx.of BJ.out) ?_
    try simp only [putz]
    refine Goes.one (i := 4) (o := ⟨some 14, _, _, _, _, _⟩) (by as_aux_lemma => kernel_rfl) rfl (fun K hK => ?_)
    go_simp
    with_reducible refine (against_any (oub wd b j) (rkw wd m) _ HIL.out HRL.out).mono ?_
    rintro e wa ⟨rfl, hba⟩
    have BJ := hid (BJ.out.on hba)
    clear hba
    rw [HAG.out]
    go_wp2_with fail
    refine hK.out _ _ (SBx.of BJ.out) ?_
    clear hK K
    try simp only [putz]
    refine Goes.one (i := 5) (o := ⟨none, _, _, _, _, _⟩) (by as_aux_lemma => kernel_rfl) rfl (fun K hK => ?_)
    have hst := st_all (BJ.out.bt 2 rfl) 51 (ark wd m (oub wd b j)) 16 (ark_length _ _ _) HIL.out st16
    have BA := hid (BJ.out.row 2 rfl (ark wd m (oub wd b j)))
    have BA := hid (p := Bx w [(w.heap.size + 1 + 1, 51, List.replicate 16 0), (w.heap.size + 1, 53, wd), (w.heap.size, 51, ark wd m (oub wd b j))] _) BA.out
    refine step_st (by kernel_rfl) 51 (.tmp 3) (.tmp 14) rfl _ _ rfl rfl hst ?_
    clear hst BJ
    refine hK.out _ _ (SBx.off (by decide)) ?_
    clear hK K
    try simp only [putz]
    refine Goes.done (by as_aux_lemma => kernel_rfl) ?_ _
    refine NoPanic.normal ?_
    clear h11 h00
    generalize wa.setRow w.heap.size (bvs (ark wd m (oub wd b j))).toArray = w4 at *
    by_cases h0 : m = 0
    · subst h0
      obtain rfl : j = 10 := by have := HM.out; omega
      go_upto_region 9 with fail
      rw [oub_end] at BA
      have hl2 := ld_all (l := decw wd b) (BA.out.bt 2 rfl) 51 _ Tryz.underlying51 rfl 16 (decw_length _ _) st16
      have hs2 := st_all (BA.out.bt 0 rfl) 51 (decw wd b) 16 (decw_length _ _) (by simp) st16
      have hrow := BA.out.row 0 rfl (decw wd b)
      have HZ2 := hid (hrow.bt 0 rfl)
      have HB2 := hid hrow.below
      clear hrow
      unfold Bt at HZ2
      generalize hz : (bvs (decw wd b)).toArray = z at *
      have HZ := hid hz
      have HI := hid (p := (Tryz.prog.info? 51).map (·.size) = some z.size) (by rw [← hz, bsz, (show (decw wd b).length = 16 from decw_length _ _)]; exact st16)
      clear hz
      go_wp2_with (first | ((with_reducible refine isD 29 rfl ?_); refine wp_ld (by kernel_rfl) 51 (.tmp 3) rfl _ rfl _ hl2 ?_) | ((with_reducible refine isS 51 (.tmp 6) (.tmp 29) rfl ?_); refine wp_st (by kernel_rfl) 51 (.tmp 6) (.tmp 29) rfl _ _ rfl rfl hs2 ?_))
      try rw [Exit.noGoto_ret]
      exact bodyPost_ret (v := .agg z) (results_cell_row (p := 6) (ty := 51) Tryz.results67 _ _ _ 51 z (0, 0) _ rfl HZ2.out Tryz.underlying51 rfl HI.out) rfl ⟨by rw [HZ.out], HB2.out⟩
    · have hn0 : decide ((m : Int) = 0) = false := decide_eq_false (by omega)
      have hld := ld_all (BA.out.bt 2 rfl) 51 _ Tryz.underlying51 rfl 16 (ark_length _ _ _) st16
      by_cases h10 : m = 10
      · subst h10
        obtain rfl : j = 0 := by have := HM.out; omega
        have HN := hid (p := oub wd b (0 + 1) = hss (ark wd 10 (oub wd b 0))) rfl
        generalize hx : ark wd 10 (oub wd b 0) = x at *
        have HXL := hid (p := x.length = 16) (by rw [← hx]; exact ark_length _ _ _)
        clear hx hn0 h0
        go_wp2_with (((with_reducible refine isD 26 rfl ?_); refine wp_ld (by kernel_rfl) 51 (.tmp 3) rfl _ rfl _ hld ?_))
        refine (turnedBack_any x w4 HXL.out).mono ?_
        rintro e w5 ⟨rfl, hb5⟩
        have B5 := hid (BA.out.on hb5)
        clear hb5 BA hld
        go_wp2_with fail
        refine (of_any g IB (nt x) w5 (HT.out.on B5.out.below) rfl (nt_length _)).mono ?_
        rintro e w6 ⟨rfl, hb6⟩
        have B6 := hid (B5.out.on hb6)
        clear hb6 B5
        rw [oft_nt]
        have hst := st_all (B6.out.bt 2 rfl) 51 (hss x) 16 (hss_length _) HXL.out st16
        have BN := hid (p := Bx w [(w.heap.size + 1 + 1, 51, List.replicate 16 0), (w.heap.size + 1, 53, wd), (w.heap.size, 51, hss x)] (w6.setRow w.heap.size (bvs (hss x)).toArray)) (B6.out.row 2 rfl (hss x))
        rw [← HN.out] at BN hst ⊢
        go_wp2_with (((with_reducible refine isS 51 (.tmp 3) (.tmp 28) rfl ?_); refine wp_st (by kernel_rfl) 51 (.tmp 3) (.tmp 28) rfl _ _ rfl rfl hst ?_))
        go_roundw
        case rel => exact ⟨0 + 1, 9, hid rfl, rfl, BN⟩
        case measure => simp [intOf]
      · have hn10 : decide ((m : Int) = 10) = false := decide_eq_false (by omega)
        have HN := hid (p := oub wd b (j + 1) = hss (imix (ark wd m (oub wd b j)))) (by have := HM.out; rw [oub, if_neg (by omega), show 10 - j = m by omega])
        generalize hx : ark wd m (oub wd b j) = x at *
        have HXL := hid (p := x.length = 16) (by rw [← hx]; exact ark_length _ _ _)
        clear hx
        have HM2 := hid (show j + 1 + (m - 1) = 10 by have := HM.out; omega)
        have hm1 : IntKind.i64.wrap ((m : Int) - 1) = ((m - 1 : Nat) : Int) := by have := HM.out; rw [IntKind.wrap_i64]; omega
        go_wp2_with (((with_reducible refine isD 17 rfl ?_); refine wp_ld (by kernel_rfl) 51 (.tmp 3) rfl _ rfl _ hld ?_))
        refine (mixedBack_any x w4 HXL.out).mono ?_
        rintro e w5 ⟨rfl, hb5⟩
        have B5 := hid (BA.out.on hb5)
        clear hb5 BA hld
        go_wp2_with fail
        refine (turnedBack_any (imix x) w5 (imix_length _)).mono ?_
        rintro e w6 ⟨rfl, hb6⟩
        have B6 := hid (B5.out.on hb6)
        clear hb6 B5
        go_wp2_with fail
        refine (of_any g IB (nt (imix x)) w6 (HT.out.on B6.out.below) rfl (nt_length _)).mono ?_
        rintro e w7 ⟨rfl, hb7⟩
        have B7 := hid (B6.out.on hb7)
        clear hb7 B6
        rw [oft_nt]
        have hst := st_all (B7.out.bt 2 rfl) 51 (hss (imix x)) 16 (hss_length _) HXL.out st16
        have BN := hid (p := Bx w [(w.heap.size + 1 + 1, 51, List.replicate 16 0), (w.heap.size + 1, 53, wd), (w.heap.size, 51, hss (imix x))] (w7.setRow w.heap.size (bvs (hss (imix x))).toArray)) (B7.out.row 2 rfl (hss (imix x)))
        rw [← HN.out] at BN hst ⊢
        go_wp2_with (((with_reducible refine isS 51 (.tmp 3) (.tmp 20) rfl ?_); refine wp_st (by kernel_rfl) 51 (.tmp 3) (.tmp 20) rfl _ _ rfl rfl hst ?_))
        go_roundw
        case rel => exact ⟨j + 1, m - 1, HM2, rfl, BN⟩
        case measure => simp [intOf]; omega
end Go.Proofs.YtbccnkjfjlmflaaGreatDoor
