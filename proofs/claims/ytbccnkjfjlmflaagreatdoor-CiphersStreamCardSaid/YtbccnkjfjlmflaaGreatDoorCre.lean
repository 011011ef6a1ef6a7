/-
  (*burrowref09.Box).Block, walked: the document's block in. Conditions: none.
-/
import Derived.Test.YtbccnkjfjlmflaaGreatDoorCrd
import Derived.Deep.Cut
namespace Go.Proofs.YtbccnkjfjlmflaaGreatDoor
open Go.RowKit
set_option linter.unusedVariables false
set_option linter.unusedSimpArgs false

/-- the state behind m rounds -/
def rst (w b : List UInt8) (m : Nat) : List UInt8 := if m = 10 then encw w b else rdw w b m
theorem rst_length (w b : List UInt8) (m : Nat) : (rst w b m).length = 16 := by
  unfold rst
  split
  · exact encw_length _ _
  · exact rnds_length _ _ _
theorem rst_mix (w b : List UInt8) (m : Nat) (h : m < 9) : ark w (m + 1) (mixc (ssh (rst w b m))) = rst w b (m + 1) := by
  unfold rst; rw [if_neg (by omega), if_neg (by omega)]; rfl
theorem rst_last (w b : List UInt8) : ark w (9 + 1) (ssh (rst w b 9)) = rst w b (9 + 1) := rfl
theorem SI_at (x : UInt8) : gb SI x.toNat = sbb x := by
  unfold SI gb
  rw [List.getD_eq_getElem?_getD, List.getElem?_append_left (by rw [SB_len]; exact x.toNat_lt)]
  rw [← List.getD_eq_getElem?_getD]; rfl
theorem mxd1 (p q r t : UInt8) : p ^^^ tm q 2 ^^^ tm r 3 ^^^ t = mx q r t p := by rw [mx_eq]; ac_rfl
theorem mxd2 (p q r t : UInt8) : p ^^^ q ^^^ tm r 2 ^^^ tm t 3 = mx r t p q := by rw [mx_eq]; ac_rfl
theorem mxd3 (p q r t : UInt8) : tm p 3 ^^^ q ^^^ r ^^^ tm t 2 = mx t p q r := by rw [mx_eq]; ac_rfl
theorem sls (l : List UInt8) (h : l.length = 512) : (l.drop 0).take 256 = l.take 256 := by rw [List.drop_zero]
theorem SI_s : (SI.drop 0).take 256 = SB := by
  rw [List.drop_zero, SI, List.take_append_of_le_length (by rw [SB_len]; exact Nat.le_refl _), List.take_of_length_le (by rw [SB_len]; exact Nat.le_refl _)]
set_option maxRecDepth 100000 in
set_option maxHeartbeats 4000000 in
theorem rblock_any (gx : Nat) (key b : List UInt8) (w : World) (hx : Bt w gx 70 SI) (hk : key.length = 16) (hb : b.length = 16) :
    Calls Tryz.prog 20 #[.pointer (some ⟨gx, 0, none⟩), .agg (bvs key).toArray, .agg (bvs b).toArray] w fun e w' => e = .returned (.agg (bvs (enc key b)).toArray) ∧ Below w.heap.size w w' := by
  have HX := hid hx
  have HK := hid hk
  have HB := hid hb
  clear hx hk hb
  have HWD := hid (fun W => words_any key W HK.out)
  have HKL := hid (kwords_length key 44)
  have HEN := hid (p := encw (kwords key 44) b = enc key b) rfl
  generalize kwords key 44 = kw at *
  have B3 := hid (bx3 w 22 22 22 key b (List.replicate 16 0))
  go_enter Tryz.func20, Tryz.ntmps20
  go_upto_region 1 with fail
  rw [← z16]
  generalize ((w.alloc (.cells (bvs key).toArray 22)).alloc (.cells (bvs b).toArray 22)).alloc (.cells (bvs (List.replicate 16 0)).toArray 22) = w1 at *
  go_cut [7] (fun s7 wx => ∃ g7, s7 = .pointer (some ⟨g7, 0, none⟩) ∧ Hid (Bx w [(g7, 72, kw), (w.heap.size + 1 + 1, 22, List.replicate 16 0), (w.heap.size + 1, 22, b), (w.heap.size, 22, key)] wx))
  case first =>
    refine wp_region_noPanic ?_
    refine Goes.region (SBx w [(w.heap.size + 1 + 1, 22, List.replicate 16 0), (w.heap.size + 1, 22, b), (w.heap.size, 22, key)] [5]) (by as_aux_lemma => kernel_rfl) ?_
    have BJ := hid (B3.out.drew)
    refine Goes.take (i := 0) (o := ⟨some 18, _, _, _, _, _⟩) [5] rfl (by as_aux_lemma => kernel_rfl) (by as_aux_lemma => kernel_rfl) (by as_aux_lemma => kernel_rfl) (fun _ _ _ h => h) (by as_aux_lemma => kernel_rfl) (fun L u h => SBx.quiet (by decide) h) (Or.inl ⟨by rfl, fun u hY => y_ld _ _ rfl _ _ rfl (have hX := SBx.yet hY (by decide); ld_all (hX.bt 2 rfl) 22 _ Tryz.underlying22 rfl 16 HK.out row16)⟩) (SBx.of BJ.out) ?_
    try simp only [putz]
    refine Goes.take (i := 1) (o := ⟨some 19, _, _, _, _, _⟩) (v := ?_) [] rfl (by as_aux_lemma => kernel_rfl) (by as_aux_lemma => kernel_rfl) (by as_aux_lemma => kernel_rfl) (fun _ _ _ h => h) (by as_aux_lemma => kernel_rfl) (fun L u h => SBx.quiet (by decide) h) (Or.inl ⟨by rfl, ?_⟩) (SBx.of BJ.out) ?_
    rotate_left
    · intro u hY; go_simp; try with_reducible rfl
    try simp only [putz]
    refine Goes.take (i := 2) (o := ⟨some 20, _, _, _, _, _⟩) (v := ?_) [] rfl (by as_aux_lemma => kernel_rfl) (by as_aux_lemma => kernel_rfl) (by as_aux_lemma => kernel_rfl) (fun _ _ _ h => h) (by as_aux_lemma => kernel_rfl) (fun L u h => SBx.quiet (by decide) h) (Or.inl ⟨by rfl, ?_⟩) (SBx.of BJ.out) ?_
    rotate_left
    · intro u hY; go_simp; try with_reducible rfl
    try simp only [putz]
    refine Goes.take (i := 3) (o := ⟨some 21, _, _, _, _, _⟩) (v := ?_) [] rfl (by as_aux_lemma => kernel_rfl) (by as_aux_lemma => kernel_rfl) (by as_aux_lemma => kernel_rfl) (fun _ _ _ h => h) (by as_aux_lemma => kernel_rfl) (fun L u h => SBx.quiet (by decide) h) (Or.inl ⟨by rfl, ?_⟩) (SBx.of BJ.out) ?_
    rotate_left
    · intro u hY; go_simp; try with_reducible rfl
    try simp only [putz]
    refine Goes.take (i := 4) (o := ⟨some 22, _, _, _, _, _⟩) [5] rfl (by as_aux_lemma => kernel_rfl) (by as_aux_lemma => kernel_rfl) (by as_aux_lemma => kernel_rfl) (fun _ _ _ h => h) (by as_aux_lemma => kernel_rfl) (fun L u h => SBx.quiet (by decide) h) (Or.inl ⟨by rfl, fun u hY => y_ld _ _ rfl _ _ rfl (have hX := SBx.yet hY (by decide); (SI_s ▸ ld_mid (HX.out.on hX.below) 48 _ Tryz.underlying48 rfl 0 256 (by rw [SI_length]; decide) ra256))⟩) (SBx.of BJ.out) ?_
    try simp only [putz]
    refine Goes.two (i := 5) (j := 6) (o := ⟨some 23, _, _, _, _, _⟩) (p := ⟨some 7, _, _, _, _, _⟩) (by as_aux_lemma => kernel_rfl) rfl rfl (fun K hK => ?_) (fun K hK => ?_)
    · go_simp
      with_reducible refine (HWD.out _).mono ?_
      rintro e v1 ⟨rfl, hba⟩
      have BJ := hid (BJ.out.on hba)
      clear hba
      go_wp2_with fail

      refine hK.out _ _ (SBx.of BJ.out) ?_
      clear hK K
      try simp only [putz]
      refine Goes.one (i := 6) (o := ⟨some 7, _, _, _, _, _⟩) (by as_aux_lemma => kernel_rfl) rfl (fun K hK => ?_)
      go_simp
      have BJ := hid (BJ.out.add 72 (List.replicate 176 0))
      rw [← z176rE] at BJ

      refine hK.out _ _ (SBx.off (by decide)) ?_
      clear hK K
      try simp only [putz]
      have hst := st_all (BJ.out.bt 0 rfl) 72 (kw) 176 HKL.out (by simp) wr176
      have BN := hid (BJ.out.row 0 rfl (kw))
      refine Goes.one (i := 7) (o := ⟨none, _, _, _, _, _⟩) (by as_aux_lemma => kernel_rfl) rfl (fun K hK => ?_)
      refine step_st (by kernel_rfl) 72 (.tmp 7) (.tmp 23) rfl _ _ rfl rfl hst ?_
      refine hK.out _ _ (SBx.off (by decide)) ?_
      clear hK K hst
      try simp only [putz]
      refine Goes.done (by as_aux_lemma => kernel_rfl) ?_ _
      refine NoPanic.normal ?_
      go_wp2_with fail
      go_meet
      exact ⟨_, rfl, BN⟩

    · go_simp
      have BJ := hid (BJ.out.add 72 (List.replicate 176 0))
      rw [← z176rE] at BJ

      refine hK.out _ _ (SBx.of BJ.out.tail) ?_
      clear hK K
      try simp only [putz]
      refine Goes.one (i := 5) (o := ⟨some 23, _, _, _, _, _⟩) (by as_aux_lemma => kernel_rfl) rfl (fun K hK => ?_)
      go_simp
      with_reducible refine (HWD.out _).mono ?_
      rintro e v1 ⟨rfl, hba⟩
      have BJ := hid (BJ.out.on hba)
      clear hba
      go_wp2_with fail

      refine hK.out _ _ (SBx.off (by decide)) ?_
      clear hK K
      try simp only [putz]
      have hst := st_all (BJ.out.bt 0 rfl) 72 (kw) 176 HKL.out (by simp) wr176
      have BN := hid (BJ.out.row 0 rfl (kw))
      refine Goes.one (i := 7) (o := ⟨none, _, _, _, _, _⟩) (by as_aux_lemma => kernel_rfl) rfl (fun K hK => ?_)
      refine step_st (by kernel_rfl) 72 (.tmp 7) (.tmp 23) rfl _ _ rfl rfl hst ?_
      refine hK.out _ _ (SBx.off (by decide)) ?_
      clear hK K hst
      try simp only [putz]
      refine Goes.done (by as_aux_lemma => kernel_rfl) ?_ _
      refine NoPanic.normal ?_
      go_wp2_with fail
      go_meet
      exact ⟨_, rfl, BN⟩

  case rest =>
    obtain ⟨g7, rfl, B4⟩ := hcut
    clear B3
    have HN := hid (show (0 : Nat) ≤ 10 by decide)
    have B5 := hid (p := Bx w [(g7, 72, kw), (w.heap.size + 1 + 1, 22, List.replicate 16 0), (w.heap.size + 1, 22, upto 16 (fun i => gb b i ^^^ gb kw i) b 0), (w.heap.size, 22, key)] wc) (by rw [upto_none _ _ _ HB.out]; exact B4.out)
    clear B4
    go_wp2_with fail
    go_loopw [8] (fun n wr => ∃ i : Nat, i ≤ 16 ∧ n = .int .i64 i ∧ Hid (Bx w [(g7, 72, kw), (w.heap.size + 1 + 1, 22, List.replicate 16 0), (w.heap.size + 1, 22, upto 16 (fun i => gb b i ^^^ gb kw i) b i), (w.heap.size, 22, key)] wr)) (fun n _ => 16 - (intOf n).toNat)
    case atStart => exact ⟨0, Nat.zero_le _, rfl, B5⟩
    case round =>
      clear B5
      obtain ⟨i, hi, rfl, BJ⟩ := hrel
      by_cases hlt : i < 16
      · have HI := hid hlt
        obtain ⟨q, hq⟩ : ∃ q, q = i / 4 := ⟨_, rfl⟩
        obtain ⟨r, hr⟩ : ∃ r, r = i % 4 := ⟨_, rfl⟩
        have qd : (i : Int) / 4 = (q : Int) := by omega
        have qt : Int.tdiv (i : Int) 4 = (q : Int) := by rw [Int.tdiv_eq_ediv_of_nonneg (by omega)]; exact qd
        have re : (i : Int) % 4 = (r : Int) := by omega
        have rt : Int.tmod (i : Int) 4 = (r : Int) := by rw [Int.tmod_eq_emod_of_nonneg (by omega)]; exact re
        have qw : IntKind.i64.wrap (q : Int) = (q : Int) := by rw [IntKind.wrap_i64]; omega
        have qi : (q : Int) < 44 := by omega
        have qz : (0 : Int) ≤ (q : Int) := by omega
        have ri : (r : Int) < 4 := by omega
        have rz : (0 : Int) ≤ (r : Int) := by omega
        have ii : (i : Int) < 16 := by omega
        have iz : (0 : Int) ≤ (i : Int) := by omega

        have HWB := hid (show q * 4 + r < 4 * 44 by omega)
        have HWE := hid (p := gb kw (q * 4 + r) = gb kw i) (by rw [show q * 4 + r = i by omega])
        have BN := hid (BJ.out.drew.set 2 rfl i (gb b i ^^^ gb kw i))
        rw [upto_set 16 (fun i => gb b i ^^^ gb kw i)] at BN
        have BN2 := hid (p := Bx w [(g7, 72, kw), (w.heap.size + 1 + 1, 22, List.replicate 16 0), (w.heap.size + 1, 22, upto 16 (fun i => gb b i ^^^ gb kw i) b (i + 1)), (w.heap.size, 22, key)] _) BN.out
        clear BN hq hr
        have hx := xor_u8 (gb b i) (gb kw i)
        generalize gb b i ^^^ gb kw i = z at *
        go_upto_region 5 with fail
        refine wp_region_noPanic ?_
        refine Goes.region (SBx w [(g7, 72, kw), (w.heap.size + 1 + 1, 22, List.replicate 16 0), (w.heap.size + 1, 22, upto 16 (fun i => gb b i ^^^ gb kw i) b i), (w.heap.size, 22, key)] [12]) (by as_aux_lemma => kernel_rfl) ?_
        have BJ := hid (BJ.out.drew)
        refine Goes.take (i := 0) (o := ⟨some 28, _, _, _, _, _⟩) (v := ?_) [] rfl (by as_aux_lemma => kernel_rfl) (by as_aux_lemma => kernel_rfl) (by as_aux_lemma => kernel_rfl) (fun _ _ _ h => h) (by as_aux_lemma => kernel_rfl) (fun L u h => SBx.quiet (by decide) h) (Or.inl ⟨by rfl, ?_⟩) (SBx.of BJ.out) ?_
        rotate_left
        · intro u hY; go_simp; try with_reducible rfl
        try simp only [putz]
        refine Goes.take (i := 1) (o := ⟨some 29, _, _, _, _, _⟩) (v := ?_) [] rfl (by as_aux_lemma => kernel_rfl) (by as_aux_lemma => kernel_rfl) (by as_aux_lemma => kernel_rfl) (fun _ _ _ h => h) (by as_aux_lemma => kernel_rfl) (fun L u h => SBx.quiet (by decide) h) (Or.inl ⟨by rfl, ?_⟩) (SBx.of BJ.out) ?_
        rotate_left
        · intro u hY; go_simp; try with_reducible rfl
        try simp only [putz]
        refine Goes.take (i := 2) (o := ⟨some 30, _, _, _, _, _⟩) (v := ?_) [12] rfl (by as_aux_lemma => kernel_rfl) (by as_aux_lemma => kernel_rfl) (by as_aux_lemma => kernel_rfl) (fun _ _ _ h => h) (by as_aux_lemma => kernel_rfl) (fun L u h => SBx.quiet (by decide) h) (Or.inl ⟨by rfl, ?_⟩) (SBx.of BJ.out) ?_
        rotate_left
        · intro u hY; have hX := SBx.yet hY (by decide); have hc := hX.cell 2 rfl i (by rw [upto_length]; exact HI.out); rw [upto_at _ _ _ _ _ HI.out (Nat.le_refl _)] at hc; clear hY hX; go_simp; try with_reducible rfl
        try simp only [putz]
        refine Goes.take (i := 3) (o := ⟨some 31, _, _, _, _, _⟩) (v := ?_) [] rfl (by as_aux_lemma => kernel_rfl) (by as_aux_lemma => kernel_rfl) (by as_aux_lemma => kernel_rfl) (fun _ _ _ h => h) (by as_aux_lemma => kernel_rfl) (fun L u h => SBx.quiet (by decide) h) (Or.inl ⟨by rfl, ?_⟩) (SBx.of BJ.out) ?_
        rotate_left
        · intro u hY; go_simp; try with_reducible rfl
        try simp only [putz]
        refine Goes.take (i := 4) (o := ⟨some 32, _, _, _, _, _⟩) (v := ?_) [] rfl (by as_aux_lemma => kernel_rfl) (by as_aux_lemma => kernel_rfl) (by as_aux_lemma => kernel_rfl) (fun _ _ _ h => h) (by as_aux_lemma => kernel_rfl) (fun L u h => SBx.quiet (by decide) h) (Or.inl ⟨by rfl, ?_⟩) (SBx.of BJ.out) ?_
        rotate_left
        · intro u hY; go_simp; try with_reducible rfl
        try simp only [putz]
        refine Goes.take (i := 5) (o := ⟨some 33, _, _, _, _, _⟩) (v := ?_) [] rfl (by as_aux_lemma => kernel_rfl) (by as_aux_lemma => kernel_rfl) (by as_aux_lemma => kernel_rfl) (fun _ _ _ h => h) (by as_aux_lemma => kernel_rfl) (fun L u h => SBx.quiet (by decide) h) (Or.inl ⟨by rfl, ?_⟩) (SBx.of BJ.out) ?_
        rotate_left
        · intro u hY; go_simp; try with_reducible rfl
        try simp only [putz]
        refine Goes.take (i := 6) (o := ⟨some 34, _, _, _, _, _⟩) (v := ?_) [] rfl (by as_aux_lemma => kernel_rfl) (by as_aux_lemma => kernel_rfl) (by as_aux_lemma => kernel_rfl) (fun _ _ _ h => h) (by as_aux_lemma => kernel_rfl) (fun L u h => SBx.quiet (by decide) h) (Or.inl ⟨by rfl, ?_⟩) (SBx.of BJ.out) ?_
        rotate_left
        · intro u hY; go_simp; try with_reducible rfl
        try simp only [putz]
        refine Goes.take (i := 7) (o := ⟨some 35, _, _, _, _, _⟩) (v := ?_) [] rfl (by as_aux_lemma => kernel_rfl) (by as_aux_lemma => kernel_rfl) (by as_aux_lemma => kernel_rfl) (fun _ _ _ h => h) (by as_aux_lemma => kernel_rfl) (fun L u h => SBx.quiet (by decide) h) (Or.inl ⟨by rfl, ?_⟩) (SBx.of BJ.out) ?_
        rotate_left
        · intro u hY; go_simp; try with_reducible rfl
        try simp only [putz]
        refine Goes.take (i := 8) (o := ⟨some 36, _, _, _, _, _⟩) (v := ?_) [] rfl (by as_aux_lemma => kernel_rfl) (by as_aux_lemma => kernel_rfl) (by as_aux_lemma => kernel_rfl) (fun _ _ _ h => h) (by as_aux_lemma => kernel_rfl) (fun L u h => SBx.quiet (by decide) h) (Or.inl ⟨by rfl, ?_⟩) (SBx.of BJ.out) ?_
        rotate_left
        · intro u hY; go_simp; try with_reducible rfl
        try simp only [putz]
        refine Goes.take (i := 9) (o := ⟨some 37, _, _, _, _, _⟩) (v := ?_) [12] rfl (by as_aux_lemma => kernel_rfl) (by as_aux_lemma => kernel_rfl) (by as_aux_lemma => kernel_rfl) (fun _ _ _ h => h) (by as_aux_lemma => kernel_rfl) (fun L u h => SBx.quiet (by decide) h) (Or.inl ⟨by rfl, ?_⟩) (SBx.of BJ.out) ?_
        rotate_left
        · intro u hY; have hX := SBx.yet hY (by decide); have hc := hX.cell 0 rfl (q * 4 + r) (by rw [HKL.out]; exact HWB.out); rw [HWE.out] at hc; clear hY hX; go_simp; try with_reducible rfl
        try simp only [putz]
        refine Goes.take (i := 10) (o := ⟨some 38, _, _, _, _, _⟩) (v := ?_) [] rfl (by as_aux_lemma => kernel_rfl) (by as_aux_lemma => kernel_rfl) (by as_aux_lemma => kernel_rfl) (fun _ _ _ h => h) (by as_aux_lemma => kernel_rfl) (fun L u h => SBx.quiet (by decide) h) (Or.inl ⟨by rfl, ?_⟩) (SBx.of BJ.out) ?_
        rotate_left
        · intro u hY; go_simp; try with_reducible rfl
        try simp only [putz]
        refine Goes.take (i := 11) (o := ⟨some 39, _, _, _, _, _⟩) (v := ?_) [] rfl (by as_aux_lemma => kernel_rfl) (by as_aux_lemma => kernel_rfl) (by as_aux_lemma => kernel_rfl) (fun _ _ _ h => h) (by as_aux_lemma => kernel_rfl) (fun L u h => SBx.quiet (by decide) h) (Or.inl ⟨by rfl, ?_⟩) (SBx.of BJ.out) ?_
        rotate_left
        · intro u hY; go_simp; try with_reducible rfl
        try simp only [putz]
        refine Goes.one (i := 12) (o := ⟨none, _, _, _, _, _⟩) (by as_aux_lemma => kernel_rfl) rfl (fun K hK => ?_)
        have hc0 := BJ.out.cell 2 rfl i (by rw [upto_length]; exact HI.out)
        have hf := BJ.out.frozen 2 rfl i
        go_simp
        go_wp2_with fail
        refine hK.out _ _ (SBx.off (by decide)) ?_
        clear hK K
        try simp only [putz]
        refine Goes.done (by as_aux_lemma => kernel_rfl) ?_ _
        refine NoPanic.normal ?_
        clear hx qd qt qw re rt qi qz ri rz ii iz
        go_wp2
        go_roundw
        case rel => exact ⟨i + 1, HI.out, by go_num, BN2⟩
        case measure => have := HI.out; simp [intOf]; omega
      · have h16 : i = 16 := by omega
        have hge : ¬ (i : Int) < 16 := by omega
        rw [h16] at BJ
        clear h16 hlt hi
        have HE := hid (p := upto 16 (fun i => gb b i ^^^ gb kw i) b 16 = rst kw b 0) (by rw [upto_all]; unfold rst; rw [if_neg (by decide), rdw, ark]; exact tab_congr _ _ _ fun i hi => by rw [Nat.mul_zero, Nat.zero_add])
        rw [HE.out] at BJ
        clear HE HN
        go_upto_region 6 with fail
        go_wp2_with fail
        go_loopw [9] (fun nn wr => ∃ m : Nat, m ≤ 10 ∧ nn = .int .i64 ((m + 1 : Nat) : Int) ∧ Hid (Bx w [(g7, 72, kw), (w.heap.size + 1 + 1, 22, List.replicate 16 0), (w.heap.size + 1, 22, rst kw b m), (w.heap.size, 22, key)] wr)) (fun nn _ => 11 - (intOf nn).toNat)
        case atStart => exact ⟨0, Nat.zero_le _, rfl, BJ⟩
        case round =>
          clear BJ
          obtain ⟨m, hm, rfl, BJ⟩ := hrel
          by_cases hm10 : m < 10
          · have HM := hid hm10
            obtain ⟨n, hn⟩ : ∃ n, n = m + 1 := ⟨_, rfl⟩
            have HNM := hid hn
            rw [← hn]
            have hnl : (n : Int) ≤ 10 := by omega
            clear hn hm hm10
            go_upto_region 9 with fail
            clear hnl
            have BC := hid (p := Bx w ((wr.heap.size, 22, List.replicate 16 0) :: [(g7, 72, kw), (w.heap.size + 1 + 1, 22, List.replicate 16 0), (w.heap.size + 1, 22, rst kw b m), (w.heap.size, 22, key)]) (wr.alloc (.cells (bvs (List.replicate 16 0)).toArray 22))) (BJ.out.add 22 (List.replicate 16 0))
            clear BJ
            go_upto_region 10 with fail
            rw [← z16]
            generalize wr.alloc (.cells (bvs (List.replicate 16 0)).toArray 22) = wd at *
            generalize hg : wr.heap.size = gc at *
            clear hg
            have BD := hid (p := Bx w [(gc, 22, upto 16 (fun i => sbb (gb (rst kw b m) ((i + 4 * (i % 4)) % 16))) (List.replicate 16 0) 0), (g7, 72, kw), (w.heap.size + 1 + 1, 22, List.replicate 16 0), (w.heap.size + 1, 22, rst kw b m), (w.heap.size, 22, key)] wd) (by rw [upto_none _ _ _ (by simp)]; exact BC.out)
            clear BC
            go_wp2_with fail
            go_loopw [11] (fun ii wr => ∃ i : Nat, i ≤ 16 ∧ ii = .int .i64 i ∧ Hid (Bx w [(gc, 22, upto 16 (fun i => sbb (gb (rst kw b m) ((i + 4 * (i % 4)) % 16))) (List.replicate 16 0) i), (g7, 72, kw), (w.heap.size + 1 + 1, 22, List.replicate 16 0), (w.heap.size + 1, 22, rst kw b m), (w.heap.size, 22, key)] wr)) (fun ii _ => 16 - (intOf ii).toNat)
            case atStart => exact ⟨0, Nat.zero_le _, rfl, BD⟩
            case round =>
              clear BD
              obtain ⟨i, hi, rfl, BJ⟩ := hrel
              by_cases hlt : i < 16
              · have HI := hid hlt
                obtain ⟨r, hr⟩ : ∃ r, r = i % 4 := ⟨_, rfl⟩
                obtain ⟨g, hg⟩ : ∃ g, g = 4 * r := ⟨_, rfl⟩
                obtain ⟨v, hv⟩ : ∃ v, v = i + g := ⟨_, rfl⟩
                obtain ⟨s, hs⟩ : ∃ s, s = v % 16 := ⟨_, rfl⟩
                have re : (i : Int) % 4 = (r : Int) := by omega
                have rt : Int.tmod (i : Int) 4 = (r : Int) := by rw [Int.tmod_eq_emod_of_nonneg (by omega)]; exact re
                have gw : IntKind.i64.wrap (4 * (r : Int)) = (g : Int) := by rw [IntKind.wrap_i64]; omega
                have vw : IntKind.i64.wrap ((i : Int) + (g : Int)) = (v : Int) := by rw [IntKind.wrap_i64]; omega
                have se : (v : Int) % 16 = (s : Int) := by omega
                have st : Int.tmod (v : Int) 16 = (s : Int) := by rw [Int.tmod_eq_emod_of_nonneg (by omega)]; exact se
                have si : (s : Int) < 16 := by omega
                have sz : (0 : Int) ≤ (s : Int) := by omega
                have ii : (i : Int) < 16 := by omega
                have iz : (0 : Int) ≤ (i : Int) := by omega
                have HS := hid (show s < 16 by omega)
                have BN := hid (BJ.out.drew.set 0 rfl i (sbb (gb (rst kw b m) ((i + 4 * (i % 4)) % 16))))
                rw [upto_set 16 (fun i => sbb (gb (rst kw b m) ((i + 4 * (i % 4)) % 16)))] at BN
                rw [show (i + 4 * (i % 4)) % 16 = s by omega] at BN
                have BN2 := hid (p := Bx w [(gc, 22, upto 16 (fun i => sbb (gb (rst kw b m) ((i + 4 * (i % 4)) % 16))) (List.replicate 16 0) (i + 1)), (g7, 72, kw), (w.heap.size + 1 + 1, 22, List.replicate 16 0), (w.heap.size + 1, 22, rst kw b m), (w.heap.size, 22, key)] _) BN.out
                clear BN hr hg hv hs
                generalize hx : gb (rst kw b m) s = x at *
                have XS := hid hx
                clear hx
                have xg := iv_ge x
                have xl := iv_lt x
                go_upto_region 13 with fail
                refine wp_region_noPanic ?_
                refine Goes.region (SBx w [(gc, 22, upto 16 (fun i => sbb (gb (rst kw b m) ((i + 4 * (i % 4)) % 16))) (List.replicate 16 0) i), (g7, 72, kw), (w.heap.size + 1 + 1, 22, List.replicate 16 0), (w.heap.size + 1, 22, rst kw b m), (w.heap.size, 22, key)] [15]) (by as_aux_lemma => kernel_rfl) ?_
                have BJ := hid (BJ.out.drew)
                refine Goes.take (i := 0) (o := ⟨some 48, _, _, _, _, _⟩) (v := ?_) [] rfl (by as_aux_lemma => kernel_rfl) (by as_aux_lemma => kernel_rfl) (by as_aux_lemma => kernel_rfl) (fun _ _ _ h => h) (by as_aux_lemma => kernel_rfl) (fun L u h => SBx.quiet (by decide) h) (Or.inl ⟨by rfl, ?_⟩) (SBx.of BJ.out) ?_
                rotate_left
                · intro u hY; go_simp; try with_reducible rfl
                try simp only [putz]
                refine Goes.take (i := 1) (o := ⟨some 49, _, _, _, _, _⟩) (v := ?_) [] rfl (by as_aux_lemma => kernel_rfl) (by as_aux_lemma => kernel_rfl) (by as_aux_lemma => kernel_rfl) (fun _ _ _ h => h) (by as_aux_lemma => kernel_rfl) (fun L u h => SBx.quiet (by decide) h) (Or.inl ⟨by rfl, ?_⟩) (SBx.of BJ.out) ?_
                rotate_left
                · intro u hY; go_simp; try with_reducible rfl
                try simp only [putz]
                refine Goes.take (i := 2) (o := ⟨some 50, _, _, _, _, _⟩) (v := ?_) [] rfl (by as_aux_lemma => kernel_rfl) (by as_aux_lemma => kernel_rfl) (by as_aux_lemma => kernel_rfl) (fun _ _ _ h => h) (by as_aux_lemma => kernel_rfl) (fun L u h => SBx.quiet (by decide) h) (Or.inl ⟨by rfl, ?_⟩) (SBx.of BJ.out) ?_
                rotate_left
                · intro u hY; go_simp; try with_reducible rfl
                try simp only [putz]
                refine Goes.take (i := 3) (o := ⟨some 51, _, _, _, _, _⟩) (v := ?_) [] rfl (by as_aux_lemma => kernel_rfl) (by as_aux_lemma => kernel_rfl) (by as_aux_lemma => kernel_rfl) (fun _ _ _ h => h) (by as_aux_lemma => kernel_rfl) (fun L u h => SBx.quiet (by decide) h) (Or.inl ⟨by rfl, ?_⟩) (SBx.of BJ.out) ?_
                rotate_left
                · intro u hY; go_simp; try with_reducible rfl
                try simp only [putz]
                refine Goes.take (i := 4) (o := ⟨some 52, _, _, _, _, _⟩) (v := ?_) [] rfl (by as_aux_lemma => kernel_rfl) (by as_aux_lemma => kernel_rfl) (by as_aux_lemma => kernel_rfl) (fun _ _ _ h => h) (by as_aux_lemma => kernel_rfl) (fun L u h => SBx.quiet (by decide) h) (Or.inl ⟨by rfl, ?_⟩) (SBx.of BJ.out) ?_
                rotate_left
                · intro u hY; go_simp; try with_reducible rfl
                try simp only [putz]
                refine Goes.take (i := 5) (o := ⟨some 53, _, _, _, _, _⟩) (v := ?_) [] rfl (by as_aux_lemma => kernel_rfl) (by as_aux_lemma => kernel_rfl) (by as_aux_lemma => kernel_rfl) (fun _ _ _ h => h) (by as_aux_lemma => kernel_rfl) (fun L u h => SBx.quiet (by decide) h) (Or.inl ⟨by rfl, ?_⟩) (SBx.of BJ.out) ?_
                rotate_left
                · intro u hY; go_simp; try with_reducible rfl
                try simp only [putz]
                refine Goes.take (i := 6) (o := ⟨some 54, _, _, _, _, _⟩) (v := ?_) [] rfl (by as_aux_lemma => kernel_rfl) (by as_aux_lemma => kernel_rfl) (by as_aux_lemma => kernel_rfl) (fun _ _ _ h => h) (by as_aux_lemma => kernel_rfl) (fun L u h => SBx.quiet (by decide) h) (Or.inl ⟨by rfl, ?_⟩) (SBx.of BJ.out) ?_
                rotate_left
                · intro u hY; go_simp; try with_reducible rfl
                try simp only [putz]
                refine Goes.take (i := 7) (o := ⟨some 55, _, _, _, _, _⟩) (v := ?_) [] rfl (by as_aux_lemma => kernel_rfl) (by as_aux_lemma => kernel_rfl) (by as_aux_lemma => kernel_rfl) (fun _ _ _ h => h) (by as_aux_lemma => kernel_rfl) (fun L u h => SBx.quiet (by decide) h) (Or.inl ⟨by rfl, ?_⟩) (SBx.of BJ.out) ?_
                rotate_left
                · intro u hY; go_simp; try with_reducible rfl
                try simp only [putz]
                refine Goes.take (i := 8) (o := ⟨some 56, _, _, _, _, _⟩) (v := ?_) [] rfl (by as_aux_lemma => kernel_rfl) (by as_aux_lemma => kernel_rfl) (by as_aux_lemma => kernel_rfl) (fun _ _ _ h => h) (by as_aux_lemma => kernel_rfl) (fun L u h => SBx.quiet (by decide) h) (Or.inl ⟨by rfl, ?_⟩) (SBx.of BJ.out) ?_
                rotate_left
                · intro u hY; go_simp; try with_reducible rfl
                try simp only [putz]
                refine Goes.take (i := 9) (o := ⟨some 57, _, _, _, _, _⟩) (v := ?_) [15] rfl (by as_aux_lemma => kernel_rfl) (by as_aux_lemma => kernel_rfl) (by as_aux_lemma => kernel_rfl) (fun _ _ _ h => h) (by as_aux_lemma => kernel_rfl) (fun L u h => SBx.quiet (by decide) h) (Or.inl ⟨by rfl, ?_⟩) (SBx.of BJ.out) ?_
                rotate_left
                · intro u hY; have hX := SBx.yet hY (by decide); have hc := hX.cell 3 rfl s (by rw [rst_length]; exact HS.out); rw [XS.out] at hc; clear hY hX; go_simp; try with_reducible rfl
                try simp only [putz]
                refine Goes.take (i := 10) (o := ⟨some 58, _, _, _, _, _⟩) (v := ?_) [] rfl (by as_aux_lemma => kernel_rfl) (by as_aux_lemma => kernel_rfl) (by as_aux_lemma => kernel_rfl) (fun _ _ _ h => h) (by as_aux_lemma => kernel_rfl) (fun L u h => SBx.quiet (by decide) h) (Or.inl ⟨by rfl, ?_⟩) (SBx.of BJ.out) ?_
                rotate_left
                · intro u hY; go_simp; try with_reducible rfl
                try simp only [putz]
                refine Goes.take (i := 11) (o := ⟨some 59, _, _, _, _, _⟩) (v := ?_) [] rfl (by as_aux_lemma => kernel_rfl) (by as_aux_lemma => kernel_rfl) (by as_aux_lemma => kernel_rfl) (fun _ _ _ h => h) (by as_aux_lemma => kernel_rfl) (fun L u h => SBx.quiet (by decide) h) (Or.inl ⟨by rfl, ?_⟩) (SBx.of BJ.out) ?_
                rotate_left
                · intro u hY; go_simp; try with_reducible rfl
                try simp only [putz]
                refine Goes.take (i := 12) (o := ⟨some 60, _, _, _, _, _⟩) (v := ?_) [] rfl (by as_aux_lemma => kernel_rfl) (by as_aux_lemma => kernel_rfl) (by as_aux_lemma => kernel_rfl) (fun _ _ _ h => h) (by as_aux_lemma => kernel_rfl) (fun L u h => SBx.quiet (by decide) h) (Or.inl ⟨by rfl, ?_⟩) (SBx.of BJ.out) ?_
                rotate_left
                · intro u hY; go_simp; try with_reducible rfl
                try simp only [putz]
                refine Goes.take (i := 13) (o := ⟨some 61, _, _, _, _, _⟩) (v := ?_) [15] rfl (by as_aux_lemma => kernel_rfl) (by as_aux_lemma => kernel_rfl) (by as_aux_lemma => kernel_rfl) (fun _ _ _ h => h) (by as_aux_lemma => kernel_rfl) (fun L u h => SBx.quiet (by decide) h) (Or.inl ⟨by rfl, ?_⟩) (SBx.of BJ.out) ?_
                rotate_left
                · intro u hY; have hX := SBx.yet hY (by decide); have hc : u.cell? ⟨gx, (iv x).toNat, none⟩ = some (bv (gb SI x.toNat)) := (HX.out.on hX.below).at_ x.toNat (by rw [SI_length]; have := x.toNat_lt; omega); rw [SI_at] at hc; clear hY hX; go_simp; try with_reducible rfl
                try simp only [putz]
                refine Goes.take (i := 14) (o := ⟨some 62, _, _, _, _, _⟩) (v := ?_) [] rfl (by as_aux_lemma => kernel_rfl) (by as_aux_lemma => kernel_rfl) (by as_aux_lemma => kernel_rfl) (fun _ _ _ h => h) (by as_aux_lemma => kernel_rfl) (fun L u h => SBx.quiet (by decide) h) (Or.inl ⟨by rfl, ?_⟩) (SBx.of BJ.out) ?_
                rotate_left
                · intro u hY; go_simp; try with_reducible rfl
                try simp only [putz]
                refine Goes.one (i := 15) (o := ⟨none, _, _, _, _, _⟩) (by as_aux_lemma => kernel_rfl) rfl (fun K hK => ?_)
                have hc0 := BJ.out.cell 0 rfl i (by rw [upto_length]; exact HI.out)
                have hf := BJ.out.frozen 0 rfl i
                go_simp
                go_wp2_with fail
                refine hK.out _ _ (SBx.off (by decide)) ?_
                clear hK K
                try simp only [putz]
                refine Goes.done (by as_aux_lemma => kernel_rfl) ?_ _
                refine NoPanic.normal ?_
                clear re rt gw vw se st si sz ii iz xg xl
                go_wp2
                go_roundw
                case rel => exact ⟨i + 1, HI.out, by go_num, BN2⟩
                case measure => have := HI.out; simp [intOf]; omega
              · have h16 : i = 16 := by omega
                have hge : ¬ (i : Int) < 16 := by omega
                rw [h16] at BJ
                clear h16 hlt hi
                have HE := hid (p := upto 16 (fun i => sbb (gb (rst kw b m) ((i + 4 * (i % 4)) % 16))) (List.replicate 16 0) 16 = ssh (rst kw b m)) (by rw [upto_all]; rfl)
                rw [HE.out] at BJ
                clear HE
                by_cases hl : m = 9
                · have hnn : ¬ (n : Int) < 10 := by have := HNM.out; omega
                  have HRN := hid (p := ark kw n (ssh (rst kw b m)) = rst kw b (m + 1)) (by rw [HNM.out, hl]; exact rst_last kw b)
                  have HCL := hid (p := (ssh (rst kw b m)).length = 16) (ssh_length _)
                  generalize ssh (rst kw b m) = cc at *
                  clear hl
                  go_upto_region 14 with fail
                  go_wp2_with fail
                  go_loopw [12] (fun kk wr => kk = .int .i64 0 ∧ Hid (Bx w [(gc, 22, cc), (g7, 72, kw), (w.heap.size + 1 + 1, 22, List.replicate 16 0), (w.heap.size + 1, 22, rst kw b m), (w.heap.size, 22, key)] wr)) (fun kk _ => 0)
                  case atStart => exact ⟨rfl, BJ⟩
                  case round =>
                    clear BJ
                    obtain ⟨rfl, BK⟩ := hrel
                    go_upto_region 22 with fail
                    have BT := hid (p := Bx w [(gc, 22, cc), (g7, 72, kw), (w.heap.size + 1 + 1, 22, List.replicate 16 0), (w.heap.size + 1, 22, upto 16 (fun i => gb cc i ^^^ gb kw (16 * n + i)) (rst kw b m) 0), (w.heap.size, 22, key)] _) (by rw [upto_none _ _ _ (rst_length _ _ _)]; exact BK.out)
                    clear BK
                    go_wp2_with fail
                    go_loopw [17] (fun ii wr => ∃ i : Nat, i ≤ 16 ∧ ii = .int .i64 i ∧ Hid (Bx w [(gc, 22, cc), (g7, 72, kw), (w.heap.size + 1 + 1, 22, List.replicate 16 0), (w.heap.size + 1, 22, upto 16 (fun i => gb cc i ^^^ gb kw (16 * n + i)) (rst kw b m) i), (w.heap.size, 22, key)] wr)) (fun ii _ => 16 - (intOf ii).toNat)
                    case atStart => exact ⟨0, Nat.zero_le _, rfl, BT⟩
                    case round =>
                      clear BT
                      obtain ⟨i, hi, rfl, BJ⟩ := hrel
                      by_cases hlt : i < 16
                      · have HI := hid hlt
                        obtain ⟨q, hq⟩ : ∃ q, q = i / 4 := ⟨_, rfl⟩
                        obtain ⟨r, hr⟩ : ∃ r, r = i % 4 := ⟨_, rfl⟩
                        have qd : (i : Int) / 4 = (q : Int) := by omega
                        have qt : Int.tdiv (i : Int) 4 = (q : Int) := by rw [Int.tdiv_eq_ediv_of_nonneg (by omega)]; exact qd
                        have re : (i : Int) % 4 = (r : Int) := by omega
                        have rt : Int.tmod (i : Int) 4 = (r : Int) := by rw [Int.tmod_eq_emod_of_nonneg (by omega)]; exact re
                        have qw : IntKind.i64.wrap (q : Int) = (q : Int) := by rw [IntKind.wrap_i64]; omega
                        have qi : (q : Int) < 44 := by omega
                        have qz : (0 : Int) ≤ (q : Int) := by omega
                        have ri : (r : Int) < 4 := by omega
                        have rz : (0 : Int) ≤ (r : Int) := by omega
                        have ii : (i : Int) < 16 := by omega
                        have iz : (0 : Int) ≤ (i : Int) := by omega

                        obtain ⟨g, hg⟩ : ∃ g, g = 4 * n := ⟨_, rfl⟩
                        obtain ⟨v, hv⟩ : ∃ v, v = g + q := ⟨_, rfl⟩
                        have hn11 : n < 11 := by have := HNM.out; have := HM.out; omega
                        have gw : IntKind.i64.wrap (4 * (n : Int)) = (g : Int) := by rw [IntKind.wrap_i64]; omega
                        have vw : IntKind.i64.wrap ((g : Int) + (q : Int)) = (v : Int) := by rw [IntKind.wrap_i64]; omega
                        have vi : (v : Int) < 44 := by omega
                        have vz : (0 : Int) ≤ (v : Int) := by omega
                        have HWB := hid (show v * 4 + r < 4 * 44 by omega)
                        have HWE := hid (p := gb kw (v * 4 + r) = gb kw (16 * n + i)) (by rw [show v * 4 + r = 16 * n + i by omega])
                        have BN := hid (BJ.out.drew.set 3 rfl i (gb cc i ^^^ gb kw (16 * n + i)))
                        rw [upto_set 16 (fun i => gb cc i ^^^ gb kw (16 * n + i))] at BN
                        have BN2 := hid (p := Bx w [(gc, 22, cc), (g7, 72, kw), (w.heap.size + 1 + 1, 22, List.replicate 16 0), (w.heap.size + 1, 22, upto 16 (fun i => gb cc i ^^^ gb kw (16 * n + i)) (rst kw b m) (i + 1)), (w.heap.size, 22, key)] _) BN.out
                        clear BN hq hr hg hv hn11
                        have hx := xor_u8 (gb cc i) (gb kw (16 * n + i))
                        generalize gb cc i ^^^ gb kw (16 * n + i) = z at *
                        go_upto_region 25 with fail
                        refine wp_region_noPanic ?_
                        refine Goes.region (SBx w [(gc, 22, cc), (g7, 72, kw), (w.heap.size + 1 + 1, 22, List.replicate 16 0), (w.heap.size + 1, 22, upto 16 (fun i => gb cc i ^^^ gb kw (16 * n + i)) (rst kw b m) i), (w.heap.size, 22, key)] [16]) (by as_aux_lemma => kernel_rfl) ?_
                        have BJ := hid (BJ.out.drew)
                        refine Goes.take (i := 0) (o := ⟨some 145, _, _, _, _, _⟩) (v := ?_) [] rfl (by as_aux_lemma => kernel_rfl) (by as_aux_lemma => kernel_rfl) (by as_aux_lemma => kernel_rfl) (fun _ _ _ h => h) (by as_aux_lemma => kernel_rfl) (fun L u h => SBx.quiet (by decide) h) (Or.inl ⟨by rfl, ?_⟩) (SBx.of BJ.out) ?_
                        rotate_left
                        · intro u hY; go_simp; try with_reducible rfl
                        try simp only [putz]
                        refine Goes.take (i := 1) (o := ⟨some 146, _, _, _, _, _⟩) (v := ?_) [] rfl (by as_aux_lemma => kernel_rfl) (by as_aux_lemma => kernel_rfl) (by as_aux_lemma => kernel_rfl) (fun _ _ _ h => h) (by as_aux_lemma => kernel_rfl) (fun L u h => SBx.quiet (by decide) h) (Or.inl ⟨by rfl, ?_⟩) (SBx.of BJ.out) ?_
                        rotate_left
                        · intro u hY; go_simp; try with_reducible rfl
                        try simp only [putz]
                        refine Goes.take (i := 2) (o := ⟨some 147, _, _, _, _, _⟩) (v := ?_) [] rfl (by as_aux_lemma => kernel_rfl) (by as_aux_lemma => kernel_rfl) (by as_aux_lemma => kernel_rfl) (fun _ _ _ h => h) (by as_aux_lemma => kernel_rfl) (fun L u h => SBx.quiet (by decide) h) (Or.inl ⟨by rfl, ?_⟩) (SBx.of BJ.out) ?_
                        rotate_left
                        · intro u hY; go_simp; try with_reducible rfl
                        try simp only [putz]
                        refine Goes.take (i := 3) (o := ⟨some 148, _, _, _, _, _⟩) (v := ?_) [16] rfl (by as_aux_lemma => kernel_rfl) (by as_aux_lemma => kernel_rfl) (by as_aux_lemma => kernel_rfl) (fun _ _ _ h => h) (by as_aux_lemma => kernel_rfl) (fun L u h => SBx.quiet (by decide) h) (Or.inl ⟨by rfl, ?_⟩) (SBx.of BJ.out) ?_
                        rotate_left
                        · intro u hY; have hX := SBx.yet hY (by decide); have hc := hX.cell 0 rfl i (by rw [HCL.out]; exact HI.out); clear hY hX; go_simp; try with_reducible rfl
                        try simp only [putz]
                        refine Goes.take (i := 4) (o := ⟨some 149, _, _, _, _, _⟩) (v := ?_) [] rfl (by as_aux_lemma => kernel_rfl) (by as_aux_lemma => kernel_rfl) (by as_aux_lemma => kernel_rfl) (fun _ _ _ h => h) (by as_aux_lemma => kernel_rfl) (fun L u h => SBx.quiet (by decide) h) (Or.inl ⟨by rfl, ?_⟩) (SBx.of BJ.out) ?_
                        rotate_left
                        · intro u hY; go_simp; try with_reducible rfl
                        try simp only [putz]
                        refine Goes.take (i := 5) (o := ⟨some 150, _, _, _, _, _⟩) (v := ?_) [] rfl (by as_aux_lemma => kernel_rfl) (by as_aux_lemma => kernel_rfl) (by as_aux_lemma => kernel_rfl) (fun _ _ _ h => h) (by as_aux_lemma => kernel_rfl) (fun L u h => SBx.quiet (by decide) h) (Or.inl ⟨by rfl, ?_⟩) (SBx.of BJ.out) ?_
                        rotate_left
                        · intro u hY; go_simp; try with_reducible rfl
                        try simp only [putz]
                        refine Goes.take (i := 6) (o := ⟨some 151, _, _, _, _, _⟩) (v := ?_) [] rfl (by as_aux_lemma => kernel_rfl) (by as_aux_lemma => kernel_rfl) (by as_aux_lemma => kernel_rfl) (fun _ _ _ h => h) (by as_aux_lemma => kernel_rfl) (fun L u h => SBx.quiet (by decide) h) (Or.inl ⟨by rfl, ?_⟩) (SBx.of BJ.out) ?_
                        rotate_left
                        · intro u hY; go_simp; try with_reducible rfl
                        try simp only [putz]
                        refine Goes.take (i := 7) (o := ⟨some 152, _, _, _, _, _⟩) (v := ?_) [] rfl (by as_aux_lemma => kernel_rfl) (by as_aux_lemma => kernel_rfl) (by as_aux_lemma => kernel_rfl) (fun _ _ _ h => h) (by as_aux_lemma => kernel_rfl) (fun L u h => SBx.quiet (by decide) h) (Or.inl ⟨by rfl, ?_⟩) (SBx.of BJ.out) ?_
                        rotate_left
                        · intro u hY; go_simp; try with_reducible rfl
                        try simp only [putz]
                        refine Goes.take (i := 8) (o := ⟨some 153, _, _, _, _, _⟩) (v := ?_) [] rfl (by as_aux_lemma => kernel_rfl) (by as_aux_lemma => kernel_rfl) (by as_aux_lemma => kernel_rfl) (fun _ _ _ h => h) (by as_aux_lemma => kernel_rfl) (fun L u h => SBx.quiet (by decide) h) (Or.inl ⟨by rfl, ?_⟩) (SBx.of BJ.out) ?_
                        rotate_left
                        · intro u hY; go_simp; try with_reducible rfl
                        try simp only [putz]
                        refine Goes.take (i := 9) (o := ⟨some 154, _, _, _, _, _⟩) (v := ?_) [] rfl (by as_aux_lemma => kernel_rfl) (by as_aux_lemma => kernel_rfl) (by as_aux_lemma => kernel_rfl) (fun _ _ _ h => h) (by as_aux_lemma => kernel_rfl) (fun L u h => SBx.quiet (by decide) h) (Or.inl ⟨by rfl, ?_⟩) (SBx.of BJ.out) ?_
                        rotate_left
                        · intro u hY; go_simp; try with_reducible rfl
                        try simp only [putz]
                        refine Goes.take (i := 10) (o := ⟨some 155, _, _, _, _, _⟩) (v := ?_) [] rfl (by as_aux_lemma => kernel_rfl) (by as_aux_lemma => kernel_rfl) (by as_aux_lemma => kernel_rfl) (fun _ _ _ h => h) (by as_aux_lemma => kernel_rfl) (fun L u h => SBx.quiet (by decide) h) (Or.inl ⟨by rfl, ?_⟩) (SBx.of BJ.out) ?_
                        rotate_left
                        · intro u hY; go_simp; try with_reducible rfl
                        try simp only [putz]
                        refine Goes.take (i := 11) (o := ⟨some 156, _, _, _, _, _⟩) (v := ?_) [] rfl (by as_aux_lemma => kernel_rfl) (by as_aux_lemma => kernel_rfl) (by as_aux_lemma => kernel_rfl) (fun _ _ _ h => h) (by as_aux_lemma => kernel_rfl) (fun L u h => SBx.quiet (by decide) h) (Or.inl ⟨by rfl, ?_⟩) (SBx.of BJ.out) ?_
                        rotate_left
                        · intro u hY; go_simp; try with_reducible rfl
                        try simp only [putz]
                        refine Goes.take (i := 12) (o := ⟨some 157, _, _, _, _, _⟩) (v := ?_) [] rfl (by as_aux_lemma => kernel_rfl) (by as_aux_lemma => kernel_rfl) (by as_aux_lemma => kernel_rfl) (fun _ _ _ h => h) (by as_aux_lemma => kernel_rfl) (fun L u h => SBx.quiet (by decide) h) (Or.inl ⟨by rfl, ?_⟩) (SBx.of BJ.out) ?_
                        rotate_left
                        · intro u hY; go_simp; try with_reducible rfl
                        try simp only [putz]
                        refine Goes.take (i := 13) (o := ⟨some 158, _, _, _, _, _⟩) (v := ?_) [16] rfl (by as_aux_lemma => kernel_rfl) (by as_aux_lemma => kernel_rfl) (by as_aux_lemma => kernel_rfl) (fun _ _ _ h => h) (by as_aux_lemma => kernel_rfl) (fun L u h => SBx.quiet (by decide) h) (Or.inl ⟨by rfl, ?_⟩) (SBx.of BJ.out) ?_
                        rotate_left
                        · intro u hY; have hX := SBx.yet hY (by decide); have hc := hX.cell 1 rfl (v * 4 + r) (by rw [HKL.out]; exact HWB.out); rw [HWE.out] at hc; clear hY hX; go_simp; try with_reducible rfl
                        try simp only [putz]
                        refine Goes.take (i := 14) (o := ⟨some 159, _, _, _, _, _⟩) (v := ?_) [] rfl (by as_aux_lemma => kernel_rfl) (by as_aux_lemma => kernel_rfl) (by as_aux_lemma => kernel_rfl) (fun _ _ _ h => h) (by as_aux_lemma => kernel_rfl) (fun L u h => SBx.quiet (by decide) h) (Or.inl ⟨by rfl, ?_⟩) (SBx.of BJ.out) ?_
                        rotate_left
                        · intro u hY; go_simp; try with_reducible rfl
                        try simp only [putz]
                        refine Goes.take (i := 15) (o := ⟨some 160, _, _, _, _, _⟩) (v := ?_) [] rfl (by as_aux_lemma => kernel_rfl) (by as_aux_lemma => kernel_rfl) (by as_aux_lemma => kernel_rfl) (fun _ _ _ h => h) (by as_aux_lemma => kernel_rfl) (fun L u h => SBx.quiet (by decide) h) (Or.inl ⟨by rfl, ?_⟩) (SBx.of BJ.out) ?_
                        rotate_left
                        · intro u hY; go_simp; try with_reducible rfl
                        try simp only [putz]
                        refine Goes.one (i := 16) (o := ⟨none, _, _, _, _, _⟩) (by as_aux_lemma => kernel_rfl) rfl (fun K hK => ?_)
                        have hc0 := BJ.out.cell 3 rfl i (by rw [upto_length]; exact HI.out)
                        have hf := BJ.out.frozen 3 rfl i
                        go_simp
                        go_wp2_with fail
                        refine hK.out _ _ (SBx.off (by decide)) ?_
                        clear hK K
                        try simp only [putz]
                        refine Goes.done (by as_aux_lemma => kernel_rfl) ?_ _
                        refine NoPanic.normal ?_
                        clear hx qd qt qw re rt qi qz ri rz ii iz gw vw vi vz
                        go_wp2
                        go_roundw
                        case rel => exact ⟨i + 1, HI.out, by go_num, BN2⟩
                        case measure => have := HI.out; simp [intOf]; omega
                      · have h16 : i = 16 := by omega
                        have hge : ¬ (i : Int) < 16 := by omega
                        rw [h16] at BJ
                        clear h16 hlt hi
                        have HE := hid (p := upto 16 (fun i => gb cc i ^^^ gb kw (16 * n + i)) (rst kw b m) 16 = rst kw b (m + 1)) (by rw [upto_all, ← HRN.out]; rfl)
                        rw [HE.out] at BJ
                        have BT := hid (p := Bx w [(g7, 72, kw), (w.heap.size + 1 + 1, 22, List.replicate 16 0), (w.heap.size + 1, 22, rst kw b (m + 1)), (w.heap.size, 22, key)] wr) BJ.out.tail
                        clear BJ HE
                        have HM1 := hid (show m + 1 ≤ 10 by have := HM.out; omega)
                        have nw : IntKind.i64.wrap ((n : Int) + 1) = ((m + 1 + 1 : Nat) : Int) := by have := HNM.out; have := HM.out; rw [IntKind.wrap_i64]; omega
                        go_wp2
                        go_roundw
                        case rel => exact ⟨m + 1, HM1.out, rfl, BT⟩
                        case measure => have := HM.out; have := HNM.out; simp [intOf]; omega
                · have hnn : (n : Int) < 10 := by have := HNM.out; have := HM.out; omega
                  have BD := hid (p := Bx w [(gc, 22, mxc (ssh (rst kw b m)) 0), (g7, 72, kw), (w.heap.size + 1 + 1, 22, List.replicate 16 0), (w.heap.size + 1, 22, rst kw b m), (w.heap.size, 22, key)] wr) (by rw [mxc_none _ (ssh_length _)]; exact BJ.out)
                  clear BJ
                  have HRN := hid (p := ark kw n (mixc (ssh (rst kw b m))) = rst kw b (m + 1)) (by rw [HNM.out]; exact rst_mix kw b m (by have := HM.out; omega))
                  have HSL := hid (ssh_length (rst kw b m))
                  generalize ssh (rst kw b m) = sh at *
                  clear hl
                  go_upto_region 14 with fail
                  go_wp2_with fail
                  go_loopw [12] (fun kk wr => ∃ k : Nat, k ≤ 4 ∧ kk = .int .i64 k ∧ Hid (Bx w [(gc, 22, mxc sh k), (g7, 72, kw), (w.heap.size + 1 + 1, 22, List.replicate 16 0), (w.heap.size + 1, 22, rst kw b m), (w.heap.size, 22, key)] wr)) (fun kk _ => 4 - (intOf kk).toNat)
                  case atStart => exact ⟨0, Nat.zero_le _, rfl, BD⟩
                  case round =>
                    clear BD
                    obtain ⟨k, hk, rfl, BJ⟩ := hrel
                    by_cases hk4 : k < 4
                    · have HK4 := hid hk4
                      have HSP := hid (mxc_step sh k hk4 _ _ _ _ rfl rfl rfl rfl)
                      have c0 := BJ.out.cell 0 rfl (4 * k) (by rw [mxc_length]; omega)
                      have c1 := BJ.out.cell 0 rfl (4 * k + 1) (by rw [mxc_length]; omega)
                      have c2 := BJ.out.cell 0 rfl (4 * k + 2) (by rw [mxc_length]; omega)
                      have c3 := BJ.out.cell 0 rfl (4 * k + 3) (by rw [mxc_length]; omega)
                      rw [mxc_at sh k _ (by omega) (by omega)] at c0 c1 c2 c3
                      generalize gb sh (4 * k) = p0 at *
                      generalize gb sh (4 * k + 1) = p1 at *
                      generalize gb sh (4 * k + 2) = p2 at *
                      generalize gb sh (4 * k + 3) = p3 at *
                      obtain ⟨mm, hmm⟩ : ∃ mm, mm = 4 * k := ⟨_, rfl⟩
                      rw [← hmm] at HSP c0 c1 c2 c3
                      have MM := hid (show mm + 3 < 16 by omega)
                      have h13 : mm < 13 := by omega
                      have mmw : IntKind.i64.wrap (4 * (k : Int)) = (mm : Int) := by rw [IntKind.wrap_i64]; omega
                      have mmi : (mm : Int) < 16 := by omega
                      have mmz : (0 : Int) ≤ (mm : Int) := by omega
                      have mmw1 : IntKind.i64.wrap ((mm : Int) + 1) = ((mm + 1 : Nat) : Int) := by rw [IntKind.wrap_i64]; omega
                      have mmi1 : (mm : Int) + 1 < 16 := by omega
                      have mmz1 : (0 : Int) ≤ (mm : Int) + 1 := by omega
                      have mmt1 : ((mm : Int) + 1).toNat = mm + 1 := by omega
                      have mmw2 : IntKind.i64.wrap ((mm : Int) + 2) = ((mm + 2 : Nat) : Int) := by rw [IntKind.wrap_i64]; omega
                      have mmi2 : (mm : Int) + 2 < 16 := by omega
                      have mmz2 : (0 : Int) ≤ (mm : Int) + 2 := by omega
                      have mmt2 : ((mm : Int) + 2).toNat = mm + 2 := by omega
                      have mmw3 : IntKind.i64.wrap ((mm : Int) + 3) = ((mm + 3 : Nat) : Int) := by rw [IntKind.wrap_i64]; omega
                      have mmi3 : (mm : Int) + 3 < 16 := by omega
                      have mmz3 : (0 : Int) ≤ (mm : Int) + 3 := by omega
                      have mmt3 : ((mm : Int) + 3).toNat = mm + 3 := by omega
                      have ki : (k : Int) < 4 := by omega
                      clear hmm hk4 hk
                      go_upto_region 17 with fail
                      go_quiet (fail)
                      have BQ := hid (BJ.out.drewN nq)
                      clear BJ c0 c1 c2 c3
                      generalize wr.drewN nq = wq at *
                      have hc := BQ.out.cell 0 rfl mm (by rw [mxc_length]; have := MM.out; omega)
                      have hf := BQ.out.frozen 0 rfl mm
                      have C1 := hid (BQ.out.set 0 rfl mm (mx p0 p1 p2 p3))
                      have y0 := xor_u8 (tm p0 2) (tm p1 3)
                      have y1 := xor_u8 (tm p0 2 ^^^ tm p1 3) (p2)
                      have y2 := xor_u8 (tm p0 2 ^^^ tm p1 3 ^^^ p2) (p3)
                      rw [← mx_eq] at y2
                      go_upto_region 18 with fail
                      go_wp2_with fail
                      refine (times_at p0 2 (iv p0) 2 rfl rfl _).mono ?_
                      rintro e v0 ⟨rfl, rfl⟩
                      go_wp2_with fail
                      refine (times_at p1 3 (iv p1) 3 rfl rfl _).mono ?_
                      rintro e v0 ⟨rfl, rfl⟩
                      go_upto_region 19 with fail
                      clear hc hf y0 y1 y2 BQ
                      generalize World.setCell _ _ _ = c1w at *
                      have hc := C1.out.cell 0 rfl (mm + 1) (by rw [List.length_set, mxc_length]; have := MM.out; omega)
                      have hf := C1.out.frozen 0 rfl (mm + 1)
                      have C2 := hid (C1.out.set 0 rfl (mm + 1) (mx p1 p2 p3 p0))
                      have y0 := xor_u8 (p0) (tm p1 2)
                      have y1 := xor_u8 (p0 ^^^ tm p1 2) (tm p2 3)
                      have y2 := xor_u8 (p0 ^^^ tm p1 2 ^^^ tm p2 3) (p3)
                      rw [mxd1] at y2
                      go_upto_region 19 with fail
                      go_wp2_with fail
                      refine (times_at p1 2 (iv p1) 2 rfl rfl _).mono ?_
                      rintro e v0 ⟨rfl, rfl⟩
                      go_wp2_with fail
                      refine (times_at p2 3 (iv p2) 3 rfl rfl _).mono ?_
                      rintro e v0 ⟨rfl, rfl⟩
                      go_upto_region 20 with fail
                      clear hc hf y0 y1 y2 C1
                      generalize World.setCell _ _ _ = c2w at *
                      have hc := C2.out.cell 0 rfl (mm + 2) (by rw [List.length_set, List.length_set, mxc_length]; have := MM.out; omega)
                      have hf := C2.out.frozen 0 rfl (mm + 2)
                      have C3 := hid (C2.out.set 0 rfl (mm + 2) (mx p2 p3 p0 p1))
                      have y0 := xor_u8 (p0) (p1)
                      have y1 := xor_u8 (p0 ^^^ p1) (tm p2 2)
                      have y2 := xor_u8 (p0 ^^^ p1 ^^^ tm p2 2) (tm p3 3)
                      rw [mxd2] at y2
                      go_upto_region 20 with fail
                      go_wp2_with fail
                      refine (times_at p2 2 (iv p2) 2 rfl rfl _).mono ?_
                      rintro e v0 ⟨rfl, rfl⟩
                      go_wp2_with fail
                      refine (times_at p3 3 (iv p3) 3 rfl rfl _).mono ?_
                      rintro e v0 ⟨rfl, rfl⟩
                      go_upto_region 21 with fail
                      clear hc hf y0 y1 y2 C2
                      generalize World.setCell _ _ _ = c3w at *
                      have hc := C3.out.cell 0 rfl (mm + 3) (by rw [List.length_set, List.length_set, List.length_set, mxc_length]; have := MM.out; omega)
                      have hf := C3.out.frozen 0 rfl (mm + 3)
                      have C4 := hid (C3.out.set 0 rfl (mm + 3) (mx p3 p0 p1 p2))
                      have y0 := xor_u8 (tm p0 3) (p1)
                      have y1 := xor_u8 (tm p0 3 ^^^ p1) (p2)
                      have y2 := xor_u8 (tm p0 3 ^^^ p1 ^^^ p2) (tm p3 2)
                      rw [mxd3] at y2
                      go_upto_region 21 with fail
                      go_wp2_with fail
                      refine (times_at p0 3 (iv p0) 3 rfl rfl _).mono ?_
                      rintro e v0 ⟨rfl, rfl⟩
                      go_wp2_with fail
                      refine (times_at p3 2 (iv p3) 2 rfl rfl _).mono ?_
                      rintro e v0 ⟨rfl, rfl⟩
                      go_upto_region 16 with fail
                      clear hc hf y0 y1 y2 C3
                      generalize World.setCell _ _ _ = c4w at *

                      have BN := hid (p := Bx w [(gc, 22, mxc sh (k + 1)), (g7, 72, kw), (w.heap.size + 1 + 1, 22, List.replicate 16 0), (w.heap.size + 1, 22, rst kw b m), (w.heap.size, 22, key)] _) (by rw [← HSP.out]; exact C4.out)
                      clear HSP C4
                      go_wp2
                      go_roundw
                      case rel => exact ⟨k + 1, HK4.out, by go_num, BN⟩
                      case measure => have := HK4.out; simp [intOf]; omega
                    · have h4 : k = 4 := by omega
                      have hgk : ¬ (k : Int) < 4 := by omega
                      rw [h4, mxc_all] at BJ
                      clear h4 hk4 hk
                      have HCL := hid (p := (mixc sh).length = 16) (mixc_length _)
                      generalize mixc sh = cc at *
                      have BK := hid BJ.out
                      clear BJ
                      go_upto_region 22 with fail
                      have BT := hid (p := Bx w [(gc, 22, cc), (g7, 72, kw), (w.heap.size + 1 + 1, 22, List.replicate 16 0), (w.heap.size + 1, 22, upto 16 (fun i => gb cc i ^^^ gb kw (16 * n + i)) (rst kw b m) 0), (w.heap.size, 22, key)] _) (by rw [upto_none _ _ _ (rst_length _ _ _)]; exact BK.out)
                      clear BK
                      go_wp2_with fail
                      go_loopw [17] (fun ii wr => ∃ i : Nat, i ≤ 16 ∧ ii = .int .i64 i ∧ Hid (Bx w [(gc, 22, cc), (g7, 72, kw), (w.heap.size + 1 + 1, 22, List.replicate 16 0), (w.heap.size + 1, 22, upto 16 (fun i => gb cc i ^^^ gb kw (16 * n + i)) (rst kw b m) i), (w.heap.size, 22, key)] wr)) (fun ii _ => 16 - (intOf ii).toNat)
                      case atStart => exact ⟨0, Nat.zero_le _, rfl, BT⟩
                      case round =>
                        clear BT
                        obtain ⟨i, hi, rfl, BJ⟩ := hrel
                        by_cases hlt : i < 16
                        · have HI := hid hlt
                          obtain ⟨q, hq⟩ : ∃ q, q = i / 4 := ⟨_, rfl⟩
                          obtain ⟨r, hr⟩ : ∃ r, r = i % 4 := ⟨_, rfl⟩
                          have qd : (i : Int) / 4 = (q : Int) := by omega
                          have qt : Int.tdiv (i : Int) 4 = (q : Int) := by rw [Int.tdiv_eq_ediv_of_nonneg (by omega)]; exact qd
                          have re : (i : Int) % 4 = (r : Int) := by omega
                          have rt : Int.tmod (i : Int) 4 = (r : Int) := by rw [Int.tmod_eq_emod_of_nonneg (by omega)]; exact re
                          have qw : IntKind.i64.wrap (q : Int) = (q : Int) := by rw [IntKind.wrap_i64]; omega
                          have qi : (q : Int) < 44 := by omega
                          have qz : (0 : Int) ≤ (q : Int) := by omega
                          have ri : (r : Int) < 4 := by omega
                          have rz : (0 : Int) ≤ (r : Int) := by omega
                          have ii : (i : Int) < 16 := by omega
                          have iz : (0 : Int) ≤ (i : Int) := by omega

                          obtain ⟨g, hg⟩ : ∃ g, g = 4 * n := ⟨_, rfl⟩
                          obtain ⟨v, hv⟩ : ∃ v, v = g + q := ⟨_, rfl⟩
                          have hn11 : n < 11 := by have := HNM.out; have := HM.out; omega
                          have gw : IntKind.i64.wrap (4 * (n : Int)) = (g : Int) := by rw [IntKind.wrap_i64]; omega
                          have vw : IntKind.i64.wrap ((g : Int) + (q : Int)) = (v : Int) := by rw [IntKind.wrap_i64]; omega
                          have vi : (v : Int) < 44 := by omega
                          have vz : (0 : Int) ≤ (v : Int) := by omega
                          have HWB := hid (show v * 4 + r < 4 * 44 by omega)
                          have HWE := hid (p := gb kw (v * 4 + r) = gb kw (16 * n + i)) (by rw [show v * 4 + r = 16 * n + i by omega])
                          have BN := hid (BJ.out.drew.set 3 rfl i (gb cc i ^^^ gb kw (16 * n + i)))
                          rw [upto_set 16 (fun i => gb cc i ^^^ gb kw (16 * n + i))] at BN
                          have BN2 := hid (p := Bx w [(gc, 22, cc), (g7, 72, kw), (w.heap.size + 1 + 1, 22, List.replicate 16 0), (w.heap.size + 1, 22, upto 16 (fun i => gb cc i ^^^ gb kw (16 * n + i)) (rst kw b m) (i + 1)), (w.heap.size, 22, key)] _) BN.out
                          clear BN hq hr hg hv hn11
                          have hx := xor_u8 (gb cc i) (gb kw (16 * n + i))
                          generalize gb cc i ^^^ gb kw (16 * n + i) = z at *
                          go_upto_region 25 with fail
                          refine wp_region_noPanic ?_
                          refine Goes.region (SBx w [(gc, 22, cc), (g7, 72, kw), (w.heap.size + 1 + 1, 22, List.replicate 16 0), (w.heap.size + 1, 22, upto 16 (fun i => gb cc i ^^^ gb kw (16 * n + i)) (rst kw b m) i), (w.heap.size, 22, key)] [16]) (by as_aux_lemma => kernel_rfl) ?_
                          have BJ := hid (BJ.out.drew)
                          refine Goes.take (i := 0) (o := ⟨some 145, _, _, _, _, _⟩) (v := ?_) [] rfl (by as_aux_lemma => kernel_rfl) (by as_aux_lemma => kernel_rfl) (by as_aux_lemma => kernel_rfl) (fun _ _ _ h => h) (by as_aux_lemma => kernel_rfl) (fun L u h => SBx.quiet (by decide) h) (Or.inl ⟨by rfl, ?_⟩) (SBx.of BJ.out) ?_
                          rotate_left
                          · intro u hY; go_simp; try with_reducible rfl
                          try simp only [putz]
                          refine Goes.take (i := 1) (o := ⟨some 146, _, _, _, _, _⟩) (v := ?_) [] rfl (by as_aux_lemma => kernel_rfl) (by as_aux_lemma => kernel_rfl) (by as_aux_lemma => kernel_rfl) (fun _ _ _ h => h) (by as_aux_lemma => kernel_rfl) (fun L u h => SBx.quiet (by decide) h) (Or.inl ⟨by rfl, ?_⟩) (SBx.of BJ.out) ?_
                          rotate_left
                          · intro u hY; go_simp; try with_reducible rfl
                          try simp only [putz]
                          refine Goes.take (i := 2) (o := ⟨some 147, _, _, _, _, _⟩) (v := ?_) [] rfl (by as_aux_lemma => kernel_rfl) (by as_aux_lemma => kernel_rfl) (by as_aux_lemma => kernel_rfl) (fun _ _ _ h => h) (by as_aux_lemma => kernel_rfl) (fun L u h => SBx.quiet (by decide) h) (Or.inl ⟨by rfl, ?_⟩) (SBx.of BJ.out) ?_
                          rotate_left
                          · intro u hY; go_simp; try with_reducible rfl
                          try simp only [putz]
                          refine Goes.take (i := 3) (o := ⟨some 148, _, _, _, _, _⟩) (v := ?_) [16] rfl (by as_aux_lemma => kernel_rfl) (by as_aux_lemma => kernel_rfl) (by as_aux_lemma => kernel_rfl) (fun _ _ _ h => h) (by as_aux_lemma => kernel_rfl) (fun L u h => SBx.quiet (by decide) h) (Or.inl ⟨by rfl, ?_⟩) (SBx.of BJ.out) ?_
                          rotate_left
                          · intro u hY; have hX := SBx.yet hY (by decide); have hc := hX.cell 0 rfl i (by rw [HCL.out]; exact HI.out); clear hY hX; go_simp; try with_reducible rfl
                          try simp only [putz]
                          refine Goes.take (i := 4) (o := ⟨some 149, _, _, _, _, _⟩) (v := ?_) [] rfl (by as_aux_lemma => kernel_rfl) (by as_aux_lemma => kernel_rfl) (by as_aux_lemma => kernel_rfl) (fun _ _ _ h => h) (by as_aux_lemma => kernel_rfl) (fun L u h => SBx.quiet (by decide) h) (Or.inl ⟨by rfl, ?_⟩) (SBx.of BJ.out) ?_
                          rotate_left
                          · intro u hY; go_simp; try with_reducible rfl
                          try simp only [putz]
                          refine Goes.take (i := 5) (o := ⟨some 150, _, _, _, _, _⟩) (v := ?_) [] rfl (by as_aux_lemma => kernel_rfl) (by as_aux_lemma => kernel_rfl) (by as_aux_lemma => kernel_rfl) (fun _ _ _ h => h) (by as_aux_lemma => kernel_rfl) (fun L u h => SBx.quiet (by decide) h) (Or.inl ⟨by rfl, ?_⟩) (SBx.of BJ.out) ?_
                          rotate_left
                          · intro u hY; go_simp; try with_reducible rfl
                          try simp only [putz]
                          refine Goes.take (i := 6) (o := ⟨some 151, _, _, _, _, _⟩) (v := ?_) [] rfl (by as_aux_lemma => kernel_rfl) (by as_aux_lemma => kernel_rfl) (by as_aux_lemma => kernel_rfl) (fun _ _ _ h => h) (by as_aux_lemma => kernel_rfl) (fun L u h => SBx.quiet (by decide) h) (Or.inl ⟨by rfl, ?_⟩) (SBx.of BJ.out) ?_
                          rotate_left
                          · intro u hY; go_simp; try with_reducible rfl
                          try simp only [putz]
                          refine Goes.take (i := 7) (o := ⟨some 152, _, _, _, _, _⟩) (v := ?_) [] rfl (by as_aux_lemma => kernel_rfl) (by as_aux_lemma => kernel_rfl) (by as_aux_lemma => kernel_rfl) (fun _ _ _ h => h) (by as_aux_lemma => kernel_rfl) (fun L u h => SBx.quiet (by decide) h) (Or.inl ⟨by rfl, ?_⟩) (SBx.of BJ.out) ?_
                          rotate_left
                          · intro u hY; go_simp; try with_reducible rfl
                          try simp only [putz]
                          refine Goes.take (i := 8) (o := ⟨some 153, _, _, _, _, _⟩) (v := ?_) [] rfl (by as_aux_lemma => kernel_rfl) (by as_aux_lemma => kernel_rfl) (by as_aux_lemma => kernel_rfl) (fun _ _ _ h => h) (by as_aux_lemma => kernel_rfl) (fun L u h => SBx.quiet (by decide) h) (Or.inl ⟨by rfl, ?_⟩) (SBx.of BJ.out) ?_
                          rotate_left
                          · intro u hY; go_simp; try with_reducible rfl
                          try simp only [putz]
                          refine Goes.take (i := 9) (o := ⟨some 154, _, _, _, _, _⟩) (v := ?_) [] rfl (by as_aux_lemma => kernel_rfl) (by as_aux_lemma => kernel_rfl) (by as_aux_lemma => kernel_rfl) (fun _ _ _ h => h) (by as_aux_lemma => kernel_rfl) (fun L u h => SBx.quiet (by decide) h) (Or.inl ⟨by rfl, ?_⟩) (SBx.of BJ.out) ?_
                          rotate_left
                          · intro u hY; go_simp; try with_reducible rfl
                          try simp only [putz]
                          refine Goes.take (i := 10) (o := ⟨some 155, _, _, _, _, _⟩) (v := ?_) [] rfl (by as_aux_lemma => kernel_rfl) (by as_aux_lemma => kernel_rfl) (by as_aux_lemma => kernel_rfl) (fun _ _ _ h => h) (by as_aux_lemma => kernel_rfl) (fun L u h => SBx.quiet (by decide) h) (Or.inl ⟨by rfl, ?_⟩) (SBx.of BJ.out) ?_
                          rotate_left
                          · intro u hY; go_simp; try with_reducible rfl
                          try simp only [putz]
                          refine Goes.take (i := 11) (o := ⟨some 156, _, _, _, _, _⟩) (v := ?_) [] rfl (by as_aux_lemma => kernel_rfl) (by as_aux_lemma => kernel_rfl) (by as_aux_lemma => kernel_rfl) (fun _ _ _ h => h) (by as_aux_lemma => kernel_rfl) (fun L u h => SBx.quiet (by decide) h) (Or.inl ⟨by rfl, ?_⟩) (SBx.of BJ.out) ?_
                          rotate_left
                          · intro u hY; go_simp; try with_reducible rfl
                          try simp only [putz]
                          refine Goes.take (i := 12) (o := ⟨some 157, _, _, _, _, _⟩) (v := ?_) [] rfl (by as_aux_lemma => kernel_rfl) (by as_aux_lemma => kernel_rfl) (by as_aux_lemma => kernel_rfl) (fun _ _ _ h => h) (by as_aux_lemma => kernel_rfl) (fun L u h => SBx.quiet (by decide) h) (Or.inl ⟨by rfl, ?_⟩) (SBx.of BJ.out) ?_
                          rotate_left
                          · intro u hY; go_simp; try with_reducible rfl
                          try simp only [putz]
                          refine Goes.take (i := 13) (o := ⟨some 158, _, _, _, _, _⟩) (v := ?_) [16] rfl (by as_aux_lemma => kernel_rfl) (by as_aux_lemma => kernel_rfl) (by as_aux_lemma => kernel_rfl) (fun _ _ _ h => h) (by as_aux_lemma => kernel_rfl) (fun L u h => SBx.quiet (by decide) h) (Or.inl ⟨by rfl, ?_⟩) (SBx.of BJ.out) ?_
                          rotate_left
                          · intro u hY; have hX := SBx.yet hY (by decide); have hc := hX.cell 1 rfl (v * 4 + r) (by rw [HKL.out]; exact HWB.out); rw [HWE.out] at hc; clear hY hX; go_simp; try with_reducible rfl
                          try simp only [putz]
                          refine Goes.take (i := 14) (o := ⟨some 159, _, _, _, _, _⟩) (v := ?_) [] rfl (by as_aux_lemma => kernel_rfl) (by as_aux_lemma => kernel_rfl) (by as_aux_lemma => kernel_rfl) (fun _ _ _ h => h) (by as_aux_lemma => kernel_rfl) (fun L u h => SBx.quiet (by decide) h) (Or.inl ⟨by rfl, ?_⟩) (SBx.of BJ.out) ?_
                          rotate_left
                          · intro u hY; go_simp; try with_reducible rfl
                          try simp only [putz]
                          refine Goes.take (i := 15) (o := ⟨some 160, _, _, _, _, _⟩) (v := ?_) [] rfl (by as_aux_lemma => kernel_rfl) (by as_aux_lemma => kernel_rfl) (by as_aux_lemma => kernel_rfl) (fun _ _ _ h => h) (by as_aux_lemma => kernel_rfl) (fun L u h => SBx.quiet (by decide) h) (Or.inl ⟨by rfl, ?_⟩) (SBx.of BJ.out) ?_
                          rotate_left
                          · intro u hY; go_simp; try with_reducible rfl
                          try simp only [putz]
                          refine Goes.one (i := 16) (o := ⟨none, _, _, _, _, _⟩) (by as_aux_lemma => kernel_rfl) rfl (fun K hK => ?_)
                          have hc0 := BJ.out.cell 3 rfl i (by rw [upto_length]; exact HI.out)
                          have hf := BJ.out.frozen 3 rfl i
                          go_simp
                          go_wp2_with fail
                          refine hK.out _ _ (SBx.off (by decide)) ?_
                          clear hK K
                          try simp only [putz]
                          refine Goes.done (by as_aux_lemma => kernel_rfl) ?_ _
                          refine NoPanic.normal ?_
                          clear hx qd qt qw re rt qi qz ri rz ii iz gw vw vi vz
                          go_wp2
                          go_roundw
                          case rel => exact ⟨i + 1, HI.out, by go_num, BN2⟩
                          case measure => have := HI.out; simp [intOf]; omega
                        · have h16 : i = 16 := by omega
                          have hge : ¬ (i : Int) < 16 := by omega
                          rw [h16] at BJ
                          clear h16 hlt hi
                          have HE := hid (p := upto 16 (fun i => gb cc i ^^^ gb kw (16 * n + i)) (rst kw b m) 16 = rst kw b (m + 1)) (by rw [upto_all, ← HRN.out]; rfl)
                          rw [HE.out] at BJ
                          have BT := hid (p := Bx w [(g7, 72, kw), (w.heap.size + 1 + 1, 22, List.replicate 16 0), (w.heap.size + 1, 22, rst kw b (m + 1)), (w.heap.size, 22, key)] wr) BJ.out.tail
                          clear BJ HE
                          have HM1 := hid (show m + 1 ≤ 10 by have := HM.out; omega)
                          have nw : IntKind.i64.wrap ((n : Int) + 1) = ((m + 1 + 1 : Nat) : Int) := by have := HNM.out; have := HM.out; rw [IntKind.wrap_i64]; omega
                          go_wp2
                          go_roundw
                          case rel => exact ⟨m + 1, HM1.out, rfl, BT⟩
                          case measure => have := HM.out; have := HNM.out; simp [intOf]; omega
          · obtain rfl : m = 10 := by omega
            have HE := hid (p := rst kw b 10 = enc key b) HEN.out
            rw [HE.out] at BJ
            have hl2 := ld_all (l := enc key b) (BJ.out.bt 2 rfl) 22 _ Tryz.underlying22 rfl 16 (enc_length key b) row16
            have hs2 := st_all (BJ.out.bt 1 rfl) 22 (enc key b) 16 (enc_length key b) (by simp) row16
            have hrow := BJ.out.row 1 rfl (enc key b)
            have HZ2 := hid (hrow.bt 1 rfl)
            have HB2 := hid hrow.below
            clear hrow
            unfold Bt at HZ2
            generalize hz : (bvs (enc key b)).toArray = z at *
            have HZ := hid hz
            have HI := hid (p := (Tryz.prog.info? 22).map (·.size) = some z.size) (by rw [← hz, bsz, (show (enc key b).length = 16 from enc_length key b)]; exact row16)
            clear hz
            go_wp2_with (first | ((with_reducible refine isD 161 rfl ?_); refine wp_ld (by kernel_rfl) 22 (.tmp 5) rfl _ rfl _ hl2 ?_) | ((with_reducible refine isS 22 (.tmp 6) (.tmp 161) rfl ?_); refine wp_st (by kernel_rfl) 22 (.tmp 6) (.tmp 161) rfl _ _ rfl rfl hs2 ?_))
            exact bodyPost_ret (v := .agg z) (results_cell_row (p := 6) (ty := 22) Tryz.results20 _ _ _ 22 z (0, 0) _ rfl HZ2.out Tryz.underlying22 rfl HI.out) rfl ⟨by rw [HZ.out], HB2.out⟩
end Go.Proofs.YtbccnkjfjlmflaaGreatDoor
