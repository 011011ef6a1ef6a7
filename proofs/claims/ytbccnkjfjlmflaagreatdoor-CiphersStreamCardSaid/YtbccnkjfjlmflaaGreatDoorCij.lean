/-
  ciphers.in, out, walked. Conditions: none.
-/
import Derived.Test.YtbccnkjfjlmflaaGreatDoorCii
import Derived.WalkMore
namespace Go.Proofs.YtbccnkjfjlmflaaGreatDoor
open Go.RowKit
set_option linter.unusedVariables false
set_option linter.unusedSimpArgs false

theorem ld_rkw {P : Program} {w : World} {g : Nat} {t : TypeId} {l : List UInt8} (h : Bt w g t l) (ty : TypeId) (d : TypeDesc) (hu : P.underlying ty = some d) (hd : d.isRow = true) (n : Nat) (hn : n * 16 + 16 ≤ l.length) (hi : (P.info? ty).map (·.size) = some 16) :
    (Instr.loadAt ty (.pointer (some ⟨g, n * 16, none⟩))).run P w = .ok (.agg (bvs (rkw l n)).toArray) w := by
  have := ld_mid h ty d hu hd (n * 16) 16 hn hi
  rwa [show (l.drop (n * 16)).take 16 = rkw l n by rw [rkw, Nat.mul_comm]] at this
/-- the state ahead of round n's words -/
def inb (w b : List UInt8) : Nat → List UInt8
  | 0 => b
  | n + 1 => if n = 9 then ssh (rdw w b n) else mixc (ssh (rdw w b n))
theorem inb_length (w b : List UInt8) (n : Nat) (h : b.length = 16) : (inb w b n).length = 16 := by
  cases n with
  | zero => exact h
  | succ n =>
    rw [inb]
    split
    · exact ssh_length _
    · exact mixc_length _
theorem inb_ark (w b : List UInt8) (n : Nat) (h : n ≤ 9) : ark w n (inb w b n) = rdw w b n := by
  cases n with
  | zero => rfl
  | succ n => rw [inb, if_neg (by omega)]; rfl
theorem inb_end (w b : List UInt8) : ark w 10 (inb w b 10) = encw w b := rfl
/-- the state ahead of round n's words, on the way back -/
def oub (w b : List UInt8) : Nat → List UInt8
  | 0 => b
  | n + 1 => if n = 0 then hss (ark w 10 b) else hss (imix (ark w (10 - n) (oub w b n)))
theorem oub_length (w b : List UInt8) (n : Nat) (h : b.length = 16) : (oub w b n).length = 16 := by
  cases n with
  | zero => exact h
  | succ n => rw [oub]; split <;> exact hss_length _
theorem oub_back (w b : List UInt8) (n : Nat) (h : n ≤ 9) : back w (oub w b (n + 1)) (9 - n) = decw w b := by
  induction n with
  | zero => rfl
  | succ n ih =>
    rw [← ih (by omega), show 9 - n = (9 - (n + 1)) + 1 by omega, back, oub, if_neg (by omega), show 10 - (n + 1) = 9 - (n + 1) + 1 by omega]
theorem oub_end (w b : List UInt8) : ark w 0 (oub w b 10) = decw w b := oub_back w b 9 (by decide)
set_option maxRecDepth 100000 in
set_option maxHeartbeats 4000000 in
theorem in_any (g : Nat) (b wd : List UInt8) (w : World) (ht : Bt w g 49 SB) (hb : b.length = 16) (hwl : wd.length = 176) :
    Calls Tryz.prog 16 #[.agg (bvs b).toArray, .agg (bvs wd).toArray, .pointer (some ⟨g, 0, none⟩)] w fun e w' => e = .returned (.agg (bvs (encw wd b)).toArray) ∧ Below w.heap.size w w' := by
  have HT := hid ht
  have HB := hid hb
  have HWL := hid hwl
  clear ht hb hwl
  have B3 := hid (bx3 w 51 53 51 b wd (List.replicate 16 0))
  go_enter Tryz.func16, Tryz.ntmps16
  go_upto_region 1 with fail
  rw [← z16]
  generalize ((w.alloc (.cells (bvs b).toArray 51)).alloc (.cells (bvs wd).toArray 53)).alloc (.cells (bvs (List.replicate 16 0)).toArray 51) = w1 at *
  have B4 := hid (p := Bx w [(w.heap.size + 1 + 1, 51, List.replicate 16 0), (w.heap.size + 1, 53, wd), (w.heap.size, 51, inb wd b 0)] w1) B3.out
  clear B3
  go_step3
  go_wp2_with fail
  go_step3
  go_wp2_with fail
  go_loopw [7] (fun i wr => ∃ j : Nat, j ≤ 10 ∧ i = .int .i64 j ∧ Hid (Bx w [(w.heap.size + 1 + 1, 51, List.replicate 16 0), (w.heap.size + 1, 53, wd), (w.heap.size, 51, inb wd b j)] wr)) (fun i _ => 11 - (intOf i).toNat)
  case atStart => exact ⟨0, Nat.zero_le _, rfl, B4⟩
  case round =>
    clear B4
    obtain ⟨j, hj, rfl, BJ⟩ := hrel
    have HJ := hid hj
    have HIL := hid (inb_length wd b j HB.out)
    have HRL := hid (rkw_length wd j (by rw [HWL.out]; omega))
    have HAG := hid (ag_ark wd j (inb wd b j))
    have h11 : (j : Int) < 11 := by omega
    have h00 : (0 : Int) ≤ (j : Int) := by omega
    go_upto_region 3 with fail
    refine wp_region_noPanic ?_
    refine Goes.region (SBx w [(w.heap.size + 1 + 1, 51, List.replicate 16 0), (w.heap.size + 1, 53, wd), (w.heap.size, 51, inb wd b j)] [4]) (by as_aux_lemma => kernel_rfl) ?_
    have BJ := hid (BJ.out.drew)
    refine Goes.take (i := 0) (o := ⟨some 10, _, _, _, _, _⟩) [4] rfl (by as_aux_lemma => kernel_rfl) (by as_aux_lemma => kernel_rfl) (by as_aux_lemma => kernel_rfl) (fun _ _ _ h => h) (by as_aux_lemma => kernel_rfl) (fun L u h => SBx.quiet (by decide) h) (Or.inl ⟨by rfl, fun u hY => y_ld _ _ rfl _ _ rfl (have hX := SBx.yet hY (by decide); ld_all (hX.bt 2 rfl) 51 _ Tryz.underlying51 rfl 16 HIL.out st16)⟩) (SBx.of BJ.out) ?_
    try simp only [putz]
    refine Goes.take (i := 1) (o := ⟨some 11, _, _, _, _, _⟩) (v := ?_) [] rfl (by as_aux_lemma => kernel_rfl) (by as_aux_lemma => kernel_rfl) (by as_aux_lemma => kernel_rfl) (fun _ _ _ h => h) (by as_aux_lemma => kernel_rfl) (fun L u h => SBx.quiet (by decide) h) (Or.inl ⟨by rfl, ?_⟩) (SBx.of BJ.out) ?_
    rotate_left
    · intro u hY; go_simp; try with_reducible rfl
    try simp only [putz]
    refine Goes.take (i := 2) (o := ⟨some 12, _, _, _, _, _⟩) (v := ?_) [] rfl (by as_aux_lemma => kernel_rfl) (by as_aux_lemma => kernel_rfl) (by as_aux_lemma => kernel_rfl) (fun _ _ _ h => h) (by as_aux_lemma => kernel_rfl) (fun L u h => SBx.quiet (by decide) h) (Or.inl ⟨by rfl, ?_⟩) (SBx.of BJ.out) ?_
    rotate_left
    · intro u hY; go_simp; try with_reducible rfl
    try simp only [putz]
    refine Goes.take (i := 3) (o := ⟨some 13, _, _, _, _, _⟩) [4] rfl (by as_aux_lemma => kernel_rfl) (by as_aux_lemma => kernel_rfl) (by as_aux_lemma => kernel_rfl) (fun _ _ _ h => h) (by as_aux_lemma => kernel_rfl) (fun L u h => SBx.quiet (by decide) h) (Or.inl ⟨by rfl, fun u hY => y_ld _ _ rfl _ _ rfl (have hX := SBx.yet hY (by decide); ld_rkw (hX.bt 1 rfl) 51 _ Tryz.underlying51 rfl j (by rw [HWL.out]; have := HJ.out; omega) st16)⟩) (SBx.of BJ.out) ?_
    try simp only [putz]
    refine Goes.one (i := 4) (o := ⟨some 14, _, _, _, _, _⟩) (by as_aux_lemma => kernel_rfl) rfl (fun K hK => ?_)
    go_simp
    with_reducible refine (against_any (inb wd b j) (rkw wd j) _ HIL.out HRL.out).mono ?_
    rintro e wa ⟨rfl, hba⟩
    have BJ := hid (BJ.out.on hba)
    clear hba
    rw [HAG.out]
    go_wp2_with fail
    refine hK.out _ _ (SBx.of BJ.out) ?_
    clear hK K
    try simp only [putz]
    refine Goes.one (i := 5) (o := ⟨none, _, _, _, _, _⟩) (by as_aux_lemma => kernel_rfl) rfl (fun K hK => ?_)
    have hst := st_all (BJ.out.bt 2 rfl) 51 (ark wd j (inb wd b j)) 16 (ark_length _ _ _) HIL.out st16
    have BA := hid (BJ.out.row 2 rfl (ark wd j (inb wd b j)))
    have BA := hid (p := Bx w [(w.heap.size + 1 + 1, 51, List.replicate 16 0), (w.heap.size + 1, 53, wd), (w.heap.size, 51, ark wd j (inb wd b j))] _) BA.out
    refine step_st (by kernel_rfl) 51 (.tmp 3) (.tmp 14) rfl _ _ rfl rfl hst ?_
    clear hst BJ
    refine hK.out _ _ (SBx.off (by decide)) ?_
    clear hK K
    try simp only [putz]
    refine Goes.done (by as_aux_lemma => kernel_rfl) ?_ _
    refine NoPanic.normal ?_
    clear h11 h00
    generalize wa.setRow w.heap.size (bvs (ark wd j (inb wd b j))).toArray = w4 at *
    by_cases h10 : j = 10
    · subst h10
      go_upto_region 9 with fail
      rw [inb_end] at BA
      have hl2 := ld_all (l := encw wd b) (BA.out.bt 2 rfl) 51 _ Tryz.underlying51 rfl 16 (encw_length _ _) st16
      have hs2 := st_all (BA.out.bt 0 rfl) 51 (encw wd b) 16 (encw_length _ _) (by simp) st16
      have hrow := BA.out.row 0 rfl (encw wd b)
      have HZ2 := hid (hrow.bt 0 rfl)
      have HB2 := hid hrow.below
      clear hrow
      unfold Bt at HZ2
      generalize hz : (bvs (encw wd b)).toArray = z at *
      have HZ := hid hz
      have HI := hid (p := (Tryz.prog.info? 51).map (·.size) = some z.size) (by rw [← hz, bsz, (show (encw wd b).length = 16 from encw_length _ _)]; exact st16)
      clear hz
      go_wp2_with (first | ((with_reducible refine isD 29 rfl ?_); refine wp_ld (by kernel_rfl) 51 (.tmp 3) rfl _ rfl _ hl2 ?_) | ((with_reducible refine isS 51 (.tmp 6) (.tmp 29) rfl ?_); refine wp_st (by kernel_rfl) 51 (.tmp 6) (.tmp 29) rfl _ _ rfl rfl hs2 ?_))
      rw [Exit.noGoto_ret]
      exact bodyPost_ret (v := .agg z) (results_cell_row (p := 6) (ty := 51) Tryz.results16 _ _ _ 51 z (0, 0) _ rfl HZ2.out Tryz.underlying51 rfl HI.out) rfl ⟨by rw [HZ.out], HB2.out⟩
    · have hj9 : j ≤ 9 := by omega
      rw [inb_ark wd b j hj9] at BA
      have hn10 : decide ((j : Int) = 10) = false := decide_eq_false (by omega)
      have hld := ld_all (BA.out.bt 2 rfl) 51 _ Tryz.underlying51 rfl 16 (rnds_length _ _ _) st16
      by_cases h9 : j = 9
      · subst h9
        go_wp2_with (((with_reducible refine isD 26 rfl ?_); refine wp_ld (by kernel_rfl) 51 (.tmp 3) rfl _ rfl _ hld ?_))
        refine (of_any g SB (rdw wd b 9) w4 (HT.out.on BA.out.below) rfl (rnds_length _ _ _)).mono ?_
        rintro e w5 ⟨rfl, hb5⟩
        have B5 := hid (BA.out.on hb5)
        clear hb5 BA hld
        go_wp2_with fail
        refine (turned_any _ w5 (oft_length _ _)).mono ?_
        rintro e w6 ⟨rfl, hb6⟩
        have B6 := hid (B5.out.on hb6)
        clear hb6 B5
        rw [tn_oft]
        have hst := st_all (B6.out.bt 2 rfl) 51 (ssh (rdw wd b 9)) 16 (ssh_length _) (rnds_length _ _ _) st16
        have BN := hid (p := Bx w [(w.heap.size + 1 + 1, 51, List.replicate 16 0), (w.heap.size + 1, 53, wd), (w.heap.size, 51, inb wd b (9 + 1))] (w6.setRow w.heap.size (bvs (ssh (rdw wd b 9))).toArray)) (B6.out.row 2 rfl (ssh (rdw wd b 9)))
        go_wp2_with (((with_reducible refine isS 51 (.tmp 3) (.tmp 28) rfl ?_); refine wp_st (by kernel_rfl) 51 (.tmp 3) (.tmp 28) rfl _ _ rfl rfl hst ?_))
        go_roundw
        case rel => exact ⟨9 + 1, by omega, rfl, BN⟩
        case measure => simp [intOf]
      · have hn9 : decide ((j : Int) = 9) = false := decide_eq_false (by omega)
        go_wp2_with (((with_reducible refine isD 17 rfl ?_); refine wp_ld (by kernel_rfl) 51 (.tmp 3) rfl _ rfl _ hld ?_))
        refine (of_any g SB (rdw wd b j) w4 (HT.out.on BA.out.below) rfl (rnds_length _ _ _)).mono ?_
        rintro e w5 ⟨rfl, hb5⟩
        have B5 := hid (BA.out.on hb5)
        clear hb5 BA hld
        go_wp2_with fail
        refine (turned_any _ w5 (oft_length _ _)).mono ?_
        rintro e w6 ⟨rfl, hb6⟩
        have B6 := hid (B5.out.on hb6)
        clear hb6 B5
        rw [tn_oft]
        go_wp2_with fail
        refine (mixed_any _ w6 (ssh_length _)).mono ?_
        rintro e w7 ⟨rfl, hb7⟩
        have B7 := hid (B6.out.on hb7)
        clear hb7 B6
        have hst := st_all (B7.out.bt 2 rfl) 51 (mixc (ssh (rdw wd b j))) 16 (mixc_length _) (rnds_length _ _ _) st16
        have BN := hid (B7.out.row 2 rfl (mixc (ssh (rdw wd b j))))
        rw [show mixc (ssh (rdw wd b j)) = inb wd b (j + 1) by rw [inb, if_neg h9]] at BN hst ⊢
        have BN2 := hid (p := Bx w [(w.heap.size + 1 + 1, 51, List.replicate 16 0), (w.heap.size + 1, 53, wd), (w.heap.size, 51, inb wd b (j + 1))] (w7.setRow w.heap.size (bvs (inb wd b (j + 1))).toArray)) BN.out
        clear BN
        go_wp2_with (((with_reducible refine isS 51 (.tmp 3) (.tmp 20) rfl ?_); refine wp_st (by kernel_rfl) 51 (.tmp 3) (.tmp 20) rfl _ _ rfl rfl hst ?_))
        go_roundw
        case rel => exact ⟨j + 1, by omega, by go_num, BN2⟩
        case measure => simp [intOf]; omega
end Go.Proofs.YtbccnkjfjlmflaaGreatDoor
