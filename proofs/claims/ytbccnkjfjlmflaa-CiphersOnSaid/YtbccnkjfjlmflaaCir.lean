/-
  burrowlaw09.next, CiphersOn, walked: it answers true. Condition: the slice is within the form's own reach.
-/
import Derived.Test.YtbccnkjfjlmflaaCiq
namespace Go.Proofs.Ytbccnkjfjlmflaa
open Go.RowKit
set_option linter.unusedVariables false
set_option linter.unusedSimpArgs false

set_option maxRecDepth 100000 in
set_option maxHeartbeats 4000000 in
theorem next_any (b : List UInt8) (w : World) (hb : b.length = 16) :
    Calls Try.prog 16 #[.agg (bvs b).toArray] w fun e w' => e = .returned (.agg (bvs (nxt b)).toArray) ∧ Below w.heap.size w w' := by
  have HB := hid hb
  clear hb
  have B3 := hid (bx2 w 22 22 b (List.replicate 16 0))
  go_enter Try.func16, Try.ntmps16
  go_upto_region 1 with fail
  rw [← z16]
  generalize (w.alloc (.cells (bvs b).toArray 22)).alloc (.cells (bvs (List.replicate 16 0)).toArray 22) = w1 at *
  have B4 := hid (p := Bx w [(w.heap.size + 1, 22, List.replicate 16 0), (w.heap.size, 22, rs b 0)] w1) (by rw [rs_none _ HB.out]; exact B3.out)
  clear B3
  go_wp2_with fail
  go_loopw [3] (fun i wr => ∃ k : Nat, k ≤ 16 ∧ i = .int .i64 (15 - (k : Int)) ∧ Hid (∀ i, i < 16 → 16 ≤ i + k → gb b i + 1 = 0) ∧ Hid (Bx w [(w.heap.size + 1, 22, List.replicate 16 0), (w.heap.size, 22, rs b k)] wr)) (fun i _ => (intOf i + 1).toNat)
  case atStart => exact ⟨0, Nat.zero_le _, rfl, hid (fun i h1 h2 => by omega), B4⟩
  case round =>
    clear B4
    obtain ⟨k, hk, rfl, HZ, BJ⟩ := hrel
    by_cases hlt : k < 16
    · have HK := hid hlt
      obtain ⟨j, hj⟩ : ∃ j, j = 15 - k := ⟨_, rfl⟩
      have hji : (15 : Int) - (k : Int) = (j : Int) := by omega
      have hc := BJ.out.cell 1 rfl j (by rw [rs_length]; omega)
      rw [show gb (rs b k) j = gb b j by rw [rs, gb_tab _ _ _ (by omega), if_neg (by omega)]] at hc
      have hf := BJ.out.frozen 1 rfl j
      have hs := iv_succ (gb b j)
      have HJ := hid hj
      have hj16 : j < 16 := by omega
      clear hj
      rw [hji]
      clear hji
      have BN := hid (BJ.out.set 1 rfl j (gb b j + 1))
      by_cases hx : gb b j + 1 = 0
      · have HZ2 := hid (p := ∀ i, i < 16 → 16 ≤ i + (k + 1) → gb b i + 1 = 0) (fun i h1 h2 => by
          by_cases h : i = j
          · subst h; exact hx
          · exact HZ.out i h1 (by have := HJ.out; omega))
        rw [hx] at BN hs
        have e0 : iv 0 = 0 := rfl
        rw [show (rs b k).set j 0 = rs b (k + 1) by rw [HJ.out]; exact rs_step b k HK.out] at BN
        rw [e0] at hs
        have hc2 := BN.out.cell 1 rfl j (by rw [rs_length]; exact hj16)
        rw [show gb (rs b (k + 1)) j = 0 by rw [rs, gb_tab _ _ _ hj16, if_pos (by have := HJ.out; omega)]] at hc2
        have hc3 : (wr.setCell ⟨w.heap.size, j, none⟩ (.int .u8 0)).cell? ⟨w.heap.size, j, none⟩ = some (.int .u8 0) := hc2
        clear hc2
        have BN2 := hid (p := Bx w [(w.heap.size + 1, 22, List.replicate 16 0), (w.heap.size, 22, rs b (k + 1))] (wr.setCell ⟨w.heap.size, j, none⟩ (.int .u8 0))) BN.out
        generalize gb b j = p at *
        clear BN
        go_upto_region 5 with fail
        clear hc hf hs
        generalize wr.setCell ⟨w.heap.size, j, none⟩ (.int .u8 0) = w2 at *
        go_wp2
        go_roundw
        case rel => exact ⟨k + 1, by omega, by congr 1; have := HJ.out; omega, HZ2, BN2⟩
        case measure => simp [intOf]
      · have hz := iv_zero _ hx
        have hn : (rs b k).set j (gb b j + 1) = nxt b := by
          have := nxt_at b HB.out k HK.out HZ.out (by rw [← HJ.out]; exact hx)
          rwa [← HJ.out] at this
        rw [hn] at BN
        have hc2 := BN.out.cell 1 rfl j (by rw [nxt_length, HB.out]; exact hj16)
        rw [show gb (nxt b) j = gb b j + 1 by rw [← hn, gb_set _ _ _ _ (by rw [rs_length]; exact hj16), if_pos rfl]] at hc2
        clear hn hx
        generalize gb b j + 1 = y at *
        generalize gb b j = p at *
        go_upto_region 5 with fail
        clear hc hf hs
        generalize wr.setCell ⟨w.heap.size, j, none⟩ (bv y) = w2 at *
        go_upto_region 6 with fail
        clear hc2 BJ
        have hl2 := ld_all (l := nxt b) (BN.out.bt 1 rfl) 22 _ Try.underlying22 rfl 16 (by rw [nxt_length, HB.out]) row16
        have hs2 := st_all (BN.out.bt 0 rfl) 22 (nxt b) 16 (by rw [nxt_length, HB.out]) (by simp) row16
        have hrow := BN.out.row 0 rfl (nxt b)
        have HZ2 := hid (hrow.bt 0 rfl)
        have HB2 := hid hrow.below
        clear hrow
        unfold Bt at HZ2
        generalize hz : (bvs (nxt b)).toArray = z at *
        have HZ := hid hz
        have HI := hid (p := (Try.prog.info? 22).map (·.size) = some z.size) (by rw [← hz, bsz, (show (nxt b).length = 16 from by rw [nxt_length, HB.out])]; exact row16)
        clear hz
        go_wp2_with (first | ((with_reducible refine isD 17 rfl ?_); refine wp_ld (by kernel_rfl) 22 (.tmp 1) rfl _ rfl _ hl2 ?_) | ((with_reducible refine isS 22 (.tmp 2) (.tmp 17) rfl ?_); refine wp_st (by kernel_rfl) 22 (.tmp 2) (.tmp 17) rfl _ _ rfl rfl hs2 ?_))
        exact bodyPost_ret (v := .agg z) (results_cell_row (p := 2) (ty := 22) Try.results16 _ _ _ 22 z (0, 0) _ rfl HZ2.out Try.underlying22 rfl HI.out) rfl ⟨by rw [HZ.out], HB2.out⟩
    · obtain rfl : k = 16 := by omega
      rw [nxt_all b HB.out (fun i hi => HZ.out i hi (by omega))] at BJ
      have hl2 := ld_all (l := nxt b) (BJ.out.bt 1 rfl) 22 _ Try.underlying22 rfl 16 (by rw [nxt_length, HB.out]) row16
      have hs2 := st_all (BJ.out.bt 0 rfl) 22 (nxt b) 16 (by rw [nxt_length, HB.out]) (by simp) row16
      have hrow := BJ.out.row 0 rfl (nxt b)
      have HZ2 := hid (hrow.bt 0 rfl)
      have HB2 := hid hrow.below
      clear hrow
      unfold Bt at HZ2
      generalize hz : (bvs (nxt b)).toArray = z at *
      have HZ := hid hz
      have HI := hid (p := (Try.prog.info? 22).map (·.size) = some z.size) (by rw [← hz, bsz, (show (nxt b).length = 16 from by rw [nxt_length, HB.out])]; exact row16)
      clear hz
      go_wp2_with (first | ((with_reducible refine isD 18 rfl ?_); refine wp_ld (by kernel_rfl) 22 (.tmp 1) rfl _ rfl _ hl2 ?_) | ((with_reducible refine isS 22 (.tmp 2) (.tmp 18) rfl ?_); refine wp_st (by kernel_rfl) 22 (.tmp 2) (.tmp 18) rfl _ _ rfl rfl hs2 ?_))
      exact bodyPost_ret (v := .agg z) (results_cell_row (p := 2) (ty := 22) Try.results16 _ _ _ 22 z (0, 0) _ rfl HZ2.out Try.underlying22 rfl HI.out) rfl ⟨by rw [HZ.out], HB2.out⟩
theorem Rd.past {w : World} {A : Option Addr} {bs : List UInt8} (h : Rd w A bs) (k c : Nat) (hk : k ≤ bs.length) (hc : bs.length ≤ c) : Rd w (past A k c) (bs.drop k) := by
  intro hp
  have hp2 : 0 < bs.length := by simp at hp; omega
  obtain ⟨gp, o, rfl, hlt, hcl⟩ := h hp2
  have hne : c ≠ k := by simp at hp; omega
  refine ⟨gp, o + k, ?_, hlt, fun j hj => ?_⟩
  · unfold Go.Proofs.Ytbccnkjfjlmflaa.past; rw [if_neg hne]
    simp only [Option.map_some]
    congr 1
    unfold Addr.add
    by_cases hk0 : k = 0
    · subst hk0; simp
    · simp [hk0]
  · have := hcl (k + j) (by simp at hj; omega)
    rw [Nat.add_assoc, this]; simp
set_option maxRecDepth 100000 in
set_option maxHeartbeats 4000000 in
theorem on_law (key first : List UInt8) (A : Option Addr) (c : Nat) (b : List UInt8) (n : Nat) (w : World) (hk : key.length = 16) (hf : first.length = 16) (hn : b.length = n) (hr : Rd w A b) (hc : n ≤ c) :
    Calls Try.prog 6 #[.agg (bvs key).toArray, .agg (bvs first).toArray, .slice A n c] w fun e w' => e = .returned (.bool true) ∧ Below w.heap.size w w' := by
  have HK := hid hk
  have HF := hid hf
  have HN := hid hn
  have HC := hid hc
  have HW0 := hid ((bx2 w 22 22 key first).below)
  have FK := hid ((bx2 w 22 22 key first).bt 1 rfl)
  have FF := hid ((bx2 w 22 22 key first).bt 0 rfl)
  have HR := hid (hr.below HW0.out (Nat.le_refl _))
  clear hk hf hn hr hc
  go_enter Try.func6, Try.ntmps6
  go_upto_region 1 with fail
  generalize (w.alloc (.cells (bvs key).toArray 22)).alloc (.cells (bvs first).toArray 22) = W at *
  by_cases hs : (n : Int) < 16
  · go_wp2_with fail
    refine (lives_any W).mono ?_
    rintro e w1 ⟨rfl, hb1⟩
    have HE := hid (HW0.out.trans (hb1.mono HW0.out.size))
    clear hb1
    go_wp2
    go_ret
    exact ⟨rfl, HE.out⟩
  by_cases hbig : (3000 : Int) < (n : Int)
  · go_wp2_with fail
    refine (lives_any W).mono ?_
    rintro e w1 ⟨rfl, hb1⟩
    have HE := hid (HW0.out.trans (hb1.mono HW0.out.size))
    clear hb1
    go_wp2
    go_ret
    exact ⟨rfl, HE.out⟩
  have HN3 := hid (show n ≤ 3000 by omega)
  have HN16 := hid (show 16 ≤ n by omega)
  have hk := ld_all FK.out 22 _ Try.underlying22 rfl 16 HK.out row16
  have hf := ld_all FF.out 22 _ Try.underlying22 rfl 16 HF.out row16
  go_wp2_with (first | ((with_reducible refine isD 19 rfl ?_); refine wp_ld (by kernel_rfl) 22 (.tmp 3) rfl _ rfl _ hk ?_) | ((with_reducible refine isD 20 rfl ?_); refine wp_ld (by kernel_rfl) 22 (.tmp 4) rfl _ rfl _ hf ?_))
  clear hs hbig hk hf
  refine (stream_any key first A c b n W HK.out HF.out HN.out HR.out (by have := HN3.out; omega)).mono ?_
  rintro e w1 ⟨gx, rfl, hs⟩
  have B1 := hid ((Bx.nil W).take hs.out.2.2 hs.out.2.1 hs.out.1)
  clear hs
  have SL := hid (p := (strm key first b).length = n) (by rw [strm_length, HN.out])
  have hk := ld_all (FK.out.on B1.out.below) 22 _ Try.underlying22 rfl 16 HK.out row16
  have hf := ld_all (FF.out.on B1.out.below) 22 _ Try.underlying22 rfl 16 HF.out row16
  go_upto_region 4 with fail
  go_wp2_with (first | ((with_reducible refine isD 23 rfl ?_); refine wp_ld (by kernel_rfl) 22 (.tmp 3) rfl _ rfl _ hk ?_) | ((with_reducible refine isD 24 rfl ?_); refine wp_ld (by kernel_rfl) 22 (.tmp 4) rfl _ rfl _ hf ?_))
  clear hk hf
  refine (block_any key first w1 HK.out HF.out).mono ?_
  rintro e w2 ⟨rfl, hba⟩
  have C1 := hid (B1.out.on hba)
  clear hba B1
  have C2 := hid (p := Bx W ((w2.heap.size, 22, List.replicate 16 0) :: [(gx, 5, strm key first b)]) (w2.alloc (.cells (bvs (List.replicate 16 0)).toArray 22))) (C1.out.add 22 (List.replicate 16 0))
  have hst := st_all (C2.out.bt 0 rfl) 22 (enc key first) 16 (enc_length _ _) (by simp) row16
  have B2 := hid (p := Bx W ((w2.heap.size, 22, enc key first) :: [(gx, 5, strm key first b)]) ((w2.alloc (.cells (bvs (List.replicate 16 0)).toArray 22)).setRow w2.heap.size (bvs (enc key first)).toArray)) (C2.out.row 0 rfl (enc key first))
  rw [z16] at hst
  rw [z16] at B2
  clear C1 C2
  go_upto_region 5 with (((with_reducible refine isS 22 (.tmp 8) (.tmp 25) rfl ?_); refine wp_st (by kernel_rfl) 22 (.tmp 8) (.tmp 25) rfl _ _ rfl rfl hst ?_))
  clear hst
  generalize hg : w2.heap.size = gs at *
  clear hg
  generalize (w2.alloc _).setRow gs _ = w3 at *
  go_wp2_with fail
  go_loopw [9] (fun i wr => ∃ k : Nat, k ≤ 16 ∧ i = .int .i64 k ∧ Hid (Bx W [(gs, 22, enc key first), (gx, 5, strm key first b)] wr)) (fun i _ => 16 - (intOf i).toNat)
  case atStart => exact ⟨0, Nat.zero_le _, rfl, B2⟩
  case round =>
    clear B2
    obtain ⟨k, hk, rfl, BJ⟩ := hrel
    by_cases hlt : k < 16
    · have hkn : k < n := by have := HN16.out; omega
      have hkb : k < b.length := by rw [HN.out]; exact hkn
      have hrr := HR.out.below BJ.out.below (Nat.le_refl _)
      obtain ⟨ga, o, rfl, hga, hcell⟩ := hrr (by omega)
      have hcb : wr.cell? ⟨ga, o + k, none⟩ = some (bv (gb b k)) := by rw [gb_lt hkb]; exact hcell k hkb
      have hcx := BJ.out.cell 1 rfl k (by rw [SL.out]; exact hkn)
      rw [gb_strm _ _ _ _ hkb, ks_first _ _ _ hlt] at hcx
      have hcs := BJ.out.cell 0 rfl k (by rw [enc_length]; exact hlt)
      have hx := xor_u8 (gb b k) (gb (enc key first) k)
      have hki : (k : Int) < (n : Int) := by omega
      have hk0 : (0 : Int) ≤ (k : Int) := by omega
      clear hcell hga
      generalize gb b k ^^^ gb (enc key first) k = y at *
      generalize gb (enc key first) k = q at *
      generalize gb b k = p at *
      go_wp2
      go_quiet (fail)
      have BN := hid (BJ.out.drewN nq)
      go_wp2
      go_roundw
      case rel => exact ⟨k + 1, by omega, by go_num, BN⟩
      case measure => simp [intOf]; omega
    · obtain rfl : k = 16 := by omega
      have BDL := hid (show (b.drop 16).length = n - 16 by rw [List.length_drop, HN.out])
      have SDL := hid (show ((strm key first b).drop 16).length = n - 16 by rw [List.length_drop, SL.out])
      have hs1 : ∀ W, (Instr.slice 29 (.slice A n c) (some (.int .i64 16)) none none).run Try.prog W = .ok (.slice (past A 16 c) (n - 16) (c - 16)) W := slice_rest A n c 16 HN16.out
      have hs2 : ∀ W, (Instr.slice 29 (.slice (some ⟨gx, 0, none⟩) n n) (some (.int .i64 16)) none none).run Try.prog W = .ok (.slice (past (some ⟨gx, 0, none⟩) 16 n) (n - 16) (n - 16)) W := slice_rest (some ⟨gx, 0, none⟩) n n 16 HN16.out
      go_upto_region 12 with fail
      refine wp_region_noPanic ?_
      refine Goes.region (fun (_ : Array Bool) (u : World) => Bx W [(gs, 22, enc key first), (gx, 5, strm key first b)] u) (by as_aux_lemma => kernel_rfl) ?_
      have BJ := hid (BJ.out.drew)
      refine Goes.take (i := 0) (o := ⟨some 48, _, _, _, _, _⟩) [] rfl (by as_aux_lemma => kernel_rfl) (by as_aux_lemma => kernel_rfl) (by as_aux_lemma => kernel_rfl) (fun _ _ _ h => h) (by as_aux_lemma => kernel_rfl) (fun L u h => h) (Or.inl ⟨by rfl, fun u hY => y_ld _ _ rfl _ _ rfl (have hX := SPl.yet hY; ld_all (FK.out.on hX.below) 22 _ Try.underlying22 rfl 16 HK.out row16)⟩) BJ.out ?_
      try simp only [putz]
      refine Goes.take (i := 1) (o := ⟨some 49, _, _, _, _, _⟩) [] rfl (by as_aux_lemma => kernel_rfl) (by as_aux_lemma => kernel_rfl) (by as_aux_lemma => kernel_rfl) (fun _ _ _ h => h) (by as_aux_lemma => kernel_rfl) (fun L u h => h) (Or.inl ⟨by rfl, fun u hY => y_ld _ _ rfl _ _ rfl (have hX := SPl.yet hY; ld_all (FF.out.on hX.below) 22 _ Try.underlying22 rfl 16 HF.out row16)⟩) BJ.out ?_
      try simp only [putz]
      refine Goes.take (i := 3) (o := ⟨some 51, _, _, _, _, _⟩) (v := ?_) [] rfl (by as_aux_lemma => kernel_rfl) (by as_aux_lemma => kernel_rfl) (by as_aux_lemma => kernel_rfl) (fun _ _ _ h => h) (by as_aux_lemma => kernel_rfl) (fun L u h => h) (Or.inl ⟨by rfl, ?_⟩) BJ.out ?_
      rotate_left
      · intro u hY; go_simp; try with_reducible rfl
      try simp only [putz]
      refine Goes.take (i := 4) (o := ⟨some 52, _, _, _, _, _⟩) (v := ?_) [] rfl (by as_aux_lemma => kernel_rfl) (by as_aux_lemma => kernel_rfl) (by as_aux_lemma => kernel_rfl) (fun _ _ _ h => h) (by as_aux_lemma => kernel_rfl) (fun L u h => h) (Or.inl ⟨by rfl, ?_⟩) BJ.out ?_
      rotate_left
      · intro u hY; go_simp; try with_reducible rfl
      try simp only [putz]
      refine Goes.take (i := 6) (o := ⟨some 54, _, _, _, _, _⟩) (v := ?_) [] rfl (by as_aux_lemma => kernel_rfl) (by as_aux_lemma => kernel_rfl) (by as_aux_lemma => kernel_rfl) (fun _ _ _ h => h) (by as_aux_lemma => kernel_rfl) (fun L u h => h) (Or.inl ⟨by rfl, ?_⟩) BJ.out ?_
      rotate_left
      · intro u hY; go_simp; try with_reducible rfl
      try simp only [putz]
      refine Goes.take (i := 7) (o := ⟨some 55, _, _, _, _, _⟩) (v := ?_) [] rfl (by as_aux_lemma => kernel_rfl) (by as_aux_lemma => kernel_rfl) (by as_aux_lemma => kernel_rfl) (fun _ _ _ h => h) (by as_aux_lemma => kernel_rfl) (fun L u h => h) (Or.inl ⟨by rfl, ?_⟩) BJ.out ?_
      rotate_left
      · intro u hY; go_simp; try with_reducible rfl
      try simp only [putz]
      refine Goes.one (i := 2) (o := ⟨some 50, _, _, _, _, _⟩) (by as_aux_lemma => kernel_rfl) rfl (fun K hK => ?_)
      go_simp
      with_reducible refine (next_any first _ HF.out).mono ?_
      rintro e wa ⟨rfl, hba⟩
      have BJ := hid (BJ.out.on hba)
      clear hba
      go_wp2_with fail
      refine hK.out _ _ BJ.out ?_
      clear hK K
      try simp only [putz]
      refine Goes.one (i := 5) (o := ⟨some 53, _, _, _, _, _⟩) (by as_aux_lemma => kernel_rfl) rfl (fun K hK => ?_)
      go_simp
      with_reducible refine (stream_any key (nxt first) (past A 16 c) (c - 16) (b.drop 16) (n - 16) _ HK.out (by rw [nxt_length]; exact HF.out) BDL.out ((HR.out.below BJ.out.below (Nat.le_refl _)).past 16 c (by rw [HN.out]; exact HN16.out) (by rw [HN.out]; exact HC.out)) (by have := HN3.out; omega)).mono ?_
      rintro e wb ⟨gy, rfl, hs⟩
      have HY := hid hs.out.1
      have BJ := hid (BJ.out.on hs.out.2.2)
      clear hs
      rw [strm_on] at HY
      go_wp2_with fail
      refine hK.out _ _ BJ.out ?_
      clear hK K
      try simp only [putz]
      refine Goes.one (i := 8) (o := ⟨some 56, _, _, _, _, _⟩) (by as_aux_lemma => kernel_rfl) rfl (fun K hK => ?_)
      go_simp
      with_reducible refine (same_at _ _ _ _ (n - 16) (n - 16) ((strm key first b).drop 16) _ SDL.out SDL.out (bt_rd HY.out) ((bt_rd (BJ.out.bt 1 rfl)).past 16 n (by rw [SL.out]; exact HN16.out) (by rw [SL.out]; exact Nat.le_refl _)) (by have := HN3.out; omega)).mono ?_
      rintro e wc ⟨rfl, kk, rfl⟩
      have BJ := hid (BJ.out.drewN kk)
      generalize wb.drewN kk = wc at *
      clear HY
      go_wp2_with fail
      refine hK.out _ _ BJ.out ?_
      clear hK K
      try simp only [putz]
      refine Goes.take (i := 9) (o := ⟨some 57, _, _, _, _, _⟩) (v := ?_) [] rfl (by as_aux_lemma => kernel_rfl) (by as_aux_lemma => kernel_rfl) (by as_aux_lemma => kernel_rfl) (fun _ _ _ h => h) (by as_aux_lemma => kernel_rfl) (fun L u h => h) (Or.inl ⟨by rfl, ?_⟩) BJ.out ?_
      rotate_left
      · intro u hY; go_simp; try with_reducible rfl
      try simp only [putz]
      refine Goes.one (i := 10) (o := ⟨some 58, _, _, _, _, _⟩) (by as_aux_lemma => kernel_rfl) rfl (fun K hK => ?_)
      rw [if_pos (by kernel_rfl)]
      go_simp
      with_reducible refine (lives_any _).mono ?_
      rintro e wd ⟨rfl, hba⟩
      have BJ := hid (BJ.out.on hba)
      clear hba
      go_wp2_with fail
      refine hK.out _ _ BJ.out ?_
      clear hK K
      try simp only [putz]
      refine Goes.take (i := 11) (o := ⟨some 59, _, _, _, _, _⟩) (v := ?_) [] rfl (by as_aux_lemma => kernel_rfl) (by as_aux_lemma => kernel_rfl) (by as_aux_lemma => kernel_rfl) (fun _ _ _ h => h) (by as_aux_lemma => kernel_rfl) (fun L u h => h) (Or.inl ⟨by rfl, ?_⟩) BJ.out ?_
      rotate_left
      · intro u hY; go_simp; try with_reducible rfl
      try simp only [putz]
      refine Goes.take (i := 12) (o := ⟨some 6, _, _, _, _, _⟩) (v := ?_) [] rfl (by as_aux_lemma => kernel_rfl) (by as_aux_lemma => kernel_rfl) (by as_aux_lemma => kernel_rfl) (fun _ _ _ h => h) (by as_aux_lemma => kernel_rfl) (fun L u h => h) (Or.inl ⟨by rfl, ?_⟩) BJ.out ?_
      rotate_left
      · intro u hY; go_simp; try with_reducible rfl
      try simp only [putz]
      refine Goes.done (by as_aux_lemma => kernel_rfl) ?_ _
      refine NoPanic.normal ?_
      have HE := hid (HW0.out.trans (BJ.out.below.mono HW0.out.size))
      clear BJ
      go_wp2
      go_ret
      exact ⟨rfl, HE.out⟩
end Go.Proofs.Ytbccnkjfjlmflaa
