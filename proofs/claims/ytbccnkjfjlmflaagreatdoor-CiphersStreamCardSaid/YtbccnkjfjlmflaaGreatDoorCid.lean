/-
  ciphers.of, turned, turnedBack, walked. Conditions: none.
-/
import Derived.Test.YtbccnkjfjlmflaaGreatDoorCic
namespace Go.Proofs.YtbccnkjfjlmflaaGreatDoor
open Go.RowKit
set_option linter.unusedVariables false
set_option linter.unusedSimpArgs false

theorem tb256 : (Tryz.prog.info? 49).map (·.size) = some 256 := by kernel_rfl
set_option maxRecDepth 100000 in
set_option maxHeartbeats 4000000 in
theorem of_any (g : Nat) (t b : List UInt8) (w : World) (ht : Bt w g 49 t) (htl : t.length = 256) (hb : b.length = 16) :
    Calls Tryz.prog 73 #[.pointer (some ⟨g, 0, none⟩), .agg (bvs b).toArray] w fun e w' => e = .returned (.agg (bvs (oft t b)).toArray) ∧ Below w.heap.size w w' := by
  have HT := hid ht
  have HTL := hid htl
  have HB := hid hb
  clear ht hb htl
  have B3 := hid (bx2 w 51 51 b (List.replicate 16 0))
  go_enter Tryz.func73, Tryz.ntmps73
  go_upto_region 1 with fail
  rw [← z16]
  generalize (w.alloc (.cells (bvs b).toArray 51)).alloc (.cells (bvs (List.replicate 16 0)).toArray 51) = w1 at *
  have hld := ld_all (B3.out.bt 1 rfl) 51 _ Tryz.underlying51 rfl 16 HB.out st16
  have HIX := hid (ix_any 51 16 Tryz.underlying51 b HB.out)
  have B4 := hid (p := Bx w [(w.heap.size + 1, 51, List.replicate 16 0), (w.heap.size, 51, upto 16 (fun i => gb t (gb b i).toNat) b 0)] w1) (by rw [upto_none _ _ _ HB.out]; exact B3.out)
  clear B3
  go_wp2_with (((with_reducible refine isD 7 rfl ?_); refine wp_ld (by kernel_rfl) 51 (.tmp 3) rfl _ rfl _ hld ?_))
  clear hld
  go_loopw [8] (fun i wr => ∃ j : Nat, j ≤ 16 ∧ i = .int .i64 j ∧ Hid (Bx w [(w.heap.size + 1, 51, List.replicate 16 0), (w.heap.size, 51, upto 16 (fun i => gb t (gb b i).toNat) b j)] wr)) (fun i _ => 16 - (intOf i).toNat)
  case atStart => exact ⟨0, Nat.zero_le _, rfl, B4⟩
  case round =>
    clear B4
    obtain ⟨j, hj, rfl, BJ⟩ := hrel
    by_cases hlt : j < 16
    · have HJ := hid hlt
      have hxj := HIX.out j HJ.out
      have HQ := hid ((gb b j).toNat_lt)
      have h0 := iv_ge (gb b j)
      have h1 := iv_lt (gb b j)
      have hct : wr.cell? ⟨g, (iv (gb b j)).toNat, none⟩ = some (bv (gb t (gb b j).toNat)) := (HT.out.on BJ.out.below).at_ _ (by rw [HTL.out]; exact HQ.out)
      have hf := BJ.out.frozen 1 rfl j
      have hc := BJ.out.cell 1 rfl j (by rw [upto_length]; exact HJ.out)
      have BN := hid (BJ.out.set 1 rfl j (gb t (gb b j).toNat))
      rw [upto_set 16 (fun i => gb t (gb b i).toNat)] at BN
      generalize gb t (gb b j).toNat = y at *
      generalize gb b j = q at *
      go_wp2
      go_roundw
      case rel => exact ⟨j + 1, by omega, by go_num, BN⟩
      case measure => simp [intOf]; omega
    · obtain rfl : j = 16 := by omega
      rw [upto_all] at BJ
      have hl2 := ld_all (l := oft t b) (BJ.out.bt 1 rfl) 51 _ Tryz.underlying51 rfl 16 (oft_length t b) st16
      have hs2 := st_all (BJ.out.bt 0 rfl) 51 (oft t b) 16 (oft_length t b) (by simp) st16
      have hrow := BJ.out.row 0 rfl (oft t b)
      have HZ2 := hid (hrow.bt 0 rfl)
      have HB2 := hid hrow.below
      clear hrow
      unfold Bt at HZ2
      generalize hz : (bvs (oft t b)).toArray = z at *
      have HZ := hid hz
      have HI := hid (p := (Tryz.prog.info? 51).map (·.size) = some z.size) (by rw [← hz, bsz, oft_length t b]; exact st16)
      clear hz
      go_wp2_with (first | ((with_reducible refine isD 20 rfl ?_); refine wp_ld (by kernel_rfl) 51 (.tmp 3) rfl _ rfl _ hl2 ?_) | ((with_reducible refine isS 51 (.tmp 4) (.tmp 20) rfl ?_); refine wp_st (by kernel_rfl) 51 (.tmp 4) (.tmp 20) rfl _ _ rfl rfl hs2 ?_))
      exact bodyPost_ret (v := .agg z) (results_cell_row (p := 4) (ty := 51) Tryz.results73 _ _ _ 51 z (0, 0) _ rfl HZ2.out Tryz.underlying51 rfl HI.out) rfl ⟨by rw [HZ.out], HB2.out⟩
set_option maxRecDepth 100000 in
set_option maxHeartbeats 4000000 in
theorem turned_any (b : List UInt8) (w : World) (hb : b.length = 16) :
    Calls Tryz.prog 72 #[.agg (bvs b).toArray] w fun e w' => e = .returned (.agg (bvs (tn b)).toArray) ∧ Below w.heap.size w w' := by
  have HB := hid hb
  clear hb
  have B3 := hid (bx3 w 51 51 51 b (List.replicate 16 0) (List.replicate 16 0))
  go_enter Tryz.func72, Tryz.ntmps72
  go_upto_region 2 with fail
  rw [← z16]
  generalize ((w.alloc (.cells (bvs b).toArray 51)).alloc (.cells (bvs (List.replicate 16 0)).toArray 51)).alloc (.cells (bvs (List.replicate 16 0)).toArray 51) = w1 at *
  have B4 := hid (p := Bx w [(w.heap.size + 1 + 1, 51, upto 16 (fun i => gb b ((i + 4 * (i % 4)) % 16)) (List.replicate 16 0) 0), (w.heap.size + 1, 51, List.replicate 16 0), (w.heap.size, 51, b)] w1) (by rw [upto_none _ _ _ (by simp)]; exact B3.out)
  clear B3
  go_wp2_with fail
  go_loopw [5] (fun i wr => ∃ j : Nat, j ≤ 16 ∧ i = .int .i64 j ∧ Hid (Bx w [(w.heap.size + 1 + 1, 51, upto 16 (fun i => gb b ((i + 4 * (i % 4)) % 16)) (List.replicate 16 0) j), (w.heap.size + 1, 51, List.replicate 16 0), (w.heap.size, 51, b)] wr)) (fun i _ => 16 - (intOf i).toNat)
  case atStart => exact ⟨0, Nat.zero_le _, rfl, B4⟩
  case round =>
    clear B4
    obtain ⟨j, hj, rfl, BJ⟩ := hrel
    by_cases hlt : j < 16
    · have HJ := hid hlt
      have HA := hid (ahead_any j hlt wr)
      have hm : (j + 4 * (j % 4)) % 16 < 16 := Nat.mod_lt _ (by decide)
      have BN := hid (BJ.out.set 0 rfl j (gb b ((j + 4 * (j % 4)) % 16)))
      rw [upto_set 16 (fun i => gb b ((i + 4 * (i % 4)) % 16))] at BN
      generalize (j + 4 * (j % 4)) % 16 = m at *
      have hc := BJ.out.cell 2 rfl m (by rw [HB.out]; exact hm)
      have hc0 := BJ.out.cell 0 rfl j (by rw [upto_length]; exact HJ.out)
      have hf := BJ.out.frozen 0 rfl j
      generalize gb b m = y at *
      go_wp2_with fail
      refine HA.out.mono ?_
      rintro e w2 ⟨rfl, rfl⟩
      go_wp2
      go_roundw
      case rel => exact ⟨j + 1, by omega, by go_num, BN⟩
      case measure => simp [intOf]; omega
    · obtain rfl : j = 16 := by omega
      rw [upto_all] at BJ
      have hl2 := ld_all (l := tn b) (BJ.out.bt 0 rfl) 51 _ Tryz.underlying51 rfl 16 (tn_length b) st16
      have hs2 := st_all (BJ.out.bt 1 rfl) 51 (tn b) 16 (tn_length b) (by simp) st16
      have hrow := BJ.out.row 1 rfl (tn b)
      have HZ2 := hid (hrow.bt 1 rfl)
      have HB2 := hid hrow.below
      clear hrow
      unfold Bt at HZ2
      generalize hz : (bvs (tn b)).toArray = z at *
      have HZ := hid hz
      have HI := hid (p := (Tryz.prog.info? 51).map (·.size) = some z.size) (by rw [← hz, bsz, tn_length b]; exact st16)
      clear hz
      go_wp2_with (first | ((with_reducible refine isD 15 rfl ?_); refine wp_ld (by kernel_rfl) 51 (.tmp 3) rfl _ rfl _ hl2 ?_) | ((with_reducible refine isS 51 (.tmp 2) (.tmp 15) rfl ?_); refine wp_st (by kernel_rfl) 51 (.tmp 2) (.tmp 15) rfl _ _ rfl rfl hs2 ?_))
      exact bodyPost_ret (v := .agg z) (results_cell_row (p := 2) (ty := 51) Tryz.results72 _ _ _ 51 z (0, 0) _ rfl HZ2.out Tryz.underlying51 rfl HI.out) rfl ⟨by rw [HZ.out], HB2.out⟩
/-- the first j bytes put where they belong, back -/
def ntk (b : List UInt8) (j : Nat) : List UInt8 := tab 16 fun i => if (i + 12 * (i % 4)) % 16 < j then gb b ((i + 12 * (i % 4)) % 16) else 0
theorem ntk_length (b : List UInt8) (j : Nat) : (ntk b j).length = 16 := tab_length _ _
theorem ntk_none (b : List UInt8) : List.replicate 16 0 = ntk b 0 := by
  refine list_gb _ _ (by rw [ntk_length]; simp) fun i hi => ?_
  have hi' : i < 16 := by simpa using hi
  rw [ntk, gb_tab _ _ _ hi', if_neg (by omega), gb_lt hi, List.getElem_replicate]
theorem ntk_all (b : List UInt8) : ntk b 16 = nt b := tab_congr _ _ _ fun i hi => if_pos (Nat.mod_lt _ (by decide))
theorem ntk_set (b : List UInt8) (j : Nat) (hj : j < 16) : (ntk b j).set ((j + 4 * (j % 4)) % 16) (gb b j) = ntk b (j + 1) := by
  unfold ntk
  rw [tab_set]
  refine tab_congr _ _ _ fun i hi => ?_
  by_cases h : i = (j + 4 * (j % 4)) % 16
  · have e : (i + 12 * (i % 4)) % 16 = j := by omega
    rw [if_pos h, e, if_pos (by omega)]
  · have e : (i + 12 * (i % 4)) % 16 ≠ j := by omega
    rw [if_neg h]
    by_cases h2 : (i + 12 * (i % 4)) % 16 < j
    · rw [if_pos h2, if_pos (by omega)]
    · rw [if_neg h2, if_neg (by omega)]
set_option maxRecDepth 100000 in
set_option maxHeartbeats 4000000 in
theorem turnedBack_any (b : List UInt8) (w : World) (hb : b.length = 16) :
    Calls Tryz.prog 108 #[.agg (bvs b).toArray] w fun e w' => e = .returned (.agg (bvs (nt b)).toArray) ∧ Below w.heap.size w w' := by
  have HB := hid hb
  clear hb
  have B3 := hid (bx3 w 51 51 51 b (List.replicate 16 0) (List.replicate 16 0))
  go_enter Tryz.func108, Tryz.ntmps108
  go_upto_region 2 with fail
  rw [← z16]
  generalize ((w.alloc (.cells (bvs b).toArray 51)).alloc (.cells (bvs (List.replicate 16 0)).toArray 51)).alloc (.cells (bvs (List.replicate 16 0)).toArray 51) = w1 at *
  have B4 := hid (p := Bx w [(w.heap.size + 1 + 1, 51, ntk b 0), (w.heap.size + 1, 51, List.replicate 16 0), (w.heap.size, 51, b)] w1) (by rw [← ntk_none]; exact B3.out)
  have hld := ld_all (B3.out.bt 2 rfl) 51 _ Tryz.underlying51 rfl 16 HB.out st16
  have HIX := hid (ix_any 51 16 Tryz.underlying51 b HB.out)
  clear B3
  go_wp2_with (((with_reducible refine isD 6 rfl ?_); refine wp_ld (by kernel_rfl) 51 (.tmp 1) rfl _ rfl _ hld ?_))
  clear hld
  go_loopw [7] (fun i wr => ∃ j : Nat, j ≤ 16 ∧ i = .int .i64 j ∧ Hid (Bx w [(w.heap.size + 1 + 1, 51, ntk b j), (w.heap.size + 1, 51, List.replicate 16 0), (w.heap.size, 51, b)] wr)) (fun i _ => 16 - (intOf i).toNat)
  case atStart => exact ⟨0, Nat.zero_le _, rfl, B4⟩
  case round =>
    clear B4
    obtain ⟨j, hj, rfl, BJ⟩ := hrel
    by_cases hlt : j < 16
    · have HJ := hid hlt
      have hxj := HIX.out j HJ.out
      have HA := hid (ahead_any j hlt wr)
      have hm : (j + 4 * (j % 4)) % 16 < 16 := Nat.mod_lt _ (by decide)
      have BN := hid (BJ.out.set 0 rfl ((j + 4 * (j % 4)) % 16) (gb b j))
      rw [ntk_set b j HJ.out] at BN
      generalize (j + 4 * (j % 4)) % 16 = m at *
      have hc0 := BJ.out.cell 0 rfl m (by rw [ntk_length]; exact hm)
      have hf := BJ.out.frozen 0 rfl m
      go_wp2_with fail
      refine HA.out.mono ?_
      rintro e w2 ⟨rfl, rfl⟩
      go_wp2
      go_roundw
      case rel => exact ⟨j + 1, by omega, by go_num, BN⟩
      case measure => simp [intOf]; omega
    · obtain rfl : j = 16 := by omega
      rw [ntk_all] at BJ
      have hl2 := ld_all (l := nt b) (BJ.out.bt 0 rfl) 51 _ Tryz.underlying51 rfl 16 (nt_length b) st16
      have hs2 := st_all (BJ.out.bt 1 rfl) 51 (nt b) 16 (nt_length b) (by simp) st16
      have hrow := BJ.out.row 1 rfl (nt b)
      have HZ2 := hid (hrow.bt 1 rfl)
      have HB2 := hid hrow.below
      clear hrow
      unfold Bt at HZ2
      generalize hz : (bvs (nt b)).toArray = z at *
      have HZ := hid hz
      have HI := hid (p := (Tryz.prog.info? 51).map (·.size) = some z.size) (by rw [← hz, bsz, nt_length b]; exact st16)
      clear hz
      go_wp2_with (first | ((with_reducible refine isD 16 rfl ?_); refine wp_ld (by kernel_rfl) 51 (.tmp 3) rfl _ rfl _ hl2 ?_) | ((with_reducible refine isS 51 (.tmp 2) (.tmp 16) rfl ?_); refine wp_st (by kernel_rfl) 51 (.tmp 2) (.tmp 16) rfl _ _ rfl rfl hs2 ?_))
      exact bodyPost_ret (v := .agg z) (results_cell_row (p := 2) (ty := 51) Tryz.results108 _ _ _ 51 z (0, 0) _ rfl HZ2.out Tryz.underlying51 rfl HI.out) rfl ⟨by rw [HZ.out], HB2.out⟩
end Go.Proofs.YtbccnkjfjlmflaaGreatDoor
