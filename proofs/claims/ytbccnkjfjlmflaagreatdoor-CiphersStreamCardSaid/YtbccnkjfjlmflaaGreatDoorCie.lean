/-
  ciphers.mixed, mixedBack, walked. Conditions: none.
-/
import Derived.Test.YtbccnkjfjlmflaaGreatDoorCid
import Derived.Test.YtbccnkjfjlmflaaGreatDoorOrdT
import Derived.Deep.RegionWith
import Derived.BigQuiet
namespace Go.Proofs.YtbccnkjfjlmflaaGreatDoor
open Go.RowKit
set_option linter.unusedVariables false
set_option linter.unusedSimpArgs false

set_option maxRecDepth 100000 in
set_option maxHeartbeats 4000000 in
theorem mixed_any (b : List UInt8) (w : World) (hb : b.length = 16) :
    Calls Tryz.prog 74 #[.agg (bvs b).toArray] w fun e w' => e = .returned (.agg (bvs (mixc b)).toArray) ∧ Below w.heap.size w w' := by
  have HB := hid hb
  clear hb
  have B3 := hid (bx2 w 51 51 b (List.replicate 16 0))
  go_enter Tryz.func74, Tryz.ntmps74
  go_upto_region 1 with fail
  rw [← z16]
  generalize (w.alloc (.cells (bvs b).toArray 51)).alloc (.cells (bvs (List.replicate 16 0)).toArray 51) = w1 at *
  have B4 := hid (p := Bx w [(w.heap.size + 1, 51, List.replicate 16 0), (w.heap.size, 51, mxc b 0)] w1) (by rw [mxc_none _ HB.out]; exact B3.out)
  clear B3
  go_wp2_with fail
  go_loopw [3] (fun i wr => ∃ c : Nat, c ≤ 4 ∧ i = .int .i64 ((4 * c : Nat) : Int) ∧ Hid (Bx w [(w.heap.size + 1, 51, List.replicate 16 0), (w.heap.size, 51, mxc b c)] wr)) (fun i _ => 16 - (intOf i).toNat)
  case atStart => exact ⟨0, Nat.zero_le _, rfl, B4⟩
  case round =>
    clear B4
    obtain ⟨c, hc, rfl, BJ⟩ := hrel
    by_cases hlt : c < 4
    · have HC := hid hlt
      have HS := hid (mxc_step b c hlt _ _ _ _ rfl rfl rfl rfl)
      have c0 := BJ.out.cell 1 rfl (4 * c) (by rw [mxc_length]; omega)
      have c1 := BJ.out.cell 1 rfl (4 * c + 1) (by rw [mxc_length]; omega)
      have c2 := BJ.out.cell 1 rfl (4 * c + 2) (by rw [mxc_length]; omega)
      have c3 := BJ.out.cell 1 rfl (4 * c + 3) (by rw [mxc_length]; omega)
      rw [mxc_at b c _ (by omega) (by omega)] at c0 c1 c2 c3
      generalize gb b (4 * c) = p0 at *
      generalize gb b (4 * c + 1) = p1 at *
      generalize gb b (4 * c + 2) = p2 at *
      generalize gb b (4 * c + 3) = p3 at *
      have h16 : 4 * c < 13 := by omega
      have HM := hid (show 4 * (c + 1) = 4 * c + 4 by omega)
      generalize hk : 4 * c = k at *
      clear hk
      have hk1 : IntKind.i64.wrap ((k : Int) + 1) = ((k + 1 : Nat) : Int) := by rw [IntKind.wrap_i64]; omega
      have hk2 : IntKind.i64.wrap ((k : Int) + 2) = ((k + 2 : Nat) : Int) := by rw [IntKind.wrap_i64]; omega
      have hk3 : IntKind.i64.wrap ((k : Int) + 3) = ((k + 3 : Nat) : Int) := by rw [IntKind.wrap_i64]; omega
      go_wp2
      go_quiet (fail)
      have BJ2 := hid (BJ.out.drewN nq)
      clear BJ c0 c1 c2 c3
      generalize wr.drewN nq = w2 at *
      have c0 := BJ2.out.cell 1 rfl k (by rw [mxc_length]; omega)
      have c1 := BJ2.out.cell 1 rfl (k + 1) (by rw [mxc_length]; omega)
      have c2 := BJ2.out.cell 1 rfl (k + 2) (by rw [mxc_length]; omega)
      have c3 := BJ2.out.cell 1 rfl (k + 3) (by rw [mxc_length]; omega)
      have hf := BJ2.out.frozen 1 rfl
      have b1 := BJ2.out.drew.set 1 rfl k (mx p0 p1 p2 p3)
      have b2 := b1.set 1 rfl (k + 1) (mx p1 p2 p3 p0)
      have b3 := b2.set 1 rfl (k + 2) (mx p2 p3 p0 p1)
      have BN := hid (b3.set 1 rfl (k + 3) (mx p3 p0 p1 p2))
      rw [HS.out] at BN
      clear b1 b2 b3 BJ2 HS
      go_wp2_with fail
      go_region_with (first | (go_at_call 112; refine (mix_any _ _ _ _ _).mono ?_; rintro e w3 ⟨rfl, rfl⟩))
      go_wp2
      go_roundw
      case rel => exact ⟨c + 1, by omega, by rw [HM.out]; go_num, BN⟩
      case measure => simp [intOf]; omega
    · obtain rfl : c = 4 := by omega
      rw [mxc_all] at BJ
      have hl2 := ld_all (l := mixc b) (BJ.out.bt 1 rfl) 51 _ Tryz.underlying51 rfl 16 (mixc_length b) st16
      have hs2 := st_all (BJ.out.bt 0 rfl) 51 (mixc b) 16 (mixc_length b) (by simp) st16
      have hrow := BJ.out.row 0 rfl (mixc b)
      have HZ2 := hid (hrow.bt 0 rfl)
      have HB2 := hid hrow.below
      clear hrow
      unfold Bt at HZ2
      generalize hz : (bvs (mixc b)).toArray = z at *
      have HZ := hid hz
      have HI := hid (p := (Tryz.prog.info? 51).map (·.size) = some z.size) (by rw [← hz, bsz, mixc_length b]; exact st16)
      clear hz
      go_wp2_with (first | ((with_reducible refine isD 58 rfl ?_); refine wp_ld (by kernel_rfl) 51 (.tmp 1) rfl _ rfl _ hl2 ?_) | ((with_reducible refine isS 51 (.tmp 2) (.tmp 58) rfl ?_); refine wp_st (by kernel_rfl) 51 (.tmp 2) (.tmp 58) rfl _ _ rfl rfl hs2 ?_))
      exact bodyPost_ret (v := .agg z) (results_cell_row (p := 2) (ty := 51) Tryz.results74 _ _ _ 51 z (0, 0) _ rfl HZ2.out Tryz.underlying51 rfl HI.out) rfl ⟨by rw [HZ.out], HB2.out⟩
end Go.Proofs.YtbccnkjfjlmflaaGreatDoor
