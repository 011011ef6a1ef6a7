/-
  ciphers.substitutes, undoing, walked. Conditions: none.
-/
import Derived.Test.YtbccnkjfjlmflaaGreatDoorCig
namespace Go.Proofs.YtbccnkjfjlmflaaGreatDoor
open Go.RowKit
set_option linter.unusedVariables false
set_option linter.unusedSimpArgs false

/-- 256, 255 noughts -/
theorem z256E : Tryz.zeroCells49 = (bvs (List.replicate 256 0)).toArray := by kernel_rfl
theorem z255E : Tryz.zeroCells62 = (bvs (List.replicate 255 0)).toArray := by kernel_rfl
theorem pw255 : (Tryz.prog.info? 62).map (·.size) = some 255 := by kernel_rfl
/-- three times; the powers of three -/
def x3 (a : UInt8) : UInt8 := a ^^^ xt a
def pw : Nat → UInt8
  | 0 => 1
  | n + 1 => x3 (pw n)
/-- the first n of them -/
def pws (n : Nat) : List UInt8 := upto 255 pw (List.replicate 255 0) n
/-- S of 0, and of the first n powers -/
def sk : Nat → List UInt8
  | 0 => 99 :: List.replicate 255 0
  | n + 1 => (sk n).set (pw n).toNat (sm (pw ((255 - n) % 255)))
theorem sk_length (n : Nat) : (sk n).length = 256 := by
  induction n with
  | zero => rw [sk, List.length_cons, List.length_replicate]
  | succ n ih => rw [sk, List.length_set, ih]
theorem sk_all : sk 255 = SB := eq_of_beq (by kernel_rfl)
theorem pws_at (n i : Nat) (hi : i < 255) (h : i < n) : gb (pws n) i = pw i := by rw [pws, upto, gb_tab _ _ _ hi, if_pos h]
/-- what the first n bytes were -/
def uk : Nat → List UInt8
  | 0 => List.replicate 256 0
  | n + 1 => (uk n).set (gb SB n).toNat (UInt8.ofNat n)
theorem uk_length (n : Nat) : (uk n).length = 256 := by
  induction n with
  | zero => rw [uk, List.length_replicate]
  | succ n ih => rw [uk, List.length_set, ih]
theorem uk_all : uk 256 = IB := eq_of_beq (by kernel_rfl)
theorem zset (v : UInt8) : Tryz.zeroCells49.setIfInBounds 0 (bv v) = (bvs (v :: List.replicate 255 0)).toArray := by
  rw [z256E, List.replicate_succ, List.setIfInBounds_toArray]
  generalize List.replicate 255 (0 : UInt8) = r
  rfl
set_option maxRecDepth 100000 in
set_option maxHeartbeats 4000000 in
theorem substitutes_any (w : World) :
    Calls Tryz.prog 14 #[] w fun e w' => e = .returned (.agg (bvs SB).toArray) ∧ Below w.heap.size w w' := by
  go_enter Tryz.func14, Tryz.ntmps14
  go_upto_region 2 with fail
  have B2 := hid (p := Bx w [(w.heap.size + 1, 62, pws 0), (w.heap.size, 49, List.replicate 256 0)] ((w.alloc (.cells Tryz.zeroCells49 49)).alloc (.cells Tryz.zeroCells62 62))) (by rw [pws, upto_none _ _ _ (by simp), z256E, z255E]; exact bx2 w 49 62 (List.replicate 256 0) (List.replicate 255 0))
  generalize (w.alloc (.cells Tryz.zeroCells49 49)).alloc (.cells Tryz.zeroCells62 62) = w1 at *
  go_wp2_with fail
  go_loopw [2, 7] (fun x i wr => ∃ j : Nat, j ≤ 255 ∧ i = .int .i64 j ∧ x = bv (pw j) ∧ Hid (Bx w [(w.heap.size + 1, 62, pws j), (w.heap.size, 49, List.replicate 256 0)] wr)) (fun _ i _ => 255 - (intOf i).toNat)
  case atStart => exact ⟨0, Nat.zero_le _, rfl, rfl, B2⟩
  case round =>
    clear B2
    obtain ⟨j, hj, rfl, rfl, BJ⟩ := hrel
    by_cases hlt : j < 255
    · have HJ := hid hlt
      have hc := BJ.out.cell 0 rfl j (by rw [pws, upto_length]; exact hlt)
      have hf := BJ.out.frozen 0 rfl j
      have BN := hid (BJ.out.set 0 rfl j (pw j))
      rw [show (pws j).set j (pw j) = pws (j + 1) from upto_set 255 pw _ j] at BN
      have HX := hid (p := x3 (pw j) = pw (j + 1)) rfl
      have hx := xor_u8 (pw j) (xt (pw j))
      generalize pw j = p at *
      go_upto_region 7 with fail
      clear hc hf BJ
      generalize wr.setCell ⟨w.heap.size + 1, j, none⟩ (bv p) = w2 at *
      go_wp2_with fail
      refine (twice_any p w2).mono ?_
      rintro e w3 ⟨rfl, rfl⟩
      go_wp2
      go_roundw
      case rel => exact ⟨j + 1, by omega, by go_num, by rw [← HX.out]; rfl, BN⟩
      case measure => simp [intOf]; omega
    · obtain rfl : j = 255 := by omega
      have B3 := hid (p := Bx w ((wr.heap.size, 49, List.replicate 256 0) :: [(w.heap.size + 1, 62, pws 255), (w.heap.size, 49, List.replicate 256 0)]) (wr.alloc (.cells Tryz.zeroCells49 49))) (by rw [z256E]; exact BJ.out.add 49 (List.replicate 256 0))
      have hst := st_all (B3.out.bt 0 rfl) 49 (sk 0) 256 rfl (by simp) tb256
      have B4 := hid (B3.out.row 0 rfl (sk 0))
      rw [show (bvs (sk 0)).toArray = Tryz.zeroCells49.setIfInBounds 0 (.int .u8 99) from (zset 99).symm] at hst B4
      go_upto_region 10 with (((with_reducible refine isS 49 (.tmp 4) (.tmp 18) rfl ?_); refine wp_st (by kernel_rfl) 49 (.tmp 4) (.tmp 18) rfl _ _ rfl rfl hst ?_))
      have B5 := hid (p := Bx w [(wr.heap.size, 49, sk 0), (w.heap.size + 1, 62, pws 255), (w.heap.size, 49, List.replicate 256 0)] ((wr.alloc (.cells Tryz.zeroCells49 49)).setRow wr.heap.size (Tryz.zeroCells49.setIfInBounds 0 (.int .u8 99)))) B4.out
      clear B3 B4 hst
      generalize (wr.alloc (.cells Tryz.zeroCells49 49)).setRow wr.heap.size (Tryz.zeroCells49.setIfInBounds 0 (.int .u8 99)) = w2 at *
      generalize wr.heap.size = g at *
      have hld := ld_all (B5.out.bt 1 rfl) 62 _ Tryz.underlying62 rfl 255 (upto_length _ _ _ _) pw255
      have HIX := hid (ix_any 62 255 Tryz.underlying62 (pws 255) (upto_length _ _ _ _))
      clear BJ
      go_wp2_with (((with_reducible refine isD 19 rfl ?_); refine wp_ld (by kernel_rfl) 62 (.tmp 1) rfl _ rfl _ hld ?_))
      clear hld
      go_loopw [20] (fun i wr => ∃ j : Nat, j ≤ 255 ∧ i = .int .i64 j ∧ Hid (Bx w [(g, 49, sk j), (w.heap.size + 1, 62, pws 255), (w.heap.size, 49, List.replicate 256 0)] wr)) (fun i _ => 255 - (intOf i).toNat)
      case atStart => exact ⟨0, Nat.zero_le _, rfl, B5⟩
      case round =>
        clear B5
        obtain ⟨j, hj, rfl, BJ⟩ := hrel
        by_cases hlt : j < 255
        · have HJ := hid hlt
          have hxj := HIX.out j HJ.out
          rw [pws_at _ _ hlt hlt] at hxj
          obtain ⟨m, hm⟩ : ∃ m, m = (255 - j) % 255 := ⟨_, rfl⟩
          have hm2 : m < 255 := by omega
          have hmi : ((255 : Int) - (j : Int)) % 255 = (m : Int) := by omega
          have BN := hid (BJ.out.set 0 rfl (pw j).toNat (sm (pw m)))
          rw [show (sk j).set (pw j).toNat (sm (pw m)) = sk (j + 1) by rw [hm]; rfl] at BN
          clear hm
          have hc := BJ.out.cell 1 rfl m (by rw [pws, upto_length]; exact hm2)
          rw [pws_at _ _ hm2 hm2] at hc
          have hc0 : wr.cell? ⟨g, (iv (pw j)).toNat, none⟩ = some (bv (gb (sk j) (pw j).toNat)) := BJ.out.cell 0 rfl (pw j).toNat (by rw [sk_length]; exact (pw j).toNat_lt)
          have hf : wr.frozen? ⟨g, (iv (pw j)).toNat, none⟩ = false := BJ.out.frozen 0 rfl _
          have h0 := iv_ge (pw j)
          have h1 := iv_lt (pw j)
          have BN2 := hid (p := Bx w [(g, 49, sk (j + 1)), (w.heap.size + 1, 62, pws 255), (w.heap.size, 49, List.replicate 256 0)] (wr.setCell ⟨g, (iv (pw j)).toNat, none⟩ (bv (sm (pw m))))) BN.out
          clear BN
          generalize gb (sk j) (pw j).toNat = old at *
          generalize pw m = q at *
          generalize pw j = p at *
          go_wp2_with fail
          refine (smeared_any q wr).mono ?_
          rintro e w3 ⟨rfl, rfl⟩
          go_wp2
          go_roundw
          case rel => exact ⟨j + 1, by omega, by go_num, BN2⟩
          case measure => simp [intOf]; omega
        · obtain rfl : j = 255 := by omega
          rw [sk_all] at BJ
          have hl2 := ld_all (l := SB) (BJ.out.bt 0 rfl) 49 _ Tryz.underlying49 rfl 256 (rfl) tb256
          have hs2 := st_all (BJ.out.bt 2 rfl) 49 (SB) 256 (rfl) (by simp) tb256
          have hrow := BJ.out.row 2 rfl (SB)
          have HZ2 := hid (hrow.bt 2 rfl)
          have HB2 := hid hrow.below
          clear hrow
          unfold Bt at HZ2
          generalize hz : (bvs (SB)).toArray = z at *
          have HZ := hid hz
          have HI := hid (p := (Tryz.prog.info? 49).map (·.size) = some z.size) (by rw [← hz, bsz, (show (SB).length = 256 from rfl)]; exact tb256)
          clear hz
          go_wp2_with (first | ((with_reducible refine isD 33 rfl ?_); refine wp_ld (by kernel_rfl) 49 (.tmp 4) rfl _ rfl _ hl2 ?_) | ((with_reducible refine isS 49 (.tmp 0) (.tmp 33) rfl ?_); refine wp_st (by kernel_rfl) 49 (.tmp 0) (.tmp 33) rfl _ _ rfl rfl hs2 ?_))
          exact bodyPost_ret (v := .agg z) (results_cell_row (p := 0) (ty := 49) Tryz.results14 _ _ _ 49 z (0, 0) _ rfl HZ2.out Tryz.underlying49 rfl HI.out) rfl ⟨by rw [HZ.out], HB2.out⟩
set_option maxRecDepth 100000 in
set_option maxHeartbeats 4000000 in
theorem undoing_any (w : World) :
    Calls Tryz.prog 66 #[.agg (bvs SB).toArray] w fun e w' => e = .returned (.agg (bvs IB).toArray) ∧ Below w.heap.size w w' := by
  go_enter Tryz.func66, Tryz.ntmps66
  go_upto_region 2 with fail
  have B3 := hid (p := Bx w [(w.heap.size + 1 + 1, 49, uk 0), (w.heap.size + 1, 49, List.replicate 256 0), (w.heap.size, 49, SB)] (((w.alloc (.cells (bvs SB).toArray 49)).alloc (.cells Tryz.zeroCells49 49)).alloc (.cells Tryz.zeroCells49 49))) (by rw [z256E]; exact bx3 w 49 49 49 SB (List.replicate 256 0) (List.replicate 256 0))
  generalize ((w.alloc (.cells (bvs SB).toArray 49)).alloc (.cells Tryz.zeroCells49 49)).alloc (.cells Tryz.zeroCells49 49) = w1 at *
  have hld := ld_all (B3.out.bt 2 rfl) 49 _ Tryz.underlying49 rfl 256 rfl tb256
  have HIX := hid (ix_any 49 256 Tryz.underlying49 SB rfl)
  go_wp2_with (((with_reducible refine isD 6 rfl ?_); refine wp_ld (by kernel_rfl) 49 (.tmp 1) rfl _ rfl _ hld ?_))
  clear hld
  go_loopw [7] (fun i wr => ∃ j : Nat, j ≤ 256 ∧ i = .int .i64 j ∧ Hid (Bx w [(w.heap.size + 1 + 1, 49, uk j), (w.heap.size + 1, 49, List.replicate 256 0), (w.heap.size, 49, SB)] wr)) (fun i _ => 256 - (intOf i).toNat)
  case atStart => exact ⟨0, Nat.zero_le _, rfl, B3⟩
  case round =>
    clear B3
    obtain ⟨j, hj, rfl, BJ⟩ := hrel
    by_cases hlt : j < 256
    · have HJ := hid hlt
      have hxj := HIX.out j HJ.out
      have BN := hid (BJ.out.set 0 rfl (gb SB j).toNat (UInt8.ofNat j))
      have hw : (j : Int) % 256 = (j : Int) := by omega
      have hc0 : wr.cell? ⟨w.heap.size + 1 + 1, (iv (gb SB j)).toNat, none⟩ = some (bv (gb (uk j) (gb SB j).toNat)) := BJ.out.cell 0 rfl (gb SB j).toNat (by rw [uk_length]; exact (gb SB j).toNat_lt)
      have hf : wr.frozen? ⟨w.heap.size + 1 + 1, (iv (gb SB j)).toNat, none⟩ = false := BJ.out.frozen 0 rfl _
      have h0 := iv_ge (gb SB j)
      have h1 := iv_lt (gb SB j)
      have BN2 := hid (p := Bx w [(w.heap.size + 1 + 1, 49, uk (j + 1)), (w.heap.size + 1, 49, List.replicate 256 0), (w.heap.size, 49, SB)] (wr.setCell ⟨w.heap.size + 1 + 1, (iv (gb SB j)).toNat, none⟩ (.int .u8 (j : Int)))) (by rw [← iv_of j hlt]; exact BN.out)
      clear BN
      generalize gb (uk j) (gb SB j).toNat = old at *
      generalize gb SB j = q at *
      go_wp2
      go_roundw
      case rel => exact ⟨j + 1, by omega, by go_num, BN2⟩
      case measure => simp [intOf]; omega
    · obtain rfl : j = 256 := by omega
      rw [uk_all] at BJ
      have hl2 := ld_all (l := IB) (BJ.out.bt 0 rfl) 49 _ Tryz.underlying49 rfl 256 (rfl) tb256
      have hs2 := st_all (BJ.out.bt 1 rfl) 49 (IB) 256 (rfl) (by simp) tb256
      have hrow := BJ.out.row 1 rfl (IB)
      have HZ2 := hid (hrow.bt 1 rfl)
      have HB2 := hid hrow.below
      clear hrow
      unfold Bt at HZ2
      generalize hz : (bvs (IB)).toArray = z at *
      have HZ := hid hz
      have HI := hid (p := (Tryz.prog.info? 49).map (·.size) = some z.size) (by rw [← hz, bsz, (show (IB).length = 256 from rfl)]; exact tb256)
      clear hz
      go_wp2_with (first | ((with_reducible refine isD 16 rfl ?_); refine wp_ld (by kernel_rfl) 49 (.tmp 3) rfl _ rfl _ hl2 ?_) | ((with_reducible refine isS 49 (.tmp 2) (.tmp 16) rfl ?_); refine wp_st (by kernel_rfl) 49 (.tmp 2) (.tmp 16) rfl _ _ rfl rfl hs2 ?_))
      exact bodyPost_ret (v := .agg z) (results_cell_row (p := 2) (ty := 49) Tryz.results66 _ _ _ 49 z (0, 0) _ rfl HZ2.out Tryz.underlying49 rfl HI.out) rfl ⟨by rw [HZ.out], HB2.out⟩
end Go.Proofs.YtbccnkjfjlmflaaGreatDoor
