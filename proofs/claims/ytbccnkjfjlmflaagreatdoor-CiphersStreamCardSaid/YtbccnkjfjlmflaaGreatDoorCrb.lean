/-
  burrowref09.box, NewBox, walked. Conditions: none.
-/
import Derived.Test.YtbccnkjfjlmflaaGreatDoorCra
namespace Go.Proofs.YtbccnkjfjlmflaaGreatDoor
open Go.RowKit
set_option linter.unusedVariables false
set_option linter.unusedSimpArgs false

theorem z256rE : Tryz.zeroCells48 = (bvs (List.replicate 256 0)).toArray := by kernel_rfl
theorem ra256 : (Tryz.prog.info? 48).map (·.size) = some 256 := by kernel_rfl
/-- S of byte i -/
def sbi (i : Nat) : UInt8 := sbb (UInt8.ofNat i)
theorem SB_len : SB.length = 256 := by kernel_rfl
theorem sbi_all (old : List UInt8) : upto 256 sbi old 256 = SB := by
  rw [upto_all]
  refine tab_eq 256 sbi SB SB_len fun i hi => ?_
  rw [sbi, ← sb_at, UInt8.toNat_ofNat_of_lt' hi]
theorem times_at (a b : UInt8) (x y : Int) (hx : iv a = x) (hy : iv b = y) (w : World) : Calls Tryz.prog 77 #[.int .u8 x, .int .u8 y] w fun e w' => e = .returned (bv (tm a b)) ∧ w = w' := by
  subst hx; subst hy; exact times_any a b w
theorem ofNat_ne (i : Nat) (h : 0 < i) (hi : i < 256) : UInt8.ofNat i ≠ 0 := fun e => by
  have := congrArg UInt8.toNat e
  rw [UInt8.toNat_ofNat_of_lt' hi] at this
  have h0 : (0 : UInt8).toNat = 0 := rfl
  omega
set_option maxRecDepth 100000 in
set_option maxHeartbeats 4000000 in
theorem box_any (w : World) : Calls Tryz.prog 75 #[] w fun e w' => e = .returned (.agg (bvs SB).toArray) ∧ Below w.heap.size w w' := by
  have B2 := hid (p := Bx w [(w.heap.size + 1, 48, upto 256 sbi (List.replicate 256 0) 0), (w.heap.size, 48, List.replicate 256 0)] ((w.alloc (.cells Tryz.zeroCells48 48)).alloc (.cells Tryz.zeroCells48 48))) (by rw [upto_none _ _ _ (by simp), z256rE]; exact bx2 w 48 48 (List.replicate 256 0) (List.replicate 256 0))
  go_enter Tryz.func75, Tryz.ntmps75
  go_upto_region 2 with fail
  generalize (w.alloc (.cells Tryz.zeroCells48 48)).alloc (.cells Tryz.zeroCells48 48) = w1 at *
  go_wp2_with fail
  go_loopw [2] (fun i wr => ∃ j : Nat, j ≤ 256 ∧ i = .int .i64 j ∧ Hid (Bx w [(w.heap.size + 1, 48, upto 256 sbi (List.replicate 256 0) j), (w.heap.size, 48, List.replicate 256 0)] wr)) (fun i _ => 256 - (intOf i).toNat)
  case atStart => exact ⟨0, Nat.zero_le _, rfl, B2⟩
  case round =>
    clear B2
    obtain ⟨j, hj, rfl, BJ⟩ := hrel
    by_cases hlt : j < 256
    · have HJ := hid hlt
      go_upto_region 6 with fail
      go_wp2_with fail
      rw [show decide ((j : Int) < 256) = true from decide_eq_true (by omega)]
      go_loopw [3, 4] (fun y i wr => ∃ k : Nat, 1 ≤ k ∧ k ≤ 256 ∧ i = .int .i64 k ∧ y = .int .u8 0 ∧ Hid (∀ k', 1 ≤ k' → k' < k → 0 < j → tm (UInt8.ofNat j) (UInt8.ofNat k') ≠ 1) ∧ Hid (Bx w [(w.heap.size + 1, 48, upto 256 sbi (List.replicate 256 0) j), (w.heap.size, 48, List.replicate 256 0)] wr)) (fun _ i _ => 256 - (intOf i).toNat)
      case atStart => exact ⟨1, Nat.le_refl _, by decide, rfl, rfl, hid (fun k' h1 h2 => by omega), BJ⟩
      case round =>
        clear BJ
        obtain ⟨k, hk1, hk, rfl, rfl, HN, BI⟩ := hrel
        by_cases hj0 : 0 < j
        · have hji : (0 : Int) < (j : Int) := by omega
          have HNE := hid (ofNat_ne j hj0 hlt)
          by_cases hk2 : k < 256
          · have HK1 := hid hk1
            have HK2 := hid hk2
            have e1 : iv (UInt8.ofNat j) = (j : Int) := iv_of j hlt
            have e2 : iv (UInt8.ofNat k) = (k : Int) := iv_of k hk2
            have HT := hid (times_at (UInt8.ofNat j) (UInt8.ofNat k) (j : Int) (k : Int) e1 e2)
            by_cases hone : tm (UInt8.ofNat j) (UInt8.ofNat k) = 1
            · have HY := hid (p := UInt8.ofNat k = yb (UInt8.ofNat j)) ((tm_is_one _ _ HNE.out).1 hone)
              rw [hone] at HT
              have hi1 : iv 1 = 1 := rfl
              clear hone
              go_wp2_with fail
              refine (HT.out _).mono ?_
              rintro e v0 ⟨rfl, rfl⟩
              clear HT
              go_upto_region 11 with fail
              rw [← e2]
              clear e1 e2 HN hi1
              generalize UInt8.ofNat k = y at *
              have hc := BI.out.cell 0 rfl j (by rw [upto_length]; exact HJ.out)
              have hf := BI.out.frozen 0 rfl j
              have HS := hid (p := y ^^^ tl y 1 ^^^ tl y 2 ^^^ tl y 3 ^^^ tl y 4 ^^^ 99 = sbi j) (by rw [HY.out, sbi, sb_yb])
              have x1 := xor_u8 y (tl y 1)
              have x2 := xor_u8 (y ^^^ tl y 1) (tl y 2)
              have x3 := xor_u8 (y ^^^ tl y 1 ^^^ tl y 2) (tl y 3)
              have x4 := xor_u8 (y ^^^ tl y 1 ^^^ tl y 2 ^^^ tl y 3) (tl y 4)
              have x5 : bits .xor .u8 (iv (y ^^^ tl y 1 ^^^ tl y 2 ^^^ tl y 3 ^^^ tl y 4)) (99 : Int) = iv (y ^^^ tl y 1 ^^^ tl y 2 ^^^ tl y 3 ^^^ tl y 4 ^^^ 99) := xor_u8 _ 99
              rw [HS.out] at x5
              clear hc hf
              go_wp2_with fail
              refine (turn_1 y _).mono ?_
              rintro e v1 ⟨rfl, kk, rfl⟩
              have BI := hid (BI.out.drewN kk)
              generalize World.drewN _ kk = v1 at *
              go_wp2_with fail
              refine (turn_2 y _).mono ?_
              rintro e v2 ⟨rfl, kk, rfl⟩
              have BI := hid (BI.out.drewN kk)
              generalize World.drewN _ kk = v2 at *
              go_wp2_with fail
              refine (turn_3 y _).mono ?_
              rintro e v3 ⟨rfl, kk, rfl⟩
              have BI := hid (BI.out.drewN kk)
              generalize World.drewN _ kk = v3 at *
              go_wp2_with fail
              refine (turn_4 y _).mono ?_
              rintro e v4 ⟨rfl, kk, rfl⟩
              have BI := hid (BI.out.drewN kk)
              generalize World.drewN _ kk = v4 at *
              have hc := BI.out.cell 0 rfl j (by rw [upto_length]; exact HJ.out)
              have hf := BI.out.frozen 0 rfl j
              have BN := hid (BI.out.set 0 rfl j (sbi j))
              rw [upto_set 256 sbi] at BN
              have BN2 := hid (p := Bx w [(w.heap.size + 1, 48, upto 256 sbi (List.replicate 256 0) (j + 1)), (w.heap.size, 48, List.replicate 256 0)] _) BN.out
              clear BN
              go_wp2
              go_roundw
              case rel => exact ⟨j + 1, HJ.out, by go_num, BN2⟩
              case measure => simp [intOf]; omega

            · have hi1 : ¬ iv (tm (UInt8.ofNat j) (UInt8.ofNat k)) = 1 := fun e => hone (iv_inj e)
              have HN2 := hid (p := ∀ k', 1 ≤ k' → k' < k + 1 → 0 < j → tm (UInt8.ofNat j) (UInt8.ofNat k') ≠ 1) (fun k' h1 h2 h3 => by
                by_cases h : k' = k
                · subst h; exact hone
                · exact HN.out k' h1 (by omega) h3)
              clear hone e1 e2
              go_wp2_with fail
              refine (HT.out _).mono ?_
              rintro e v0 ⟨rfl, rfl⟩
              clear HT
              go_wp2
              go_roundw
              case rel => exact ⟨k + 1, by omega, by omega, by go_num, rfl, HN2, BI⟩
              case measure => simp [intOf]; omega
          · exfalso
            have hy := yb_ne _ HNE.out
            have h1 := (yb (UInt8.ofNat j)).toNat_lt
            have h2 : 1 ≤ (yb (UInt8.ofNat j)).toNat := by
              rcases Nat.eq_zero_or_pos (yb (UInt8.ofNat j)).toNat with h | h
              · exact absurd (UInt8.toNat.inj (by rw [h]; rfl)) hy
              · exact h
            refine HN.out _ h2 (by omega) hj0 ?_
            rw [UInt8.ofNat_toNat]
            exact tm_yb _ HNE.out
        · have hji : ¬ (0 : Int) < (j : Int) := by omega
          obtain ⟨y, hy⟩ : ∃ y : UInt8, y = 0 := ⟨_, rfl⟩
          have HY := hid (p := y = yb (UInt8.ofNat j)) (by rw [show j = 0 by omega, hy]; exact yb_zero.symm)
          by_cases hk2 : (k : Int) < 256
          · go_upto_region 11 with fail
            have hz : Value.int .u8 0 = bv y := by rw [hy]; rfl
            rw [hz]
            clear hz hy hji
            have hc := BI.out.cell 0 rfl j (by rw [upto_length]; exact HJ.out)
            have hf := BI.out.frozen 0 rfl j
            have HS := hid (p := y ^^^ tl y 1 ^^^ tl y 2 ^^^ tl y 3 ^^^ tl y 4 ^^^ 99 = sbi j) (by rw [HY.out, sbi, sb_yb])
            have x1 := xor_u8 y (tl y 1)
            have x2 := xor_u8 (y ^^^ tl y 1) (tl y 2)
            have x3 := xor_u8 (y ^^^ tl y 1 ^^^ tl y 2) (tl y 3)
            have x4 := xor_u8 (y ^^^ tl y 1 ^^^ tl y 2 ^^^ tl y 3) (tl y 4)
            have x5 : bits .xor .u8 (iv (y ^^^ tl y 1 ^^^ tl y 2 ^^^ tl y 3 ^^^ tl y 4)) (99 : Int) = iv (y ^^^ tl y 1 ^^^ tl y 2 ^^^ tl y 3 ^^^ tl y 4 ^^^ 99) := xor_u8 _ 99
            rw [HS.out] at x5
            clear hc hf
            go_wp2_with fail
            refine (turn_1 y _).mono ?_
            rintro e v1 ⟨rfl, kk, rfl⟩
            have BI := hid (BI.out.drewN kk)
            generalize World.drewN _ kk = v1 at *
            go_wp2_with fail
            refine (turn_2 y _).mono ?_
            rintro e v2 ⟨rfl, kk, rfl⟩
            have BI := hid (BI.out.drewN kk)
            generalize World.drewN _ kk = v2 at *
            go_wp2_with fail
            refine (turn_3 y _).mono ?_
            rintro e v3 ⟨rfl, kk, rfl⟩
            have BI := hid (BI.out.drewN kk)
            generalize World.drewN _ kk = v3 at *
            go_wp2_with fail
            refine (turn_4 y _).mono ?_
            rintro e v4 ⟨rfl, kk, rfl⟩
            have BI := hid (BI.out.drewN kk)
            generalize World.drewN _ kk = v4 at *
            have hc := BI.out.cell 0 rfl j (by rw [upto_length]; exact HJ.out)
            have hf := BI.out.frozen 0 rfl j
            have BN := hid (BI.out.set 0 rfl j (sbi j))
            rw [upto_set 256 sbi] at BN
            have BN2 := hid (p := Bx w [(w.heap.size + 1, 48, upto 256 sbi (List.replicate 256 0) (j + 1)), (w.heap.size, 48, List.replicate 256 0)] _) BN.out
            clear BN
            go_wp2
            go_roundw
            case rel => exact ⟨j + 1, HJ.out, by go_num, BN2⟩
            case measure => simp [intOf]; omega

          · go_upto_region 11 with fail
            have hz : Value.int .u8 0 = bv y := by rw [hy]; rfl
            rw [hz]
            clear hz hy hji
            have hc := BI.out.cell 0 rfl j (by rw [upto_length]; exact HJ.out)
            have hf := BI.out.frozen 0 rfl j
            have HS := hid (p := y ^^^ tl y 1 ^^^ tl y 2 ^^^ tl y 3 ^^^ tl y 4 ^^^ 99 = sbi j) (by rw [HY.out, sbi, sb_yb])
            have x1 := xor_u8 y (tl y 1)
            have x2 := xor_u8 (y ^^^ tl y 1) (tl y 2)
            have x3 := xor_u8 (y ^^^ tl y 1 ^^^ tl y 2) (tl y 3)
            have x4 := xor_u8 (y ^^^ tl y 1 ^^^ tl y 2 ^^^ tl y 3) (tl y 4)
            have x5 : bits .xor .u8 (iv (y ^^^ tl y 1 ^^^ tl y 2 ^^^ tl y 3 ^^^ tl y 4)) (99 : Int) = iv (y ^^^ tl y 1 ^^^ tl y 2 ^^^ tl y 3 ^^^ tl y 4 ^^^ 99) := xor_u8 _ 99
            rw [HS.out] at x5
            clear hc hf
            go_wp2_with fail
            refine (turn_1 y _).mono ?_
            rintro e v1 ⟨rfl, kk, rfl⟩
            have BI := hid (BI.out.drewN kk)
            generalize World.drewN _ kk = v1 at *
            go_wp2_with fail
            refine (turn_2 y _).mono ?_
            rintro e v2 ⟨rfl, kk, rfl⟩
            have BI := hid (BI.out.drewN kk)
            generalize World.drewN _ kk = v2 at *
            go_wp2_with fail
            refine (turn_3 y _).mono ?_
            rintro e v3 ⟨rfl, kk, rfl⟩
            have BI := hid (BI.out.drewN kk)
            generalize World.drewN _ kk = v3 at *
            go_wp2_with fail
            refine (turn_4 y _).mono ?_
            rintro e v4 ⟨rfl, kk, rfl⟩
            have BI := hid (BI.out.drewN kk)
            generalize World.drewN _ kk = v4 at *
            have hc := BI.out.cell 0 rfl j (by rw [upto_length]; exact HJ.out)
            have hf := BI.out.frozen 0 rfl j
            have BN := hid (BI.out.set 0 rfl j (sbi j))
            rw [upto_set 256 sbi] at BN
            have BN2 := hid (p := Bx w [(w.heap.size + 1, 48, upto 256 sbi (List.replicate 256 0) (j + 1)), (w.heap.size, 48, List.replicate 256 0)] _) BN.out
            clear BN
            go_wp2
            go_roundw
            case rel => exact ⟨j + 1, HJ.out, by go_num, BN2⟩
            case measure => simp [intOf]; omega

    · obtain rfl : j = 256 := by omega
      rw [sbi_all] at BJ
      have hl2 := ld_all (l := SB) (BJ.out.bt 0 rfl) 48 _ Tryz.underlying48 rfl 256 (rfl) ra256
      have hs2 := st_all (BJ.out.bt 1 rfl) 48 (SB) 256 (rfl) (by simp) ra256
      have hrow := BJ.out.row 1 rfl (SB)
      have HZ2 := hid (hrow.bt 1 rfl)
      have HB2 := hid hrow.below
      clear hrow
      unfold Bt at HZ2
      generalize hz : (bvs (SB)).toArray = z at *
      have HZ := hid hz
      have HI := hid (p := (Tryz.prog.info? 48).map (·.size) = some z.size) (by rw [← hz, bsz, (show (SB).length = 256 from rfl)]; exact ra256)
      clear hz
      go_wp2_with (first | ((with_reducible refine isD 41 rfl ?_); refine wp_ld (by kernel_rfl) 48 (.tmp 1) rfl _ rfl _ hl2 ?_) | ((with_reducible refine isS 48 (.tmp 0) (.tmp 41) rfl ?_); refine wp_st (by kernel_rfl) 48 (.tmp 0) (.tmp 41) rfl _ _ rfl rfl hs2 ?_))
      exact bodyPost_ret (v := .agg z) (results_cell_row (p := 0) (ty := 48) Tryz.results75 _ _ _ 48 z (0, 0) _ rfl HZ2.out Tryz.underlying48 rfl HI.out) rfl ⟨by rw [HZ.out], HB2.out⟩
end Go.Proofs.YtbccnkjfjlmflaaGreatDoor
