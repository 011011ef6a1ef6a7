/-
  burrowlaw09.lives, walked: the chapter's block. Conditions: none.
-/
import Derived.Test.YtbccnkjfjlmflaaGreatDoorCin
import Derived.Test.YtbccnkjfjlmflaaGreatDoorEqa
import Derived.Test.YtbccnkjfjlmflaaGreatDoorOrdT
namespace Go.Proofs.YtbccnkjfjlmflaaGreatDoor
open Go.RowKit
set_option linter.unusedVariables false
set_option linter.unusedSimpArgs false

/-- the chapter's key, block, and what it becomes -/
def fK : List UInt8 := tab 16 fun i => UInt8.ofNat i
def fB : List UInt8 := tab 16 fun i => UInt8.ofNat (17 * i)
def fW : List UInt8 := [105, 196, 224, 216, 106, 123, 4, 48, 216, 205, 183, 128, 112, 180, 197, 90]
theorem fK_length : fK.length = 16 := tab_length _ _
theorem fB_length : fB.length = 16 := tab_length _ _
theorem fW_length : fW.length = 16 := rfl
theorem f_enc : enc fK fB = fW := enc_fips
theorem f_dec : dec fK fW = fB := by rw [← f_enc, dec_enc fK fB fB_length]
theorem fW_cells : (bvs fW).toArray = #[.int .u8 105, .int .u8 196, .int .u8 224, .int .u8 216, .int .u8 106, .int .u8 123, .int .u8 4, .int .u8 48, .int .u8 216, .int .u8 205, .int .u8 183, .int .u8 128, .int .u8 112, .int .u8 180, .int .u8 197, .int .u8 90] := by kernel_rfl
set_option maxRecDepth 100000 in
set_option maxHeartbeats 4000000 in
theorem lives_any (w : World) :
    Calls Tryz.prog 4 #[] w fun e w' => e = .returned (.bool true) ∧ Below w.heap.size w w' := by
  have B2 := hid (p := Bx w [(w.heap.size + 1, 22, upto 16 (fun i => UInt8.ofNat (17 * i)) (List.replicate 16 0) 0), (w.heap.size, 22, upto 16 (fun i => UInt8.ofNat i) (List.replicate 16 0) 0)] ((w.alloc (.cells (bvs (List.replicate 16 0)).toArray 22)).alloc (.cells (bvs (List.replicate 16 0)).toArray 22))) (by rw [upto_none _ _ _ (by simp), upto_none _ _ _ (by simp)]; exact bx2 w 22 22 (List.replicate 16 0) (List.replicate 16 0))
  go_enter Tryz.func4, Tryz.ntmps4
  go_upto_region 2 with fail
  rw [← z16]
  generalize (w.alloc (.cells (bvs (List.replicate 16 0)).toArray 22)).alloc (.cells (bvs (List.replicate 16 0)).toArray 22) = w1 at *
  go_wp2_with fail
  go_loopw [3] (fun i wr => ∃ k : Nat, k ≤ 16 ∧ i = .int .i64 k ∧ Hid (Bx w [(w.heap.size + 1, 22, upto 16 (fun i => UInt8.ofNat (17 * i)) (List.replicate 16 0) k), (w.heap.size, 22, upto 16 (fun i => UInt8.ofNat i) (List.replicate 16 0) k)] wr)) (fun i _ => 16 - (intOf i).toNat)
  case atStart => exact ⟨0, Nat.zero_le _, rfl, B2⟩
  case round =>
    clear B2
    obtain ⟨k, hk, rfl, BJ⟩ := hrel
    by_cases hlt : k < 16
    · have hc := BJ.out.cell 1 rfl k (by rw [upto_length]; exact hlt)
      have hf := BJ.out.frozen 1 rfl k
      have b1 := BJ.out.set 1 rfl k (UInt8.ofNat k)
      rw [upto_set 16 (fun i => UInt8.ofNat i)] at b1
      have b1 := hid b1
      have hc2 := b1.out.cell 0 rfl k (by rw [upto_length]; exact hlt)
      have hf2 := b1.out.frozen 0 rfl k
      have BN := hid (b1.out.set 0 rfl k (UInt8.ofNat (17 * k)))
      rw [upto_set 16 (fun i => UInt8.ofNat (17 * i))] at BN
      have e1 : iv (UInt8.ofNat k) = (k : Int) := iv_of k (by omega)
      have e2 : iv (UInt8.ofNat (17 * k)) = 17 * (k : Int) := by rw [iv_of (17 * k) (by omega)]; omega
      have BN2 := hid (p := Bx w [(w.heap.size + 1, 22, upto 16 (fun i => UInt8.ofNat (17 * i)) (List.replicate 16 0) (k + 1)), (w.heap.size, 22, upto 16 (fun i => UInt8.ofNat i) (List.replicate 16 0) (k + 1))] ((wr.setCell ⟨w.heap.size, k, none⟩ (.int .u8 (k : Int))).setCell ⟨w.heap.size + 1, k, none⟩ (.int .u8 (17 * (k : Int))))) (by rw [← e2, ← e1]; exact BN.out)
      have hc2 : (wr.setCell ⟨w.heap.size, k, none⟩ (.int .u8 (k : Int))).cell? ⟨w.heap.size + 1, k, none⟩ = some (bv (gb (upto 16 (fun i => UInt8.ofNat (17 * i)) (List.replicate 16 0) k) k)) := by rw [← e1]; exact hc2
      have hf2 : (wr.setCell ⟨w.heap.size, k, none⟩ (.int .u8 (k : Int))).frozen? ⟨w.heap.size + 1, k, none⟩ = false := by rw [← e1]; exact hf2
      clear BN b1 e1 e2
      have h17 : IntKind.i64.wrap (17 * (k : Int)) = 17 * (k : Int) := by rw [IntKind.wrap_i64]; omega
      go_upto_region 6 with fail
      clear hc hf BJ
      generalize wr.setCell ⟨w.heap.size, k, none⟩ (.int .u8 (k : Int)) = w2 at *
      go_wp2
      go_roundw
      case rel => exact ⟨k + 1, by omega, by go_num, BN2⟩
      case measure => simp [intOf]; omega
    · obtain rfl : k = 16 := by omega
      rw [upto_all, upto_all] at BJ
      have B3 := hid (p := Bx w [(wr.heap.size, 22, List.replicate 16 0), (w.heap.size + 1, 22, fB), (w.heap.size, 22, fK)] (wr.alloc (.cells (bvs (List.replicate 16 0)).toArray 22))) (BJ.out.add 22 (List.replicate 16 0))
      have hst := st_all (B3.out.bt 0 rfl) 22 fW 16 rfl (by simp) row16
      have B4 := hid (p := Bx w [(wr.heap.size, 22, fW), (w.heap.size + 1, 22, fB), (w.heap.size, 22, fK)] ((wr.alloc (.cells (bvs (List.replicate 16 0)).toArray 22)).setRow wr.heap.size (bvs fW).toArray)) (B3.out.row 0 rfl fW)
      clear BJ B3
      rw [fW_cells, z16] at hst
      rw [fW_cells, z16] at B4
      go_upto_region 8 with (((with_reducible refine isS 22 (.tmp 4) (.tmp 18) rfl ?_); refine wp_st (by kernel_rfl) 22 (.tmp 4) (.tmp 18) rfl _ _ rfl rfl hst ?_))
      clear hst
      generalize hgw : wr.heap.size = gw at *
      clear hgw
      generalize (wr.alloc _).setRow gw _ = w2 at *
      have BJ := hid B4.out
      clear B4
      have q1 : ∀ W, (Op.equalIn 10000 22 (.agg (bvs fW).toArray) (.agg (bvs fW).toArray)).run Tryz.prog W = .ok true W := fun W => by rw [eq_arr 22 16 Tryz.underlying22 fW fW rfl rfl W]; simp
      have q2 : ∀ W, (Op.equalIn 10000 22 (.agg (bvs fB).toArray) (.agg (bvs fB).toArray)).run Tryz.prog W = .ok true W := fun W => by rw [eq_arr 22 16 Tryz.underlying22 fB fB fB_length fB_length W]; simp
      refine wp_region_noPanic ?_
      refine Goes.region (fun (_ : Array Bool) (u : World) => Bx w [(gw, 22, fW), (w.heap.size + 1, 22, fB), (w.heap.size, 22, fK)] u) (by as_aux_lemma => kernel_rfl) ?_
      have BJ := hid (BJ.out.drew)
      refine Goes.take (i := 0) (o := ⟨some 19, _, _, _, _, _⟩) [] rfl (by as_aux_lemma => kernel_rfl) (by as_aux_lemma => kernel_rfl) (by as_aux_lemma => kernel_rfl) (fun _ _ _ h => h) (by as_aux_lemma => kernel_rfl) (fun L u h => h) (Or.inl ⟨by rfl, fun u hY => y_ld _ _ rfl _ _ rfl (have hX := SPl.yet hY; ld_all (hX.bt 2 rfl) 22 _ Tryz.underlying22 rfl 16 fK_length row16)⟩) BJ.out ?_
      try simp only [putz]
      refine Goes.take (i := 1) (o := ⟨some 20, _, _, _, _, _⟩) [] rfl (by as_aux_lemma => kernel_rfl) (by as_aux_lemma => kernel_rfl) (by as_aux_lemma => kernel_rfl) (fun _ _ _ h => h) (by as_aux_lemma => kernel_rfl) (fun L u h => h) (Or.inl ⟨by rfl, fun u hY => y_ld _ _ rfl _ _ rfl (have hX := SPl.yet hY; ld_all (hX.bt 1 rfl) 22 _ Tryz.underlying22 rfl 16 fB_length row16)⟩) BJ.out ?_
      try simp only [putz]
      refine Goes.take (i := 3) (o := ⟨some 22, _, _, _, _, _⟩) [] rfl (by as_aux_lemma => kernel_rfl) (by as_aux_lemma => kernel_rfl) (by as_aux_lemma => kernel_rfl) (fun _ _ _ h => h) (by as_aux_lemma => kernel_rfl) (fun L u h => h) (Or.inl ⟨by rfl, fun u hY => y_ld _ _ rfl _ _ rfl (have hX := SPl.yet hY; ld_all (hX.bt 0 rfl) 22 _ Tryz.underlying22 rfl 16 fW_length row16)⟩) BJ.out ?_
      try simp only [putz]
      refine Goes.one (i := 2) (o := ⟨some 21, _, _, _, _, _⟩) (by as_aux_lemma => kernel_rfl) rfl (fun K hK => ?_)
      go_simp
      with_reducible refine (block_any fK fB _ fK_length fB_length).mono ?_
      rintro e wa ⟨rfl, hba⟩
      have BJ := hid (BJ.out.on hba)
      clear hba
      rw [f_enc]
      go_wp2_with fail
      refine hK.out _ _ BJ.out ?_
      clear hK K
      try simp only [putz]
      refine Goes.take (i := 4) (o := ⟨some 23, _, _, _, _, _⟩) (v := ?_) [] rfl (by as_aux_lemma => kernel_rfl) (by as_aux_lemma => kernel_rfl) (by as_aux_lemma => kernel_rfl) (fun _ _ _ h => h) (by as_aux_lemma => kernel_rfl) (fun L u h => h) (Or.inl ⟨by rfl, ?_⟩) BJ.out ?_
      rotate_left
      · intro u hY; go_simp; try with_reducible rfl
      try simp only [putz]
      refine Goes.take (i := 5) (o := ⟨some 24, _, _, _, _, _⟩) (v := ?_) [] rfl (by as_aux_lemma => kernel_rfl) (by as_aux_lemma => kernel_rfl) (by as_aux_lemma => kernel_rfl) (fun _ _ _ h => h) (by as_aux_lemma => kernel_rfl) (fun L u h => h) (Or.inl ⟨by rfl, ?_⟩) BJ.out ?_
      rotate_left
      · intro u hY; go_simp; try with_reducible rfl
      try simp only [putz]
      refine Goes.take (i := 6) (o := ⟨some 25, _, _, _, _, _⟩) [] rfl (by as_aux_lemma => kernel_rfl) (by as_aux_lemma => kernel_rfl) (by as_aux_lemma => kernel_rfl) (fun _ _ _ h => h) (by as_aux_lemma => kernel_rfl) (fun L u h => h) (Or.inl ⟨by rfl, fun u hY => y_ld _ _ rfl _ _ rfl (have hX := SPl.yet hY; ld_all (hX.bt 2 rfl) 22 _ Tryz.underlying22 rfl 16 fK_length row16)⟩) BJ.out ?_
      try simp only [putz]
      refine Goes.take (i := 7) (o := ⟨some 26, _, _, _, _, _⟩) [] rfl (by as_aux_lemma => kernel_rfl) (by as_aux_lemma => kernel_rfl) (by as_aux_lemma => kernel_rfl) (fun _ _ _ h => h) (by as_aux_lemma => kernel_rfl) (fun L u h => h) (Or.inl ⟨by rfl, fun u hY => y_ld _ _ rfl _ _ rfl (have hX := SPl.yet hY; ld_all (hX.bt 0 rfl) 22 _ Tryz.underlying22 rfl 16 fW_length row16)⟩) BJ.out ?_
      try simp only [putz]
      refine Goes.take (i := 9) (o := ⟨some 28, _, _, _, _, _⟩) [] rfl (by as_aux_lemma => kernel_rfl) (by as_aux_lemma => kernel_rfl) (by as_aux_lemma => kernel_rfl) (fun _ _ _ h => h) (by as_aux_lemma => kernel_rfl) (fun L u h => h) (Or.inl ⟨by rfl, fun u hY => y_ld _ _ rfl _ _ rfl (have hX := SPl.yet hY; ld_all (hX.bt 1 rfl) 22 _ Tryz.underlying22 rfl 16 fB_length row16)⟩) BJ.out ?_
      try simp only [putz]
      refine Goes.one (i := 8) (o := ⟨some 27, _, _, _, _, _⟩) (by as_aux_lemma => kernel_rfl) rfl (fun K hK => ?_)
      rw [if_pos (by kernel_rfl)]
      go_simp
      with_reducible refine (back_any fK fW _ fK_length fW_length).mono ?_
      rintro e wb ⟨rfl, hba⟩
      have BJ := hid (BJ.out.on hba)
      clear hba
      rw [f_dec]
      go_wp2_with fail
      refine hK.out _ _ BJ.out ?_
      clear hK K
      try simp only [putz]
      refine Goes.take (i := 10) (o := ⟨some 29, _, _, _, _, _⟩) (v := ?_) [] rfl (by as_aux_lemma => kernel_rfl) (by as_aux_lemma => kernel_rfl) (by as_aux_lemma => kernel_rfl) (fun _ _ _ h => h) (by as_aux_lemma => kernel_rfl) (fun L u h => h) (Or.inl ⟨by rfl, ?_⟩) BJ.out ?_
      rotate_left
      · intro u hY; go_simp; try with_reducible rfl
      try simp only [putz]
      refine Goes.take (i := 11) (o := ⟨some 30, _, _, _, _, _⟩) (v := ?_) [] rfl (by as_aux_lemma => kernel_rfl) (by as_aux_lemma => kernel_rfl) (by as_aux_lemma => kernel_rfl) (fun _ _ _ h => h) (by as_aux_lemma => kernel_rfl) (fun L u h => h) (Or.inl ⟨by rfl, ?_⟩) BJ.out ?_
      rotate_left
      · intro u hY; go_simp; try with_reducible rfl
      try simp only [putz]
      refine Goes.take (i := 12) (o := ⟨some 31, _, _, _, _, _⟩) (v := ?_) [] rfl (by as_aux_lemma => kernel_rfl) (by as_aux_lemma => kernel_rfl) (by as_aux_lemma => kernel_rfl) (fun _ _ _ h => h) (by as_aux_lemma => kernel_rfl) (fun L u h => h) (Or.inl ⟨by rfl, ?_⟩) BJ.out ?_
      rotate_left
      · intro u hY; go_simp; try with_reducible rfl
      try simp only [putz]
      refine Goes.take (i := 13) (o := ⟨some 32, _, _, _, _, _⟩) [] rfl (by as_aux_lemma => kernel_rfl) (by as_aux_lemma => kernel_rfl) (by as_aux_lemma => kernel_rfl) (fun _ _ _ h => h) (by as_aux_lemma => kernel_rfl) (fun L u h => h) (Or.inl ⟨by rfl, fun u hY => y_ld _ _ rfl _ _ rfl (have hX := SPl.yet hY; ld_all (hX.bt 2 rfl) 22 _ Tryz.underlying22 rfl 16 fK_length row16)⟩) BJ.out ?_
      try simp only [putz]
      refine Goes.take (i := 14) (o := ⟨some 33, _, _, _, _, _⟩) [] rfl (by as_aux_lemma => kernel_rfl) (by as_aux_lemma => kernel_rfl) (by as_aux_lemma => kernel_rfl) (fun _ _ _ h => h) (by as_aux_lemma => kernel_rfl) (fun L u h => h) (Or.inl ⟨by rfl, fun u hY => y_ld _ _ rfl _ _ rfl (have hX := SPl.yet hY; ld_all (hX.bt 1 rfl) 22 _ Tryz.underlying22 rfl 16 fB_length row16)⟩) BJ.out ?_
      try simp only [putz]
      refine Goes.one (i := 15) (o := ⟨some 34, _, _, _, _, _⟩) (by as_aux_lemma => kernel_rfl) rfl (fun K hK => ?_)
      rw [if_pos (by kernel_rfl)]
      go_simp
      with_reducible refine (stream_any fK fB none 0 [] 0 _ fK_length fB_length rfl (Rd.nil _ _) (by decide)).mono ?_
      rintro e wc ⟨gs, rfl, hs⟩
      have BJ := hid (BJ.out.on (by have := hs.out.2.2; exact this))
      clear hs
      go_wp2_with fail
      refine hK.out _ _ BJ.out ?_
      clear hK K
      try simp only [putz]
      refine Goes.take (i := 16) (o := ⟨some 35, _, _, _, _, _⟩) (v := ?_) [] rfl (by as_aux_lemma => kernel_rfl) (by as_aux_lemma => kernel_rfl) (by as_aux_lemma => kernel_rfl) (fun _ _ _ h => h) (by as_aux_lemma => kernel_rfl) (fun L u h => h) (Or.inl ⟨by rfl, ?_⟩) BJ.out ?_
      rotate_left
      · intro u hY; go_simp; try with_reducible rfl
      try simp only [putz]
      refine Goes.take (i := 17) (o := ⟨some 36, _, _, _, _, _⟩) (v := ?_) [] rfl (by as_aux_lemma => kernel_rfl) (by as_aux_lemma => kernel_rfl) (by as_aux_lemma => kernel_rfl) (fun _ _ _ h => h) (by as_aux_lemma => kernel_rfl) (fun L u h => h) (Or.inl ⟨by rfl, ?_⟩) BJ.out ?_
      rotate_left
      · intro u hY; go_simp; try with_reducible rfl
      try simp only [putz]
      refine Goes.take (i := 18) (o := ⟨some 37, _, _, _, _, _⟩) (v := ?_) [] rfl (by as_aux_lemma => kernel_rfl) (by as_aux_lemma => kernel_rfl) (by as_aux_lemma => kernel_rfl) (fun _ _ _ h => h) (by as_aux_lemma => kernel_rfl) (fun L u h => h) (Or.inl ⟨by rfl, ?_⟩) BJ.out ?_
      rotate_left
      · intro u hY; go_simp; try with_reducible rfl
      try simp only [putz]
      refine Goes.take (i := 19) (o := ⟨some 0, _, _, _, _, _⟩) (v := ?_) [] rfl (by as_aux_lemma => kernel_rfl) (by as_aux_lemma => kernel_rfl) (by as_aux_lemma => kernel_rfl) (fun _ _ _ h => h) (by as_aux_lemma => kernel_rfl) (fun L u h => h) (Or.inl ⟨by rfl, ?_⟩) BJ.out ?_
      rotate_left
      · intro u hY; go_simp; try with_reducible rfl
      try simp only [putz]
      refine Goes.done (by as_aux_lemma => kernel_rfl) ?_ _
      refine NoPanic.normal ?_
      go_wp2
      go_ret
      exact ⟨rfl, BJ.out.below⟩
end Go.Proofs.YtbccnkjfjlmflaaGreatDoor
