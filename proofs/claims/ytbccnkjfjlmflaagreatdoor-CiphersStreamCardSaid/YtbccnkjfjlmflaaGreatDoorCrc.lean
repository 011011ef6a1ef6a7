/-
  burrowref09.NewBox, walked. Conditions: none.
-/
import Derived.Test.YtbccnkjfjlmflaaGreatDoorCrb
import Derived.Test.YtbccnkjfjlmflaaGreatDoorCii
namespace Go.Proofs.YtbccnkjfjlmflaaGreatDoor
open Go.RowKit
set_option linter.unusedVariables false
set_option linter.unusedSimpArgs false

def r256 : List UInt8 := List.replicate 256 0
/-- S, and what the first j bytes of it were -/
def sbk (j : Nat) : List UInt8 := SB ++ uk j
theorem sbk_length (j : Nat) : (sbk j).length = 512 := by rw [sbk, List.length_append, uk_length, SB_len]
theorem sbk_at (j i : Nat) (h : i < 256) : gb (sbk j) i = gb SB i := by
  unfold sbk gb
  rw [List.getD_eq_getElem?_getD, List.getD_eq_getElem?_getD, List.getElem?_append_left (by rw [SB_len]; exact h)]
theorem sbk_set (j : Nat) : (sbk j).set (256 + (gb SB j).toNat) (UInt8.ofNat j) = sbk (j + 1) := by
  unfold sbk
  rw [List.set_append_right _ _ (by rw [SB_len]; omega), SB_len, Nat.add_sub_cancel_left]; rfl
theorem sbk_zero : SB ++ r256 = sbk 0 := rfl
/-- S, and back -/
def SI : List UInt8 := SB ++ IB
theorem SI_length : SI.length = 512 := by rw [SI, List.length_append, SB_len, show IB.length = 256 by kernel_rfl]
theorem sbk_all : sbk 256 = SI := by rw [sbk, uk_all]; rfl
theorem bd_box (w : World) : (Instr.build 70 #[(0, .agg (bvs SB).toArray)]).run Tryz.prog w = .ok (.agg (bvs (SB ++ r256)).toArray) w := by
  refine run_build w _ _ _ ?_
  kernel_rfl
set_option maxRecDepth 100000 in
set_option maxHeartbeats 4000000 in
theorem newBox_any (w : World) : Calls Tryz.prog 19 #[] w fun e w' => ∃ g, e = .returned (.pointer (some ⟨g, 0, none⟩)) ∧ Hid (Bt w' g 70 SI ∧ w.heap.size ≤ g ∧ Below w.heap.size w w') := by
  go_enter Tryz.func19, Tryz.ntmps19
  go_wp2_with fail
  refine (box_any w).mono ?_
  rintro e w1 ⟨rfl, hb1⟩
  have B1 := hid ((Bx.nil w).on hb1)
  clear hb1
  have hbd := bd_box w1
  have B2 := hid (p := Bx w [(w1.heap.size, 70, sbk 0)] (w1.alloc (.cells (bvs (SB ++ r256)).toArray 70))) (B1.out.add 70 (SB ++ r256))
  clear B1
  rename_i hk3
  refine hk3 _ _ ?_
  go_wp2_with ((with_reducible refine isD 4 rfl ?_); refine wp_bd (by kernel_rfl) 70 _ rfl #[(0, .agg (bvs SB).toArray)] (by kernel_rfl) _ hbd ?_)
  generalize w1.alloc (.cells (bvs (SB ++ r256)).toArray 70) = w2 at *
  generalize w1.heap.size = g at *
  clear hbd
  go_loopw [2] (fun i wr => ∃ j : Nat, j ≤ 256 ∧ i = .int .i64 j ∧ Hid (Bx w [(g, 70, sbk j)] wr)) (fun i _ => 256 - (intOf i).toNat)
  case atStart => exact ⟨0, Nat.zero_le _, rfl, B2⟩
  case round =>
    clear B2
    obtain ⟨j, hj, rfl, BJ⟩ := hrel
    by_cases hlt : j < 256
    · have HJ := hid hlt
      have HQ := hid ((gb SB j).toNat_lt)
      have h0 := iv_ge (gb SB j)
      have h1 := iv_lt (gb SB j)
      have e1 : iv (UInt8.ofNat j) = (j : Int) := iv_of j hlt
      have BN := hid (p := Bx w [(g, 70, sbk (j + 1))] (wr.drew.setCell ⟨g, 256 + (iv (gb SB j)).toNat, none⟩ (.int .u8 (j : Int)))) (by rw [← sbk_set, ← e1]; exact BJ.out.drew.set 0 rfl (256 + (gb SB j).toNat) (UInt8.ofNat j))
      clear e1
      go_upto_region 5 with fail
      refine wp_region_noPanic ?_
      refine Goes.region (SBx w [(g, 70, sbk j)] [12]) (by as_aux_lemma => kernel_rfl) ?_
      have BJ := hid (BJ.out.drew)
      refine Goes.take (i := 0) (o := ⟨some 10, _, _, _, _, _⟩) (v := ?_) [] rfl (by as_aux_lemma => kernel_rfl) (by as_aux_lemma => kernel_rfl) (by as_aux_lemma => kernel_rfl) (fun _ _ _ h => h) (by as_aux_lemma => kernel_rfl) (fun L u h => SBx.quiet (by decide) h) (Or.inl ⟨by rfl, ?_⟩) (SBx.of BJ.out) ?_
      rotate_left
      · intro u hY; go_simp; try with_reducible rfl
      try simp only [putz]
      refine Goes.take (i := 1) (o := ⟨some 11, _, _, _, _, _⟩) (v := ?_) [] rfl (by as_aux_lemma => kernel_rfl) (by as_aux_lemma => kernel_rfl) (by as_aux_lemma => kernel_rfl) (fun _ _ _ h => h) (by as_aux_lemma => kernel_rfl) (fun L u h => SBx.quiet (by decide) h) (Or.inl ⟨by rfl, ?_⟩) (SBx.of BJ.out) ?_
      rotate_left
      · intro u hY; go_simp; try with_reducible rfl
      try simp only [putz]
      refine Goes.take (i := 2) (o := ⟨some 12, _, _, _, _, _⟩) (v := ?_) [] rfl (by as_aux_lemma => kernel_rfl) (by as_aux_lemma => kernel_rfl) (by as_aux_lemma => kernel_rfl) (fun _ _ _ h => h) (by as_aux_lemma => kernel_rfl) (fun L u h => SBx.quiet (by decide) h) (Or.inl ⟨by rfl, ?_⟩) (SBx.of BJ.out) ?_
      rotate_left
      · intro u hY; go_simp; try with_reducible rfl
      try simp only [putz]
      refine Goes.take (i := 3) (o := ⟨some 13, _, _, _, _, _⟩) (v := ?_) [] rfl (by as_aux_lemma => kernel_rfl) (by as_aux_lemma => kernel_rfl) (by as_aux_lemma => kernel_rfl) (fun _ _ _ h => h) (by as_aux_lemma => kernel_rfl) (fun L u h => SBx.quiet (by decide) h) (Or.inl ⟨by rfl, ?_⟩) (SBx.of BJ.out) ?_
      rotate_left
      · intro u hY; go_simp; try with_reducible rfl
      try simp only [putz]
      refine Goes.take (i := 4) (o := ⟨some 14, _, _, _, _, _⟩) (v := ?_) [] rfl (by as_aux_lemma => kernel_rfl) (by as_aux_lemma => kernel_rfl) (by as_aux_lemma => kernel_rfl) (fun _ _ _ h => h) (by as_aux_lemma => kernel_rfl) (fun L u h => SBx.quiet (by decide) h) (Or.inl ⟨by rfl, ?_⟩) (SBx.of BJ.out) ?_
      rotate_left
      · intro u hY; go_simp; try with_reducible rfl
      try simp only [putz]
      refine Goes.take (i := 5) (o := ⟨some 15, _, _, _, _, _⟩) (v := ?_) [] rfl (by as_aux_lemma => kernel_rfl) (by as_aux_lemma => kernel_rfl) (by as_aux_lemma => kernel_rfl) (fun _ _ _ h => h) (by as_aux_lemma => kernel_rfl) (fun L u h => SBx.quiet (by decide) h) (Or.inl ⟨by rfl, ?_⟩) (SBx.of BJ.out) ?_
      rotate_left
      · intro u hY; go_simp; try with_reducible rfl
      try simp only [putz]
      refine Goes.take (i := 6) (o := ⟨some 16, _, _, _, _, _⟩) (v := ?_) [12] rfl (by as_aux_lemma => kernel_rfl) (by as_aux_lemma => kernel_rfl) (by as_aux_lemma => kernel_rfl) (fun _ _ _ h => h) (by as_aux_lemma => kernel_rfl) (fun L u h => SBx.quiet (by decide) h) (Or.inl ⟨by rfl, ?_⟩) (SBx.of BJ.out) ?_
      rotate_left
      · intro u hY; have hX := SBx.yet hY (by decide); have hc := hX.cell 0 rfl j (by rw [sbk_length]; have := HJ.out; omega); rw [sbk_at j j HJ.out] at hc; clear hY hX; go_simp; try with_reducible rfl
      try simp only [putz]
      refine Goes.take (i := 7) (o := ⟨some 17, _, _, _, _, _⟩) (v := ?_) [] rfl (by as_aux_lemma => kernel_rfl) (by as_aux_lemma => kernel_rfl) (by as_aux_lemma => kernel_rfl) (fun _ _ _ h => h) (by as_aux_lemma => kernel_rfl) (fun L u h => SBx.quiet (by decide) h) (Or.inl ⟨by rfl, ?_⟩) (SBx.of BJ.out) ?_
      rotate_left
      · intro u hY; go_simp; try with_reducible rfl
      try simp only [putz]
      refine Goes.take (i := 8) (o := ⟨some 18, _, _, _, _, _⟩) (v := ?_) [] rfl (by as_aux_lemma => kernel_rfl) (by as_aux_lemma => kernel_rfl) (by as_aux_lemma => kernel_rfl) (fun _ _ _ h => h) (by as_aux_lemma => kernel_rfl) (fun L u h => SBx.quiet (by decide) h) (Or.inl ⟨by rfl, ?_⟩) (SBx.of BJ.out) ?_
      rotate_left
      · intro u hY; go_simp; try with_reducible rfl
      try simp only [putz]
      refine Goes.take (i := 9) (o := ⟨some 19, _, _, _, _, _⟩) (v := ?_) [] rfl (by as_aux_lemma => kernel_rfl) (by as_aux_lemma => kernel_rfl) (by as_aux_lemma => kernel_rfl) (fun _ _ _ h => h) (by as_aux_lemma => kernel_rfl) (fun L u h => SBx.quiet (by decide) h) (Or.inl ⟨by rfl, ?_⟩) (SBx.of BJ.out) ?_
      rotate_left
      · intro u hY; go_simp; try with_reducible rfl
      try simp only [putz]
      refine Goes.take (i := 10) (o := ⟨some 20, _, _, _, _, _⟩) (v := ?_) [] rfl (by as_aux_lemma => kernel_rfl) (by as_aux_lemma => kernel_rfl) (by as_aux_lemma => kernel_rfl) (fun _ _ _ h => h) (by as_aux_lemma => kernel_rfl) (fun L u h => SBx.quiet (by decide) h) (Or.inl ⟨by rfl, ?_⟩) (SBx.of BJ.out) ?_
      rotate_left
      · intro u hY; go_simp; try with_reducible rfl
      try simp only [putz]
      refine Goes.take (i := 11) (o := ⟨some 21, _, _, _, _, _⟩) (v := ?_) [] rfl (by as_aux_lemma => kernel_rfl) (by as_aux_lemma => kernel_rfl) (by as_aux_lemma => kernel_rfl) (fun _ _ _ h => h) (by as_aux_lemma => kernel_rfl) (fun L u h => SBx.quiet (by decide) h) (Or.inl ⟨by rfl, ?_⟩) (SBx.of BJ.out) ?_
      rotate_left
      · intro u hY; go_simp; try with_reducible rfl
      try simp only [putz]
      refine Goes.one (i := 12) (o := ⟨none, _, _, _, _, _⟩) (by as_aux_lemma => kernel_rfl) rfl (fun K hK => ?_)
      have hc0 : wr.drew.cell? ⟨g, 256 + (iv (gb SB j)).toNat, none⟩ = some (bv (gb (sbk j) (256 + (gb SB j).toNat))) := BJ.out.cell 0 rfl (256 + (gb SB j).toNat) (by rw [sbk_length]; have := HQ.out; omega)
      have hf : wr.drew.frozen? ⟨g, 256 + (iv (gb SB j)).toNat, none⟩ = false := BJ.out.frozen 0 rfl _
      go_simp
      go_wp2_with fail
      refine hK.out _ _ (SBx.off (by decide)) ?_
      clear hK K
      try simp only [putz]
      refine Goes.done (by as_aux_lemma => kernel_rfl) ?_ _
      refine NoPanic.normal ?_
      go_wp2
      go_roundw
      case rel => exact ⟨j + 1, by omega, by go_num, BN⟩
      case measure => simp [intOf]; omega
    · obtain rfl : j = 256 := by omega
      rw [sbk_all] at BJ
      have HE := hid (p := Bt wr g 70 SI ∧ w.heap.size ≤ g ∧ Below w.heap.size w wr) ⟨BJ.out.bt 0 rfl, BJ.out.ge 0 rfl, BJ.out.below⟩
      clear BJ
      go_wp2
      go_ret
      exact ⟨g, rfl, HE⟩
end Go.Proofs.YtbccnkjfjlmflaaGreatDoor
