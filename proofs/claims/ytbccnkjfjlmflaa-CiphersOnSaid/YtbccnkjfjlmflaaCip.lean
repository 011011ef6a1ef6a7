/-
  burrowlaw09.CiphersBack, walked: it answers true. Conditions: none.
-/
import Derived.Test.YtbccnkjfjlmflaaCio
namespace Go.Proofs.Ytbccnkjfjlmflaa
open Go.RowKit
set_option linter.unusedVariables false
set_option linter.unusedSimpArgs false

set_option maxRecDepth 100000 in
set_option maxHeartbeats 4000000 in
theorem back_law (key a b : List UInt8) (w : World) (hk : key.length = 16) (ha : a.length = 16) (hb : b.length = 16) :
    Calls Try.prog 4 #[.agg (bvs key).toArray, .agg (bvs a).toArray, .agg (bvs b).toArray] w fun e w' => e = .returned (.bool true) ∧ Below w.heap.size w w' := by
  have HK := hid hk
  have HA := hid ha
  have HB := hid hb
  clear hk ha hb
  have B1 := hid (bx3 w 22 22 22 key a b)
  go_enter Try.func4, Try.ntmps4
  go_upto_region 1 with fail
  generalize ((w.alloc (.cells (bvs key).toArray 22)).alloc (.cells (bvs a).toArray 22)).alloc (.cells (bvs b).toArray 22) = w1 at *
  have hk := ld_all (B1.out.bt 2 rfl) 22 _ Try.underlying22 rfl 16 HK.out row16
  have ha := ld_all (B1.out.bt 1 rfl) 22 _ Try.underlying22 rfl 16 HA.out row16
  go_upto_region 1 with fail
  go_wp2_with (first | ((with_reducible refine isD 9 rfl ?_); refine wp_ld (by kernel_rfl) 22 (.tmp 3) rfl _ rfl _ hk ?_) | ((with_reducible refine isD 10 rfl ?_); refine wp_ld (by kernel_rfl) 22 (.tmp 4) rfl _ rfl _ ha ?_))
  refine (block_any key a _ HK.out HA.out).mono ?_
  rintro e g7w ⟨rfl, hba⟩
  have C1 := hid (B1.out.on hba)
  clear hba B1 hk ha
  have C2 := hid (p := Bx w ((g7w.heap.size, 22, List.replicate 16 0) :: [(w.heap.size + 1 + 1, 22, b), (w.heap.size + 1, 22, a), (w.heap.size, 22, key)]) (g7w.alloc (.cells (bvs (List.replicate 16 0)).toArray 22))) (C1.out.add 22 (List.replicate 16 0))
  have hst := st_all (C2.out.bt 0 rfl) 22 (enc key a) 16 (enc_length _ _) (by simp) row16
  have B2 := hid (p := Bx w ((g7w.heap.size, 22, enc key a) :: [(w.heap.size + 1 + 1, 22, b), (w.heap.size + 1, 22, a), (w.heap.size, 22, key)]) ((g7w.alloc (.cells (bvs (List.replicate 16 0)).toArray 22)).setRow g7w.heap.size (bvs (enc key a)).toArray)) (C2.out.row 0 rfl (enc key a))
  rw [z16] at hst
  rw [z16] at B2
  clear C1 C2
  go_upto_region 2 with (((with_reducible refine isS 22 (.tmp 7) (.tmp 11) rfl ?_); refine wp_st (by kernel_rfl) 22 (.tmp 7) (.tmp 11) rfl _ _ rfl rfl hst ?_))
  clear hst
  generalize hg : g7w.heap.size = g7 at *
  clear hg
  generalize (g7w.alloc _).setRow g7 _ = g7v at *
  have hk := ld_all (B2.out.bt 3 rfl) 22 _ Try.underlying22 rfl 16 HK.out row16
  have ha := ld_all (B2.out.bt 1 rfl) 22 _ Try.underlying22 rfl 16 HB.out row16
  go_upto_region 2 with fail
  go_wp2_with (first | ((with_reducible refine isD 12 rfl ?_); refine wp_ld (by kernel_rfl) 22 (.tmp 3) rfl _ rfl _ hk ?_) | ((with_reducible refine isD 13 rfl ?_); refine wp_ld (by kernel_rfl) 22 (.tmp 5) rfl _ rfl _ ha ?_))
  refine (block_any key b _ HK.out HB.out).mono ?_
  rintro e g8w ⟨rfl, hba⟩
  have C1 := hid (B2.out.on hba)
  clear hba B2 hk ha
  have C2 := hid (p := Bx w ((g8w.heap.size, 22, List.replicate 16 0) :: [(g7, 22, enc key a), (w.heap.size + 1 + 1, 22, b), (w.heap.size + 1, 22, a), (w.heap.size, 22, key)]) (g8w.alloc (.cells (bvs (List.replicate 16 0)).toArray 22))) (C1.out.add 22 (List.replicate 16 0))
  have hst := st_all (C2.out.bt 0 rfl) 22 (enc key b) 16 (enc_length _ _) (by simp) row16
  have B3 := hid (p := Bx w ((g8w.heap.size, 22, enc key b) :: [(g7, 22, enc key a), (w.heap.size + 1 + 1, 22, b), (w.heap.size + 1, 22, a), (w.heap.size, 22, key)]) ((g8w.alloc (.cells (bvs (List.replicate 16 0)).toArray 22)).setRow g8w.heap.size (bvs (enc key b)).toArray)) (C2.out.row 0 rfl (enc key b))
  rw [z16] at hst
  rw [z16] at B3
  clear C1 C2
  go_upto_region 3 with (((with_reducible refine isS 22 (.tmp 8) (.tmp 14) rfl ?_); refine wp_st (by kernel_rfl) 22 (.tmp 8) (.tmp 14) rfl _ _ rfl rfl hst ?_))
  clear hst
  generalize hg : g8w.heap.size = g8 at *
  clear hg
  generalize (g8w.alloc _).setRow g8 _ = g8v at *
  obtain ⟨d, hd⟩ : ∃ d : Bool, d = decide (a = b) := ⟨_, rfl⟩
  have q1 : ∀ W, (Op.equalIn 10000 22 (.agg (bvs a).toArray) (.agg (bvs a).toArray)).run Try.prog W = .ok true W := fun W => by rw [eq_arr 22 16 Try.underlying22 a a HA.out HA.out W]; simp
  have q2 : ∀ W, (Op.equalIn 10000 22 (.agg (bvs a).toArray) (.agg (bvs b).toArray)).run Try.prog W = .ok d W := fun W => by rw [eq_arr 22 16 Try.underlying22 a b HA.out HB.out W, hd]
  have q3 : ∀ W, (Op.equalIn 10000 22 (.agg (bvs (enc key a)).toArray) (.agg (bvs (enc key b)).toArray)).run Try.prog W = .ok d W := fun W => by
    rw [eq_arr 22 16 Try.underlying22 (enc key a) (enc key b) (enc_length _ _) (enc_length _ _) W, hd]
    congr 1
    rw [decide_eq_decide]
    exact enc_inj key a b HA.out HB.out
  clear hd
  have BJ := hid B3.out
  clear B3
  refine wp_region_noPanic ?_
  refine Goes.region (fun (_ : Array Bool) (u : World) => Bx w [(g8, 22, enc key b), (g7, 22, enc key a), (w.heap.size + 1 + 1, 22, b), (w.heap.size + 1, 22, a), (w.heap.size, 22, key)] u) (by as_aux_lemma => kernel_rfl) ?_
  have BJ := hid (BJ.out.drew)
  refine Goes.take (i := 0) (o := ⟨some 15, _, _, _, _, _⟩) [] rfl (by as_aux_lemma => kernel_rfl) (by as_aux_lemma => kernel_rfl) (by as_aux_lemma => kernel_rfl) (fun _ _ _ h => h) (by as_aux_lemma => kernel_rfl) (fun L u h => h) (Or.inl ⟨by rfl, fun u hY => y_ld _ _ rfl _ _ rfl (have hX := SPl.yet hY; ld_all (hX.bt 4 rfl) 22 _ Try.underlying22 rfl 16 HK.out row16)⟩) BJ.out ?_
  try simp only [putz]
  refine Goes.take (i := 1) (o := ⟨some 16, _, _, _, _, _⟩) [] rfl (by as_aux_lemma => kernel_rfl) (by as_aux_lemma => kernel_rfl) (by as_aux_lemma => kernel_rfl) (fun _ _ _ h => h) (by as_aux_lemma => kernel_rfl) (fun L u h => h) (Or.inl ⟨by rfl, fun u hY => y_ld _ _ rfl _ _ rfl (have hX := SPl.yet hY; ld_all (hX.bt 1 rfl) 22 _ Try.underlying22 rfl 16 (enc_length _ _) row16)⟩) BJ.out ?_
  try simp only [putz]
  refine Goes.take (i := 3) (o := ⟨some 18, _, _, _, _, _⟩) [] rfl (by as_aux_lemma => kernel_rfl) (by as_aux_lemma => kernel_rfl) (by as_aux_lemma => kernel_rfl) (fun _ _ _ h => h) (by as_aux_lemma => kernel_rfl) (fun L u h => h) (Or.inl ⟨by rfl, fun u hY => y_ld _ _ rfl _ _ rfl (have hX := SPl.yet hY; ld_all (hX.bt 3 rfl) 22 _ Try.underlying22 rfl 16 HA.out row16)⟩) BJ.out ?_
  try simp only [putz]
  refine Goes.one (i := 2) (o := ⟨some 17, _, _, _, _, _⟩) (by as_aux_lemma => kernel_rfl) rfl (fun K hK => ?_)
  go_simp
  with_reducible refine (back_any key (enc key a) _ HK.out (enc_length _ _)).mono ?_
  rintro e wa ⟨rfl, hba⟩
  have BJ := hid (BJ.out.on hba)
  clear hba
  rw [dec_enc key a HA.out]
  go_wp2_with fail
  refine hK.out _ _ BJ.out ?_
  clear hK K
  try simp only [putz]
  refine Goes.take (i := 4) (o := ⟨some 19, _, _, _, _, _⟩) (v := ?_) [] rfl (by as_aux_lemma => kernel_rfl) (by as_aux_lemma => kernel_rfl) (by as_aux_lemma => kernel_rfl) (fun _ _ _ h => h) (by as_aux_lemma => kernel_rfl) (fun L u h => h) (Or.inl ⟨by rfl, ?_⟩) BJ.out ?_
  rotate_left
  · intro u hY; go_simp; try with_reducible rfl
  try simp only [putz]
  refine Goes.take (i := 5) (o := ⟨some 20, _, _, _, _, _⟩) (v := ?_) [] rfl (by as_aux_lemma => kernel_rfl) (by as_aux_lemma => kernel_rfl) (by as_aux_lemma => kernel_rfl) (fun _ _ _ h => h) (by as_aux_lemma => kernel_rfl) (fun L u h => h) (Or.inl ⟨by rfl, ?_⟩) BJ.out ?_
  rotate_left
  · intro u hY; go_simp; try with_reducible rfl
  try simp only [putz]
  refine Goes.take (i := 6) (o := ⟨some 21, _, _, _, _, _⟩) [] rfl (by as_aux_lemma => kernel_rfl) (by as_aux_lemma => kernel_rfl) (by as_aux_lemma => kernel_rfl) (fun _ _ _ h => h) (by as_aux_lemma => kernel_rfl) (fun L u h => h) (Or.inl ⟨by rfl, fun u hY => y_ld _ _ rfl _ _ rfl (have hX := SPl.yet hY; ld_all (hX.bt 4 rfl) 22 _ Try.underlying22 rfl 16 HK.out row16)⟩) BJ.out ?_
  try simp only [putz]
  refine Goes.take (i := 7) (o := ⟨some 22, _, _, _, _, _⟩) [] rfl (by as_aux_lemma => kernel_rfl) (by as_aux_lemma => kernel_rfl) (by as_aux_lemma => kernel_rfl) (fun _ _ _ h => h) (by as_aux_lemma => kernel_rfl) (fun L u h => h) (Or.inl ⟨by rfl, fun u hY => y_ld _ _ rfl _ _ rfl (have hX := SPl.yet hY; ld_all (hX.bt 4 rfl) 22 _ Try.underlying22 rfl 16 HK.out row16)⟩) BJ.out ?_
  try simp only [putz]
  refine Goes.take (i := 8) (o := ⟨some 23, _, _, _, _, _⟩) [] rfl (by as_aux_lemma => kernel_rfl) (by as_aux_lemma => kernel_rfl) (by as_aux_lemma => kernel_rfl) (fun _ _ _ h => h) (by as_aux_lemma => kernel_rfl) (fun L u h => h) (Or.inl ⟨by rfl, fun u hY => y_ld _ _ rfl _ _ rfl (have hX := SPl.yet hY; ld_all (hX.bt 3 rfl) 22 _ Try.underlying22 rfl 16 HA.out row16)⟩) BJ.out ?_
  try simp only [putz]
  refine Goes.take (i := 11) (o := ⟨some 26, _, _, _, _, _⟩) [] rfl (by as_aux_lemma => kernel_rfl) (by as_aux_lemma => kernel_rfl) (by as_aux_lemma => kernel_rfl) (fun _ _ _ h => h) (by as_aux_lemma => kernel_rfl) (fun L u h => h) (Or.inl ⟨by rfl, fun u hY => y_ld _ _ rfl _ _ rfl (have hX := SPl.yet hY; ld_all (hX.bt 3 rfl) 22 _ Try.underlying22 rfl 16 HA.out row16)⟩) BJ.out ?_
  try simp only [putz]
  refine Goes.one (i := 9) (o := ⟨some 24, _, _, _, _, _⟩) (by as_aux_lemma => kernel_rfl) rfl (fun K hK => ?_)
  rw [if_pos (by kernel_rfl)]
  go_simp
  with_reducible refine (back_any key a _ HK.out HA.out).mono ?_
  rintro e wb ⟨rfl, hba⟩
  have BJ := hid (BJ.out.on hba)
  clear hba
  go_wp2_with fail
  refine hK.out _ _ BJ.out ?_
  clear hK K
  try simp only [putz]
  refine Goes.one (i := 10) (o := ⟨some 25, _, _, _, _, _⟩) (by as_aux_lemma => kernel_rfl) rfl (fun K hK => ?_)
  rw [if_pos (by kernel_rfl)]
  go_simp
  with_reducible refine (block_any key (dec key a) _ HK.out (dec_length _ _)).mono ?_
  rintro e wc ⟨rfl, hba⟩
  have BJ := hid (BJ.out.on hba)
  clear hba
  rw [enc_dec key a HA.out]
  go_wp2_with fail
  refine hK.out _ _ BJ.out ?_
  clear hK K
  try simp only [putz]
  refine Goes.take (i := 12) (o := ⟨some 27, _, _, _, _, _⟩) (v := ?_) [] rfl (by as_aux_lemma => kernel_rfl) (by as_aux_lemma => kernel_rfl) (by as_aux_lemma => kernel_rfl) (fun _ _ _ h => h) (by as_aux_lemma => kernel_rfl) (fun L u h => h) (Or.inl ⟨by rfl, ?_⟩) BJ.out ?_
  rotate_left
  · intro u hY; go_simp; try with_reducible rfl
  try simp only [putz]
  refine Goes.take (i := 13) (o := ⟨some 28, _, _, _, _, _⟩) (v := ?_) [] rfl (by as_aux_lemma => kernel_rfl) (by as_aux_lemma => kernel_rfl) (by as_aux_lemma => kernel_rfl) (fun _ _ _ h => h) (by as_aux_lemma => kernel_rfl) (fun L u h => h) (Or.inl ⟨by rfl, ?_⟩) BJ.out ?_
  rotate_left
  · intro u hY; go_simp; try with_reducible rfl
  try simp only [putz]
  refine Goes.take (i := 14) (o := ⟨some 29, _, _, _, _, _⟩) (v := ?_) [] rfl (by as_aux_lemma => kernel_rfl) (by as_aux_lemma => kernel_rfl) (by as_aux_lemma => kernel_rfl) (fun _ _ _ h => h) (by as_aux_lemma => kernel_rfl) (fun L u h => h) (Or.inl ⟨by rfl, ?_⟩) BJ.out ?_
  rotate_left
  · intro u hY; go_simp; try with_reducible rfl
  try simp only [putz]
  refine Goes.take (i := 15) (o := ⟨some 30, _, _, _, _, _⟩) [] rfl (by as_aux_lemma => kernel_rfl) (by as_aux_lemma => kernel_rfl) (by as_aux_lemma => kernel_rfl) (fun _ _ _ h => h) (by as_aux_lemma => kernel_rfl) (fun L u h => h) (Or.inl ⟨by rfl, fun u hY => y_ld _ _ rfl _ _ rfl (have hX := SPl.yet hY; ld_all (hX.bt 1 rfl) 22 _ Try.underlying22 rfl 16 (enc_length _ _) row16)⟩) BJ.out ?_
  try simp only [putz]
  refine Goes.take (i := 16) (o := ⟨some 31, _, _, _, _, _⟩) [] rfl (by as_aux_lemma => kernel_rfl) (by as_aux_lemma => kernel_rfl) (by as_aux_lemma => kernel_rfl) (fun _ _ _ h => h) (by as_aux_lemma => kernel_rfl) (fun L u h => h) (Or.inl ⟨by rfl, fun u hY => y_ld _ _ rfl _ _ rfl (have hX := SPl.yet hY; ld_all (hX.bt 0 rfl) 22 _ Try.underlying22 rfl 16 (enc_length _ _) row16)⟩) BJ.out ?_
  try simp only [putz]
  refine Goes.take (i := 17) (o := ⟨some 32, _, _, _, _, _⟩) (v := ?_) [] rfl (by as_aux_lemma => kernel_rfl) (by as_aux_lemma => kernel_rfl) (by as_aux_lemma => kernel_rfl) (fun _ _ _ h => h) (by as_aux_lemma => kernel_rfl) (fun L u h => h) (Or.inl ⟨by rfl, ?_⟩) BJ.out ?_
  rotate_left
  · intro u hY; go_simp; try with_reducible rfl
  try simp only [putz]
  refine Goes.take (i := 18) (o := ⟨some 33, _, _, _, _, _⟩) [] rfl (by as_aux_lemma => kernel_rfl) (by as_aux_lemma => kernel_rfl) (by as_aux_lemma => kernel_rfl) (fun _ _ _ h => h) (by as_aux_lemma => kernel_rfl) (fun L u h => h) (Or.inl ⟨by rfl, fun u hY => y_ld _ _ rfl _ _ rfl (have hX := SPl.yet hY; ld_all (hX.bt 3 rfl) 22 _ Try.underlying22 rfl 16 HA.out row16)⟩) BJ.out ?_
  try simp only [putz]
  refine Goes.take (i := 19) (o := ⟨some 34, _, _, _, _, _⟩) [] rfl (by as_aux_lemma => kernel_rfl) (by as_aux_lemma => kernel_rfl) (by as_aux_lemma => kernel_rfl) (fun _ _ _ h => h) (by as_aux_lemma => kernel_rfl) (fun L u h => h) (Or.inl ⟨by rfl, fun u hY => y_ld _ _ rfl _ _ rfl (have hX := SPl.yet hY; ld_all (hX.bt 2 rfl) 22 _ Try.underlying22 rfl 16 HB.out row16)⟩) BJ.out ?_
  try simp only [putz]
  refine Goes.take (i := 20) (o := ⟨some 35, _, _, _, _, _⟩) (v := ?_) [] rfl (by as_aux_lemma => kernel_rfl) (by as_aux_lemma => kernel_rfl) (by as_aux_lemma => kernel_rfl) (fun _ _ _ h => h) (by as_aux_lemma => kernel_rfl) (fun L u h => h) (Or.inl ⟨by rfl, ?_⟩) BJ.out ?_
  rotate_left
  · intro u hY; go_simp; try with_reducible rfl
  try simp only [putz]
  refine Goes.take (i := 21) (o := ⟨some 36, _, _, _, _, _⟩) (v := ?_) [] rfl (by as_aux_lemma => kernel_rfl) (by as_aux_lemma => kernel_rfl) (by as_aux_lemma => kernel_rfl) (fun _ _ _ h => h) (by as_aux_lemma => kernel_rfl) (fun L u h => h) (Or.inl ⟨by rfl, ?_⟩) BJ.out ?_
  rotate_left
  · intro u hY; go_simp; try with_reducible rfl
  try simp only [putz]
  refine Goes.take (i := 22) (o := ⟨some 37, _, _, _, _, _⟩) (v := ?_) [] rfl (by as_aux_lemma => kernel_rfl) (by as_aux_lemma => kernel_rfl) (by as_aux_lemma => kernel_rfl) (fun _ _ _ h => h) (by as_aux_lemma => kernel_rfl) (fun L u h => h) (Or.inl ⟨by rfl, ?_⟩) BJ.out ?_
  rotate_left
  · intro u hY; go_simp; try with_reducible rfl
  try simp only [putz]
  refine Goes.take (i := 23) (o := ⟨some 38, _, _, _, _, _⟩) (v := ?_) [] rfl (by as_aux_lemma => kernel_rfl) (by as_aux_lemma => kernel_rfl) (by as_aux_lemma => kernel_rfl) (fun _ _ _ h => h) (by as_aux_lemma => kernel_rfl) (fun L u h => h) (Or.inl ⟨by rfl, ?_⟩) BJ.out ?_
  rotate_left
  · intro u hY; go_simp; try with_reducible rfl
  try simp only [putz]
  refine Goes.one (i := 24) (o := ⟨some 39, _, _, _, _, _⟩) (by as_aux_lemma => kernel_rfl) rfl (fun K hK => ?_)
  rw [if_pos (by kernel_rfl)]
  go_simp
  with_reducible refine (lives_any _).mono ?_
  rintro e wd ⟨rfl, hba⟩
  have BJ := hid (BJ.out.on hba)
  clear hba
  go_wp2_with fail
  refine hK.out _ _ BJ.out ?_
  clear hK K
  try simp only [putz]
  refine Goes.take (i := 25) (o := ⟨some 40, _, _, _, _, _⟩) (v := ?_) [] rfl (by as_aux_lemma => kernel_rfl) (by as_aux_lemma => kernel_rfl) (by as_aux_lemma => kernel_rfl) (fun _ _ _ h => h) (by as_aux_lemma => kernel_rfl) (fun L u h => h) (Or.inl ⟨by rfl, ?_⟩) BJ.out ?_
  rotate_left
  · intro u hY; go_simp; try with_reducible rfl
  try simp only [putz]
  refine Goes.take (i := 26) (o := ⟨some 6, _, _, _, _, _⟩) (v := ?_) [] rfl (by as_aux_lemma => kernel_rfl) (by as_aux_lemma => kernel_rfl) (by as_aux_lemma => kernel_rfl) (fun _ _ _ h => h) (by as_aux_lemma => kernel_rfl) (fun L u h => h) (Or.inl ⟨by rfl, ?_⟩) BJ.out ?_
  rotate_left
  · intro u hY; go_simp; try with_reducible rfl
  try simp only [putz]
  refine Goes.done (by as_aux_lemma => kernel_rfl) ?_ _
  refine NoPanic.normal ?_
  go_wp2
  go_ret
  exact ⟨rfl, BJ.out.below⟩
end Go.Proofs.Ytbccnkjfjlmflaa
