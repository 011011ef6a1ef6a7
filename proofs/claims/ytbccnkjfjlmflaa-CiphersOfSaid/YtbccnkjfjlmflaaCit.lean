/-
  burrowlaw09.CiphersOf, walked: it answers true. Conditions: none.
-/
import Derived.Test.YtbccnkjfjlmflaaCrf
import Derived.Test.YtbccnkjfjlmflaaCre
import Derived.Test.YtbccnkjfjlmflaaCio
import Derived.Test.YtbccnkjfjlmflaaEqa
namespace Go.Proofs.Ytbccnkjfjlmflaa
open Go.RowKit
set_option linter.unusedVariables false
set_option linter.unusedSimpArgs false

theorem Bx.got {w w' w2 : World} {l : List (Nat × TypeId × List UInt8)} (h : Bx w l w') (g : Nat) (t : TypeId) (b : List UInt8) (hb : Below w'.heap.size w' w2) (hg : w'.heap.size ≤ g) (ht : Bt w2 g t b) : Bx w ((g, t, b) :: l) w2 := by
  refine ⟨(h.on hb).below, List.pairwise_cons.2 ⟨fun y hy => ?_, h.sep⟩, fun x hx => ?_⟩
  · have := (h.all y hy).2.lt
    show g ≠ y.1
    omega
  · rcases List.mem_cons.1 hx with rfl | hx
    · exact ⟨Nat.le_trans h.below.size hg, ht⟩
    · exact ⟨(h.all x hx).1, (h.all x hx).2.on hb⟩
set_option maxRecDepth 100000 in
set_option maxHeartbeats 4000000 in
theorem of_law (key b : List UInt8) (w : World) (hk : key.length = 16) (hb : b.length = 16) :
    Calls Try.prog 3 #[.agg (bvs key).toArray, .agg (bvs b).toArray] w fun e w' => e = .returned (.bool true) ∧ Below w.heap.size w w' := by
  have HK := hid hk
  have HB := hid hb
  clear hk hb
  have B1 := hid (bx2 w 22 22 key b)
  go_enter Try.func3, Try.ntmps3
  go_upto_region 1 with fail
  generalize (w.alloc (.cells (bvs key).toArray 22)).alloc (.cells (bvs b).toArray 22) = w1 at *
  go_wp2_with fail
  refine (newBox_any _).mono ?_
  rintro e w2 ⟨g, rfl, hq⟩
  have BJ := hid (B1.out.got g 43 SI hq.out.2.2 hq.out.2.1 hq.out.1)
  clear hq B1
  go_upto_region 2 with fail
  have q1 : ∀ W, (Op.equalIn 10000 22 (.agg (bvs (enc key b)).toArray) (.agg (bvs (enc key b)).toArray)).run Try.prog W = .ok true W := fun W => by rw [eq_arr 22 16 Try.underlying22 _ _ (enc_length _ _) (enc_length _ _) W]; simp
  have q2 : ∀ W, (Op.equalIn 10000 22 (.agg (bvs (dec key b)).toArray) (.agg (bvs (dec key b)).toArray)).run Try.prog W = .ok true W := fun W => by rw [eq_arr 22 16 Try.underlying22 _ _ (dec_length _ _) (dec_length _ _) W]; simp
  refine wp_region_noPanic ?_
  refine Goes.region (fun (_ : Array Bool) (u : World) => Bx w [(g, 43, SI), (w.heap.size + 1, 22, b), (w.heap.size, 22, key)] u) (by as_aux_lemma => kernel_rfl) ?_
  have BJ := hid (BJ.out.drew)
  refine Goes.take (i := 0) (o := ⟨some 7, _, _, _, _, _⟩) [] rfl (by as_aux_lemma => kernel_rfl) (by as_aux_lemma => kernel_rfl) (by as_aux_lemma => kernel_rfl) (fun _ _ _ h => h) (by as_aux_lemma => kernel_rfl) (fun L u h => h) (Or.inl ⟨by rfl, fun u hY => y_ld _ _ rfl _ _ rfl (have hX := SPl.yet hY; ld_all (hX.bt 2 rfl) 22 _ Try.underlying22 rfl 16 HK.out row16)⟩) BJ.out ?_
  try simp only [putz]
  refine Goes.take (i := 1) (o := ⟨some 8, _, _, _, _, _⟩) [] rfl (by as_aux_lemma => kernel_rfl) (by as_aux_lemma => kernel_rfl) (by as_aux_lemma => kernel_rfl) (fun _ _ _ h => h) (by as_aux_lemma => kernel_rfl) (fun L u h => h) (Or.inl ⟨by rfl, fun u hY => y_ld _ _ rfl _ _ rfl (have hX := SPl.yet hY; ld_all (hX.bt 1 rfl) 22 _ Try.underlying22 rfl 16 HB.out row16)⟩) BJ.out ?_
  try simp only [putz]
  refine Goes.take (i := 3) (o := ⟨some 10, _, _, _, _, _⟩) (v := ?_) [] rfl (by as_aux_lemma => kernel_rfl) (by as_aux_lemma => kernel_rfl) (by as_aux_lemma => kernel_rfl) (fun _ _ _ h => h) (by as_aux_lemma => kernel_rfl) (fun L u h => h) (Or.inl ⟨by rfl, ?_⟩) BJ.out ?_
  rotate_left
  · intro u hY; go_simp; try with_reducible rfl
  try simp only [putz]
  refine Goes.take (i := 4) (o := ⟨some 11, _, _, _, _, _⟩) [] rfl (by as_aux_lemma => kernel_rfl) (by as_aux_lemma => kernel_rfl) (by as_aux_lemma => kernel_rfl) (fun _ _ _ h => h) (by as_aux_lemma => kernel_rfl) (fun L u h => h) (Or.inl ⟨by rfl, fun u hY => y_ld _ _ rfl _ _ rfl (have hX := SPl.yet hY; ld_all (hX.bt 2 rfl) 22 _ Try.underlying22 rfl 16 HK.out row16)⟩) BJ.out ?_
  try simp only [putz]
  refine Goes.take (i := 5) (o := ⟨some 12, _, _, _, _, _⟩) [] rfl (by as_aux_lemma => kernel_rfl) (by as_aux_lemma => kernel_rfl) (by as_aux_lemma => kernel_rfl) (fun _ _ _ h => h) (by as_aux_lemma => kernel_rfl) (fun L u h => h) (Or.inl ⟨by rfl, fun u hY => y_ld _ _ rfl _ _ rfl (have hX := SPl.yet hY; ld_all (hX.bt 1 rfl) 22 _ Try.underlying22 rfl 16 HB.out row16)⟩) BJ.out ?_
  try simp only [putz]
  refine Goes.one (i := 2) (o := ⟨some 9, _, _, _, _, _⟩) (by as_aux_lemma => kernel_rfl) rfl (fun K hK => ?_)
  go_simp
  with_reducible refine (block_any key b _ HK.out HB.out).mono ?_
  rintro e wa ⟨rfl, hba⟩
  have BJ := hid (BJ.out.on hba)
  clear hba
  go_wp2_with fail
  refine hK.out _ _ BJ.out ?_
  clear hK K
  try simp only [putz]
  refine Goes.one (i := 6) (o := ⟨some 13, _, _, _, _, _⟩) (by as_aux_lemma => kernel_rfl) rfl (fun K hK => ?_)
  go_simp
  with_reducible refine (rblock_any g key b _ (BJ.out.bt 0 rfl) HK.out HB.out).mono ?_
  rintro e wb ⟨rfl, hba⟩
  have BJ := hid (BJ.out.on hba)
  clear hba
  go_wp2_with fail
  refine hK.out _ _ BJ.out ?_
  clear hK K
  try simp only [putz]
  refine Goes.take (i := 7) (o := ⟨some 14, _, _, _, _, _⟩) (v := ?_) [] rfl (by as_aux_lemma => kernel_rfl) (by as_aux_lemma => kernel_rfl) (by as_aux_lemma => kernel_rfl) (fun _ _ _ h => h) (by as_aux_lemma => kernel_rfl) (fun L u h => h) (Or.inl ⟨by rfl, ?_⟩) BJ.out ?_
  rotate_left
  · intro u hY; go_simp; try with_reducible rfl
  try simp only [putz]
  refine Goes.take (i := 8) (o := ⟨some 15, _, _, _, _, _⟩) (v := ?_) [] rfl (by as_aux_lemma => kernel_rfl) (by as_aux_lemma => kernel_rfl) (by as_aux_lemma => kernel_rfl) (fun _ _ _ h => h) (by as_aux_lemma => kernel_rfl) (fun L u h => h) (Or.inl ⟨by rfl, ?_⟩) BJ.out ?_
  rotate_left
  · intro u hY; go_simp; try with_reducible rfl
  try simp only [putz]
  refine Goes.take (i := 9) (o := ⟨some 16, _, _, _, _, _⟩) [] rfl (by as_aux_lemma => kernel_rfl) (by as_aux_lemma => kernel_rfl) (by as_aux_lemma => kernel_rfl) (fun _ _ _ h => h) (by as_aux_lemma => kernel_rfl) (fun L u h => h) (Or.inl ⟨by rfl, fun u hY => y_ld _ _ rfl _ _ rfl (have hX := SPl.yet hY; ld_all (hX.bt 2 rfl) 22 _ Try.underlying22 rfl 16 HK.out row16)⟩) BJ.out ?_
  try simp only [putz]
  refine Goes.take (i := 10) (o := ⟨some 17, _, _, _, _, _⟩) [] rfl (by as_aux_lemma => kernel_rfl) (by as_aux_lemma => kernel_rfl) (by as_aux_lemma => kernel_rfl) (fun _ _ _ h => h) (by as_aux_lemma => kernel_rfl) (fun L u h => h) (Or.inl ⟨by rfl, fun u hY => y_ld _ _ rfl _ _ rfl (have hX := SPl.yet hY; ld_all (hX.bt 1 rfl) 22 _ Try.underlying22 rfl 16 HB.out row16)⟩) BJ.out ?_
  try simp only [putz]
  refine Goes.take (i := 12) (o := ⟨some 19, _, _, _, _, _⟩) (v := ?_) [] rfl (by as_aux_lemma => kernel_rfl) (by as_aux_lemma => kernel_rfl) (by as_aux_lemma => kernel_rfl) (fun _ _ _ h => h) (by as_aux_lemma => kernel_rfl) (fun L u h => h) (Or.inl ⟨by rfl, ?_⟩) BJ.out ?_
  rotate_left
  · intro u hY; go_simp; try with_reducible rfl
  try simp only [putz]
  refine Goes.take (i := 13) (o := ⟨some 20, _, _, _, _, _⟩) [] rfl (by as_aux_lemma => kernel_rfl) (by as_aux_lemma => kernel_rfl) (by as_aux_lemma => kernel_rfl) (fun _ _ _ h => h) (by as_aux_lemma => kernel_rfl) (fun L u h => h) (Or.inl ⟨by rfl, fun u hY => y_ld _ _ rfl _ _ rfl (have hX := SPl.yet hY; ld_all (hX.bt 2 rfl) 22 _ Try.underlying22 rfl 16 HK.out row16)⟩) BJ.out ?_
  try simp only [putz]
  refine Goes.take (i := 14) (o := ⟨some 21, _, _, _, _, _⟩) [] rfl (by as_aux_lemma => kernel_rfl) (by as_aux_lemma => kernel_rfl) (by as_aux_lemma => kernel_rfl) (fun _ _ _ h => h) (by as_aux_lemma => kernel_rfl) (fun L u h => h) (Or.inl ⟨by rfl, fun u hY => y_ld _ _ rfl _ _ rfl (have hX := SPl.yet hY; ld_all (hX.bt 1 rfl) 22 _ Try.underlying22 rfl 16 HB.out row16)⟩) BJ.out ?_
  try simp only [putz]
  refine Goes.one (i := 11) (o := ⟨some 18, _, _, _, _, _⟩) (by as_aux_lemma => kernel_rfl) rfl (fun K hK => ?_)
  rw [if_pos (by kernel_rfl)]
  go_simp
  with_reducible refine (back_any key b _ HK.out HB.out).mono ?_
  rintro e wc ⟨rfl, hba⟩
  have BJ := hid (BJ.out.on hba)
  clear hba
  go_wp2_with fail
  refine hK.out _ _ BJ.out ?_
  clear hK K
  try simp only [putz]
  refine Goes.one (i := 15) (o := ⟨some 22, _, _, _, _, _⟩) (by as_aux_lemma => kernel_rfl) rfl (fun K hK => ?_)
  rw [if_pos (by kernel_rfl)]
  go_simp
  with_reducible refine (rback_any g key b _ (BJ.out.bt 0 rfl) HK.out HB.out).mono ?_
  rintro e wd ⟨rfl, hba⟩
  have BJ := hid (BJ.out.on hba)
  clear hba
  go_wp2_with fail
  refine hK.out _ _ BJ.out ?_
  clear hK K
  try simp only [putz]
  refine Goes.take (i := 16) (o := ⟨some 23, _, _, _, _, _⟩) (v := ?_) [] rfl (by as_aux_lemma => kernel_rfl) (by as_aux_lemma => kernel_rfl) (by as_aux_lemma => kernel_rfl) (fun _ _ _ h => h) (by as_aux_lemma => kernel_rfl) (fun L u h => h) (Or.inl ⟨by rfl, ?_⟩) BJ.out ?_
  rotate_left
  · intro u hY; go_simp; try with_reducible rfl
  try simp only [putz]
  refine Goes.take (i := 17) (o := ⟨some 24, _, _, _, _, _⟩) (v := ?_) [] rfl (by as_aux_lemma => kernel_rfl) (by as_aux_lemma => kernel_rfl) (by as_aux_lemma => kernel_rfl) (fun _ _ _ h => h) (by as_aux_lemma => kernel_rfl) (fun L u h => h) (Or.inl ⟨by rfl, ?_⟩) BJ.out ?_
  rotate_left
  · intro u hY; go_simp; try with_reducible rfl
  try simp only [putz]
  refine Goes.take (i := 18) (o := ⟨some 25, _, _, _, _, _⟩) (v := ?_) [] rfl (by as_aux_lemma => kernel_rfl) (by as_aux_lemma => kernel_rfl) (by as_aux_lemma => kernel_rfl) (fun _ _ _ h => h) (by as_aux_lemma => kernel_rfl) (fun L u h => h) (Or.inl ⟨by rfl, ?_⟩) BJ.out ?_
  rotate_left
  · intro u hY; go_simp; try with_reducible rfl
  try simp only [putz]
  refine Goes.one (i := 19) (o := ⟨some 26, _, _, _, _, _⟩) (by as_aux_lemma => kernel_rfl) rfl (fun K hK => ?_)
  rw [if_pos (by kernel_rfl)]
  go_simp
  with_reducible refine (lives_any _).mono ?_
  rintro e we ⟨rfl, hba⟩
  have BJ := hid (BJ.out.on hba)
  clear hba
  go_wp2_with fail
  refine hK.out _ _ BJ.out ?_
  clear hK K
  try simp only [putz]
  refine Goes.take (i := 20) (o := ⟨some 27, _, _, _, _, _⟩) (v := ?_) [] rfl (by as_aux_lemma => kernel_rfl) (by as_aux_lemma => kernel_rfl) (by as_aux_lemma => kernel_rfl) (fun _ _ _ h => h) (by as_aux_lemma => kernel_rfl) (fun L u h => h) (Or.inl ⟨by rfl, ?_⟩) BJ.out ?_
  rotate_left
  · intro u hY; go_simp; try with_reducible rfl
  try simp only [putz]
  refine Goes.take (i := 21) (o := ⟨some 4, _, _, _, _, _⟩) (v := ?_) [] rfl (by as_aux_lemma => kernel_rfl) (by as_aux_lemma => kernel_rfl) (by as_aux_lemma => kernel_rfl) (fun _ _ _ h => h) (by as_aux_lemma => kernel_rfl) (fun L u h => h) (Or.inl ⟨by rfl, ?_⟩) BJ.out ?_
  rotate_left
  · intro u hY; go_simp; try with_reducible rfl
  try simp only [putz]
  refine Goes.done (by as_aux_lemma => kernel_rfl) ?_ _
  refine NoPanic.normal ?_
  go_wp2
  go_ret
  exact ⟨rfl, BJ.out.below⟩
end Go.Proofs.Ytbccnkjfjlmflaa
