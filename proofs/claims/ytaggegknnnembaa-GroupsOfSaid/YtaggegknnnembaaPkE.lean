/-
  burrowref04.May, times, walked. Conditions: none of its own.
  burrowref04.Mul, Add, Sub, walked. Conditions: none of its own.
-/
import Derived.Test.YtaggegknnnembaaPkD
import Derived.Test.YtaggegknnnembaaPkC
import Derived.Test.YtaggegknnnembaaModNumber
namespace Go.Proofs.Ytaggegknnnembaa
open Go.RowKit
set_option linter.unusedVariables false

set_option maxRecDepth 100000 in
set_option maxHeartbeats 4000000 in
theorem rmay_a (a b m : Nat) (w : World) (ha : a < 2 ^ 256) (hb : b < 2 ^ 256) (hm : m < 2 ^ 256) (hv : ¬ 1 < m) : Calls Try.prog 44 #[num a, num b, num m] w fun e w' => e = .returned (.bool false) ∧ Below w.heap.size w w' := by
  obtain ⟨c1, ec1⟩ : ∃ z, cmpN m 1 = z := ⟨_, rfl⟩
  have Nc1 := hid (show decide (0 < c1) = false from decide_eq_false (by rw [← ec1]; unfold cmpN; split <;> (try split) <;> omega))
  have Ec1 := hid ec1
  clear ec1
  have HA := hid ha
  have HB := hid hb
  have HM := hid hm
  clear ha hb hm hv
  have H0 := hid (((((Env.refl w).new a).new b).new m).perm (l' := [(w.heap.size + 1 + 1, m), (w.heap.size + 1, b), (w.heap.size, a)]) (by simp))
  go_enter Try.func44, Try.ntmps44
  go_upto_region 1 with fail
  generalize ((w.alloc (.cells (cls a) 24)).alloc (.cells (cls b) 24)).alloc (.cells (cls m) 24) = w0 at *
  generalize w.heap.size + 1 + 1 = g_c at *
  generalize w.heap.size + 1 = g_b at *
  generalize hzg_a : w.heap.size = g_a at *
  have hs := H0.out.drew
  refine wp_region_noPanic ?_
  refine Goes.region (fun (L : Array Bool) (w' : World) => w'.cell? ⟨g_a, 0, none⟩ = some (.int .u64 (wd (a) 0 : Int)) ∧ w'.cell? ⟨g_a, 1, none⟩ = some (.int .u64 (wd (a) 1 : Int)) ∧ w'.cell? ⟨g_a, 2, none⟩ = some (.int .u64 (wd (a) 2 : Int)) ∧ w'.cell? ⟨g_a, 3, none⟩ = some (.int .u64 (wd (a) 3 : Int)) ∧ w'.cell? ⟨g_b, 0, none⟩ = some (.int .u64 (wd (b) 0 : Int)) ∧ w'.cell? ⟨g_b, 1, none⟩ = some (.int .u64 (wd (b) 1 : Int)) ∧ w'.cell? ⟨g_b, 2, none⟩ = some (.int .u64 (wd (b) 2 : Int)) ∧ w'.cell? ⟨g_b, 3, none⟩ = some (.int .u64 (wd (b) 3 : Int)) ∧ w'.cell? ⟨g_c, 0, none⟩ = some (.int .u64 (wd (m) 0 : Int)) ∧ w'.cell? ⟨g_c, 1, none⟩ = some (.int .u64 (wd (m) 1 : Int)) ∧ w'.cell? ⟨g_c, 2, none⟩ = some (.int .u64 (wd (m) 2 : Int)) ∧ w'.cell? ⟨g_c, 3, none⟩ = some (.int .u64 (wd (m) 3 : Int))) (by kernel_rfl) ?_
  generalize w0.drew = wdr at *
  refine Goes.tk (i := 0) (o := ⟨some 7, _, _, _, _, _⟩) (v := ?_) [] (y := Or.inl ⟨by rfl, ?_⟩) (s := ⟨(Env.cell hs g_a (a) (by simp)).1, (Env.cell hs g_a (a) (by simp)).2.1, (Env.cell hs g_a (a) (by simp)).2.2.1, (Env.cell hs g_a (a) (by simp)).2.2.2, (Env.cell hs g_b (b) (by simp)).1, (Env.cell hs g_b (b) (by simp)).2.1, (Env.cell hs g_b (b) (by simp)).2.2.1, (Env.cell hs g_b (b) (by simp)).2.2.2, (Env.cell hs g_c (m) (by simp)).1, (Env.cell hs g_c (m) (by simp)).2.1, (Env.cell hs g_c (m) (by simp)).2.2.1, (Env.cell hs g_c (m) (by simp)).2.2.2⟩) (H := ?_)
  rotate_left
  · rintro w ⟨up, -, hX⟩; (try dsimp only at hX); obtain ⟨x0, x1, x2, x3, x4, x5, x6, x7, x8, x9, x10, x11⟩ := hX; go_simp; try with_reducible rfl
  try simp only [putz]
  refine Goes.one (i := 1) (o := ⟨some 8, _, _, _, _, _⟩) (by kernel_rfl) rfl (fun K hK => ?_)
  go_simp
  with_reducible refine (env_of (rof_b 1 1 _ (by decide) rfl) hs).mono ?_
  rintro e wn1 ⟨rfl, hs1⟩
  go_wp2_with fail
  refine hK.out _ _ (⟨(Env.cell hs1 g_a (a) (by simp)).1, (Env.cell hs1 g_a (a) (by simp)).2.1, (Env.cell hs1 g_a (a) (by simp)).2.2.1, (Env.cell hs1 g_a (a) (by simp)).2.2.2, (Env.cell hs1 g_b (b) (by simp)).1, (Env.cell hs1 g_b (b) (by simp)).2.1, (Env.cell hs1 g_b (b) (by simp)).2.2.1, (Env.cell hs1 g_b (b) (by simp)).2.2.2, (Env.cell hs1 g_c (m) (by simp)).1, (Env.cell hs1 g_c (m) (by simp)).2.1, (Env.cell hs1 g_c (m) (by simp)).2.2.1, (Env.cell hs1 g_c (m) (by simp)).2.2.2⟩) ?_
  clear hK K
  try simp only [putz]
  clear hs
  have hs := hs1
  clear hs1
  refine Goes.one (i := 2) (o := ⟨some 9, _, _, _, _, _⟩) (by kernel_rfl) rfl (fun K hK => ?_)
  go_simp
  with_reducible refine (env_of (rcmp_c m 1 c1 _ HM.out (by decide) Ec1.out) hs).mono ?_
  rintro e wn2 ⟨rfl, hs2⟩
  go_wp2_with fail
  refine hK.out _ _ (⟨(Env.cell hs2 g_a (a) (by simp)).1, (Env.cell hs2 g_a (a) (by simp)).2.1, (Env.cell hs2 g_a (a) (by simp)).2.2.1, (Env.cell hs2 g_a (a) (by simp)).2.2.2, (Env.cell hs2 g_b (b) (by simp)).1, (Env.cell hs2 g_b (b) (by simp)).2.1, (Env.cell hs2 g_b (b) (by simp)).2.2.1, (Env.cell hs2 g_b (b) (by simp)).2.2.2, (Env.cell hs2 g_c (m) (by simp)).1, (Env.cell hs2 g_c (m) (by simp)).2.1, (Env.cell hs2 g_c (m) (by simp)).2.2.1, (Env.cell hs2 g_c (m) (by simp)).2.2.2⟩) ?_
  clear hK K
  try simp only [putz]
  clear hs
  have hs := hs2
  clear hs2
  have hJJ := hid (And.intro (Env.cell hs g_a (a) (by simp)).1 (And.intro (Env.cell hs g_a (a) (by simp)).2.1 (And.intro (Env.cell hs g_a (a) (by simp)).2.2.1 (And.intro (Env.cell hs g_a (a) (by simp)).2.2.2 (And.intro (Env.cell hs g_b (b) (by simp)).1 (And.intro (Env.cell hs g_b (b) (by simp)).2.1 (And.intro (Env.cell hs g_b (b) (by simp)).2.2.1 (And.intro (Env.cell hs g_b (b) (by simp)).2.2.2 (And.intro (Env.cell hs g_c (m) (by simp)).1 (And.intro (Env.cell hs g_c (m) (by simp)).2.1 (And.intro (Env.cell hs g_c (m) (by simp)).2.2.1 (Env.cell hs g_c (m) (by simp)).2.2.2)))))))))))
  refine Goes.tk (i := 3) (o := ⟨some 10, _, _, _, _, _⟩) (v := ?_) [] (y := Or.inl ⟨by rfl, ?_⟩) (s := hJJ.out) (H := ?_)
  rotate_left
  · intro w hY; go_simp; (try rw [Nc1.out]); try with_reducible rfl
  try simp only [putz]
  refine Goes.tk (i := 4) (o := ⟨some 11, _, _, _, _, _⟩) (v := ?_) [] (y := Or.inl ⟨by rfl, ?_⟩) (s := hJJ.out) (H := ?_)
  rotate_left
  · intro w hY; go_simp; try with_reducible rfl
  try simp only [putz]
  refine Goes.tk (i := 5) (o := ⟨some 12, _, _, _, _, _⟩) [] (y := Or.inr ⟨by rfl, rfl⟩) (s := hJJ.out) (H := ?_)
  try simp only [putz]
  refine Goes.tk (i := 6) (o := ⟨some 13, _, _, _, _, _⟩) [] (y := Or.inr ⟨by rfl, rfl⟩) (s := hJJ.out) (H := ?_)
  try simp only [putz]
  refine Goes.tk (i := 7) (o := ⟨some 14, _, _, _, _, _⟩) [] (y := Or.inr ⟨by rfl, rfl⟩) (s := hJJ.out) (H := ?_)
  try simp only [putz]
  refine Goes.tk (i := 8) (o := ⟨some 15, _, _, _, _, _⟩) [] (y := Or.inr ⟨by rfl, rfl⟩) (s := hJJ.out) (H := ?_)
  try simp only [putz]
  refine Goes.tk (i := 9) (o := ⟨some 16, _, _, _, _, _⟩) (v := ?_) [] (y := Or.inl ⟨by rfl, ?_⟩) (s := hJJ.out) (H := ?_)
  rotate_left
  · intro w hY; go_simp; try with_reducible rfl
  try simp only [putz]
  refine Goes.tk (i := 10) (o := ⟨some 17, _, _, _, _, _⟩) (v := ?_) [] (y := Or.inl ⟨by rfl, ?_⟩) (s := hJJ.out) (H := ?_)
  rotate_left
  · intro w hY; go_simp; try with_reducible rfl
  try simp only [putz]
  refine Goes.tk (i := 11) (o := ⟨some 18, _, _, _, _, _⟩) [] (y := Or.inr ⟨by rfl, rfl⟩) (s := hJJ.out) (H := ?_)
  try simp only [putz]
  refine Goes.tk (i := 12) (o := ⟨some 19, _, _, _, _, _⟩) [] (y := Or.inr ⟨by rfl, rfl⟩) (s := hJJ.out) (H := ?_)
  try simp only [putz]
  refine Goes.tk (i := 13) (o := ⟨some 20, _, _, _, _, _⟩) [] (y := Or.inr ⟨by rfl, rfl⟩) (s := hJJ.out) (H := ?_)
  try simp only [putz]
  refine Goes.tk (i := 14) (o := ⟨some 21, _, _, _, _, _⟩) [] (y := Or.inr ⟨by rfl, rfl⟩) (s := hJJ.out) (H := ?_)
  try simp only [putz]
  refine Goes.tk (i := 15) (o := ⟨some 22, _, _, _, _, _⟩) (v := ?_) [] (y := Or.inl ⟨by rfl, ?_⟩) (s := hJJ.out) (H := ?_)
  rotate_left
  · intro w hY; go_simp; try with_reducible rfl
  try simp only [putz]
  refine Goes.tk (i := 16) (o := ⟨some 6, _, _, _, _, _⟩) (v := ?_) [] (y := Or.inl ⟨by rfl, ?_⟩) (s := hJJ.out) (H := ?_)
  rotate_left
  · intro w hY; go_simp; try with_reducible rfl
  try simp only [putz]
  clear hJJ
  refine Goes.done (by kernel_rfl) ?_ _
  refine NoPanic.normal ?_
  go_wp2_with fail
  exact bodyPost_ret (v := .bool false) (by simp [results, Try.results44, go_sem]) rfl ⟨rfl, hs.1⟩
set_option maxRecDepth 100000 in
set_option maxHeartbeats 4000000 in
theorem rmay_b (a b m : Nat) (w : World) (ha : a < 2 ^ 256) (hb : b < 2 ^ 256) (hm : m < 2 ^ 256) (hv : 1 < m ∧ ¬ a < m) : Calls Try.prog 44 #[num a, num b, num m] w fun e w' => e = .returned (.bool false) ∧ Below w.heap.size w w' := by
  obtain ⟨c1, ec1⟩ : ∃ z, cmpN m 1 = z := ⟨_, rfl⟩
  have Nc1 := hid (show decide (0 < c1) = true from decide_eq_true (by rw [← ec1]; unfold cmpN; split <;> (try split) <;> omega))
  have Ec1 := hid ec1
  clear ec1
  obtain ⟨c2, ec2⟩ : ∃ z, cmpN a m = z := ⟨_, rfl⟩
  have Nc2 := hid (show decide (c2 < 0) = false from decide_eq_false (by rw [← ec2]; unfold cmpN; split <;> (try split) <;> omega))
  have Ec2 := hid ec2
  clear ec2
  have HA := hid ha
  have HB := hid hb
  have HM := hid hm
  clear ha hb hm hv
  have H0 := hid (((((Env.refl w).new a).new b).new m).perm (l' := [(w.heap.size + 1 + 1, m), (w.heap.size + 1, b), (w.heap.size, a)]) (by simp))
  go_enter Try.func44, Try.ntmps44
  go_upto_region 1 with fail
  generalize ((w.alloc (.cells (cls a) 24)).alloc (.cells (cls b) 24)).alloc (.cells (cls m) 24) = w0 at *
  generalize w.heap.size + 1 + 1 = g_c at *
  generalize w.heap.size + 1 = g_b at *
  generalize hzg_a : w.heap.size = g_a at *
  have hs := H0.out.drew
  refine wp_region_noPanic ?_
  refine Goes.region (fun (L : Array Bool) (w' : World) => w'.cell? ⟨g_a, 0, none⟩ = some (.int .u64 (wd (a) 0 : Int)) ∧ w'.cell? ⟨g_a, 1, none⟩ = some (.int .u64 (wd (a) 1 : Int)) ∧ w'.cell? ⟨g_a, 2, none⟩ = some (.int .u64 (wd (a) 2 : Int)) ∧ w'.cell? ⟨g_a, 3, none⟩ = some (.int .u64 (wd (a) 3 : Int)) ∧ w'.cell? ⟨g_b, 0, none⟩ = some (.int .u64 (wd (b) 0 : Int)) ∧ w'.cell? ⟨g_b, 1, none⟩ = some (.int .u64 (wd (b) 1 : Int)) ∧ w'.cell? ⟨g_b, 2, none⟩ = some (.int .u64 (wd (b) 2 : Int)) ∧ w'.cell? ⟨g_b, 3, none⟩ = some (.int .u64 (wd (b) 3 : Int)) ∧ w'.cell? ⟨g_c, 0, none⟩ = some (.int .u64 (wd (m) 0 : Int)) ∧ w'.cell? ⟨g_c, 1, none⟩ = some (.int .u64 (wd (m) 1 : Int)) ∧ w'.cell? ⟨g_c, 2, none⟩ = some (.int .u64 (wd (m) 2 : Int)) ∧ w'.cell? ⟨g_c, 3, none⟩ = some (.int .u64 (wd (m) 3 : Int))) (by kernel_rfl) ?_
  generalize w0.drew = wdr at *
  refine Goes.tk (i := 0) (o := ⟨some 7, _, _, _, _, _⟩) (v := ?_) [] (y := Or.inl ⟨by rfl, ?_⟩) (s := ⟨(Env.cell hs g_a (a) (by simp)).1, (Env.cell hs g_a (a) (by simp)).2.1, (Env.cell hs g_a (a) (by simp)).2.2.1, (Env.cell hs g_a (a) (by simp)).2.2.2, (Env.cell hs g_b (b) (by simp)).1, (Env.cell hs g_b (b) (by simp)).2.1, (Env.cell hs g_b (b) (by simp)).2.2.1, (Env.cell hs g_b (b) (by simp)).2.2.2, (Env.cell hs g_c (m) (by simp)).1, (Env.cell hs g_c (m) (by simp)).2.1, (Env.cell hs g_c (m) (by simp)).2.2.1, (Env.cell hs g_c (m) (by simp)).2.2.2⟩) (H := ?_)
  rotate_left
  · rintro w ⟨up, -, hX⟩; (try dsimp only at hX); obtain ⟨x0, x1, x2, x3, x4, x5, x6, x7, x8, x9, x10, x11⟩ := hX; go_simp; try with_reducible rfl
  try simp only [putz]
  refine Goes.one (i := 1) (o := ⟨some 8, _, _, _, _, _⟩) (by kernel_rfl) rfl (fun K hK => ?_)
  go_simp
  with_reducible refine (env_of (rof_b 1 1 _ (by decide) rfl) hs).mono ?_
  rintro e wn1 ⟨rfl, hs1⟩
  go_wp2_with fail
  refine hK.out _ _ (⟨(Env.cell hs1 g_a (a) (by simp)).1, (Env.cell hs1 g_a (a) (by simp)).2.1, (Env.cell hs1 g_a (a) (by simp)).2.2.1, (Env.cell hs1 g_a (a) (by simp)).2.2.2, (Env.cell hs1 g_b (b) (by simp)).1, (Env.cell hs1 g_b (b) (by simp)).2.1, (Env.cell hs1 g_b (b) (by simp)).2.2.1, (Env.cell hs1 g_b (b) (by simp)).2.2.2, (Env.cell hs1 g_c (m) (by simp)).1, (Env.cell hs1 g_c (m) (by simp)).2.1, (Env.cell hs1 g_c (m) (by simp)).2.2.1, (Env.cell hs1 g_c (m) (by simp)).2.2.2⟩) ?_
  clear hK K
  try simp only [putz]
  clear hs
  have hs := hs1
  clear hs1
  refine Goes.one (i := 2) (o := ⟨some 9, _, _, _, _, _⟩) (by kernel_rfl) rfl (fun K hK => ?_)
  go_simp
  with_reducible refine (env_of (rcmp_c m 1 c1 _ HM.out (by decide) Ec1.out) hs).mono ?_
  rintro e wn2 ⟨rfl, hs2⟩
  go_wp2_with fail
  refine hK.out _ _ (⟨(Env.cell hs2 g_a (a) (by simp)).1, (Env.cell hs2 g_a (a) (by simp)).2.1, (Env.cell hs2 g_a (a) (by simp)).2.2.1, (Env.cell hs2 g_a (a) (by simp)).2.2.2, (Env.cell hs2 g_b (b) (by simp)).1, (Env.cell hs2 g_b (b) (by simp)).2.1, (Env.cell hs2 g_b (b) (by simp)).2.2.1, (Env.cell hs2 g_b (b) (by simp)).2.2.2, (Env.cell hs2 g_c (m) (by simp)).1, (Env.cell hs2 g_c (m) (by simp)).2.1, (Env.cell hs2 g_c (m) (by simp)).2.2.1, (Env.cell hs2 g_c (m) (by simp)).2.2.2⟩) ?_
  clear hK K
  try simp only [putz]
  clear hs
  have hs := hs2
  clear hs2
  have hJJ := hid (And.intro (Env.cell hs g_a (a) (by simp)).1 (And.intro (Env.cell hs g_a (a) (by simp)).2.1 (And.intro (Env.cell hs g_a (a) (by simp)).2.2.1 (And.intro (Env.cell hs g_a (a) (by simp)).2.2.2 (And.intro (Env.cell hs g_b (b) (by simp)).1 (And.intro (Env.cell hs g_b (b) (by simp)).2.1 (And.intro (Env.cell hs g_b (b) (by simp)).2.2.1 (And.intro (Env.cell hs g_b (b) (by simp)).2.2.2 (And.intro (Env.cell hs g_c (m) (by simp)).1 (And.intro (Env.cell hs g_c (m) (by simp)).2.1 (And.intro (Env.cell hs g_c (m) (by simp)).2.2.1 (Env.cell hs g_c (m) (by simp)).2.2.2)))))))))))
  refine Goes.tk (i := 3) (o := ⟨some 10, _, _, _, _, _⟩) (v := ?_) [] (y := Or.inl ⟨by rfl, ?_⟩) (s := hJJ.out) (H := ?_)
  rotate_left
  · intro w hY; go_simp; (try rw [Nc1.out]); try with_reducible rfl
  try simp only [putz]
  refine Goes.tk (i := 4) (o := ⟨some 11, _, _, _, _, _⟩) (v := ?_) [] (y := Or.inl ⟨by rfl, ?_⟩) (s := hJJ.out) (H := ?_)
  rotate_left
  · intro w hY; go_simp; try with_reducible rfl
  try simp only [putz]
  refine Goes.tk (i := 5) (o := ⟨some 12, _, _, _, _, _⟩) (v := ?_) [] (y := Or.inl ⟨by rfl, ?_⟩) (s := hJJ.out) (H := ?_)
  rotate_left
  · rintro w ⟨up, -, hX⟩; (try dsimp only at hX); obtain ⟨x0, x1, x2, x3, x4, x5, x6, x7, x8, x9, x10, x11⟩ := hX; go_simp; try with_reducible rfl
  try simp only [putz]
  refine Goes.tk (i := 6) (o := ⟨some 13, _, _, _, _, _⟩) (v := ?_) [] (y := Or.inl ⟨by rfl, ?_⟩) (s := hJJ.out) (H := ?_)
  rotate_left
  · rintro w ⟨up, -, hX⟩; (try dsimp only at hX); obtain ⟨x0, x1, x2, x3, x4, x5, x6, x7, x8, x9, x10, x11⟩ := hX; go_simp; try with_reducible rfl
  try simp only [putz]
  clear hJJ
  refine Goes.one (i := 7) (o := ⟨some 14, _, _, _, _, _⟩) (by kernel_rfl) rfl (fun K hK => ?_)
  go_simp
  with_reducible refine (env_of (rcmp_c a m c2 _ HA.out HM.out Ec2.out) hs).mono ?_
  rintro e wn3 ⟨rfl, hs3⟩
  go_wp2_with fail
  refine hK.out _ _ (⟨(Env.cell hs3 g_a (a) (by simp)).1, (Env.cell hs3 g_a (a) (by simp)).2.1, (Env.cell hs3 g_a (a) (by simp)).2.2.1, (Env.cell hs3 g_a (a) (by simp)).2.2.2, (Env.cell hs3 g_b (b) (by simp)).1, (Env.cell hs3 g_b (b) (by simp)).2.1, (Env.cell hs3 g_b (b) (by simp)).2.2.1, (Env.cell hs3 g_b (b) (by simp)).2.2.2, (Env.cell hs3 g_c (m) (by simp)).1, (Env.cell hs3 g_c (m) (by simp)).2.1, (Env.cell hs3 g_c (m) (by simp)).2.2.1, (Env.cell hs3 g_c (m) (by simp)).2.2.2⟩) ?_
  clear hK K
  try simp only [putz]
  clear hs
  have hs := hs3
  clear hs3
  have hJJ := hid (And.intro (Env.cell hs g_a (a) (by simp)).1 (And.intro (Env.cell hs g_a (a) (by simp)).2.1 (And.intro (Env.cell hs g_a (a) (by simp)).2.2.1 (And.intro (Env.cell hs g_a (a) (by simp)).2.2.2 (And.intro (Env.cell hs g_b (b) (by simp)).1 (And.intro (Env.cell hs g_b (b) (by simp)).2.1 (And.intro (Env.cell hs g_b (b) (by simp)).2.2.1 (And.intro (Env.cell hs g_b (b) (by simp)).2.2.2 (And.intro (Env.cell hs g_c (m) (by simp)).1 (And.intro (Env.cell hs g_c (m) (by simp)).2.1 (And.intro (Env.cell hs g_c (m) (by simp)).2.2.1 (Env.cell hs g_c (m) (by simp)).2.2.2)))))))))))
  refine Goes.tk (i := 8) (o := ⟨some 15, _, _, _, _, _⟩) (v := ?_) [] (y := Or.inl ⟨by rfl, ?_⟩) (s := hJJ.out) (H := ?_)
  rotate_left
  · intro w hY; go_simp; (try rw [Nc2.out]); try with_reducible rfl
  try simp only [putz]
  refine Goes.tk (i := 9) (o := ⟨some 16, _, _, _, _, _⟩) (v := ?_) [] (y := Or.inl ⟨by rfl, ?_⟩) (s := hJJ.out) (H := ?_)
  rotate_left
  · intro w hY; go_simp; try with_reducible rfl
  try simp only [putz]
  refine Goes.tk (i := 10) (o := ⟨some 17, _, _, _, _, _⟩) (v := ?_) [] (y := Or.inl ⟨by rfl, ?_⟩) (s := hJJ.out) (H := ?_)
  rotate_left
  · intro w hY; go_simp; try with_reducible rfl
  try simp only [putz]
  refine Goes.tk (i := 11) (o := ⟨some 18, _, _, _, _, _⟩) [] (y := Or.inr ⟨by rfl, rfl⟩) (s := hJJ.out) (H := ?_)
  try simp only [putz]
  refine Goes.tk (i := 12) (o := ⟨some 19, _, _, _, _, _⟩) [] (y := Or.inr ⟨by rfl, rfl⟩) (s := hJJ.out) (H := ?_)
  try simp only [putz]
  refine Goes.tk (i := 13) (o := ⟨some 20, _, _, _, _, _⟩) [] (y := Or.inr ⟨by rfl, rfl⟩) (s := hJJ.out) (H := ?_)
  try simp only [putz]
  refine Goes.tk (i := 14) (o := ⟨some 21, _, _, _, _, _⟩) [] (y := Or.inr ⟨by rfl, rfl⟩) (s := hJJ.out) (H := ?_)
  try simp only [putz]
  refine Goes.tk (i := 15) (o := ⟨some 22, _, _, _, _, _⟩) (v := ?_) [] (y := Or.inl ⟨by rfl, ?_⟩) (s := hJJ.out) (H := ?_)
  rotate_left
  · intro w hY; go_simp; try with_reducible rfl
  try simp only [putz]
  refine Goes.tk (i := 16) (o := ⟨some 6, _, _, _, _, _⟩) (v := ?_) [] (y := Or.inl ⟨by rfl, ?_⟩) (s := hJJ.out) (H := ?_)
  rotate_left
  · intro w hY; go_simp; try with_reducible rfl
  try simp only [putz]
  clear hJJ
  refine Goes.done (by kernel_rfl) ?_ _
  refine NoPanic.normal ?_
  go_wp2_with fail
  exact bodyPost_ret (v := .bool false) (by simp [results, Try.results44, go_sem]) rfl ⟨rfl, hs.1⟩
set_option maxRecDepth 100000 in
set_option maxHeartbeats 4000000 in
theorem rmay_c (a b m : Nat) (w : World) (ha : a < 2 ^ 256) (hb : b < 2 ^ 256) (hm : m < 2 ^ 256) (hv : 1 < m ∧ a < m ∧ ¬ b < m) : Calls Try.prog 44 #[num a, num b, num m] w fun e w' => e = .returned (.bool false) ∧ Below w.heap.size w w' := by
  obtain ⟨c1, ec1⟩ : ∃ z, cmpN m 1 = z := ⟨_, rfl⟩
  have Nc1 := hid (show decide (0 < c1) = true from decide_eq_true (by rw [← ec1]; unfold cmpN; split <;> (try split) <;> omega))
  have Ec1 := hid ec1
  clear ec1
  obtain ⟨c2, ec2⟩ : ∃ z, cmpN a m = z := ⟨_, rfl⟩
  have Nc2 := hid (show decide (c2 < 0) = true from decide_eq_true (by rw [← ec2]; unfold cmpN; split <;> (try split) <;> omega))
  have Ec2 := hid ec2
  clear ec2
  obtain ⟨c3, ec3⟩ : ∃ z, cmpN b m = z := ⟨_, rfl⟩
  have Nc3 := hid (show decide (c3 < 0) = false from decide_eq_false (by rw [← ec3]; unfold cmpN; split <;> (try split) <;> omega))
  have Ec3 := hid ec3
  clear ec3
  have HA := hid ha
  have HB := hid hb
  have HM := hid hm
  clear ha hb hm hv
  have H0 := hid (((((Env.refl w).new a).new b).new m).perm (l' := [(w.heap.size + 1 + 1, m), (w.heap.size + 1, b), (w.heap.size, a)]) (by simp))
  go_enter Try.func44, Try.ntmps44
  go_upto_region 1 with fail
  generalize ((w.alloc (.cells (cls a) 24)).alloc (.cells (cls b) 24)).alloc (.cells (cls m) 24) = w0 at *
  generalize w.heap.size + 1 + 1 = g_c at *
  generalize w.heap.size + 1 = g_b at *
  generalize hzg_a : w.heap.size = g_a at *
  have hs := H0.out.drew
  refine wp_region_noPanic ?_
  refine Goes.region (fun (L : Array Bool) (w' : World) => w'.cell? ⟨g_a, 0, none⟩ = some (.int .u64 (wd (a) 0 : Int)) ∧ w'.cell? ⟨g_a, 1, none⟩ = some (.int .u64 (wd (a) 1 : Int)) ∧ w'.cell? ⟨g_a, 2, none⟩ = some (.int .u64 (wd (a) 2 : Int)) ∧ w'.cell? ⟨g_a, 3, none⟩ = some (.int .u64 (wd (a) 3 : Int)) ∧ w'.cell? ⟨g_b, 0, none⟩ = some (.int .u64 (wd (b) 0 : Int)) ∧ w'.cell? ⟨g_b, 1, none⟩ = some (.int .u64 (wd (b) 1 : Int)) ∧ w'.cell? ⟨g_b, 2, none⟩ = some (.int .u64 (wd (b) 2 : Int)) ∧ w'.cell? ⟨g_b, 3, none⟩ = some (.int .u64 (wd (b) 3 : Int)) ∧ w'.cell? ⟨g_c, 0, none⟩ = some (.int .u64 (wd (m) 0 : Int)) ∧ w'.cell? ⟨g_c, 1, none⟩ = some (.int .u64 (wd (m) 1 : Int)) ∧ w'.cell? ⟨g_c, 2, none⟩ = some (.int .u64 (wd (m) 2 : Int)) ∧ w'.cell? ⟨g_c, 3, none⟩ = some (.int .u64 (wd (m) 3 : Int))) (by kernel_rfl) ?_
  generalize w0.drew = wdr at *
  refine Goes.tk (i := 0) (o := ⟨some 7, _, _, _, _, _⟩) (v := ?_) [] (y := Or.inl ⟨by rfl, ?_⟩) (s := ⟨(Env.cell hs g_a (a) (by simp)).1, (Env.cell hs g_a (a) (by simp)).2.1, (Env.cell hs g_a (a) (by simp)).2.2.1, (Env.cell hs g_a (a) (by simp)).2.2.2, (Env.cell hs g_b (b) (by simp)).1, (Env.cell hs g_b (b) (by simp)).2.1, (Env.cell hs g_b (b) (by simp)).2.2.1, (Env.cell hs g_b (b) (by simp)).2.2.2, (Env.cell hs g_c (m) (by simp)).1, (Env.cell hs g_c (m) (by simp)).2.1, (Env.cell hs g_c (m) (by simp)).2.2.1, (Env.cell hs g_c (m) (by simp)).2.2.2⟩) (H := ?_)
  rotate_left
  · rintro w ⟨up, -, hX⟩; (try dsimp only at hX); obtain ⟨x0, x1, x2, x3, x4, x5, x6, x7, x8, x9, x10, x11⟩ := hX; go_simp; try with_reducible rfl
  try simp only [putz]
  refine Goes.one (i := 1) (o := ⟨some 8, _, _, _, _, _⟩) (by kernel_rfl) rfl (fun K hK => ?_)
  go_simp
  with_reducible refine (env_of (rof_b 1 1 _ (by decide) rfl) hs).mono ?_
  rintro e wn1 ⟨rfl, hs1⟩
  go_wp2_with fail
  refine hK.out _ _ (⟨(Env.cell hs1 g_a (a) (by simp)).1, (Env.cell hs1 g_a (a) (by simp)).2.1, (Env.cell hs1 g_a (a) (by simp)).2.2.1, (Env.cell hs1 g_a (a) (by simp)).2.2.2, (Env.cell hs1 g_b (b) (by simp)).1, (Env.cell hs1 g_b (b) (by simp)).2.1, (Env.cell hs1 g_b (b) (by simp)).2.2.1, (Env.cell hs1 g_b (b) (by simp)).2.2.2, (Env.cell hs1 g_c (m) (by simp)).1, (Env.cell hs1 g_c (m) (by simp)).2.1, (Env.cell hs1 g_c (m) (by simp)).2.2.1, (Env.cell hs1 g_c (m) (by simp)).2.2.2⟩) ?_
  clear hK K
  try simp only [putz]
  clear hs
  have hs := hs1
  clear hs1
  refine Goes.one (i := 2) (o := ⟨some 9, _, _, _, _, _⟩) (by kernel_rfl) rfl (fun K hK => ?_)
  go_simp
  with_reducible refine (env_of (rcmp_c m 1 c1 _ HM.out (by decide) Ec1.out) hs).mono ?_
  rintro e wn2 ⟨rfl, hs2⟩
  go_wp2_with fail
  refine hK.out _ _ (⟨(Env.cell hs2 g_a (a) (by simp)).1, (Env.cell hs2 g_a (a) (by simp)).2.1, (Env.cell hs2 g_a (a) (by simp)).2.2.1, (Env.cell hs2 g_a (a) (by simp)).2.2.2, (Env.cell hs2 g_b (b) (by simp)).1, (Env.cell hs2 g_b (b) (by simp)).2.1, (Env.cell hs2 g_b (b) (by simp)).2.2.1, (Env.cell hs2 g_b (b) (by simp)).2.2.2, (Env.cell hs2 g_c (m) (by simp)).1, (Env.cell hs2 g_c (m) (by simp)).2.1, (Env.cell hs2 g_c (m) (by simp)).2.2.1, (Env.cell hs2 g_c (m) (by simp)).2.2.2⟩) ?_
  clear hK K
  try simp only [putz]
  clear hs
  have hs := hs2
  clear hs2
  have hJJ := hid (And.intro (Env.cell hs g_a (a) (by simp)).1 (And.intro (Env.cell hs g_a (a) (by simp)).2.1 (And.intro (Env.cell hs g_a (a) (by simp)).2.2.1 (And.intro (Env.cell hs g_a (a) (by simp)).2.2.2 (And.intro (Env.cell hs g_b (b) (by simp)).1 (And.intro (Env.cell hs g_b (b) (by simp)).2.1 (And.intro (Env.cell hs g_b (b) (by simp)).2.2.1 (And.intro (Env.cell hs g_b (b) (by simp)).2.2.2 (And.intro (Env.cell hs g_c (m) (by simp)).1 (And.intro (Env.cell hs g_c (m) (by simp)).2.1 (And.intro (Env.cell hs g_c (m) (by simp)).2.2.1 (Env.cell hs g_c (m) (by simp)).2.2.2)))))))))))
  refine Goes.tk (i := 3) (o := ⟨some 10, _, _, _, _, _⟩) (v := ?_) [] (y := Or.inl ⟨by rfl, ?_⟩) (s := hJJ.out) (H := ?_)
  rotate_left
  · intro w hY; go_simp; (try rw [Nc1.out]); try with_reducible rfl
  try simp only [putz]
  refine Goes.tk (i := 4) (o := ⟨some 11, _, _, _, _, _⟩) (v := ?_) [] (y := Or.inl ⟨by rfl, ?_⟩) (s := hJJ.out) (H := ?_)
  rotate_left
  · intro w hY; go_simp; try with_reducible rfl
  try simp only [putz]
  refine Goes.tk (i := 5) (o := ⟨some 12, _, _, _, _, _⟩) (v := ?_) [] (y := Or.inl ⟨by rfl, ?_⟩) (s := hJJ.out) (H := ?_)
  rotate_left
  · rintro w ⟨up, -, hX⟩; (try dsimp only at hX); obtain ⟨x0, x1, x2, x3, x4, x5, x6, x7, x8, x9, x10, x11⟩ := hX; go_simp; try with_reducible rfl
  try simp only [putz]
  refine Goes.tk (i := 6) (o := ⟨some 13, _, _, _, _, _⟩) (v := ?_) [] (y := Or.inl ⟨by rfl, ?_⟩) (s := hJJ.out) (H := ?_)
  rotate_left
  · rintro w ⟨up, -, hX⟩; (try dsimp only at hX); obtain ⟨x0, x1, x2, x3, x4, x5, x6, x7, x8, x9, x10, x11⟩ := hX; go_simp; try with_reducible rfl
  try simp only [putz]
  clear hJJ
  refine Goes.one (i := 7) (o := ⟨some 14, _, _, _, _, _⟩) (by kernel_rfl) rfl (fun K hK => ?_)
  go_simp
  with_reducible refine (env_of (rcmp_c a m c2 _ HA.out HM.out Ec2.out) hs).mono ?_
  rintro e wn3 ⟨rfl, hs3⟩
  go_wp2_with fail
  refine hK.out _ _ (⟨(Env.cell hs3 g_a (a) (by simp)).1, (Env.cell hs3 g_a (a) (by simp)).2.1, (Env.cell hs3 g_a (a) (by simp)).2.2.1, (Env.cell hs3 g_a (a) (by simp)).2.2.2, (Env.cell hs3 g_b (b) (by simp)).1, (Env.cell hs3 g_b (b) (by simp)).2.1, (Env.cell hs3 g_b (b) (by simp)).2.2.1, (Env.cell hs3 g_b (b) (by simp)).2.2.2, (Env.cell hs3 g_c (m) (by simp)).1, (Env.cell hs3 g_c (m) (by simp)).2.1, (Env.cell hs3 g_c (m) (by simp)).2.2.1, (Env.cell hs3 g_c (m) (by simp)).2.2.2⟩) ?_
  clear hK K
  try simp only [putz]
  clear hs
  have hs := hs3
  clear hs3
  have hJJ := hid (And.intro (Env.cell hs g_a (a) (by simp)).1 (And.intro (Env.cell hs g_a (a) (by simp)).2.1 (And.intro (Env.cell hs g_a (a) (by simp)).2.2.1 (And.intro (Env.cell hs g_a (a) (by simp)).2.2.2 (And.intro (Env.cell hs g_b (b) (by simp)).1 (And.intro (Env.cell hs g_b (b) (by simp)).2.1 (And.intro (Env.cell hs g_b (b) (by simp)).2.2.1 (And.intro (Env.cell hs g_b (b) (by simp)).2.2.2 (And.intro (Env.cell hs g_c (m) (by simp)).1 (And.intro (Env.cell hs g_c (m) (by simp)).2.1 (And.intro (Env.cell hs g_c (m) (by simp)).2.2.1 (Env.cell hs g_c (m) (by simp)).2.2.2)))))))))))
  refine Goes.tk (i := 8) (o := ⟨some 15, _, _, _, _, _⟩) (v := ?_) [] (y := Or.inl ⟨by rfl, ?_⟩) (s := hJJ.out) (H := ?_)
  rotate_left
  · intro w hY; go_simp; (try rw [Nc2.out]); try with_reducible rfl
  try simp only [putz]
  refine Goes.tk (i := 9) (o := ⟨some 16, _, _, _, _, _⟩) (v := ?_) [] (y := Or.inl ⟨by rfl, ?_⟩) (s := hJJ.out) (H := ?_)
  rotate_left
  · intro w hY; go_simp; try with_reducible rfl
  try simp only [putz]
  refine Goes.tk (i := 10) (o := ⟨some 17, _, _, _, _, _⟩) (v := ?_) [] (y := Or.inl ⟨by rfl, ?_⟩) (s := hJJ.out) (H := ?_)
  rotate_left
  · intro w hY; go_simp; try with_reducible rfl
  try simp only [putz]
  refine Goes.tk (i := 11) (o := ⟨some 18, _, _, _, _, _⟩) (v := ?_) [] (y := Or.inl ⟨by rfl, ?_⟩) (s := hJJ.out) (H := ?_)
  rotate_left
  · rintro w ⟨up, -, hX⟩; (try dsimp only at hX); obtain ⟨x0, x1, x2, x3, x4, x5, x6, x7, x8, x9, x10, x11⟩ := hX; go_simp; try with_reducible rfl
  try simp only [putz]
  refine Goes.tk (i := 12) (o := ⟨some 19, _, _, _, _, _⟩) (v := ?_) [] (y := Or.inl ⟨by rfl, ?_⟩) (s := hJJ.out) (H := ?_)
  rotate_left
  · rintro w ⟨up, -, hX⟩; (try dsimp only at hX); obtain ⟨x0, x1, x2, x3, x4, x5, x6, x7, x8, x9, x10, x11⟩ := hX; go_simp; try with_reducible rfl
  try simp only [putz]
  clear hJJ
  refine Goes.one (i := 13) (o := ⟨some 20, _, _, _, _, _⟩) (by kernel_rfl) rfl (fun K hK => ?_)
  go_simp
  with_reducible refine (env_of (rcmp_c b m c3 _ HB.out HM.out Ec3.out) hs).mono ?_
  rintro e wn4 ⟨rfl, hs4⟩
  go_wp2_with fail
  refine hK.out _ _ (⟨(Env.cell hs4 g_a (a) (by simp)).1, (Env.cell hs4 g_a (a) (by simp)).2.1, (Env.cell hs4 g_a (a) (by simp)).2.2.1, (Env.cell hs4 g_a (a) (by simp)).2.2.2, (Env.cell hs4 g_b (b) (by simp)).1, (Env.cell hs4 g_b (b) (by simp)).2.1, (Env.cell hs4 g_b (b) (by simp)).2.2.1, (Env.cell hs4 g_b (b) (by simp)).2.2.2, (Env.cell hs4 g_c (m) (by simp)).1, (Env.cell hs4 g_c (m) (by simp)).2.1, (Env.cell hs4 g_c (m) (by simp)).2.2.1, (Env.cell hs4 g_c (m) (by simp)).2.2.2⟩) ?_
  clear hK K
  try simp only [putz]
  clear hs
  have hs := hs4
  clear hs4
  have hJJ := hid (And.intro (Env.cell hs g_a (a) (by simp)).1 (And.intro (Env.cell hs g_a (a) (by simp)).2.1 (And.intro (Env.cell hs g_a (a) (by simp)).2.2.1 (And.intro (Env.cell hs g_a (a) (by simp)).2.2.2 (And.intro (Env.cell hs g_b (b) (by simp)).1 (And.intro (Env.cell hs g_b (b) (by simp)).2.1 (And.intro (Env.cell hs g_b (b) (by simp)).2.2.1 (And.intro (Env.cell hs g_b (b) (by simp)).2.2.2 (And.intro (Env.cell hs g_c (m) (by simp)).1 (And.intro (Env.cell hs g_c (m) (by simp)).2.1 (And.intro (Env.cell hs g_c (m) (by simp)).2.2.1 (Env.cell hs g_c (m) (by simp)).2.2.2)))))))))))
  refine Goes.tk (i := 14) (o := ⟨some 21, _, _, _, _, _⟩) (v := ?_) [] (y := Or.inl ⟨by rfl, ?_⟩) (s := hJJ.out) (H := ?_)
  rotate_left
  · intro w hY; go_simp; (try rw [Nc3.out]); try with_reducible rfl
  try simp only [putz]
  refine Goes.tk (i := 15) (o := ⟨some 22, _, _, _, _, _⟩) (v := ?_) [] (y := Or.inl ⟨by rfl, ?_⟩) (s := hJJ.out) (H := ?_)
  rotate_left
  · intro w hY; go_simp; try with_reducible rfl
  try simp only [putz]
  refine Goes.tk (i := 16) (o := ⟨some 6, _, _, _, _, _⟩) (v := ?_) [] (y := Or.inl ⟨by rfl, ?_⟩) (s := hJJ.out) (H := ?_)
  rotate_left
  · intro w hY; go_simp; try with_reducible rfl
  try simp only [putz]
  clear hJJ
  refine Goes.done (by kernel_rfl) ?_ _
  refine NoPanic.normal ?_
  go_wp2_with fail
  exact bodyPost_ret (v := .bool false) (by simp [results, Try.results44, go_sem]) rfl ⟨rfl, hs.1⟩
set_option maxRecDepth 100000 in
set_option maxHeartbeats 4000000 in
theorem rmay_d (a b m : Nat) (w : World) (ha : a < 2 ^ 256) (hb : b < 2 ^ 256) (hm : m < 2 ^ 256) (hv : 1 < m ∧ a < m ∧ b < m) : Calls Try.prog 44 #[num a, num b, num m] w fun e w' => e = .returned (.bool true) ∧ Below w.heap.size w w' := by
  obtain ⟨c1, ec1⟩ : ∃ z, cmpN m 1 = z := ⟨_, rfl⟩
  have Nc1 := hid (show decide (0 < c1) = true from decide_eq_true (by rw [← ec1]; unfold cmpN; split <;> (try split) <;> omega))
  have Ec1 := hid ec1
  clear ec1
  obtain ⟨c2, ec2⟩ : ∃ z, cmpN a m = z := ⟨_, rfl⟩
  have Nc2 := hid (show decide (c2 < 0) = true from decide_eq_true (by rw [← ec2]; unfold cmpN; split <;> (try split) <;> omega))
  have Ec2 := hid ec2
  clear ec2
  obtain ⟨c3, ec3⟩ : ∃ z, cmpN b m = z := ⟨_, rfl⟩
  have Nc3 := hid (show decide (c3 < 0) = true from decide_eq_true (by rw [← ec3]; unfold cmpN; split <;> (try split) <;> omega))
  have Ec3 := hid ec3
  clear ec3
  have HA := hid ha
  have HB := hid hb
  have HM := hid hm
  clear ha hb hm hv
  have H0 := hid (((((Env.refl w).new a).new b).new m).perm (l' := [(w.heap.size + 1 + 1, m), (w.heap.size + 1, b), (w.heap.size, a)]) (by simp))
  go_enter Try.func44, Try.ntmps44
  go_upto_region 1 with fail
  generalize ((w.alloc (.cells (cls a) 24)).alloc (.cells (cls b) 24)).alloc (.cells (cls m) 24) = w0 at *
  generalize w.heap.size + 1 + 1 = g_c at *
  generalize w.heap.size + 1 = g_b at *
  generalize hzg_a : w.heap.size = g_a at *
  have hs := H0.out.drew
  refine wp_region_noPanic ?_
  refine Goes.region (fun (L : Array Bool) (w' : World) => w'.cell? ⟨g_a, 0, none⟩ = some (.int .u64 (wd (a) 0 : Int)) ∧ w'.cell? ⟨g_a, 1, none⟩ = some (.int .u64 (wd (a) 1 : Int)) ∧ w'.cell? ⟨g_a, 2, none⟩ = some (.int .u64 (wd (a) 2 : Int)) ∧ w'.cell? ⟨g_a, 3, none⟩ = some (.int .u64 (wd (a) 3 : Int)) ∧ w'.cell? ⟨g_b, 0, none⟩ = some (.int .u64 (wd (b) 0 : Int)) ∧ w'.cell? ⟨g_b, 1, none⟩ = some (.int .u64 (wd (b) 1 : Int)) ∧ w'.cell? ⟨g_b, 2, none⟩ = some (.int .u64 (wd (b) 2 : Int)) ∧ w'.cell? ⟨g_b, 3, none⟩ = some (.int .u64 (wd (b) 3 : Int)) ∧ w'.cell? ⟨g_c, 0, none⟩ = some (.int .u64 (wd (m) 0 : Int)) ∧ w'.cell? ⟨g_c, 1, none⟩ = some (.int .u64 (wd (m) 1 : Int)) ∧ w'.cell? ⟨g_c, 2, none⟩ = some (.int .u64 (wd (m) 2 : Int)) ∧ w'.cell? ⟨g_c, 3, none⟩ = some (.int .u64 (wd (m) 3 : Int))) (by kernel_rfl) ?_
  generalize w0.drew = wdr at *
  refine Goes.tk (i := 0) (o := ⟨some 7, _, _, _, _, _⟩) (v := ?_) [] (y := Or.inl ⟨by rfl, ?_⟩) (s := ⟨(Env.cell hs g_a (a) (by simp)).1, (Env.cell hs g_a (a) (by simp)).2.1, (Env.cell hs g_a (a) (by simp)).2.2.1, (Env.cell hs g_a (a) (by simp)).2.2.2, (Env.cell hs g_b (b) (by simp)).1, (Env.cell hs g_b (b) (by simp)).2.1, (Env.cell hs g_b (b) (by simp)).2.2.1, (Env.cell hs g_b (b) (by simp)).2.2.2, (Env.cell hs g_c (m) (by simp)).1, (Env.cell hs g_c (m) (by simp)).2.1, (Env.cell hs g_c (m) (by simp)).2.2.1, (Env.cell hs g_c (m) (by simp)).2.2.2⟩) (H := ?_)
  rotate_left
  · rintro w ⟨up, -, hX⟩; (try dsimp only at hX); obtain ⟨x0, x1, x2, x3, x4, x5, x6, x7, x8, x9, x10, x11⟩ := hX; go_simp; try with_reducible rfl
  try simp only [putz]
  refine Goes.one (i := 1) (o := ⟨some 8, _, _, _, _, _⟩) (by kernel_rfl) rfl (fun K hK => ?_)
  go_simp
  with_reducible refine (env_of (rof_b 1 1 _ (by decide) rfl) hs).mono ?_
  rintro e wn1 ⟨rfl, hs1⟩
  go_wp2_with fail
  refine hK.out _ _ (⟨(Env.cell hs1 g_a (a) (by simp)).1, (Env.cell hs1 g_a (a) (by simp)).2.1, (Env.cell hs1 g_a (a) (by simp)).2.2.1, (Env.cell hs1 g_a (a) (by simp)).2.2.2, (Env.cell hs1 g_b (b) (by simp)).1, (Env.cell hs1 g_b (b) (by simp)).2.1, (Env.cell hs1 g_b (b) (by simp)).2.2.1, (Env.cell hs1 g_b (b) (by simp)).2.2.2, (Env.cell hs1 g_c (m) (by simp)).1, (Env.cell hs1 g_c (m) (by simp)).2.1, (Env.cell hs1 g_c (m) (by simp)).2.2.1, (Env.cell hs1 g_c (m) (by simp)).2.2.2⟩) ?_
  clear hK K
  try simp only [putz]
  clear hs
  have hs := hs1
  clear hs1
  refine Goes.one (i := 2) (o := ⟨some 9, _, _, _, _, _⟩) (by kernel_rfl) rfl (fun K hK => ?_)
  go_simp
  with_reducible refine (env_of (rcmp_c m 1 c1 _ HM.out (by decide) Ec1.out) hs).mono ?_
  rintro e wn2 ⟨rfl, hs2⟩
  go_wp2_with fail
  refine hK.out _ _ (⟨(Env.cell hs2 g_a (a) (by simp)).1, (Env.cell hs2 g_a (a) (by simp)).2.1, (Env.cell hs2 g_a (a) (by simp)).2.2.1, (Env.cell hs2 g_a (a) (by simp)).2.2.2, (Env.cell hs2 g_b (b) (by simp)).1, (Env.cell hs2 g_b (b) (by simp)).2.1, (Env.cell hs2 g_b (b) (by simp)).2.2.1, (Env.cell hs2 g_b (b) (by simp)).2.2.2, (Env.cell hs2 g_c (m) (by simp)).1, (Env.cell hs2 g_c (m) (by simp)).2.1, (Env.cell hs2 g_c (m) (by simp)).2.2.1, (Env.cell hs2 g_c (m) (by simp)).2.2.2⟩) ?_
  clear hK K
  try simp only [putz]
  clear hs
  have hs := hs2
  clear hs2
  have hJJ := hid (And.intro (Env.cell hs g_a (a) (by simp)).1 (And.intro (Env.cell hs g_a (a) (by simp)).2.1 (And.intro (Env.cell hs g_a (a) (by simp)).2.2.1 (And.intro (Env.cell hs g_a (a) (by simp)).2.2.2 (And.intro (Env.cell hs g_b (b) (by simp)).1 (And.intro (Env.cell hs g_b (b) (by simp)).2.1 (And.intro (Env.cell hs g_b (b) (by simp)).2.2.1 (And.intro (Env.cell hs g_b (b) (by simp)).2.2.2 (And.intro (Env.cell hs g_c (m) (by simp)).1 (And.intro (Env.cell hs g_c (m) (by simp)).2.1 (And.intro (Env.cell hs g_c (m) (by simp)).2.2.1 (Env.cell hs g_c (m) (by simp)).2.2.2)))))))))))
  refine Goes.tk (i := 3) (o := ⟨some 10, _, _, _, _, _⟩) (v := ?_) [] (y := Or.inl ⟨by rfl, ?_⟩) (s := hJJ.out) (H := ?_)
  rotate_left
  · intro w hY; go_simp; (try rw [Nc1.out]); try with_reducible rfl
  try simp only [putz]
  refine Goes.tk (i := 4) (o := ⟨some 11, _, _, _, _, _⟩) (v := ?_) [] (y := Or.inl ⟨by rfl, ?_⟩) (s := hJJ.out) (H := ?_)
  rotate_left
  · intro w hY; go_simp; try with_reducible rfl
  try simp only [putz]
  refine Goes.tk (i := 5) (o := ⟨some 12, _, _, _, _, _⟩) (v := ?_) [] (y := Or.inl ⟨by rfl, ?_⟩) (s := hJJ.out) (H := ?_)
  rotate_left
  · rintro w ⟨up, -, hX⟩; (try dsimp only at hX); obtain ⟨x0, x1, x2, x3, x4, x5, x6, x7, x8, x9, x10, x11⟩ := hX; go_simp; try with_reducible rfl
  try simp only [putz]
  refine Goes.tk (i := 6) (o := ⟨some 13, _, _, _, _, _⟩) (v := ?_) [] (y := Or.inl ⟨by rfl, ?_⟩) (s := hJJ.out) (H := ?_)
  rotate_left
  · rintro w ⟨up, -, hX⟩; (try dsimp only at hX); obtain ⟨x0, x1, x2, x3, x4, x5, x6, x7, x8, x9, x10, x11⟩ := hX; go_simp; try with_reducible rfl
  try simp only [putz]
  clear hJJ
  refine Goes.one (i := 7) (o := ⟨some 14, _, _, _, _, _⟩) (by kernel_rfl) rfl (fun K hK => ?_)
  go_simp
  with_reducible refine (env_of (rcmp_c a m c2 _ HA.out HM.out Ec2.out) hs).mono ?_
  rintro e wn3 ⟨rfl, hs3⟩
  go_wp2_with fail
  refine hK.out _ _ (⟨(Env.cell hs3 g_a (a) (by simp)).1, (Env.cell hs3 g_a (a) (by simp)).2.1, (Env.cell hs3 g_a (a) (by simp)).2.2.1, (Env.cell hs3 g_a (a) (by simp)).2.2.2, (Env.cell hs3 g_b (b) (by simp)).1, (Env.cell hs3 g_b (b) (by simp)).2.1, (Env.cell hs3 g_b (b) (by simp)).2.2.1, (Env.cell hs3 g_b (b) (by simp)).2.2.2, (Env.cell hs3 g_c (m) (by simp)).1, (Env.cell hs3 g_c (m) (by simp)).2.1, (Env.cell hs3 g_c (m) (by simp)).2.2.1, (Env.cell hs3 g_c (m) (by simp)).2.2.2⟩) ?_
  clear hK K
  try simp only [putz]
  clear hs
  have hs := hs3
  clear hs3
  have hJJ := hid (And.intro (Env.cell hs g_a (a) (by simp)).1 (And.intro (Env.cell hs g_a (a) (by simp)).2.1 (And.intro (Env.cell hs g_a (a) (by simp)).2.2.1 (And.intro (Env.cell hs g_a (a) (by simp)).2.2.2 (And.intro (Env.cell hs g_b (b) (by simp)).1 (And.intro (Env.cell hs g_b (b) (by simp)).2.1 (And.intro (Env.cell hs g_b (b) (by simp)).2.2.1 (And.intro (Env.cell hs g_b (b) (by simp)).2.2.2 (And.intro (Env.cell hs g_c (m) (by simp)).1 (And.intro (Env.cell hs g_c (m) (by simp)).2.1 (And.intro (Env.cell hs g_c (m) (by simp)).2.2.1 (Env.cell hs g_c (m) (by simp)).2.2.2)))))))))))
  refine Goes.tk (i := 8) (o := ⟨some 15, _, _, _, _, _⟩) (v := ?_) [] (y := Or.inl ⟨by rfl, ?_⟩) (s := hJJ.out) (H := ?_)
  rotate_left
  · intro w hY; go_simp; (try rw [Nc2.out]); try with_reducible rfl
  try simp only [putz]
  refine Goes.tk (i := 9) (o := ⟨some 16, _, _, _, _, _⟩) (v := ?_) [] (y := Or.inl ⟨by rfl, ?_⟩) (s := hJJ.out) (H := ?_)
  rotate_left
  · intro w hY; go_simp; try with_reducible rfl
  try simp only [putz]
  refine Goes.tk (i := 10) (o := ⟨some 17, _, _, _, _, _⟩) (v := ?_) [] (y := Or.inl ⟨by rfl, ?_⟩) (s := hJJ.out) (H := ?_)
  rotate_left
  · intro w hY; go_simp; try with_reducible rfl
  try simp only [putz]
  refine Goes.tk (i := 11) (o := ⟨some 18, _, _, _, _, _⟩) (v := ?_) [] (y := Or.inl ⟨by rfl, ?_⟩) (s := hJJ.out) (H := ?_)
  rotate_left
  · rintro w ⟨up, -, hX⟩; (try dsimp only at hX); obtain ⟨x0, x1, x2, x3, x4, x5, x6, x7, x8, x9, x10, x11⟩ := hX; go_simp; try with_reducible rfl
  try simp only [putz]
  refine Goes.tk (i := 12) (o := ⟨some 19, _, _, _, _, _⟩) (v := ?_) [] (y := Or.inl ⟨by rfl, ?_⟩) (s := hJJ.out) (H := ?_)
  rotate_left
  · rintro w ⟨up, -, hX⟩; (try dsimp only at hX); obtain ⟨x0, x1, x2, x3, x4, x5, x6, x7, x8, x9, x10, x11⟩ := hX; go_simp; try with_reducible rfl
  try simp only [putz]
  clear hJJ
  refine Goes.one (i := 13) (o := ⟨some 20, _, _, _, _, _⟩) (by kernel_rfl) rfl (fun K hK => ?_)
  go_simp
  with_reducible refine (env_of (rcmp_c b m c3 _ HB.out HM.out Ec3.out) hs).mono ?_
  rintro e wn4 ⟨rfl, hs4⟩
  go_wp2_with fail
  refine hK.out _ _ (⟨(Env.cell hs4 g_a (a) (by simp)).1, (Env.cell hs4 g_a (a) (by simp)).2.1, (Env.cell hs4 g_a (a) (by simp)).2.2.1, (Env.cell hs4 g_a (a) (by simp)).2.2.2, (Env.cell hs4 g_b (b) (by simp)).1, (Env.cell hs4 g_b (b) (by simp)).2.1, (Env.cell hs4 g_b (b) (by simp)).2.2.1, (Env.cell hs4 g_b (b) (by simp)).2.2.2, (Env.cell hs4 g_c (m) (by simp)).1, (Env.cell hs4 g_c (m) (by simp)).2.1, (Env.cell hs4 g_c (m) (by simp)).2.2.1, (Env.cell hs4 g_c (m) (by simp)).2.2.2⟩) ?_
  clear hK K
  try simp only [putz]
  clear hs
  have hs := hs4
  clear hs4
  have hJJ := hid (And.intro (Env.cell hs g_a (a) (by simp)).1 (And.intro (Env.cell hs g_a (a) (by simp)).2.1 (And.intro (Env.cell hs g_a (a) (by simp)).2.2.1 (And.intro (Env.cell hs g_a (a) (by simp)).2.2.2 (And.intro (Env.cell hs g_b (b) (by simp)).1 (And.intro (Env.cell hs g_b (b) (by simp)).2.1 (And.intro (Env.cell hs g_b (b) (by simp)).2.2.1 (And.intro (Env.cell hs g_b (b) (by simp)).2.2.2 (And.intro (Env.cell hs g_c (m) (by simp)).1 (And.intro (Env.cell hs g_c (m) (by simp)).2.1 (And.intro (Env.cell hs g_c (m) (by simp)).2.2.1 (Env.cell hs g_c (m) (by simp)).2.2.2)))))))))))
  refine Goes.tk (i := 14) (o := ⟨some 21, _, _, _, _, _⟩) (v := ?_) [] (y := Or.inl ⟨by rfl, ?_⟩) (s := hJJ.out) (H := ?_)
  rotate_left
  · intro w hY; go_simp; (try rw [Nc3.out]); try with_reducible rfl
  try simp only [putz]
  refine Goes.tk (i := 15) (o := ⟨some 22, _, _, _, _, _⟩) (v := ?_) [] (y := Or.inl ⟨by rfl, ?_⟩) (s := hJJ.out) (H := ?_)
  rotate_left
  · intro w hY; go_simp; try with_reducible rfl
  try simp only [putz]
  refine Goes.tk (i := 16) (o := ⟨some 6, _, _, _, _, _⟩) (v := ?_) [] (y := Or.inl ⟨by rfl, ?_⟩) (s := hJJ.out) (H := ?_)
  rotate_left
  · intro w hY; go_simp; try with_reducible rfl
  try simp only [putz]
  clear hJJ
  refine Goes.done (by kernel_rfl) ?_ _
  refine NoPanic.normal ?_
  go_wp2_with fail
  exact bodyPost_ret (v := .bool true) (by simp [results, Try.results44, go_sem]) rfl ⟨rfl, hs.1⟩
theorem rmay_any (a b m : Nat) (v : Bool) (w : World) (ha : a < 2 ^ 256) (hb : b < 2 ^ 256) (hm : m < 2 ^ 256) (hv : decide (1 < m ∧ a < m ∧ b < m) = v) : Calls Try.prog 44 #[num a, num b, num m] w fun e w' => e = .returned (.bool v) ∧ Below w.heap.size w w' := by
  subst hv
  by_cases h1 : 1 < m
  · by_cases h2 : a < m
    · by_cases h3 : b < m
      · rw [decide_eq_true (show 1 < m ∧ a < m ∧ b < m from ⟨h1, h2, h3⟩)]; exact rmay_d a b m w ha hb hm ⟨h1, h2, h3⟩
      · rw [decide_eq_false (fun h => h3 h.2.2)]; exact rmay_c a b m w ha hb hm ⟨h1, h2, h3⟩
    · rw [decide_eq_false (fun h => h2 h.2.1)]; exact rmay_b a b m w ha hb hm ⟨h1, h2⟩
  · rw [decide_eq_false (fun h => h1 h.1)]; exact rmay_a a b m w ha hb hm h1
theorem rmul64_b (x y h l : Nat) (w : World) (hx : x < 18446744073709551616) (hy : y < 18446744073709551616) (eh : x * y / 18446744073709551616 = h) (el : x * y % 18446744073709551616 = l) : Calls Try.prog 71 #[.int .u64 (x : Int), .int .u64 (y : Int)] w fun e w' => e = .returned (.tuple #[.int .u64 (h : Int), .int .u64 (l : Int)]) ∧ Below w.heap.size w w' :=
  (mul64_any x y h l w hx hy eh el).mono fun e w' ⟨he, hw⟩ => ⟨he, by rw [hw]; exact Below.refl _ _⟩
theorem r2mul_b (a b lo hi : Nat) (w : World) (ha : a < 2 ^ 256) (hb : b < 2 ^ 256) (hl : a * b % 2 ^ 256 = lo) (hh : a * b / 2 ^ 256 = hi) : Calls Try.prog 73 #[num a, num b] w fun e w' => e = .returned (.tuple #[num lo, num hi]) ∧ Below w.heap.size w w' := by
  subst hl; subst hh; exact r2mul_any a b w ha hb
set_option maxRecDepth 100000 in
set_option maxHeartbeats 4000000 in
theorem rtimes_small (a b m r : Nat) (w : World) (ha : a < m) (hb : b < m) (hm : m < 2 ^ 256) (hr : a * b % m = r) (hs : m < 18446744073709551616) : Calls Try.prog 47 #[num a, num b, num m] w fun e w' => e = .returned (num r) ∧ Below w.heap.size w w' := by
  have HA := hid ha
  have HB := hid hb
  have HM := hid hm
  have HM0 := hid (show m ≠ 0 by omega)
  have HV := hid (show decide (m < 18446744073709551616) = true from decide_eq_true hs)
  have HS := hid hs
  have HE0 := hid (rwd_one hs)
  have HEA := hid (rwd_one (Nat.lt_trans ha hs))
  have HEB := hid (rwd_one (Nat.lt_trans hb hs))
  obtain ⟨hi, ehi⟩ : ∃ z, a * b / 18446744073709551616 = z := ⟨_, rfl⟩
  obtain ⟨lo, elo⟩ : ∃ z, a * b % 18446744073709551616 = z := ⟨_, rfl⟩
  have hhi : hi < m := by rw [← ehi]; exact (Nat.div_lt_iff_lt_mul (by decide)).2 (Nat.mul_lt_mul_of_lt_of_le ha (Nat.le_of_lt (Nat.lt_trans hb hs)) (by omega))
  have hlo : lo < 18446744073709551616 := by rw [← elo]; exact Nat.mod_lt _ (by decide)
  have hrr : (hi * 18446744073709551616 + lo) % m = r := by rw [← ehi, ← elo, Nat.div_add_mod']; exact hr
  have EHI := hid ehi
  have ELO := hid elo
  have HHI := hid hhi
  have HLO := hid hlo
  have HRR := hid hrr
  have RL := hid (show r < 18446744073709551616 from Nat.lt_trans (by rw [← hr]; exact Nat.mod_lt _ (by omega)) hs)
  clear ehi elo hhi hlo hrr
  clear ha hb hm hr hs
  have H0 := hid ((((((Env.refl w).new a).new b).new m).zero).perm (l' := [(w.heap.size + 1 + 1 + 1, 0), (w.heap.size + 1 + 1, m), (w.heap.size + 1, b), (w.heap.size, a)]) (by simp))
  have DZ := hid (show w.heap.size ≤ w.heap.size + 1 + 1 + 1 by omega)
  have DN := hid (show ∀ p ∈ [(w.heap.size, a), (w.heap.size + 1, b), (w.heap.size + 1 + 1, m)], p.1 ≠ w.heap.size + 1 + 1 + 1 by simp; try omega)
  go_enter Try.func47, Try.ntmps47
  go_upto_region 1 with fail
  generalize (((w.alloc (.cells (cls a) 24)).alloc (.cells (cls b) 24)).alloc (.cells (cls m) 24)).alloc (.cells #[.int .u64 0, .int .u64 0, .int .u64 0, .int .u64 0] 24) = w0 at *
  generalize w.heap.size + 1 + 1 + 1 = g_z at *
  generalize w.heap.size + 1 + 1 = g_c at *
  generalize w.heap.size + 1 = g_b at *
  generalize hzg_a : w.heap.size = g_a at *
  obtain ⟨c0x0a, c0x0b, c0x0c, c0x0d⟩ := H0.out.cell (g_c) (m) (by simp)
  have c0x0l := H0.out.lt (g_c) (m) (by simp)
  have c0x0m := Nat.le_of_lt c0x0l
  go_wp2_with fail
  clear c0x0a c0x0b c0x0c c0x0d c0x0l c0x0m
  refine (env_of (rword_any m true _ HM.out HV.out) H0.out).mono ?_
  rintro e w1 ⟨rfl, h⟩
  have H1 := hid h
  clear h H0
  obtain ⟨c0x1a, c0x1b, c0x1c, c0x1d⟩ := H1.out.cell (g_a) (a) (by simp)
  have c0x1l := H1.out.lt (g_a) (a) (by simp)
  have c0x1m := Nat.le_of_lt c0x1l
  obtain ⟨c6x1a, c6x1b, c6x1c, c6x1d⟩ := H1.out.cell (g_b) (b) (by simp)
  have c6x1l := H1.out.lt (g_b) (b) (by simp)
  have c6x1m := Nat.le_of_lt c6x1l
  obtain ⟨c12x1a, c12x1b, c12x1c, c12x1d⟩ := H1.out.cell (g_c) (m) (by simp)
  have c12x1l := H1.out.lt (g_c) (m) (by simp)
  have c12x1m := Nat.le_of_lt c12x1l
  go_wp2_with fail
  clear c0x1a c0x1b c0x1c c0x1d c0x1l c0x1m c6x1a c6x1b c6x1c c6x1d c6x1l c6x1m c12x1a c12x1b c12x1c c12x1d c12x1l c12x1m
  refine (env_of (rmul64_b (wd a 0) (wd b 0) hi lo _ (wd_lt a 0) (wd_lt b 0) (by rw [HEA.out, HEB.out]; exact EHI.out) (by rw [HEA.out, HEB.out]; exact ELO.out)) H1.out).mono ?_
  rintro e w2 ⟨rfl, h⟩
  have H2 := hid h
  clear h H1
  obtain ⟨c0x2a, c0x2b, c0x2c, c0x2d⟩ := H2.out.cell (g_c) (m) (by simp)
  have c0x2l := H2.out.lt (g_c) (m) (by simp)
  have c0x2m := Nat.le_of_lt c0x2l
  go_wp2_with fail
  clear c0x2a c0x2b c0x2c c0x2d c0x2l c0x2m
  refine (env_of (div64_any hi lo (wd m 0) _ r _ (by rw [HE0.out]; exact HHI.out) HLO.out (wd_lt m 0) rfl (by rw [HE0.out]; exact HRR.out)) H2.out).mono ?_
  rintro e w3 ⟨rfl, h⟩
  have H3 := hid h
  clear h H2
  go_wp2_with fail
  refine (env_of (rof_any r _ RL.out) H3.out).mono ?_
  rintro e w4 ⟨rfl, h⟩
  have H4 := hid h
  clear h H3
  obtain ⟨z0, z1, z2, z3⟩ := H4.out.cell g_z 0 (by simp)
  have zl := H4.out.lt g_z 0 (by simp)
  have zf := H4.out.frozen g_z 0 (by simp)
  have HZ := hid (H4.out.set g_z 0 (r) [] (by simp) (by rw [hzg_a]; exact DZ.out) (by simp))
  go_wp2
  clear z0 z1 z2 z3 zl zf
  try rw [Exit.noGoto_ret]
  change bodyPost _ _ _ _ _ (fil w4 g_z (r))
  generalize fil w4 g_z (r) = wz at *
  obtain ⟨k0, k1, k2, k3⟩ := HZ.out.cell g_z (r) (by simp)
  exact bodyPost_ret (v := num (r)) (by simp [results, Try.results47, go_sem, k0, k1, k2, k3]) rfl ⟨rfl, HZ.out.1⟩
set_option maxRecDepth 100000 in
set_option maxHeartbeats 4000000 in
theorem rtimes_large (a b m r : Nat) (w : World) (ha : a < m) (hb : b < m) (hm : m < 2 ^ 256) (hr : a * b % m = r) (hs : ¬ m < 18446744073709551616) : Calls Try.prog 47 #[num a, num b, num m] w fun e w' => e = .returned (num r) ∧ Below w.heap.size w w' := by
  have HA := hid ha
  have HB := hid hb
  have HM := hid hm
  have HM0 := hid (show m ≠ 0 by omega)
  have HV := hid (show decide (m < 18446744073709551616) = false from decide_eq_false hs)
  obtain ⟨lo, elo⟩ : ∃ z, a * b % 2 ^ 256 = z := ⟨_, rfl⟩
  obtain ⟨hi, ehi⟩ : ∃ z, a * b / 2 ^ 256 = z := ⟨_, rfl⟩
  have hlo : lo < 2 ^ 256 := by rw [← elo]; exact Nat.mod_lt _ (Nat.two_pow_pos _)
  have ha2 := Nat.lt_trans ha hm
  have hb2 := Nat.lt_trans hb hm
  have hhi : hi < 2 ^ 256 := by rw [← ehi]; exact (Nat.div_lt_iff_lt_mul (Nat.two_pow_pos _)).2 (Nat.mul_lt_mul_of_lt_of_le ha2 (Nat.le_of_lt hb2) (Nat.two_pow_pos _))
  have hrr : (lo + 2 ^ 256 * hi) % m = r := by rw [← ehi, ← elo, Nat.mod_add_div]; exact hr
  have HA2 := hid ha2
  have HB2 := hid hb2
  have EHI := hid ehi
  have ELO := hid elo
  have HHI := hid hhi
  have HLO := hid hlo
  have HRR := hid hrr
  clear ehi elo hhi hlo hrr ha2 hb2
  clear ha hb hm hr hs
  have H0 := hid ((((((Env.refl w).new a).new b).new m).zero).perm (l' := [(w.heap.size + 1 + 1 + 1, 0), (w.heap.size + 1 + 1, m), (w.heap.size + 1, b), (w.heap.size, a)]) (by simp))
  have DZ := hid (show w.heap.size ≤ w.heap.size + 1 + 1 + 1 by omega)
  have DN := hid (show ∀ p ∈ [(w.heap.size, a), (w.heap.size + 1, b), (w.heap.size + 1 + 1, m)], p.1 ≠ w.heap.size + 1 + 1 + 1 by simp; try omega)
  go_enter Try.func47, Try.ntmps47
  go_upto_region 1 with fail
  generalize (((w.alloc (.cells (cls a) 24)).alloc (.cells (cls b) 24)).alloc (.cells (cls m) 24)).alloc (.cells #[.int .u64 0, .int .u64 0, .int .u64 0, .int .u64 0] 24) = w0 at *
  generalize w.heap.size + 1 + 1 + 1 = g_z at *
  generalize w.heap.size + 1 + 1 = g_c at *
  generalize w.heap.size + 1 = g_b at *
  generalize hzg_a : w.heap.size = g_a at *
  obtain ⟨c0x0a, c0x0b, c0x0c, c0x0d⟩ := H0.out.cell (g_c) (m) (by simp)
  have c0x0l := H0.out.lt (g_c) (m) (by simp)
  have c0x0m := Nat.le_of_lt c0x0l
  go_wp2_with fail
  clear c0x0a c0x0b c0x0c c0x0d c0x0l c0x0m
  refine (env_of (rword_any m false _ HM.out HV.out) H0.out).mono ?_
  rintro e w1 ⟨rfl, h⟩
  have H1 := hid h
  clear h H0
  obtain ⟨c0x1a, c0x1b, c0x1c, c0x1d⟩ := H1.out.cell (g_a) (a) (by simp)
  have c0x1l := H1.out.lt (g_a) (a) (by simp)
  have c0x1m := Nat.le_of_lt c0x1l
  obtain ⟨c6x1a, c6x1b, c6x1c, c6x1d⟩ := H1.out.cell (g_b) (b) (by simp)
  have c6x1l := H1.out.lt (g_b) (b) (by simp)
  have c6x1m := Nat.le_of_lt c6x1l
  obtain ⟨c12x1a, c12x1b, c12x1c, c12x1d⟩ := H1.out.cell (g_c) (m) (by simp)
  have c12x1l := H1.out.lt (g_c) (m) (by simp)
  have c12x1m := Nat.le_of_lt c12x1l
  go_wp2_with fail
  clear c0x1a c0x1b c0x1c c0x1d c0x1l c0x1m c6x1a c6x1b c6x1c c6x1d c6x1l c6x1m c12x1a c12x1b c12x1c c12x1d c12x1l c12x1m
  refine (env_of (r2mul_b a b lo hi _ HA2.out HB2.out ELO.out EHI.out) H1.out).mono ?_
  rintro e w2 ⟨rfl, h⟩
  have H2 := hid h
  clear h H1
  go_upto_region 6 with fail
  have H2b := hid (H2.out.new2 lo hi)
  clear H2
  generalize (w2.alloc (.cells (cls lo) 24)).alloc (.cells (cls hi) 24) = w2b at *
  generalize w2.heap.size + 1 = g11s at *
  generalize w2.heap.size = g11 at *
  obtain ⟨c0x2a, c0x2b, c0x2c, c0x2d⟩ := H2b.out.cell (g11) (lo) (by simp)
  have c0x2l := H2b.out.lt (g11) (lo) (by simp)
  have c0x2m := Nat.le_of_lt c0x2l
  obtain ⟨c6x2a, c6x2b, c6x2c, c6x2d⟩ := H2b.out.cell (g11s) (hi) (by simp)
  have c6x2l := H2b.out.lt (g11s) (hi) (by simp)
  have c6x2m := Nat.le_of_lt c6x2l
  obtain ⟨c12x2a, c12x2b, c12x2c, c12x2d⟩ := H2b.out.cell (g_c) (m) (by simp)
  have c12x2l := H2b.out.lt (g_c) (m) (by simp)
  have c12x2m := Nat.le_of_lt c12x2l
  go_wp2_with fail
  clear c0x2a c0x2b c0x2c c0x2d c0x2l c0x2m c6x2a c6x2b c6x2c c6x2d c6x2l c6x2m c12x2a c12x2b c12x2c c12x2d c12x2l c12x2m
  refine (env_of (rwide_any lo hi m r _ HLO.out HHI.out HM.out HM0.out HRR.out) H2b.out).mono ?_
  rintro e w3 ⟨rfl, h⟩
  have H3 := hid h
  clear h H2b
  go_upto_region 7 with fail
  have H3b := hid (H3.out.new r)
  clear H3
  generalize w3.alloc (.cells (cls r) 24) = w3b at *
  generalize w3.heap.size = g13 at *
  obtain ⟨c0x3a, c0x3b, c0x3c, c0x3d⟩ := H3b.out.cell (g13) (r) (by simp)
  have c0x3l := H3b.out.lt (g13) (r) (by simp)
  have c0x3m := Nat.le_of_lt c0x3l
  obtain ⟨z0, z1, z2, z3⟩ := H3b.out.cell g_z 0 (by simp)
  have zl := H3b.out.lt g_z 0 (by simp)
  have zf := H3b.out.frozen g_z 0 (by simp)
  have HZ := hid (H3b.out.set g_z 0 (r) [] (by simp) (by rw [hzg_a]; exact DZ.out) (by simp))
  go_wp2
  clear z0 z1 z2 z3 zl zf
  try rw [Exit.noGoto_ret]
  change bodyPost _ _ _ _ _ (fil w3b g_z (r))
  generalize fil w3b g_z (r) = wz at *
  obtain ⟨k0, k1, k2, k3⟩ := HZ.out.cell g_z (r) (by simp)
  exact bodyPost_ret (v := num (r)) (by simp [results, Try.results47, go_sem, k0, k1, k2, k3]) rfl ⟨rfl, HZ.out.1⟩
theorem rtimes_any (a b m r : Nat) (w : World) (ha : a < m) (hb : b < m) (hm : m < 2 ^ 256) (hr : a * b % m = r) : Calls Try.prog 47 #[num a, num b, num m] w fun e w' => e = .returned (num r) ∧ Below w.heap.size w w' := by
  by_cases hs : m < 18446744073709551616
  · exact rtimes_small a b m r w ha hb hm hr hs
  · exact rtimes_large a b m r w ha hb hm hr hs
end Go.Proofs.Ytaggegknnnembaa
namespace Go.Proofs.Ytaggegknnnembaa
open Go.RowKit
set_option linter.unusedVariables false

set_option maxRecDepth 100000 in
set_option maxHeartbeats 4000000 in
theorem rmmul_none (a b m : Nat) (w : World) (ha : a < 2 ^ 256) (hb : b < 2 ^ 256) (hm : m < 2 ^ 256) (hv : ¬ (1 < m ∧ a < m ∧ b < m)) : Calls Try.prog 29 #[num a, num b, num m] w fun e w' => e = .returned (.tuple #[num 0, .int .i64 1]) ∧ Below w.heap.size w w' := by
  have HA := hid ha
  have HB := hid hb
  have HM := hid hm
  have HV := hid (show decide (1 < m ∧ a < m ∧ b < m) = false from decide_eq_false hv)
  clear ha hb hm hv
  have H0 := hid ((((((Env.refl w).new a).new b).new m).zero).perm (l' := [(w.heap.size + 1 + 1 + 1, 0), (w.heap.size + 1 + 1, m), (w.heap.size + 1, b), (w.heap.size, a)]) (by simp))
  have DZ := hid (show w.heap.size ≤ w.heap.size + 1 + 1 + 1 by omega)
  have DN := hid (show ∀ p ∈ [(w.heap.size, a), (w.heap.size + 1, b), (w.heap.size + 1 + 1, m)], p.1 ≠ w.heap.size + 1 + 1 + 1 by simp; try omega)
  go_enter Try.func29, Try.ntmps29
  go_upto_region 1 with fail
  generalize (((w.alloc (.cells (cls a) 24)).alloc (.cells (cls b) 24)).alloc (.cells (cls m) 24)).alloc (.cells #[.int .u64 0, .int .u64 0, .int .u64 0, .int .u64 0] 24) = w0 at *
  generalize w.heap.size + 1 + 1 + 1 = g_z at *
  generalize w.heap.size + 1 + 1 = g_c at *
  generalize w.heap.size + 1 = g_b at *
  generalize hzg_a : w.heap.size = g_a at *
  obtain ⟨c0x0a, c0x0b, c0x0c, c0x0d⟩ := H0.out.cell (g_a) (a) (by simp)
  have c0x0l := H0.out.lt (g_a) (a) (by simp)
  have c0x0m := Nat.le_of_lt c0x0l
  obtain ⟨c6x0a, c6x0b, c6x0c, c6x0d⟩ := H0.out.cell (g_b) (b) (by simp)
  have c6x0l := H0.out.lt (g_b) (b) (by simp)
  have c6x0m := Nat.le_of_lt c6x0l
  obtain ⟨c12x0a, c12x0b, c12x0c, c12x0d⟩ := H0.out.cell (g_c) (m) (by simp)
  have c12x0l := H0.out.lt (g_c) (m) (by simp)
  have c12x0m := Nat.le_of_lt c12x0l
  go_wp2_with fail
  clear c0x0a c0x0b c0x0c c0x0d c0x0l c0x0m c6x0a c6x0b c6x0c c6x0d c6x0l c6x0m c12x0a c12x0b c12x0c c12x0d c12x0l c12x0m
  refine (env_of (rmay_any a b m false _ HA.out HB.out HM.out HV.out) H0.out).mono ?_
  rintro e w1 ⟨rfl, h⟩
  have H1 := hid h
  clear h H0
  obtain ⟨z0, z1, z2, z3⟩ := H1.out.cell g_z 0 (by simp)
  have zl := H1.out.lt g_z 0 (by simp)
  have zf := H1.out.frozen g_z 0 (by simp)
  have HZ := hid (H1.out.set g_z 0 (0) [] (by simp) (by rw [hzg_a]; exact DZ.out) (by simp))
  go_wp2
  clear z0 z1 z2 z3 zl zf
  try rw [Exit.noGoto_ret]
  change bodyPost _ _ _ _ _ (fil w1 g_z (0))
  generalize fil w1 g_z (0) = wz at *
  obtain ⟨k0, k1, k2, k3⟩ := HZ.out.cell g_z (0) (by simp)
  exact bodyPost_ret (v := .tuple #[num (0), .int .i64 1]) (by simp [results, Try.results29, go_sem, k0, k1, k2, k3]) rfl ⟨rfl, HZ.out.1⟩
set_option maxRecDepth 100000 in
set_option maxHeartbeats 4000000 in
theorem rmmul_some (a b m r : Nat) (w : World) (ha : a < 2 ^ 256) (hb : b < 2 ^ 256) (hm : m < 2 ^ 256) (hv : 1 < m ∧ a < m ∧ b < m) (hr : a * b % m = r) : Calls Try.prog 29 #[num a, num b, num m] w fun e w' => e = .returned (.tuple #[num r, .int .i64 0]) ∧ Below w.heap.size w w' := by
  have HA := hid ha
  have HB := hid hb
  have HM := hid hm
  have HV := hid (show decide (1 < m ∧ a < m ∧ b < m) = true from decide_eq_true hv)
  have AM := hid hv.2.1
  have BM := hid hv.2.2
  have HR := hid hr
  clear ha hb hm hr hv
  have H0 := hid ((((((Env.refl w).new a).new b).new m).zero).perm (l' := [(w.heap.size + 1 + 1 + 1, 0), (w.heap.size + 1 + 1, m), (w.heap.size + 1, b), (w.heap.size, a)]) (by simp))
  have DZ := hid (show w.heap.size ≤ w.heap.size + 1 + 1 + 1 by omega)
  have DN := hid (show ∀ p ∈ [(w.heap.size, a), (w.heap.size + 1, b), (w.heap.size + 1 + 1, m)], p.1 ≠ w.heap.size + 1 + 1 + 1 by simp; try omega)
  go_enter Try.func29, Try.ntmps29
  go_upto_region 1 with fail
  generalize (((w.alloc (.cells (cls a) 24)).alloc (.cells (cls b) 24)).alloc (.cells (cls m) 24)).alloc (.cells #[.int .u64 0, .int .u64 0, .int .u64 0, .int .u64 0] 24) = w0 at *
  generalize w.heap.size + 1 + 1 + 1 = g_z at *
  generalize w.heap.size + 1 + 1 = g_c at *
  generalize w.heap.size + 1 = g_b at *
  generalize hzg_a : w.heap.size = g_a at *
  obtain ⟨c0x0a, c0x0b, c0x0c, c0x0d⟩ := H0.out.cell (g_a) (a) (by simp)
  have c0x0l := H0.out.lt (g_a) (a) (by simp)
  have c0x0m := Nat.le_of_lt c0x0l
  obtain ⟨c6x0a, c6x0b, c6x0c, c6x0d⟩ := H0.out.cell (g_b) (b) (by simp)
  have c6x0l := H0.out.lt (g_b) (b) (by simp)
  have c6x0m := Nat.le_of_lt c6x0l
  obtain ⟨c12x0a, c12x0b, c12x0c, c12x0d⟩ := H0.out.cell (g_c) (m) (by simp)
  have c12x0l := H0.out.lt (g_c) (m) (by simp)
  have c12x0m := Nat.le_of_lt c12x0l
  go_wp2_with fail
  clear c0x0a c0x0b c0x0c c0x0d c0x0l c0x0m c6x0a c6x0b c6x0c c6x0d c6x0l c6x0m c12x0a c12x0b c12x0c c12x0d c12x0l c12x0m
  refine (env_of (rmay_any a b m true _ HA.out HB.out HM.out HV.out) H0.out).mono ?_
  rintro e w1 ⟨rfl, h⟩
  have H1 := hid h
  clear h H0
  obtain ⟨c0x1a, c0x1b, c0x1c, c0x1d⟩ := H1.out.cell (g_a) (a) (by simp)
  have c0x1l := H1.out.lt (g_a) (a) (by simp)
  have c0x1m := Nat.le_of_lt c0x1l
  obtain ⟨c6x1a, c6x1b, c6x1c, c6x1d⟩ := H1.out.cell (g_b) (b) (by simp)
  have c6x1l := H1.out.lt (g_b) (b) (by simp)
  have c6x1m := Nat.le_of_lt c6x1l
  obtain ⟨c12x1a, c12x1b, c12x1c, c12x1d⟩ := H1.out.cell (g_c) (m) (by simp)
  have c12x1l := H1.out.lt (g_c) (m) (by simp)
  have c12x1m := Nat.le_of_lt c12x1l
  go_wp2_with fail
  clear c0x1a c0x1b c0x1c c0x1d c0x1l c0x1m c6x1a c6x1b c6x1c c6x1d c6x1l c6x1m c12x1a c12x1b c12x1c c12x1d c12x1l c12x1m
  refine (env_of (rtimes_any a b m r _ AM.out BM.out HM.out HR.out) H1.out).mono ?_
  rintro e w2 ⟨rfl, h⟩
  have H2 := hid h
  clear h H1
  obtain ⟨z0, z1, z2, z3⟩ := H2.out.cell g_z 0 (by simp)
  have zl := H2.out.lt g_z 0 (by simp)
  have zf := H2.out.frozen g_z 0 (by simp)
  have HZ := hid (H2.out.set g_z 0 (r) [] (by simp) (by rw [hzg_a]; exact DZ.out) (by simp))
  go_wp2
  clear z0 z1 z2 z3 zl zf
  try rw [Exit.noGoto_ret]
  change bodyPost _ _ _ _ _ (fil w2 g_z (r))
  generalize fil w2 g_z (r) = wz at *
  obtain ⟨k0, k1, k2, k3⟩ := HZ.out.cell g_z (r) (by simp)
  exact bodyPost_ret (v := .tuple #[num (r), .int .i64 0]) (by simp [results, Try.results29, go_sem, k0, k1, k2, k3]) rfl ⟨rfl, HZ.out.1⟩
set_option maxRecDepth 100000 in
set_option maxHeartbeats 4000000 in
theorem rmadd_none (a b m : Nat) (w : World) (ha : a < 2 ^ 256) (hb : b < 2 ^ 256) (hm : m < 2 ^ 256) (hv : ¬ (1 < m ∧ a < m ∧ b < m)) : Calls Try.prog 27 #[num a, num b, num m] w fun e w' => e = .returned (.tuple #[num 0, .int .i64 1]) ∧ Below w.heap.size w w' := by
  have HA := hid ha
  have HB := hid hb
  have HM := hid hm
  have HV := hid (show decide (1 < m ∧ a < m ∧ b < m) = false from decide_eq_false hv)
  clear ha hb hm hv
  have H0 := hid ((((((Env.refl w).new a).new b).new m).zero).perm (l' := [(w.heap.size + 1 + 1 + 1, 0), (w.heap.size + 1 + 1, m), (w.heap.size + 1, b), (w.heap.size, a)]) (by simp))
  have DZ := hid (show w.heap.size ≤ w.heap.size + 1 + 1 + 1 by omega)
  have DN := hid (show ∀ p ∈ [(w.heap.size, a), (w.heap.size + 1, b), (w.heap.size + 1 + 1, m)], p.1 ≠ w.heap.size + 1 + 1 + 1 by simp; try omega)
  go_enter Try.func27, Try.ntmps27
  go_upto_region 1 with fail
  generalize (((w.alloc (.cells (cls a) 24)).alloc (.cells (cls b) 24)).alloc (.cells (cls m) 24)).alloc (.cells #[.int .u64 0, .int .u64 0, .int .u64 0, .int .u64 0] 24) = w0 at *
  generalize w.heap.size + 1 + 1 + 1 = g_z at *
  generalize w.heap.size + 1 + 1 = g_c at *
  generalize w.heap.size + 1 = g_b at *
  generalize hzg_a : w.heap.size = g_a at *
  obtain ⟨c0x0a, c0x0b, c0x0c, c0x0d⟩ := H0.out.cell (g_a) (a) (by simp)
  have c0x0l := H0.out.lt (g_a) (a) (by simp)
  have c0x0m := Nat.le_of_lt c0x0l
  obtain ⟨c6x0a, c6x0b, c6x0c, c6x0d⟩ := H0.out.cell (g_b) (b) (by simp)
  have c6x0l := H0.out.lt (g_b) (b) (by simp)
  have c6x0m := Nat.le_of_lt c6x0l
  obtain ⟨c12x0a, c12x0b, c12x0c, c12x0d⟩ := H0.out.cell (g_c) (m) (by simp)
  have c12x0l := H0.out.lt (g_c) (m) (by simp)
  have c12x0m := Nat.le_of_lt c12x0l
  go_wp2_with fail
  clear c0x0a c0x0b c0x0c c0x0d c0x0l c0x0m c6x0a c6x0b c6x0c c6x0d c6x0l c6x0m c12x0a c12x0b c12x0c c12x0d c12x0l c12x0m
  refine (env_of (rmay_any a b m false _ HA.out HB.out HM.out HV.out) H0.out).mono ?_
  rintro e w1 ⟨rfl, h⟩
  have H1 := hid h
  clear h H0
  obtain ⟨z0, z1, z2, z3⟩ := H1.out.cell g_z 0 (by simp)
  have zl := H1.out.lt g_z 0 (by simp)
  have zf := H1.out.frozen g_z 0 (by simp)
  have HZ := hid (H1.out.set g_z 0 (0) [] (by simp) (by rw [hzg_a]; exact DZ.out) (by simp))
  go_wp2
  clear z0 z1 z2 z3 zl zf
  try rw [Exit.noGoto_ret]
  change bodyPost _ _ _ _ _ (fil w1 g_z (0))
  generalize fil w1 g_z (0) = wz at *
  obtain ⟨k0, k1, k2, k3⟩ := HZ.out.cell g_z (0) (by simp)
  exact bodyPost_ret (v := .tuple #[num (0), .int .i64 1]) (by simp [results, Try.results27, go_sem, k0, k1, k2, k3]) rfl ⟨rfl, HZ.out.1⟩
set_option maxRecDepth 100000 in
set_option maxHeartbeats 4000000 in
theorem rmadd_over (a b m r : Nat) (w : World) (ha : a < 2 ^ 256) (hb : b < 2 ^ 256) (hm : m < 2 ^ 256) (hv : 1 < m ∧ a < m ∧ b < m) (hr : (a + b) % m = r) (hk : (a + b) / 2 ^ 256 = 1) : Calls Try.prog 27 #[num a, num b, num m] w fun e w' => e = .returned (.tuple #[num r, .int .i64 0]) ∧ Below w.heap.size w w' := by
  have HA := hid ha
  have HB := hid hb
  have HM := hid hm
  have HV := hid (show decide (1 < m ∧ a < m ∧ b < m) = true from decide_eq_true hv)
  have AM := hid hv.2.1
  have BM := hid hv.2.2
  obtain ⟨s, es⟩ : ∃ z, (a + b) % 2 ^ 256 = z := ⟨_, rfl⟩
  obtain ⟨k, ek⟩ : ∃ z, (a + b) / 2 ^ 256 = z := ⟨_, rfl⟩
  obtain ⟨d, ed⟩ : ∃ z, dif s m = z := ⟨_, rfl⟩
  obtain ⟨ln, eln⟩ : ∃ z : Int, ((lent s m : Nat) : Int) = z := ⟨_, rfl⟩
  have hra := round_add hv.2.1 hv.2.2 hm es ed
  rw [ek, hr] at hra
  have hsl : s < 2 ^ 256 := by rw [← es]; exact Nat.mod_lt _ (Nat.two_pow_pos _)
  have hk1 : k = 1 := by rw [← ek]; exact hk
  subst hk1
  obtain rfl : d = r := by rw [← hra]; unfold lent; split <;> (try split) <;> omega
  have ES := hid es
  have EK := hid (show (((a + b) / 2 ^ 256 : Nat) : Int) = 1 by rw [hk]; rfl)
  have ED := hid ed
  have ELN := hid eln
  have SL := hid hsl
  clear es ek ed eln hra hsl hk
  clear ha hb hm hr hv
  have H0 := hid ((((((Env.refl w).new a).new b).new m).zero).perm (l' := [(w.heap.size + 1 + 1 + 1, 0), (w.heap.size + 1 + 1, m), (w.heap.size + 1, b), (w.heap.size, a)]) (by simp))
  have DZ := hid (show w.heap.size ≤ w.heap.size + 1 + 1 + 1 by omega)
  have DN := hid (show ∀ p ∈ [(w.heap.size, a), (w.heap.size + 1, b), (w.heap.size + 1 + 1, m)], p.1 ≠ w.heap.size + 1 + 1 + 1 by simp; try omega)
  go_enter Try.func27, Try.ntmps27
  go_upto_region 1 with fail
  generalize (((w.alloc (.cells (cls a) 24)).alloc (.cells (cls b) 24)).alloc (.cells (cls m) 24)).alloc (.cells #[.int .u64 0, .int .u64 0, .int .u64 0, .int .u64 0] 24) = w0 at *
  generalize w.heap.size + 1 + 1 + 1 = g_z at *
  generalize w.heap.size + 1 + 1 = g_c at *
  generalize w.heap.size + 1 = g_b at *
  generalize hzg_a : w.heap.size = g_a at *
  obtain ⟨c0x0a, c0x0b, c0x0c, c0x0d⟩ := H0.out.cell (g_a) (a) (by simp)
  have c0x0l := H0.out.lt (g_a) (a) (by simp)
  have c0x0m := Nat.le_of_lt c0x0l
  obtain ⟨c6x0a, c6x0b, c6x0c, c6x0d⟩ := H0.out.cell (g_b) (b) (by simp)
  have c6x0l := H0.out.lt (g_b) (b) (by simp)
  have c6x0m := Nat.le_of_lt c6x0l
  obtain ⟨c12x0a, c12x0b, c12x0c, c12x0d⟩ := H0.out.cell (g_c) (m) (by simp)
  have c12x0l := H0.out.lt (g_c) (m) (by simp)
  have c12x0m := Nat.le_of_lt c12x0l
  go_wp2_with fail
  clear c0x0a c0x0b c0x0c c0x0d c0x0l c0x0m c6x0a c6x0b c6x0c c6x0d c6x0l c6x0m c12x0a c12x0b c12x0c c12x0d c12x0l c12x0m
  refine (env_of (rmay_any a b m true _ HA.out HB.out HM.out HV.out) H0.out).mono ?_
  rintro e w1 ⟨rfl, h⟩
  have H1 := hid h
  clear h H0
  obtain ⟨c0x1a, c0x1b, c0x1c, c0x1d⟩ := H1.out.cell (g_a) (a) (by simp)
  have c0x1l := H1.out.lt (g_a) (a) (by simp)
  have c0x1m := Nat.le_of_lt c0x1l
  obtain ⟨c6x1a, c6x1b, c6x1c, c6x1d⟩ := H1.out.cell (g_b) (b) (by simp)
  have c6x1l := H1.out.lt (g_b) (b) (by simp)
  have c6x1m := Nat.le_of_lt c6x1l
  obtain ⟨c12x1a, c12x1b, c12x1c, c12x1d⟩ := H1.out.cell (g_c) (m) (by simp)
  have c12x1l := H1.out.lt (g_c) (m) (by simp)
  have c12x1m := Nat.le_of_lt c12x1l
  go_wp2_with fail
  clear c0x1a c0x1b c0x1c c0x1d c0x1l c0x1m c6x1a c6x1b c6x1c c6x1d c6x1l c6x1m c12x1a c12x1b c12x1c c12x1d c12x1l c12x1m
  refine (env_of (r2add_b a b s 1 _ HA.out HB.out ES.out EK.out) H1.out).mono ?_
  rintro e w2 ⟨rfl, h⟩
  have H2 := hid h
  clear h H1
  go_upto_region 4 with fail
  have F8 := hid H2.out.fresh
  have H2b := hid (H2.out.new s)
  clear H2
  generalize w2.alloc (.cells (cls s) 24) = w2b at *
  generalize w2.heap.size = g8 at *
  obtain ⟨c0x2a, c0x2b, c0x2c, c0x2d⟩ := H2b.out.cell (g8) (s) (by simp)
  have c0x2l := H2b.out.lt (g8) (s) (by simp)
  have c0x2m := Nat.le_of_lt c0x2l
  obtain ⟨c6x2a, c6x2b, c6x2c, c6x2d⟩ := H2b.out.cell (g_c) (m) (by simp)
  have c6x2l := H2b.out.lt (g_c) (m) (by simp)
  have c6x2m := Nat.le_of_lt c6x2l
  go_wp2_with fail
  clear c0x2a c0x2b c0x2c c0x2d c0x2l c0x2m c6x2a c6x2b c6x2c c6x2d c6x2l c6x2m
  refine (env_of (r2sub_b s m d ln _ SL.out HM.out ED.out ELN.out) H2b.out).mono ?_
  rintro e w3 ⟨rfl, h⟩
  have H3 := hid h
  clear h H2b
  obtain ⟨c0x3a, c0x3b, c0x3c, c0x3d⟩ := H3.out.cell (g8) (s) (by simp)
  have c0x3l := H3.out.lt (g8) (s) (by simp)
  have c0x3m := Nat.le_of_lt c0x3l
  have f6x3 := H3.out.frozen g8 s (by simp)
  have HS := hid (H3.out.set g8 s d [(g_z, 0), (g_c, m), (g_b, b), (g_a, a)] (by simp) F8.out.1 (fun p hp => by simp only [List.mem_cons, List.not_mem_nil, or_false] at hp; rcases hp with rfl | rfl | rfl | rfl <;> first | exact ⟨by simp, F8.out.2 (g_z, 0) (by simp)⟩ | exact ⟨by simp, F8.out.2 (g_c, m) (by simp)⟩ | exact ⟨by simp, F8.out.2 (g_b, b) (by simp)⟩ | exact ⟨by simp, F8.out.2 (g_a, a) (by simp)⟩))
  go_upto_region 6 with fail
  clear c0x3a c0x3b c0x3c c0x3d c0x3l c0x3m f6x3
  clear H3
  change Code.wp _ _ _ _ (fil w3 g8 d)
  generalize fil w3 g8 d = ws at *
  obtain ⟨c0x3a, c0x3b, c0x3c, c0x3d⟩ := HS.out.cell (g8) (d) (by simp)
  have c0x3l := HS.out.lt (g8) (d) (by simp)
  have c0x3m := Nat.le_of_lt c0x3l
  obtain ⟨z0, z1, z2, z3⟩ := HS.out.cell g_z 0 (by simp)
  have zl := HS.out.lt g_z 0 (by simp)
  have zf := HS.out.frozen g_z 0 (by simp)
  have HZ := hid (HS.out.set g_z 0 (d) [] (by simp) (by rw [hzg_a]; exact DZ.out) (by simp))
  go_wp2
  clear z0 z1 z2 z3 zl zf
  try rw [Exit.noGoto_ret]
  change bodyPost _ _ _ _ _ (fil ws g_z (d))
  generalize fil ws g_z (d) = wz at *
  obtain ⟨k0, k1, k2, k3⟩ := HZ.out.cell g_z (d) (by simp)
  exact bodyPost_ret (v := .tuple #[num (d), .int .i64 0]) (by simp [results, Try.results27, go_sem, k0, k1, k2, k3]) rfl ⟨rfl, HZ.out.1⟩
set_option maxRecDepth 100000 in
set_option maxHeartbeats 4000000 in
theorem rmadd_low (a b m r : Nat) (w : World) (ha : a < 2 ^ 256) (hb : b < 2 ^ 256) (hm : m < 2 ^ 256) (hv : 1 < m ∧ a < m ∧ b < m) (hr : (a + b) % m = r) (hk : (a + b) / 2 ^ 256 = 0) (hc : (a + b) % 2 ^ 256 < m) : Calls Try.prog 27 #[num a, num b, num m] w fun e w' => e = .returned (.tuple #[num r, .int .i64 0]) ∧ Below w.heap.size w w' := by
  have HA := hid ha
  have HB := hid hb
  have HM := hid hm
  have HV := hid (show decide (1 < m ∧ a < m ∧ b < m) = true from decide_eq_true hv)
  have AM := hid hv.2.1
  have BM := hid hv.2.2
  obtain ⟨s, es⟩ : ∃ z, (a + b) % 2 ^ 256 = z := ⟨_, rfl⟩
  obtain ⟨k, ek⟩ : ∃ z, (a + b) / 2 ^ 256 = z := ⟨_, rfl⟩
  obtain ⟨d, ed⟩ : ∃ z, dif s m = z := ⟨_, rfl⟩
  obtain ⟨ln, eln⟩ : ∃ z : Int, ((lent s m : Nat) : Int) = z := ⟨_, rfl⟩
  have hra := round_add hv.2.1 hv.2.2 hm es ed
  rw [ek, hr] at hra
  have hsl : s < 2 ^ 256 := by rw [← es]; exact Nat.mod_lt _ (Nat.two_pow_pos _)
  have hk0 : k = 0 := by rw [← ek]; exact hk
  subst hk0
  obtain ⟨c, ec⟩ : ∃ z, cmpN s m = z := ⟨_, rfl⟩
  have hsm : s < m := by rw [← es]; exact hc
  have nc : c < 0 := by rw [← ec]; unfold cmpN; rw [if_pos hsm]; decide
  obtain rfl : s = r := by rw [← hra]; unfold lent; rw [if_pos hsm, if_pos (by decide)]
  have EC := hid ec
  clear ec hsm
  have ES := hid es
  have EK := hid (show (((a + b) / 2 ^ 256 : Nat) : Int) = 0 by rw [hk]; rfl)
  have ED := hid ed
  have ELN := hid eln
  have SL := hid hsl
  clear es ek ed eln hra hsl hk hc
  clear ha hb hm hr hv
  have H0 := hid ((((((Env.refl w).new a).new b).new m).zero).perm (l' := [(w.heap.size + 1 + 1 + 1, 0), (w.heap.size + 1 + 1, m), (w.heap.size + 1, b), (w.heap.size, a)]) (by simp))
  have DZ := hid (show w.heap.size ≤ w.heap.size + 1 + 1 + 1 by omega)
  have DN := hid (show ∀ p ∈ [(w.heap.size, a), (w.heap.size + 1, b), (w.heap.size + 1 + 1, m)], p.1 ≠ w.heap.size + 1 + 1 + 1 by simp; try omega)
  go_enter Try.func27, Try.ntmps27
  go_upto_region 1 with fail
  generalize (((w.alloc (.cells (cls a) 24)).alloc (.cells (cls b) 24)).alloc (.cells (cls m) 24)).alloc (.cells #[.int .u64 0, .int .u64 0, .int .u64 0, .int .u64 0] 24) = w0 at *
  generalize w.heap.size + 1 + 1 + 1 = g_z at *
  generalize w.heap.size + 1 + 1 = g_c at *
  generalize w.heap.size + 1 = g_b at *
  generalize hzg_a : w.heap.size = g_a at *
  obtain ⟨c0x0a, c0x0b, c0x0c, c0x0d⟩ := H0.out.cell (g_a) (a) (by simp)
  have c0x0l := H0.out.lt (g_a) (a) (by simp)
  have c0x0m := Nat.le_of_lt c0x0l
  obtain ⟨c6x0a, c6x0b, c6x0c, c6x0d⟩ := H0.out.cell (g_b) (b) (by simp)
  have c6x0l := H0.out.lt (g_b) (b) (by simp)
  have c6x0m := Nat.le_of_lt c6x0l
  obtain ⟨c12x0a, c12x0b, c12x0c, c12x0d⟩ := H0.out.cell (g_c) (m) (by simp)
  have c12x0l := H0.out.lt (g_c) (m) (by simp)
  have c12x0m := Nat.le_of_lt c12x0l
  go_wp2_with fail
  clear c0x0a c0x0b c0x0c c0x0d c0x0l c0x0m c6x0a c6x0b c6x0c c6x0d c6x0l c6x0m c12x0a c12x0b c12x0c c12x0d c12x0l c12x0m
  refine (env_of (rmay_any a b m true _ HA.out HB.out HM.out HV.out) H0.out).mono ?_
  rintro e w1 ⟨rfl, h⟩
  have H1 := hid h
  clear h H0
  obtain ⟨c0x1a, c0x1b, c0x1c, c0x1d⟩ := H1.out.cell (g_a) (a) (by simp)
  have c0x1l := H1.out.lt (g_a) (a) (by simp)
  have c0x1m := Nat.le_of_lt c0x1l
  obtain ⟨c6x1a, c6x1b, c6x1c, c6x1d⟩ := H1.out.cell (g_b) (b) (by simp)
  have c6x1l := H1.out.lt (g_b) (b) (by simp)
  have c6x1m := Nat.le_of_lt c6x1l
  obtain ⟨c12x1a, c12x1b, c12x1c, c12x1d⟩ := H1.out.cell (g_c) (m) (by simp)
  have c12x1l := H1.out.lt (g_c) (m) (by simp)
  have c12x1m := Nat.le_of_lt c12x1l
  go_wp2_with fail
  clear c0x1a c0x1b c0x1c c0x1d c0x1l c0x1m c6x1a c6x1b c6x1c c6x1d c6x1l c6x1m c12x1a c12x1b c12x1c c12x1d c12x1l c12x1m
  refine (env_of (r2add_b a b s 0 _ HA.out HB.out ES.out EK.out) H1.out).mono ?_
  rintro e w2 ⟨rfl, h⟩
  have H2 := hid h
  clear h H1
  go_upto_region 4 with fail
  have F8 := hid H2.out.fresh
  have H2b := hid (H2.out.new s)
  clear H2
  generalize w2.alloc (.cells (cls s) 24) = w2b at *
  generalize w2.heap.size = g8 at *
  obtain ⟨c0x2a, c0x2b, c0x2c, c0x2d⟩ := H2b.out.cell (g8) (s) (by simp)
  have c0x2l := H2b.out.lt (g8) (s) (by simp)
  have c0x2m := Nat.le_of_lt c0x2l
  obtain ⟨c6x2a, c6x2b, c6x2c, c6x2d⟩ := H2b.out.cell (g_c) (m) (by simp)
  have c6x2l := H2b.out.lt (g_c) (m) (by simp)
  have c6x2m := Nat.le_of_lt c6x2l
  go_wp2_with fail
  clear c0x2a c0x2b c0x2c c0x2d c0x2l c0x2m c6x2a c6x2b c6x2c c6x2d c6x2l c6x2m
  refine (env_of (rcmp_c s m c _ SL.out HM.out EC.out) H2b.out).mono ?_
  rintro e w3 ⟨rfl, h⟩
  have H3 := hid h
  clear h H2b
  obtain ⟨c0x3a, c0x3b, c0x3c, c0x3d⟩ := H3.out.cell (g8) (s) (by simp)
  have c0x3l := H3.out.lt (g8) (s) (by simp)
  have c0x3m := Nat.le_of_lt c0x3l
  obtain ⟨z0, z1, z2, z3⟩ := H3.out.cell g_z 0 (by simp)
  have zl := H3.out.lt g_z 0 (by simp)
  have zf := H3.out.frozen g_z 0 (by simp)
  have HZ := hid (H3.out.set g_z 0 (s) [] (by simp) (by rw [hzg_a]; exact DZ.out) (by simp))
  go_wp2
  clear z0 z1 z2 z3 zl zf
  try rw [Exit.noGoto_ret]
  change bodyPost _ _ _ _ _ (fil w3 g_z (s))
  generalize fil w3 g_z (s) = wz at *
  obtain ⟨k0, k1, k2, k3⟩ := HZ.out.cell g_z (s) (by simp)
  exact bodyPost_ret (v := .tuple #[num (s), .int .i64 0]) (by simp [results, Try.results27, go_sem, k0, k1, k2, k3]) rfl ⟨rfl, HZ.out.1⟩
set_option maxRecDepth 100000 in
set_option maxHeartbeats 4000000 in
theorem rmadd_high (a b m r : Nat) (w : World) (ha : a < 2 ^ 256) (hb : b < 2 ^ 256) (hm : m < 2 ^ 256) (hv : 1 < m ∧ a < m ∧ b < m) (hr : (a + b) % m = r) (hk : (a + b) / 2 ^ 256 = 0) (hc : ¬ (a + b) % 2 ^ 256 < m) : Calls Try.prog 27 #[num a, num b, num m] w fun e w' => e = .returned (.tuple #[num r, .int .i64 0]) ∧ Below w.heap.size w w' := by
  have HA := hid ha
  have HB := hid hb
  have HM := hid hm
  have HV := hid (show decide (1 < m ∧ a < m ∧ b < m) = true from decide_eq_true hv)
  have AM := hid hv.2.1
  have BM := hid hv.2.2
  obtain ⟨s, es⟩ : ∃ z, (a + b) % 2 ^ 256 = z := ⟨_, rfl⟩
  obtain ⟨k, ek⟩ : ∃ z, (a + b) / 2 ^ 256 = z := ⟨_, rfl⟩
  obtain ⟨d, ed⟩ : ∃ z, dif s m = z := ⟨_, rfl⟩
  obtain ⟨ln, eln⟩ : ∃ z : Int, ((lent s m : Nat) : Int) = z := ⟨_, rfl⟩
  have hra := round_add hv.2.1 hv.2.2 hm es ed
  rw [ek, hr] at hra
  have hsl : s < 2 ^ 256 := by rw [← es]; exact Nat.mod_lt _ (Nat.two_pow_pos _)
  have hk0 : k = 0 := by rw [← ek]; exact hk
  subst hk0
  obtain ⟨c, ec⟩ : ∃ z, cmpN s m = z := ⟨_, rfl⟩
  have hsm : ¬ s < m := by rw [← es]; exact hc
  have nc : ¬ c < 0 := by rw [← ec]; unfold cmpN; split <;> (try split) <;> omega
  have nc2 : 0 ≤ c := by omega
  obtain rfl : d = r := by rw [← hra]; unfold lent; rw [if_neg hsm, if_neg (by decide)]
  have EC := hid ec
  clear ec hsm
  have ES := hid es
  have EK := hid (show (((a + b) / 2 ^ 256 : Nat) : Int) = 0 by rw [hk]; rfl)
  have ED := hid ed
  have ELN := hid eln
  have SL := hid hsl
  clear es ek ed eln hra hsl hk hc
  clear ha hb hm hr hv
  have H0 := hid ((((((Env.refl w).new a).new b).new m).zero).perm (l' := [(w.heap.size + 1 + 1 + 1, 0), (w.heap.size + 1 + 1, m), (w.heap.size + 1, b), (w.heap.size, a)]) (by simp))
  have DZ := hid (show w.heap.size ≤ w.heap.size + 1 + 1 + 1 by omega)
  have DN := hid (show ∀ p ∈ [(w.heap.size, a), (w.heap.size + 1, b), (w.heap.size + 1 + 1, m)], p.1 ≠ w.heap.size + 1 + 1 + 1 by simp; try omega)
  go_enter Try.func27, Try.ntmps27
  go_upto_region 1 with fail
  generalize (((w.alloc (.cells (cls a) 24)).alloc (.cells (cls b) 24)).alloc (.cells (cls m) 24)).alloc (.cells #[.int .u64 0, .int .u64 0, .int .u64 0, .int .u64 0] 24) = w0 at *
  generalize w.heap.size + 1 + 1 + 1 = g_z at *
  generalize w.heap.size + 1 + 1 = g_c at *
  generalize w.heap.size + 1 = g_b at *
  generalize hzg_a : w.heap.size = g_a at *
  obtain ⟨c0x0a, c0x0b, c0x0c, c0x0d⟩ := H0.out.cell (g_a) (a) (by simp)
  have c0x0l := H0.out.lt (g_a) (a) (by simp)
  have c0x0m := Nat.le_of_lt c0x0l
  obtain ⟨c6x0a, c6x0b, c6x0c, c6x0d⟩ := H0.out.cell (g_b) (b) (by simp)
  have c6x0l := H0.out.lt (g_b) (b) (by simp)
  have c6x0m := Nat.le_of_lt c6x0l
  obtain ⟨c12x0a, c12x0b, c12x0c, c12x0d⟩ := H0.out.cell (g_c) (m) (by simp)
  have c12x0l := H0.out.lt (g_c) (m) (by simp)
  have c12x0m := Nat.le_of_lt c12x0l
  go_wp2_with fail
  clear c0x0a c0x0b c0x0c c0x0d c0x0l c0x0m c6x0a c6x0b c6x0c c6x0d c6x0l c6x0m c12x0a c12x0b c12x0c c12x0d c12x0l c12x0m
  refine (env_of (rmay_any a b m true _ HA.out HB.out HM.out HV.out) H0.out).mono ?_
  rintro e w1 ⟨rfl, h⟩
  have H1 := hid h
  clear h H0
  obtain ⟨c0x1a, c0x1b, c0x1c, c0x1d⟩ := H1.out.cell (g_a) (a) (by simp)
  have c0x1l := H1.out.lt (g_a) (a) (by simp)
  have c0x1m := Nat.le_of_lt c0x1l
  obtain ⟨c6x1a, c6x1b, c6x1c, c6x1d⟩ := H1.out.cell (g_b) (b) (by simp)
  have c6x1l := H1.out.lt (g_b) (b) (by simp)
  have c6x1m := Nat.le_of_lt c6x1l
  obtain ⟨c12x1a, c12x1b, c12x1c, c12x1d⟩ := H1.out.cell (g_c) (m) (by simp)
  have c12x1l := H1.out.lt (g_c) (m) (by simp)
  have c12x1m := Nat.le_of_lt c12x1l
  go_wp2_with fail
  clear c0x1a c0x1b c0x1c c0x1d c0x1l c0x1m c6x1a c6x1b c6x1c c6x1d c6x1l c6x1m c12x1a c12x1b c12x1c c12x1d c12x1l c12x1m
  refine (env_of (r2add_b a b s 0 _ HA.out HB.out ES.out EK.out) H1.out).mono ?_
  rintro e w2 ⟨rfl, h⟩
  have H2 := hid h
  clear h H1
  go_upto_region 4 with fail
  have F8 := hid H2.out.fresh
  have H2b := hid (H2.out.new s)
  clear H2
  generalize w2.alloc (.cells (cls s) 24) = w2b at *
  generalize w2.heap.size = g8 at *
  obtain ⟨c0x2a, c0x2b, c0x2c, c0x2d⟩ := H2b.out.cell (g8) (s) (by simp)
  have c0x2l := H2b.out.lt (g8) (s) (by simp)
  have c0x2m := Nat.le_of_lt c0x2l
  obtain ⟨c6x2a, c6x2b, c6x2c, c6x2d⟩ := H2b.out.cell (g_c) (m) (by simp)
  have c6x2l := H2b.out.lt (g_c) (m) (by simp)
  have c6x2m := Nat.le_of_lt c6x2l
  go_wp2_with fail
  clear c0x2a c0x2b c0x2c c0x2d c0x2l c0x2m c6x2a c6x2b c6x2c c6x2d c6x2l c6x2m
  refine (env_of (rcmp_c s m c _ SL.out HM.out EC.out) H2b.out).mono ?_
  rintro e w3 ⟨rfl, h⟩
  have H3 := hid h
  clear h H2b
  obtain ⟨c0x3a, c0x3b, c0x3c, c0x3d⟩ := H3.out.cell (g8) (s) (by simp)
  have c0x3l := H3.out.lt (g8) (s) (by simp)
  have c0x3m := Nat.le_of_lt c0x3l
  obtain ⟨c6x3a, c6x3b, c6x3c, c6x3d⟩ := H3.out.cell (g_c) (m) (by simp)
  have c6x3l := H3.out.lt (g_c) (m) (by simp)
  have c6x3m := Nat.le_of_lt c6x3l
  go_wp2_with fail
  clear c0x3a c0x3b c0x3c c0x3d c0x3l c0x3m c6x3a c6x3b c6x3c c6x3d c6x3l c6x3m
  refine (env_of (r2sub_b s m d ln _ SL.out HM.out ED.out ELN.out) H3.out).mono ?_
  rintro e w4 ⟨rfl, h⟩
  have H4 := hid h
  clear h H3
  obtain ⟨c0x4a, c0x4b, c0x4c, c0x4d⟩ := H4.out.cell (g8) (s) (by simp)
  have c0x4l := H4.out.lt (g8) (s) (by simp)
  have c0x4m := Nat.le_of_lt c0x4l
  have f6x4 := H4.out.frozen g8 s (by simp)
  have HS := hid (H4.out.set g8 s d [(g_z, 0), (g_c, m), (g_b, b), (g_a, a)] (by simp) F8.out.1 (fun p hp => by simp only [List.mem_cons, List.not_mem_nil, or_false] at hp; rcases hp with rfl | rfl | rfl | rfl <;> first | exact ⟨by simp, F8.out.2 (g_z, 0) (by simp)⟩ | exact ⟨by simp, F8.out.2 (g_c, m) (by simp)⟩ | exact ⟨by simp, F8.out.2 (g_b, b) (by simp)⟩ | exact ⟨by simp, F8.out.2 (g_a, a) (by simp)⟩))
  go_upto_region 6 with fail
  clear c0x4a c0x4b c0x4c c0x4d c0x4l c0x4m f6x4
  clear H4
  change Code.wp _ _ _ _ (fil w4 g8 d)
  generalize fil w4 g8 d = ws at *
  obtain ⟨c0x4a, c0x4b, c0x4c, c0x4d⟩ := HS.out.cell (g8) (d) (by simp)
  have c0x4l := HS.out.lt (g8) (d) (by simp)
  have c0x4m := Nat.le_of_lt c0x4l
  obtain ⟨z0, z1, z2, z3⟩ := HS.out.cell g_z 0 (by simp)
  have zl := HS.out.lt g_z 0 (by simp)
  have zf := HS.out.frozen g_z 0 (by simp)
  have HZ := hid (HS.out.set g_z 0 (d) [] (by simp) (by rw [hzg_a]; exact DZ.out) (by simp))
  go_wp2
  clear z0 z1 z2 z3 zl zf
  try rw [Exit.noGoto_ret]
  change bodyPost _ _ _ _ _ (fil ws g_z (d))
  generalize fil ws g_z (d) = wz at *
  obtain ⟨k0, k1, k2, k3⟩ := HZ.out.cell g_z (d) (by simp)
  exact bodyPost_ret (v := .tuple #[num (d), .int .i64 0]) (by simp [results, Try.results27, go_sem, k0, k1, k2, k3]) rfl ⟨rfl, HZ.out.1⟩
theorem rmadd_some (a b m r : Nat) (w : World) (ha : a < 2 ^ 256) (hb : b < 2 ^ 256) (hm : m < 2 ^ 256) (hv : 1 < m ∧ a < m ∧ b < m) (hr : (a + b) % m = r) : Calls Try.prog 27 #[num a, num b, num m] w fun e w' => e = .returned (.tuple #[num r, .int .i64 0]) ∧ Below w.heap.size w w' := by
  have hk : (a + b) / 2 ^ 256 = 0 ∨ (a + b) / 2 ^ 256 = 1 := by rw [p256] at *; omega
  rcases hk with hk | hk
  · by_cases hc : (a + b) % 2 ^ 256 < m
    · exact rmadd_low a b m r w ha hb hm hv hr hk hc
    · exact rmadd_high a b m r w ha hb hm hv hr hk hc
  · exact rmadd_over a b m r w ha hb hm hv hr hk
set_option maxRecDepth 100000 in
set_option maxHeartbeats 4000000 in
theorem rmsub_none (a b m : Nat) (w : World) (ha : a < 2 ^ 256) (hb : b < 2 ^ 256) (hm : m < 2 ^ 256) (hv : ¬ (1 < m ∧ a < m ∧ b < m)) : Calls Try.prog 28 #[num a, num b, num m] w fun e w' => e = .returned (.tuple #[num 0, .int .i64 1]) ∧ Below w.heap.size w w' := by
  have HA := hid ha
  have HB := hid hb
  have HM := hid hm
  have HV := hid (show decide (1 < m ∧ a < m ∧ b < m) = false from decide_eq_false hv)
  clear ha hb hm hv
  have H0 := hid ((((((Env.refl w).new a).new b).new m).zero).perm (l' := [(w.heap.size + 1 + 1 + 1, 0), (w.heap.size + 1 + 1, m), (w.heap.size + 1, b), (w.heap.size, a)]) (by simp))
  have DZ := hid (show w.heap.size ≤ w.heap.size + 1 + 1 + 1 by omega)
  have DN := hid (show ∀ p ∈ [(w.heap.size, a), (w.heap.size + 1, b), (w.heap.size + 1 + 1, m)], p.1 ≠ w.heap.size + 1 + 1 + 1 by simp; try omega)
  go_enter Try.func28, Try.ntmps28
  go_upto_region 1 with fail
  generalize (((w.alloc (.cells (cls a) 24)).alloc (.cells (cls b) 24)).alloc (.cells (cls m) 24)).alloc (.cells #[.int .u64 0, .int .u64 0, .int .u64 0, .int .u64 0] 24) = w0 at *
  generalize w.heap.size + 1 + 1 + 1 = g_z at *
  generalize w.heap.size + 1 + 1 = g_c at *
  generalize w.heap.size + 1 = g_b at *
  generalize hzg_a : w.heap.size = g_a at *
  obtain ⟨c0x0a, c0x0b, c0x0c, c0x0d⟩ := H0.out.cell (g_a) (a) (by simp)
  have c0x0l := H0.out.lt (g_a) (a) (by simp)
  have c0x0m := Nat.le_of_lt c0x0l
  obtain ⟨c6x0a, c6x0b, c6x0c, c6x0d⟩ := H0.out.cell (g_b) (b) (by simp)
  have c6x0l := H0.out.lt (g_b) (b) (by simp)
  have c6x0m := Nat.le_of_lt c6x0l
  obtain ⟨c12x0a, c12x0b, c12x0c, c12x0d⟩ := H0.out.cell (g_c) (m) (by simp)
  have c12x0l := H0.out.lt (g_c) (m) (by simp)
  have c12x0m := Nat.le_of_lt c12x0l
  go_wp2_with fail
  clear c0x0a c0x0b c0x0c c0x0d c0x0l c0x0m c6x0a c6x0b c6x0c c6x0d c6x0l c6x0m c12x0a c12x0b c12x0c c12x0d c12x0l c12x0m
  refine (env_of (rmay_any a b m false _ HA.out HB.out HM.out HV.out) H0.out).mono ?_
  rintro e w1 ⟨rfl, h⟩
  have H1 := hid h
  clear h H0
  obtain ⟨z0, z1, z2, z3⟩ := H1.out.cell g_z 0 (by simp)
  have zl := H1.out.lt g_z 0 (by simp)
  have zf := H1.out.frozen g_z 0 (by simp)
  have HZ := hid (H1.out.set g_z 0 (0) [] (by simp) (by rw [hzg_a]; exact DZ.out) (by simp))
  go_wp2
  clear z0 z1 z2 z3 zl zf
  try rw [Exit.noGoto_ret]
  change bodyPost _ _ _ _ _ (fil w1 g_z (0))
  generalize fil w1 g_z (0) = wz at *
  obtain ⟨k0, k1, k2, k3⟩ := HZ.out.cell g_z (0) (by simp)
  exact bodyPost_ret (v := .tuple #[num (0), .int .i64 1]) (by simp [results, Try.results28, go_sem, k0, k1, k2, k3]) rfl ⟨rfl, HZ.out.1⟩
set_option maxRecDepth 100000 in
set_option maxHeartbeats 4000000 in
theorem rmsub_over (a b m r : Nat) (w : World) (ha : a < 2 ^ 256) (hb : b < 2 ^ 256) (hm : m < 2 ^ 256) (hv : 1 < m ∧ a < m ∧ b < m) (hr : (a + (m - b)) % m = r) (hc : a < b) : Calls Try.prog 28 #[num a, num b, num m] w fun e w' => e = .returned (.tuple #[num r, .int .i64 0]) ∧ Below w.heap.size w w' := by
  have HA := hid ha
  have HB := hid hb
  have HM := hid hm
  have HV := hid (show decide (1 < m ∧ a < m ∧ b < m) = true from decide_eq_true hv)
  have AM := hid hv.2.1
  have BM := hid hv.2.2
  obtain ⟨s, es⟩ : ∃ z, dif a b = z := ⟨_, rfl⟩
  obtain ⟨s2, es2⟩ : ∃ z, (s + m) % 2 ^ 256 = z := ⟨_, rfl⟩
  obtain ⟨k2, ek2⟩ : ∃ z : Int, (((s + m) / 2 ^ 256 : Nat) : Int) = z := ⟨_, rfl⟩
  have hra := (round_sub hv.2.1 hv.2.2).resolve_right (by omega)
  rw [es, hr] at hra
  have hsl : s < 2 ^ 256 := by rw [← es]; unfold dif; split <;> omega
  rw [if_pos hc, es2] at hra
  subst hra
  have EK := hid (show ((lent a b : Nat) : Int) = 1 by unfold lent; rw [if_pos hc]; rfl)
  have ES := hid es
  have ES2 := hid es2
  have EK2 := hid ek2
  have SL := hid hsl
  clear es es2 ek2 hsl hc
  clear ha hb hm hr hv
  have H0 := hid ((((((Env.refl w).new a).new b).new m).zero).perm (l' := [(w.heap.size + 1 + 1 + 1, 0), (w.heap.size + 1 + 1, m), (w.heap.size + 1, b), (w.heap.size, a)]) (by simp))
  have DZ := hid (show w.heap.size ≤ w.heap.size + 1 + 1 + 1 by omega)
  have DN := hid (show ∀ p ∈ [(w.heap.size, a), (w.heap.size + 1, b), (w.heap.size + 1 + 1, m)], p.1 ≠ w.heap.size + 1 + 1 + 1 by simp; try omega)
  go_enter Try.func28, Try.ntmps28
  go_upto_region 1 with fail
  generalize (((w.alloc (.cells (cls a) 24)).alloc (.cells (cls b) 24)).alloc (.cells (cls m) 24)).alloc (.cells #[.int .u64 0, .int .u64 0, .int .u64 0, .int .u64 0] 24) = w0 at *
  generalize w.heap.size + 1 + 1 + 1 = g_z at *
  generalize w.heap.size + 1 + 1 = g_c at *
  generalize w.heap.size + 1 = g_b at *
  generalize hzg_a : w.heap.size = g_a at *
  obtain ⟨c0x0a, c0x0b, c0x0c, c0x0d⟩ := H0.out.cell (g_a) (a) (by simp)
  have c0x0l := H0.out.lt (g_a) (a) (by simp)
  have c0x0m := Nat.le_of_lt c0x0l
  obtain ⟨c6x0a, c6x0b, c6x0c, c6x0d⟩ := H0.out.cell (g_b) (b) (by simp)
  have c6x0l := H0.out.lt (g_b) (b) (by simp)
  have c6x0m := Nat.le_of_lt c6x0l
  obtain ⟨c12x0a, c12x0b, c12x0c, c12x0d⟩ := H0.out.cell (g_c) (m) (by simp)
  have c12x0l := H0.out.lt (g_c) (m) (by simp)
  have c12x0m := Nat.le_of_lt c12x0l
  go_wp2_with fail
  clear c0x0a c0x0b c0x0c c0x0d c0x0l c0x0m c6x0a c6x0b c6x0c c6x0d c6x0l c6x0m c12x0a c12x0b c12x0c c12x0d c12x0l c12x0m
  refine (env_of (rmay_any a b m true _ HA.out HB.out HM.out HV.out) H0.out).mono ?_
  rintro e w1 ⟨rfl, h⟩
  have H1 := hid h
  clear h H0
  obtain ⟨c0x1a, c0x1b, c0x1c, c0x1d⟩ := H1.out.cell (g_a) (a) (by simp)
  have c0x1l := H1.out.lt (g_a) (a) (by simp)
  have c0x1m := Nat.le_of_lt c0x1l
  obtain ⟨c6x1a, c6x1b, c6x1c, c6x1d⟩ := H1.out.cell (g_b) (b) (by simp)
  have c6x1l := H1.out.lt (g_b) (b) (by simp)
  have c6x1m := Nat.le_of_lt c6x1l
  obtain ⟨c12x1a, c12x1b, c12x1c, c12x1d⟩ := H1.out.cell (g_c) (m) (by simp)
  have c12x1l := H1.out.lt (g_c) (m) (by simp)
  have c12x1m := Nat.le_of_lt c12x1l
  go_wp2_with fail
  clear c0x1a c0x1b c0x1c c0x1d c0x1l c0x1m c6x1a c6x1b c6x1c c6x1d c6x1l c6x1m c12x1a c12x1b c12x1c c12x1d c12x1l c12x1m
  refine (env_of (r2sub_b a b s 1 _ HA.out HB.out ES.out EK.out) H1.out).mono ?_
  rintro e w2 ⟨rfl, h⟩
  have H2 := hid h
  clear h H1
  go_upto_region 4 with fail
  have F8 := hid H2.out.fresh
  have H2b := hid (H2.out.new s)
  clear H2
  generalize w2.alloc (.cells (cls s) 24) = w2b at *
  generalize w2.heap.size = g8 at *
  obtain ⟨c0x2a, c0x2b, c0x2c, c0x2d⟩ := H2b.out.cell (g8) (s) (by simp)
  have c0x2l := H2b.out.lt (g8) (s) (by simp)
  have c0x2m := Nat.le_of_lt c0x2l
  obtain ⟨c6x2a, c6x2b, c6x2c, c6x2d⟩ := H2b.out.cell (g_c) (m) (by simp)
  have c6x2l := H2b.out.lt (g_c) (m) (by simp)
  have c6x2m := Nat.le_of_lt c6x2l
  go_wp2_with fail
  clear c0x2a c0x2b c0x2c c0x2d c0x2l c0x2m c6x2a c6x2b c6x2c c6x2d c6x2l c6x2m
  refine (env_of (r2add_b s m s2 k2 _ SL.out HM.out ES2.out EK2.out) H2b.out).mono ?_
  rintro e w3 ⟨rfl, h⟩
  have H3 := hid h
  clear h H2b
  obtain ⟨c0x3a, c0x3b, c0x3c, c0x3d⟩ := H3.out.cell (g8) (s) (by simp)
  have c0x3l := H3.out.lt (g8) (s) (by simp)
  have c0x3m := Nat.le_of_lt c0x3l
  have f6x3 := H3.out.frozen g8 s (by simp)
  have HS := hid (H3.out.set g8 s s2 [(g_z, 0), (g_c, m), (g_b, b), (g_a, a)] (by simp) F8.out.1 (fun p hp => by simp only [List.mem_cons, List.not_mem_nil, or_false] at hp; rcases hp with rfl | rfl | rfl | rfl <;> first | exact ⟨by simp, F8.out.2 (g_z, 0) (by simp)⟩ | exact ⟨by simp, F8.out.2 (g_c, m) (by simp)⟩ | exact ⟨by simp, F8.out.2 (g_b, b) (by simp)⟩ | exact ⟨by simp, F8.out.2 (g_a, a) (by simp)⟩))
  go_upto_region 6 with fail
  clear c0x3a c0x3b c0x3c c0x3d c0x3l c0x3m f6x3
  clear H3
  change Code.wp _ _ _ _ (fil w3 g8 s2)
  generalize fil w3 g8 s2 = ws at *
  obtain ⟨c0x3a, c0x3b, c0x3c, c0x3d⟩ := HS.out.cell (g8) (s2) (by simp)
  have c0x3l := HS.out.lt (g8) (s2) (by simp)
  have c0x3m := Nat.le_of_lt c0x3l
  obtain ⟨z0, z1, z2, z3⟩ := HS.out.cell g_z 0 (by simp)
  have zl := HS.out.lt g_z 0 (by simp)
  have zf := HS.out.frozen g_z 0 (by simp)
  have HZ := hid (HS.out.set g_z 0 (s2) [] (by simp) (by rw [hzg_a]; exact DZ.out) (by simp))
  go_wp2
  clear z0 z1 z2 z3 zl zf
  try rw [Exit.noGoto_ret]
  change bodyPost _ _ _ _ _ (fil ws g_z (s2))
  generalize fil ws g_z (s2) = wz at *
  obtain ⟨k0, k1, k2, k3⟩ := HZ.out.cell g_z (s2) (by simp)
  exact bodyPost_ret (v := .tuple #[num (s2), .int .i64 0]) (by simp [results, Try.results28, go_sem, k0, k1, k2, k3]) rfl ⟨rfl, HZ.out.1⟩
set_option maxRecDepth 100000 in
set_option maxHeartbeats 4000000 in
theorem rmsub_low (a b m r : Nat) (w : World) (ha : a < 2 ^ 256) (hb : b < 2 ^ 256) (hm : m < 2 ^ 256) (hv : 1 < m ∧ a < m ∧ b < m) (hr : (a + (m - b)) % m = r) (hc : ¬ a < b) : Calls Try.prog 28 #[num a, num b, num m] w fun e w' => e = .returned (.tuple #[num r, .int .i64 0]) ∧ Below w.heap.size w w' := by
  have HA := hid ha
  have HB := hid hb
  have HM := hid hm
  have HV := hid (show decide (1 < m ∧ a < m ∧ b < m) = true from decide_eq_true hv)
  have AM := hid hv.2.1
  have BM := hid hv.2.2
  obtain ⟨s, es⟩ : ∃ z, dif a b = z := ⟨_, rfl⟩
  obtain ⟨s2, es2⟩ : ∃ z, (s + m) % 2 ^ 256 = z := ⟨_, rfl⟩
  obtain ⟨k2, ek2⟩ : ∃ z : Int, (((s + m) / 2 ^ 256 : Nat) : Int) = z := ⟨_, rfl⟩
  have hra := (round_sub hv.2.1 hv.2.2).resolve_right (by omega)
  rw [es, hr] at hra
  have hsl : s < 2 ^ 256 := by rw [← es]; unfold dif; split <;> omega
  rw [if_neg hc] at hra
  subst hra
  have EK := hid (show ((lent a b : Nat) : Int) = 0 by unfold lent; rw [if_neg hc]; rfl)
  have ES := hid es
  have ES2 := hid es2
  have EK2 := hid ek2
  have SL := hid hsl
  clear es es2 ek2 hsl hc
  clear ha hb hm hr hv
  have H0 := hid ((((((Env.refl w).new a).new b).new m).zero).perm (l' := [(w.heap.size + 1 + 1 + 1, 0), (w.heap.size + 1 + 1, m), (w.heap.size + 1, b), (w.heap.size, a)]) (by simp))
  have DZ := hid (show w.heap.size ≤ w.heap.size + 1 + 1 + 1 by omega)
  have DN := hid (show ∀ p ∈ [(w.heap.size, a), (w.heap.size + 1, b), (w.heap.size + 1 + 1, m)], p.1 ≠ w.heap.size + 1 + 1 + 1 by simp; try omega)
  go_enter Try.func28, Try.ntmps28
  go_upto_region 1 with fail
  generalize (((w.alloc (.cells (cls a) 24)).alloc (.cells (cls b) 24)).alloc (.cells (cls m) 24)).alloc (.cells #[.int .u64 0, .int .u64 0, .int .u64 0, .int .u64 0] 24) = w0 at *
  generalize w.heap.size + 1 + 1 + 1 = g_z at *
  generalize w.heap.size + 1 + 1 = g_c at *
  generalize w.heap.size + 1 = g_b at *
  generalize hzg_a : w.heap.size = g_a at *
  obtain ⟨c0x0a, c0x0b, c0x0c, c0x0d⟩ := H0.out.cell (g_a) (a) (by simp)
  have c0x0l := H0.out.lt (g_a) (a) (by simp)
  have c0x0m := Nat.le_of_lt c0x0l
  obtain ⟨c6x0a, c6x0b, c6x0c, c6x0d⟩ := H0.out.cell (g_b) (b) (by simp)
  have c6x0l := H0.out.lt (g_b) (b) (by simp)
  have c6x0m := Nat.le_of_lt c6x0l
  obtain ⟨c12x0a, c12x0b, c12x0c, c12x0d⟩ := H0.out.cell (g_c) (m) (by simp)
  have c12x0l := H0.out.lt (g_c) (m) (by simp)
  have c12x0m := Nat.le_of_lt c12x0l
  go_wp2_with fail
  clear c0x0a c0x0b c0x0c c0x0d c0x0l c0x0m c6x0a c6x0b c6x0c c6x0d c6x0l c6x0m c12x0a c12x0b c12x0c c12x0d c12x0l c12x0m
  refine (env_of (rmay_any a b m true _ HA.out HB.out HM.out HV.out) H0.out).mono ?_
  rintro e w1 ⟨rfl, h⟩
  have H1 := hid h
  clear h H0
  obtain ⟨c0x1a, c0x1b, c0x1c, c0x1d⟩ := H1.out.cell (g_a) (a) (by simp)
  have c0x1l := H1.out.lt (g_a) (a) (by simp)
  have c0x1m := Nat.le_of_lt c0x1l
  obtain ⟨c6x1a, c6x1b, c6x1c, c6x1d⟩ := H1.out.cell (g_b) (b) (by simp)
  have c6x1l := H1.out.lt (g_b) (b) (by simp)
  have c6x1m := Nat.le_of_lt c6x1l
  obtain ⟨c12x1a, c12x1b, c12x1c, c12x1d⟩ := H1.out.cell (g_c) (m) (by simp)
  have c12x1l := H1.out.lt (g_c) (m) (by simp)
  have c12x1m := Nat.le_of_lt c12x1l
  go_wp2_with fail
  clear c0x1a c0x1b c0x1c c0x1d c0x1l c0x1m c6x1a c6x1b c6x1c c6x1d c6x1l c6x1m c12x1a c12x1b c12x1c c12x1d c12x1l c12x1m
  refine (env_of (r2sub_b a b s 0 _ HA.out HB.out ES.out EK.out) H1.out).mono ?_
  rintro e w2 ⟨rfl, h⟩
  have H2 := hid h
  clear h H1
  go_upto_region 4 with fail
  have F8 := hid H2.out.fresh
  have H2b := hid (H2.out.new s)
  clear H2
  generalize w2.alloc (.cells (cls s) 24) = w2b at *
  generalize w2.heap.size = g8 at *
  obtain ⟨c0x2a, c0x2b, c0x2c, c0x2d⟩ := H2b.out.cell (g8) (s) (by simp)
  have c0x2l := H2b.out.lt (g8) (s) (by simp)
  have c0x2m := Nat.le_of_lt c0x2l
  obtain ⟨z0, z1, z2, z3⟩ := H2b.out.cell g_z 0 (by simp)
  have zl := H2b.out.lt g_z 0 (by simp)
  have zf := H2b.out.frozen g_z 0 (by simp)
  have HZ := hid (H2b.out.set g_z 0 (s) [] (by simp) (by rw [hzg_a]; exact DZ.out) (by simp))
  go_wp2
  clear z0 z1 z2 z3 zl zf
  try rw [Exit.noGoto_ret]
  change bodyPost _ _ _ _ _ (fil w2b g_z (s))
  generalize fil w2b g_z (s) = wz at *
  obtain ⟨k0, k1, k2, k3⟩ := HZ.out.cell g_z (s) (by simp)
  exact bodyPost_ret (v := .tuple #[num (s), .int .i64 0]) (by simp [results, Try.results28, go_sem, k0, k1, k2, k3]) rfl ⟨rfl, HZ.out.1⟩
theorem rmsub_some (a b m r : Nat) (w : World) (ha : a < 2 ^ 256) (hb : b < 2 ^ 256) (hm : m < 2 ^ 256) (hv : 1 < m ∧ a < m ∧ b < m) (hr : (a + (m - b)) % m = r) : Calls Try.prog 28 #[num a, num b, num m] w fun e w' => e = .returned (.tuple #[num r, .int .i64 0]) ∧ Below w.heap.size w w' := by
  by_cases hc : a < b
  · exact rmsub_over a b m r w ha hb hm hv hr hc
  · exact rmsub_low a b m r w ha hb hm hv hr hc
end Go.Proofs.Ytaggegknnnembaa
