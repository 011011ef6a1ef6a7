/-
  groups.Fine, walked. Conditions: none.
-/
import Derived.Test.YtioebjbjpjbodaaGin
namespace Go.Proofs.Ytioebjbjpjbodaa
open Go.RowKit
set_option linter.unusedVariables false

set_option maxRecDepth 100000 in
set_option maxHeartbeats 4000000 in
theorem fine_low (p q g : Nat) (w : World) (hp : p < 2 ^ 256) (hq : q < 2 ^ 256) (hg : g < 2 ^ 256) (hl : ¬ 1 < q) : Calls Try.prog 12 #[gv p q g] w fun e w' => e = .returned (.bool false) ∧ Below w.heap.size w w' := by
  obtain ⟨n, en⟩ : ∃ n, nbits q = n := ⟨_, rfl⟩
  have hn : 1 < n ↔ 1 < q := by rw [← en]; exact nbits_above q
  have EN := hid (show (nbits q : Int) = (n : Int) by rw [en])
  have PL := hid hp
  have QL := hid hq
  have GL := hid hg
  have c1 : ¬ (n : Int) > 1 := by omega
  have c2 : ¬ 1 < n := by omega
  have c3 : n ≤ 1 := by omega
  have cb : decide ((1 : Int) < (n : Int)) = false := decide_eq_false (by omega)
  clear hp hq hg en hn hl
  have H0 := hid (Eg.of (Env.refl w) p q g 26)
  go_enter Try.func12, Try.ntmps12
  go_upto_region 1 with fail
  generalize w.alloc (.cells (gcs p q g) 26) = w0 at *
  generalize w.heap.size = g_p at *
  have hs := H0.out.drew
  refine wp_region_noPanic ?_
  refine Goes.region (fun (L : Array Bool) (w' : World) => w'.cell? ⟨g_p, 0, none⟩ = some (.int .u64 (wd p 0 : Int)) ∧ w'.cell? ⟨g_p, 1, none⟩ = some (.int .u64 (wd p 1 : Int)) ∧ w'.cell? ⟨g_p, 2, none⟩ = some (.int .u64 (wd p 2 : Int)) ∧ w'.cell? ⟨g_p, 3, none⟩ = some (.int .u64 (wd p 3 : Int)) ∧ w'.cell? ⟨g_p, 4, none⟩ = some (.int .u64 (wd q 0 : Int)) ∧ w'.cell? ⟨g_p, 5, none⟩ = some (.int .u64 (wd q 1 : Int)) ∧ w'.cell? ⟨g_p, 6, none⟩ = some (.int .u64 (wd q 2 : Int)) ∧ w'.cell? ⟨g_p, 7, none⟩ = some (.int .u64 (wd q 3 : Int)) ∧ w'.cell? ⟨g_p, 8, none⟩ = some (.int .u64 (wd g 0 : Int)) ∧ w'.cell? ⟨g_p, 9, none⟩ = some (.int .u64 (wd g 1 : Int)) ∧ w'.cell? ⟨g_p, 10, none⟩ = some (.int .u64 (wd g 2 : Int)) ∧ w'.cell? ⟨g_p, 11, none⟩ = some (.int .u64 (wd g 3 : Int))) (by kernel_rfl) ?_
  generalize w0.drew = wd at *
  have hJJ := hid (And.intro (Eg.gp hs).1 (And.intro (Eg.gp hs).2.1 (And.intro (Eg.gp hs).2.2.1 (And.intro (Eg.gp hs).2.2.2 (And.intro (Eg.gq hs).1 (And.intro (Eg.gq hs).2.1 (And.intro (Eg.gq hs).2.2.1 (And.intro (Eg.gq hs).2.2.2 (And.intro (Eg.gg hs).1 (And.intro (Eg.gg hs).2.1 (And.intro (Eg.gg hs).2.2.1 (Eg.gg hs).2.2.2)))))))))))
  refine Goes.tk (i := 0) (o := ⟨some 3, _, _, _, _, _⟩) (v := ?_) [] (y := Or.inl ⟨by rfl, ?_⟩) (s := hJJ.out) (H := ?_)
  rotate_left
  · intro w hY; go_simp; try with_reducible rfl
  try simp only [putz]
  refine Goes.tk (i := 1) (o := ⟨some 4, _, _, _, _, _⟩) (v := ?_) [] (y := Or.inl ⟨by rfl, ?_⟩) (s := hJJ.out) (H := ?_)
  rotate_left
  · rintro w ⟨up, -, hX⟩; (try dsimp only at hX); obtain ⟨x0, x1, x2, x3, x4, x5, x6, x7, x8, x9, x10, x11⟩ := hX; go_simp; try with_reducible rfl
  try simp only [putz]
  clear hJJ
  refine Goes.one (i := 2) (o := ⟨some 5, _, _, _, _, _⟩) (by kernel_rfl) rfl (fun K hK => ?_)
  go_simp
  with_reducible refine (eg_at (bits_at q (n : Int) (Env.refl _) QL.out EN.out) hs).mono ?_
  rintro e wn1 ⟨rfl, hs1⟩
  go_wp2_with fail
  refine hK.out _ _ (⟨(Eg.gp hs1).1, (Eg.gp hs1).2.1, (Eg.gp hs1).2.2.1, (Eg.gp hs1).2.2.2, (Eg.gq hs1).1, (Eg.gq hs1).2.1, (Eg.gq hs1).2.2.1, (Eg.gq hs1).2.2.2, (Eg.gg hs1).1, (Eg.gg hs1).2.1, (Eg.gg hs1).2.2.1, (Eg.gg hs1).2.2.2⟩) ?_
  clear hK K
  try simp only [putz]
  clear hs
  have hs := hs1
  clear hs1
  have hJJ := hid (And.intro (Eg.gp hs).1 (And.intro (Eg.gp hs).2.1 (And.intro (Eg.gp hs).2.2.1 (And.intro (Eg.gp hs).2.2.2 (And.intro (Eg.gq hs).1 (And.intro (Eg.gq hs).2.1 (And.intro (Eg.gq hs).2.2.1 (And.intro (Eg.gq hs).2.2.2 (And.intro (Eg.gg hs).1 (And.intro (Eg.gg hs).2.1 (And.intro (Eg.gg hs).2.2.1 (Eg.gg hs).2.2.2)))))))))))
  refine Goes.tk (i := 3) (o := ⟨some 6, _, _, _, _, _⟩) (v := ?_) [] (y := Or.inl ⟨by rfl, ?_⟩) (s := hJJ.out) (H := ?_)
  rotate_left
  · intro w hY; go_simp; try with_reducible rfl
  try simp only [putz]
  refine Goes.tk (i := 4) (o := ⟨some 7, _, _, _, _, _⟩) (v := ?_) [] (y := Or.inl ⟨by rfl, ?_⟩) (s := hJJ.out) (H := ?_)
  rotate_left
  · intro w hY; go_simp; try with_reducible rfl
  try simp only [putz]
  refine Goes.tk (i := 5) (o := ⟨some 8, _, _, _, _, _⟩) [] (y := Or.inr ⟨by rfl, rfl⟩) (s := hJJ.out) (H := ?_)
  try simp only [putz]
  refine Goes.tk (i := 6) (o := ⟨some 9, _, _, _, _, _⟩) [] (y := Or.inr ⟨by rfl, rfl⟩) (s := hJJ.out) (H := ?_)
  try simp only [putz]
  refine Goes.tk (i := 7) (o := ⟨some 10, _, _, _, _, _⟩) [] (y := Or.inr ⟨by rfl, rfl⟩) (s := hJJ.out) (H := ?_)
  try simp only [putz]
  refine Goes.tk (i := 8) (o := ⟨some 11, _, _, _, _, _⟩) [] (y := Or.inr ⟨by rfl, rfl⟩) (s := hJJ.out) (H := ?_)
  try simp only [putz]
  refine Goes.tk (i := 9) (o := ⟨some 12, _, _, _, _, _⟩) (v := ?_) [] (y := Or.inl ⟨by rfl, ?_⟩) (s := hJJ.out) (H := ?_)
  rotate_left
  · intro w hY; go_simp; try with_reducible rfl
  try simp only [putz]
  refine Goes.tk (i := 10) (o := ⟨some 13, _, _, _, _, _⟩) (v := ?_) [] (y := Or.inl ⟨by rfl, ?_⟩) (s := hJJ.out) (H := ?_)
  rotate_left
  · intro w hY; go_simp; try with_reducible rfl
  try simp only [putz]
  refine Goes.tk (i := 11) (o := ⟨some 14, _, _, _, _, _⟩) [] (y := Or.inr ⟨by rfl, rfl⟩) (s := hJJ.out) (H := ?_)
  try simp only [putz]
  refine Goes.tk (i := 12) (o := ⟨some 15, _, _, _, _, _⟩) [] (y := Or.inr ⟨by rfl, rfl⟩) (s := hJJ.out) (H := ?_)
  try simp only [putz]
  refine Goes.tk (i := 13) (o := ⟨some 16, _, _, _, _, _⟩) [] (y := Or.inr ⟨by rfl, rfl⟩) (s := hJJ.out) (H := ?_)
  try simp only [putz]
  refine Goes.tk (i := 14) (o := ⟨some 17, _, _, _, _, _⟩) [] (y := Or.inr ⟨by rfl, rfl⟩) (s := hJJ.out) (H := ?_)
  try simp only [putz]
  refine Goes.tk (i := 15) (o := ⟨some 18, _, _, _, _, _⟩) (v := ?_) [] (y := Or.inl ⟨by rfl, ?_⟩) (s := hJJ.out) (H := ?_)
  rotate_left
  · intro w hY; go_simp; try with_reducible rfl
  try simp only [putz]
  refine Goes.tk (i := 16) (o := ⟨some 2, _, _, _, _, _⟩) (v := ?_) [] (y := Or.inl ⟨by rfl, ?_⟩) (s := hJJ.out) (H := ?_)
  rotate_left
  · intro w hY; go_simp; try with_reducible rfl
  try simp only [putz]
  clear hJJ
  refine Goes.done (by kernel_rfl) ?_ _
  refine NoPanic.normal ?_
  go_wp2_with fail
  exact bodyPost_ret (v := .bool false) (by simp [results, Try.results12, go_sem]) rfl ⟨rfl, hs.1.1⟩
set_option maxRecDepth 100000 in
set_option maxHeartbeats 4000000 in
theorem fine_one (p q g : Nat) (w : World) (hp : p < 2 ^ 256) (hq : q < 2 ^ 256) (hg : g < 2 ^ 256) (hl : 1 < q) (h1 : g = 1) : Calls Try.prog 12 #[gv p q g] w fun e w' => e = .returned (.bool false) ∧ Below w.heap.size w w' := by
  obtain ⟨n, en⟩ : ∃ n, nbits q = n := ⟨_, rfl⟩
  have hn : 1 < n ↔ 1 < q := by rw [← en]; exact nbits_above q
  have EN := hid (show (nbits q : Int) = (n : Int) by rw [en])
  have PL := hid hp
  have QL := hid hq
  have GL := hid hg
  have c1 : (n : Int) > 1 := by omega
  have c2 : 1 < n := by omega
  have cb : decide ((1 : Int) < (n : Int)) = true := decide_eq_true (by omega)
  have q1 := eq_yes g 1 h1
  clear hp hq hg en hn hl h1
  have H0 := hid (Eg.of (Env.refl w) p q g 26)
  go_enter Try.func12, Try.ntmps12
  go_upto_region 1 with fail
  generalize w.alloc (.cells (gcs p q g) 26) = w0 at *
  generalize w.heap.size = g_p at *
  have hs := H0.out.drew
  refine wp_region_noPanic ?_
  refine Goes.region (fun (L : Array Bool) (w' : World) => w'.cell? ⟨g_p, 0, none⟩ = some (.int .u64 (wd p 0 : Int)) ∧ w'.cell? ⟨g_p, 1, none⟩ = some (.int .u64 (wd p 1 : Int)) ∧ w'.cell? ⟨g_p, 2, none⟩ = some (.int .u64 (wd p 2 : Int)) ∧ w'.cell? ⟨g_p, 3, none⟩ = some (.int .u64 (wd p 3 : Int)) ∧ w'.cell? ⟨g_p, 4, none⟩ = some (.int .u64 (wd q 0 : Int)) ∧ w'.cell? ⟨g_p, 5, none⟩ = some (.int .u64 (wd q 1 : Int)) ∧ w'.cell? ⟨g_p, 6, none⟩ = some (.int .u64 (wd q 2 : Int)) ∧ w'.cell? ⟨g_p, 7, none⟩ = some (.int .u64 (wd q 3 : Int)) ∧ w'.cell? ⟨g_p, 8, none⟩ = some (.int .u64 (wd g 0 : Int)) ∧ w'.cell? ⟨g_p, 9, none⟩ = some (.int .u64 (wd g 1 : Int)) ∧ w'.cell? ⟨g_p, 10, none⟩ = some (.int .u64 (wd g 2 : Int)) ∧ w'.cell? ⟨g_p, 11, none⟩ = some (.int .u64 (wd g 3 : Int))) (by kernel_rfl) ?_
  generalize w0.drew = wd at *
  have hJJ := hid (And.intro (Eg.gp hs).1 (And.intro (Eg.gp hs).2.1 (And.intro (Eg.gp hs).2.2.1 (And.intro (Eg.gp hs).2.2.2 (And.intro (Eg.gq hs).1 (And.intro (Eg.gq hs).2.1 (And.intro (Eg.gq hs).2.2.1 (And.intro (Eg.gq hs).2.2.2 (And.intro (Eg.gg hs).1 (And.intro (Eg.gg hs).2.1 (And.intro (Eg.gg hs).2.2.1 (Eg.gg hs).2.2.2)))))))))))
  refine Goes.tk (i := 0) (o := ⟨some 3, _, _, _, _, _⟩) (v := ?_) [] (y := Or.inl ⟨by rfl, ?_⟩) (s := hJJ.out) (H := ?_)
  rotate_left
  · intro w hY; go_simp; try with_reducible rfl
  try simp only [putz]
  refine Goes.tk (i := 1) (o := ⟨some 4, _, _, _, _, _⟩) (v := ?_) [] (y := Or.inl ⟨by rfl, ?_⟩) (s := hJJ.out) (H := ?_)
  rotate_left
  · rintro w ⟨up, -, hX⟩; (try dsimp only at hX); obtain ⟨x0, x1, x2, x3, x4, x5, x6, x7, x8, x9, x10, x11⟩ := hX; go_simp; try with_reducible rfl
  try simp only [putz]
  clear hJJ
  refine Goes.one (i := 2) (o := ⟨some 5, _, _, _, _, _⟩) (by kernel_rfl) rfl (fun K hK => ?_)
  go_simp
  with_reducible refine (eg_at (bits_at q (n : Int) (Env.refl _) QL.out EN.out) hs).mono ?_
  rintro e wn1 ⟨rfl, hs1⟩
  go_wp2_with fail
  refine hK.out _ _ (⟨(Eg.gp hs1).1, (Eg.gp hs1).2.1, (Eg.gp hs1).2.2.1, (Eg.gp hs1).2.2.2, (Eg.gq hs1).1, (Eg.gq hs1).2.1, (Eg.gq hs1).2.2.1, (Eg.gq hs1).2.2.2, (Eg.gg hs1).1, (Eg.gg hs1).2.1, (Eg.gg hs1).2.2.1, (Eg.gg hs1).2.2.2⟩) ?_
  clear hK K
  try simp only [putz]
  clear hs
  have hs := hs1
  clear hs1
  have hJJ := hid (And.intro (Eg.gp hs).1 (And.intro (Eg.gp hs).2.1 (And.intro (Eg.gp hs).2.2.1 (And.intro (Eg.gp hs).2.2.2 (And.intro (Eg.gq hs).1 (And.intro (Eg.gq hs).2.1 (And.intro (Eg.gq hs).2.2.1 (And.intro (Eg.gq hs).2.2.2 (And.intro (Eg.gg hs).1 (And.intro (Eg.gg hs).2.1 (And.intro (Eg.gg hs).2.2.1 (Eg.gg hs).2.2.2)))))))))))
  refine Goes.tk (i := 3) (o := ⟨some 6, _, _, _, _, _⟩) (v := ?_) [] (y := Or.inl ⟨by rfl, ?_⟩) (s := hJJ.out) (H := ?_)
  rotate_left
  · intro w hY; go_simp; try with_reducible rfl
  try simp only [putz]
  refine Goes.tk (i := 4) (o := ⟨some 7, _, _, _, _, _⟩) (v := ?_) [] (y := Or.inl ⟨by rfl, ?_⟩) (s := hJJ.out) (H := ?_)
  rotate_left
  · intro w hY; go_simp; try with_reducible rfl
  try simp only [putz]
  refine Goes.tk (i := 5) (o := ⟨some 8, _, _, _, _, _⟩) (v := ?_) [] (y := Or.inl ⟨by rfl, ?_⟩) (s := hJJ.out) (H := ?_)
  rotate_left
  · intro w hY; go_simp; try with_reducible rfl
  try simp only [putz]
  refine Goes.tk (i := 6) (o := ⟨some 9, _, _, _, _, _⟩) (v := ?_) [] (y := Or.inl ⟨by rfl, ?_⟩) (s := hJJ.out) (H := ?_)
  rotate_left
  · rintro w ⟨up, -, hX⟩; (try dsimp only at hX); obtain ⟨x0, x1, x2, x3, x4, x5, x6, x7, x8, x9, x10, x11⟩ := hX; go_simp; try with_reducible rfl
  try simp only [putz]
  clear hJJ
  refine Goes.one (i := 7) (o := ⟨some 10, _, _, _, _, _⟩) (by kernel_rfl) rfl (fun K hK => ?_)
  go_simp
  with_reducible refine (eg_at (lof_at 1 1 (Env.refl _) (by decide) (by decide)) hs).mono ?_
  rintro e wn2 ⟨rfl, hs2⟩
  go_wp2_with fail
  refine hK.out _ _ (⟨(Eg.gp hs2).1, (Eg.gp hs2).2.1, (Eg.gp hs2).2.2.1, (Eg.gp hs2).2.2.2, (Eg.gq hs2).1, (Eg.gq hs2).2.1, (Eg.gq hs2).2.2.1, (Eg.gq hs2).2.2.2, (Eg.gg hs2).1, (Eg.gg hs2).2.1, (Eg.gg hs2).2.2.1, (Eg.gg hs2).2.2.2⟩) ?_
  clear hK K
  try simp only [putz]
  clear hs
  have hs := hs2
  clear hs2
  have hJJ := hid (And.intro (Eg.gp hs).1 (And.intro (Eg.gp hs).2.1 (And.intro (Eg.gp hs).2.2.1 (And.intro (Eg.gp hs).2.2.2 (And.intro (Eg.gq hs).1 (And.intro (Eg.gq hs).2.1 (And.intro (Eg.gq hs).2.2.1 (And.intro (Eg.gq hs).2.2.2 (And.intro (Eg.gg hs).1 (And.intro (Eg.gg hs).2.1 (And.intro (Eg.gg hs).2.2.1 (Eg.gg hs).2.2.2)))))))))))
  refine Goes.tk (i := 8) (o := ⟨some 11, _, _, _, _, _⟩) (v := ?_) [] (y := Or.inl ⟨by rfl, ?_⟩) (s := hJJ.out) (H := ?_)
  rotate_left
  · intro w hY; go_simp; try with_reducible rfl
  try simp only [putz]
  refine Goes.tk (i := 9) (o := ⟨some 12, _, _, _, _, _⟩) (v := ?_) [] (y := Or.inl ⟨by rfl, ?_⟩) (s := hJJ.out) (H := ?_)
  rotate_left
  · intro w hY; go_simp; try with_reducible rfl
  try simp only [putz]
  refine Goes.tk (i := 10) (o := ⟨some 13, _, _, _, _, _⟩) (v := ?_) [] (y := Or.inl ⟨by rfl, ?_⟩) (s := hJJ.out) (H := ?_)
  rotate_left
  · intro w hY; go_simp; try with_reducible rfl
  try simp only [putz]
  refine Goes.tk (i := 11) (o := ⟨some 14, _, _, _, _, _⟩) [] (y := Or.inr ⟨by rfl, rfl⟩) (s := hJJ.out) (H := ?_)
  try simp only [putz]
  refine Goes.tk (i := 12) (o := ⟨some 15, _, _, _, _, _⟩) [] (y := Or.inr ⟨by rfl, rfl⟩) (s := hJJ.out) (H := ?_)
  try simp only [putz]
  refine Goes.tk (i := 13) (o := ⟨some 16, _, _, _, _, _⟩) [] (y := Or.inr ⟨by rfl, rfl⟩) (s := hJJ.out) (H := ?_)
  try simp only [putz]
  refine Goes.tk (i := 14) (o := ⟨some 17, _, _, _, _, _⟩) [] (y := Or.inr ⟨by rfl, rfl⟩) (s := hJJ.out) (H := ?_)
  try simp only [putz]
  refine Goes.tk (i := 15) (o := ⟨some 18, _, _, _, _, _⟩) (v := ?_) [] (y := Or.inl ⟨by rfl, ?_⟩) (s := hJJ.out) (H := ?_)
  rotate_left
  · intro w hY; go_simp; try with_reducible rfl
  try simp only [putz]
  refine Goes.tk (i := 16) (o := ⟨some 2, _, _, _, _, _⟩) (v := ?_) [] (y := Or.inl ⟨by rfl, ?_⟩) (s := hJJ.out) (H := ?_)
  rotate_left
  · intro w hY; go_simp; try with_reducible rfl
  try simp only [putz]
  clear hJJ
  refine Goes.done (by kernel_rfl) ?_ _
  refine NoPanic.normal ?_
  go_wp2_with fail
  exact bodyPost_ret (v := .bool false) (by simp [results, Try.results12, go_sem]) rfl ⟨rfl, hs.1.1⟩
set_option maxRecDepth 100000 in
set_option maxHeartbeats 4000000 in
theorem fine_in (p q g : Nat) (v : Bool) (w : World) (hp : p < 2 ^ 256) (hq : q < 2 ^ 256) (hg : g < 2 ^ 256) (hl : 1 < q) (h1 : g ≠ 1) (hv : decide ((0 < g ∧ g < p) ∧ g ^ q % p = 1) = v) : Calls Try.prog 12 #[gv p q g] w fun e w' => e = .returned (.bool v) ∧ Below w.heap.size w w' := by
  obtain ⟨n, en⟩ : ∃ n, nbits q = n := ⟨_, rfl⟩
  have hn : 1 < n ↔ 1 < q := by rw [← en]; exact nbits_above q
  have EN := hid (show (nbits q : Int) = (n : Int) by rw [en])
  have PL := hid hp
  have QL := hid hq
  have GL := hid hg
  have c1 : (n : Int) > 1 := by omega
  have c2 : 1 < n := by omega
  have cb : decide ((1 : Int) < (n : Int)) = true := decide_eq_true (by omega)
  have q1 := eq_no g 1 hg (by decide) h1
  have VV := hid hv
  clear hp hq hg en hn hl h1 hv
  have H0 := hid (Eg.of (Env.refl w) p q g 26)
  go_enter Try.func12, Try.ntmps12
  go_upto_region 1 with fail
  generalize w.alloc (.cells (gcs p q g) 26) = w0 at *
  generalize w.heap.size = g_p at *
  have hs := H0.out.drew
  refine wp_region_noPanic ?_
  refine Goes.region (fun (L : Array Bool) (w' : World) => w'.cell? ⟨g_p, 0, none⟩ = some (.int .u64 (wd p 0 : Int)) ∧ w'.cell? ⟨g_p, 1, none⟩ = some (.int .u64 (wd p 1 : Int)) ∧ w'.cell? ⟨g_p, 2, none⟩ = some (.int .u64 (wd p 2 : Int)) ∧ w'.cell? ⟨g_p, 3, none⟩ = some (.int .u64 (wd p 3 : Int)) ∧ w'.cell? ⟨g_p, 4, none⟩ = some (.int .u64 (wd q 0 : Int)) ∧ w'.cell? ⟨g_p, 5, none⟩ = some (.int .u64 (wd q 1 : Int)) ∧ w'.cell? ⟨g_p, 6, none⟩ = some (.int .u64 (wd q 2 : Int)) ∧ w'.cell? ⟨g_p, 7, none⟩ = some (.int .u64 (wd q 3 : Int)) ∧ w'.cell? ⟨g_p, 8, none⟩ = some (.int .u64 (wd g 0 : Int)) ∧ w'.cell? ⟨g_p, 9, none⟩ = some (.int .u64 (wd g 1 : Int)) ∧ w'.cell? ⟨g_p, 10, none⟩ = some (.int .u64 (wd g 2 : Int)) ∧ w'.cell? ⟨g_p, 11, none⟩ = some (.int .u64 (wd g 3 : Int))) (by kernel_rfl) ?_
  generalize w0.drew = wd at *
  have hJJ := hid (And.intro (Eg.gp hs).1 (And.intro (Eg.gp hs).2.1 (And.intro (Eg.gp hs).2.2.1 (And.intro (Eg.gp hs).2.2.2 (And.intro (Eg.gq hs).1 (And.intro (Eg.gq hs).2.1 (And.intro (Eg.gq hs).2.2.1 (And.intro (Eg.gq hs).2.2.2 (And.intro (Eg.gg hs).1 (And.intro (Eg.gg hs).2.1 (And.intro (Eg.gg hs).2.2.1 (Eg.gg hs).2.2.2)))))))))))
  refine Goes.tk (i := 0) (o := ⟨some 3, _, _, _, _, _⟩) (v := ?_) [] (y := Or.inl ⟨by rfl, ?_⟩) (s := hJJ.out) (H := ?_)
  rotate_left
  · intro w hY; go_simp; try with_reducible rfl
  try simp only [putz]
  refine Goes.tk (i := 1) (o := ⟨some 4, _, _, _, _, _⟩) (v := ?_) [] (y := Or.inl ⟨by rfl, ?_⟩) (s := hJJ.out) (H := ?_)
  rotate_left
  · rintro w ⟨up, -, hX⟩; (try dsimp only at hX); obtain ⟨x0, x1, x2, x3, x4, x5, x6, x7, x8, x9, x10, x11⟩ := hX; go_simp; try with_reducible rfl
  try simp only [putz]
  clear hJJ
  refine Goes.one (i := 2) (o := ⟨some 5, _, _, _, _, _⟩) (by kernel_rfl) rfl (fun K hK => ?_)
  go_simp
  with_reducible refine (eg_at (bits_at q (n : Int) (Env.refl _) QL.out EN.out) hs).mono ?_
  rintro e wn1 ⟨rfl, hs1⟩
  go_wp2_with fail
  refine hK.out _ _ (⟨(Eg.gp hs1).1, (Eg.gp hs1).2.1, (Eg.gp hs1).2.2.1, (Eg.gp hs1).2.2.2, (Eg.gq hs1).1, (Eg.gq hs1).2.1, (Eg.gq hs1).2.2.1, (Eg.gq hs1).2.2.2, (Eg.gg hs1).1, (Eg.gg hs1).2.1, (Eg.gg hs1).2.2.1, (Eg.gg hs1).2.2.2⟩) ?_
  clear hK K
  try simp only [putz]
  clear hs
  have hs := hs1
  clear hs1
  have hJJ := hid (And.intro (Eg.gp hs).1 (And.intro (Eg.gp hs).2.1 (And.intro (Eg.gp hs).2.2.1 (And.intro (Eg.gp hs).2.2.2 (And.intro (Eg.gq hs).1 (And.intro (Eg.gq hs).2.1 (And.intro (Eg.gq hs).2.2.1 (And.intro (Eg.gq hs).2.2.2 (And.intro (Eg.gg hs).1 (And.intro (Eg.gg hs).2.1 (And.intro (Eg.gg hs).2.2.1 (Eg.gg hs).2.2.2)))))))))))
  refine Goes.tk (i := 3) (o := ⟨some 6, _, _, _, _, _⟩) (v := ?_) [] (y := Or.inl ⟨by rfl, ?_⟩) (s := hJJ.out) (H := ?_)
  rotate_left
  · intro w hY; go_simp; try with_reducible rfl
  try simp only [putz]
  refine Goes.tk (i := 4) (o := ⟨some 7, _, _, _, _, _⟩) (v := ?_) [] (y := Or.inl ⟨by rfl, ?_⟩) (s := hJJ.out) (H := ?_)
  rotate_left
  · intro w hY; go_simp; try with_reducible rfl
  try simp only [putz]
  refine Goes.tk (i := 5) (o := ⟨some 8, _, _, _, _, _⟩) (v := ?_) [] (y := Or.inl ⟨by rfl, ?_⟩) (s := hJJ.out) (H := ?_)
  rotate_left
  · intro w hY; go_simp; try with_reducible rfl
  try simp only [putz]
  refine Goes.tk (i := 6) (o := ⟨some 9, _, _, _, _, _⟩) (v := ?_) [] (y := Or.inl ⟨by rfl, ?_⟩) (s := hJJ.out) (H := ?_)
  rotate_left
  · rintro w ⟨up, -, hX⟩; (try dsimp only at hX); obtain ⟨x0, x1, x2, x3, x4, x5, x6, x7, x8, x9, x10, x11⟩ := hX; go_simp; try with_reducible rfl
  try simp only [putz]
  clear hJJ
  refine Goes.one (i := 7) (o := ⟨some 10, _, _, _, _, _⟩) (by kernel_rfl) rfl (fun K hK => ?_)
  go_simp
  with_reducible refine (eg_at (lof_at 1 1 (Env.refl _) (by decide) (by decide)) hs).mono ?_
  rintro e wn2 ⟨rfl, hs2⟩
  go_wp2_with fail
  refine hK.out _ _ (⟨(Eg.gp hs2).1, (Eg.gp hs2).2.1, (Eg.gp hs2).2.2.1, (Eg.gp hs2).2.2.2, (Eg.gq hs2).1, (Eg.gq hs2).2.1, (Eg.gq hs2).2.2.1, (Eg.gq hs2).2.2.2, (Eg.gg hs2).1, (Eg.gg hs2).2.1, (Eg.gg hs2).2.2.1, (Eg.gg hs2).2.2.2⟩) ?_
  clear hK K
  try simp only [putz]
  clear hs
  have hs := hs2
  clear hs2
  have hJJ := hid (And.intro (Eg.gp hs).1 (And.intro (Eg.gp hs).2.1 (And.intro (Eg.gp hs).2.2.1 (And.intro (Eg.gp hs).2.2.2 (And.intro (Eg.gq hs).1 (And.intro (Eg.gq hs).2.1 (And.intro (Eg.gq hs).2.2.1 (And.intro (Eg.gq hs).2.2.2 (And.intro (Eg.gg hs).1 (And.intro (Eg.gg hs).2.1 (And.intro (Eg.gg hs).2.2.1 (Eg.gg hs).2.2.2)))))))))))
  refine Goes.tk (i := 8) (o := ⟨some 11, _, _, _, _, _⟩) (v := ?_) [] (y := Or.inl ⟨by rfl, ?_⟩) (s := hJJ.out) (H := ?_)
  rotate_left
  · intro w hY; go_simp; try with_reducible rfl
  try simp only [putz]
  refine Goes.tk (i := 9) (o := ⟨some 12, _, _, _, _, _⟩) (v := ?_) [] (y := Or.inl ⟨by rfl, ?_⟩) (s := hJJ.out) (H := ?_)
  rotate_left
  · intro w hY; go_simp; try with_reducible rfl
  try simp only [putz]
  refine Goes.tk (i := 10) (o := ⟨some 13, _, _, _, _, _⟩) (v := ?_) [] (y := Or.inl ⟨by rfl, ?_⟩) (s := hJJ.out) (H := ?_)
  rotate_left
  · intro w hY; go_simp; try with_reducible rfl
  try simp only [putz]
  refine Goes.tk (i := 11) (o := ⟨some 14, _, _, _, _, _⟩) (v := ?_) [] (y := Or.inl ⟨by rfl, ?_⟩) (s := hJJ.out) (H := ?_)
  rotate_left
  · rintro w ⟨up, -, hX⟩; (try dsimp only at hX); obtain ⟨x0, x1, x2, x3, x4, x5, x6, x7, x8, x9, x10, x11⟩ := hX; go_simp; try with_reducible rfl
  try simp only [putz]
  refine Goes.tk (i := 12) (o := ⟨some 15, _, _, _, _, _⟩) (v := ?_) [] (y := Or.inl ⟨by rfl, ?_⟩) (s := hJJ.out) (H := ?_)
  rotate_left
  · intro w hY; go_simp; try with_reducible rfl
  try simp only [putz]
  refine Goes.tk (i := 13) (o := ⟨some 16, _, _, _, _, _⟩) (v := ?_) [] (y := Or.inl ⟨by rfl, ?_⟩) (s := hJJ.out) (H := ?_)
  rotate_left
  · rintro w ⟨up, -, hX⟩; (try dsimp only at hX); obtain ⟨x0, x1, x2, x3, x4, x5, x6, x7, x8, x9, x10, x11⟩ := hX; go_simp; try with_reducible rfl
  try simp only [putz]
  clear hJJ
  refine Goes.one (i := 14) (o := ⟨some 17, _, _, _, _, _⟩) (by kernel_rfl) rfl (fun K hK => ?_)
  go_simp
  with_reducible refine (eg_of (in_any p q g g v _ PL.out QL.out GL.out VV.out) hs).mono ?_
  rintro e wn3 ⟨rfl, hs3⟩
  go_wp2_with fail
  refine hK.out _ _ (⟨(Eg.gp hs3).1, (Eg.gp hs3).2.1, (Eg.gp hs3).2.2.1, (Eg.gp hs3).2.2.2, (Eg.gq hs3).1, (Eg.gq hs3).2.1, (Eg.gq hs3).2.2.1, (Eg.gq hs3).2.2.2, (Eg.gg hs3).1, (Eg.gg hs3).2.1, (Eg.gg hs3).2.2.1, (Eg.gg hs3).2.2.2⟩) ?_
  clear hK K
  try simp only [putz]
  clear hs
  have hs := hs3
  clear hs3
  have hJJ := hid (And.intro (Eg.gp hs).1 (And.intro (Eg.gp hs).2.1 (And.intro (Eg.gp hs).2.2.1 (And.intro (Eg.gp hs).2.2.2 (And.intro (Eg.gq hs).1 (And.intro (Eg.gq hs).2.1 (And.intro (Eg.gq hs).2.2.1 (And.intro (Eg.gq hs).2.2.2 (And.intro (Eg.gg hs).1 (And.intro (Eg.gg hs).2.1 (And.intro (Eg.gg hs).2.2.1 (Eg.gg hs).2.2.2)))))))))))
  refine Goes.tk (i := 15) (o := ⟨some 18, _, _, _, _, _⟩) (v := ?_) [] (y := Or.inl ⟨by rfl, ?_⟩) (s := hJJ.out) (H := ?_)
  rotate_left
  · intro w hY; go_simp; try with_reducible rfl
  try simp only [putz]
  refine Goes.tk (i := 16) (o := ⟨some 2, _, _, _, _, _⟩) (v := ?_) [] (y := Or.inl ⟨by rfl, ?_⟩) (s := hJJ.out) (H := ?_)
  rotate_left
  · intro w hY; go_simp; try with_reducible rfl
  try simp only [putz]
  clear hJJ
  refine Goes.done (by kernel_rfl) ?_ _
  refine NoPanic.normal ?_
  go_wp2_with fail
  exact bodyPost_ret (v := .bool v) (by simp [results, Try.results12, go_sem]) rfl ⟨rfl, hs.1.1⟩
theorem fine_any (p q g : Nat) (v : Bool) (w : World) (hp : p < 2 ^ 256) (hq : q < 2 ^ 256) (hg : g < 2 ^ 256) (hv : decide (1 < q ∧ g ≠ 1 ∧ (0 < g ∧ g < p) ∧ g ^ q % p = 1) = v) : Calls Try.prog 12 #[gv p q g] w fun e w' => e = .returned (.bool v) ∧ Below w.heap.size w w' := by
  subst hv
  by_cases h : 1 < q
  · by_cases h1 : g = 1
    · rw [decide_eq_false (fun x => x.2.1 h1)]; exact fine_one p q g w hp hq hg h h1
    · exact fine_in p q g _ w hp hq hg h h1 (decide_eq_decide.2 ⟨fun x => ⟨h, h1, x⟩, fun x => x.2.2⟩)
  · rw [decide_eq_false (fun x => h x.1)]; exact fine_low p q g w hp hq hg h
end Go.Proofs.Ytioebjbjpjbodaa
