/-
  sigs.isKey and sigs.shownBy, walked. Conditions: none.
-/
import Derived.Test.YtioebjbjpjbodaaDoorPkSga
import Derived.Test.YtioebjbjpjbodaaDoorPkAo
namespace Go.Proofs.YtioebjbjpjbodaaDoor
open Go.RowKit
set_option linter.unusedVariables false
set_option linter.unusedSimpArgs false

set_option maxRecDepth 100000 in
set_option maxHeartbeats 4000000 in
theorem isKey_one (p q g a : Nat) (w : World) (hp : p < 2 ^ 256) (hq : q < 2 ^ 256) (ha : a < 2 ^ 256) (h1 : a = 1) : Calls Tryd.prog 19 #[gv p q g, num a] w fun e w' => e = .returned (.bool false) ∧ Below w.heap.size w w' := by
  have q1 := eq_yes a 1 h1
  clear h1
  have PL := hid hp
  have QL := hid hq
  have AL := hid ha
  clear hp hq ha
  have H0 := hid ((((Eg.of (Env.refl w) p q g 26)).new a).perm (l' := [(w.heap.size + 1, a)]) (by simp))
  go_enter Tryd.func19, Tryd.ntmps19
  go_upto_region 1 with fail
  generalize (w.alloc (.cells (gcs p q g) 26)).alloc (.cells (cls a) 24) = w0 at *
  generalize w.heap.size + 1 = g_a at *
  generalize hzg_p : w.heap.size = g_p at *
  have hs := H0.out.drew
  refine wp_region_noPanic ?_
  refine Goes.region (fun (L : Array Bool) (w' : World) => w'.cell? ⟨g_a, 0, none⟩ = some (.int .u64 (wd (a) 0 : Int)) ∧ w'.cell? ⟨g_a, 1, none⟩ = some (.int .u64 (wd (a) 1 : Int)) ∧ w'.cell? ⟨g_a, 2, none⟩ = some (.int .u64 (wd (a) 2 : Int)) ∧ w'.cell? ⟨g_a, 3, none⟩ = some (.int .u64 (wd (a) 3 : Int)) ∧ w'.cell? ⟨g_p, 0, none⟩ = some (.int .u64 (wd p 0 : Int)) ∧ w'.cell? ⟨g_p, 1, none⟩ = some (.int .u64 (wd p 1 : Int)) ∧ w'.cell? ⟨g_p, 2, none⟩ = some (.int .u64 (wd p 2 : Int)) ∧ w'.cell? ⟨g_p, 3, none⟩ = some (.int .u64 (wd p 3 : Int)) ∧ w'.cell? ⟨g_p, 4, none⟩ = some (.int .u64 (wd q 0 : Int)) ∧ w'.cell? ⟨g_p, 5, none⟩ = some (.int .u64 (wd q 1 : Int)) ∧ w'.cell? ⟨g_p, 6, none⟩ = some (.int .u64 (wd q 2 : Int)) ∧ w'.cell? ⟨g_p, 7, none⟩ = some (.int .u64 (wd q 3 : Int)) ∧ w'.cell? ⟨g_p, 8, none⟩ = some (.int .u64 (wd g 0 : Int)) ∧ w'.cell? ⟨g_p, 9, none⟩ = some (.int .u64 (wd g 1 : Int)) ∧ w'.cell? ⟨g_p, 10, none⟩ = some (.int .u64 (wd g 2 : Int)) ∧ w'.cell? ⟨g_p, 11, none⟩ = some (.int .u64 (wd g 3 : Int))) (by kernel_rfl) ?_
  generalize w0.drew = wdr at *
  have hT := hid (And.intro (Eg.cell hs g_a (a) (by simp)).1 (And.intro (Eg.cell hs g_a (a) (by simp)).2.1 (And.intro (Eg.cell hs g_a (a) (by simp)).2.2.1 (And.intro (Eg.cell hs g_a (a) (by simp)).2.2.2 (And.intro (Eg.gp hs).1 (And.intro (Eg.gp hs).2.1 (And.intro (Eg.gp hs).2.2.1 (And.intro (Eg.gp hs).2.2.2 (And.intro (Eg.gq hs).1 (And.intro (Eg.gq hs).2.1 (And.intro (Eg.gq hs).2.2.1 (And.intro (Eg.gq hs).2.2.2 (And.intro (Eg.gg hs).1 (And.intro (Eg.gg hs).2.1 (And.intro (Eg.gg hs).2.2.1 (Eg.gg hs).2.2.2)))))))))))))))
  refine Goes.take (i := 0) (o := ⟨some 5, _, _, _, _, _⟩) (v := ?_) [] rfl (by kernel_rfl) (by kernel_rfl) (by kernel_rfl) (fun _ _ _ h => h) (by kernel_rfl) (fun L u h => h) (Or.inl ⟨by rfl, ?_⟩) (hT.out) ?_
  rotate_left
  · intro w hY; obtain ⟨up, hL⟩ := hY; have hX := hL.2; clear hL; (try dsimp only at hX); obtain ⟨x0, x1, x2, x3, x4, x5, x6, x7, x8, x9, x10, x11, x12, x13, x14, x15⟩ := hX; go_simp; try with_reducible rfl
  try simp only [putz]
  refine Goes.one (i := 1) (o := ⟨some 6, _, _, _, _, _⟩) (by kernel_rfl) rfl (fun K hK => ?_)
  go_simp
  with_reducible refine (eg_at (lof_at 1 1 (Env.refl _) (by decide) rfl) hs).mono ?_
  rintro e wn1 ⟨rfl, hs1⟩
  go_wp2_with fail
  clear hT
  have hT := hid (And.intro (Eg.cell hs1 g_a (a) (by simp)).1 (And.intro (Eg.cell hs1 g_a (a) (by simp)).2.1 (And.intro (Eg.cell hs1 g_a (a) (by simp)).2.2.1 (And.intro (Eg.cell hs1 g_a (a) (by simp)).2.2.2 (And.intro (Eg.gp hs1).1 (And.intro (Eg.gp hs1).2.1 (And.intro (Eg.gp hs1).2.2.1 (And.intro (Eg.gp hs1).2.2.2 (And.intro (Eg.gq hs1).1 (And.intro (Eg.gq hs1).2.1 (And.intro (Eg.gq hs1).2.2.1 (And.intro (Eg.gq hs1).2.2.2 (And.intro (Eg.gg hs1).1 (And.intro (Eg.gg hs1).2.1 (And.intro (Eg.gg hs1).2.2.1 (Eg.gg hs1).2.2.2)))))))))))))))
  refine hK.out _ _ (hT.out) ?_
  clear hK K
  try simp only [putz]
  clear hs
  have hs := hs1
  clear hs1
  refine Goes.take (i := 2) (o := ⟨some 7, _, _, _, _, _⟩) (v := ?_) [] rfl (by kernel_rfl) (by kernel_rfl) (by kernel_rfl) (fun _ _ _ h => h) (by kernel_rfl) (fun L u h => h) (Or.inl ⟨by rfl, ?_⟩) (hT.out) ?_
  rotate_left
  · intro w hY; go_simp; try with_reducible rfl
  try simp only [putz]
  refine Goes.take (i := 3) (o := ⟨some 8, _, _, _, _, _⟩) (v := ?_) [] rfl (by kernel_rfl) (by kernel_rfl) (by kernel_rfl) (fun _ _ _ h => h) (by kernel_rfl) (fun L u h => h) (Or.inl ⟨by rfl, ?_⟩) (hT.out) ?_
  rotate_left
  · intro w hY; go_simp; try with_reducible rfl
  try simp only [putz]
  refine Goes.take (i := 4) (o := ⟨some 9, _, _, _, _, _⟩) [] rfl (by kernel_rfl) (by kernel_rfl) (by kernel_rfl) (fun _ _ _ h => h) (by kernel_rfl) (fun L u h => h) (Or.inr ⟨by rfl, rfl⟩) (hT.out) ?_
  try simp only [putz]
  refine Goes.take (i := 5) (o := ⟨some 10, _, _, _, _, _⟩) [] rfl (by kernel_rfl) (by kernel_rfl) (by kernel_rfl) (fun _ _ _ h => h) (by kernel_rfl) (fun L u h => h) (Or.inr ⟨by rfl, rfl⟩) (hT.out) ?_
  try simp only [putz]
  refine Goes.take (i := 6) (o := ⟨some 11, _, _, _, _, _⟩) [] rfl (by kernel_rfl) (by kernel_rfl) (by kernel_rfl) (fun _ _ _ h => h) (by kernel_rfl) (fun L u h => h) (Or.inr ⟨by rfl, rfl⟩) (hT.out) ?_
  try simp only [putz]
  refine Goes.take (i := 7) (o := ⟨some 12, _, _, _, _, _⟩) (v := ?_) [] rfl (by kernel_rfl) (by kernel_rfl) (by kernel_rfl) (fun _ _ _ h => h) (by kernel_rfl) (fun L u h => h) (Or.inl ⟨by rfl, ?_⟩) (hT.out) ?_
  rotate_left
  · intro w hY; go_simp; try with_reducible rfl
  try simp only [putz]
  refine Goes.take (i := 8) (o := ⟨some 4, _, _, _, _, _⟩) (v := ?_) [] rfl (by kernel_rfl) (by kernel_rfl) (by kernel_rfl) (fun _ _ _ h => h) (by kernel_rfl) (fun L u h => h) (Or.inl ⟨by rfl, ?_⟩) (hT.out) ?_
  rotate_left
  · intro w hY; go_simp; try with_reducible rfl
  try simp only [putz]
  clear hT
  refine Goes.done (by kernel_rfl) ?_ _
  refine NoPanic.normal ?_
  go_wp2_with fail
  exact bodyPost_ret (v := .bool false) (by simp [results, Tryd.results19, go_sem]) rfl ⟨rfl, by first | exact hs.1.1 | (rw [← hzg_p]; exact hs.1.1) | (rw [hzg_p]; exact hs.1.1)⟩
set_option maxRecDepth 100000 in
set_option maxHeartbeats 4000000 in
theorem isKey_some (p q g a : Nat) (v : Bool) (w : World) (hp : p < 2 ^ 256) (hq : q < 2 ^ 256) (ha : a < 2 ^ 256) (h1 : a ≠ 1) (hv : decide ((0 < a ∧ a < p) ∧ a ^ q % p = 1) = v) : Calls Tryd.prog 19 #[gv p q g, num a] w fun e w' => e = .returned (.bool v) ∧ Below w.heap.size w w' := by
  have q1 := eq_no a 1 ha (by decide) h1
  have VV := hid hv
  clear hv
  clear h1
  have PL := hid hp
  have QL := hid hq
  have AL := hid ha
  clear hp hq ha
  have H0 := hid ((((Eg.of (Env.refl w) p q g 26)).new a).perm (l' := [(w.heap.size + 1, a)]) (by simp))
  go_enter Tryd.func19, Tryd.ntmps19
  go_upto_region 1 with fail
  generalize (w.alloc (.cells (gcs p q g) 26)).alloc (.cells (cls a) 24) = w0 at *
  generalize w.heap.size + 1 = g_a at *
  generalize hzg_p : w.heap.size = g_p at *
  have hs := H0.out.drew
  refine wp_region_noPanic ?_
  refine Goes.region (fun (L : Array Bool) (w' : World) => w'.cell? ⟨g_a, 0, none⟩ = some (.int .u64 (wd (a) 0 : Int)) ∧ w'.cell? ⟨g_a, 1, none⟩ = some (.int .u64 (wd (a) 1 : Int)) ∧ w'.cell? ⟨g_a, 2, none⟩ = some (.int .u64 (wd (a) 2 : Int)) ∧ w'.cell? ⟨g_a, 3, none⟩ = some (.int .u64 (wd (a) 3 : Int)) ∧ w'.cell? ⟨g_p, 0, none⟩ = some (.int .u64 (wd p 0 : Int)) ∧ w'.cell? ⟨g_p, 1, none⟩ = some (.int .u64 (wd p 1 : Int)) ∧ w'.cell? ⟨g_p, 2, none⟩ = some (.int .u64 (wd p 2 : Int)) ∧ w'.cell? ⟨g_p, 3, none⟩ = some (.int .u64 (wd p 3 : Int)) ∧ w'.cell? ⟨g_p, 4, none⟩ = some (.int .u64 (wd q 0 : Int)) ∧ w'.cell? ⟨g_p, 5, none⟩ = some (.int .u64 (wd q 1 : Int)) ∧ w'.cell? ⟨g_p, 6, none⟩ = some (.int .u64 (wd q 2 : Int)) ∧ w'.cell? ⟨g_p, 7, none⟩ = some (.int .u64 (wd q 3 : Int)) ∧ w'.cell? ⟨g_p, 8, none⟩ = some (.int .u64 (wd g 0 : Int)) ∧ w'.cell? ⟨g_p, 9, none⟩ = some (.int .u64 (wd g 1 : Int)) ∧ w'.cell? ⟨g_p, 10, none⟩ = some (.int .u64 (wd g 2 : Int)) ∧ w'.cell? ⟨g_p, 11, none⟩ = some (.int .u64 (wd g 3 : Int))) (by kernel_rfl) ?_
  generalize w0.drew = wdr at *
  have hT := hid (And.intro (Eg.cell hs g_a (a) (by simp)).1 (And.intro (Eg.cell hs g_a (a) (by simp)).2.1 (And.intro (Eg.cell hs g_a (a) (by simp)).2.2.1 (And.intro (Eg.cell hs g_a (a) (by simp)).2.2.2 (And.intro (Eg.gp hs).1 (And.intro (Eg.gp hs).2.1 (And.intro (Eg.gp hs).2.2.1 (And.intro (Eg.gp hs).2.2.2 (And.intro (Eg.gq hs).1 (And.intro (Eg.gq hs).2.1 (And.intro (Eg.gq hs).2.2.1 (And.intro (Eg.gq hs).2.2.2 (And.intro (Eg.gg hs).1 (And.intro (Eg.gg hs).2.1 (And.intro (Eg.gg hs).2.2.1 (Eg.gg hs).2.2.2)))))))))))))))
  refine Goes.take (i := 0) (o := ⟨some 5, _, _, _, _, _⟩) (v := ?_) [] rfl (by kernel_rfl) (by kernel_rfl) (by kernel_rfl) (fun _ _ _ h => h) (by kernel_rfl) (fun L u h => h) (Or.inl ⟨by rfl, ?_⟩) (hT.out) ?_
  rotate_left
  · intro w hY; obtain ⟨up, hL⟩ := hY; have hX := hL.2; clear hL; (try dsimp only at hX); obtain ⟨x0, x1, x2, x3, x4, x5, x6, x7, x8, x9, x10, x11, x12, x13, x14, x15⟩ := hX; go_simp; try with_reducible rfl
  try simp only [putz]
  refine Goes.one (i := 1) (o := ⟨some 6, _, _, _, _, _⟩) (by kernel_rfl) rfl (fun K hK => ?_)
  go_simp
  with_reducible refine (eg_at (lof_at 1 1 (Env.refl _) (by decide) rfl) hs).mono ?_
  rintro e wn1 ⟨rfl, hs1⟩
  go_wp2_with fail
  clear hT
  have hT := hid (And.intro (Eg.cell hs1 g_a (a) (by simp)).1 (And.intro (Eg.cell hs1 g_a (a) (by simp)).2.1 (And.intro (Eg.cell hs1 g_a (a) (by simp)).2.2.1 (And.intro (Eg.cell hs1 g_a (a) (by simp)).2.2.2 (And.intro (Eg.gp hs1).1 (And.intro (Eg.gp hs1).2.1 (And.intro (Eg.gp hs1).2.2.1 (And.intro (Eg.gp hs1).2.2.2 (And.intro (Eg.gq hs1).1 (And.intro (Eg.gq hs1).2.1 (And.intro (Eg.gq hs1).2.2.1 (And.intro (Eg.gq hs1).2.2.2 (And.intro (Eg.gg hs1).1 (And.intro (Eg.gg hs1).2.1 (And.intro (Eg.gg hs1).2.2.1 (Eg.gg hs1).2.2.2)))))))))))))))
  refine hK.out _ _ (hT.out) ?_
  clear hK K
  try simp only [putz]
  clear hs
  have hs := hs1
  clear hs1
  refine Goes.take (i := 2) (o := ⟨some 7, _, _, _, _, _⟩) (v := ?_) [] rfl (by kernel_rfl) (by kernel_rfl) (by kernel_rfl) (fun _ _ _ h => h) (by kernel_rfl) (fun L u h => h) (Or.inl ⟨by rfl, ?_⟩) (hT.out) ?_
  rotate_left
  · intro w hY; go_simp; try with_reducible rfl
  try simp only [putz]
  refine Goes.take (i := 3) (o := ⟨some 8, _, _, _, _, _⟩) (v := ?_) [] rfl (by kernel_rfl) (by kernel_rfl) (by kernel_rfl) (fun _ _ _ h => h) (by kernel_rfl) (fun L u h => h) (Or.inl ⟨by rfl, ?_⟩) (hT.out) ?_
  rotate_left
  · intro w hY; go_simp; try with_reducible rfl
  try simp only [putz]
  refine Goes.take (i := 4) (o := ⟨some 9, _, _, _, _, _⟩) (v := ?_) [] rfl (by kernel_rfl) (by kernel_rfl) (by kernel_rfl) (fun _ _ _ h => h) (by kernel_rfl) (fun L u h => h) (Or.inl ⟨by rfl, ?_⟩) (hT.out) ?_
  rotate_left
  · intro w hY; obtain ⟨up, hL⟩ := hY; have hX := hL.2; clear hL; (try dsimp only at hX); obtain ⟨x0, x1, x2, x3, x4, x5, x6, x7, x8, x9, x10, x11, x12, x13, x14, x15⟩ := hX; go_simp; try with_reducible rfl
  try simp only [putz]
  refine Goes.take (i := 5) (o := ⟨some 10, _, _, _, _, _⟩) (v := ?_) [] rfl (by kernel_rfl) (by kernel_rfl) (by kernel_rfl) (fun _ _ _ h => h) (by kernel_rfl) (fun L u h => h) (Or.inl ⟨by rfl, ?_⟩) (hT.out) ?_
  rotate_left
  · intro w hY; obtain ⟨up, hL⟩ := hY; have hX := hL.2; clear hL; (try dsimp only at hX); obtain ⟨x0, x1, x2, x3, x4, x5, x6, x7, x8, x9, x10, x11, x12, x13, x14, x15⟩ := hX; go_simp; try with_reducible rfl
  try simp only [putz]
  refine Goes.one (i := 6) (o := ⟨some 11, _, _, _, _, _⟩) (by kernel_rfl) rfl (fun K hK => ?_)
  go_simp
  with_reducible refine (eg_of (in_any p q g a v _ PL.out QL.out AL.out VV.out) hs).mono ?_
  rintro e wn2 ⟨rfl, hs2⟩
  go_wp2_with fail
  clear hT
  have hT := hid (And.intro (Eg.cell hs2 g_a (a) (by simp)).1 (And.intro (Eg.cell hs2 g_a (a) (by simp)).2.1 (And.intro (Eg.cell hs2 g_a (a) (by simp)).2.2.1 (And.intro (Eg.cell hs2 g_a (a) (by simp)).2.2.2 (And.intro (Eg.gp hs2).1 (And.intro (Eg.gp hs2).2.1 (And.intro (Eg.gp hs2).2.2.1 (And.intro (Eg.gp hs2).2.2.2 (And.intro (Eg.gq hs2).1 (And.intro (Eg.gq hs2).2.1 (And.intro (Eg.gq hs2).2.2.1 (And.intro (Eg.gq hs2).2.2.2 (And.intro (Eg.gg hs2).1 (And.intro (Eg.gg hs2).2.1 (And.intro (Eg.gg hs2).2.2.1 (Eg.gg hs2).2.2.2)))))))))))))))
  refine hK.out _ _ (hT.out) ?_
  clear hK K
  try simp only [putz]
  clear hs
  have hs := hs2
  clear hs2
  refine Goes.take (i := 7) (o := ⟨some 12, _, _, _, _, _⟩) (v := ?_) [] rfl (by kernel_rfl) (by kernel_rfl) (by kernel_rfl) (fun _ _ _ h => h) (by kernel_rfl) (fun L u h => h) (Or.inl ⟨by rfl, ?_⟩) (hT.out) ?_
  rotate_left
  · intro w hY; go_simp; try with_reducible rfl
  try simp only [putz]
  refine Goes.take (i := 8) (o := ⟨some 4, _, _, _, _, _⟩) (v := ?_) [] rfl (by kernel_rfl) (by kernel_rfl) (by kernel_rfl) (fun _ _ _ h => h) (by kernel_rfl) (fun L u h => h) (Or.inl ⟨by rfl, ?_⟩) (hT.out) ?_
  rotate_left
  · intro w hY; go_simp; try with_reducible rfl
  try simp only [putz]
  clear hT
  refine Goes.done (by kernel_rfl) ?_ _
  refine NoPanic.normal ?_
  go_wp2_with fail
  exact bodyPost_ret (v := .bool v) (by simp [results, Tryd.results19, go_sem]) rfl ⟨rfl, by first | exact hs.1.1 | (rw [← hzg_p]; exact hs.1.1) | (rw [hzg_p]; exact hs.1.1)⟩
theorem isKey_any (p q g a : Nat) (v : Bool) (w : World) (hp : p < 2 ^ 256) (hq : q < 2 ^ 256) (ha : a < 2 ^ 256) (hv : decide (a ≠ 1 ∧ (0 < a ∧ a < p) ∧ a ^ q % p = 1) = v) : Calls Tryd.prog 19 #[gv p q g, num a] w fun e w' => e = .returned (.bool v) ∧ Below w.heap.size w w' := by
  subst hv
  by_cases h : a = 1
  · rw [decide_eq_false (fun x => x.1 h)]; exact isKey_one p q g a w hp hq ha h
  · exact isKey_some p q g a _ w hp hq ha h (decide_eq_decide.2 ⟨fun x => ⟨h, x⟩, fun x => x.2⟩)
set_option maxRecDepth 100000 in
set_option maxHeartbeats 4000000 in
theorem shownBy_any (p q g k c s r : Nat) (w : World) (hp : p < 2 ^ 256) (hq : q < 2 ^ 256) (hq0 : q ≠ 0) (hs : s < 2 ^ 256) (hc : c < q) (hG : (0 < g ∧ g < p) ∧ g ^ q % p = 1) (hk : (0 < k ∧ k < p) ∧ k ^ q % p = 1) (hv : g ^ s % p * (k ^ (q - c) % p) % p = r) :
    Calls Tryd.prog 20 #[gv p q g, num k, sgv c s] w fun e w' => e = .returned (num r) ∧ Below w.heap.size w w' := by
  have hp1 : 1 < p := by omega
  obtain ⟨a, ea⟩ : ∃ a, g ^ s % p = a := ⟨_, rfl⟩
  obtain ⟨m, em⟩ : ∃ m, q - c = m := ⟨_, rfl⟩
  obtain ⟨b, eb⟩ : ∃ b, k ^ m % p = b := ⟨_, rfl⟩
  have va : 0 < a ∧ a < p := ea ▸ grp_pos hp1 hq0 (grp_pow (n := s) hp1 hG.2) (Nat.mod_lt _ (by omega))
  have vb : 0 < b ∧ b < p := eb ▸ grp_pos hp1 hq0 (grp_pow (n := m) hp1 hk.2) (Nat.mod_lt _ (by omega))
  rw [em, ea, eb] at hv
  have PL := hid hp
  have QL := hid hq
  have CL := hid (show c < 2 ^ 256 by omega)
  have SL := hid hs
  have ML := hid (show m < 2 ^ 256 by omega)
  have VG := hid hG.1
  have VK := hid hk.1
  have EA := hid ea
  have EB := hid eb
  have VA := hid va
  have VB := hid vb
  have HV := hid hv
  have ED : Hid (dif q c = m) := hid (by unfold dif; rw [if_neg (by omega)]; exact em)
  have EL : Hid (((lent q c : Nat) : Int) = 0) := hid (by unfold lent; rw [if_neg (by omega)]; rfl)
  clear hp1 ea em eb va vb hv hp hq hs hG hk hq0 hc
  obtain ⟨hB0, hs0, f0, f1, f2⟩ := boxes3 w (gcs p q g) (cls k) (sgc c s) 26 24 33 _ rfl
  have HFIN : Hid (∀ u, Below (((w.alloc (.cells (gcs p q g) 26)).alloc (.cells (cls k) 24)).alloc (.cells (sgc c s) 33)).heap.size (((w.alloc (.cells (gcs p q g) 26)).alloc (.cells (cls k) 24)).alloc (.cells (sgc c s) 33)) u → Below w.heap.size w u) := hid (fun u hu => hB0.trans (hu.mono hB0.size))
  go_enter Tryd.func20, Tryd.ntmps20
  go_upto_region 1 with fail
  generalize ((w.alloc (.cells (gcs p q g) 26)).alloc (.cells (cls k) 24)).alloc (.cells (sgc c s) 33) = W0 at *
  have hb1 := (Below.refl W0.heap.size W0).alloc (Nat.le_refl _) (.cells #[.int .u64 0, .int .u64 0, .int .u64 0, .int .u64 0] 24)
  have hz1 := heap_alloc_new W0 (.cells #[.int .u64 0, .int .u64 0, .int .u64 0, .int .u64 0] 24)
  rw [hs0] at hz1
  have HB := hid hb1
  have HZ0 : Hid (W0.heap.size = w.heap.size + 1 + 1 + 1) := hid hs0
  have FG := hid ((ldG p q g 0 f0 (all_at _)).on hb1)
  have FGq := hid ((ldN q 4 f0 (four_at q _ 4 rfl rfl rfl rfl)).on hb1)
  have FGg := hid ((ldN g 8 f0 (four_at g _ 8 rfl rfl rfl rfl)).on hb1)
  have FNk := hid ((ldN k 0 f1 (all_at _)).on hb1)
  have FX := hid ((ldX c s 0 f2 (all_at _)).on hb1)
  have FXc := hid ((ldN c 0 f2 (four_at c _ 0 rfl rfl rfl rfl)).on hb1)
  have FXs := hid ((ldN s 4 f2 (four_at s _ 4 rfl rfl rfl rfl)).on hb1)
  have FZ : Hid (On (W0.alloc (.cells #[.int .u64 0, .int .u64 0, .int .u64 0, .int .u64 0] 24)) fun u => Nm u (w.heap.size + 1 + 1 + 1) 0) := hid (onNm (nm_zero hz1))
  clear hz1
  generalize W0.alloc (.cells #[.int .u64 0, .int .u64 0, .int .u64 0, .int .u64 0] 24) = w0 at *
  clear hB0 hs0 hb1 f0 f1 f2
  generalize w.heap.size + 1 + 1 + 1 = g_z at *
  generalize w.heap.size + 1 + 1 = g_x at *
  generalize w.heap.size + 1 = g_a at *
  generalize hgp : w.heap.size = g_p at *
  have l1 := FG.out.here
  have l2 := FGg.out.here
  have l3 := FXs.out.here
  go_wp2_with (first | (refine wp_ld rfl _ _ rfl _ rfl _ (by first | exact l1 | exact l2 | exact l3) ?_))
  clear l1 l2 l3
  refine (gexp_any p q g g s a _ PL.out SL.out VG.out EA.out).mono ?_
  rintro e w1 ⟨rfl, hb⟩
  have HB := hid (HB.out.trans (hb.mono HB.out.size))
  have FG := hid (FG.out.on hb)
  have FGq := hid (FGq.out.on hb)
  have FGg := hid (FGg.out.on hb)
  have FNk := hid (FNk.out.on hb)
  have FX := hid (FX.out.on hb)
  have FXc := hid (FXc.out.on hb)
  have FXs := hid (FXs.out.on hb)
  have FZ := hid (FZ.out.on hb)
  clear hb
  go_upto_region 2 with fail
  have hb := (Below.refl w1.heap.size w1).alloc (Nat.le_refl _) (.cells (cls a) 24)
  have hn := heap_alloc_new w1 (.cells (cls a) 24)
  have HB := hid (HB.out.trans (hb.mono HB.out.size))
  have FG := hid (FG.out.on hb)
  have FGq := hid (FGq.out.on hb)
  have FGg := hid (FGg.out.on hb)
  have FNk := hid (FNk.out.on hb)
  have FX := hid (FX.out.on hb)
  have FXc := hid (FXc.out.on hb)
  have FXs := hid (FXs.out.on hb)
  have FZ := hid (FZ.out.on hb)
  have FN7 := hid (ldN a 0 hn (all_at _))
  clear hb hn
  generalize w1.alloc (.cells (cls a) 24) = w2 at *
  generalize w1.heap.size = gN7 at *
  have l4 := FGq.out.here
  have l5 := FXc.out.here
  go_wp2_with (first | (refine wp_ld rfl _ _ rfl _ rfl _ (by first | exact l4 | exact l5) ?_))
  clear l4 l5
  refine (sub_at q c m 0 (Env.refl _) QL.out CL.out ED.out EL.out).mono ?_
  rintro e w3 ⟨rfl, hb⟩
  have hb := hb.1
  have HB := hid (HB.out.trans (hb.mono HB.out.size))
  have FG := hid (FG.out.on hb)
  have FGq := hid (FGq.out.on hb)
  have FGg := hid (FGg.out.on hb)
  have FNk := hid (FNk.out.on hb)
  have FX := hid (FX.out.on hb)
  have FXc := hid (FXc.out.on hb)
  have FXs := hid (FXs.out.on hb)
  have FN7 := hid (FN7.out.on hb)
  have FZ := hid (FZ.out.on hb)
  clear hb
  go_upto_region 3 with fail
  have hb := (Below.refl w3.heap.size w3).alloc (Nat.le_refl _) (.cells (cls m) 24)
  have hn := heap_alloc_new w3 (.cells (cls m) 24)
  have HB := hid (HB.out.trans (hb.mono HB.out.size))
  have FG := hid (FG.out.on hb)
  have FGq := hid (FGq.out.on hb)
  have FGg := hid (FGg.out.on hb)
  have FNk := hid (FNk.out.on hb)
  have FX := hid (FX.out.on hb)
  have FXc := hid (FXc.out.on hb)
  have FXs := hid (FXs.out.on hb)
  have FN7 := hid (FN7.out.on hb)
  have FZ := hid (FZ.out.on hb)
  have FN9 := hid (ldN m 0 hn (all_at _))
  clear hb hn
  generalize w3.alloc (.cells (cls m) 24) = w4 at *
  generalize w3.heap.size = gN9 at *
  have l6 := FG.out.here
  have l7 := FNk.out.here
  have l8 := FN9.out.here
  go_wp2_with (first | (refine wp_ld rfl _ _ rfl _ rfl _ (by first | exact l6 | exact l7 | exact l8) ?_))
  clear l6 l7 l8
  refine (gexp_any p q g k m b _ PL.out ML.out VK.out EB.out).mono ?_
  rintro e w5 ⟨rfl, hb⟩
  have HB := hid (HB.out.trans (hb.mono HB.out.size))
  have FG := hid (FG.out.on hb)
  have FGq := hid (FGq.out.on hb)
  have FGg := hid (FGg.out.on hb)
  have FNk := hid (FNk.out.on hb)
  have FX := hid (FX.out.on hb)
  have FXc := hid (FXc.out.on hb)
  have FXs := hid (FXs.out.on hb)
  have FN7 := hid (FN7.out.on hb)
  have FN9 := hid (FN9.out.on hb)
  have FZ := hid (FZ.out.on hb)
  clear hb
  go_upto_region 4 with fail
  have hb := (Below.refl w5.heap.size w5).alloc (Nat.le_refl _) (.cells (cls b) 24)
  have hn := heap_alloc_new w5 (.cells (cls b) 24)
  have HB := hid (HB.out.trans (hb.mono HB.out.size))
  have FG := hid (FG.out.on hb)
  have FGq := hid (FGq.out.on hb)
  have FGg := hid (FGg.out.on hb)
  have FNk := hid (FNk.out.on hb)
  have FX := hid (FX.out.on hb)
  have FXc := hid (FXc.out.on hb)
  have FXs := hid (FXs.out.on hb)
  have FN7 := hid (FN7.out.on hb)
  have FN9 := hid (FN9.out.on hb)
  have FZ := hid (FZ.out.on hb)
  have FN11 := hid (ldN b 0 hn (all_at _))
  clear hb hn
  generalize w5.alloc (.cells (cls b) 24) = w6 at *
  generalize w5.heap.size = gN11 at *
  have l9 := FG.out.here
  have l10 := FN7.out.here
  have l11 := FN11.out.here
  go_wp2_with (first | (refine wp_ld rfl _ _ rfl _ rfl _ (by first | exact l9 | exact l10 | exact l11) ?_))
  clear l9 l10 l11
  refine (gmul_at p q g a b r _ PL.out VA.out VB.out HV.out).mono ?_
  rintro e w7 ⟨rfl, hb⟩
  have HB := hid (HB.out.trans (hb.mono HB.out.size))
  have FG := hid (FG.out.on hb)
  have FGq := hid (FGq.out.on hb)
  have FGg := hid (FGg.out.on hb)
  have FNk := hid (FNk.out.on hb)
  have FX := hid (FX.out.on hb)
  have FXc := hid (FXc.out.on hb)
  have FXs := hid (FXs.out.on hb)
  have FN7 := hid (FN7.out.on hb)
  have FN9 := hid (FN9.out.on hb)
  have FN11 := hid (FN11.out.on hb)
  have FZ := hid (FZ.out.on hb)
  clear hb
  go_upto_region 5 with fail
  have hb := (Below.refl w7.heap.size w7).alloc (Nat.le_refl _) (.cells (cls r) 24)
  have hn := heap_alloc_new w7 (.cells (cls r) 24)
  have HB := hid (HB.out.trans (hb.mono HB.out.size))
  have FG := hid (FG.out.on hb)
  have FGq := hid (FGq.out.on hb)
  have FGg := hid (FGg.out.on hb)
  have FNk := hid (FNk.out.on hb)
  have FX := hid (FX.out.on hb)
  have FXc := hid (FXc.out.on hb)
  have FXs := hid (FXs.out.on hb)
  have FN7 := hid (FN7.out.on hb)
  have FN9 := hid (FN9.out.on hb)
  have FN11 := hid (FN11.out.on hb)
  have FZ := hid (FZ.out.on hb)
  have FN13 := hid (ldN r 0 hn (all_at _))
  clear hb hn
  generalize w7.alloc (.cells (cls r) 24) = w8 at *
  generalize w7.heap.size = gN13 at *
  have hE := env_one HB.out FZ.out.here
  obtain ⟨z0, z1, z2, z3⟩ := hE.cell g_z 0 (by simp)
  have zl := hE.lt g_z 0 (by simp)
  have zf := hE.frozen g_z 0 (by simp)
  have HZ := hid (hE.set g_z 0 (r) [] (by simp) (Nat.le_of_eq HZ0.out) (by simp))
  have l12 := FN13.out.here
  go_wp2_with (first | (refine wp_ld rfl _ _ rfl _ rfl _ (by first | exact l12) ?_))
  clear hE z0 z1 z2 z3 zl zf l12
  try rw [Exit.noGoto_ret]
  change bodyPost _ _ _ _ _ (fil w8 g_z (r))
  generalize fil w8 g_z (r) = wz at *
  obtain ⟨k0, k1, k2, k3⟩ := HZ.out.cell g_z (r) (by simp)
  exact bodyPost_ret (v := num (r)) (by simp [results, Tryd.results20, go_sem, k0, k1, k2, k3]) rfl ⟨rfl, by first | exact HFIN.out _ HZ.out.1 | (rw [hgp]; exact HFIN.out _ HZ.out.1)⟩
end Go.Proofs.YtioebjbjpjbodaaDoor
