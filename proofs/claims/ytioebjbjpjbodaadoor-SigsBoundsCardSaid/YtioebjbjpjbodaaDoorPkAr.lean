/-
  groups.In, Mul, Inv, walked. Conditions: none.
  groups.Fine, walked. Conditions: none.
  burrowlaw06.lives, walked: the chapter's examples come out as they stand there. Conditions: none.
  What follows of a group: numbers alone; a product, its answer named. Conditions: none.
-/
import Derived.Test.YtioebjbjpjbodaaDoorPkGxp
namespace Go.Proofs.YtioebjbjpjbodaaDoor
open Go.RowKit
set_option linter.unusedVariables false

set_option maxRecDepth 100000 in
set_option maxHeartbeats 4000000 in
theorem in_yes (p q g a : Nat) (w : World) (hp : p < 2 ^ 256) (hq : q < 2 ^ 256) (hv : 0 < a ∧ a < p) (h1 : a ^ q % p = 1) : Calls Tryd.prog 25 #[gv p q g, num a] w fun e w' => e = .returned (.bool true) ∧ Below w.heap.size w w' := by
  obtain ⟨r, er⟩ : ∃ r, a ^ q % p = r := ⟨_, rfl⟩
  have hr : r = 1 := by rw [← er]; exact h1
  subst hr
  have q1 := eq_yes 1 1 rfl
  have VV := hid hv
  have PL := hid hp
  have QL := hid hq
  have ER := hid er
  clear hv hp hq er h1
  have H0 := hid ((((Eg.of (Env.refl w) p q g 26)).new a).perm (l' := [(w.heap.size + 1, a)]) (by simp))
  go_enter Tryd.func25, Tryd.ntmps25
  go_wp2_with fail
  generalize (w.alloc (.cells (gcs p q g) 26)).alloc (.cells (cls a) 24) = w0 at *
  generalize w.heap.size + 1 = g_a at *
  generalize hzg_p : w.heap.size = g_p at *
  obtain ⟨ep0a, ep0b, ep0c, ep0d⟩ := H0.out.gp
  obtain ⟨eq0a, eq0b, eq0c, eq0d⟩ := H0.out.gq
  obtain ⟨eg0a, eg0b, eg0c, eg0d⟩ := H0.out.gg
  have eg0l := H0.out.gl
  have eg0m := Nat.le_of_lt eg0l
  obtain ⟨c14x0a, c14x0b, c14x0c, c14x0d⟩ := H0.out.cell (g_a) (a) (by simp)
  have c14x0l := H0.out.lt (g_a) (a) (by simp)
  have c14x0m := Nat.le_of_lt c14x0l
  go_wp2_with fail
  clear ep0a ep0b ep0c ep0d eq0a eq0b eq0c eq0d eg0a eg0b eg0c eg0d eg0l eg0m c14x0a c14x0b c14x0c c14x0d c14x0l c14x0m
  refine (eg_of (gexp_any p q g a q 1 _ PL.out QL.out VV.out ER.out) H0.out).mono ?_
  rintro e w1 ⟨rfl, h⟩
  have H1 := hid h
  clear h H0
  go_upto_region 2 with fail
  have H1b := hid (H1.out.new 1)
  clear H1
  generalize w1.alloc (.cells (cls 1) 24) = w1b at *
  generalize w1.heap.size = g5 at *
  have hs := H1b.out.drew
  go_region_held3 (fun w' => (w'.cell? ⟨g5, 0, none⟩ = some (.int .u64 (wd (1) 0 : Int)) ∧ w'.cell? ⟨g5, 1, none⟩ = some (.int .u64 (wd (1) 1 : Int)) ∧ w'.cell? ⟨g5, 2, none⟩ = some (.int .u64 (wd (1) 2 : Int)) ∧ w'.cell? ⟨g5, 3, none⟩ = some (.int .u64 (wd (1) 3 : Int)))) (exact Eg.cell (by assumption) _ _ (by simp)) (first | ((go_at_call 8); (with_reducible refine (eg_at (lof_at 1 1 (Env.refl _) (by decide) (by decide)) (by assumption)).mono ?_); rintro e wn ⟨rfl, hs⟩))
  go_wp2
  go_ret
  exact ⟨rfl, hs.1.1⟩
set_option maxRecDepth 100000 in
set_option maxHeartbeats 4000000 in
theorem in_no (p q g a : Nat) (w : World) (hp : p < 2 ^ 256) (hq : q < 2 ^ 256) (hv : 0 < a ∧ a < p) (h1 : a ^ q % p ≠ 1) : Calls Tryd.prog 25 #[gv p q g, num a] w fun e w' => e = .returned (.bool false) ∧ Below w.heap.size w w' := by
  obtain ⟨r, er⟩ : ∃ r, a ^ q % p = r := ⟨_, rfl⟩
  have hr : r ≠ 1 := by rw [← er]; exact h1
  have q1 := eq_no r 1 (by rw [← er]; exact Nat.lt_trans (Nat.mod_lt _ (by omega)) hp) (by decide) hr
  have VV := hid hv
  have PL := hid hp
  have QL := hid hq
  have ER := hid er
  clear hv hp hq er h1 hr
  have H0 := hid ((((Eg.of (Env.refl w) p q g 26)).new a).perm (l' := [(w.heap.size + 1, a)]) (by simp))
  go_enter Tryd.func25, Tryd.ntmps25
  go_wp2_with fail
  generalize (w.alloc (.cells (gcs p q g) 26)).alloc (.cells (cls a) 24) = w0 at *
  generalize w.heap.size + 1 = g_a at *
  generalize hzg_p : w.heap.size = g_p at *
  obtain ⟨ep0a, ep0b, ep0c, ep0d⟩ := H0.out.gp
  obtain ⟨eq0a, eq0b, eq0c, eq0d⟩ := H0.out.gq
  obtain ⟨eg0a, eg0b, eg0c, eg0d⟩ := H0.out.gg
  have eg0l := H0.out.gl
  have eg0m := Nat.le_of_lt eg0l
  obtain ⟨c14x0a, c14x0b, c14x0c, c14x0d⟩ := H0.out.cell (g_a) (a) (by simp)
  have c14x0l := H0.out.lt (g_a) (a) (by simp)
  have c14x0m := Nat.le_of_lt c14x0l
  go_wp2_with fail
  clear ep0a ep0b ep0c ep0d eq0a eq0b eq0c eq0d eg0a eg0b eg0c eg0d eg0l eg0m c14x0a c14x0b c14x0c c14x0d c14x0l c14x0m
  refine (eg_of (gexp_any p q g a q r _ PL.out QL.out VV.out ER.out) H0.out).mono ?_
  rintro e w1 ⟨rfl, h⟩
  have H1 := hid h
  clear h H0
  go_upto_region 2 with fail
  have H1b := hid (H1.out.new r)
  clear H1
  generalize w1.alloc (.cells (cls r) 24) = w1b at *
  generalize w1.heap.size = g5 at *
  have hs := H1b.out.drew
  go_region_held3 (fun w' => (w'.cell? ⟨g5, 0, none⟩ = some (.int .u64 (wd (r) 0 : Int)) ∧ w'.cell? ⟨g5, 1, none⟩ = some (.int .u64 (wd (r) 1 : Int)) ∧ w'.cell? ⟨g5, 2, none⟩ = some (.int .u64 (wd (r) 2 : Int)) ∧ w'.cell? ⟨g5, 3, none⟩ = some (.int .u64 (wd (r) 3 : Int)))) (exact Eg.cell (by assumption) _ _ (by simp)) (first | ((go_at_call 8); (with_reducible refine (eg_at (lof_at 1 1 (Env.refl _) (by decide) (by decide)) (by assumption)).mono ?_); rintro e wn ⟨rfl, hs⟩))
  go_wp2
  go_ret
  exact ⟨rfl, hs.1.1⟩
set_option maxRecDepth 100000 in
set_option maxHeartbeats 4000000 in
theorem in_none (p q g a : Nat) (w : World) (hp : p < 2 ^ 256) (hq : q < 2 ^ 256) (ha : a < 2 ^ 256) (hv : ¬ (0 < a ∧ a < p)) : Calls Tryd.prog 25 #[gv p q g, num a] w fun e w' => e = .returned (.bool false) ∧ Below w.heap.size w w' := by
  have VV := hid hv
  have PL := hid hp
  have QL := hid hq
  have A0 := hid ha
  clear hv hp hq ha
  have H0 := hid ((((Eg.of (Env.refl w) p q g 26)).new a).perm (l' := [(w.heap.size + 1, a)]) (by simp))
  go_enter Tryd.func25, Tryd.ntmps25
  go_wp2_with fail
  generalize (w.alloc (.cells (gcs p q g) 26)).alloc (.cells (cls a) 24) = w0 at *
  generalize w.heap.size + 1 = g_a at *
  generalize hzg_p : w.heap.size = g_p at *
  obtain ⟨ep0a, ep0b, ep0c, ep0d⟩ := H0.out.gp
  obtain ⟨eq0a, eq0b, eq0c, eq0d⟩ := H0.out.gq
  obtain ⟨eg0a, eg0b, eg0c, eg0d⟩ := H0.out.gg
  have eg0l := H0.out.gl
  have eg0m := Nat.le_of_lt eg0l
  obtain ⟨c14x0a, c14x0b, c14x0c, c14x0d⟩ := H0.out.cell (g_a) (a) (by simp)
  have c14x0l := H0.out.lt (g_a) (a) (by simp)
  have c14x0m := Nat.le_of_lt c14x0l
  go_wp2_with fail
  clear ep0a ep0b ep0c ep0d eq0a eq0b eq0c eq0d eg0a eg0b eg0c eg0d eg0l eg0m c14x0a c14x0b c14x0c c14x0d c14x0l c14x0m
  refine (eg_of (gexp_none p q g a q _ PL.out A0.out VV.out) H0.out).mono ?_
  rintro e w1 ⟨rfl, h⟩
  have H1 := hid h
  clear h H0
  go_upto_region 2 with fail
  have H1b := hid (H1.out.new 0)
  clear H1
  generalize w1.alloc (.cells (cls 0) 24) = w1b at *
  generalize w1.heap.size = g5 at *
  obtain ⟨c0, c1, c2, c3⟩ := H1b.out.cell g5 0 (by simp)
  go_region
  all_goals
    go_wp2
    go_ret
    exact ⟨rfl, H1b.out.drew.1.1⟩
set_option maxRecDepth 100000 in
set_option maxHeartbeats 4000000 in
theorem gmul_some (p q g a b : Nat) (w : World) (hp : p < 2 ^ 256) (ha : a < 2 ^ 256) (hb : b < 2 ^ 256) (va : 0 < a ∧ a < p) (vb : 0 < b ∧ b < p) : Calls Tryd.prog 32 #[gv p q g, num a, num b] w fun e w' => e = .returned (.tuple #[num (a * b % p), .int .i64 0]) ∧ Below w.heap.size w w' := by
  have VA : Hid (decide (0 < a ∧ a < p) = true) := hid (by simpa using va)
  have VB : Hid (decide (0 < b ∧ b < p) = true) := hid (by simpa using vb)
  have PL := hid hp
  have A0 := hid ha
  have B0 := hid hb
  obtain ⟨r, er⟩ : ∃ r, a * b % p = r := ⟨_, rfl⟩
  have ER := hid er
  have AM := hid va.2
  have BM := hid vb.2
  have P1 := hid (show 1 < p by omega)
  clear er
  clear hp ha hb va vb
  have H0 := hid ((((((Eg.of (Env.refl w) p q g 26)).new a).new b).zero).perm (l' := [(w.heap.size + 1 + 1 + 1, 0), (w.heap.size + 1 + 1, b), (w.heap.size + 1, a)]) (by simp))
  have DZ := hid (show w.heap.size ≤ w.heap.size + 1 + 1 + 1 ∧ w.heap.size ≠ w.heap.size + 1 + 1 + 1 by omega)
  go_enter Tryd.func32, Tryd.ntmps32
  go_wp2_with fail
  generalize (((w.alloc (.cells (gcs p q g) 26)).alloc (.cells (cls a) 24)).alloc (.cells (cls b) 24)).alloc (.cells #[.int .u64 0, .int .u64 0, .int .u64 0, .int .u64 0] 24) = w0 at *
  generalize w.heap.size + 1 + 1 + 1 = g_z at *
  generalize w.heap.size + 1 + 1 = g_b at *
  generalize w.heap.size + 1 = g_a at *
  generalize hzg_p : w.heap.size = g_p at *
  obtain ⟨ep0a, ep0b, ep0c, ep0d⟩ := H0.out.gp
  obtain ⟨eq0a, eq0b, eq0c, eq0d⟩ := H0.out.gq
  obtain ⟨eg0a, eg0b, eg0c, eg0d⟩ := H0.out.gg
  have eg0l := H0.out.gl
  have eg0m := Nat.le_of_lt eg0l
  obtain ⟨c14x0a, c14x0b, c14x0c, c14x0d⟩ := H0.out.cell (g_a) (a) (by simp)
  have c14x0l := H0.out.lt (g_a) (a) (by simp)
  have c14x0m := Nat.le_of_lt c14x0l
  go_wp2_with fail
  clear ep0a ep0b ep0c ep0d eq0a eq0b eq0c eq0d eg0a eg0b eg0c eg0d eg0l eg0m c14x0a c14x0b c14x0c c14x0d c14x0l c14x0m
  refine (eg_of (may_any p q g a true _ PL.out A0.out VA.out) H0.out).mono ?_
  rintro e w1 ⟨rfl, h⟩
  have H1 := hid h
  clear h H0
  obtain ⟨ep1a, ep1b, ep1c, ep1d⟩ := H1.out.gp
  obtain ⟨eq1a, eq1b, eq1c, eq1d⟩ := H1.out.gq
  obtain ⟨eg1a, eg1b, eg1c, eg1d⟩ := H1.out.gg
  have eg1l := H1.out.gl
  have eg1m := Nat.le_of_lt eg1l
  obtain ⟨c14x1a, c14x1b, c14x1c, c14x1d⟩ := H1.out.cell (g_b) (b) (by simp)
  have c14x1l := H1.out.lt (g_b) (b) (by simp)
  have c14x1m := Nat.le_of_lt c14x1l
  go_wp2_with fail
  clear ep1a ep1b ep1c ep1d eq1a eq1b eq1c eq1d eg1a eg1b eg1c eg1d eg1l eg1m c14x1a c14x1b c14x1c c14x1d c14x1l c14x1m
  refine (eg_of (may_any p q g b true _ PL.out B0.out VB.out) H1.out).mono ?_
  rintro e w2 ⟨rfl, h⟩
  have H2 := hid h
  clear h H1
  obtain ⟨ep2a, ep2b, ep2c, ep2d⟩ := H2.out.gp
  have eg2l := H2.out.gl
  have eg2m := Nat.le_of_lt eg2l
  obtain ⟨c6x2a, c6x2b, c6x2c, c6x2d⟩ := H2.out.cell (g_a) (a) (by simp)
  have c6x2l := H2.out.lt (g_a) (a) (by simp)
  have c6x2m := Nat.le_of_lt c6x2l
  obtain ⟨c12x2a, c12x2b, c12x2c, c12x2d⟩ := H2.out.cell (g_b) (b) (by simp)
  have c12x2l := H2.out.lt (g_b) (b) (by simp)
  have c12x2m := Nat.le_of_lt c12x2l
  go_wp2_with fail
  clear ep2a ep2b ep2c ep2d eg2l eg2m c6x2a c6x2b c6x2c c6x2d c6x2l c6x2m c12x2a c12x2b c12x2c c12x2d c12x2l c12x2m
  refine (eg_at (mmul_at a b p r (Env.refl _) PL.out P1.out AM.out BM.out ER.out) H2.out).mono ?_
  rintro e w3 ⟨rfl, h⟩
  have H3 := hid h
  clear h H2
  obtain ⟨z0, z1, z2, z3⟩ := H3.out.cell g_z 0 (by simp)
  have zl := H3.out.lt g_z 0 (by simp)
  have zf := H3.out.frozen g_z 0 (by simp)
  have HZ := hid (H3.out.1.set g_z 0 (r) [] (by simp) (by rw [hzg_p]; exact DZ.out.1) (by simp))
  go_wp2
  clear z0 z1 z2 z3 zl zf
  try rw [Exit.noGoto_ret]
  change bodyPost _ _ _ _ _ (fil w3 g_z (r))
  generalize fil w3 g_z (r) = wz at *
  obtain ⟨k0, k1, k2, k3⟩ := HZ.out.cell g_z (r) (by simp)
  exact bodyPost_ret (v := .tuple #[num (r), .int .i64 0]) (by simp [results, Tryd.results32, go_sem, k0, k1, k2, k3]) rfl ⟨by rw [ER.out], HZ.out.1⟩
theorem in_any (p q g a : Nat) (v : Bool) (w : World) (hp : p < 2 ^ 256) (hq : q < 2 ^ 256) (ha : a < 2 ^ 256) (hv : decide ((0 < a ∧ a < p) ∧ a ^ q % p = 1) = v) : Calls Tryd.prog 25 #[gv p q g, num a] w fun e w' => e = .returned (.bool v) ∧ Below w.heap.size w w' := by
  subst hv
  by_cases h : 0 < a ∧ a < p
  · by_cases h1 : a ^ q % p = 1
    · rw [decide_eq_true ⟨h, h1⟩]; exact in_yes p q g a w hp hq h h1
    · rw [decide_eq_false (fun x => h1 x.2)]; exact in_no p q g a w hp hq h h1
  · rw [decide_eq_false (fun x => h x.1)]; exact in_none p q g a w hp hq ha h
end Go.Proofs.YtioebjbjpjbodaaDoor
namespace Go.Proofs.YtioebjbjpjbodaaDoor
open Go.RowKit
set_option linter.unusedVariables false

set_option maxRecDepth 100000 in
set_option maxHeartbeats 4000000 in
theorem fine_low (p q g : Nat) (w : World) (hp : p < 2 ^ 256) (hq : q < 2 ^ 256) (hg : g < 2 ^ 256) (hl : ¬ 1 < q) : Calls Tryd.prog 13 #[gv p q g] w fun e w' => e = .returned (.bool false) ∧ Below w.heap.size w w' := by
  obtain ⟨n, en⟩ : ∃ n, nbits q = n := ⟨_, rfl⟩
  have hn : 1 < n ↔ 1 < q := by rw [← en]; exact nbits_above q
  have EN := hid (show (nbits q : Int) = (n : Int) by rw [en])
  have PL := hid hp
  have QL := hid hq
  have GL := hid hg
  have c1 : ¬ (n : Int) > 1 := by omega
  have c2 : ¬ 1 < n := by omega
  have c3 : n ≤ 1 := by omega
  have cb : decide ((1 : Int) < (n : Int)) = false := decide_eq_false (by omega)
  clear hp hq hg en hn hl
  have H0 := hid (Eg.of (Env.refl w) p q g 26)
  go_enter Tryd.func13, Tryd.ntmps13
  go_upto_region 1 with fail
  generalize w.alloc (.cells (gcs p q g) 26) = w0 at *
  generalize w.heap.size = g_p at *
  have hs := H0.out.drew
  refine wp_region_noPanic ?_
  refine Goes.region (fun (L : Array Bool) (w' : World) => w'.cell? ⟨g_p, 0, none⟩ = some (.int .u64 (wd p 0 : Int)) ∧ w'.cell? ⟨g_p, 1, none⟩ = some (.int .u64 (wd p 1 : Int)) ∧ w'.cell? ⟨g_p, 2, none⟩ = some (.int .u64 (wd p 2 : Int)) ∧ w'.cell? ⟨g_p, 3, none⟩ = some (.int .u64 (wd p 3 : Int)) ∧ w'.cell? ⟨g_p, 4, none⟩ = some (.int .u64 (wd q 0 : Int)) ∧ w'.cell? ⟨g_p, 5, none⟩ = some (.int .u64 (wd q 1 : Int)) ∧ w'.cell? ⟨g_p, 6, none⟩ = some (.int .u64 (wd q 2 : Int)) ∧ w'.cell? ⟨g_p, 7, none⟩ = some (.int .u64 (wd q 3 : Int)) ∧ w'.cell? ⟨g_p, 8, none⟩ = some (.int .u64 (wd g 0 : Int)) ∧ w'.cell? ⟨g_p, 9, none⟩ = some (.int .u64 (wd g 1 : Int)) ∧ w'.cell? ⟨g_p, 10, none⟩ = some (.int .u64 (wd g 2 : Int)) ∧ w'.cell? ⟨g_p, 11, none⟩ = some (.int .u64 (wd g 3 : Int))) (by kernel_rfl) ?_
  generalize w0.drew = wd at *
  have hJJ := hid (And.intro (Eg.gp hs).1 (And.intro (Eg.gp hs).2.1 (And.intro (Eg.gp hs).2.2.1 (And.intro (Eg.gp hs).2.2.2 (And.intro (Eg.gq hs).1 (And.intro (Eg.gq hs).2.1 (And.intro (Eg.gq hs).2.2.1 (And.intro (Eg.gq hs).2.2.2 (And.intro (Eg.gg hs).1 (And.intro (Eg.gg hs).2.1 (And.intro (Eg.gg hs).2.2.1 (Eg.gg hs).2.2.2)))))))))))
  refine Goes.tk (i := 0) (o := ⟨some 3, _, _, _, _, _⟩) (v := ?_) [] (y := Or.inl ⟨by rfl, ?_⟩) (s := hJJ.out) (H := ?_)
  rotate_left
  · intro w hY; go_simp; try with_reducible rfl
  try simp only [putz]
  refine Goes.tk (i := 1) (o := ⟨some 4, _, _, _, _, _⟩) (v := ?_) [] (y := Or.inl ⟨by rfl, ?_⟩) (s := hJJ.out) (H := ?_)
  rotate_left
  · rintro w ⟨up, -, hX⟩; (try dsimp only at hX); obtain ⟨x0, x1, x2, x3, x4, x5, x6, x7, x8, x9, x10, x11⟩ := hX; go_simp; try with_reducible rfl
  try simp only [putz]
  clear hJJ
  refine Goes.one (i := 2) (o := ⟨some 5, _, _, _, _, _⟩) (by kernel_rfl) rfl (fun K hK => ?_)
  go_simp
  with_reducible refine (eg_at (bits_at q (n : Int) (Env.refl _) QL.out EN.out) hs).mono ?_
  rintro e wn1 ⟨rfl, hs1⟩
  go_wp2_with fail
  refine hK.out _ _ (⟨(Eg.gp hs1).1, (Eg.gp hs1).2.1, (Eg.gp hs1).2.2.1, (Eg.gp hs1).2.2.2, (Eg.gq hs1).1, (Eg.gq hs1).2.1, (Eg.gq hs1).2.2.1, (Eg.gq hs1).2.2.2, (Eg.gg hs1).1, (Eg.gg hs1).2.1, (Eg.gg hs1).2.2.1, (Eg.gg hs1).2.2.2⟩) ?_
  clear hK K
  try simp only [putz]
  clear hs
  have hs := hs1
  clear hs1
  have hJJ := hid (And.intro (Eg.gp hs).1 (And.intro (Eg.gp hs).2.1 (And.intro (Eg.gp hs).2.2.1 (And.intro (Eg.gp hs).2.2.2 (And.intro (Eg.gq hs).1 (And.intro (Eg.gq hs).2.1 (And.intro (Eg.gq hs).2.2.1 (And.intro (Eg.gq hs).2.2.2 (And.intro (Eg.gg hs).1 (And.intro (Eg.gg hs).2.1 (And.intro (Eg.gg hs).2.2.1 (Eg.gg hs).2.2.2)))))))))))
  refine Goes.tk (i := 3) (o := ⟨some 6, _, _, _, _, _⟩) (v := ?_) [] (y := Or.inl ⟨by rfl, ?_⟩) (s := hJJ.out) (H := ?_)
  rotate_left
  · intro w hY; go_simp; try with_reducible rfl
  try simp only [putz]
  refine Goes.tk (i := 4) (o := ⟨some 7, _, _, _, _, _⟩) (v := ?_) [] (y := Or.inl ⟨by rfl, ?_⟩) (s := hJJ.out) (H := ?_)
  rotate_left
  · intro w hY; go_simp; try with_reducible rfl
  try simp only [putz]
  refine Goes.tk (i := 5) (o := ⟨some 8, _, _, _, _, _⟩) [] (y := Or.inr ⟨by rfl, rfl⟩) (s := hJJ.out) (H := ?_)
  try simp only [putz]
  refine Goes.tk (i := 6) (o := ⟨some 9, _, _, _, _, _⟩) [] (y := Or.inr ⟨by rfl, rfl⟩) (s := hJJ.out) (H := ?_)
  try simp only [putz]
  refine Goes.tk (i := 7) (o := ⟨some 10, _, _, _, _, _⟩) [] (y := Or.inr ⟨by rfl, rfl⟩) (s := hJJ.out) (H := ?_)
  try simp only [putz]
  refine Goes.tk (i := 8) (o := ⟨some 11, _, _, _, _, _⟩) [] (y := Or.inr ⟨by rfl, rfl⟩) (s := hJJ.out) (H := ?_)
  try simp only [putz]
  refine Goes.tk (i := 9) (o := ⟨some 12, _, _, _, _, _⟩) (v := ?_) [] (y := Or.inl ⟨by rfl, ?_⟩) (s := hJJ.out) (H := ?_)
  rotate_left
  · intro w hY; go_simp; try with_reducible rfl
  try simp only [putz]
  refine Goes.tk (i := 10) (o := ⟨some 13, _, _, _, _, _⟩) (v := ?_) [] (y := Or.inl ⟨by rfl, ?_⟩) (s := hJJ.out) (H := ?_)
  rotate_left
  · intro w hY; go_simp; try with_reducible rfl
  try simp only [putz]
  refine Goes.tk (i := 11) (o := ⟨some 14, _, _, _, _, _⟩) [] (y := Or.inr ⟨by rfl, rfl⟩) (s := hJJ.out) (H := ?_)
  try simp only [putz]
  refine Goes.tk (i := 12) (o := ⟨some 15, _, _, _, _, _⟩) [] (y := Or.inr ⟨by rfl, rfl⟩) (s := hJJ.out) (H := ?_)
  try simp only [putz]
  refine Goes.tk (i := 13) (o := ⟨some 16, _, _, _, _, _⟩) [] (y := Or.inr ⟨by rfl, rfl⟩) (s := hJJ.out) (H := ?_)
  try simp only [putz]
  refine Goes.tk (i := 14) (o := ⟨some 17, _, _, _, _, _⟩) [] (y := Or.inr ⟨by rfl, rfl⟩) (s := hJJ.out) (H := ?_)
  try simp only [putz]
  refine Goes.tk (i := 15) (o := ⟨some 18, _, _, _, _, _⟩) (v := ?_) [] (y := Or.inl ⟨by rfl, ?_⟩) (s := hJJ.out) (H := ?_)
  rotate_left
  · intro w hY; go_simp; try with_reducible rfl
  try simp only [putz]
  refine Goes.tk (i := 16) (o := ⟨some 2, _, _, _, _, _⟩) (v := ?_) [] (y := Or.inl ⟨by rfl, ?_⟩) (s := hJJ.out) (H := ?_)
  rotate_left
  · intro w hY; go_simp; try with_reducible rfl
  try simp only [putz]
  clear hJJ
  refine Goes.done (by kernel_rfl) ?_ _
  refine NoPanic.normal ?_
  go_wp2_with fail
  exact bodyPost_ret (v := .bool false) (by simp [results, Tryd.results13, go_sem]) rfl ⟨rfl, hs.1.1⟩
set_option maxRecDepth 100000 in
set_option maxHeartbeats 4000000 in
theorem fine_one (p q g : Nat) (w : World) (hp : p < 2 ^ 256) (hq : q < 2 ^ 256) (hg : g < 2 ^ 256) (hl : 1 < q) (h1 : g = 1) : Calls Tryd.prog 13 #[gv p q g] w fun e w' => e = .returned (.bool false) ∧ Below w.heap.size w w' := by
  obtain ⟨n, en⟩ : ∃ n, nbits q = n := ⟨_, rfl⟩
  have hn : 1 < n ↔ 1 < q := by rw [← en]; exact nbits_above q
  have EN := hid (show (nbits q : Int) = (n : Int) by rw [en])
  have PL := hid hp
  have QL := hid hq
  have GL := hid hg
  have c1 : (n : Int) > 1 := by omega
  have c2 : 1 < n := by omega
  have cb : decide ((1 : Int) < (n : Int)) = true := decide_eq_true (by omega)
  have q1 := eq_yes g 1 h1
  clear hp hq hg en hn hl h1
  have H0 := hid (Eg.of (Env.refl w) p q g 26)
  go_enter Tryd.func13, Tryd.ntmps13
  go_upto_region 1 with fail
  generalize w.alloc (.cells (gcs p q g) 26) = w0 at *
  generalize w.heap.size = g_p at *
  have hs := H0.out.drew
  refine wp_region_noPanic ?_
  refine Goes.region (fun (L : Array Bool) (w' : World) => w'.cell? ⟨g_p, 0, none⟩ = some (.int .u64 (wd p 0 : Int)) ∧ w'.cell? ⟨g_p, 1, none⟩ = some (.int .u64 (wd p 1 : Int)) ∧ w'.cell? ⟨g_p, 2, none⟩ = some (.int .u64 (wd p 2 : Int)) ∧ w'.cell? ⟨g_p, 3, none⟩ = some (.int .u64 (wd p 3 : Int)) ∧ w'.cell? ⟨g_p, 4, none⟩ = some (.int .u64 (wd q 0 : Int)) ∧ w'.cell? ⟨g_p, 5, none⟩ = some (.int .u64 (wd q 1 : Int)) ∧ w'.cell? ⟨g_p, 6, none⟩ = some (.int .u64 (wd q 2 : Int)) ∧ w'.cell? ⟨g_p, 7, none⟩ = some (.int .u64 (wd q 3 : Int)) ∧ w'.cell? ⟨g_p, 8, none⟩ = some (.int .u64 (wd g 0 : Int)) ∧ w'.cell? ⟨g_p, 9, none⟩ = some (.int .u64 (wd g 1 : Int)) ∧ w'.cell? ⟨g_p, 10, none⟩ = some (.int .u64 (wd g 2 : Int)) ∧ w'.cell? ⟨g_p, 11, none⟩ = some (.int .u64 (wd g 3 : Int))) (by kernel_rfl) ?_
  generalize w0.drew = wd at *
  have hJJ := hid (And.intro (Eg.gp hs).1 (And.intro (Eg.gp hs).2.1 (And.intro (Eg.gp hs).2.2.1 (And.intro (Eg.gp hs).2.2.2 (And.intro (Eg.gq hs).1 (And.intro (Eg.gq hs).2.1 (And.intro (Eg.gq hs).2.2.1 (And.intro (Eg.gq hs).2.2.2 (And.intro (Eg.gg hs).1 (And.intro (Eg.gg hs).2.1 (And.intro (Eg.gg hs).2.2.1 (Eg.gg hs).2.2.2)))))))))))
  refine Goes.tk (i := 0) (o := ⟨some 3, _, _, _, _, _⟩) (v := ?_) [] (y := Or.inl ⟨by rfl, ?_⟩) (s := hJJ.out) (H := ?_)
  rotate_left
  · intro w hY; go_simp; try with_reducible rfl
  try simp only [putz]
  refine Goes.tk (i := 1) (o := ⟨some 4, _, _, _, _, _⟩) (v := ?_) [] (y := Or.inl ⟨by rfl, ?_⟩) (s := hJJ.out) (H := ?_)
  rotate_left
  · rintro w ⟨up, -, hX⟩; (try dsimp only at hX); obtain ⟨x0, x1, x2, x3, x4, x5, x6, x7, x8, x9, x10, x11⟩ := hX; go_simp; try with_reducible rfl
  try simp only [putz]
  clear hJJ
  refine Goes.one (i := 2) (o := ⟨some 5, _, _, _, _, _⟩) (by kernel_rfl) rfl (fun K hK => ?_)
  go_simp
  with_reducible refine (eg_at (bits_at q (n : Int) (Env.refl _) QL.out EN.out) hs).mono ?_
  rintro e wn1 ⟨rfl, hs1⟩
  go_wp2_with fail
  refine hK.out _ _ (⟨(Eg.gp hs1).1, (Eg.gp hs1).2.1, (Eg.gp hs1).2.2.1, (Eg.gp hs1).2.2.2, (Eg.gq hs1).1, (Eg.gq hs1).2.1, (Eg.gq hs1).2.2.1, (Eg.gq hs1).2.2.2, (Eg.gg hs1).1, (Eg.gg hs1).2.1, (Eg.gg hs1).2.2.1, (Eg.gg hs1).2.2.2⟩) ?_
  clear hK K
  try simp only [putz]
  clear hs
  have hs := hs1
  clear hs1
  have hJJ := hid (And.intro (Eg.gp hs).1 (And.intro (Eg.gp hs).2.1 (And.intro (Eg.gp hs).2.2.1 (And.intro (Eg.gp hs).2.2.2 (And.intro (Eg.gq hs).1 (And.intro (Eg.gq hs).2.1 (And.intro (Eg.gq hs).2.2.1 (And.intro (Eg.gq hs).2.2.2 (And.intro (Eg.gg hs).1 (And.intro (Eg.gg hs).2.1 (And.intro (Eg.gg hs).2.2.1 (Eg.gg hs).2.2.2)))))))))))
  refine Goes.tk (i := 3) (o := ⟨some 6, _, _, _, _, _⟩) (v := ?_) [] (y := Or.inl ⟨by rfl, ?_⟩) (s := hJJ.out) (H := ?_)
  rotate_left
  · intro w hY; go_simp; try with_reducible rfl
  try simp only [putz]
  refine Goes.tk (i := 4) (o := ⟨some 7, _, _, _, _, _⟩) (v := ?_) [] (y := Or.inl ⟨by rfl, ?_⟩) (s := hJJ.out) (H := ?_)
  rotate_left
  · intro w hY; go_simp; try with_reducible rfl
  try simp only [putz]
  refine Goes.tk (i := 5) (o := ⟨some 8, _, _, _, _, _⟩) (v := ?_) [] (y := Or.inl ⟨by rfl, ?_⟩) (s := hJJ.out) (H := ?_)
  rotate_left
  · intro w hY; go_simp; try with_reducible rfl
  try simp only [putz]
  refine Goes.tk (i := 6) (o := ⟨some 9, _, _, _, _, _⟩) (v := ?_) [] (y := Or.inl ⟨by rfl, ?_⟩) (s := hJJ.out) (H := ?_)
  rotate_left
  · rintro w ⟨up, -, hX⟩; (try dsimp only at hX); obtain ⟨x0, x1, x2, x3, x4, x5, x6, x7, x8, x9, x10, x11⟩ := hX; go_simp; try with_reducible rfl
  try simp only [putz]
  clear hJJ
  refine Goes.one (i := 7) (o := ⟨some 10, _, _, _, _, _⟩) (by kernel_rfl) rfl (fun K hK => ?_)
  go_simp
  with_reducible refine (eg_at (lof_at 1 1 (Env.refl _) (by decide) (by decide)) hs).mono ?_
  rintro e wn2 ⟨rfl, hs2⟩
  go_wp2_with fail
  refine hK.out _ _ (⟨(Eg.gp hs2).1, (Eg.gp hs2).2.1, (Eg.gp hs2).2.2.1, (Eg.gp hs2).2.2.2, (Eg.gq hs2).1, (Eg.gq hs2).2.1, (Eg.gq hs2).2.2.1, (Eg.gq hs2).2.2.2, (Eg.gg hs2).1, (Eg.gg hs2).2.1, (Eg.gg hs2).2.2.1, (Eg.gg hs2).2.2.2⟩) ?_
  clear hK K
  try simp only [putz]
  clear hs
  have hs := hs2
  clear hs2
  have hJJ := hid (And.intro (Eg.gp hs).1 (And.intro (Eg.gp hs).2.1 (And.intro (Eg.gp hs).2.2.1 (And.intro (Eg.gp hs).2.2.2 (And.intro (Eg.gq hs).1 (And.intro (Eg.gq hs).2.1 (And.intro (Eg.gq hs).2.2.1 (And.intro (Eg.gq hs).2.2.2 (And.intro (Eg.gg hs).1 (And.intro (Eg.gg hs).2.1 (And.intro (Eg.gg hs).2.2.1 (Eg.gg hs).2.2.2)))))))))))
  refine Goes.tk (i := 8) (o := ⟨some 11, _, _, _, _, _⟩) (v := ?_) [] (y := Or.inl ⟨by rfl, ?_⟩) (s := hJJ.out) (H := ?_)
  rotate_left
  · intro w hY; go_simp; try with_reducible rfl
  try simp only [putz]
  refine Goes.tk (i := 9) (o := ⟨some 12, _, _, _, _, _⟩) (v := ?_) [] (y := Or.inl ⟨by rfl, ?_⟩) (s := hJJ.out) (H := ?_)
  rotate_left
  · intro w hY; go_simp; try with_reducible rfl
  try simp only [putz]
  refine Goes.tk (i := 10) (o := ⟨some 13, _, _, _, _, _⟩) (v := ?_) [] (y := Or.inl ⟨by rfl, ?_⟩) (s := hJJ.out) (H := ?_)
  rotate_left
  · intro w hY; go_simp; try with_reducible rfl
  try simp only [putz]
  refine Goes.tk (i := 11) (o := ⟨some 14, _, _, _, _, _⟩) [] (y := Or.inr ⟨by rfl, rfl⟩) (s := hJJ.out) (H := ?_)
  try simp only [putz]
  refine Goes.tk (i := 12) (o := ⟨some 15, _, _, _, _, _⟩) [] (y := Or.inr ⟨by rfl, rfl⟩) (s := hJJ.out) (H := ?_)
  try simp only [putz]
  refine Goes.tk (i := 13) (o := ⟨some 16, _, _, _, _, _⟩) [] (y := Or.inr ⟨by rfl, rfl⟩) (s := hJJ.out) (H := ?_)
  try simp only [putz]
  refine Goes.tk (i := 14) (o := ⟨some 17, _, _, _, _, _⟩) [] (y := Or.inr ⟨by rfl, rfl⟩) (s := hJJ.out) (H := ?_)
  try simp only [putz]
  refine Goes.tk (i := 15) (o := ⟨some 18, _, _, _, _, _⟩) (v := ?_) [] (y := Or.inl ⟨by rfl, ?_⟩) (s := hJJ.out) (H := ?_)
  rotate_left
  · intro w hY; go_simp; try with_reducible rfl
  try simp only [putz]
  refine Goes.tk (i := 16) (o := ⟨some 2, _, _, _, _, _⟩) (v := ?_) [] (y := Or.inl ⟨by rfl, ?_⟩) (s := hJJ.out) (H := ?_)
  rotate_left
  · intro w hY; go_simp; try with_reducible rfl
  try simp only [putz]
  clear hJJ
  refine Goes.done (by kernel_rfl) ?_ _
  refine NoPanic.normal ?_
  go_wp2_with fail
  exact bodyPost_ret (v := .bool false) (by simp [results, Tryd.results13, go_sem]) rfl ⟨rfl, hs.1.1⟩
set_option maxRecDepth 100000 in
set_option maxHeartbeats 4000000 in
theorem fine_in (p q g : Nat) (v : Bool) (w : World) (hp : p < 2 ^ 256) (hq : q < 2 ^ 256) (hg : g < 2 ^ 256) (hl : 1 < q) (h1 : g ≠ 1) (hv : decide ((0 < g ∧ g < p) ∧ g ^ q % p = 1) = v) : Calls Tryd.prog 13 #[gv p q g] w fun e w' => e = .returned (.bool v) ∧ Below w.heap.size w w' := by
  obtain ⟨n, en⟩ : ∃ n, nbits q = n := ⟨_, rfl⟩
  have hn : 1 < n ↔ 1 < q := by rw [← en]; exact nbits_above q
  have EN := hid (show (nbits q : Int) = (n : Int) by rw [en])
  have PL := hid hp
  have QL := hid hq
  have GL := hid hg
  have c1 : (n : Int) > 1 := by omega
  have c2 : 1 < n := by omega
  have cb : decide ((1 : Int) < (n : Int)) = true := decide_eq_true (by omega)
  have q1 := eq_no g 1 hg (by decide) h1
  have VV := hid hv
  clear hp hq hg en hn hl h1 hv
  have H0 := hid (Eg.of (Env.refl w) p q g 26)
  go_enter Tryd.func13, Tryd.ntmps13
  go_upto_region 1 with fail
  generalize w.alloc (.cells (gcs p q g) 26) = w0 at *
  generalize w.heap.size = g_p at *
  have hs := H0.out.drew
  refine wp_region_noPanic ?_
  refine Goes.region (fun (L : Array Bool) (w' : World) => w'.cell? ⟨g_p, 0, none⟩ = some (.int .u64 (wd p 0 : Int)) ∧ w'.cell? ⟨g_p, 1, none⟩ = some (.int .u64 (wd p 1 : Int)) ∧ w'.cell? ⟨g_p, 2, none⟩ = some (.int .u64 (wd p 2 : Int)) ∧ w'.cell? ⟨g_p, 3, none⟩ = some (.int .u64 (wd p 3 : Int)) ∧ w'.cell? ⟨g_p, 4, none⟩ = some (.int .u64 (wd q 0 : Int)) ∧ w'.cell? ⟨g_p, 5, none⟩ = some (.int .u64 (wd q 1 : Int)) ∧ w'.cell? ⟨g_p, 6, none⟩ = some (.int .u64 (wd q 2 : Int)) ∧ w'.cell? ⟨g_p, 7, none⟩ = some (.int .u64 (wd q 3 : Int)) ∧ w'.cell? ⟨g_p, 8, none⟩ = some (.int .u64 (wd g 0 : Int)) ∧ w'.cell? ⟨g_p, 9, none⟩ = some (.int .u64 (wd g 1 : Int)) ∧ w'.cell? ⟨g_p, 10, none⟩ = some (.int .u64 (wd g 2 : Int)) ∧ w'.cell? ⟨g_p, 11, none⟩ = some (.int .u64 (wd g 3 : Int))) (by kernel_rfl) ?_
  generalize w0.drew = wd at *
  have hJJ := hid (And.intro (Eg.gp hs).1 (And.intro (Eg.gp hs).2.1 (And.intro (Eg.gp hs).2.2.1 (And.intro (Eg.gp hs).2.2.2 (And.intro (Eg.gq hs).1 (And.intro (Eg.gq hs).2.1 (And.intro (Eg.gq hs).2.2.1 (And.intro (Eg.gq hs).2.2.2 (And.intro (Eg.gg hs).1 (And.intro (Eg.gg hs).2.1 (And.intro (Eg.gg hs).2.2.1 (Eg.gg hs).2.2.2)))))))))))
  refine Goes.tk (i := 0) (o := ⟨some 3, _, _, _, _, _⟩) (v := ?_) [] (y := Or.inl ⟨by rfl, ?_⟩) (s := hJJ.out) (H := ?_)
  rotate_left
  · intro w hY; go_simp; try with_reducible rfl
  try simp only [putz]
  refine Goes.tk (i := 1) (o := ⟨some 4, _, _, _, _, _⟩) (v := ?_) [] (y := Or.inl ⟨by rfl, ?_⟩) (s := hJJ.out) (H := ?_)
  rotate_left
  · rintro w ⟨up, -, hX⟩; (try dsimp only at hX); obtain ⟨x0, x1, x2, x3, x4, x5, x6, x7, x8, x9, x10, x11⟩ := hX; go_simp; try with_reducible rfl
  try simp only [putz]
  clear hJJ
  refine Goes.one (i := 2) (o := ⟨some 5, _, _, _, _, _⟩) (by kernel_rfl) rfl (fun K hK => ?_)
  go_simp
  with_reducible refine (eg_at (bits_at q (n : Int) (Env.refl _) QL.out EN.out) hs).mono ?_
  rintro e wn1 ⟨rfl, hs1⟩
  go_wp2_with fail
  refine hK.out _ _ (⟨(Eg.gp hs1).1, (Eg.gp hs1).2.1, (Eg.gp hs1).2.2.1, (Eg.gp hs1).2.2.2, (Eg.gq hs1).1, (Eg.gq hs1).2.1, (Eg.gq hs1).2.2.1, (Eg.gq hs1).2.2.2, (Eg.gg hs1).1, (Eg.gg hs1).2.1, (Eg.gg hs1).2.2.1, (Eg.gg hs1).2.2.2⟩) ?_
  clear hK K
  try simp only [putz]
  clear hs
  have hs := hs1
  clear hs1
  have hJJ := hid (And.intro (Eg.gp hs).1 (And.intro (Eg.gp hs).2.1 (And.intro (Eg.gp hs).2.2.1 (And.intro (Eg.gp hs).2.2.2 (And.intro (Eg.gq hs).1 (And.intro (Eg.gq hs).2.1 (And.intro (Eg.gq hs).2.2.1 (And.intro (Eg.gq hs).2.2.2 (And.intro (Eg.gg hs).1 (And.intro (Eg.gg hs).2.1 (And.intro (Eg.gg hs).2.2.1 (Eg.gg hs).2.2.2)))))))))))
  refine Goes.tk (i := 3) (o := ⟨some 6, _, _, _, _, _⟩) (v := ?_) [] (y := Or.inl ⟨by rfl, ?_⟩) (s := hJJ.out) (H := ?_)
  rotate_left
  · intro w hY; go_simp; try with_reducible rfl
  try simp only [putz]
  refine Goes.tk (i := 4) (o := ⟨some 7, _, _, _, _, _⟩) (v := ?_) [] (y := Or.inl ⟨by rfl, ?_⟩) (s := hJJ.out) (H := ?_)
  rotate_left
  · intro w hY; go_simp; try with_reducible rfl
  try simp only [putz]
  refine Goes.tk (i := 5) (o := ⟨some 8, _, _, _, _, _⟩) (v := ?_) [] (y := Or.inl ⟨by rfl, ?_⟩) (s := hJJ.out) (H := ?_)
  rotate_left
  · intro w hY; go_simp; try with_reducible rfl
  try simp only [putz]
  refine Goes.tk (i := 6) (o := ⟨some 9, _, _, _, _, _⟩) (v := ?_) [] (y := Or.inl ⟨by rfl, ?_⟩) (s := hJJ.out) (H := ?_)
  rotate_left
  · rintro w ⟨up, -, hX⟩; (try dsimp only at hX); obtain ⟨x0, x1, x2, x3, x4, x5, x6, x7, x8, x9, x10, x11⟩ := hX; go_simp; try with_reducible rfl
  try simp only [putz]
  clear hJJ
  refine Goes.one (i := 7) (o := ⟨some 10, _, _, _, _, _⟩) (by kernel_rfl) rfl (fun K hK => ?_)
  go_simp
  with_reducible refine (eg_at (lof_at 1 1 (Env.refl _) (by decide) (by decide)) hs).mono ?_
  rintro e wn2 ⟨rfl, hs2⟩
  go_wp2_with fail
  refine hK.out _ _ (⟨(Eg.gp hs2).1, (Eg.gp hs2).2.1, (Eg.gp hs2).2.2.1, (Eg.gp hs2).2.2.2, (Eg.gq hs2).1, (Eg.gq hs2).2.1, (Eg.gq hs2).2.2.1, (Eg.gq hs2).2.2.2, (Eg.gg hs2).1, (Eg.gg hs2).2.1, (Eg.gg hs2).2.2.1, (Eg.gg hs2).2.2.2⟩) ?_
  clear hK K
  try simp only [putz]
  clear hs
  have hs := hs2
  clear hs2
  have hJJ := hid (And.intro (Eg.gp hs).1 (And.intro (Eg.gp hs).2.1 (And.intro (Eg.gp hs).2.2.1 (And.intro (Eg.gp hs).2.2.2 (And.intro (Eg.gq hs).1 (And.intro (Eg.gq hs).2.1 (And.intro (Eg.gq hs).2.2.1 (And.intro (Eg.gq hs).2.2.2 (And.intro (Eg.gg hs).1 (And.intro (Eg.gg hs).2.1 (And.intro (Eg.gg hs).2.2.1 (Eg.gg hs).2.2.2)))))))))))
  refine Goes.tk (i := 8) (o := ⟨some 11, _, _, _, _, _⟩) (v := ?_) [] (y := Or.inl ⟨by rfl, ?_⟩) (s := hJJ.out) (H := ?_)
  rotate_left
  · intro w hY; go_simp; try with_reducible rfl
  try simp only [putz]
  refine Goes.tk (i := 9) (o := ⟨some 12, _, _, _, _, _⟩) (v := ?_) [] (y := Or.inl ⟨by rfl, ?_⟩) (s := hJJ.out) (H := ?_)
  rotate_left
  · intro w hY; go_simp; try with_reducible rfl
  try simp only [putz]
  refine Goes.tk (i := 10) (o := ⟨some 13, _, _, _, _, _⟩) (v := ?_) [] (y := Or.inl ⟨by rfl, ?_⟩) (s := hJJ.out) (H := ?_)
  rotate_left
  · intro w hY; go_simp; try with_reducible rfl
  try simp only [putz]
  refine Goes.tk (i := 11) (o := ⟨some 14, _, _, _, _, _⟩) (v := ?_) [] (y := Or.inl ⟨by rfl, ?_⟩) (s := hJJ.out) (H := ?_)
  rotate_left
  · rintro w ⟨up, -, hX⟩; (try dsimp only at hX); obtain ⟨x0, x1, x2, x3, x4, x5, x6, x7, x8, x9, x10, x11⟩ := hX; go_simp; try with_reducible rfl
  try simp only [putz]
  refine Goes.tk (i := 12) (o := ⟨some 15, _, _, _, _, _⟩) (v := ?_) [] (y := Or.inl ⟨by rfl, ?_⟩) (s := hJJ.out) (H := ?_)
  rotate_left
  · intro w hY; go_simp; try with_reducible rfl
  try simp only [putz]
  refine Goes.tk (i := 13) (o := ⟨some 16, _, _, _, _, _⟩) (v := ?_) [] (y := Or.inl ⟨by rfl, ?_⟩) (s := hJJ.out) (H := ?_)
  rotate_left
  · rintro w ⟨up, -, hX⟩; (try dsimp only at hX); obtain ⟨x0, x1, x2, x3, x4, x5, x6, x7, x8, x9, x10, x11⟩ := hX; go_simp; try with_reducible rfl
  try simp only [putz]
  clear hJJ
  refine Goes.one (i := 14) (o := ⟨some 17, _, _, _, _, _⟩) (by kernel_rfl) rfl (fun K hK => ?_)
  go_simp
  with_reducible refine (eg_of (in_any p q g g v _ PL.out QL.out GL.out VV.out) hs).mono ?_
  rintro e wn3 ⟨rfl, hs3⟩
  go_wp2_with fail
  refine hK.out _ _ (⟨(Eg.gp hs3).1, (Eg.gp hs3).2.1, (Eg.gp hs3).2.2.1, (Eg.gp hs3).2.2.2, (Eg.gq hs3).1, (Eg.gq hs3).2.1, (Eg.gq hs3).2.2.1, (Eg.gq hs3).2.2.2, (Eg.gg hs3).1, (Eg.gg hs3).2.1, (Eg.gg hs3).2.2.1, (Eg.gg hs3).2.2.2⟩) ?_
  clear hK K
  try simp only [putz]
  clear hs
  have hs := hs3
  clear hs3
  have hJJ := hid (And.intro (Eg.gp hs).1 (And.intro (Eg.gp hs).2.1 (And.intro (Eg.gp hs).2.2.1 (And.intro (Eg.gp hs).2.2.2 (And.intro (Eg.gq hs).1 (And.intro (Eg.gq hs).2.1 (And.intro (Eg.gq hs).2.2.1 (And.intro (Eg.gq hs).2.2.2 (And.intro (Eg.gg hs).1 (And.intro (Eg.gg hs).2.1 (And.intro (Eg.gg hs).2.2.1 (Eg.gg hs).2.2.2)))))))))))
  refine Goes.tk (i := 15) (o := ⟨some 18, _, _, _, _, _⟩) (v := ?_) [] (y := Or.inl ⟨by rfl, ?_⟩) (s := hJJ.out) (H := ?_)
  rotate_left
  · intro w hY; go_simp; try with_reducible rfl
  try simp only [putz]
  refine Goes.tk (i := 16) (o := ⟨some 2, _, _, _, _, _⟩) (v := ?_) [] (y := Or.inl ⟨by rfl, ?_⟩) (s := hJJ.out) (H := ?_)
  rotate_left
  · intro w hY; go_simp; try with_reducible rfl
  try simp only [putz]
  clear hJJ
  refine Goes.done (by kernel_rfl) ?_ _
  refine NoPanic.normal ?_
  go_wp2_with fail
  exact bodyPost_ret (v := .bool v) (by simp [results, Tryd.results13, go_sem]) rfl ⟨rfl, hs.1.1⟩
theorem fine_any (p q g : Nat) (v : Bool) (w : World) (hp : p < 2 ^ 256) (hq : q < 2 ^ 256) (hg : g < 2 ^ 256) (hv : decide (1 < q ∧ g ≠ 1 ∧ (0 < g ∧ g < p) ∧ g ^ q % p = 1) = v) : Calls Tryd.prog 13 #[gv p q g] w fun e w' => e = .returned (.bool v) ∧ Below w.heap.size w w' := by
  subst hv
  by_cases h : 1 < q
  · by_cases h1 : g = 1
    · rw [decide_eq_false (fun x => x.2.1 h1)]; exact fine_one p q g w hp hq hg h h1
    · exact fine_in p q g _ w hp hq hg h h1 (decide_eq_decide.2 ⟨fun x => ⟨h, h1, x⟩, fun x => x.2.2⟩)
  · rw [decide_eq_false (fun x => h x.1)]; exact fine_low p q g w hp hq hg h
end Go.Proofs.YtioebjbjpjbodaaDoor
namespace Go.Proofs.YtioebjbjpjbodaaDoor
open Go.RowKit
set_option linter.unusedVariables false

end Go.Proofs.YtioebjbjpjbodaaDoor
namespace Go.Proofs.YtioebjbjpjbodaaDoor
open Go.RowKit
set_option linter.unusedVariables false

theorem grp_pos {p q x : Nat} (hp : 1 < p) (hq : q ≠ 0) (h : x ^ q % p = 1) (hx : x < p) : 0 < x ∧ x < p := by
  refine ⟨Nat.pos_of_ne_zero fun e => ?_, hx⟩
  subst e
  obtain ⟨k, rfl⟩ : ∃ k, q = k + 1 := ⟨q - 1, by omega⟩
  rw [law_nought] at h
  omega
theorem grp_mod {p x q : Nat} : (x % p) ^ q % p = x ^ q % p := (Nat.pow_mod x q p).symm
theorem grp_pow {p q a n : Nat} (hp : 1 < p) (ha : a ^ q % p = 1) : (a ^ n % p) ^ q % p = 1 := by
  rw [grp_mod, ← Nat.pow_mul, Nat.mul_comm, Nat.pow_mul, Nat.pow_mod, ha, law_one n hp]
theorem gmul_at (p q g a b r : Nat) (w : World) (hp : p < 2 ^ 256) (va : 0 < a ∧ a < p) (vb : 0 < b ∧ b < p) (hr : a * b % p = r) : Calls Tryd.prog 32 #[gv p q g, num a, num b] w fun e w' => e = .returned (.tuple #[num r, .int .i64 0]) ∧ Below w.heap.size w w' := by
  subst hr; exact gmul_some p q g a b w hp (Nat.lt_trans va.2 hp) (Nat.lt_trans vb.2 hp) va vb
end Go.Proofs.YtioebjbjpjbodaaDoor
