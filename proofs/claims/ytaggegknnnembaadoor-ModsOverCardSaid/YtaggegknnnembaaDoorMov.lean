/-
  burrowlaw04.ModsOver, walked: it answers true at any three numbers. Conditions: the library's table holds what its text lays.
-/
import Derived.Test.YtaggegknnnembaaDoorAlf
import Derived.Test.YtaggegknnnembaaDoorCommon
import Derived.Test.YtaggegknnnembaaDoorInv
import Derived.Deep.CutRange
namespace Go.Proofs.YtaggegknnnembaaDoor
open Go.RowKit
set_option linter.unusedVariables false

/-- what has nothing in common with m has an inverse -/
theorem ivs_exists {a m : Nat} (h1 : 1 < m) (ha : a < m) (hg : Nat.gcd a m = 1) : ∃ v, Ivs a m v := by
  have key : ∀ re wh la ne, InvP a m wh re la ne → ∃ v, Ivs a m v := by
    intro re
    induction re using Nat.strongRecOn with
    | ind re ih =>
      intro wh la ne h
      by_cases h2 : re = 1
      · subst h2; exact ⟨ne, h.yes h1⟩
      · by_cases h0 : re = 0
        · subst h0; exact absurd hg h.no
        · exact ih (wh % re) (Nat.mod_lt _ (by omega)) re ne _ (h.step h0 h2 rfl rfl)
  exact key a m 0 1 (InvP.start h1 ha)
set_option maxRecDepth 100000 in
set_option maxHeartbeats 12000000 in
theorem over_low (x y m : Nat) (w : World) (hx : x < 2 ^ 256) (hy : y < 2 ^ 256) (hm : m < 2 ^ 256) (hm1 : m ≤ 1) (hT : Tab w) : Calls Tryd.prog 3 #[num x, num y, num m] w fun e w' => e = .returned (.bool true) ∧ Below w.heap.size w w' := by
  have HV := hid (show decide (m ≤ 1) = true from decide_eq_true hm1)
  have HM := hid hm
  clear hx hy hm hm1 hT
  have H0 := hid (((((Env.refl w).new x).new y).new m).perm (l' := [(w.heap.size + 1 + 1, m), (w.heap.size + 1, y), (w.heap.size, x)]) (by simp))
  go_enter Tryd.func3, Tryd.ntmps3
  go_upto_region 1 with fail
  generalize ((w.alloc (.cells (cls x) 24)).alloc (.cells (cls y) 24)).alloc (.cells (cls m) 24) = w0 at *
  generalize w.heap.size + 1 + 1 = g_c at *
  generalize w.heap.size + 1 = g_b at *
  generalize hzg_a : w.heap.size = g_a at *
  obtain ⟨c0x0a, c0x0b, c0x0c, c0x0d⟩ := H0.out.cell (g_c) (m) (by simp)
  have c0x0l := H0.out.lt (g_c) (m) (by simp)
  have c0x0m := Nat.le_of_lt c0x0l
  go_wp2_with fail
  clear c0x0a c0x0b c0x0c c0x0d c0x0l c0x0m
  refine (low_at m true H0.out HM.out HV.out).mono ?_
  rintro e w1 ⟨rfl, h⟩
  have H1 := hid h
  clear h H0
  go_wp2_with fail
  refine (alive_at H1.out).mono ?_
  rintro e w2 ⟨rfl, h⟩
  have H2 := hid h
  clear h H1
  go_wp2
  go_ret
  exact ⟨rfl, H2.out.1⟩
set_option maxRecDepth 100000 in
set_option maxHeartbeats 12000000 in
theorem over_A1 (x y m : Nat) (w : World) (hx : x < 2 ^ 256) (hy : y < 2 ^ 256) (hm : m < 2 ^ 256) (hm1 : 1 < m) (hk : x % m * (y % m) % m = 1) (hT : Tab w) : Calls Tryd.prog 3 #[num x, num y, num m] w fun e w' => e = .returned (.bool true) ∧ Below w.heap.size w w' := by
  have HV := hid (show decide (m ≤ 1) = false from decide_eq_false (by omega))
  obtain ⟨a, ea⟩ : ∃ z, x % m = z := ⟨_, rfl⟩
  obtain ⟨b, eb⟩ : ∃ z, y % m = z := ⟨_, rfl⟩
  have am : a < m := by rw [← ea]; exact Nat.mod_lt _ (by omega)
  have bm : b < m := by rw [← eb]; exact Nat.mod_lt _ (by omega)
  rw [ea] at hk
  rw [eb] at hk
  have ep : a * b % m = 1 := hk
  have hi : Ivs a m b := ⟨bm, ep⟩
  have hg : Nat.gcd a m = 1 := hi.gcd
  have qp := eq_yes 1 1 rfl
  have qv := eq_yes b b rfl
  have HI := hid hi
  have HG := hid hg
  have EV := hid hi.2
  have VM := hid hi.1
  clear hi hg hk
  have EA := hid ea
  have EB := hid eb
  have EP := hid ep
  have AM := hid am
  have BM := hid bm
  have HX := hid hx
  have HY := hid hy
  have HM := hid hm
  have M1 := hid hm1
  have M0 := hid (show m ≠ 0 by omega)
  have HT := hid hT
  have AL := hid (Nat.lt_trans am hm)
  clear ea eb ep am bm hx hy hm hm1 hT
  have H0 := hid (((((Env.refl w).new x).new y).new m).perm (l' := [(w.heap.size + 1 + 1, m), (w.heap.size + 1, y), (w.heap.size, x)]) (by simp))
  go_enter Tryd.func3, Tryd.ntmps3
  go_upto_region 1 with fail
  generalize ((w.alloc (.cells (cls x) 24)).alloc (.cells (cls y) 24)).alloc (.cells (cls m) 24) = w0 at *
  generalize w.heap.size + 1 + 1 = g_c at *
  generalize w.heap.size + 1 = g_b at *
  generalize hzg_a : w.heap.size = g_a at *
  obtain ⟨c0x0a, c0x0b, c0x0c, c0x0d⟩ := H0.out.cell (g_c) (m) (by simp)
  have c0x0l := H0.out.lt (g_c) (m) (by simp)
  have c0x0m := Nat.le_of_lt c0x0l
  go_wp2_with fail
  clear c0x0a c0x0b c0x0c c0x0d c0x0l c0x0m
  refine (low_at m false H0.out HM.out HV.out).mono ?_
  rintro e w1 ⟨rfl, h⟩
  have H1 := hid h
  clear h H0
  obtain ⟨c0x1a, c0x1b, c0x1c, c0x1d⟩ := H1.out.cell (g_a) (x) (by simp)
  have c0x1l := H1.out.lt (g_a) (x) (by simp)
  have c0x1m := Nat.le_of_lt c0x1l
  obtain ⟨c6x1a, c6x1b, c6x1c, c6x1d⟩ := H1.out.cell (g_c) (m) (by simp)
  have c6x1l := H1.out.lt (g_c) (m) (by simp)
  have c6x1m := Nat.le_of_lt c6x1l
  go_wp2_with fail
  clear c0x1a c0x1b c0x1c c0x1d c0x1l c0x1m c6x1a c6x1b c6x1c c6x1d c6x1l c6x1m
  refine (rest_at x m a H1.out HX.out HM.out M0.out EA.out).mono ?_
  rintro e w2 ⟨rfl, h⟩
  have H2 := hid h
  clear h H1
  go_upto_region 4 with fail
  have H2b := hid (H2.out.new a)
  clear H2
  generalize w2.alloc (.cells (cls a) 24) = w2b at *
  generalize w2.heap.size = g7 at *
  obtain ⟨c0x2a, c0x2b, c0x2c, c0x2d⟩ := H2b.out.cell (g_b) (y) (by simp)
  have c0x2l := H2b.out.lt (g_b) (y) (by simp)
  have c0x2m := Nat.le_of_lt c0x2l
  obtain ⟨c6x2a, c6x2b, c6x2c, c6x2d⟩ := H2b.out.cell (g_c) (m) (by simp)
  have c6x2l := H2b.out.lt (g_c) (m) (by simp)
  have c6x2m := Nat.le_of_lt c6x2l
  go_wp2_with fail
  clear c0x2a c0x2b c0x2c c0x2d c0x2l c0x2m c6x2a c6x2b c6x2c c6x2d c6x2l c6x2m
  refine (rest_at y m b H2b.out HY.out HM.out M0.out EB.out).mono ?_
  rintro e w3 ⟨rfl, h⟩
  have H3 := hid h
  clear h H2b
  go_upto_region 5 with fail
  have H3b := hid (H3.out.new b)
  clear H3
  generalize w3.alloc (.cells (cls b) 24) = w3b at *
  generalize w3.heap.size = g8 at *
  obtain ⟨c0x3a, c0x3b, c0x3c, c0x3d⟩ := H3b.out.cell (g7) (a) (by simp)
  have c0x3l := H3b.out.lt (g7) (a) (by simp)
  have c0x3m := Nat.le_of_lt c0x3l
  obtain ⟨c6x3a, c6x3b, c6x3c, c6x3d⟩ := H3b.out.cell (g8) (b) (by simp)
  have c6x3l := H3b.out.lt (g8) (b) (by simp)
  have c6x3m := Nat.le_of_lt c6x3l
  obtain ⟨c12x3a, c12x3b, c12x3c, c12x3d⟩ := H3b.out.cell (g_c) (m) (by simp)
  have c12x3l := H3b.out.lt (g_c) (m) (by simp)
  have c12x3m := Nat.le_of_lt c12x3l
  go_wp2_with fail
  clear c0x3a c0x3b c0x3c c0x3d c0x3l c0x3m c6x3a c6x3b c6x3c c6x3d c6x3l c6x3m c12x3a c12x3b c12x3c c12x3d c12x3l c12x3m
  refine (mmul_at a b m 1 H3b.out HM.out M1.out AM.out BM.out EP.out).mono ?_
  rintro e w4 ⟨rfl, h⟩
  have H4 := hid h
  clear h H3b
  go_upto_region 6 with fail
  have H4b := hid (H4.out.new 1)
  clear H4
  generalize w4.alloc (.cells (cls 1) 24) = w4b at *
  generalize w4.heap.size = g9 at *
  obtain ⟨c0x4a, c0x4b, c0x4c, c0x4d⟩ := H4b.out.cell (g7) (a) (by simp)
  have c0x4l := H4b.out.lt (g7) (a) (by simp)
  have c0x4m := Nat.le_of_lt c0x4l
  obtain ⟨c6x4a, c6x4b, c6x4c, c6x4d⟩ := H4b.out.cell (g_c) (m) (by simp)
  have c6x4l := H4b.out.lt (g_c) (m) (by simp)
  have c6x4m := Nat.le_of_lt c6x4l
  go_wp2_with fail
  clear c0x4a c0x4b c0x4c c0x4d c0x4l c0x4m c6x4a c6x4b c6x4c c6x4d c6x4l c6x4m
  refine (minv_yes_at a m b H4b.out HM.out M1.out AM.out HI.out).mono ?_
  rintro e w5 ⟨rfl, h⟩
  have H5 := hid h
  clear h H4b
  go_upto_region 7 with fail
  have H5b := hid (H5.out.new b)
  clear H5
  generalize w5.alloc (.cells (cls b) 24) = w5b at *
  generalize w5.heap.size = g11 at *
  have hs := H5b.out.drew
  refine wp_region_noPanic ?_
  refine Goes.region (fun (L : Array Bool) (w' : World) => w'.cell? ⟨g9, 0, none⟩ = some (.int .u64 (wd (1) 0 : Int)) ∧ w'.cell? ⟨g9, 1, none⟩ = some (.int .u64 (wd (1) 1 : Int)) ∧ w'.cell? ⟨g9, 2, none⟩ = some (.int .u64 (wd (1) 2 : Int)) ∧ w'.cell? ⟨g9, 3, none⟩ = some (.int .u64 (wd (1) 3 : Int)) ∧ w'.cell? ⟨g11, 0, none⟩ = some (.int .u64 (wd (b) 0 : Int)) ∧ w'.cell? ⟨g11, 1, none⟩ = some (.int .u64 (wd (b) 1 : Int)) ∧ w'.cell? ⟨g11, 2, none⟩ = some (.int .u64 (wd (b) 2 : Int)) ∧ w'.cell? ⟨g11, 3, none⟩ = some (.int .u64 (wd (b) 3 : Int)) ∧ w'.cell? ⟨g8, 0, none⟩ = some (.int .u64 (wd (b) 0 : Int)) ∧ w'.cell? ⟨g8, 1, none⟩ = some (.int .u64 (wd (b) 1 : Int)) ∧ w'.cell? ⟨g8, 2, none⟩ = some (.int .u64 (wd (b) 2 : Int)) ∧ w'.cell? ⟨g8, 3, none⟩ = some (.int .u64 (wd (b) 3 : Int))) (by kernel_rfl) ?_
  generalize w5b.drew = wdr at *
  have hT := hid (And.intro ((hs).cell g9 (1) (by simp)).1 (And.intro ((hs).cell g9 (1) (by simp)).2.1 (And.intro ((hs).cell g9 (1) (by simp)).2.2.1 (And.intro ((hs).cell g9 (1) (by simp)).2.2.2 (And.intro ((hs).cell g11 (b) (by simp)).1 (And.intro ((hs).cell g11 (b) (by simp)).2.1 (And.intro ((hs).cell g11 (b) (by simp)).2.2.1 (And.intro ((hs).cell g11 (b) (by simp)).2.2.2 (((hs).cell g8 (b) (by simp)))))))))))
  refine Goes.tk (i := 0) (o := ⟨some 43, _, _, _, _, _⟩) (v := ?_) [] (y := Or.inl ⟨by rfl, ?_⟩) (s := hT.out) (H := ?_)
  rotate_left
  · intro w hY; go_simp; try with_reducible rfl
  try simp only [putz]
  refine Goes.tk (i := 1) (o := ⟨some 44, _, _, _, _, _⟩) (v := ?_) [] (y := Or.inl ⟨by rfl, ?_⟩) (s := hT.out) (H := ?_)
  rotate_left
  · intro w hY; go_simp; try with_reducible rfl
  try simp only [putz]
  refine Goes.tk (i := 2) (o := ⟨some 45, _, _, _, _, _⟩) (v := ?_) [] (y := Or.inl ⟨by rfl, ?_⟩) (s := hT.out) (H := ?_)
  rotate_left
  · intro w hY; go_simp; try with_reducible rfl
  try simp only [putz]
  refine Goes.tk (i := 3) (o := ⟨some 46, _, _, _, _, _⟩) (v := ?_) [] (y := Or.inl ⟨by rfl, ?_⟩) (s := hT.out) (H := ?_)
  rotate_left
  · rintro w ⟨up, -, hX⟩; (try dsimp only at hX); obtain ⟨x0, x1, x2, x3, x4, x5, x6, x7, x8, x9, x10, x11⟩ := hX; go_simp; try with_reducible rfl
  try simp only [putz]
  refine Goes.one (i := 4) (o := ⟨some 47, _, _, _, _, _⟩) (by kernel_rfl) rfl (fun K hK => ?_)
  go_simp
  with_reducible refine (ofl_at 1 1 hs (by decide) rfl).mono ?_
  rintro e wn1 ⟨rfl, hs1⟩
  go_wp2_with fail
  clear hT
  have hT := hid (And.intro ((hs1).cell g9 (1) (by simp)).1 (And.intro ((hs1).cell g9 (1) (by simp)).2.1 (And.intro ((hs1).cell g9 (1) (by simp)).2.2.1 (And.intro ((hs1).cell g9 (1) (by simp)).2.2.2 (And.intro ((hs1).cell g11 (b) (by simp)).1 (And.intro ((hs1).cell g11 (b) (by simp)).2.1 (And.intro ((hs1).cell g11 (b) (by simp)).2.2.1 (And.intro ((hs1).cell g11 (b) (by simp)).2.2.2 (((hs1).cell g8 (b) (by simp)))))))))))
  refine hK.out _ _ (hT.out) ?_
  clear hK K
  try simp only [putz]
  clear hs
  have hs := hs1
  clear hs1
  refine Goes.tk (i := 5) (o := ⟨some 48, _, _, _, _, _⟩) (v := ?_) [] (y := Or.inl ⟨by rfl, ?_⟩) (s := hT.out) (H := ?_)
  rotate_left
  · intro w hY; go_simp; try with_reducible rfl
  try simp only [putz]
  refine Goes.tk (i := 6) (o := ⟨some 49, _, _, _, _, _⟩) (v := ?_) [] (y := Or.inl ⟨by rfl, ?_⟩) (s := hT.out) (H := ?_)
  rotate_left
  · intro w hY; go_simp; try with_reducible rfl
  try simp only [putz]
  refine Goes.tk (i := 7) (o := ⟨some 50, _, _, _, _, _⟩) (v := ?_) [] (y := Or.inl ⟨by rfl, ?_⟩) (s := hT.out) (H := ?_)
  rotate_left
  · rintro w ⟨up, -, hX⟩; (try dsimp only at hX); obtain ⟨x0, x1, x2, x3, x4, x5, x6, x7, x8, x9, x10, x11⟩ := hX; go_simp; try with_reducible rfl
  try simp only [putz]
  refine Goes.tk (i := 8) (o := ⟨some 51, _, _, _, _, _⟩) (v := ?_) [] (y := Or.inl ⟨by rfl, ?_⟩) (s := hT.out) (H := ?_)
  rotate_left
  · rintro w ⟨up, -, hX⟩; (try dsimp only at hX); obtain ⟨x0, x1, x2, x3, x4, x5, x6, x7, x8, x9, x10, x11⟩ := hX; go_simp; try with_reducible rfl
  try simp only [putz]
  refine Goes.tk (i := 9) (o := ⟨some 52, _, _, _, _, _⟩) (v := ?_) [] (y := Or.inl ⟨by rfl, ?_⟩) (s := hT.out) (H := ?_)
  rotate_left
  · intro w hY; go_simp; try with_reducible rfl
  try simp only [putz]
  refine Goes.tk (i := 10) (o := ⟨some 53, _, _, _, _, _⟩) (v := ?_) [] (y := Or.inl ⟨by rfl, ?_⟩) (s := hT.out) (H := ?_)
  rotate_left
  · intro w hY; go_simp; try with_reducible rfl
  try simp only [putz]
  refine Goes.tk (i := 11) (o := ⟨some 54, _, _, _, _, _⟩) (v := ?_) [] (y := Or.inl ⟨by rfl, ?_⟩) (s := hT.out) (H := ?_)
  rotate_left
  · intro w hY; go_simp; try with_reducible rfl
  try simp only [putz]
  refine Goes.tk (i := 12) (o := ⟨some 55, _, _, _, _, _⟩) (v := ?_) [] (y := Or.inl ⟨by rfl, ?_⟩) (s := hT.out) (H := ?_)
  rotate_left
  · intro w hY; go_simp; try with_reducible rfl
  try simp only [putz]
  refine Goes.tk (i := 13) (o := ⟨some 56, _, _, _, _, _⟩) (v := ?_) [] (y := Or.inl ⟨by rfl, ?_⟩) (s := hT.out) (H := ?_)
  rotate_left
  · intro w hY; go_simp; try with_reducible rfl
  try simp only [putz]
  refine Goes.tk (i := 14) (o := ⟨some 57, _, _, _, _, _⟩) (v := ?_) [] (y := Or.inl ⟨by rfl, ?_⟩) (s := hT.out) (H := ?_)
  rotate_left
  · intro w hY; go_simp; try with_reducible rfl
  try simp only [putz]
  refine Goes.tk (i := 15) (o := ⟨some 58, _, _, _, _, _⟩) (v := ?_) [] (y := Or.inl ⟨by rfl, ?_⟩) (s := hT.out) (H := ?_)
  rotate_left
  · intro w hY; go_simp; try with_reducible rfl
  try simp only [putz]
  clear hT
  refine Goes.done (by kernel_rfl) ?_ _
  refine NoPanic.normal ?_
  have HK := hid hs
  clear hs
  obtain ⟨c0x60a, c0x60b, c0x60c, c0x60d⟩ := HK.out.cell (g7) (a) (by simp)
  have c0x60l := HK.out.lt (g7) (a) (by simp)
  have c0x60m := Nat.le_of_lt c0x60l
  obtain ⟨c6x60a, c6x60b, c6x60c, c6x60d⟩ := HK.out.cell (g_c) (m) (by simp)
  have c6x60l := HK.out.lt (g_c) (m) (by simp)
  have c6x60m := Nat.le_of_lt c6x60l
  go_wp2_with fail
  clear c0x60a c0x60b c0x60c c0x60d c0x60l c0x60m c6x60a c6x60b c6x60c c6x60d c6x60l c6x60m
  refine (common_at a m 1 HK.out AL.out HM.out HT.out HG.out).mono ?_
  rintro e w61 ⟨rfl, h⟩
  have H61 := hid h
  clear h HK
  go_upto_region 10 with fail
  have H61b := hid (H61.out.new 1)
  clear H61
  generalize w61.alloc (.cells (cls 1) 24) = w61b at *
  generalize w61.heap.size = g13 at *
  obtain ⟨c0x61a, c0x61b, c0x61c, c0x61d⟩ := H61b.out.cell (g7) (a) (by simp)
  have c0x61l := H61b.out.lt (g7) (a) (by simp)
  have c0x61m := Nat.le_of_lt c0x61l
  obtain ⟨c6x61a, c6x61b, c6x61c, c6x61d⟩ := H61b.out.cell (g11) (b) (by simp)
  have c6x61l := H61b.out.lt (g11) (b) (by simp)
  have c6x61m := Nat.le_of_lt c6x61l
  obtain ⟨c12x61a, c12x61b, c12x61c, c12x61d⟩ := H61b.out.cell (g_c) (m) (by simp)
  have c12x61l := H61b.out.lt (g_c) (m) (by simp)
  have c12x61m := Nat.le_of_lt c12x61l
  go_wp2_with fail
  clear c0x61a c0x61b c0x61c c0x61d c0x61l c0x61m c6x61a c6x61b c6x61c c6x61d c6x61l c6x61m c12x61a c12x61b c12x61c c12x61d c12x61l c12x61m
  refine (mmul_at a b m 1 H61b.out HM.out M1.out AM.out VM.out EV.out).mono ?_
  rintro e w62 ⟨rfl, h⟩
  have H62 := hid h
  clear h H61b
  go_upto_region 17 with fail
  have H62b := hid (H62.out.new 1)
  clear H62
  generalize w62.alloc (.cells (cls 1) 24) = w62b at *
  generalize w62.heap.size = g19 at *
  have hs := H62b.out.drew
  refine wp_region_noPanic ?_
  refine Goes.region (fun (L : Array Bool) (w' : World) => w'.cell? ⟨g13, 0, none⟩ = some (.int .u64 (wd (1) 0 : Int)) ∧ w'.cell? ⟨g13, 1, none⟩ = some (.int .u64 (wd (1) 1 : Int)) ∧ w'.cell? ⟨g13, 2, none⟩ = some (.int .u64 (wd (1) 2 : Int)) ∧ w'.cell? ⟨g13, 3, none⟩ = some (.int .u64 (wd (1) 3 : Int)) ∧ w'.cell? ⟨g19, 0, none⟩ = some (.int .u64 (wd (1) 0 : Int)) ∧ w'.cell? ⟨g19, 1, none⟩ = some (.int .u64 (wd (1) 1 : Int)) ∧ w'.cell? ⟨g19, 2, none⟩ = some (.int .u64 (wd (1) 2 : Int)) ∧ w'.cell? ⟨g19, 3, none⟩ = some (.int .u64 (wd (1) 3 : Int))) (by kernel_rfl) ?_
  generalize w62b.drew = wdr at *
  refine Goes.one (i := 0) (o := ⟨some 115, _, _, _, _, _⟩) (by kernel_rfl) rfl (fun K hK => ?_)
  go_simp
  with_reducible refine (alive_at hs).mono ?_
  rintro e wn1 ⟨rfl, hs1⟩
  go_wp2_with fail
  have hT := hid (And.intro ((hs1).cell g13 (1) (by simp)).1 (And.intro ((hs1).cell g13 (1) (by simp)).2.1 (And.intro ((hs1).cell g13 (1) (by simp)).2.2.1 (And.intro ((hs1).cell g13 (1) (by simp)).2.2.2 (((hs1).cell g19 (1) (by simp)))))))
  refine hK.out _ _ (hT.out) ?_
  clear hK K
  try simp only [putz]
  clear hs
  have hs := hs1
  clear hs1
  refine Goes.tk (i := 1) (o := ⟨some 116, _, _, _, _, _⟩) (v := ?_) [] (y := Or.inl ⟨by rfl, ?_⟩) (s := hT.out) (H := ?_)
  rotate_left
  · intro w hY; go_simp; try with_reducible rfl
  try simp only [putz]
  refine Goes.tk (i := 2) (o := ⟨some 117, _, _, _, _, _⟩) (v := ?_) [] (y := Or.inl ⟨by rfl, ?_⟩) (s := hT.out) (H := ?_)
  rotate_left
  · rintro w ⟨up, -, hX⟩; (try dsimp only at hX); obtain ⟨x0, x1, x2, x3, x4, x5, x6, x7⟩ := hX; go_simp; try with_reducible rfl
  try simp only [putz]
  refine Goes.one (i := 3) (o := ⟨some 118, _, _, _, _, _⟩) (by kernel_rfl) rfl (fun K hK => ?_)
  go_simp
  with_reducible refine (ofl_at 1 1 hs (by decide) rfl).mono ?_
  rintro e wn2 ⟨rfl, hs2⟩
  go_wp2_with fail
  clear hT
  have hT := hid (And.intro ((hs2).cell g13 (1) (by simp)).1 (And.intro ((hs2).cell g13 (1) (by simp)).2.1 (And.intro ((hs2).cell g13 (1) (by simp)).2.2.1 (And.intro ((hs2).cell g13 (1) (by simp)).2.2.2 (((hs2).cell g19 (1) (by simp)))))))
  refine hK.out _ _ (hT.out) ?_
  clear hK K
  try simp only [putz]
  clear hs
  have hs := hs2
  clear hs2
  refine Goes.tk (i := 4) (o := ⟨some 119, _, _, _, _, _⟩) (v := ?_) [] (y := Or.inl ⟨by rfl, ?_⟩) (s := hT.out) (H := ?_)
  rotate_left
  · intro w hY; go_simp; try with_reducible rfl
  try simp only [putz]
  refine Goes.tk (i := 5) (o := ⟨some 120, _, _, _, _, _⟩) (v := ?_) [] (y := Or.inl ⟨by rfl, ?_⟩) (s := hT.out) (H := ?_)
  rotate_left
  · intro w hY; go_simp; try with_reducible rfl
  try simp only [putz]
  refine Goes.tk (i := 6) (o := ⟨some 121, _, _, _, _, _⟩) (v := ?_) [] (y := Or.inl ⟨by rfl, ?_⟩) (s := hT.out) (H := ?_)
  rotate_left
  · intro w hY; go_simp; try with_reducible rfl
  try simp only [putz]
  refine Goes.tk (i := 7) (o := ⟨some 122, _, _, _, _, _⟩) (v := ?_) [] (y := Or.inl ⟨by rfl, ?_⟩) (s := hT.out) (H := ?_)
  rotate_left
  · intro w hY; go_simp; try with_reducible rfl
  try simp only [putz]
  refine Goes.tk (i := 8) (o := ⟨some 123, _, _, _, _, _⟩) (v := ?_) [] (y := Or.inl ⟨by rfl, ?_⟩) (s := hT.out) (H := ?_)
  rotate_left
  · intro w hY; go_simp; try with_reducible rfl
  try simp only [putz]
  refine Goes.tk (i := 9) (o := ⟨some 124, _, _, _, _, _⟩) (v := ?_) [] (y := Or.inl ⟨by rfl, ?_⟩) (s := hT.out) (H := ?_)
  rotate_left
  · intro w hY; go_simp; try with_reducible rfl
  try simp only [putz]
  refine Goes.tk (i := 10) (o := ⟨some 125, _, _, _, _, _⟩) (v := ?_) [] (y := Or.inl ⟨by rfl, ?_⟩) (s := hT.out) (H := ?_)
  rotate_left
  · intro w hY; go_simp; try with_reducible rfl
  try simp only [putz]
  refine Goes.tk (i := 11) (o := ⟨some 126, _, _, _, _, _⟩) (v := ?_) [] (y := Or.inl ⟨by rfl, ?_⟩) (s := hT.out) (H := ?_)
  rotate_left
  · rintro w ⟨up, -, hX⟩; (try dsimp only at hX); obtain ⟨x0, x1, x2, x3, x4, x5, x6, x7⟩ := hX; go_simp; try with_reducible rfl
  try simp only [putz]
  refine Goes.one (i := 12) (o := ⟨some 127, _, _, _, _, _⟩) (by kernel_rfl) rfl (fun K hK => ?_)
  go_simp
  with_reducible refine (ofl_at 1 1 hs (by decide) rfl).mono ?_
  rintro e wn3 ⟨rfl, hs3⟩
  go_wp2_with fail
  clear hT
  have hT := hid (And.intro ((hs3).cell g13 (1) (by simp)).1 (And.intro ((hs3).cell g13 (1) (by simp)).2.1 (And.intro ((hs3).cell g13 (1) (by simp)).2.2.1 (And.intro ((hs3).cell g13 (1) (by simp)).2.2.2 (((hs3).cell g19 (1) (by simp)))))))
  refine hK.out _ _ (hT.out) ?_
  clear hK K
  try simp only [putz]
  clear hs
  have hs := hs3
  clear hs3
  refine Goes.tk (i := 13) (o := ⟨some 128, _, _, _, _, _⟩) (v := ?_) [] (y := Or.inl ⟨by rfl, ?_⟩) (s := hT.out) (H := ?_)
  rotate_left
  · intro w hY; go_simp; try with_reducible rfl
  try simp only [putz]
  refine Goes.tk (i := 14) (o := ⟨some 129, _, _, _, _, _⟩) (v := ?_) [] (y := Or.inl ⟨by rfl, ?_⟩) (s := hT.out) (H := ?_)
  rotate_left
  · intro w hY; go_simp; try with_reducible rfl
  try simp only [putz]
  refine Goes.tk (i := 15) (o := ⟨some 6, _, _, _, _, _⟩) (v := ?_) [] (y := Or.inl ⟨by rfl, ?_⟩) (s := hT.out) (H := ?_)
  rotate_left
  · intro w hY; go_simp; try with_reducible rfl
  try simp only [putz]
  clear hT
  refine Goes.done (by kernel_rfl) ?_ _
  refine NoPanic.normal ?_
  go_wp2_with fail
  try go_ret
  first | exact ⟨rfl, hs.1⟩ | exact bodyPost_ret (v := .bool true) (by simp [results, Tryd.results3, go_sem]) rfl ⟨rfl, hs.1⟩
set_option maxRecDepth 100000 in
set_option maxHeartbeats 12000000 in
theorem over_A2 (x y m : Nat) (w : World) (hx : x < 2 ^ 256) (hy : y < 2 ^ 256) (hm : m < 2 ^ 256) (hm1 : 1 < m) (hk : Nat.gcd (x % m) m = 1 ∧ x % m * (y % m) % m ≠ 1) (hT : Tab w) : Calls Tryd.prog 3 #[num x, num y, num m] w fun e w' => e = .returned (.bool true) ∧ Below w.heap.size w w' := by
  have HV := hid (show decide (m ≤ 1) = false from decide_eq_false (by omega))
  obtain ⟨a, ea⟩ : ∃ z, x % m = z := ⟨_, rfl⟩
  obtain ⟨b, eb⟩ : ∃ z, y % m = z := ⟨_, rfl⟩
  have am : a < m := by rw [← ea]; exact Nat.mod_lt _ (by omega)
  have bm : b < m := by rw [← eb]; exact Nat.mod_lt _ (by omega)
  rw [ea] at hk
  rw [eb] at hk
  obtain ⟨p, ep⟩ : ∃ z, a * b % m = z := ⟨_, rfl⟩
  obtain ⟨hg, hne⟩ := hk
  rw [ep] at hne
  obtain ⟨v, hi⟩ := ivs_exists hm1 am hg
  have qp := eq_no p 1 (by rw [← ep]; exact Nat.lt_trans (Nat.mod_lt _ (by omega)) hm) (by decide) hne
  have q1 := eq_yes 1 1 rfl
  clear hne
  have HI := hid hi
  have HG := hid hg
  have EV := hid hi.2
  have VM := hid hi.1
  clear hi hg
  have EA := hid ea
  have EB := hid eb
  have EP := hid ep
  have AM := hid am
  have BM := hid bm
  have HX := hid hx
  have HY := hid hy
  have HM := hid hm
  have M1 := hid hm1
  have M0 := hid (show m ≠ 0 by omega)
  have HT := hid hT
  have AL := hid (Nat.lt_trans am hm)
  clear ea eb ep am bm hx hy hm hm1 hT
  have H0 := hid (((((Env.refl w).new x).new y).new m).perm (l' := [(w.heap.size + 1 + 1, m), (w.heap.size + 1, y), (w.heap.size, x)]) (by simp))
  go_enter Tryd.func3, Tryd.ntmps3
  go_upto_region 1 with fail
  generalize ((w.alloc (.cells (cls x) 24)).alloc (.cells (cls y) 24)).alloc (.cells (cls m) 24) = w0 at *
  generalize w.heap.size + 1 + 1 = g_c at *
  generalize w.heap.size + 1 = g_b at *
  generalize hzg_a : w.heap.size = g_a at *
  obtain ⟨c0x0a, c0x0b, c0x0c, c0x0d⟩ := H0.out.cell (g_c) (m) (by simp)
  have c0x0l := H0.out.lt (g_c) (m) (by simp)
  have c0x0m := Nat.le_of_lt c0x0l
  go_wp2_with fail
  clear c0x0a c0x0b c0x0c c0x0d c0x0l c0x0m
  refine (low_at m false H0.out HM.out HV.out).mono ?_
  rintro e w1 ⟨rfl, h⟩
  have H1 := hid h
  clear h H0
  obtain ⟨c0x1a, c0x1b, c0x1c, c0x1d⟩ := H1.out.cell (g_a) (x) (by simp)
  have c0x1l := H1.out.lt (g_a) (x) (by simp)
  have c0x1m := Nat.le_of_lt c0x1l
  obtain ⟨c6x1a, c6x1b, c6x1c, c6x1d⟩ := H1.out.cell (g_c) (m) (by simp)
  have c6x1l := H1.out.lt (g_c) (m) (by simp)
  have c6x1m := Nat.le_of_lt c6x1l
  go_wp2_with fail
  clear c0x1a c0x1b c0x1c c0x1d c0x1l c0x1m c6x1a c6x1b c6x1c c6x1d c6x1l c6x1m
  refine (rest_at x m a H1.out HX.out HM.out M0.out EA.out).mono ?_
  rintro e w2 ⟨rfl, h⟩
  have H2 := hid h
  clear h H1
  go_upto_region 4 with fail
  have H2b := hid (H2.out.new a)
  clear H2
  generalize w2.alloc (.cells (cls a) 24) = w2b at *
  generalize w2.heap.size = g7 at *
  obtain ⟨c0x2a, c0x2b, c0x2c, c0x2d⟩ := H2b.out.cell (g_b) (y) (by simp)
  have c0x2l := H2b.out.lt (g_b) (y) (by simp)
  have c0x2m := Nat.le_of_lt c0x2l
  obtain ⟨c6x2a, c6x2b, c6x2c, c6x2d⟩ := H2b.out.cell (g_c) (m) (by simp)
  have c6x2l := H2b.out.lt (g_c) (m) (by simp)
  have c6x2m := Nat.le_of_lt c6x2l
  go_wp2_with fail
  clear c0x2a c0x2b c0x2c c0x2d c0x2l c0x2m c6x2a c6x2b c6x2c c6x2d c6x2l c6x2m
  refine (rest_at y m b H2b.out HY.out HM.out M0.out EB.out).mono ?_
  rintro e w3 ⟨rfl, h⟩
  have H3 := hid h
  clear h H2b
  go_upto_region 5 with fail
  have H3b := hid (H3.out.new b)
  clear H3
  generalize w3.alloc (.cells (cls b) 24) = w3b at *
  generalize w3.heap.size = g8 at *
  obtain ⟨c0x3a, c0x3b, c0x3c, c0x3d⟩ := H3b.out.cell (g7) (a) (by simp)
  have c0x3l := H3b.out.lt (g7) (a) (by simp)
  have c0x3m := Nat.le_of_lt c0x3l
  obtain ⟨c6x3a, c6x3b, c6x3c, c6x3d⟩ := H3b.out.cell (g8) (b) (by simp)
  have c6x3l := H3b.out.lt (g8) (b) (by simp)
  have c6x3m := Nat.le_of_lt c6x3l
  obtain ⟨c12x3a, c12x3b, c12x3c, c12x3d⟩ := H3b.out.cell (g_c) (m) (by simp)
  have c12x3l := H3b.out.lt (g_c) (m) (by simp)
  have c12x3m := Nat.le_of_lt c12x3l
  go_wp2_with fail
  clear c0x3a c0x3b c0x3c c0x3d c0x3l c0x3m c6x3a c6x3b c6x3c c6x3d c6x3l c6x3m c12x3a c12x3b c12x3c c12x3d c12x3l c12x3m
  refine (mmul_at a b m p H3b.out HM.out M1.out AM.out BM.out EP.out).mono ?_
  rintro e w4 ⟨rfl, h⟩
  have H4 := hid h
  clear h H3b
  go_upto_region 6 with fail
  have H4b := hid (H4.out.new p)
  clear H4
  generalize w4.alloc (.cells (cls p) 24) = w4b at *
  generalize w4.heap.size = g9 at *
  obtain ⟨c0x4a, c0x4b, c0x4c, c0x4d⟩ := H4b.out.cell (g7) (a) (by simp)
  have c0x4l := H4b.out.lt (g7) (a) (by simp)
  have c0x4m := Nat.le_of_lt c0x4l
  obtain ⟨c6x4a, c6x4b, c6x4c, c6x4d⟩ := H4b.out.cell (g_c) (m) (by simp)
  have c6x4l := H4b.out.lt (g_c) (m) (by simp)
  have c6x4m := Nat.le_of_lt c6x4l
  go_wp2_with fail
  clear c0x4a c0x4b c0x4c c0x4d c0x4l c0x4m c6x4a c6x4b c6x4c c6x4d c6x4l c6x4m
  refine (minv_yes_at a m v H4b.out HM.out M1.out AM.out HI.out).mono ?_
  rintro e w5 ⟨rfl, h⟩
  have H5 := hid h
  clear h H4b
  go_upto_region 7 with fail
  have H5b := hid (H5.out.new v)
  clear H5
  generalize w5.alloc (.cells (cls v) 24) = w5b at *
  generalize w5.heap.size = g11 at *
  have hs := H5b.out.drew
  refine wp_region_noPanic ?_
  refine Goes.region (fun (L : Array Bool) (w' : World) => w'.cell? ⟨g9, 0, none⟩ = some (.int .u64 (wd (p) 0 : Int)) ∧ w'.cell? ⟨g9, 1, none⟩ = some (.int .u64 (wd (p) 1 : Int)) ∧ w'.cell? ⟨g9, 2, none⟩ = some (.int .u64 (wd (p) 2 : Int)) ∧ w'.cell? ⟨g9, 3, none⟩ = some (.int .u64 (wd (p) 3 : Int)) ∧ w'.cell? ⟨g11, 0, none⟩ = some (.int .u64 (wd (v) 0 : Int)) ∧ w'.cell? ⟨g11, 1, none⟩ = some (.int .u64 (wd (v) 1 : Int)) ∧ w'.cell? ⟨g11, 2, none⟩ = some (.int .u64 (wd (v) 2 : Int)) ∧ w'.cell? ⟨g11, 3, none⟩ = some (.int .u64 (wd (v) 3 : Int)) ∧ w'.cell? ⟨g8, 0, none⟩ = some (.int .u64 (wd (b) 0 : Int)) ∧ w'.cell? ⟨g8, 1, none⟩ = some (.int .u64 (wd (b) 1 : Int)) ∧ w'.cell? ⟨g8, 2, none⟩ = some (.int .u64 (wd (b) 2 : Int)) ∧ w'.cell? ⟨g8, 3, none⟩ = some (.int .u64 (wd (b) 3 : Int))) (by kernel_rfl) ?_
  generalize w5b.drew = wdr at *
  have hT := hid (And.intro ((hs).cell g9 (p) (by simp)).1 (And.intro ((hs).cell g9 (p) (by simp)).2.1 (And.intro ((hs).cell g9 (p) (by simp)).2.2.1 (And.intro ((hs).cell g9 (p) (by simp)).2.2.2 (And.intro ((hs).cell g11 (v) (by simp)).1 (And.intro ((hs).cell g11 (v) (by simp)).2.1 (And.intro ((hs).cell g11 (v) (by simp)).2.2.1 (And.intro ((hs).cell g11 (v) (by simp)).2.2.2 (((hs).cell g8 (b) (by simp)))))))))))
  refine Goes.tk (i := 0) (o := ⟨some 43, _, _, _, _, _⟩) (v := ?_) [] (y := Or.inl ⟨by rfl, ?_⟩) (s := hT.out) (H := ?_)
  rotate_left
  · intro w hY; go_simp; try with_reducible rfl
  try simp only [putz]
  refine Goes.tk (i := 1) (o := ⟨some 44, _, _, _, _, _⟩) (v := ?_) [] (y := Or.inl ⟨by rfl, ?_⟩) (s := hT.out) (H := ?_)
  rotate_left
  · intro w hY; go_simp; try with_reducible rfl
  try simp only [putz]
  refine Goes.tk (i := 2) (o := ⟨some 45, _, _, _, _, _⟩) (v := ?_) [] (y := Or.inl ⟨by rfl, ?_⟩) (s := hT.out) (H := ?_)
  rotate_left
  · intro w hY; go_simp; try with_reducible rfl
  try simp only [putz]
  refine Goes.tk (i := 3) (o := ⟨some 46, _, _, _, _, _⟩) (v := ?_) [] (y := Or.inl ⟨by rfl, ?_⟩) (s := hT.out) (H := ?_)
  rotate_left
  · rintro w ⟨up, -, hX⟩; (try dsimp only at hX); obtain ⟨x0, x1, x2, x3, x4, x5, x6, x7, x8, x9, x10, x11⟩ := hX; go_simp; try with_reducible rfl
  try simp only [putz]
  refine Goes.one (i := 4) (o := ⟨some 47, _, _, _, _, _⟩) (by kernel_rfl) rfl (fun K hK => ?_)
  go_simp
  with_reducible refine (ofl_at 1 1 hs (by decide) rfl).mono ?_
  rintro e wn1 ⟨rfl, hs1⟩
  go_wp2_with fail
  clear hT
  have hT := hid (And.intro ((hs1).cell g9 (p) (by simp)).1 (And.intro ((hs1).cell g9 (p) (by simp)).2.1 (And.intro ((hs1).cell g9 (p) (by simp)).2.2.1 (And.intro ((hs1).cell g9 (p) (by simp)).2.2.2 (And.intro ((hs1).cell g11 (v) (by simp)).1 (And.intro ((hs1).cell g11 (v) (by simp)).2.1 (And.intro ((hs1).cell g11 (v) (by simp)).2.2.1 (And.intro ((hs1).cell g11 (v) (by simp)).2.2.2 (((hs1).cell g8 (b) (by simp)))))))))))
  refine hK.out _ _ (hT.out) ?_
  clear hK K
  try simp only [putz]
  clear hs
  have hs := hs1
  clear hs1
  refine Goes.tk (i := 5) (o := ⟨some 48, _, _, _, _, _⟩) (v := ?_) [] (y := Or.inl ⟨by rfl, ?_⟩) (s := hT.out) (H := ?_)
  rotate_left
  · intro w hY; go_simp; try with_reducible rfl
  try simp only [putz]
  refine Goes.tk (i := 6) (o := ⟨some 49, _, _, _, _, _⟩) (v := ?_) [] (y := Or.inl ⟨by rfl, ?_⟩) (s := hT.out) (H := ?_)
  rotate_left
  · intro w hY; go_simp; try with_reducible rfl
  try simp only [putz]
  refine Goes.tk (i := 7) (o := ⟨some 50, _, _, _, _, _⟩) [] (y := Or.inr ⟨by rfl, rfl⟩) (s := hT.out) (H := ?_)
  try simp only [putz]
  refine Goes.tk (i := 8) (o := ⟨some 51, _, _, _, _, _⟩) [] (y := Or.inr ⟨by rfl, rfl⟩) (s := hT.out) (H := ?_)
  try simp only [putz]
  refine Goes.tk (i := 9) (o := ⟨some 52, _, _, _, _, _⟩) [] (y := Or.inr ⟨by rfl, rfl⟩) (s := hT.out) (H := ?_)
  try simp only [putz]
  refine Goes.tk (i := 10) (o := ⟨some 53, _, _, _, _, _⟩) [] (y := Or.inr ⟨by rfl, rfl⟩) (s := hT.out) (H := ?_)
  try simp only [putz]
  refine Goes.tk (i := 11) (o := ⟨some 54, _, _, _, _, _⟩) [] (y := Or.inr ⟨by rfl, rfl⟩) (s := hT.out) (H := ?_)
  try simp only [putz]
  refine Goes.tk (i := 12) (o := ⟨some 55, _, _, _, _, _⟩) [] (y := Or.inr ⟨by rfl, rfl⟩) (s := hT.out) (H := ?_)
  try simp only [putz]
  refine Goes.tk (i := 13) (o := ⟨some 56, _, _, _, _, _⟩) [] (y := Or.inr ⟨by rfl, rfl⟩) (s := hT.out) (H := ?_)
  try simp only [putz]
  refine Goes.tk (i := 14) (o := ⟨some 57, _, _, _, _, _⟩) (v := ?_) [] (y := Or.inl ⟨by rfl, ?_⟩) (s := hT.out) (H := ?_)
  rotate_left
  · intro w hY; go_simp; try with_reducible rfl
  try simp only [putz]
  refine Goes.tk (i := 15) (o := ⟨some 58, _, _, _, _, _⟩) (v := ?_) [] (y := Or.inl ⟨by rfl, ?_⟩) (s := hT.out) (H := ?_)
  rotate_left
  · intro w hY; go_simp; try with_reducible rfl
  try simp only [putz]
  clear hT
  refine Goes.done (by kernel_rfl) ?_ _
  refine NoPanic.normal ?_
  have HK := hid hs
  clear hs
  obtain ⟨c0x60a, c0x60b, c0x60c, c0x60d⟩ := HK.out.cell (g7) (a) (by simp)
  have c0x60l := HK.out.lt (g7) (a) (by simp)
  have c0x60m := Nat.le_of_lt c0x60l
  obtain ⟨c6x60a, c6x60b, c6x60c, c6x60d⟩ := HK.out.cell (g_c) (m) (by simp)
  have c6x60l := HK.out.lt (g_c) (m) (by simp)
  have c6x60m := Nat.le_of_lt c6x60l
  go_wp2_with fail
  clear c0x60a c0x60b c0x60c c0x60d c0x60l c0x60m c6x60a c6x60b c6x60c c6x60d c6x60l c6x60m
  refine (common_at a m 1 HK.out AL.out HM.out HT.out HG.out).mono ?_
  rintro e w61 ⟨rfl, h⟩
  have H61 := hid h
  clear h HK
  go_upto_region 10 with fail
  have H61b := hid (H61.out.new 1)
  clear H61
  generalize w61.alloc (.cells (cls 1) 24) = w61b at *
  generalize w61.heap.size = g13 at *
  obtain ⟨c0x61a, c0x61b, c0x61c, c0x61d⟩ := H61b.out.cell (g7) (a) (by simp)
  have c0x61l := H61b.out.lt (g7) (a) (by simp)
  have c0x61m := Nat.le_of_lt c0x61l
  obtain ⟨c6x61a, c6x61b, c6x61c, c6x61d⟩ := H61b.out.cell (g11) (v) (by simp)
  have c6x61l := H61b.out.lt (g11) (v) (by simp)
  have c6x61m := Nat.le_of_lt c6x61l
  obtain ⟨c12x61a, c12x61b, c12x61c, c12x61d⟩ := H61b.out.cell (g_c) (m) (by simp)
  have c12x61l := H61b.out.lt (g_c) (m) (by simp)
  have c12x61m := Nat.le_of_lt c12x61l
  go_wp2_with fail
  clear c0x61a c0x61b c0x61c c0x61d c0x61l c0x61m c6x61a c6x61b c6x61c c6x61d c6x61l c6x61m c12x61a c12x61b c12x61c c12x61d c12x61l c12x61m
  refine (mmul_at a v m 1 H61b.out HM.out M1.out AM.out VM.out EV.out).mono ?_
  rintro e w62 ⟨rfl, h⟩
  have H62 := hid h
  clear h H61b
  go_upto_region 17 with fail
  have H62b := hid (H62.out.new 1)
  clear H62
  generalize w62.alloc (.cells (cls 1) 24) = w62b at *
  generalize w62.heap.size = g19 at *
  have hs := H62b.out.drew
  refine wp_region_noPanic ?_
  refine Goes.region (fun (L : Array Bool) (w' : World) => w'.cell? ⟨g13, 0, none⟩ = some (.int .u64 (wd (1) 0 : Int)) ∧ w'.cell? ⟨g13, 1, none⟩ = some (.int .u64 (wd (1) 1 : Int)) ∧ w'.cell? ⟨g13, 2, none⟩ = some (.int .u64 (wd (1) 2 : Int)) ∧ w'.cell? ⟨g13, 3, none⟩ = some (.int .u64 (wd (1) 3 : Int)) ∧ w'.cell? ⟨g19, 0, none⟩ = some (.int .u64 (wd (1) 0 : Int)) ∧ w'.cell? ⟨g19, 1, none⟩ = some (.int .u64 (wd (1) 1 : Int)) ∧ w'.cell? ⟨g19, 2, none⟩ = some (.int .u64 (wd (1) 2 : Int)) ∧ w'.cell? ⟨g19, 3, none⟩ = some (.int .u64 (wd (1) 3 : Int))) (by kernel_rfl) ?_
  generalize w62b.drew = wdr at *
  refine Goes.one (i := 0) (o := ⟨some 115, _, _, _, _, _⟩) (by kernel_rfl) rfl (fun K hK => ?_)
  go_simp
  with_reducible refine (alive_at hs).mono ?_
  rintro e wn1 ⟨rfl, hs1⟩
  go_wp2_with fail
  have hT := hid (And.intro ((hs1).cell g13 (1) (by simp)).1 (And.intro ((hs1).cell g13 (1) (by simp)).2.1 (And.intro ((hs1).cell g13 (1) (by simp)).2.2.1 (And.intro ((hs1).cell g13 (1) (by simp)).2.2.2 (((hs1).cell g19 (1) (by simp)))))))
  refine hK.out _ _ (hT.out) ?_
  clear hK K
  try simp only [putz]
  clear hs
  have hs := hs1
  clear hs1
  refine Goes.tk (i := 1) (o := ⟨some 116, _, _, _, _, _⟩) (v := ?_) [] (y := Or.inl ⟨by rfl, ?_⟩) (s := hT.out) (H := ?_)
  rotate_left
  · intro w hY; go_simp; try with_reducible rfl
  try simp only [putz]
  refine Goes.tk (i := 2) (o := ⟨some 117, _, _, _, _, _⟩) (v := ?_) [] (y := Or.inl ⟨by rfl, ?_⟩) (s := hT.out) (H := ?_)
  rotate_left
  · rintro w ⟨up, -, hX⟩; (try dsimp only at hX); obtain ⟨x0, x1, x2, x3, x4, x5, x6, x7⟩ := hX; go_simp; try with_reducible rfl
  try simp only [putz]
  refine Goes.one (i := 3) (o := ⟨some 118, _, _, _, _, _⟩) (by kernel_rfl) rfl (fun K hK => ?_)
  go_simp
  with_reducible refine (ofl_at 1 1 hs (by decide) rfl).mono ?_
  rintro e wn2 ⟨rfl, hs2⟩
  go_wp2_with fail
  clear hT
  have hT := hid (And.intro ((hs2).cell g13 (1) (by simp)).1 (And.intro ((hs2).cell g13 (1) (by simp)).2.1 (And.intro ((hs2).cell g13 (1) (by simp)).2.2.1 (And.intro ((hs2).cell g13 (1) (by simp)).2.2.2 (((hs2).cell g19 (1) (by simp)))))))
  refine hK.out _ _ (hT.out) ?_
  clear hK K
  try simp only [putz]
  clear hs
  have hs := hs2
  clear hs2
  refine Goes.tk (i := 4) (o := ⟨some 119, _, _, _, _, _⟩) (v := ?_) [] (y := Or.inl ⟨by rfl, ?_⟩) (s := hT.out) (H := ?_)
  rotate_left
  · intro w hY; go_simp; try with_reducible rfl
  try simp only [putz]
  refine Goes.tk (i := 5) (o := ⟨some 120, _, _, _, _, _⟩) (v := ?_) [] (y := Or.inl ⟨by rfl, ?_⟩) (s := hT.out) (H := ?_)
  rotate_left
  · intro w hY; go_simp; try with_reducible rfl
  try simp only [putz]
  refine Goes.tk (i := 6) (o := ⟨some 121, _, _, _, _, _⟩) (v := ?_) [] (y := Or.inl ⟨by rfl, ?_⟩) (s := hT.out) (H := ?_)
  rotate_left
  · intro w hY; go_simp; try with_reducible rfl
  try simp only [putz]
  refine Goes.tk (i := 7) (o := ⟨some 122, _, _, _, _, _⟩) (v := ?_) [] (y := Or.inl ⟨by rfl, ?_⟩) (s := hT.out) (H := ?_)
  rotate_left
  · intro w hY; go_simp; try with_reducible rfl
  try simp only [putz]
  refine Goes.tk (i := 8) (o := ⟨some 123, _, _, _, _, _⟩) (v := ?_) [] (y := Or.inl ⟨by rfl, ?_⟩) (s := hT.out) (H := ?_)
  rotate_left
  · intro w hY; go_simp; try with_reducible rfl
  try simp only [putz]
  refine Goes.tk (i := 9) (o := ⟨some 124, _, _, _, _, _⟩) (v := ?_) [] (y := Or.inl ⟨by rfl, ?_⟩) (s := hT.out) (H := ?_)
  rotate_left
  · intro w hY; go_simp; try with_reducible rfl
  try simp only [putz]
  refine Goes.tk (i := 10) (o := ⟨some 125, _, _, _, _, _⟩) (v := ?_) [] (y := Or.inl ⟨by rfl, ?_⟩) (s := hT.out) (H := ?_)
  rotate_left
  · intro w hY; go_simp; try with_reducible rfl
  try simp only [putz]
  refine Goes.tk (i := 11) (o := ⟨some 126, _, _, _, _, _⟩) (v := ?_) [] (y := Or.inl ⟨by rfl, ?_⟩) (s := hT.out) (H := ?_)
  rotate_left
  · rintro w ⟨up, -, hX⟩; (try dsimp only at hX); obtain ⟨x0, x1, x2, x3, x4, x5, x6, x7⟩ := hX; go_simp; try with_reducible rfl
  try simp only [putz]
  refine Goes.one (i := 12) (o := ⟨some 127, _, _, _, _, _⟩) (by kernel_rfl) rfl (fun K hK => ?_)
  go_simp
  with_reducible refine (ofl_at 1 1 hs (by decide) rfl).mono ?_
  rintro e wn3 ⟨rfl, hs3⟩
  go_wp2_with fail
  clear hT
  have hT := hid (And.intro ((hs3).cell g13 (1) (by simp)).1 (And.intro ((hs3).cell g13 (1) (by simp)).2.1 (And.intro ((hs3).cell g13 (1) (by simp)).2.2.1 (And.intro ((hs3).cell g13 (1) (by simp)).2.2.2 (((hs3).cell g19 (1) (by simp)))))))
  refine hK.out _ _ (hT.out) ?_
  clear hK K
  try simp only [putz]
  clear hs
  have hs := hs3
  clear hs3
  refine Goes.tk (i := 13) (o := ⟨some 128, _, _, _, _, _⟩) (v := ?_) [] (y := Or.inl ⟨by rfl, ?_⟩) (s := hT.out) (H := ?_)
  rotate_left
  · intro w hY; go_simp; try with_reducible rfl
  try simp only [putz]
  refine Goes.tk (i := 14) (o := ⟨some 129, _, _, _, _, _⟩) (v := ?_) [] (y := Or.inl ⟨by rfl, ?_⟩) (s := hT.out) (H := ?_)
  rotate_left
  · intro w hY; go_simp; try with_reducible rfl
  try simp only [putz]
  refine Goes.tk (i := 15) (o := ⟨some 6, _, _, _, _, _⟩) (v := ?_) [] (y := Or.inl ⟨by rfl, ?_⟩) (s := hT.out) (H := ?_)
  rotate_left
  · intro w hY; go_simp; try with_reducible rfl
  try simp only [putz]
  clear hT
  refine Goes.done (by kernel_rfl) ?_ _
  refine NoPanic.normal ?_
  go_wp2_with fail
  try go_ret
  first | exact ⟨rfl, hs.1⟩ | exact bodyPost_ret (v := .bool true) (by simp [results, Tryd.results3, go_sem]) rfl ⟨rfl, hs.1⟩
set_option maxRecDepth 100000 in
set_option maxHeartbeats 12000000 in
theorem over_B1 (x y m : Nat) (w : World) (hx : x < 2 ^ 256) (hy : y < 2 ^ 256) (hm : m < 2 ^ 256) (hm1 : 1 < m) (hk : Nat.gcd (x % m) m ≠ 1 ∧ x % m = 0) (hT : Tab w) : Calls Tryd.prog 3 #[num x, num y, num m] w fun e w' => e = .returned (.bool true) ∧ Below w.heap.size w w' := by
  have HV := hid (show decide (m ≤ 1) = false from decide_eq_false (by omega))
  obtain ⟨a, ea⟩ : ∃ z, x % m = z := ⟨_, rfl⟩
  obtain ⟨b, eb⟩ : ∃ z, y % m = z := ⟨_, rfl⟩
  have am : a < m := by rw [← ea]; exact Nat.mod_lt _ (by omega)
  have bm : b < m := by rw [← eb]; exact Nat.mod_lt _ (by omega)
  rw [ea] at hk
  obtain ⟨p, ep⟩ : ∃ z, a * b % m = z := ⟨_, rfl⟩
  obtain ⟨hg, h0⟩ := hk
  have hne : p ≠ 1 := fun e => hg (show Ivs a m b from ⟨bm, by rw [ep, e]⟩).gcd
  have qp := eq_no p 1 (by rw [← ep]; exact Nat.lt_trans (Nat.mod_lt _ (by omega)) hm) (by decide) hne
  clear hne
  obtain ⟨G, eG⟩ : ∃ z, Nat.gcd a m = z := ⟨_, rfl⟩
  rw [eG] at hg
  have GL : G < 2 ^ 256 := by rw [← eG]; exact Nat.lt_of_le_of_lt (Nat.gcd_le_right a (by omega)) hm
  have G0 : G ≠ 0 := by rw [← eG]; exact Nat.ne_of_gt (Nat.gcd_pos_of_pos_right a (by omega))
  have qG := eq_no G 1 GL (by decide) hg
  have q0 := eq_yes 0 0 rfl
  obtain ⟨k, ek⟩ : ∃ z, m / G = z := ⟨_, rfl⟩
  obtain ⟨kr, ekr⟩ : ∃ z, m % G = z := ⟨_, rfl⟩
  have kl : k < 2 ^ 256 := by rw [← ek]; exact Nat.lt_of_le_of_lt (Nat.div_le_self _ _) hm
  have qa := eq_yes a 0 h0
  have e1 : 1 % m = 1 := Nat.mod_eq_of_lt hm1
  have ez : a * 1 % m = 0 := by rw [h0, Nat.zero_mul, Nat.zero_mod]
  have E1 := hid e1
  have RL := hid hm1
  have GG := hid GL
  have GN := hid G0
  have EG := hid eG
  have EK := hid ek
  have EKR := hid ekr
  have KL := hid kl
  have EZ := hid ez
  have HG := hid (show Nat.gcd a m ≠ 1 by rw [eG]; exact hg)
  clear GL G0 eG ek ekr kl ez hg h0 e1
  have EA := hid ea
  have EB := hid eb
  have EP := hid ep
  have AM := hid am
  have BM := hid bm
  have HX := hid hx
  have HY := hid hy
  have HM := hid hm
  have M1 := hid hm1
  have M0 := hid (show m ≠ 0 by omega)
  have HT := hid hT
  have AL := hid (Nat.lt_trans am hm)
  clear ea eb ep am bm hx hy hm hm1 hT
  have H0 := hid (((((Env.refl w).new x).new y).new m).perm (l' := [(w.heap.size + 1 + 1, m), (w.heap.size + 1, y), (w.heap.size, x)]) (by simp))
  go_enter Tryd.func3, Tryd.ntmps3
  go_upto_region 1 with fail
  generalize ((w.alloc (.cells (cls x) 24)).alloc (.cells (cls y) 24)).alloc (.cells (cls m) 24) = w0 at *
  generalize w.heap.size + 1 + 1 = g_c at *
  generalize w.heap.size + 1 = g_b at *
  generalize hzg_a : w.heap.size = g_a at *
  obtain ⟨c0x0a, c0x0b, c0x0c, c0x0d⟩ := H0.out.cell (g_c) (m) (by simp)
  have c0x0l := H0.out.lt (g_c) (m) (by simp)
  have c0x0m := Nat.le_of_lt c0x0l
  go_wp2_with fail
  clear c0x0a c0x0b c0x0c c0x0d c0x0l c0x0m
  refine (low_at m false H0.out HM.out HV.out).mono ?_
  rintro e w1 ⟨rfl, h⟩
  have H1 := hid h
  clear h H0
  obtain ⟨c0x1a, c0x1b, c0x1c, c0x1d⟩ := H1.out.cell (g_a) (x) (by simp)
  have c0x1l := H1.out.lt (g_a) (x) (by simp)
  have c0x1m := Nat.le_of_lt c0x1l
  obtain ⟨c6x1a, c6x1b, c6x1c, c6x1d⟩ := H1.out.cell (g_c) (m) (by simp)
  have c6x1l := H1.out.lt (g_c) (m) (by simp)
  have c6x1m := Nat.le_of_lt c6x1l
  go_wp2_with fail
  clear c0x1a c0x1b c0x1c c0x1d c0x1l c0x1m c6x1a c6x1b c6x1c c6x1d c6x1l c6x1m
  refine (rest_at x m a H1.out HX.out HM.out M0.out EA.out).mono ?_
  rintro e w2 ⟨rfl, h⟩
  have H2 := hid h
  clear h H1
  go_upto_region 4 with fail
  have H2b := hid (H2.out.new a)
  clear H2
  generalize w2.alloc (.cells (cls a) 24) = w2b at *
  generalize w2.heap.size = g7 at *
  obtain ⟨c0x2a, c0x2b, c0x2c, c0x2d⟩ := H2b.out.cell (g_b) (y) (by simp)
  have c0x2l := H2b.out.lt (g_b) (y) (by simp)
  have c0x2m := Nat.le_of_lt c0x2l
  obtain ⟨c6x2a, c6x2b, c6x2c, c6x2d⟩ := H2b.out.cell (g_c) (m) (by simp)
  have c6x2l := H2b.out.lt (g_c) (m) (by simp)
  have c6x2m := Nat.le_of_lt c6x2l
  go_wp2_with fail
  clear c0x2a c0x2b c0x2c c0x2d c0x2l c0x2m c6x2a c6x2b c6x2c c6x2d c6x2l c6x2m
  refine (rest_at y m b H2b.out HY.out HM.out M0.out EB.out).mono ?_
  rintro e w3 ⟨rfl, h⟩
  have H3 := hid h
  clear h H2b
  go_upto_region 5 with fail
  have H3b := hid (H3.out.new b)
  clear H3
  generalize w3.alloc (.cells (cls b) 24) = w3b at *
  generalize w3.heap.size = g8 at *
  obtain ⟨c0x3a, c0x3b, c0x3c, c0x3d⟩ := H3b.out.cell (g7) (a) (by simp)
  have c0x3l := H3b.out.lt (g7) (a) (by simp)
  have c0x3m := Nat.le_of_lt c0x3l
  obtain ⟨c6x3a, c6x3b, c6x3c, c6x3d⟩ := H3b.out.cell (g8) (b) (by simp)
  have c6x3l := H3b.out.lt (g8) (b) (by simp)
  have c6x3m := Nat.le_of_lt c6x3l
  obtain ⟨c12x3a, c12x3b, c12x3c, c12x3d⟩ := H3b.out.cell (g_c) (m) (by simp)
  have c12x3l := H3b.out.lt (g_c) (m) (by simp)
  have c12x3m := Nat.le_of_lt c12x3l
  go_wp2_with fail
  clear c0x3a c0x3b c0x3c c0x3d c0x3l c0x3m c6x3a c6x3b c6x3c c6x3d c6x3l c6x3m c12x3a c12x3b c12x3c c12x3d c12x3l c12x3m
  refine (mmul_at a b m p H3b.out HM.out M1.out AM.out BM.out EP.out).mono ?_
  rintro e w4 ⟨rfl, h⟩
  have H4 := hid h
  clear h H3b
  go_upto_region 6 with fail
  have H4b := hid (H4.out.new p)
  clear H4
  generalize w4.alloc (.cells (cls p) 24) = w4b at *
  generalize w4.heap.size = g9 at *
  obtain ⟨c0x4a, c0x4b, c0x4c, c0x4d⟩ := H4b.out.cell (g7) (a) (by simp)
  have c0x4l := H4b.out.lt (g7) (a) (by simp)
  have c0x4m := Nat.le_of_lt c0x4l
  obtain ⟨c6x4a, c6x4b, c6x4c, c6x4d⟩ := H4b.out.cell (g_c) (m) (by simp)
  have c6x4l := H4b.out.lt (g_c) (m) (by simp)
  have c6x4m := Nat.le_of_lt c6x4l
  go_wp2_with fail
  clear c0x4a c0x4b c0x4c c0x4d c0x4l c0x4m c6x4a c6x4b c6x4c c6x4d c6x4l c6x4m
  refine (minv_no_at a m H4b.out HM.out M1.out AM.out HG.out).mono ?_
  rintro e w5 ⟨rfl, h⟩
  have H5 := hid h
  clear h H4b
  go_upto_region 7 with fail
  have H5b := hid (H5.out.new 0)
  clear H5
  generalize w5.alloc (.cells (cls 0) 24) = w5b at *
  generalize w5.heap.size = g11 at *
  have hs := H5b.out.drew
  refine wp_region_noPanic ?_
  refine Goes.region (fun (L : Array Bool) (w' : World) => w'.cell? ⟨g9, 0, none⟩ = some (.int .u64 (wd (p) 0 : Int)) ∧ w'.cell? ⟨g9, 1, none⟩ = some (.int .u64 (wd (p) 1 : Int)) ∧ w'.cell? ⟨g9, 2, none⟩ = some (.int .u64 (wd (p) 2 : Int)) ∧ w'.cell? ⟨g9, 3, none⟩ = some (.int .u64 (wd (p) 3 : Int)) ∧ w'.cell? ⟨g11, 0, none⟩ = some (.int .u64 (wd (0) 0 : Int)) ∧ w'.cell? ⟨g11, 1, none⟩ = some (.int .u64 (wd (0) 1 : Int)) ∧ w'.cell? ⟨g11, 2, none⟩ = some (.int .u64 (wd (0) 2 : Int)) ∧ w'.cell? ⟨g11, 3, none⟩ = some (.int .u64 (wd (0) 3 : Int)) ∧ w'.cell? ⟨g8, 0, none⟩ = some (.int .u64 (wd (b) 0 : Int)) ∧ w'.cell? ⟨g8, 1, none⟩ = some (.int .u64 (wd (b) 1 : Int)) ∧ w'.cell? ⟨g8, 2, none⟩ = some (.int .u64 (wd (b) 2 : Int)) ∧ w'.cell? ⟨g8, 3, none⟩ = some (.int .u64 (wd (b) 3 : Int))) (by kernel_rfl) ?_
  generalize w5b.drew = wdr at *
  have hT := hid (And.intro ((hs).cell g9 (p) (by simp)).1 (And.intro ((hs).cell g9 (p) (by simp)).2.1 (And.intro ((hs).cell g9 (p) (by simp)).2.2.1 (And.intro ((hs).cell g9 (p) (by simp)).2.2.2 (And.intro ((hs).cell g11 (0) (by simp)).1 (And.intro ((hs).cell g11 (0) (by simp)).2.1 (And.intro ((hs).cell g11 (0) (by simp)).2.2.1 (And.intro ((hs).cell g11 (0) (by simp)).2.2.2 (((hs).cell g8 (b) (by simp)))))))))))
  refine Goes.tk (i := 0) (o := ⟨some 43, _, _, _, _, _⟩) (v := ?_) [] (y := Or.inl ⟨by rfl, ?_⟩) (s := hT.out) (H := ?_)
  rotate_left
  · intro w hY; go_simp; try with_reducible rfl
  try simp only [putz]
  refine Goes.tk (i := 1) (o := ⟨some 44, _, _, _, _, _⟩) (v := ?_) [] (y := Or.inl ⟨by rfl, ?_⟩) (s := hT.out) (H := ?_)
  rotate_left
  · intro w hY; go_simp; try with_reducible rfl
  try simp only [putz]
  refine Goes.tk (i := 2) (o := ⟨some 45, _, _, _, _, _⟩) (v := ?_) [] (y := Or.inl ⟨by rfl, ?_⟩) (s := hT.out) (H := ?_)
  rotate_left
  · intro w hY; go_simp; try with_reducible rfl
  try simp only [putz]
  refine Goes.tk (i := 3) (o := ⟨some 46, _, _, _, _, _⟩) (v := ?_) [] (y := Or.inl ⟨by rfl, ?_⟩) (s := hT.out) (H := ?_)
  rotate_left
  · rintro w ⟨up, -, hX⟩; (try dsimp only at hX); obtain ⟨x0, x1, x2, x3, x4, x5, x6, x7, x8, x9, x10, x11⟩ := hX; go_simp; try with_reducible rfl
  try simp only [putz]
  refine Goes.one (i := 4) (o := ⟨some 47, _, _, _, _, _⟩) (by kernel_rfl) rfl (fun K hK => ?_)
  go_simp
  with_reducible refine (ofl_at 1 1 hs (by decide) rfl).mono ?_
  rintro e wn1 ⟨rfl, hs1⟩
  go_wp2_with fail
  clear hT
  have hT := hid (And.intro ((hs1).cell g9 (p) (by simp)).1 (And.intro ((hs1).cell g9 (p) (by simp)).2.1 (And.intro ((hs1).cell g9 (p) (by simp)).2.2.1 (And.intro ((hs1).cell g9 (p) (by simp)).2.2.2 (And.intro ((hs1).cell g11 (0) (by simp)).1 (And.intro ((hs1).cell g11 (0) (by simp)).2.1 (And.intro ((hs1).cell g11 (0) (by simp)).2.2.1 (And.intro ((hs1).cell g11 (0) (by simp)).2.2.2 (((hs1).cell g8 (b) (by simp)))))))))))
  refine hK.out _ _ (hT.out) ?_
  clear hK K
  try simp only [putz]
  clear hs
  have hs := hs1
  clear hs1
  refine Goes.tk (i := 5) (o := ⟨some 48, _, _, _, _, _⟩) (v := ?_) [] (y := Or.inl ⟨by rfl, ?_⟩) (s := hT.out) (H := ?_)
  rotate_left
  · intro w hY; go_simp; try with_reducible rfl
  try simp only [putz]
  refine Goes.tk (i := 6) (o := ⟨some 49, _, _, _, _, _⟩) (v := ?_) [] (y := Or.inl ⟨by rfl, ?_⟩) (s := hT.out) (H := ?_)
  rotate_left
  · intro w hY; go_simp; try with_reducible rfl
  try simp only [putz]
  refine Goes.tk (i := 7) (o := ⟨some 50, _, _, _, _, _⟩) [] (y := Or.inr ⟨by rfl, rfl⟩) (s := hT.out) (H := ?_)
  try simp only [putz]
  refine Goes.tk (i := 8) (o := ⟨some 51, _, _, _, _, _⟩) [] (y := Or.inr ⟨by rfl, rfl⟩) (s := hT.out) (H := ?_)
  try simp only [putz]
  refine Goes.tk (i := 9) (o := ⟨some 52, _, _, _, _, _⟩) [] (y := Or.inr ⟨by rfl, rfl⟩) (s := hT.out) (H := ?_)
  try simp only [putz]
  refine Goes.tk (i := 10) (o := ⟨some 53, _, _, _, _, _⟩) [] (y := Or.inr ⟨by rfl, rfl⟩) (s := hT.out) (H := ?_)
  try simp only [putz]
  refine Goes.tk (i := 11) (o := ⟨some 54, _, _, _, _, _⟩) [] (y := Or.inr ⟨by rfl, rfl⟩) (s := hT.out) (H := ?_)
  try simp only [putz]
  refine Goes.tk (i := 12) (o := ⟨some 55, _, _, _, _, _⟩) [] (y := Or.inr ⟨by rfl, rfl⟩) (s := hT.out) (H := ?_)
  try simp only [putz]
  refine Goes.tk (i := 13) (o := ⟨some 56, _, _, _, _, _⟩) [] (y := Or.inr ⟨by rfl, rfl⟩) (s := hT.out) (H := ?_)
  try simp only [putz]
  refine Goes.tk (i := 14) (o := ⟨some 57, _, _, _, _, _⟩) (v := ?_) [] (y := Or.inl ⟨by rfl, ?_⟩) (s := hT.out) (H := ?_)
  rotate_left
  · intro w hY; go_simp; try with_reducible rfl
  try simp only [putz]
  refine Goes.tk (i := 15) (o := ⟨some 58, _, _, _, _, _⟩) (v := ?_) [] (y := Or.inl ⟨by rfl, ?_⟩) (s := hT.out) (H := ?_)
  rotate_left
  · intro w hY; go_simp; try with_reducible rfl
  try simp only [putz]
  clear hT
  refine Goes.done (by kernel_rfl) ?_ _
  refine NoPanic.normal ?_
  have HK := hid hs
  clear hs
  obtain ⟨c0x60a, c0x60b, c0x60c, c0x60d⟩ := HK.out.cell (g7) (a) (by simp)
  have c0x60l := HK.out.lt (g7) (a) (by simp)
  have c0x60m := Nat.le_of_lt c0x60l
  obtain ⟨c6x60a, c6x60b, c6x60c, c6x60d⟩ := HK.out.cell (g_c) (m) (by simp)
  have c6x60l := HK.out.lt (g_c) (m) (by simp)
  have c6x60m := Nat.le_of_lt c6x60l
  go_wp2_with fail
  clear c0x60a c0x60b c0x60c c0x60d c0x60l c0x60m c6x60a c6x60b c6x60c c6x60d c6x60l c6x60m
  refine (common_at a m G HK.out AL.out HM.out HT.out EG.out).mono ?_
  rintro e w61 ⟨rfl, h⟩
  have H61 := hid h
  clear h HK
  go_upto_region 10 with fail
  have H61b := hid (H61.out.new G)
  clear H61
  generalize w61.alloc (.cells (cls G) 24) = w61b at *
  generalize w61.heap.size = g13 at *
  obtain ⟨c0x61a, c0x61b, c0x61c, c0x61d⟩ := H61b.out.cell (g_c) (m) (by simp)
  have c0x61l := H61b.out.lt (g_c) (m) (by simp)
  have c0x61m := Nat.le_of_lt c0x61l
  obtain ⟨c6x61a, c6x61b, c6x61c, c6x61d⟩ := H61b.out.cell (g13) (G) (by simp)
  have c6x61l := H61b.out.lt (g13) (G) (by simp)
  have c6x61m := Nat.le_of_lt c6x61l
  go_wp2_with fail
  clear c0x61a c0x61b c0x61c c0x61d c0x61l c0x61m c6x61a c6x61b c6x61c c6x61d c6x61l c6x61m
  refine (div_at m G k kr H61b.out HM.out GG.out GN.out EK.out EKR.out).mono ?_
  rintro e w62 ⟨rfl, h⟩
  have H62 := hid h
  clear h H61b
  go_upto_region 12 with fail
  have F14 := hid H62.out.fresh
  have F15 := hid (H62.out.fresh2 k)
  have H62b := hid (H62.out.new2 k kr)
  clear H62
  generalize (w62.alloc (.cells (cls k) 24)).alloc (.cells (cls kr) 24) = w62b at *
  generalize w62.heap.size + 1 = g14s at *
  generalize w62.heap.size = g14 at *
  have hs := H62b.out.drew
  refine wp_region_noPanic ?_
  refine Goes.region (fun (L : Array Bool) (w' : World) => w'.cell? ⟨g7, 0, none⟩ = some (.int .u64 (wd (a) 0 : Int)) ∧ w'.cell? ⟨g7, 1, none⟩ = some (.int .u64 (wd (a) 1 : Int)) ∧ w'.cell? ⟨g7, 2, none⟩ = some (.int .u64 (wd (a) 2 : Int)) ∧ w'.cell? ⟨g7, 3, none⟩ = some (.int .u64 (wd (a) 3 : Int))) (by kernel_rfl) ?_
  generalize w62b.drew = wdr at *
  have hT := hid (((hs).cell g7 (a) (by simp)))
  refine Goes.tk (i := 0) (o := ⟨some 71, _, _, _, _, _⟩) (v := ?_) [] (y := Or.inl ⟨by rfl, ?_⟩) (s := hT.out) (H := ?_)
  rotate_left
  · rintro w ⟨up, -, hX⟩; (try dsimp only at hX); obtain ⟨x0, x1, x2, x3⟩ := hX; go_simp; try with_reducible rfl
  try simp only [putz]
  refine Goes.one (i := 1) (o := ⟨some 72, _, _, _, _, _⟩) (by kernel_rfl) rfl (fun K hK => ?_)
  go_simp
  with_reducible refine (none_at hs).mono ?_
  rintro e wn1 ⟨rfl, hs1⟩
  go_wp2_with fail
  clear hT
  have hT := hid (((hs1).cell g7 (a) (by simp)))
  refine hK.out _ _ (hT.out) ?_
  clear hK K
  try simp only [putz]
  clear hs
  have hs := hs1
  clear hs1
  refine Goes.tk (i := 2) (o := ⟨some 73, _, _, _, _, _⟩) (v := ?_) [] (y := Or.inl ⟨by rfl, ?_⟩) (s := hT.out) (H := ?_)
  rotate_left
  · intro w hY; go_simp; try with_reducible rfl
  try simp only [putz]
  clear hT
  refine Goes.done (by kernel_rfl) ?_ _
  refine NoPanic.normal ?_
  have HK2 := hid hs
  clear hs
  go_wp2_with fail
  refine (ofl_at 1 1 HK2.out (by decide) rfl).mono ?_
  rintro e w81 ⟨rfl, h⟩
  have H81 := hid h
  clear h HK2
  obtain ⟨c0x81a, c0x81b, c0x81c, c0x81d⟩ := H81.out.cell (g14) (k) (by simp)
  have c0x81l := H81.out.lt (g14) (k) (by simp)
  have c0x81m := Nat.le_of_lt c0x81l
  have f6x81 := H81.out.frozen g14 k (by simp)
  have HS := hid (H81.out.set g14 k 1 [(g13, G), (g11, 0), (g9, p), (g8, b), (g7, a), (g_c, m), (g_b, y), (g_a, x)] (by simp) F14.out.1 (fun p hp => by simp only [List.mem_cons, List.not_mem_nil, or_false] at hp; rcases hp with rfl | rfl | rfl | rfl | rfl | rfl | rfl | rfl <;> first | exact ⟨by simp, F14.out.2 (g13, G) (by simp)⟩ | exact ⟨by simp, F14.out.2 (g11, 0) (by simp)⟩ | exact ⟨by simp, F14.out.2 (g9, p) (by simp)⟩ | exact ⟨by simp, F14.out.2 (g8, b) (by simp)⟩ | exact ⟨by simp, F14.out.2 (g7, a) (by simp)⟩ | exact ⟨by simp, F14.out.2 (g_c, m) (by simp)⟩ | exact ⟨by simp, F14.out.2 (g_b, y) (by simp)⟩ | exact ⟨by simp, F14.out.2 (g_a, x) (by simp)⟩))
  go_upto_region 14 with fail
  clear c0x81a c0x81b c0x81c c0x81d c0x81l c0x81m f6x81
  clear H81
  change Code.wp _ _ _ _ (fil w81 g14 1)
  generalize fil w81 g14 1 = ws at *
  go_cut [17, 18] (fun s17 s18 wx => ∃ g17, s17 = .pointer (some ⟨g17, 0, none⟩) ∧ s18 = .int .i64 0 ∧ Hid (Env w [(g17, 0), (g14, 1), (g13, G), (g11, 0), (g9, p), (g8, b), (g7, a), (g_c, m), (g_b, y), (g_a, x)] wx))
  case first =>
    have hs := HS.out.drew
    refine wp_region_noPanic ?_
    refine Goes.region (fun (L : Array Bool) (w' : World) => w'.cell? ⟨g7, 0, none⟩ = some (.int .u64 (wd (a) 0 : Int)) ∧ w'.cell? ⟨g7, 1, none⟩ = some (.int .u64 (wd (a) 1 : Int)) ∧ w'.cell? ⟨g7, 2, none⟩ = some (.int .u64 (wd (a) 2 : Int)) ∧ w'.cell? ⟨g7, 3, none⟩ = some (.int .u64 (wd (a) 3 : Int)) ∧ w'.cell? ⟨g14, 0, none⟩ = some (.int .u64 (wd (1) 0 : Int)) ∧ w'.cell? ⟨g14, 1, none⟩ = some (.int .u64 (wd (1) 1 : Int)) ∧ w'.cell? ⟨g14, 2, none⟩ = some (.int .u64 (wd (1) 2 : Int)) ∧ w'.cell? ⟨g14, 3, none⟩ = some (.int .u64 (wd (1) 3 : Int)) ∧ w'.cell? ⟨g_c, 0, none⟩ = some (.int .u64 (wd (m) 0 : Int)) ∧ w'.cell? ⟨g_c, 1, none⟩ = some (.int .u64 (wd (m) 1 : Int)) ∧ w'.cell? ⟨g_c, 2, none⟩ = some (.int .u64 (wd (m) 2 : Int)) ∧ w'.cell? ⟨g_c, 3, none⟩ = some (.int .u64 (wd (m) 3 : Int))) (by kernel_rfl) ?_
    generalize ws.drew = wdr at *
    have hT := hid (And.intro ((hs).cell g7 (a) (by simp)).1 (And.intro ((hs).cell g7 (a) (by simp)).2.1 (And.intro ((hs).cell g7 (a) (by simp)).2.2.1 (And.intro ((hs).cell g7 (a) (by simp)).2.2.2 (And.intro ((hs).cell g14 (1) (by simp)).1 (And.intro ((hs).cell g14 (1) (by simp)).2.1 (And.intro ((hs).cell g14 (1) (by simp)).2.2.1 (And.intro ((hs).cell g14 (1) (by simp)).2.2.2 (((hs).cell g_c (m) (by simp)))))))))))
    refine Goes.tk (i := 0) (o := ⟨some 76, _, _, _, _, _⟩) (v := ?_) [] (y := Or.inl ⟨by rfl, ?_⟩) (s := hT.out) (H := ?_)
    rotate_left
    · rintro w ⟨up, -, hX⟩; (try dsimp only at hX); obtain ⟨x0, x1, x2, x3, x4, x5, x6, x7, x8, x9, x10, x11⟩ := hX; go_simp; try with_reducible rfl
    try simp only [putz]
    refine Goes.tk (i := 1) (o := ⟨some 77, _, _, _, _, _⟩) (v := ?_) [] (y := Or.inl ⟨by rfl, ?_⟩) (s := hT.out) (H := ?_)
    rotate_left
    · rintro w ⟨up, -, hX⟩; (try dsimp only at hX); obtain ⟨x0, x1, x2, x3, x4, x5, x6, x7, x8, x9, x10, x11⟩ := hX; go_simp; try with_reducible rfl
    try simp only [putz]
    refine Goes.tk (i := 2) (o := ⟨some 78, _, _, _, _, _⟩) (v := ?_) [] (y := Or.inl ⟨by rfl, ?_⟩) (s := hT.out) (H := ?_)
    rotate_left
    · rintro w ⟨up, -, hX⟩; (try dsimp only at hX); obtain ⟨x0, x1, x2, x3, x4, x5, x6, x7, x8, x9, x10, x11⟩ := hX; go_simp; try with_reducible rfl
    try simp only [putz]
    refine Goes.tk (i := 4) (o := ⟨some 80, _, _, _, _, _⟩) (v := ?_) [] (y := Or.inl ⟨by rfl, ?_⟩) (s := hT.out) (H := ?_)
    rotate_left
    · rintro w ⟨up, -, hX⟩; (try dsimp only at hX); obtain ⟨x0, x1, x2, x3, x4, x5, x6, x7, x8, x9, x10, x11⟩ := hX; go_simp; try with_reducible rfl
    try simp only [putz]
    refine Goes.two (i := 3) (j := 9) (o := ⟨some 79, _, _, _, _, _⟩) (p := ⟨some 17, _, _, _, _, _⟩) (by kernel_rfl) rfl rfl (fun K hK => ?_) (fun K hK => ?_)
    · skip
      go_simp
      with_reducible refine (rest_at 1 m 1 hs (by decide) HM.out M0.out E1.out).mono ?_
      rintro e wn1 ⟨rfl, hs1⟩
      go_wp2_with fail
      clear hT
      have hT := hid (And.intro ((hs1).cell g7 (a) (by simp)).1 (And.intro ((hs1).cell g7 (a) (by simp)).2.1 (And.intro ((hs1).cell g7 (a) (by simp)).2.2.1 (And.intro ((hs1).cell g7 (a) (by simp)).2.2.2 (And.intro ((hs1).cell g14 (1) (by simp)).1 (And.intro ((hs1).cell g14 (1) (by simp)).2.1 (And.intro ((hs1).cell g14 (1) (by simp)).2.2.1 (And.intro ((hs1).cell g14 (1) (by simp)).2.2.2 (((hs1).cell g_c (m) (by simp)))))))))))
      refine hK.out _ _ (hT.out) ?_
      clear hK K
      try simp only [putz]
      clear hs
      have hs := hs1
      clear hs1
      refine Goes.two (i := 5) (j := 9) (o := ⟨some 81, _, _, _, _, _⟩) (p := ⟨some 17, _, _, _, _, _⟩) (by kernel_rfl) rfl rfl (fun K hK => ?_) (fun K hK => ?_)
      · skip
        go_simp
        with_reducible refine (mmul_at a 1 m 0 hs HM.out M1.out AM.out RL.out EZ.out).mono ?_
        rintro e wn2 ⟨rfl, hs2⟩
        go_wp2_with fail
        clear hT
        have hT := hid (And.intro ((hs2).cell g7 (a) (by simp)).1 (And.intro ((hs2).cell g7 (a) (by simp)).2.1 (And.intro ((hs2).cell g7 (a) (by simp)).2.2.1 (And.intro ((hs2).cell g7 (a) (by simp)).2.2.2 (And.intro ((hs2).cell g14 (1) (by simp)).1 (And.intro ((hs2).cell g14 (1) (by simp)).2.1 (And.intro ((hs2).cell g14 (1) (by simp)).2.2.1 (And.intro ((hs2).cell g14 (1) (by simp)).2.2.2 (((hs2).cell g_c (m) (by simp)))))))))))
        refine hK.out _ _ (hT.out) ?_
        clear hK K
        try simp only [putz]
        clear hs
        have hs := hs2
        clear hs2
        refine Goes.tk (i := 6) (o := ⟨some 75, _, _, _, _, _⟩) (v := ?_) [] (y := Or.inl ⟨by rfl, ?_⟩) (s := hT.out) (H := ?_)
        rotate_left
        · intro w hY; go_simp; try with_reducible rfl
        try simp only [putz]
        refine Goes.tk (i := 7) (o := ⟨some 82, _, _, _, _, _⟩) (v := ?_) [] (y := Or.inl ⟨by rfl, ?_⟩) (s := hT.out) (H := ?_)
        rotate_left
        · intro w hY; go_simp; try with_reducible rfl
        try simp only [putz]
        refine Goes.tk (i := 8) (o := ⟨some 83, _, _, _, _, _⟩) (v := ?_) [] (y := Or.inl ⟨by rfl, ?_⟩) (s := hT.out) (H := ?_)
        rotate_left
        · intro w hY; go_simp; try with_reducible rfl
        try simp only [putz]
        refine Goes.one (i := 9) (o := ⟨some 17, _, _, _, _, _⟩) (by kernel_rfl) rfl (fun K hK => ?_)
        go_simp
        clear hT
        have hT := hid (And.intro ((hs.zero).cell g7 (a) (by simp)).1 (And.intro ((hs.zero).cell g7 (a) (by simp)).2.1 (And.intro ((hs.zero).cell g7 (a) (by simp)).2.2.1 (And.intro ((hs.zero).cell g7 (a) (by simp)).2.2.2 (And.intro ((hs.zero).cell g14 (1) (by simp)).1 (And.intro ((hs.zero).cell g14 (1) (by simp)).2.1 (And.intro ((hs.zero).cell g14 (1) (by simp)).2.2.1 (And.intro ((hs.zero).cell g14 (1) (by simp)).2.2.2 (((hs.zero).cell g_c (m) (by simp)))))))))))
        refine hK.out _ _ (hT.out) ?_
        clear hK K
        try simp only [putz]
        have Fg17 := hid hs.fresh
        have hs3 := hs.zero
        clear hs
        generalize wn2.alloc (.cells #[.int .u64 0, .int .u64 0, .int .u64 0, .int .u64 0] 24) = wn3 at *
        generalize wn2.heap.size = g17 at *
        have hs := hs3
        clear hs3
        refine Goes.one (i := 10) (o := ⟨none, _, _, _, _, _⟩) (by kernel_rfl) rfl (fun K hK => ?_)
        obtain ⟨z0, z1, z2, z3⟩ := hs.cell g17 (0) (by simp)
        have zl := hs.lt g17 (0) (by simp)
        have zf := hs.frozen g17 (0) (by simp)
        have hs4 := hs.set g17 (0) (0) [(g14, 1), (g13, G), (g11, 0), (g9, p), (g8, b), (g7, a), (g_c, m), (g_b, y), (g_a, x)] (by simp) Fg17.out.1 (fun p hp => by simp only [List.mem_cons, List.not_mem_nil, or_false] at hp; rcases hp with rfl | rfl | rfl | rfl | rfl | rfl | rfl | rfl | rfl <;> first | exact ⟨by simp, Fg17.out.2 (g14, 1) (by simp)⟩ | exact ⟨by simp, Fg17.out.2 (g13, G) (by simp)⟩ | exact ⟨by simp, Fg17.out.2 (g11, 0) (by simp)⟩ | exact ⟨by simp, Fg17.out.2 (g9, p) (by simp)⟩ | exact ⟨by simp, Fg17.out.2 (g8, b) (by simp)⟩ | exact ⟨by simp, Fg17.out.2 (g7, a) (by simp)⟩ | exact ⟨by simp, Fg17.out.2 (g_c, m) (by simp)⟩ | exact ⟨by simp, Fg17.out.2 (g_b, y) (by simp)⟩ | exact ⟨by simp, Fg17.out.2 (g_a, x) (by simp)⟩)
        go_simp
        clear hT
        have hT := hid (And.intro ((hs4).cell g7 (a) (by simp)).1 (And.intro ((hs4).cell g7 (a) (by simp)).2.1 (And.intro ((hs4).cell g7 (a) (by simp)).2.2.1 (And.intro ((hs4).cell g7 (a) (by simp)).2.2.2 (And.intro ((hs4).cell g14 (1) (by simp)).1 (And.intro ((hs4).cell g14 (1) (by simp)).2.1 (And.intro ((hs4).cell g14 (1) (by simp)).2.2.1 (And.intro ((hs4).cell g14 (1) (by simp)).2.2.2 (((hs4).cell g_c (m) (by simp)))))))))))
        refine hK.out _ _ (hT.out) ?_
        clear hK K
        try simp only [putz]
        clear hs z0 z1 z2 z3 zl zf
        change Goes _ _ _ _ _ _ _ _ (fil wn3 g17 (0))
        generalize fil wn3 g17 (0) = wn4 at *
        have hs := hs4
        clear hs4
        refine Goes.tk (i := 11) (o := ⟨some 18, _, _, _, _, _⟩) (v := ?_) [] (y := Or.inl ⟨by rfl, ?_⟩) (s := hT.out) (H := ?_)
        rotate_left
        · intro w hY; go_simp; try with_reducible rfl
        try simp only [putz]
        clear hT
        refine Goes.done (by kernel_rfl) ?_ _
        refine NoPanic.normal ?_
        go_wp2_with fail
        go_meet
        exact ⟨_, rfl, rfl, hid (hs.perm (by simp))⟩
      · skip
        go_simp
        clear hT
        have hT := hid (And.intro ((hs.zero).cell g7 (a) (by simp)).1 (And.intro ((hs.zero).cell g7 (a) (by simp)).2.1 (And.intro ((hs.zero).cell g7 (a) (by simp)).2.2.1 (And.intro ((hs.zero).cell g7 (a) (by simp)).2.2.2 (And.intro ((hs.zero).cell g14 (1) (by simp)).1 (And.intro ((hs.zero).cell g14 (1) (by simp)).2.1 (And.intro ((hs.zero).cell g14 (1) (by simp)).2.2.1 (And.intro ((hs.zero).cell g14 (1) (by simp)).2.2.2 (((hs.zero).cell g_c (m) (by simp)))))))))))
        refine hK.out _ _ (hT.out) ?_
        clear hK K
        try simp only [putz]
        have Fg17 := hid hs.fresh
        have hs5 := hs.zero
        clear hs
        generalize wn1.alloc (.cells #[.int .u64 0, .int .u64 0, .int .u64 0, .int .u64 0] 24) = wn5 at *
        generalize wn1.heap.size = g17 at *
        have hs := hs5
        clear hs5
        refine Goes.one (i := 5) (o := ⟨some 81, _, _, _, _, _⟩) (by kernel_rfl) rfl (fun K hK => ?_)
        go_simp
        with_reducible refine (mmul_at a 1 m 0 hs HM.out M1.out AM.out RL.out EZ.out).mono ?_
        rintro e wn6 ⟨rfl, hs6⟩
        go_wp2_with fail
        clear hT
        have hT := hid (And.intro ((hs6).cell g7 (a) (by simp)).1 (And.intro ((hs6).cell g7 (a) (by simp)).2.1 (And.intro ((hs6).cell g7 (a) (by simp)).2.2.1 (And.intro ((hs6).cell g7 (a) (by simp)).2.2.2 (And.intro ((hs6).cell g14 (1) (by simp)).1 (And.intro ((hs6).cell g14 (1) (by simp)).2.1 (And.intro ((hs6).cell g14 (1) (by simp)).2.2.1 (And.intro ((hs6).cell g14 (1) (by simp)).2.2.2 (((hs6).cell g_c (m) (by simp)))))))))))
        refine hK.out _ _ (hT.out) ?_
        clear hK K
        try simp only [putz]
        clear hs
        have hs := hs6
        clear hs6
        refine Goes.tk (i := 6) (o := ⟨some 75, _, _, _, _, _⟩) (v := ?_) [] (y := Or.inl ⟨by rfl, ?_⟩) (s := hT.out) (H := ?_)
        rotate_left
        · intro w hY; go_simp; try with_reducible rfl
        try simp only [putz]
        refine Goes.tk (i := 7) (o := ⟨some 82, _, _, _, _, _⟩) (v := ?_) [] (y := Or.inl ⟨by rfl, ?_⟩) (s := hT.out) (H := ?_)
        rotate_left
        · intro w hY; go_simp; try with_reducible rfl
        try simp only [putz]
        refine Goes.tk (i := 8) (o := ⟨some 83, _, _, _, _, _⟩) (v := ?_) [] (y := Or.inl ⟨by rfl, ?_⟩) (s := hT.out) (H := ?_)
        rotate_left
        · intro w hY; go_simp; try with_reducible rfl
        try simp only [putz]
        refine Goes.one (i := 10) (o := ⟨none, _, _, _, _, _⟩) (by kernel_rfl) rfl (fun K hK => ?_)
        obtain ⟨z0, z1, z2, z3⟩ := hs.cell g17 (0) (by simp)
        have zl := hs.lt g17 (0) (by simp)
        have zf := hs.frozen g17 (0) (by simp)
        have hs7 := hs.set g17 (0) (0) [(g14, 1), (g13, G), (g11, 0), (g9, p), (g8, b), (g7, a), (g_c, m), (g_b, y), (g_a, x)] (by simp) Fg17.out.1 (fun p hp => by simp only [List.mem_cons, List.not_mem_nil, or_false] at hp; rcases hp with rfl | rfl | rfl | rfl | rfl | rfl | rfl | rfl | rfl <;> first | exact ⟨by simp, Fg17.out.2 (g14, 1) (by simp)⟩ | exact ⟨by simp, Fg17.out.2 (g13, G) (by simp)⟩ | exact ⟨by simp, Fg17.out.2 (g11, 0) (by simp)⟩ | exact ⟨by simp, Fg17.out.2 (g9, p) (by simp)⟩ | exact ⟨by simp, Fg17.out.2 (g8, b) (by simp)⟩ | exact ⟨by simp, Fg17.out.2 (g7, a) (by simp)⟩ | exact ⟨by simp, Fg17.out.2 (g_c, m) (by simp)⟩ | exact ⟨by simp, Fg17.out.2 (g_b, y) (by simp)⟩ | exact ⟨by simp, Fg17.out.2 (g_a, x) (by simp)⟩)
        go_simp
        clear hT
        have hT := hid (And.intro ((hs7).cell g7 (a) (by simp)).1 (And.intro ((hs7).cell g7 (a) (by simp)).2.1 (And.intro ((hs7).cell g7 (a) (by simp)).2.2.1 (And.intro ((hs7).cell g7 (a) (by simp)).2.2.2 (And.intro ((hs7).cell g14 (1) (by simp)).1 (And.intro ((hs7).cell g14 (1) (by simp)).2.1 (And.intro ((hs7).cell g14 (1) (by simp)).2.2.1 (And.intro ((hs7).cell g14 (1) (by simp)).2.2.2 (((hs7).cell g_c (m) (by simp)))))))))))
        refine hK.out _ _ (hT.out) ?_
        clear hK K
        try simp only [putz]
        clear hs z0 z1 z2 z3 zl zf
        change Goes _ _ _ _ _ _ _ _ (fil wn6 g17 (0))
        generalize fil wn6 g17 (0) = wn7 at *
        have hs := hs7
        clear hs7
        refine Goes.tk (i := 11) (o := ⟨some 18, _, _, _, _, _⟩) (v := ?_) [] (y := Or.inl ⟨by rfl, ?_⟩) (s := hT.out) (H := ?_)
        rotate_left
        · intro w hY; go_simp; try with_reducible rfl
        try simp only [putz]
        clear hT
        refine Goes.done (by kernel_rfl) ?_ _
        refine NoPanic.normal ?_
        go_wp2_with fail
        go_meet
        exact ⟨_, rfl, rfl, hid (hs.perm (by simp))⟩
    · skip
      go_simp
      clear hT
      have hT := hid (And.intro ((hs.zero).cell g7 (a) (by simp)).1 (And.intro ((hs.zero).cell g7 (a) (by simp)).2.1 (And.intro ((hs.zero).cell g7 (a) (by simp)).2.2.1 (And.intro ((hs.zero).cell g7 (a) (by simp)).2.2.2 (And.intro ((hs.zero).cell g14 (1) (by simp)).1 (And.intro ((hs.zero).cell g14 (1) (by simp)).2.1 (And.intro ((hs.zero).cell g14 (1) (by simp)).2.2.1 (And.intro ((hs.zero).cell g14 (1) (by simp)).2.2.2 (((hs.zero).cell g_c (m) (by simp)))))))))))
      refine hK.out _ _ (hT.out) ?_
      clear hK K
      try simp only [putz]
      have Fg17 := hid hs.fresh
      have hs8 := hs.zero
      clear hs
      generalize wdr.alloc (.cells #[.int .u64 0, .int .u64 0, .int .u64 0, .int .u64 0] 24) = wn8 at *
      generalize wdr.heap.size = g17 at *
      have hs := hs8
      clear hs8
      refine Goes.one (i := 3) (o := ⟨some 79, _, _, _, _, _⟩) (by kernel_rfl) rfl (fun K hK => ?_)
      go_simp
      with_reducible refine (rest_at 1 m 1 hs (by decide) HM.out M0.out E1.out).mono ?_
      rintro e wn9 ⟨rfl, hs9⟩
      go_wp2_with fail
      clear hT
      have hT := hid (And.intro ((hs9).cell g7 (a) (by simp)).1 (And.intro ((hs9).cell g7 (a) (by simp)).2.1 (And.intro ((hs9).cell g7 (a) (by simp)).2.2.1 (And.intro ((hs9).cell g7 (a) (by simp)).2.2.2 (And.intro ((hs9).cell g14 (1) (by simp)).1 (And.intro ((hs9).cell g14 (1) (by simp)).2.1 (And.intro ((hs9).cell g14 (1) (by simp)).2.2.1 (And.intro ((hs9).cell g14 (1) (by simp)).2.2.2 (((hs9).cell g_c (m) (by simp)))))))))))
      refine hK.out _ _ (hT.out) ?_
      clear hK K
      try simp only [putz]
      clear hs
      have hs := hs9
      clear hs9
      refine Goes.one (i := 5) (o := ⟨some 81, _, _, _, _, _⟩) (by kernel_rfl) rfl (fun K hK => ?_)
      go_simp
      with_reducible refine (mmul_at a 1 m 0 hs HM.out M1.out AM.out RL.out EZ.out).mono ?_
      rintro e wn10 ⟨rfl, hs10⟩
      go_wp2_with fail
      clear hT
      have hT := hid (And.intro ((hs10).cell g7 (a) (by simp)).1 (And.intro ((hs10).cell g7 (a) (by simp)).2.1 (And.intro ((hs10).cell g7 (a) (by simp)).2.2.1 (And.intro ((hs10).cell g7 (a) (by simp)).2.2.2 (And.intro ((hs10).cell g14 (1) (by simp)).1 (And.intro ((hs10).cell g14 (1) (by simp)).2.1 (And.intro ((hs10).cell g14 (1) (by simp)).2.2.1 (And.intro ((hs10).cell g14 (1) (by simp)).2.2.2 (((hs10).cell g_c (m) (by simp)))))))))))
      refine hK.out _ _ (hT.out) ?_
      clear hK K
      try simp only [putz]
      clear hs
      have hs := hs10
      clear hs10
      refine Goes.tk (i := 6) (o := ⟨some 75, _, _, _, _, _⟩) (v := ?_) [] (y := Or.inl ⟨by rfl, ?_⟩) (s := hT.out) (H := ?_)
      rotate_left
      · intro w hY; go_simp; try with_reducible rfl
      try simp only [putz]
      refine Goes.tk (i := 7) (o := ⟨some 82, _, _, _, _, _⟩) (v := ?_) [] (y := Or.inl ⟨by rfl, ?_⟩) (s := hT.out) (H := ?_)
      rotate_left
      · intro w hY; go_simp; try with_reducible rfl
      try simp only [putz]
      refine Goes.tk (i := 8) (o := ⟨some 83, _, _, _, _, _⟩) (v := ?_) [] (y := Or.inl ⟨by rfl, ?_⟩) (s := hT.out) (H := ?_)
      rotate_left
      · intro w hY; go_simp; try with_reducible rfl
      try simp only [putz]
      refine Goes.one (i := 10) (o := ⟨none, _, _, _, _, _⟩) (by kernel_rfl) rfl (fun K hK => ?_)
      obtain ⟨z0, z1, z2, z3⟩ := hs.cell g17 (0) (by simp)
      have zl := hs.lt g17 (0) (by simp)
      have zf := hs.frozen g17 (0) (by simp)
      have hs11 := hs.set g17 (0) (0) [(g14, 1), (g13, G), (g11, 0), (g9, p), (g8, b), (g7, a), (g_c, m), (g_b, y), (g_a, x)] (by simp) Fg17.out.1 (fun p hp => by simp only [List.mem_cons, List.not_mem_nil, or_false] at hp; rcases hp with rfl | rfl | rfl | rfl | rfl | rfl | rfl | rfl | rfl <;> first | exact ⟨by simp, Fg17.out.2 (g14, 1) (by simp)⟩ | exact ⟨by simp, Fg17.out.2 (g13, G) (by simp)⟩ | exact ⟨by simp, Fg17.out.2 (g11, 0) (by simp)⟩ | exact ⟨by simp, Fg17.out.2 (g9, p) (by simp)⟩ | exact ⟨by simp, Fg17.out.2 (g8, b) (by simp)⟩ | exact ⟨by simp, Fg17.out.2 (g7, a) (by simp)⟩ | exact ⟨by simp, Fg17.out.2 (g_c, m) (by simp)⟩ | exact ⟨by simp, Fg17.out.2 (g_b, y) (by simp)⟩ | exact ⟨by simp, Fg17.out.2 (g_a, x) (by simp)⟩)
      go_simp
      clear hT
      have hT := hid (And.intro ((hs11).cell g7 (a) (by simp)).1 (And.intro ((hs11).cell g7 (a) (by simp)).2.1 (And.intro ((hs11).cell g7 (a) (by simp)).2.2.1 (And.intro ((hs11).cell g7 (a) (by simp)).2.2.2 (And.intro ((hs11).cell g14 (1) (by simp)).1 (And.intro ((hs11).cell g14 (1) (by simp)).2.1 (And.intro ((hs11).cell g14 (1) (by simp)).2.2.1 (And.intro ((hs11).cell g14 (1) (by simp)).2.2.2 (((hs11).cell g_c (m) (by simp)))))))))))
      refine hK.out _ _ (hT.out) ?_
      clear hK K
      try simp only [putz]
      clear hs z0 z1 z2 z3 zl zf
      change Goes _ _ _ _ _ _ _ _ (fil wn10 g17 (0))
      generalize fil wn10 g17 (0) = wn11 at *
      have hs := hs11
      clear hs11
      refine Goes.tk (i := 11) (o := ⟨some 18, _, _, _, _, _⟩) (v := ?_) [] (y := Or.inl ⟨by rfl, ?_⟩) (s := hT.out) (H := ?_)
      rotate_left
      · intro w hY; go_simp; try with_reducible rfl
      try simp only [putz]
      clear hT
      refine Goes.done (by kernel_rfl) ?_ _
      refine NoPanic.normal ?_
      go_wp2_with fail
      go_meet
      exact ⟨_, rfl, rfl, hid (hs.perm (by simp))⟩
  case rest =>
    obtain ⟨g17, rfl, rfl, HC⟩ := hcut
    clear HS
    go_upto_region 15 with fail
    have hs := HC.out.drew
    refine wp_region_noPanic ?_
    refine Goes.region (fun (L : Array Bool) (w' : World) => w'.cell? ⟨g11, 0, none⟩ = some (.int .u64 (wd (0) 0 : Int)) ∧ w'.cell? ⟨g11, 1, none⟩ = some (.int .u64 (wd (0) 1 : Int)) ∧ w'.cell? ⟨g11, 2, none⟩ = some (.int .u64 (wd (0) 2 : Int)) ∧ w'.cell? ⟨g11, 3, none⟩ = some (.int .u64 (wd (0) 3 : Int)) ∧ w'.cell? ⟨g13, 0, none⟩ = some (.int .u64 (wd (G) 0 : Int)) ∧ w'.cell? ⟨g13, 1, none⟩ = some (.int .u64 (wd (G) 1 : Int)) ∧ w'.cell? ⟨g13, 2, none⟩ = some (.int .u64 (wd (G) 2 : Int)) ∧ w'.cell? ⟨g13, 3, none⟩ = some (.int .u64 (wd (G) 3 : Int)) ∧ w'.cell? ⟨g17, 0, none⟩ = some (.int .u64 (wd (0) 0 : Int)) ∧ w'.cell? ⟨g17, 1, none⟩ = some (.int .u64 (wd (0) 1 : Int)) ∧ w'.cell? ⟨g17, 2, none⟩ = some (.int .u64 (wd (0) 2 : Int)) ∧ w'.cell? ⟨g17, 3, none⟩ = some (.int .u64 (wd (0) 3 : Int))) (by kernel_rfl) ?_
    generalize wc.drew = wdr at *
    refine Goes.one (i := 0) (o := ⟨some 84, _, _, _, _, _⟩) (by kernel_rfl) rfl (fun K hK => ?_)
    go_simp
    with_reducible refine (alive_at hs).mono ?_
    rintro e wn1 ⟨rfl, hs1⟩
    go_wp2_with fail
    have hT := hid (And.intro ((hs1).cell g11 (0) (by simp)).1 (And.intro ((hs1).cell g11 (0) (by simp)).2.1 (And.intro ((hs1).cell g11 (0) (by simp)).2.2.1 (And.intro ((hs1).cell g11 (0) (by simp)).2.2.2 (And.intro ((hs1).cell g13 (G) (by simp)).1 (And.intro ((hs1).cell g13 (G) (by simp)).2.1 (And.intro ((hs1).cell g13 (G) (by simp)).2.2.1 (And.intro ((hs1).cell g13 (G) (by simp)).2.2.2 (((hs1).cell g17 (0) (by simp)))))))))))
    refine hK.out _ _ (hT.out) ?_
    clear hK K
    try simp only [putz]
    clear hs
    have hs := hs1
    clear hs1
    refine Goes.tk (i := 1) (o := ⟨some 85, _, _, _, _, _⟩) (v := ?_) [] (y := Or.inl ⟨by rfl, ?_⟩) (s := hT.out) (H := ?_)
    rotate_left
    · intro w hY; go_simp; try with_reducible rfl
    try simp only [putz]
    refine Goes.tk (i := 2) (o := ⟨some 86, _, _, _, _, _⟩) (v := ?_) [] (y := Or.inl ⟨by rfl, ?_⟩) (s := hT.out) (H := ?_)
    rotate_left
    · intro w hY; go_simp; try with_reducible rfl
    try simp only [putz]
    refine Goes.tk (i := 3) (o := ⟨some 87, _, _, _, _, _⟩) (v := ?_) [] (y := Or.inl ⟨by rfl, ?_⟩) (s := hT.out) (H := ?_)
    rotate_left
    · intro w hY; go_simp; try with_reducible rfl
    try simp only [putz]
    refine Goes.tk (i := 4) (o := ⟨some 88, _, _, _, _, _⟩) (v := ?_) [] (y := Or.inl ⟨by rfl, ?_⟩) (s := hT.out) (H := ?_)
    rotate_left
    · intro w hY; go_simp; try with_reducible rfl
    try simp only [putz]
    refine Goes.tk (i := 5) (o := ⟨some 89, _, _, _, _, _⟩) (v := ?_) [] (y := Or.inl ⟨by rfl, ?_⟩) (s := hT.out) (H := ?_)
    rotate_left
    · intro w hY; go_simp; try with_reducible rfl
    try simp only [putz]
    refine Goes.tk (i := 6) (o := ⟨some 90, _, _, _, _, _⟩) (v := ?_) [] (y := Or.inl ⟨by rfl, ?_⟩) (s := hT.out) (H := ?_)
    rotate_left
    · rintro w ⟨up, -, hX⟩; (try dsimp only at hX); obtain ⟨x0, x1, x2, x3, x4, x5, x6, x7, x8, x9, x10, x11⟩ := hX; go_simp; try with_reducible rfl
    try simp only [putz]
    refine Goes.one (i := 7) (o := ⟨some 91, _, _, _, _, _⟩) (by kernel_rfl) rfl (fun K hK => ?_)
    go_simp
    with_reducible refine (none_at hs).mono ?_
    rintro e wn2 ⟨rfl, hs2⟩
    go_wp2_with fail
    clear hT
    have hT := hid (And.intro ((hs2).cell g11 (0) (by simp)).1 (And.intro ((hs2).cell g11 (0) (by simp)).2.1 (And.intro ((hs2).cell g11 (0) (by simp)).2.2.1 (And.intro ((hs2).cell g11 (0) (by simp)).2.2.2 (And.intro ((hs2).cell g13 (G) (by simp)).1 (And.intro ((hs2).cell g13 (G) (by simp)).2.1 (And.intro ((hs2).cell g13 (G) (by simp)).2.2.1 (And.intro ((hs2).cell g13 (G) (by simp)).2.2.2 (((hs2).cell g17 (0) (by simp)))))))))))
    refine hK.out _ _ (hT.out) ?_
    clear hK K
    try simp only [putz]
    clear hs
    have hs := hs2
    clear hs2
    refine Goes.tk (i := 8) (o := ⟨some 92, _, _, _, _, _⟩) (v := ?_) [] (y := Or.inl ⟨by rfl, ?_⟩) (s := hT.out) (H := ?_)
    rotate_left
    · intro w hY; go_simp; try with_reducible rfl
    try simp only [putz]
    refine Goes.tk (i := 9) (o := ⟨some 93, _, _, _, _, _⟩) (v := ?_) [] (y := Or.inl ⟨by rfl, ?_⟩) (s := hT.out) (H := ?_)
    rotate_left
    · intro w hY; go_simp; try with_reducible rfl
    try simp only [putz]
    refine Goes.tk (i := 10) (o := ⟨some 94, _, _, _, _, _⟩) (v := ?_) [] (y := Or.inl ⟨by rfl, ?_⟩) (s := hT.out) (H := ?_)
    rotate_left
    · intro w hY; go_simp; try with_reducible rfl
    try simp only [putz]
    refine Goes.tk (i := 11) (o := ⟨some 95, _, _, _, _, _⟩) (v := ?_) [] (y := Or.inl ⟨by rfl, ?_⟩) (s := hT.out) (H := ?_)
    rotate_left
    · rintro w ⟨up, -, hX⟩; (try dsimp only at hX); obtain ⟨x0, x1, x2, x3, x4, x5, x6, x7, x8, x9, x10, x11⟩ := hX; go_simp; try with_reducible rfl
    try simp only [putz]
    refine Goes.one (i := 12) (o := ⟨some 96, _, _, _, _, _⟩) (by kernel_rfl) rfl (fun K hK => ?_)
    go_simp
    with_reducible refine (ofl_at 1 1 hs (by decide) rfl).mono ?_
    rintro e wn3 ⟨rfl, hs3⟩
    go_wp2_with fail
    clear hT
    have hT := hid (And.intro ((hs3).cell g11 (0) (by simp)).1 (And.intro ((hs3).cell g11 (0) (by simp)).2.1 (And.intro ((hs3).cell g11 (0) (by simp)).2.2.1 (And.intro ((hs3).cell g11 (0) (by simp)).2.2.2 (And.intro ((hs3).cell g13 (G) (by simp)).1 (And.intro ((hs3).cell g13 (G) (by simp)).2.1 (And.intro ((hs3).cell g13 (G) (by simp)).2.2.1 (And.intro ((hs3).cell g13 (G) (by simp)).2.2.2 (((hs3).cell g17 (0) (by simp)))))))))))
    refine hK.out _ _ (hT.out) ?_
    clear hK K
    try simp only [putz]
    clear hs
    have hs := hs3
    clear hs3
    refine Goes.tk (i := 13) (o := ⟨some 97, _, _, _, _, _⟩) (v := ?_) [] (y := Or.inl ⟨by rfl, ?_⟩) (s := hT.out) (H := ?_)
    rotate_left
    · intro w hY; go_simp; try with_reducible rfl
    try simp only [putz]
    refine Goes.tk (i := 14) (o := ⟨some 98, _, _, _, _, _⟩) (v := ?_) [] (y := Or.inl ⟨by rfl, ?_⟩) (s := hT.out) (H := ?_)
    rotate_left
    · intro w hY; go_simp; try with_reducible rfl
    try simp only [putz]
    refine Goes.tk (i := 15) (o := ⟨some 99, _, _, _, _, _⟩) (v := ?_) [] (y := Or.inl ⟨by rfl, ?_⟩) (s := hT.out) (H := ?_)
    rotate_left
    · intro w hY; go_simp; try with_reducible rfl
    try simp only [putz]
    refine Goes.tk (i := 16) (o := ⟨some 100, _, _, _, _, _⟩) (v := ?_) [] (y := Or.inl ⟨by rfl, ?_⟩) (s := hT.out) (H := ?_)
    rotate_left
    · intro w hY; go_simp; try with_reducible rfl
    try simp only [putz]
    refine Goes.tk (i := 17) (o := ⟨some 101, _, _, _, _, _⟩) (v := ?_) [] (y := Or.inl ⟨by rfl, ?_⟩) (s := hT.out) (H := ?_)
    rotate_left
    · intro w hY; go_simp; try with_reducible rfl
    try simp only [putz]
    refine Goes.tk (i := 18) (o := ⟨some 102, _, _, _, _, _⟩) (v := ?_) [] (y := Or.inl ⟨by rfl, ?_⟩) (s := hT.out) (H := ?_)
    rotate_left
    · intro w hY; go_simp; try with_reducible rfl
    try simp only [putz]
    refine Goes.tk (i := 19) (o := ⟨some 103, _, _, _, _, _⟩) (v := ?_) [] (y := Or.inl ⟨by rfl, ?_⟩) (s := hT.out) (H := ?_)
    rotate_left
    · intro w hY; go_simp; try with_reducible rfl
    try simp only [putz]
    refine Goes.tk (i := 20) (o := ⟨some 104, _, _, _, _, _⟩) (v := ?_) [] (y := Or.inl ⟨by rfl, ?_⟩) (s := hT.out) (H := ?_)
    rotate_left
    · rintro w ⟨up, -, hX⟩; (try dsimp only at hX); obtain ⟨x0, x1, x2, x3, x4, x5, x6, x7, x8, x9, x10, x11⟩ := hX; go_simp; try with_reducible rfl
    try simp only [putz]
    refine Goes.one (i := 21) (o := ⟨some 105, _, _, _, _, _⟩) (by kernel_rfl) rfl (fun K hK => ?_)
    go_simp
    with_reducible refine (none_at hs).mono ?_
    rintro e wn4 ⟨rfl, hs4⟩
    go_wp2_with fail
    clear hT
    have hT := hid (And.intro ((hs4).cell g11 (0) (by simp)).1 (And.intro ((hs4).cell g11 (0) (by simp)).2.1 (And.intro ((hs4).cell g11 (0) (by simp)).2.2.1 (And.intro ((hs4).cell g11 (0) (by simp)).2.2.2 (And.intro ((hs4).cell g13 (G) (by simp)).1 (And.intro ((hs4).cell g13 (G) (by simp)).2.1 (And.intro ((hs4).cell g13 (G) (by simp)).2.2.1 (And.intro ((hs4).cell g13 (G) (by simp)).2.2.2 (((hs4).cell g17 (0) (by simp)))))))))))
    refine hK.out _ _ (hT.out) ?_
    clear hK K
    try simp only [putz]
    clear hs
    have hs := hs4
    clear hs4
    refine Goes.tk (i := 22) (o := ⟨some 106, _, _, _, _, _⟩) (v := ?_) [] (y := Or.inl ⟨by rfl, ?_⟩) (s := hT.out) (H := ?_)
    rotate_left
    · intro w hY; go_simp; try with_reducible rfl
    try simp only [putz]
    refine Goes.tk (i := 23) (o := ⟨some 107, _, _, _, _, _⟩) (v := ?_) [] (y := Or.inl ⟨by rfl, ?_⟩) (s := hT.out) (H := ?_)
    rotate_left
    · intro w hY; go_simp; try with_reducible rfl
    try simp only [putz]
    refine Goes.tk (i := 24) (o := ⟨some 6, _, _, _, _, _⟩) (v := ?_) [] (y := Or.inl ⟨by rfl, ?_⟩) (s := hT.out) (H := ?_)
    rotate_left
    · intro w hY; go_simp; try with_reducible rfl
    try simp only [putz]
    clear hT
    refine Goes.done (by kernel_rfl) ?_ _
    refine NoPanic.normal ?_
    go_wp2_with fail
    try go_ret
    first | exact ⟨rfl, hs.1⟩ | exact bodyPost_ret (v := .bool true) (by simp [results, Tryd.results3, go_sem]) rfl ⟨rfl, hs.1⟩
set_option maxRecDepth 100000 in
set_option maxHeartbeats 12000000 in
theorem over_B2 (x y m : Nat) (w : World) (hx : x < 2 ^ 256) (hy : y < 2 ^ 256) (hm : m < 2 ^ 256) (hm1 : 1 < m) (hk : Nat.gcd (x % m) m ≠ 1 ∧ x % m ≠ 0) (hT : Tab w) : Calls Tryd.prog 3 #[num x, num y, num m] w fun e w' => e = .returned (.bool true) ∧ Below w.heap.size w w' := by
  have HV := hid (show decide (m ≤ 1) = false from decide_eq_false (by omega))
  obtain ⟨a, ea⟩ : ∃ z, x % m = z := ⟨_, rfl⟩
  obtain ⟨b, eb⟩ : ∃ z, y % m = z := ⟨_, rfl⟩
  have am : a < m := by rw [← ea]; exact Nat.mod_lt _ (by omega)
  have bm : b < m := by rw [← eb]; exact Nat.mod_lt _ (by omega)
  rw [ea] at hk
  obtain ⟨p, ep⟩ : ∃ z, a * b % m = z := ⟨_, rfl⟩
  obtain ⟨hg, h0⟩ := hk
  have hne : p ≠ 1 := fun e => hg (show Ivs a m b from ⟨bm, by rw [ep, e]⟩).gcd
  have qp := eq_no p 1 (by rw [← ep]; exact Nat.lt_trans (Nat.mod_lt _ (by omega)) hm) (by decide) hne
  clear hne
  obtain ⟨G, eG⟩ : ∃ z, Nat.gcd a m = z := ⟨_, rfl⟩
  rw [eG] at hg
  have GL : G < 2 ^ 256 := by rw [← eG]; exact Nat.lt_of_le_of_lt (Nat.gcd_le_right a (by omega)) hm
  have G0 : G ≠ 0 := by rw [← eG]; exact Nat.ne_of_gt (Nat.gcd_pos_of_pos_right a (by omega))
  have qG := eq_no G 1 GL (by decide) hg
  have q0 := eq_yes 0 0 rfl
  obtain ⟨k, ek⟩ : ∃ z, m / G = z := ⟨_, rfl⟩
  obtain ⟨kr, ekr⟩ : ∃ z, m % G = z := ⟨_, rfl⟩
  have kl : k < 2 ^ 256 := by rw [← ek]; exact Nat.lt_of_le_of_lt (Nat.div_le_self _ _) hm
  have qa := eq_no a 0 (Nat.lt_trans am hm) (by decide) h0
  have ez0 := law_partner am h0
  rw [eG, ek] at ez0
  obtain ⟨kk, ekk⟩ : ∃ z, k % m = z := ⟨_, rfl⟩
  rw [ekk] at ez0
  have ez : a * kk % m = 0 := ez0
  have E1 := hid ekk
  have RL := hid (show kk < m by rw [← ekk]; exact Nat.mod_lt _ (by omega))
  clear ekk ez0
  have GG := hid GL
  have GN := hid G0
  have EG := hid eG
  have EK := hid ek
  have EKR := hid ekr
  have KL := hid kl
  have EZ := hid ez
  have HG := hid (show Nat.gcd a m ≠ 1 by rw [eG]; exact hg)
  clear GL G0 eG ek ekr kl ez hg h0
  have EA := hid ea
  have EB := hid eb
  have EP := hid ep
  have AM := hid am
  have BM := hid bm
  have HX := hid hx
  have HY := hid hy
  have HM := hid hm
  have M1 := hid hm1
  have M0 := hid (show m ≠ 0 by omega)
  have HT := hid hT
  have AL := hid (Nat.lt_trans am hm)
  clear ea eb ep am bm hx hy hm hm1 hT
  have H0 := hid (((((Env.refl w).new x).new y).new m).perm (l' := [(w.heap.size + 1 + 1, m), (w.heap.size + 1, y), (w.heap.size, x)]) (by simp))
  go_enter Tryd.func3, Tryd.ntmps3
  go_upto_region 1 with fail
  generalize ((w.alloc (.cells (cls x) 24)).alloc (.cells (cls y) 24)).alloc (.cells (cls m) 24) = w0 at *
  generalize w.heap.size + 1 + 1 = g_c at *
  generalize w.heap.size + 1 = g_b at *
  generalize hzg_a : w.heap.size = g_a at *
  obtain ⟨c0x0a, c0x0b, c0x0c, c0x0d⟩ := H0.out.cell (g_c) (m) (by simp)
  have c0x0l := H0.out.lt (g_c) (m) (by simp)
  have c0x0m := Nat.le_of_lt c0x0l
  go_wp2_with fail
  clear c0x0a c0x0b c0x0c c0x0d c0x0l c0x0m
  refine (low_at m false H0.out HM.out HV.out).mono ?_
  rintro e w1 ⟨rfl, h⟩
  have H1 := hid h
  clear h H0
  obtain ⟨c0x1a, c0x1b, c0x1c, c0x1d⟩ := H1.out.cell (g_a) (x) (by simp)
  have c0x1l := H1.out.lt (g_a) (x) (by simp)
  have c0x1m := Nat.le_of_lt c0x1l
  obtain ⟨c6x1a, c6x1b, c6x1c, c6x1d⟩ := H1.out.cell (g_c) (m) (by simp)
  have c6x1l := H1.out.lt (g_c) (m) (by simp)
  have c6x1m := Nat.le_of_lt c6x1l
  go_wp2_with fail
  clear c0x1a c0x1b c0x1c c0x1d c0x1l c0x1m c6x1a c6x1b c6x1c c6x1d c6x1l c6x1m
  refine (rest_at x m a H1.out HX.out HM.out M0.out EA.out).mono ?_
  rintro e w2 ⟨rfl, h⟩
  have H2 := hid h
  clear h H1
  go_upto_region 4 with fail
  have H2b := hid (H2.out.new a)
  clear H2
  generalize w2.alloc (.cells (cls a) 24) = w2b at *
  generalize w2.heap.size = g7 at *
  obtain ⟨c0x2a, c0x2b, c0x2c, c0x2d⟩ := H2b.out.cell (g_b) (y) (by simp)
  have c0x2l := H2b.out.lt (g_b) (y) (by simp)
  have c0x2m := Nat.le_of_lt c0x2l
  obtain ⟨c6x2a, c6x2b, c6x2c, c6x2d⟩ := H2b.out.cell (g_c) (m) (by simp)
  have c6x2l := H2b.out.lt (g_c) (m) (by simp)
  have c6x2m := Nat.le_of_lt c6x2l
  go_wp2_with fail
  clear c0x2a c0x2b c0x2c c0x2d c0x2l c0x2m c6x2a c6x2b c6x2c c6x2d c6x2l c6x2m
  refine (rest_at y m b H2b.out HY.out HM.out M0.out EB.out).mono ?_
  rintro e w3 ⟨rfl, h⟩
  have H3 := hid h
  clear h H2b
  go_upto_region 5 with fail
  have H3b := hid (H3.out.new b)
  clear H3
  generalize w3.alloc (.cells (cls b) 24) = w3b at *
  generalize w3.heap.size = g8 at *
  obtain ⟨c0x3a, c0x3b, c0x3c, c0x3d⟩ := H3b.out.cell (g7) (a) (by simp)
  have c0x3l := H3b.out.lt (g7) (a) (by simp)
  have c0x3m := Nat.le_of_lt c0x3l
  obtain ⟨c6x3a, c6x3b, c6x3c, c6x3d⟩ := H3b.out.cell (g8) (b) (by simp)
  have c6x3l := H3b.out.lt (g8) (b) (by simp)
  have c6x3m := Nat.le_of_lt c6x3l
  obtain ⟨c12x3a, c12x3b, c12x3c, c12x3d⟩ := H3b.out.cell (g_c) (m) (by simp)
  have c12x3l := H3b.out.lt (g_c) (m) (by simp)
  have c12x3m := Nat.le_of_lt c12x3l
  go_wp2_with fail
  clear c0x3a c0x3b c0x3c c0x3d c0x3l c0x3m c6x3a c6x3b c6x3c c6x3d c6x3l c6x3m c12x3a c12x3b c12x3c c12x3d c12x3l c12x3m
  refine (mmul_at a b m p H3b.out HM.out M1.out AM.out BM.out EP.out).mono ?_
  rintro e w4 ⟨rfl, h⟩
  have H4 := hid h
  clear h H3b
  go_upto_region 6 with fail
  have H4b := hid (H4.out.new p)
  clear H4
  generalize w4.alloc (.cells (cls p) 24) = w4b at *
  generalize w4.heap.size = g9 at *
  obtain ⟨c0x4a, c0x4b, c0x4c, c0x4d⟩ := H4b.out.cell (g7) (a) (by simp)
  have c0x4l := H4b.out.lt (g7) (a) (by simp)
  have c0x4m := Nat.le_of_lt c0x4l
  obtain ⟨c6x4a, c6x4b, c6x4c, c6x4d⟩ := H4b.out.cell (g_c) (m) (by simp)
  have c6x4l := H4b.out.lt (g_c) (m) (by simp)
  have c6x4m := Nat.le_of_lt c6x4l
  go_wp2_with fail
  clear c0x4a c0x4b c0x4c c0x4d c0x4l c0x4m c6x4a c6x4b c6x4c c6x4d c6x4l c6x4m
  refine (minv_no_at a m H4b.out HM.out M1.out AM.out HG.out).mono ?_
  rintro e w5 ⟨rfl, h⟩
  have H5 := hid h
  clear h H4b
  go_upto_region 7 with fail
  have H5b := hid (H5.out.new 0)
  clear H5
  generalize w5.alloc (.cells (cls 0) 24) = w5b at *
  generalize w5.heap.size = g11 at *
  have hs := H5b.out.drew
  refine wp_region_noPanic ?_
  refine Goes.region (fun (L : Array Bool) (w' : World) => w'.cell? ⟨g9, 0, none⟩ = some (.int .u64 (wd (p) 0 : Int)) ∧ w'.cell? ⟨g9, 1, none⟩ = some (.int .u64 (wd (p) 1 : Int)) ∧ w'.cell? ⟨g9, 2, none⟩ = some (.int .u64 (wd (p) 2 : Int)) ∧ w'.cell? ⟨g9, 3, none⟩ = some (.int .u64 (wd (p) 3 : Int)) ∧ w'.cell? ⟨g11, 0, none⟩ = some (.int .u64 (wd (0) 0 : Int)) ∧ w'.cell? ⟨g11, 1, none⟩ = some (.int .u64 (wd (0) 1 : Int)) ∧ w'.cell? ⟨g11, 2, none⟩ = some (.int .u64 (wd (0) 2 : Int)) ∧ w'.cell? ⟨g11, 3, none⟩ = some (.int .u64 (wd (0) 3 : Int)) ∧ w'.cell? ⟨g8, 0, none⟩ = some (.int .u64 (wd (b) 0 : Int)) ∧ w'.cell? ⟨g8, 1, none⟩ = some (.int .u64 (wd (b) 1 : Int)) ∧ w'.cell? ⟨g8, 2, none⟩ = some (.int .u64 (wd (b) 2 : Int)) ∧ w'.cell? ⟨g8, 3, none⟩ = some (.int .u64 (wd (b) 3 : Int))) (by kernel_rfl) ?_
  generalize w5b.drew = wdr at *
  have hT := hid (And.intro ((hs).cell g9 (p) (by simp)).1 (And.intro ((hs).cell g9 (p) (by simp)).2.1 (And.intro ((hs).cell g9 (p) (by simp)).2.2.1 (And.intro ((hs).cell g9 (p) (by simp)).2.2.2 (And.intro ((hs).cell g11 (0) (by simp)).1 (And.intro ((hs).cell g11 (0) (by simp)).2.1 (And.intro ((hs).cell g11 (0) (by simp)).2.2.1 (And.intro ((hs).cell g11 (0) (by simp)).2.2.2 (((hs).cell g8 (b) (by simp)))))))))))
  refine Goes.tk (i := 0) (o := ⟨some 43, _, _, _, _, _⟩) (v := ?_) [] (y := Or.inl ⟨by rfl, ?_⟩) (s := hT.out) (H := ?_)
  rotate_left
  · intro w hY; go_simp; try with_reducible rfl
  try simp only [putz]
  refine Goes.tk (i := 1) (o := ⟨some 44, _, _, _, _, _⟩) (v := ?_) [] (y := Or.inl ⟨by rfl, ?_⟩) (s := hT.out) (H := ?_)
  rotate_left
  · intro w hY; go_simp; try with_reducible rfl
  try simp only [putz]
  refine Goes.tk (i := 2) (o := ⟨some 45, _, _, _, _, _⟩) (v := ?_) [] (y := Or.inl ⟨by rfl, ?_⟩) (s := hT.out) (H := ?_)
  rotate_left
  · intro w hY; go_simp; try with_reducible rfl
  try simp only [putz]
  refine Goes.tk (i := 3) (o := ⟨some 46, _, _, _, _, _⟩) (v := ?_) [] (y := Or.inl ⟨by rfl, ?_⟩) (s := hT.out) (H := ?_)
  rotate_left
  · rintro w ⟨up, -, hX⟩; (try dsimp only at hX); obtain ⟨x0, x1, x2, x3, x4, x5, x6, x7, x8, x9, x10, x11⟩ := hX; go_simp; try with_reducible rfl
  try simp only [putz]
  refine Goes.one (i := 4) (o := ⟨some 47, _, _, _, _, _⟩) (by kernel_rfl) rfl (fun K hK => ?_)
  go_simp
  with_reducible refine (ofl_at 1 1 hs (by decide) rfl).mono ?_
  rintro e wn1 ⟨rfl, hs1⟩
  go_wp2_with fail
  clear hT
  have hT := hid (And.intro ((hs1).cell g9 (p) (by simp)).1 (And.intro ((hs1).cell g9 (p) (by simp)).2.1 (And.intro ((hs1).cell g9 (p) (by simp)).2.2.1 (And.intro ((hs1).cell g9 (p) (by simp)).2.2.2 (And.intro ((hs1).cell g11 (0) (by simp)).1 (And.intro ((hs1).cell g11 (0) (by simp)).2.1 (And.intro ((hs1).cell g11 (0) (by simp)).2.2.1 (And.intro ((hs1).cell g11 (0) (by simp)).2.2.2 (((hs1).cell g8 (b) (by simp)))))))))))
  refine hK.out _ _ (hT.out) ?_
  clear hK K
  try simp only [putz]
  clear hs
  have hs := hs1
  clear hs1
  refine Goes.tk (i := 5) (o := ⟨some 48, _, _, _, _, _⟩) (v := ?_) [] (y := Or.inl ⟨by rfl, ?_⟩) (s := hT.out) (H := ?_)
  rotate_left
  · intro w hY; go_simp; try with_reducible rfl
  try simp only [putz]
  refine Goes.tk (i := 6) (o := ⟨some 49, _, _, _, _, _⟩) (v := ?_) [] (y := Or.inl ⟨by rfl, ?_⟩) (s := hT.out) (H := ?_)
  rotate_left
  · intro w hY; go_simp; try with_reducible rfl
  try simp only [putz]
  refine Goes.tk (i := 7) (o := ⟨some 50, _, _, _, _, _⟩) [] (y := Or.inr ⟨by rfl, rfl⟩) (s := hT.out) (H := ?_)
  try simp only [putz]
  refine Goes.tk (i := 8) (o := ⟨some 51, _, _, _, _, _⟩) [] (y := Or.inr ⟨by rfl, rfl⟩) (s := hT.out) (H := ?_)
  try simp only [putz]
  refine Goes.tk (i := 9) (o := ⟨some 52, _, _, _, _, _⟩) [] (y := Or.inr ⟨by rfl, rfl⟩) (s := hT.out) (H := ?_)
  try simp only [putz]
  refine Goes.tk (i := 10) (o := ⟨some 53, _, _, _, _, _⟩) [] (y := Or.inr ⟨by rfl, rfl⟩) (s := hT.out) (H := ?_)
  try simp only [putz]
  refine Goes.tk (i := 11) (o := ⟨some 54, _, _, _, _, _⟩) [] (y := Or.inr ⟨by rfl, rfl⟩) (s := hT.out) (H := ?_)
  try simp only [putz]
  refine Goes.tk (i := 12) (o := ⟨some 55, _, _, _, _, _⟩) [] (y := Or.inr ⟨by rfl, rfl⟩) (s := hT.out) (H := ?_)
  try simp only [putz]
  refine Goes.tk (i := 13) (o := ⟨some 56, _, _, _, _, _⟩) [] (y := Or.inr ⟨by rfl, rfl⟩) (s := hT.out) (H := ?_)
  try simp only [putz]
  refine Goes.tk (i := 14) (o := ⟨some 57, _, _, _, _, _⟩) (v := ?_) [] (y := Or.inl ⟨by rfl, ?_⟩) (s := hT.out) (H := ?_)
  rotate_left
  · intro w hY; go_simp; try with_reducible rfl
  try simp only [putz]
  refine Goes.tk (i := 15) (o := ⟨some 58, _, _, _, _, _⟩) (v := ?_) [] (y := Or.inl ⟨by rfl, ?_⟩) (s := hT.out) (H := ?_)
  rotate_left
  · intro w hY; go_simp; try with_reducible rfl
  try simp only [putz]
  clear hT
  refine Goes.done (by kernel_rfl) ?_ _
  refine NoPanic.normal ?_
  have HK := hid hs
  clear hs
  obtain ⟨c0x60a, c0x60b, c0x60c, c0x60d⟩ := HK.out.cell (g7) (a) (by simp)
  have c0x60l := HK.out.lt (g7) (a) (by simp)
  have c0x60m := Nat.le_of_lt c0x60l
  obtain ⟨c6x60a, c6x60b, c6x60c, c6x60d⟩ := HK.out.cell (g_c) (m) (by simp)
  have c6x60l := HK.out.lt (g_c) (m) (by simp)
  have c6x60m := Nat.le_of_lt c6x60l
  go_wp2_with fail
  clear c0x60a c0x60b c0x60c c0x60d c0x60l c0x60m c6x60a c6x60b c6x60c c6x60d c6x60l c6x60m
  refine (common_at a m G HK.out AL.out HM.out HT.out EG.out).mono ?_
  rintro e w61 ⟨rfl, h⟩
  have H61 := hid h
  clear h HK
  go_upto_region 10 with fail
  have H61b := hid (H61.out.new G)
  clear H61
  generalize w61.alloc (.cells (cls G) 24) = w61b at *
  generalize w61.heap.size = g13 at *
  obtain ⟨c0x61a, c0x61b, c0x61c, c0x61d⟩ := H61b.out.cell (g_c) (m) (by simp)
  have c0x61l := H61b.out.lt (g_c) (m) (by simp)
  have c0x61m := Nat.le_of_lt c0x61l
  obtain ⟨c6x61a, c6x61b, c6x61c, c6x61d⟩ := H61b.out.cell (g13) (G) (by simp)
  have c6x61l := H61b.out.lt (g13) (G) (by simp)
  have c6x61m := Nat.le_of_lt c6x61l
  go_wp2_with fail
  clear c0x61a c0x61b c0x61c c0x61d c0x61l c0x61m c6x61a c6x61b c6x61c c6x61d c6x61l c6x61m
  refine (div_at m G k kr H61b.out HM.out GG.out GN.out EK.out EKR.out).mono ?_
  rintro e w62 ⟨rfl, h⟩
  have H62 := hid h
  clear h H61b
  go_upto_region 12 with fail
  have F14 := hid H62.out.fresh
  have F15 := hid (H62.out.fresh2 k)
  have H62b := hid (H62.out.new2 k kr)
  clear H62
  generalize (w62.alloc (.cells (cls k) 24)).alloc (.cells (cls kr) 24) = w62b at *
  generalize w62.heap.size + 1 = g14s at *
  generalize w62.heap.size = g14 at *
  have hs := H62b.out.drew
  refine wp_region_noPanic ?_
  refine Goes.region (fun (L : Array Bool) (w' : World) => w'.cell? ⟨g7, 0, none⟩ = some (.int .u64 (wd (a) 0 : Int)) ∧ w'.cell? ⟨g7, 1, none⟩ = some (.int .u64 (wd (a) 1 : Int)) ∧ w'.cell? ⟨g7, 2, none⟩ = some (.int .u64 (wd (a) 2 : Int)) ∧ w'.cell? ⟨g7, 3, none⟩ = some (.int .u64 (wd (a) 3 : Int))) (by kernel_rfl) ?_
  generalize w62b.drew = wdr at *
  have hT := hid (((hs).cell g7 (a) (by simp)))
  refine Goes.tk (i := 0) (o := ⟨some 71, _, _, _, _, _⟩) (v := ?_) [] (y := Or.inl ⟨by rfl, ?_⟩) (s := hT.out) (H := ?_)
  rotate_left
  · rintro w ⟨up, -, hX⟩; (try dsimp only at hX); obtain ⟨x0, x1, x2, x3⟩ := hX; go_simp; try with_reducible rfl
  try simp only [putz]
  refine Goes.one (i := 1) (o := ⟨some 72, _, _, _, _, _⟩) (by kernel_rfl) rfl (fun K hK => ?_)
  go_simp
  with_reducible refine (none_at hs).mono ?_
  rintro e wn1 ⟨rfl, hs1⟩
  go_wp2_with fail
  clear hT
  have hT := hid (((hs1).cell g7 (a) (by simp)))
  refine hK.out _ _ (hT.out) ?_
  clear hK K
  try simp only [putz]
  clear hs
  have hs := hs1
  clear hs1
  refine Goes.tk (i := 2) (o := ⟨some 73, _, _, _, _, _⟩) (v := ?_) [] (y := Or.inl ⟨by rfl, ?_⟩) (s := hT.out) (H := ?_)
  rotate_left
  · intro w hY; go_simp; try with_reducible rfl
  try simp only [putz]
  clear hT
  refine Goes.done (by kernel_rfl) ?_ _
  refine NoPanic.normal ?_
  have HK2 := hid hs
  clear hs
  go_upto_region 14 with fail
  have HS := hid (HK2.out.perm (l' := [(g14, k), (g13, G), (g11, 0), (g9, p), (g8, b), (g7, a), (g_c, m), (g_b, y), (g_a, x)]) (by simp))
  clear HK2
  go_cut [17, 18] (fun s17 s18 wx => ∃ g17, s17 = .pointer (some ⟨g17, 0, none⟩) ∧ s18 = .int .i64 0 ∧ Hid (Env w [(g17, 0), (g14, k), (g13, G), (g11, 0), (g9, p), (g8, b), (g7, a), (g_c, m), (g_b, y), (g_a, x)] wx))
  case first =>
    have hs := HS.out.drew
    refine wp_region_noPanic ?_
    refine Goes.region (fun (L : Array Bool) (w' : World) => w'.cell? ⟨g7, 0, none⟩ = some (.int .u64 (wd (a) 0 : Int)) ∧ w'.cell? ⟨g7, 1, none⟩ = some (.int .u64 (wd (a) 1 : Int)) ∧ w'.cell? ⟨g7, 2, none⟩ = some (.int .u64 (wd (a) 2 : Int)) ∧ w'.cell? ⟨g7, 3, none⟩ = some (.int .u64 (wd (a) 3 : Int)) ∧ w'.cell? ⟨g14, 0, none⟩ = some (.int .u64 (wd (k) 0 : Int)) ∧ w'.cell? ⟨g14, 1, none⟩ = some (.int .u64 (wd (k) 1 : Int)) ∧ w'.cell? ⟨g14, 2, none⟩ = some (.int .u64 (wd (k) 2 : Int)) ∧ w'.cell? ⟨g14, 3, none⟩ = some (.int .u64 (wd (k) 3 : Int)) ∧ w'.cell? ⟨g_c, 0, none⟩ = some (.int .u64 (wd (m) 0 : Int)) ∧ w'.cell? ⟨g_c, 1, none⟩ = some (.int .u64 (wd (m) 1 : Int)) ∧ w'.cell? ⟨g_c, 2, none⟩ = some (.int .u64 (wd (m) 2 : Int)) ∧ w'.cell? ⟨g_c, 3, none⟩ = some (.int .u64 (wd (m) 3 : Int))) (by kernel_rfl) ?_
    generalize wn1.drew = wdr at *
    have hT := hid (And.intro ((hs).cell g7 (a) (by simp)).1 (And.intro ((hs).cell g7 (a) (by simp)).2.1 (And.intro ((hs).cell g7 (a) (by simp)).2.2.1 (And.intro ((hs).cell g7 (a) (by simp)).2.2.2 (And.intro ((hs).cell g14 (k) (by simp)).1 (And.intro ((hs).cell g14 (k) (by simp)).2.1 (And.intro ((hs).cell g14 (k) (by simp)).2.2.1 (And.intro ((hs).cell g14 (k) (by simp)).2.2.2 (((hs).cell g_c (m) (by simp)))))))))))
    refine Goes.tk (i := 0) (o := ⟨some 76, _, _, _, _, _⟩) (v := ?_) [] (y := Or.inl ⟨by rfl, ?_⟩) (s := hT.out) (H := ?_)
    rotate_left
    · rintro w ⟨up, -, hX⟩; (try dsimp only at hX); obtain ⟨x0, x1, x2, x3, x4, x5, x6, x7, x8, x9, x10, x11⟩ := hX; go_simp; try with_reducible rfl
    try simp only [putz]
    refine Goes.tk (i := 1) (o := ⟨some 77, _, _, _, _, _⟩) (v := ?_) [] (y := Or.inl ⟨by rfl, ?_⟩) (s := hT.out) (H := ?_)
    rotate_left
    · rintro w ⟨up, -, hX⟩; (try dsimp only at hX); obtain ⟨x0, x1, x2, x3, x4, x5, x6, x7, x8, x9, x10, x11⟩ := hX; go_simp; try with_reducible rfl
    try simp only [putz]
    refine Goes.tk (i := 2) (o := ⟨some 78, _, _, _, _, _⟩) (v := ?_) [] (y := Or.inl ⟨by rfl, ?_⟩) (s := hT.out) (H := ?_)
    rotate_left
    · rintro w ⟨up, -, hX⟩; (try dsimp only at hX); obtain ⟨x0, x1, x2, x3, x4, x5, x6, x7, x8, x9, x10, x11⟩ := hX; go_simp; try with_reducible rfl
    try simp only [putz]
    refine Goes.tk (i := 4) (o := ⟨some 80, _, _, _, _, _⟩) (v := ?_) [] (y := Or.inl ⟨by rfl, ?_⟩) (s := hT.out) (H := ?_)
    rotate_left
    · rintro w ⟨up, -, hX⟩; (try dsimp only at hX); obtain ⟨x0, x1, x2, x3, x4, x5, x6, x7, x8, x9, x10, x11⟩ := hX; go_simp; try with_reducible rfl
    try simp only [putz]
    refine Goes.two (i := 3) (j := 9) (o := ⟨some 79, _, _, _, _, _⟩) (p := ⟨some 17, _, _, _, _, _⟩) (by kernel_rfl) rfl rfl (fun K hK => ?_) (fun K hK => ?_)
    · skip
      go_simp
      with_reducible refine (rest_at k m kk hs KL.out HM.out M0.out E1.out).mono ?_
      rintro e wn1 ⟨rfl, hs1⟩
      go_wp2_with fail
      clear hT
      have hT := hid (And.intro ((hs1).cell g7 (a) (by simp)).1 (And.intro ((hs1).cell g7 (a) (by simp)).2.1 (And.intro ((hs1).cell g7 (a) (by simp)).2.2.1 (And.intro ((hs1).cell g7 (a) (by simp)).2.2.2 (And.intro ((hs1).cell g14 (k) (by simp)).1 (And.intro ((hs1).cell g14 (k) (by simp)).2.1 (And.intro ((hs1).cell g14 (k) (by simp)).2.2.1 (And.intro ((hs1).cell g14 (k) (by simp)).2.2.2 (((hs1).cell g_c (m) (by simp)))))))))))
      refine hK.out _ _ (hT.out) ?_
      clear hK K
      try simp only [putz]
      clear hs
      have hs := hs1
      clear hs1
      refine Goes.two (i := 5) (j := 9) (o := ⟨some 81, _, _, _, _, _⟩) (p := ⟨some 17, _, _, _, _, _⟩) (by kernel_rfl) rfl rfl (fun K hK => ?_) (fun K hK => ?_)
      · skip
        go_simp
        with_reducible refine (mmul_at a kk m 0 hs HM.out M1.out AM.out RL.out EZ.out).mono ?_
        rintro e wn2 ⟨rfl, hs2⟩
        go_wp2_with fail
        clear hT
        have hT := hid (And.intro ((hs2).cell g7 (a) (by simp)).1 (And.intro ((hs2).cell g7 (a) (by simp)).2.1 (And.intro ((hs2).cell g7 (a) (by simp)).2.2.1 (And.intro ((hs2).cell g7 (a) (by simp)).2.2.2 (And.intro ((hs2).cell g14 (k) (by simp)).1 (And.intro ((hs2).cell g14 (k) (by simp)).2.1 (And.intro ((hs2).cell g14 (k) (by simp)).2.2.1 (And.intro ((hs2).cell g14 (k) (by simp)).2.2.2 (((hs2).cell g_c (m) (by simp)))))))))))
        refine hK.out _ _ (hT.out) ?_
        clear hK K
        try simp only [putz]
        clear hs
        have hs := hs2
        clear hs2
        refine Goes.tk (i := 6) (o := ⟨some 75, _, _, _, _, _⟩) (v := ?_) [] (y := Or.inl ⟨by rfl, ?_⟩) (s := hT.out) (H := ?_)
        rotate_left
        · intro w hY; go_simp; try with_reducible rfl
        try simp only [putz]
        refine Goes.tk (i := 7) (o := ⟨some 82, _, _, _, _, _⟩) (v := ?_) [] (y := Or.inl ⟨by rfl, ?_⟩) (s := hT.out) (H := ?_)
        rotate_left
        · intro w hY; go_simp; try with_reducible rfl
        try simp only [putz]
        refine Goes.tk (i := 8) (o := ⟨some 83, _, _, _, _, _⟩) (v := ?_) [] (y := Or.inl ⟨by rfl, ?_⟩) (s := hT.out) (H := ?_)
        rotate_left
        · intro w hY; go_simp; try with_reducible rfl
        try simp only [putz]
        refine Goes.one (i := 9) (o := ⟨some 17, _, _, _, _, _⟩) (by kernel_rfl) rfl (fun K hK => ?_)
        go_simp
        clear hT
        have hT := hid (And.intro ((hs.zero).cell g7 (a) (by simp)).1 (And.intro ((hs.zero).cell g7 (a) (by simp)).2.1 (And.intro ((hs.zero).cell g7 (a) (by simp)).2.2.1 (And.intro ((hs.zero).cell g7 (a) (by simp)).2.2.2 (And.intro ((hs.zero).cell g14 (k) (by simp)).1 (And.intro ((hs.zero).cell g14 (k) (by simp)).2.1 (And.intro ((hs.zero).cell g14 (k) (by simp)).2.2.1 (And.intro ((hs.zero).cell g14 (k) (by simp)).2.2.2 (((hs.zero).cell g_c (m) (by simp)))))))))))
        refine hK.out _ _ (hT.out) ?_
        clear hK K
        try simp only [putz]
        have Fg17 := hid hs.fresh
        have hs3 := hs.zero
        clear hs
        generalize wn2.alloc (.cells #[.int .u64 0, .int .u64 0, .int .u64 0, .int .u64 0] 24) = wn3 at *
        generalize wn2.heap.size = g17 at *
        have hs := hs3
        clear hs3
        refine Goes.one (i := 10) (o := ⟨none, _, _, _, _, _⟩) (by kernel_rfl) rfl (fun K hK => ?_)
        obtain ⟨z0, z1, z2, z3⟩ := hs.cell g17 (0) (by simp)
        have zl := hs.lt g17 (0) (by simp)
        have zf := hs.frozen g17 (0) (by simp)
        have hs4 := hs.set g17 (0) (0) [(g14, k), (g13, G), (g11, 0), (g9, p), (g8, b), (g7, a), (g_c, m), (g_b, y), (g_a, x)] (by simp) Fg17.out.1 (fun p hp => by simp only [List.mem_cons, List.not_mem_nil, or_false] at hp; rcases hp with rfl | rfl | rfl | rfl | rfl | rfl | rfl | rfl | rfl <;> first | exact ⟨by simp, Fg17.out.2 (g14, k) (by simp)⟩ | exact ⟨by simp, Fg17.out.2 (g13, G) (by simp)⟩ | exact ⟨by simp, Fg17.out.2 (g11, 0) (by simp)⟩ | exact ⟨by simp, Fg17.out.2 (g9, p) (by simp)⟩ | exact ⟨by simp, Fg17.out.2 (g8, b) (by simp)⟩ | exact ⟨by simp, Fg17.out.2 (g7, a) (by simp)⟩ | exact ⟨by simp, Fg17.out.2 (g_c, m) (by simp)⟩ | exact ⟨by simp, Fg17.out.2 (g_b, y) (by simp)⟩ | exact ⟨by simp, Fg17.out.2 (g_a, x) (by simp)⟩)
        go_simp
        clear hT
        have hT := hid (And.intro ((hs4).cell g7 (a) (by simp)).1 (And.intro ((hs4).cell g7 (a) (by simp)).2.1 (And.intro ((hs4).cell g7 (a) (by simp)).2.2.1 (And.intro ((hs4).cell g7 (a) (by simp)).2.2.2 (And.intro ((hs4).cell g14 (k) (by simp)).1 (And.intro ((hs4).cell g14 (k) (by simp)).2.1 (And.intro ((hs4).cell g14 (k) (by simp)).2.2.1 (And.intro ((hs4).cell g14 (k) (by simp)).2.2.2 (((hs4).cell g_c (m) (by simp)))))))))))
        refine hK.out _ _ (hT.out) ?_
        clear hK K
        try simp only [putz]
        clear hs z0 z1 z2 z3 zl zf
        change Goes _ _ _ _ _ _ _ _ (fil wn3 g17 (0))
        generalize fil wn3 g17 (0) = wn4 at *
        have hs := hs4
        clear hs4
        refine Goes.tk (i := 11) (o := ⟨some 18, _, _, _, _, _⟩) (v := ?_) [] (y := Or.inl ⟨by rfl, ?_⟩) (s := hT.out) (H := ?_)
        rotate_left
        · intro w hY; go_simp; try with_reducible rfl
        try simp only [putz]
        clear hT
        refine Goes.done (by kernel_rfl) ?_ _
        refine NoPanic.normal ?_
        go_wp2_with fail
        go_meet
        exact ⟨_, rfl, rfl, hid (hs.perm (by simp))⟩
      · skip
        go_simp
        clear hT
        have hT := hid (And.intro ((hs.zero).cell g7 (a) (by simp)).1 (And.intro ((hs.zero).cell g7 (a) (by simp)).2.1 (And.intro ((hs.zero).cell g7 (a) (by simp)).2.2.1 (And.intro ((hs.zero).cell g7 (a) (by simp)).2.2.2 (And.intro ((hs.zero).cell g14 (k) (by simp)).1 (And.intro ((hs.zero).cell g14 (k) (by simp)).2.1 (And.intro ((hs.zero).cell g14 (k) (by simp)).2.2.1 (And.intro ((hs.zero).cell g14 (k) (by simp)).2.2.2 (((hs.zero).cell g_c (m) (by simp)))))))))))
        refine hK.out _ _ (hT.out) ?_
        clear hK K
        try simp only [putz]
        have Fg17 := hid hs.fresh
        have hs5 := hs.zero
        clear hs
        generalize wn1.alloc (.cells #[.int .u64 0, .int .u64 0, .int .u64 0, .int .u64 0] 24) = wn5 at *
        generalize wn1.heap.size = g17 at *
        have hs := hs5
        clear hs5
        refine Goes.one (i := 5) (o := ⟨some 81, _, _, _, _, _⟩) (by kernel_rfl) rfl (fun K hK => ?_)
        go_simp
        with_reducible refine (mmul_at a kk m 0 hs HM.out M1.out AM.out RL.out EZ.out).mono ?_
        rintro e wn6 ⟨rfl, hs6⟩
        go_wp2_with fail
        clear hT
        have hT := hid (And.intro ((hs6).cell g7 (a) (by simp)).1 (And.intro ((hs6).cell g7 (a) (by simp)).2.1 (And.intro ((hs6).cell g7 (a) (by simp)).2.2.1 (And.intro ((hs6).cell g7 (a) (by simp)).2.2.2 (And.intro ((hs6).cell g14 (k) (by simp)).1 (And.intro ((hs6).cell g14 (k) (by simp)).2.1 (And.intro ((hs6).cell g14 (k) (by simp)).2.2.1 (And.intro ((hs6).cell g14 (k) (by simp)).2.2.2 (((hs6).cell g_c (m) (by simp)))))))))))
        refine hK.out _ _ (hT.out) ?_
        clear hK K
        try simp only [putz]
        clear hs
        have hs := hs6
        clear hs6
        refine Goes.tk (i := 6) (o := ⟨some 75, _, _, _, _, _⟩) (v := ?_) [] (y := Or.inl ⟨by rfl, ?_⟩) (s := hT.out) (H := ?_)
        rotate_left
        · intro w hY; go_simp; try with_reducible rfl
        try simp only [putz]
        refine Goes.tk (i := 7) (o := ⟨some 82, _, _, _, _, _⟩) (v := ?_) [] (y := Or.inl ⟨by rfl, ?_⟩) (s := hT.out) (H := ?_)
        rotate_left
        · intro w hY; go_simp; try with_reducible rfl
        try simp only [putz]
        refine Goes.tk (i := 8) (o := ⟨some 83, _, _, _, _, _⟩) (v := ?_) [] (y := Or.inl ⟨by rfl, ?_⟩) (s := hT.out) (H := ?_)
        rotate_left
        · intro w hY; go_simp; try with_reducible rfl
        try simp only [putz]
        refine Goes.one (i := 10) (o := ⟨none, _, _, _, _, _⟩) (by kernel_rfl) rfl (fun K hK => ?_)
        obtain ⟨z0, z1, z2, z3⟩ := hs.cell g17 (0) (by simp)
        have zl := hs.lt g17 (0) (by simp)
        have zf := hs.frozen g17 (0) (by simp)
        have hs7 := hs.set g17 (0) (0) [(g14, k), (g13, G), (g11, 0), (g9, p), (g8, b), (g7, a), (g_c, m), (g_b, y), (g_a, x)] (by simp) Fg17.out.1 (fun p hp => by simp only [List.mem_cons, List.not_mem_nil, or_false] at hp; rcases hp with rfl | rfl | rfl | rfl | rfl | rfl | rfl | rfl | rfl <;> first | exact ⟨by simp, Fg17.out.2 (g14, k) (by simp)⟩ | exact ⟨by simp, Fg17.out.2 (g13, G) (by simp)⟩ | exact ⟨by simp, Fg17.out.2 (g11, 0) (by simp)⟩ | exact ⟨by simp, Fg17.out.2 (g9, p) (by simp)⟩ | exact ⟨by simp, Fg17.out.2 (g8, b) (by simp)⟩ | exact ⟨by simp, Fg17.out.2 (g7, a) (by simp)⟩ | exact ⟨by simp, Fg17.out.2 (g_c, m) (by simp)⟩ | exact ⟨by simp, Fg17.out.2 (g_b, y) (by simp)⟩ | exact ⟨by simp, Fg17.out.2 (g_a, x) (by simp)⟩)
        go_simp
        clear hT
        have hT := hid (And.intro ((hs7).cell g7 (a) (by simp)).1 (And.intro ((hs7).cell g7 (a) (by simp)).2.1 (And.intro ((hs7).cell g7 (a) (by simp)).2.2.1 (And.intro ((hs7).cell g7 (a) (by simp)).2.2.2 (And.intro ((hs7).cell g14 (k) (by simp)).1 (And.intro ((hs7).cell g14 (k) (by simp)).2.1 (And.intro ((hs7).cell g14 (k) (by simp)).2.2.1 (And.intro ((hs7).cell g14 (k) (by simp)).2.2.2 (((hs7).cell g_c (m) (by simp)))))))))))
        refine hK.out _ _ (hT.out) ?_
        clear hK K
        try simp only [putz]
        clear hs z0 z1 z2 z3 zl zf
        change Goes _ _ _ _ _ _ _ _ (fil wn6 g17 (0))
        generalize fil wn6 g17 (0) = wn7 at *
        have hs := hs7
        clear hs7
        refine Goes.tk (i := 11) (o := ⟨some 18, _, _, _, _, _⟩) (v := ?_) [] (y := Or.inl ⟨by rfl, ?_⟩) (s := hT.out) (H := ?_)
        rotate_left
        · intro w hY; go_simp; try with_reducible rfl
        try simp only [putz]
        clear hT
        refine Goes.done (by kernel_rfl) ?_ _
        refine NoPanic.normal ?_
        go_wp2_with fail
        go_meet
        exact ⟨_, rfl, rfl, hid (hs.perm (by simp))⟩
    · skip
      go_simp
      clear hT
      have hT := hid (And.intro ((hs.zero).cell g7 (a) (by simp)).1 (And.intro ((hs.zero).cell g7 (a) (by simp)).2.1 (And.intro ((hs.zero).cell g7 (a) (by simp)).2.2.1 (And.intro ((hs.zero).cell g7 (a) (by simp)).2.2.2 (And.intro ((hs.zero).cell g14 (k) (by simp)).1 (And.intro ((hs.zero).cell g14 (k) (by simp)).2.1 (And.intro ((hs.zero).cell g14 (k) (by simp)).2.2.1 (And.intro ((hs.zero).cell g14 (k) (by simp)).2.2.2 (((hs.zero).cell g_c (m) (by simp)))))))))))
      refine hK.out _ _ (hT.out) ?_
      clear hK K
      try simp only [putz]
      have Fg17 := hid hs.fresh
      have hs8 := hs.zero
      clear hs
      generalize wdr.alloc (.cells #[.int .u64 0, .int .u64 0, .int .u64 0, .int .u64 0] 24) = wn8 at *
      generalize wdr.heap.size = g17 at *
      have hs := hs8
      clear hs8
      refine Goes.one (i := 3) (o := ⟨some 79, _, _, _, _, _⟩) (by kernel_rfl) rfl (fun K hK => ?_)
      go_simp
      with_reducible refine (rest_at k m kk hs KL.out HM.out M0.out E1.out).mono ?_
      rintro e wn9 ⟨rfl, hs9⟩
      go_wp2_with fail
      clear hT
      have hT := hid (And.intro ((hs9).cell g7 (a) (by simp)).1 (And.intro ((hs9).cell g7 (a) (by simp)).2.1 (And.intro ((hs9).cell g7 (a) (by simp)).2.2.1 (And.intro ((hs9).cell g7 (a) (by simp)).2.2.2 (And.intro ((hs9).cell g14 (k) (by simp)).1 (And.intro ((hs9).cell g14 (k) (by simp)).2.1 (And.intro ((hs9).cell g14 (k) (by simp)).2.2.1 (And.intro ((hs9).cell g14 (k) (by simp)).2.2.2 (((hs9).cell g_c (m) (by simp)))))))))))
      refine hK.out _ _ (hT.out) ?_
      clear hK K
      try simp only [putz]
      clear hs
      have hs := hs9
      clear hs9
      refine Goes.one (i := 5) (o := ⟨some 81, _, _, _, _, _⟩) (by kernel_rfl) rfl (fun K hK => ?_)
      go_simp
      with_reducible refine (mmul_at a kk m 0 hs HM.out M1.out AM.out RL.out EZ.out).mono ?_
      rintro e wn10 ⟨rfl, hs10⟩
      go_wp2_with fail
      clear hT
      have hT := hid (And.intro ((hs10).cell g7 (a) (by simp)).1 (And.intro ((hs10).cell g7 (a) (by simp)).2.1 (And.intro ((hs10).cell g7 (a) (by simp)).2.2.1 (And.intro ((hs10).cell g7 (a) (by simp)).2.2.2 (And.intro ((hs10).cell g14 (k) (by simp)).1 (And.intro ((hs10).cell g14 (k) (by simp)).2.1 (And.intro ((hs10).cell g14 (k) (by simp)).2.2.1 (And.intro ((hs10).cell g14 (k) (by simp)).2.2.2 (((hs10).cell g_c (m) (by simp)))))))))))
      refine hK.out _ _ (hT.out) ?_
      clear hK K
      try simp only [putz]
      clear hs
      have hs := hs10
      clear hs10
      refine Goes.tk (i := 6) (o := ⟨some 75, _, _, _, _, _⟩) (v := ?_) [] (y := Or.inl ⟨by rfl, ?_⟩) (s := hT.out) (H := ?_)
      rotate_left
      · intro w hY; go_simp; try with_reducible rfl
      try simp only [putz]
      refine Goes.tk (i := 7) (o := ⟨some 82, _, _, _, _, _⟩) (v := ?_) [] (y := Or.inl ⟨by rfl, ?_⟩) (s := hT.out) (H := ?_)
      rotate_left
      · intro w hY; go_simp; try with_reducible rfl
      try simp only [putz]
      refine Goes.tk (i := 8) (o := ⟨some 83, _, _, _, _, _⟩) (v := ?_) [] (y := Or.inl ⟨by rfl, ?_⟩) (s := hT.out) (H := ?_)
      rotate_left
      · intro w hY; go_simp; try with_reducible rfl
      try simp only [putz]
      refine Goes.one (i := 10) (o := ⟨none, _, _, _, _, _⟩) (by kernel_rfl) rfl (fun K hK => ?_)
      obtain ⟨z0, z1, z2, z3⟩ := hs.cell g17 (0) (by simp)
      have zl := hs.lt g17 (0) (by simp)
      have zf := hs.frozen g17 (0) (by simp)
      have hs11 := hs.set g17 (0) (0) [(g14, k), (g13, G), (g11, 0), (g9, p), (g8, b), (g7, a), (g_c, m), (g_b, y), (g_a, x)] (by simp) Fg17.out.1 (fun p hp => by simp only [List.mem_cons, List.not_mem_nil, or_false] at hp; rcases hp with rfl | rfl | rfl | rfl | rfl | rfl | rfl | rfl | rfl <;> first | exact ⟨by simp, Fg17.out.2 (g14, k) (by simp)⟩ | exact ⟨by simp, Fg17.out.2 (g13, G) (by simp)⟩ | exact ⟨by simp, Fg17.out.2 (g11, 0) (by simp)⟩ | exact ⟨by simp, Fg17.out.2 (g9, p) (by simp)⟩ | exact ⟨by simp, Fg17.out.2 (g8, b) (by simp)⟩ | exact ⟨by simp, Fg17.out.2 (g7, a) (by simp)⟩ | exact ⟨by simp, Fg17.out.2 (g_c, m) (by simp)⟩ | exact ⟨by simp, Fg17.out.2 (g_b, y) (by simp)⟩ | exact ⟨by simp, Fg17.out.2 (g_a, x) (by simp)⟩)
      go_simp
      clear hT
      have hT := hid (And.intro ((hs11).cell g7 (a) (by simp)).1 (And.intro ((hs11).cell g7 (a) (by simp)).2.1 (And.intro ((hs11).cell g7 (a) (by simp)).2.2.1 (And.intro ((hs11).cell g7 (a) (by simp)).2.2.2 (And.intro ((hs11).cell g14 (k) (by simp)).1 (And.intro ((hs11).cell g14 (k) (by simp)).2.1 (And.intro ((hs11).cell g14 (k) (by simp)).2.2.1 (And.intro ((hs11).cell g14 (k) (by simp)).2.2.2 (((hs11).cell g_c (m) (by simp)))))))))))
      refine hK.out _ _ (hT.out) ?_
      clear hK K
      try simp only [putz]
      clear hs z0 z1 z2 z3 zl zf
      change Goes _ _ _ _ _ _ _ _ (fil wn10 g17 (0))
      generalize fil wn10 g17 (0) = wn11 at *
      have hs := hs11
      clear hs11
      refine Goes.tk (i := 11) (o := ⟨some 18, _, _, _, _, _⟩) (v := ?_) [] (y := Or.inl ⟨by rfl, ?_⟩) (s := hT.out) (H := ?_)
      rotate_left
      · intro w hY; go_simp; try with_reducible rfl
      try simp only [putz]
      clear hT
      refine Goes.done (by kernel_rfl) ?_ _
      refine NoPanic.normal ?_
      go_wp2_with fail
      go_meet
      exact ⟨_, rfl, rfl, hid (hs.perm (by simp))⟩
  case rest =>
    obtain ⟨g17, rfl, rfl, HC⟩ := hcut
    clear HS
    go_upto_region 15 with fail
    have hs := HC.out.drew
    refine wp_region_noPanic ?_
    refine Goes.region (fun (L : Array Bool) (w' : World) => w'.cell? ⟨g11, 0, none⟩ = some (.int .u64 (wd (0) 0 : Int)) ∧ w'.cell? ⟨g11, 1, none⟩ = some (.int .u64 (wd (0) 1 : Int)) ∧ w'.cell? ⟨g11, 2, none⟩ = some (.int .u64 (wd (0) 2 : Int)) ∧ w'.cell? ⟨g11, 3, none⟩ = some (.int .u64 (wd (0) 3 : Int)) ∧ w'.cell? ⟨g13, 0, none⟩ = some (.int .u64 (wd (G) 0 : Int)) ∧ w'.cell? ⟨g13, 1, none⟩ = some (.int .u64 (wd (G) 1 : Int)) ∧ w'.cell? ⟨g13, 2, none⟩ = some (.int .u64 (wd (G) 2 : Int)) ∧ w'.cell? ⟨g13, 3, none⟩ = some (.int .u64 (wd (G) 3 : Int)) ∧ w'.cell? ⟨g17, 0, none⟩ = some (.int .u64 (wd (0) 0 : Int)) ∧ w'.cell? ⟨g17, 1, none⟩ = some (.int .u64 (wd (0) 1 : Int)) ∧ w'.cell? ⟨g17, 2, none⟩ = some (.int .u64 (wd (0) 2 : Int)) ∧ w'.cell? ⟨g17, 3, none⟩ = some (.int .u64 (wd (0) 3 : Int))) (by kernel_rfl) ?_
    generalize wc.drew = wdr at *
    refine Goes.one (i := 0) (o := ⟨some 84, _, _, _, _, _⟩) (by kernel_rfl) rfl (fun K hK => ?_)
    go_simp
    with_reducible refine (alive_at hs).mono ?_
    rintro e wn1 ⟨rfl, hs1⟩
    go_wp2_with fail
    have hT := hid (And.intro ((hs1).cell g11 (0) (by simp)).1 (And.intro ((hs1).cell g11 (0) (by simp)).2.1 (And.intro ((hs1).cell g11 (0) (by simp)).2.2.1 (And.intro ((hs1).cell g11 (0) (by simp)).2.2.2 (And.intro ((hs1).cell g13 (G) (by simp)).1 (And.intro ((hs1).cell g13 (G) (by simp)).2.1 (And.intro ((hs1).cell g13 (G) (by simp)).2.2.1 (And.intro ((hs1).cell g13 (G) (by simp)).2.2.2 (((hs1).cell g17 (0) (by simp)))))))))))
    refine hK.out _ _ (hT.out) ?_
    clear hK K
    try simp only [putz]
    clear hs
    have hs := hs1
    clear hs1
    refine Goes.tk (i := 1) (o := ⟨some 85, _, _, _, _, _⟩) (v := ?_) [] (y := Or.inl ⟨by rfl, ?_⟩) (s := hT.out) (H := ?_)
    rotate_left
    · intro w hY; go_simp; try with_reducible rfl
    try simp only [putz]
    refine Goes.tk (i := 2) (o := ⟨some 86, _, _, _, _, _⟩) (v := ?_) [] (y := Or.inl ⟨by rfl, ?_⟩) (s := hT.out) (H := ?_)
    rotate_left
    · intro w hY; go_simp; try with_reducible rfl
    try simp only [putz]
    refine Goes.tk (i := 3) (o := ⟨some 87, _, _, _, _, _⟩) (v := ?_) [] (y := Or.inl ⟨by rfl, ?_⟩) (s := hT.out) (H := ?_)
    rotate_left
    · intro w hY; go_simp; try with_reducible rfl
    try simp only [putz]
    refine Goes.tk (i := 4) (o := ⟨some 88, _, _, _, _, _⟩) (v := ?_) [] (y := Or.inl ⟨by rfl, ?_⟩) (s := hT.out) (H := ?_)
    rotate_left
    · intro w hY; go_simp; try with_reducible rfl
    try simp only [putz]
    refine Goes.tk (i := 5) (o := ⟨some 89, _, _, _, _, _⟩) (v := ?_) [] (y := Or.inl ⟨by rfl, ?_⟩) (s := hT.out) (H := ?_)
    rotate_left
    · intro w hY; go_simp; try with_reducible rfl
    try simp only [putz]
    refine Goes.tk (i := 6) (o := ⟨some 90, _, _, _, _, _⟩) (v := ?_) [] (y := Or.inl ⟨by rfl, ?_⟩) (s := hT.out) (H := ?_)
    rotate_left
    · rintro w ⟨up, -, hX⟩; (try dsimp only at hX); obtain ⟨x0, x1, x2, x3, x4, x5, x6, x7, x8, x9, x10, x11⟩ := hX; go_simp; try with_reducible rfl
    try simp only [putz]
    refine Goes.one (i := 7) (o := ⟨some 91, _, _, _, _, _⟩) (by kernel_rfl) rfl (fun K hK => ?_)
    go_simp
    with_reducible refine (none_at hs).mono ?_
    rintro e wn2 ⟨rfl, hs2⟩
    go_wp2_with fail
    clear hT
    have hT := hid (And.intro ((hs2).cell g11 (0) (by simp)).1 (And.intro ((hs2).cell g11 (0) (by simp)).2.1 (And.intro ((hs2).cell g11 (0) (by simp)).2.2.1 (And.intro ((hs2).cell g11 (0) (by simp)).2.2.2 (And.intro ((hs2).cell g13 (G) (by simp)).1 (And.intro ((hs2).cell g13 (G) (by simp)).2.1 (And.intro ((hs2).cell g13 (G) (by simp)).2.2.1 (And.intro ((hs2).cell g13 (G) (by simp)).2.2.2 (((hs2).cell g17 (0) (by simp)))))))))))
    refine hK.out _ _ (hT.out) ?_
    clear hK K
    try simp only [putz]
    clear hs
    have hs := hs2
    clear hs2
    refine Goes.tk (i := 8) (o := ⟨some 92, _, _, _, _, _⟩) (v := ?_) [] (y := Or.inl ⟨by rfl, ?_⟩) (s := hT.out) (H := ?_)
    rotate_left
    · intro w hY; go_simp; try with_reducible rfl
    try simp only [putz]
    refine Goes.tk (i := 9) (o := ⟨some 93, _, _, _, _, _⟩) (v := ?_) [] (y := Or.inl ⟨by rfl, ?_⟩) (s := hT.out) (H := ?_)
    rotate_left
    · intro w hY; go_simp; try with_reducible rfl
    try simp only [putz]
    refine Goes.tk (i := 10) (o := ⟨some 94, _, _, _, _, _⟩) (v := ?_) [] (y := Or.inl ⟨by rfl, ?_⟩) (s := hT.out) (H := ?_)
    rotate_left
    · intro w hY; go_simp; try with_reducible rfl
    try simp only [putz]
    refine Goes.tk (i := 11) (o := ⟨some 95, _, _, _, _, _⟩) (v := ?_) [] (y := Or.inl ⟨by rfl, ?_⟩) (s := hT.out) (H := ?_)
    rotate_left
    · rintro w ⟨up, -, hX⟩; (try dsimp only at hX); obtain ⟨x0, x1, x2, x3, x4, x5, x6, x7, x8, x9, x10, x11⟩ := hX; go_simp; try with_reducible rfl
    try simp only [putz]
    refine Goes.one (i := 12) (o := ⟨some 96, _, _, _, _, _⟩) (by kernel_rfl) rfl (fun K hK => ?_)
    go_simp
    with_reducible refine (ofl_at 1 1 hs (by decide) rfl).mono ?_
    rintro e wn3 ⟨rfl, hs3⟩
    go_wp2_with fail
    clear hT
    have hT := hid (And.intro ((hs3).cell g11 (0) (by simp)).1 (And.intro ((hs3).cell g11 (0) (by simp)).2.1 (And.intro ((hs3).cell g11 (0) (by simp)).2.2.1 (And.intro ((hs3).cell g11 (0) (by simp)).2.2.2 (And.intro ((hs3).cell g13 (G) (by simp)).1 (And.intro ((hs3).cell g13 (G) (by simp)).2.1 (And.intro ((hs3).cell g13 (G) (by simp)).2.2.1 (And.intro ((hs3).cell g13 (G) (by simp)).2.2.2 (((hs3).cell g17 (0) (by simp)))))))))))
    refine hK.out _ _ (hT.out) ?_
    clear hK K
    try simp only [putz]
    clear hs
    have hs := hs3
    clear hs3
    refine Goes.tk (i := 13) (o := ⟨some 97, _, _, _, _, _⟩) (v := ?_) [] (y := Or.inl ⟨by rfl, ?_⟩) (s := hT.out) (H := ?_)
    rotate_left
    · intro w hY; go_simp; try with_reducible rfl
    try simp only [putz]
    refine Goes.tk (i := 14) (o := ⟨some 98, _, _, _, _, _⟩) (v := ?_) [] (y := Or.inl ⟨by rfl, ?_⟩) (s := hT.out) (H := ?_)
    rotate_left
    · intro w hY; go_simp; try with_reducible rfl
    try simp only [putz]
    refine Goes.tk (i := 15) (o := ⟨some 99, _, _, _, _, _⟩) (v := ?_) [] (y := Or.inl ⟨by rfl, ?_⟩) (s := hT.out) (H := ?_)
    rotate_left
    · intro w hY; go_simp; try with_reducible rfl
    try simp only [putz]
    refine Goes.tk (i := 16) (o := ⟨some 100, _, _, _, _, _⟩) (v := ?_) [] (y := Or.inl ⟨by rfl, ?_⟩) (s := hT.out) (H := ?_)
    rotate_left
    · intro w hY; go_simp; try with_reducible rfl
    try simp only [putz]
    refine Goes.tk (i := 17) (o := ⟨some 101, _, _, _, _, _⟩) (v := ?_) [] (y := Or.inl ⟨by rfl, ?_⟩) (s := hT.out) (H := ?_)
    rotate_left
    · intro w hY; go_simp; try with_reducible rfl
    try simp only [putz]
    refine Goes.tk (i := 18) (o := ⟨some 102, _, _, _, _, _⟩) (v := ?_) [] (y := Or.inl ⟨by rfl, ?_⟩) (s := hT.out) (H := ?_)
    rotate_left
    · intro w hY; go_simp; try with_reducible rfl
    try simp only [putz]
    refine Goes.tk (i := 19) (o := ⟨some 103, _, _, _, _, _⟩) (v := ?_) [] (y := Or.inl ⟨by rfl, ?_⟩) (s := hT.out) (H := ?_)
    rotate_left
    · intro w hY; go_simp; try with_reducible rfl
    try simp only [putz]
    refine Goes.tk (i := 20) (o := ⟨some 104, _, _, _, _, _⟩) (v := ?_) [] (y := Or.inl ⟨by rfl, ?_⟩) (s := hT.out) (H := ?_)
    rotate_left
    · rintro w ⟨up, -, hX⟩; (try dsimp only at hX); obtain ⟨x0, x1, x2, x3, x4, x5, x6, x7, x8, x9, x10, x11⟩ := hX; go_simp; try with_reducible rfl
    try simp only [putz]
    refine Goes.one (i := 21) (o := ⟨some 105, _, _, _, _, _⟩) (by kernel_rfl) rfl (fun K hK => ?_)
    go_simp
    with_reducible refine (none_at hs).mono ?_
    rintro e wn4 ⟨rfl, hs4⟩
    go_wp2_with fail
    clear hT
    have hT := hid (And.intro ((hs4).cell g11 (0) (by simp)).1 (And.intro ((hs4).cell g11 (0) (by simp)).2.1 (And.intro ((hs4).cell g11 (0) (by simp)).2.2.1 (And.intro ((hs4).cell g11 (0) (by simp)).2.2.2 (And.intro ((hs4).cell g13 (G) (by simp)).1 (And.intro ((hs4).cell g13 (G) (by simp)).2.1 (And.intro ((hs4).cell g13 (G) (by simp)).2.2.1 (And.intro ((hs4).cell g13 (G) (by simp)).2.2.2 (((hs4).cell g17 (0) (by simp)))))))))))
    refine hK.out _ _ (hT.out) ?_
    clear hK K
    try simp only [putz]
    clear hs
    have hs := hs4
    clear hs4
    refine Goes.tk (i := 22) (o := ⟨some 106, _, _, _, _, _⟩) (v := ?_) [] (y := Or.inl ⟨by rfl, ?_⟩) (s := hT.out) (H := ?_)
    rotate_left
    · intro w hY; go_simp; try with_reducible rfl
    try simp only [putz]
    refine Goes.tk (i := 23) (o := ⟨some 107, _, _, _, _, _⟩) (v := ?_) [] (y := Or.inl ⟨by rfl, ?_⟩) (s := hT.out) (H := ?_)
    rotate_left
    · intro w hY; go_simp; try with_reducible rfl
    try simp only [putz]
    refine Goes.tk (i := 24) (o := ⟨some 6, _, _, _, _, _⟩) (v := ?_) [] (y := Or.inl ⟨by rfl, ?_⟩) (s := hT.out) (H := ?_)
    rotate_left
    · intro w hY; go_simp; try with_reducible rfl
    try simp only [putz]
    clear hT
    refine Goes.done (by kernel_rfl) ?_ _
    refine NoPanic.normal ?_
    go_wp2_with fail
    try go_ret
    first | exact ⟨rfl, hs.1⟩ | exact bodyPost_ret (v := .bool true) (by simp [results, Tryd.results3, go_sem]) rfl ⟨rfl, hs.1⟩
theorem modsOver_any (x y m : Nat) (w : World) (hx : x < 2 ^ 256) (hy : y < 2 ^ 256) (hm : m < 2 ^ 256) (hT : Tab w) : Calls Tryd.prog 3 #[num x, num y, num m] w fun e w' => e = .returned (.bool true) ∧ Below w.heap.size w w' := by
  by_cases h1 : m ≤ 1
  · exact over_low x y m w hx hy hm h1 hT
  · have hm1 : 1 < m := by omega
    by_cases hg : Nat.gcd (x % m) m = 1
    · by_cases hp : x % m * (y % m) % m = 1
      · exact over_A1 x y m w hx hy hm hm1 hp hT
      · exact over_A2 x y m w hx hy hm hm1 ⟨hg, hp⟩ hT
    · by_cases h0 : x % m = 0
      · exact over_B1 x y m w hx hy hm hm1 ⟨hg, h0⟩ hT
      · exact over_B2 x y m w hx hy hm hm1 ⟨hg, h0⟩ hT
end Go.Proofs.YtaggegknnnembaaDoor
