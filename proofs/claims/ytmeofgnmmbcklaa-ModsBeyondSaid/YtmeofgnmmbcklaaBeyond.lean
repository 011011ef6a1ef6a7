/-
  burrowlaw04.ModsBeyond, walked: it answers true at any three long numbers. Conditions: none.
-/
import Derived.Test.YtmeofgnmmbcklaaExf
namespace Go.Proofs.Ytmeofgnmmbcklaa
open Go.RowKit
set_option linter.unusedVariables false

theorem minv_e_at (a m : Nat) {w w' : World} {l : List (Nat × Nat)} (h : Env w l w') (hm : m < 2 ^ 256) (h1 : 1 < m) (ha : a < m) : Calls Try.prog 13 #[num a, num m] w' fun e w2 => InvE a m e ∧ Env w l w2 :=
  (minv_walk a m w' hm ⟨h1, ha⟩).mono fun e w2 ⟨he, hb⟩ => ⟨he, h.on hb⟩
set_option maxRecDepth 100000 in
set_option maxHeartbeats 4000000 in
theorem beyond_low (a b m : Nat) (w : World) (ha : a < 2 ^ 256) (hb : b < 2 ^ 256) (hm : m < 2 ^ 256) (h1 : m ≤ 1) : Calls Try.prog 8 #[num a, num b, num m] w fun e w' => e = .returned (.bool true) ∧ Below w.heap.size w w' := by
  have AL := hid ha
  have BL := hid hb
  have ML := hid hm
  have HV : Hid (decide (m ≤ 1) = true) := hid (by simpa using h1)
  have NV : Hid (¬ (1 < m ∧ a < m ∧ b < m)) := hid (by omega)
  have NV2 : Hid (¬ (1 < m ∧ b < m ∧ a < m)) := hid (by omega)
  have NB : Hid (¬ (1 < m ∧ a < m)) := hid (by omega)
  clear ha hb hm h1
  have H0 := hid (((((Env.refl w).new a).new b).new m).perm (l' := [(w.heap.size + 1 + 1, m), (w.heap.size + 1, b), (w.heap.size, a)]) (by simp))
  go_enter Try.func8, Try.ntmps8
  go_wp2_with fail
  generalize ((w.alloc (.cells (cls a) 24)).alloc (.cells (cls b) 24)).alloc (.cells (cls m) 24) = w0 at *
  generalize w.heap.size + 1 + 1 = g_c at *
  generalize w.heap.size + 1 = g_b at *
  generalize hzg_a : w.heap.size = g_a at *
  refine (low_at m true H0.out ML.out HV.out).mono ?_
  rintro e w1 ⟨rfl, h⟩
  have H1 := hid h
  clear h H0
  obtain ⟨c0x1a, c0x1b, c0x1c, c0x1d⟩ := H1.out.cell (g_a) (a) (by simp)
  have c0x1l := H1.out.lt (g_a) (a) (by simp)
  have c0x1m := Nat.le_of_lt c0x1l
  obtain ⟨c6x1a, c6x1b, c6x1c, c6x1d⟩ := H1.out.cell (g_b) (b) (by simp)
  have c6x1l := H1.out.lt (g_b) (b) (by simp)
  have c6x1m := Nat.le_of_lt c6x1l
  obtain ⟨c12x1a, c12x1b, c12x1c, c12x1d⟩ := H1.out.cell (g_c) (m) (by simp)
  have c12x1l := H1.out.lt (g_c) (m) (by simp)
  have c12x1m := Nat.le_of_lt c12x1l
  go_wp2_with fail
  clear c0x1a c0x1b c0x1c c0x1d c0x1l c0x1m c6x1a c6x1b c6x1c c6x1d c6x1l c6x1m c12x1a c12x1b c12x1c c12x1d c12x1l c12x1m
  refine (madd_none_at a b m H1.out AL.out BL.out ML.out NV.out).mono ?_
  rintro e w2 ⟨rfl, h⟩
  have H2 := hid h
  clear h H1
  obtain ⟨c0x2a, c0x2b, c0x2c, c0x2d⟩ := H2.out.cell (g_a) (a) (by simp)
  have c0x2l := H2.out.lt (g_a) (a) (by simp)
  have c0x2m := Nat.le_of_lt c0x2l
  obtain ⟨c6x2a, c6x2b, c6x2c, c6x2d⟩ := H2.out.cell (g_b) (b) (by simp)
  have c6x2l := H2.out.lt (g_b) (b) (by simp)
  have c6x2m := Nat.le_of_lt c6x2l
  obtain ⟨c12x2a, c12x2b, c12x2c, c12x2d⟩ := H2.out.cell (g_c) (m) (by simp)
  have c12x2l := H2.out.lt (g_c) (m) (by simp)
  have c12x2m := Nat.le_of_lt c12x2l
  go_wp2_with fail
  clear c0x2a c0x2b c0x2c c0x2d c0x2l c0x2m c6x2a c6x2b c6x2c c6x2d c6x2l c6x2m c12x2a c12x2b c12x2c c12x2d c12x2l c12x2m
  have H2b := hid (H2.out.new 0)
  clear H2
  generalize w2.alloc (.cells (cls 0) 24) = w2b at *
  generalize w2.heap.size = g9 at *
  refine (msub_none_at b a m H2b.out BL.out AL.out ML.out NV2.out).mono ?_
  rintro e w3 ⟨rfl, h⟩
  have H3 := hid h
  clear h H2b
  obtain ⟨c0x3a, c0x3b, c0x3c, c0x3d⟩ := H3.out.cell (g_a) (a) (by simp)
  have c0x3l := H3.out.lt (g_a) (a) (by simp)
  have c0x3m := Nat.le_of_lt c0x3l
  obtain ⟨c6x3a, c6x3b, c6x3c, c6x3d⟩ := H3.out.cell (g_b) (b) (by simp)
  have c6x3l := H3.out.lt (g_b) (b) (by simp)
  have c6x3m := Nat.le_of_lt c6x3l
  obtain ⟨c12x3a, c12x3b, c12x3c, c12x3d⟩ := H3.out.cell (g_c) (m) (by simp)
  have c12x3l := H3.out.lt (g_c) (m) (by simp)
  have c12x3m := Nat.le_of_lt c12x3l
  go_wp2_with fail
  clear c0x3a c0x3b c0x3c c0x3d c0x3l c0x3m c6x3a c6x3b c6x3c c6x3d c6x3l c6x3m c12x3a c12x3b c12x3c c12x3d c12x3l c12x3m
  have H3b := hid (H3.out.new 0)
  clear H3
  generalize w3.alloc (.cells (cls 0) 24) = w3b at *
  generalize w3.heap.size = g11 at *
  refine (mmul_none_at b a m H3b.out BL.out AL.out ML.out NV2.out).mono ?_
  rintro e w4 ⟨rfl, h⟩
  have H4 := hid h
  clear h H3b
  obtain ⟨c0x4a, c0x4b, c0x4c, c0x4d⟩ := H4.out.cell (g_a) (a) (by simp)
  have c0x4l := H4.out.lt (g_a) (a) (by simp)
  have c0x4m := Nat.le_of_lt c0x4l
  obtain ⟨c6x4a, c6x4b, c6x4c, c6x4d⟩ := H4.out.cell (g_b) (b) (by simp)
  have c6x4l := H4.out.lt (g_b) (b) (by simp)
  have c6x4m := Nat.le_of_lt c6x4l
  obtain ⟨c12x4a, c12x4b, c12x4c, c12x4d⟩ := H4.out.cell (g_c) (m) (by simp)
  have c12x4l := H4.out.lt (g_c) (m) (by simp)
  have c12x4m := Nat.le_of_lt c12x4l
  go_wp2_with fail
  clear c0x4a c0x4b c0x4c c0x4d c0x4l c0x4m c6x4a c6x4b c6x4c c6x4d c6x4l c6x4m c12x4a c12x4b c12x4c c12x4d c12x4l c12x4m
  have H4b := hid (H4.out.new 0)
  clear H4
  generalize w4.alloc (.cells (cls 0) 24) = w4b at *
  generalize w4.heap.size = g13 at *
  refine (mexp_arg_at a b m H4b.out AL.out BL.out ML.out NB.out).mono ?_
  rintro e w5 ⟨rfl, h⟩
  have H5 := hid h
  clear h H4b
  obtain ⟨c0x5a, c0x5b, c0x5c, c0x5d⟩ := H5.out.cell (g_a) (a) (by simp)
  have c0x5l := H5.out.lt (g_a) (a) (by simp)
  have c0x5m := Nat.le_of_lt c0x5l
  obtain ⟨c6x5a, c6x5b, c6x5c, c6x5d⟩ := H5.out.cell (g_c) (m) (by simp)
  have c6x5l := H5.out.lt (g_c) (m) (by simp)
  have c6x5m := Nat.le_of_lt c6x5l
  go_wp2_with fail
  clear c0x5a c0x5b c0x5c c0x5d c0x5l c0x5m c6x5a c6x5b c6x5c c6x5d c6x5l c6x5m
  have H5b := hid (H5.out.new 0)
  clear H5
  generalize w5.alloc (.cells (cls 0) 24) = w5b at *
  generalize w5.heap.size = g15 at *
  refine (minv_arg_at a m H5b.out AL.out ML.out NB.out).mono ?_
  rintro e w6 ⟨rfl, h⟩
  have H6 := hid h
  clear h H5b
  go_upto_region 8 with fail
  have H6b := hid (H6.out.new 0)
  clear H6
  generalize w6.alloc (.cells (cls 0) 24) = w6b at *
  generalize w6.heap.size = g17 at *
  go_wp2_with fail
  refine (alive_at H6b.out).mono ?_
  rintro e w7 ⟨rfl, h⟩
  have H7 := hid h
  clear h H6b
  go_wp2
  go_ret
  exact ⟨rfl, H7.out.1⟩
set_option maxRecDepth 100000 in
set_option maxHeartbeats 4000000 in
theorem beyond_first (a b m : Nat) (w : World) (ha : a < 2 ^ 256) (hb : b < 2 ^ 256) (hm : m < 2 ^ 256) (h1 : 1 < m) (h2 : ¬ a < m) : Calls Try.prog 8 #[num a, num b, num m] w fun e w' => e = .returned (.bool true) ∧ Below w.heap.size w w' := by
  have AL := hid ha
  have BL := hid hb
  have ML := hid hm
  have HV : Hid (decide (m ≤ 1) = false) := hid (by simpa using h1)
  have NV : Hid (¬ (1 < m ∧ a < m ∧ b < m)) := hid (by omega)
  have NV2 : Hid (¬ (1 < m ∧ b < m ∧ a < m)) := hid (by omega)
  have NB : Hid (¬ (1 < m ∧ a < m)) := hid (by omega)
  obtain ⟨ca, eca⟩ : ∃ c, cmpN a m = c := ⟨_, rfl⟩
  have hca : 0 ≤ ca := by rw [← eca]; unfold cmpN; split <;> (try split) <;> omega
  have Ca := hid eca
  clear eca
  clear ha hb hm h1 h2
  have H0 := hid (((((Env.refl w).new a).new b).new m).perm (l' := [(w.heap.size + 1 + 1, m), (w.heap.size + 1, b), (w.heap.size, a)]) (by simp))
  go_enter Try.func8, Try.ntmps8
  go_wp2_with fail
  generalize ((w.alloc (.cells (cls a) 24)).alloc (.cells (cls b) 24)).alloc (.cells (cls m) 24) = w0 at *
  generalize w.heap.size + 1 + 1 = g_c at *
  generalize w.heap.size + 1 = g_b at *
  generalize hzg_a : w.heap.size = g_a at *
  refine (low_at m false H0.out ML.out HV.out).mono ?_
  rintro e w1 ⟨rfl, h⟩
  have H1 := hid h
  clear h H0
  obtain ⟨c0x1a, c0x1b, c0x1c, c0x1d⟩ := H1.out.cell (g_a) (a) (by simp)
  have c0x1l := H1.out.lt (g_a) (a) (by simp)
  have c0x1m := Nat.le_of_lt c0x1l
  obtain ⟨c6x1a, c6x1b, c6x1c, c6x1d⟩ := H1.out.cell (g_c) (m) (by simp)
  have c6x1l := H1.out.lt (g_c) (m) (by simp)
  have c6x1m := Nat.le_of_lt c6x1l
  go_wp2_with fail
  clear c0x1a c0x1b c0x1c c0x1d c0x1l c0x1m c6x1a c6x1b c6x1c c6x1d c6x1l c6x1m
  refine (cmp_at a m ca H1.out AL.out ML.out Ca.out).mono ?_
  rintro e w2 ⟨rfl, h⟩
  have H2 := hid h
  clear h H1
  obtain ⟨c0x2a, c0x2b, c0x2c, c0x2d⟩ := H2.out.cell (g_a) (a) (by simp)
  have c0x2l := H2.out.lt (g_a) (a) (by simp)
  have c0x2m := Nat.le_of_lt c0x2l
  obtain ⟨c6x2a, c6x2b, c6x2c, c6x2d⟩ := H2.out.cell (g_b) (b) (by simp)
  have c6x2l := H2.out.lt (g_b) (b) (by simp)
  have c6x2m := Nat.le_of_lt c6x2l
  obtain ⟨c12x2a, c12x2b, c12x2c, c12x2d⟩ := H2.out.cell (g_c) (m) (by simp)
  have c12x2l := H2.out.lt (g_c) (m) (by simp)
  have c12x2m := Nat.le_of_lt c12x2l
  go_wp2_with fail
  clear c0x2a c0x2b c0x2c c0x2d c0x2l c0x2m c6x2a c6x2b c6x2c c6x2d c6x2l c6x2m c12x2a c12x2b c12x2c c12x2d c12x2l c12x2m
  refine (madd_none_at a b m H2.out AL.out BL.out ML.out NV.out).mono ?_
  rintro e w3 ⟨rfl, h⟩
  have H3 := hid h
  clear h H2
  obtain ⟨c0x3a, c0x3b, c0x3c, c0x3d⟩ := H3.out.cell (g_a) (a) (by simp)
  have c0x3l := H3.out.lt (g_a) (a) (by simp)
  have c0x3m := Nat.le_of_lt c0x3l
  obtain ⟨c6x3a, c6x3b, c6x3c, c6x3d⟩ := H3.out.cell (g_b) (b) (by simp)
  have c6x3l := H3.out.lt (g_b) (b) (by simp)
  have c6x3m := Nat.le_of_lt c6x3l
  obtain ⟨c12x3a, c12x3b, c12x3c, c12x3d⟩ := H3.out.cell (g_c) (m) (by simp)
  have c12x3l := H3.out.lt (g_c) (m) (by simp)
  have c12x3m := Nat.le_of_lt c12x3l
  go_wp2_with fail
  clear c0x3a c0x3b c0x3c c0x3d c0x3l c0x3m c6x3a c6x3b c6x3c c6x3d c6x3l c6x3m c12x3a c12x3b c12x3c c12x3d c12x3l c12x3m
  have H3b := hid (H3.out.new 0)
  clear H3
  generalize w3.alloc (.cells (cls 0) 24) = w3b at *
  generalize w3.heap.size = g9 at *
  refine (msub_none_at b a m H3b.out BL.out AL.out ML.out NV2.out).mono ?_
  rintro e w4 ⟨rfl, h⟩
  have H4 := hid h
  clear h H3b
  obtain ⟨c0x4a, c0x4b, c0x4c, c0x4d⟩ := H4.out.cell (g_a) (a) (by simp)
  have c0x4l := H4.out.lt (g_a) (a) (by simp)
  have c0x4m := Nat.le_of_lt c0x4l
  obtain ⟨c6x4a, c6x4b, c6x4c, c6x4d⟩ := H4.out.cell (g_b) (b) (by simp)
  have c6x4l := H4.out.lt (g_b) (b) (by simp)
  have c6x4m := Nat.le_of_lt c6x4l
  obtain ⟨c12x4a, c12x4b, c12x4c, c12x4d⟩ := H4.out.cell (g_c) (m) (by simp)
  have c12x4l := H4.out.lt (g_c) (m) (by simp)
  have c12x4m := Nat.le_of_lt c12x4l
  go_wp2_with fail
  clear c0x4a c0x4b c0x4c c0x4d c0x4l c0x4m c6x4a c6x4b c6x4c c6x4d c6x4l c6x4m c12x4a c12x4b c12x4c c12x4d c12x4l c12x4m
  have H4b := hid (H4.out.new 0)
  clear H4
  generalize w4.alloc (.cells (cls 0) 24) = w4b at *
  generalize w4.heap.size = g11 at *
  refine (mmul_none_at b a m H4b.out BL.out AL.out ML.out NV2.out).mono ?_
  rintro e w5 ⟨rfl, h⟩
  have H5 := hid h
  clear h H4b
  obtain ⟨c0x5a, c0x5b, c0x5c, c0x5d⟩ := H5.out.cell (g_a) (a) (by simp)
  have c0x5l := H5.out.lt (g_a) (a) (by simp)
  have c0x5m := Nat.le_of_lt c0x5l
  obtain ⟨c6x5a, c6x5b, c6x5c, c6x5d⟩ := H5.out.cell (g_b) (b) (by simp)
  have c6x5l := H5.out.lt (g_b) (b) (by simp)
  have c6x5m := Nat.le_of_lt c6x5l
  obtain ⟨c12x5a, c12x5b, c12x5c, c12x5d⟩ := H5.out.cell (g_c) (m) (by simp)
  have c12x5l := H5.out.lt (g_c) (m) (by simp)
  have c12x5m := Nat.le_of_lt c12x5l
  go_wp2_with fail
  clear c0x5a c0x5b c0x5c c0x5d c0x5l c0x5m c6x5a c6x5b c6x5c c6x5d c6x5l c6x5m c12x5a c12x5b c12x5c c12x5d c12x5l c12x5m
  have H5b := hid (H5.out.new 0)
  clear H5
  generalize w5.alloc (.cells (cls 0) 24) = w5b at *
  generalize w5.heap.size = g13 at *
  refine (mexp_arg_at a b m H5b.out AL.out BL.out ML.out NB.out).mono ?_
  rintro e w6 ⟨rfl, h⟩
  have H6 := hid h
  clear h H5b
  obtain ⟨c0x6a, c0x6b, c0x6c, c0x6d⟩ := H6.out.cell (g_a) (a) (by simp)
  have c0x6l := H6.out.lt (g_a) (a) (by simp)
  have c0x6m := Nat.le_of_lt c0x6l
  obtain ⟨c6x6a, c6x6b, c6x6c, c6x6d⟩ := H6.out.cell (g_c) (m) (by simp)
  have c6x6l := H6.out.lt (g_c) (m) (by simp)
  have c6x6m := Nat.le_of_lt c6x6l
  go_wp2_with fail
  clear c0x6a c0x6b c0x6c c0x6d c0x6l c0x6m c6x6a c6x6b c6x6c c6x6d c6x6l c6x6m
  have H6b := hid (H6.out.new 0)
  clear H6
  generalize w6.alloc (.cells (cls 0) 24) = w6b at *
  generalize w6.heap.size = g15 at *
  refine (minv_arg_at a m H6b.out AL.out ML.out NB.out).mono ?_
  rintro e w7 ⟨rfl, h⟩
  have H7 := hid h
  clear h H6b
  go_upto_region 8 with fail
  have H7b := hid (H7.out.new 0)
  clear H7
  generalize w7.alloc (.cells (cls 0) 24) = w7b at *
  generalize w7.heap.size = g17 at *
  go_wp2_with fail
  refine (alive_at H7b.out).mono ?_
  rintro e w8 ⟨rfl, h⟩
  have H8 := hid h
  clear h H7b
  go_wp2
  go_ret
  exact ⟨rfl, H8.out.1⟩
set_option maxRecDepth 100000 in
set_option maxHeartbeats 4000000 in
theorem beyond_second (a b m : Nat) (w : World) (ha : a < 2 ^ 256) (hb : b < 2 ^ 256) (hm : m < 2 ^ 256) (h1 : 1 < m) (h2 : a < m) (h3 : ¬ b < m) : Calls Try.prog 8 #[num a, num b, num m] w fun e w' => e = .returned (.bool true) ∧ Below w.heap.size w w' := by
  have AL := hid ha
  have BL := hid hb
  have ML := hid hm
  have HV : Hid (decide (m ≤ 1) = false) := hid (by simpa using h1)
  have NV : Hid (¬ (1 < m ∧ a < m ∧ b < m)) := hid (by omega)
  have NV2 : Hid (¬ (1 < m ∧ b < m ∧ a < m)) := hid (by omega)
  have M1 := hid h1
  have AM := hid h2
  obtain ⟨e, ee⟩ : ∃ z, a ^ b % m = z := ⟨_, rfl⟩
  have EE := hid ee
  clear ee
  have Ca : Hid (cmpN a m = -1) := hid (by unfold cmpN; rw [if_pos (by omega)])
  obtain ⟨cb, ecb⟩ : ∃ c, cmpN b m = c := ⟨_, rfl⟩
  have hcb : 0 ≤ cb := by rw [← ecb]; unfold cmpN; split <;> (try split) <;> omega
  have Cb := hid ecb
  clear ecb
  clear ha hb hm h1 h2 h3
  have H0 := hid (((((Env.refl w).new a).new b).new m).perm (l' := [(w.heap.size + 1 + 1, m), (w.heap.size + 1, b), (w.heap.size, a)]) (by simp))
  go_enter Try.func8, Try.ntmps8
  go_wp2_with fail
  generalize ((w.alloc (.cells (cls a) 24)).alloc (.cells (cls b) 24)).alloc (.cells (cls m) 24) = w0 at *
  generalize w.heap.size + 1 + 1 = g_c at *
  generalize w.heap.size + 1 = g_b at *
  generalize hzg_a : w.heap.size = g_a at *
  refine (low_at m false H0.out ML.out HV.out).mono ?_
  rintro e w1 ⟨rfl, h⟩
  have H1 := hid h
  clear h H0
  obtain ⟨c0x1a, c0x1b, c0x1c, c0x1d⟩ := H1.out.cell (g_a) (a) (by simp)
  have c0x1l := H1.out.lt (g_a) (a) (by simp)
  have c0x1m := Nat.le_of_lt c0x1l
  obtain ⟨c6x1a, c6x1b, c6x1c, c6x1d⟩ := H1.out.cell (g_c) (m) (by simp)
  have c6x1l := H1.out.lt (g_c) (m) (by simp)
  have c6x1m := Nat.le_of_lt c6x1l
  go_wp2_with fail
  clear c0x1a c0x1b c0x1c c0x1d c0x1l c0x1m c6x1a c6x1b c6x1c c6x1d c6x1l c6x1m
  refine (cmp_at a m (-1) H1.out AL.out ML.out Ca.out).mono ?_
  rintro e w2 ⟨rfl, h⟩
  have H2 := hid h
  clear h H1
  obtain ⟨c0x2a, c0x2b, c0x2c, c0x2d⟩ := H2.out.cell (g_b) (b) (by simp)
  have c0x2l := H2.out.lt (g_b) (b) (by simp)
  have c0x2m := Nat.le_of_lt c0x2l
  obtain ⟨c6x2a, c6x2b, c6x2c, c6x2d⟩ := H2.out.cell (g_c) (m) (by simp)
  have c6x2l := H2.out.lt (g_c) (m) (by simp)
  have c6x2m := Nat.le_of_lt c6x2l
  go_wp2_with fail
  clear c0x2a c0x2b c0x2c c0x2d c0x2l c0x2m c6x2a c6x2b c6x2c c6x2d c6x2l c6x2m
  refine (cmp_at b m cb H2.out BL.out ML.out Cb.out).mono ?_
  rintro e w3 ⟨rfl, h⟩
  have H3 := hid h
  clear h H2
  obtain ⟨c0x3a, c0x3b, c0x3c, c0x3d⟩ := H3.out.cell (g_a) (a) (by simp)
  have c0x3l := H3.out.lt (g_a) (a) (by simp)
  have c0x3m := Nat.le_of_lt c0x3l
  obtain ⟨c6x3a, c6x3b, c6x3c, c6x3d⟩ := H3.out.cell (g_b) (b) (by simp)
  have c6x3l := H3.out.lt (g_b) (b) (by simp)
  have c6x3m := Nat.le_of_lt c6x3l
  obtain ⟨c12x3a, c12x3b, c12x3c, c12x3d⟩ := H3.out.cell (g_c) (m) (by simp)
  have c12x3l := H3.out.lt (g_c) (m) (by simp)
  have c12x3m := Nat.le_of_lt c12x3l
  go_wp2_with fail
  clear c0x3a c0x3b c0x3c c0x3d c0x3l c0x3m c6x3a c6x3b c6x3c c6x3d c6x3l c6x3m c12x3a c12x3b c12x3c c12x3d c12x3l c12x3m
  refine (madd_none_at a b m H3.out AL.out BL.out ML.out NV.out).mono ?_
  rintro e w4 ⟨rfl, h⟩
  have H4 := hid h
  clear h H3
  obtain ⟨c0x4a, c0x4b, c0x4c, c0x4d⟩ := H4.out.cell (g_a) (a) (by simp)
  have c0x4l := H4.out.lt (g_a) (a) (by simp)
  have c0x4m := Nat.le_of_lt c0x4l
  obtain ⟨c6x4a, c6x4b, c6x4c, c6x4d⟩ := H4.out.cell (g_b) (b) (by simp)
  have c6x4l := H4.out.lt (g_b) (b) (by simp)
  have c6x4m := Nat.le_of_lt c6x4l
  obtain ⟨c12x4a, c12x4b, c12x4c, c12x4d⟩ := H4.out.cell (g_c) (m) (by simp)
  have c12x4l := H4.out.lt (g_c) (m) (by simp)
  have c12x4m := Nat.le_of_lt c12x4l
  go_wp2_with fail
  clear c0x4a c0x4b c0x4c c0x4d c0x4l c0x4m c6x4a c6x4b c6x4c c6x4d c6x4l c6x4m c12x4a c12x4b c12x4c c12x4d c12x4l c12x4m
  have H4b := hid (H4.out.new 0)
  clear H4
  generalize w4.alloc (.cells (cls 0) 24) = w4b at *
  generalize w4.heap.size = g9 at *
  refine (msub_none_at b a m H4b.out BL.out AL.out ML.out NV2.out).mono ?_
  rintro e w5 ⟨rfl, h⟩
  have H5 := hid h
  clear h H4b
  obtain ⟨c0x5a, c0x5b, c0x5c, c0x5d⟩ := H5.out.cell (g_a) (a) (by simp)
  have c0x5l := H5.out.lt (g_a) (a) (by simp)
  have c0x5m := Nat.le_of_lt c0x5l
  obtain ⟨c6x5a, c6x5b, c6x5c, c6x5d⟩ := H5.out.cell (g_b) (b) (by simp)
  have c6x5l := H5.out.lt (g_b) (b) (by simp)
  have c6x5m := Nat.le_of_lt c6x5l
  obtain ⟨c12x5a, c12x5b, c12x5c, c12x5d⟩ := H5.out.cell (g_c) (m) (by simp)
  have c12x5l := H5.out.lt (g_c) (m) (by simp)
  have c12x5m := Nat.le_of_lt c12x5l
  go_wp2_with fail
  clear c0x5a c0x5b c0x5c c0x5d c0x5l c0x5m c6x5a c6x5b c6x5c c6x5d c6x5l c6x5m c12x5a c12x5b c12x5c c12x5d c12x5l c12x5m
  have H5b := hid (H5.out.new 0)
  clear H5
  generalize w5.alloc (.cells (cls 0) 24) = w5b at *
  generalize w5.heap.size = g11 at *
  refine (mmul_none_at b a m H5b.out BL.out AL.out ML.out NV2.out).mono ?_
  rintro e w6 ⟨rfl, h⟩
  have H6 := hid h
  clear h H5b
  obtain ⟨c0x6a, c0x6b, c0x6c, c0x6d⟩ := H6.out.cell (g_a) (a) (by simp)
  have c0x6l := H6.out.lt (g_a) (a) (by simp)
  have c0x6m := Nat.le_of_lt c0x6l
  obtain ⟨c6x6a, c6x6b, c6x6c, c6x6d⟩ := H6.out.cell (g_b) (b) (by simp)
  have c6x6l := H6.out.lt (g_b) (b) (by simp)
  have c6x6m := Nat.le_of_lt c6x6l
  obtain ⟨c12x6a, c12x6b, c12x6c, c12x6d⟩ := H6.out.cell (g_c) (m) (by simp)
  have c12x6l := H6.out.lt (g_c) (m) (by simp)
  have c12x6m := Nat.le_of_lt c12x6l
  go_wp2_with fail
  clear c0x6a c0x6b c0x6c c0x6d c0x6l c0x6m c6x6a c6x6b c6x6c c6x6d c6x6l c6x6m c12x6a c12x6b c12x6c c12x6d c12x6l c12x6m
  have H6b := hid (H6.out.new 0)
  clear H6
  generalize w6.alloc (.cells (cls 0) 24) = w6b at *
  generalize w6.heap.size = g13 at *
  refine (mexp_full_at a b m e H6b.out BL.out ML.out M1.out AM.out EE.out).mono ?_
  rintro e w7 ⟨rfl, h⟩
  have H7 := hid h
  clear h H6b
  obtain ⟨c0x7a, c0x7b, c0x7c, c0x7d⟩ := H7.out.cell (g_a) (a) (by simp)
  have c0x7l := H7.out.lt (g_a) (a) (by simp)
  have c0x7m := Nat.le_of_lt c0x7l
  obtain ⟨c6x7a, c6x7b, c6x7c, c6x7d⟩ := H7.out.cell (g_c) (m) (by simp)
  have c6x7l := H7.out.lt (g_c) (m) (by simp)
  have c6x7m := Nat.le_of_lt c6x7l
  go_wp2_with fail
  clear c0x7a c0x7b c0x7c c0x7d c0x7l c0x7m c6x7a c6x7b c6x7c c6x7d c6x7l c6x7m
  have H7b := hid (H7.out.new e)
  clear H7
  generalize w7.alloc (.cells (cls e) 24) = w7b at *
  generalize w7.heap.size = g15 at *
  refine (minv_e_at a m H7b.out ML.out M1.out AM.out).mono ?_
  rintro e2 wi ⟨he, h⟩
  have HI := hid h
  clear h H7b
  rcases he with ⟨v, hv, rfl⟩ | ⟨hg, rfl⟩
  · skip
    go_upto_region 8 with fail
    have H8b := hid (HI.out.new v)
    clear HI
    generalize wi.alloc (.cells (cls v) 24) = w8b at *
    generalize wi.heap.size = g17 at *
    go_wp2_with fail
    refine (alive_at H8b.out).mono ?_
    rintro e w9 ⟨rfl, h⟩
    have H9 := hid h
    clear h H8b
    go_wp2
    go_ret
    exact ⟨rfl, H9.out.1⟩
  · skip
    go_upto_region 8 with fail
    have H8b := hid (HI.out.new 0)
    clear HI
    generalize wi.alloc (.cells (cls 0) 24) = w8b at *
    generalize wi.heap.size = g17 at *
    go_wp2_with fail
    refine (alive_at H8b.out).mono ?_
    rintro e w9 ⟨rfl, h⟩
    have H9 := hid h
    clear h H8b
    go_wp2
    go_ret
    exact ⟨rfl, H9.out.1⟩
set_option maxRecDepth 100000 in
set_option maxHeartbeats 4000000 in
theorem beyond_none (a b m : Nat) (w : World) (ha : a < 2 ^ 256) (hb : b < 2 ^ 256) (hm : m < 2 ^ 256) (h1 : 1 < m) (h2 : a < m) (h3 : b < m) : Calls Try.prog 8 #[num a, num b, num m] w fun e w' => e = .returned (.bool true) ∧ Below w.heap.size w w' := by
  have AL := hid ha
  have BL := hid hb
  have ML := hid hm
  have HV : Hid (decide (m ≤ 1) = false) := hid (by simpa using h1)
  have M1 := hid h1
  have AM := hid h2
  obtain ⟨e, ee⟩ : ∃ z, a ^ b % m = z := ⟨_, rfl⟩
  have EE := hid ee
  clear ee
  have BM := hid h3
  obtain ⟨r, er⟩ : ∃ z, (a + b) % m = z := ⟨_, rfl⟩
  have Er := hid er
  clear er
  obtain ⟨s, es⟩ : ∃ z, (b + (m - a)) % m = z := ⟨_, rfl⟩
  have Es := hid es
  clear es
  obtain ⟨t, et⟩ : ∃ z, b * a % m = z := ⟨_, rfl⟩
  have Et := hid et
  clear et
  have Ca : Hid (cmpN a m = -1) := hid (by unfold cmpN; rw [if_pos (by omega)])
  have Cb : Hid (cmpN b m = -1) := hid (by unfold cmpN; rw [if_pos (by omega)])
  clear ha hb hm h1 h2 h3
  have H0 := hid (((((Env.refl w).new a).new b).new m).perm (l' := [(w.heap.size + 1 + 1, m), (w.heap.size + 1, b), (w.heap.size, a)]) (by simp))
  go_enter Try.func8, Try.ntmps8
  go_wp2_with fail
  generalize ((w.alloc (.cells (cls a) 24)).alloc (.cells (cls b) 24)).alloc (.cells (cls m) 24) = w0 at *
  generalize w.heap.size + 1 + 1 = g_c at *
  generalize w.heap.size + 1 = g_b at *
  generalize hzg_a : w.heap.size = g_a at *
  refine (low_at m false H0.out ML.out HV.out).mono ?_
  rintro e w1 ⟨rfl, h⟩
  have H1 := hid h
  clear h H0
  obtain ⟨c0x1a, c0x1b, c0x1c, c0x1d⟩ := H1.out.cell (g_a) (a) (by simp)
  have c0x1l := H1.out.lt (g_a) (a) (by simp)
  have c0x1m := Nat.le_of_lt c0x1l
  obtain ⟨c6x1a, c6x1b, c6x1c, c6x1d⟩ := H1.out.cell (g_c) (m) (by simp)
  have c6x1l := H1.out.lt (g_c) (m) (by simp)
  have c6x1m := Nat.le_of_lt c6x1l
  go_wp2_with fail
  clear c0x1a c0x1b c0x1c c0x1d c0x1l c0x1m c6x1a c6x1b c6x1c c6x1d c6x1l c6x1m
  refine (cmp_at a m (-1) H1.out AL.out ML.out Ca.out).mono ?_
  rintro e w2 ⟨rfl, h⟩
  have H2 := hid h
  clear h H1
  obtain ⟨c0x2a, c0x2b, c0x2c, c0x2d⟩ := H2.out.cell (g_b) (b) (by simp)
  have c0x2l := H2.out.lt (g_b) (b) (by simp)
  have c0x2m := Nat.le_of_lt c0x2l
  obtain ⟨c6x2a, c6x2b, c6x2c, c6x2d⟩ := H2.out.cell (g_c) (m) (by simp)
  have c6x2l := H2.out.lt (g_c) (m) (by simp)
  have c6x2m := Nat.le_of_lt c6x2l
  go_wp2_with fail
  clear c0x2a c0x2b c0x2c c0x2d c0x2l c0x2m c6x2a c6x2b c6x2c c6x2d c6x2l c6x2m
  refine (cmp_at b m (-1) H2.out BL.out ML.out Cb.out).mono ?_
  rintro e w3 ⟨rfl, h⟩
  have H3 := hid h
  clear h H2
  obtain ⟨c0x3a, c0x3b, c0x3c, c0x3d⟩ := H3.out.cell (g_a) (a) (by simp)
  have c0x3l := H3.out.lt (g_a) (a) (by simp)
  have c0x3m := Nat.le_of_lt c0x3l
  obtain ⟨c6x3a, c6x3b, c6x3c, c6x3d⟩ := H3.out.cell (g_b) (b) (by simp)
  have c6x3l := H3.out.lt (g_b) (b) (by simp)
  have c6x3m := Nat.le_of_lt c6x3l
  obtain ⟨c12x3a, c12x3b, c12x3c, c12x3d⟩ := H3.out.cell (g_c) (m) (by simp)
  have c12x3l := H3.out.lt (g_c) (m) (by simp)
  have c12x3m := Nat.le_of_lt c12x3l
  go_wp2_with fail
  clear c0x3a c0x3b c0x3c c0x3d c0x3l c0x3m c6x3a c6x3b c6x3c c6x3d c6x3l c6x3m c12x3a c12x3b c12x3c c12x3d c12x3l c12x3m
  refine (madd_at a b m r H3.out ML.out M1.out AM.out BM.out Er.out).mono ?_
  rintro e w4 ⟨rfl, h⟩
  have H4 := hid h
  clear h H3
  obtain ⟨c0x4a, c0x4b, c0x4c, c0x4d⟩ := H4.out.cell (g_a) (a) (by simp)
  have c0x4l := H4.out.lt (g_a) (a) (by simp)
  have c0x4m := Nat.le_of_lt c0x4l
  obtain ⟨c6x4a, c6x4b, c6x4c, c6x4d⟩ := H4.out.cell (g_b) (b) (by simp)
  have c6x4l := H4.out.lt (g_b) (b) (by simp)
  have c6x4m := Nat.le_of_lt c6x4l
  obtain ⟨c12x4a, c12x4b, c12x4c, c12x4d⟩ := H4.out.cell (g_c) (m) (by simp)
  have c12x4l := H4.out.lt (g_c) (m) (by simp)
  have c12x4m := Nat.le_of_lt c12x4l
  go_wp2_with fail
  clear c0x4a c0x4b c0x4c c0x4d c0x4l c0x4m c6x4a c6x4b c6x4c c6x4d c6x4l c6x4m c12x4a c12x4b c12x4c c12x4d c12x4l c12x4m
  have H4b := hid (H4.out.new r)
  clear H4
  generalize w4.alloc (.cells (cls r) 24) = w4b at *
  generalize w4.heap.size = g9 at *
  refine (msub_at b a m s H4b.out ML.out M1.out BM.out AM.out Es.out).mono ?_
  rintro e w5 ⟨rfl, h⟩
  have H5 := hid h
  clear h H4b
  obtain ⟨c0x5a, c0x5b, c0x5c, c0x5d⟩ := H5.out.cell (g_a) (a) (by simp)
  have c0x5l := H5.out.lt (g_a) (a) (by simp)
  have c0x5m := Nat.le_of_lt c0x5l
  obtain ⟨c6x5a, c6x5b, c6x5c, c6x5d⟩ := H5.out.cell (g_b) (b) (by simp)
  have c6x5l := H5.out.lt (g_b) (b) (by simp)
  have c6x5m := Nat.le_of_lt c6x5l
  obtain ⟨c12x5a, c12x5b, c12x5c, c12x5d⟩ := H5.out.cell (g_c) (m) (by simp)
  have c12x5l := H5.out.lt (g_c) (m) (by simp)
  have c12x5m := Nat.le_of_lt c12x5l
  go_wp2_with fail
  clear c0x5a c0x5b c0x5c c0x5d c0x5l c0x5m c6x5a c6x5b c6x5c c6x5d c6x5l c6x5m c12x5a c12x5b c12x5c c12x5d c12x5l c12x5m
  have H5b := hid (H5.out.new s)
  clear H5
  generalize w5.alloc (.cells (cls s) 24) = w5b at *
  generalize w5.heap.size = g11 at *
  refine (mmul_at b a m t H5b.out ML.out M1.out BM.out AM.out Et.out).mono ?_
  rintro e w6 ⟨rfl, h⟩
  have H6 := hid h
  clear h H5b
  obtain ⟨c0x6a, c0x6b, c0x6c, c0x6d⟩ := H6.out.cell (g_a) (a) (by simp)
  have c0x6l := H6.out.lt (g_a) (a) (by simp)
  have c0x6m := Nat.le_of_lt c0x6l
  obtain ⟨c6x6a, c6x6b, c6x6c, c6x6d⟩ := H6.out.cell (g_b) (b) (by simp)
  have c6x6l := H6.out.lt (g_b) (b) (by simp)
  have c6x6m := Nat.le_of_lt c6x6l
  obtain ⟨c12x6a, c12x6b, c12x6c, c12x6d⟩ := H6.out.cell (g_c) (m) (by simp)
  have c12x6l := H6.out.lt (g_c) (m) (by simp)
  have c12x6m := Nat.le_of_lt c12x6l
  go_wp2_with fail
  clear c0x6a c0x6b c0x6c c0x6d c0x6l c0x6m c6x6a c6x6b c6x6c c6x6d c6x6l c6x6m c12x6a c12x6b c12x6c c12x6d c12x6l c12x6m
  have H6b := hid (H6.out.new t)
  clear H6
  generalize w6.alloc (.cells (cls t) 24) = w6b at *
  generalize w6.heap.size = g13 at *
  refine (mexp_full_at a b m e H6b.out BL.out ML.out M1.out AM.out EE.out).mono ?_
  rintro e w7 ⟨rfl, h⟩
  have H7 := hid h
  clear h H6b
  obtain ⟨c0x7a, c0x7b, c0x7c, c0x7d⟩ := H7.out.cell (g_a) (a) (by simp)
  have c0x7l := H7.out.lt (g_a) (a) (by simp)
  have c0x7m := Nat.le_of_lt c0x7l
  obtain ⟨c6x7a, c6x7b, c6x7c, c6x7d⟩ := H7.out.cell (g_c) (m) (by simp)
  have c6x7l := H7.out.lt (g_c) (m) (by simp)
  have c6x7m := Nat.le_of_lt c6x7l
  go_wp2_with fail
  clear c0x7a c0x7b c0x7c c0x7d c0x7l c0x7m c6x7a c6x7b c6x7c c6x7d c6x7l c6x7m
  have H7b := hid (H7.out.new e)
  clear H7
  generalize w7.alloc (.cells (cls e) 24) = w7b at *
  generalize w7.heap.size = g15 at *
  refine (minv_e_at a m H7b.out ML.out M1.out AM.out).mono ?_
  rintro e2 wi ⟨he, h⟩
  have HI := hid h
  clear h H7b
  rcases he with ⟨v, hv, rfl⟩ | ⟨hg, rfl⟩
  · skip
    go_upto_region 8 with fail
    have H8b := hid (HI.out.new v)
    clear HI
    generalize wi.alloc (.cells (cls v) 24) = w8b at *
    generalize wi.heap.size = g17 at *
    go_wp2_with fail
    refine (alive_at H8b.out).mono ?_
    rintro e w9 ⟨rfl, h⟩
    have H9 := hid h
    clear h H8b
    go_wp2
    go_ret
    exact ⟨rfl, H9.out.1⟩
  · skip
    go_upto_region 8 with fail
    have H8b := hid (HI.out.new 0)
    clear HI
    generalize wi.alloc (.cells (cls 0) 24) = w8b at *
    generalize wi.heap.size = g17 at *
    go_wp2_with fail
    refine (alive_at H8b.out).mono ?_
    rintro e w9 ⟨rfl, h⟩
    have H9 := hid h
    clear h H8b
    go_wp2
    go_ret
    exact ⟨rfl, H9.out.1⟩
theorem beyondLaw_any (a b m : Nat) (w : World) (ha : a < 2 ^ 256) (hb : b < 2 ^ 256) (hm : m < 2 ^ 256) : Calls Try.prog 8 #[num a, num b, num m] w fun e w' => e = .returned (.bool true) ∧ Below w.heap.size w w' := by
  rcases Nat.lt_or_ge 1 m with h1 | h1
  · by_cases h2 : a < m
    · by_cases h3 : b < m
      · exact beyond_none a b m w ha hb hm h1 h2 h3
      · exact beyond_second a b m w ha hb hm h1 h2 h3
    · exact beyond_first a b m w ha hb hm h1 h2
  · exact beyond_low a b m w ha hb hm h1
end Go.Proofs.Ytmeofgnmmbcklaa
