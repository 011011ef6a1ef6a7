/-
  burrowlaw04.alive, rest, low, says, walked: the chapter's examples come out as they stand there. Conditions: none.
-/
import Derived.Test.YtaggegknnnembaaDoorExs
namespace Go.Proofs.YtaggegknnnembaaDoor
open Go.RowKit
set_option linter.unusedVariables false

set_option maxRecDepth 100000 in
set_option maxHeartbeats 4000000 in
theorem rest_any (a b : Nat) (w : World) (ha : a < 2 ^ 256) (hb : b < 2 ^ 256) (h0 : b ≠ 0) : Calls Tryd.prog 8 #[num a, num b] w fun e w' => e = .returned (num (a % b)) ∧ Below w.heap.size w w' := by
  obtain ⟨q, eq⟩ : ∃ q, a / b = q := ⟨_, rfl⟩
  obtain ⟨r, er⟩ : ∃ r, a % b = r := ⟨_, rfl⟩
  have A1 := hid ha
  have B1 := hid hb
  have B0 := hid h0
  have EQ := hid eq
  have ER := hid er
  clear ha hb h0 eq er
  have H0 := hid (((((Env.refl w).new a).new b).zero).perm (l' := [(w.heap.size + 1 + 1, 0), (w.heap.size + 1, b), (w.heap.size, a)]) (by simp))
  have DZ := hid (show w.heap.size ≤ w.heap.size + 1 + 1 by omega)
  have DN := hid (show ∀ p ∈ [(w.heap.size, a), (w.heap.size + 1, b)], p.1 ≠ w.heap.size + 1 + 1 by simp; try omega)
  go_enter Tryd.func8, Tryd.ntmps8
  go_wp2_with fail
  generalize ((w.alloc (.cells (cls a) 24)).alloc (.cells (cls b) 24)).alloc (.cells #[.int .u64 0, .int .u64 0, .int .u64 0, .int .u64 0] 24) = w0 at *
  generalize w.heap.size + 1 + 1 = g_z at *
  generalize w.heap.size + 1 = g_b at *
  generalize hzg_a : w.heap.size = g_a at *
  obtain ⟨c0x0a, c0x0b, c0x0c, c0x0d⟩ := H0.out.cell (g_a) (a) (by simp)
  have c0x0l := H0.out.lt (g_a) (a) (by simp)
  have c0x0m := Nat.le_of_lt c0x0l
  obtain ⟨c6x0a, c6x0b, c6x0c, c6x0d⟩ := H0.out.cell (g_b) (b) (by simp)
  have c6x0l := H0.out.lt (g_b) (b) (by simp)
  have c6x0m := Nat.le_of_lt c6x0l
  go_wp2_with fail
  clear c0x0a c0x0b c0x0c c0x0d c0x0l c0x0m c6x0a c6x0b c6x0c c6x0d c6x0l c6x0m
  refine (div_at a b q r H0.out A1.out B1.out B0.out EQ.out ER.out).mono ?_
  rintro e w1 ⟨rfl, h⟩
  have H1 := hid h
  clear h H0
  go_upto_region 2 with fail
  have H1b := hid (H1.out.new2 q r)
  clear H1
  generalize (w1.alloc (.cells (cls q) 24)).alloc (.cells (cls r) 24) = w1b at *
  generalize w1.heap.size + 1 = g5s at *
  generalize w1.heap.size = g5 at *
  obtain ⟨c0x1a, c0x1b, c0x1c, c0x1d⟩ := H1b.out.cell (g5s) (r) (by simp)
  have c0x1l := H1b.out.lt (g5s) (r) (by simp)
  have c0x1m := Nat.le_of_lt c0x1l
  obtain ⟨z0, z1, z2, z3⟩ := H1b.out.cell g_z 0 (by simp)
  have zl := H1b.out.lt g_z 0 (by simp)
  have zf := H1b.out.frozen g_z 0 (by simp)
  have HZ := hid (H1b.out.set g_z 0 (r) [] (by simp) (by rw [hzg_a]; exact DZ.out) (by simp))
  go_wp2
  clear z0 z1 z2 z3 zl zf
  try rw [Exit.noGoto_ret]
  change bodyPost _ _ _ _ _ (fil w1b g_z (r))
  generalize fil w1b g_z (r) = wz at *
  obtain ⟨k0, k1, k2, k3⟩ := HZ.out.cell g_z (r) (by simp)
  exact bodyPost_ret (v := num (r)) (by simp [results, Tryd.results8, go_sem, k0, k1, k2, k3]) rfl ⟨by rw [ER.out], HZ.out.1⟩
set_option maxRecDepth 100000 in
set_option maxHeartbeats 4000000 in
theorem low_any (m : Nat) (w : World) (hm : m < 2 ^ 256) : Calls Tryd.prog 6 #[num m] w fun e w' => e = .returned (.bool (decide (m ≤ 1))) ∧ Below w.heap.size w w' := by
  obtain ⟨c, ec⟩ : ∃ c, cmpN m 1 = c := ⟨_, rfl⟩
  have hc : (c ≤ 0) ↔ m ≤ 1 := by rw [← ec]; unfold cmpN; split <;> (try split) <;> omega
  have EC := hid ec
  have HC := hid hc
  have ML := hid hm
  clear hm ec hc
  have H0 := hid (((Env.refl w).new m).perm (l' := [(w.heap.size, m)]) (by simp))
  go_enter Tryd.func6, Tryd.ntmps6
  go_wp2_with fail
  generalize w.alloc (.cells (cls m) 24) = w0 at *
  generalize hzg_a : w.heap.size = g_a at *
  have hs := H0.out.drew
  go_region_held3 (fun w' => (w'.cell? ⟨g_a, 0, none⟩ = some (.int .u64 (wd (m) 0 : Int)) ∧ w'.cell? ⟨g_a, 1, none⟩ = some (.int .u64 (wd (m) 1 : Int)) ∧ w'.cell? ⟨g_a, 2, none⟩ = some (.int .u64 (wd (m) 2 : Int)) ∧ w'.cell? ⟨g_a, 3, none⟩ = some (.int .u64 (wd (m) 3 : Int)))) (exact Env.cell (by assumption) _ _ (by simp)) (first | ((go_at_call 11); (with_reducible refine (ofl_at 1 1 (by assumption) (by decide) (by decide)).mono ?_); rintro e wn ⟨rfl, hs⟩) | ((go_at_call 23); (with_reducible refine (cmp_at m 1 c (by assumption) ML.out (by decide) EC.out).mono ?_); rintro e wn ⟨rfl, hs⟩))
  go_wp2
  exact bodyPost_ret (v := .bool (decide (c ≤ 0))) (by simp [results, Tryd.results6, go_sem]) rfl ⟨by rw [show decide (c ≤ 0) = decide (m ≤ 1) from decide_eq_decide.2 HC.out], hs.1⟩
set_option maxRecDepth 100000 in
set_option maxHeartbeats 4000000 in
theorem says_any (n : Nat) (w : World) (hn : n < 18446744073709551616) : Calls Tryd.prog 27 #[num n, .int .i64 0, .int .u64 (n : Int)] w fun e w' => e = .returned (.bool true) ∧ Below w.heap.size w w' := by
  have HN := hid hn
  have qn := eq_yes n n rfl
  clear hn
  have H0 := hid (((Env.refl w).new n).perm (l' := [(w.heap.size, n)]) (by simp))
  go_enter Tryd.func27, Tryd.ntmps27
  go_wp2_with fail
  generalize w.alloc (.cells (cls n) 24) = w0 at *
  generalize hzg_a : w.heap.size = g_a at *
  have hs := H0.out.drew
  go_region_held3 (fun w' => (w'.cell? ⟨g_a, 0, none⟩ = some (.int .u64 (wd (n) 0 : Int)) ∧ w'.cell? ⟨g_a, 1, none⟩ = some (.int .u64 (wd (n) 1 : Int)) ∧ w'.cell? ⟨g_a, 2, none⟩ = some (.int .u64 (wd (n) 2 : Int)) ∧ w'.cell? ⟨g_a, 3, none⟩ = some (.int .u64 (wd (n) 3 : Int)))) (exact Env.cell (by assumption) _ _ (by simp)) (first | ((go_at_call 11); (with_reducible refine (ofl_at n (n : Int) (by assumption) HN.out rfl).mono ?_); rintro e wn ⟨rfl, hs⟩))
  go_wp2
  go_ret
  exact ⟨rfl, hs.1⟩
theorem says_at (n : Nat) (z : Int) {w w' : World} {l : List (Nat × Nat)} (h : Env w l w') (hn : n < 18446744073709551616) (hz : (n : Int) = z) : Calls Tryd.prog 27 #[num n, .int .i64 0, .int .u64 z] w' fun e w2 => e = .returned (.bool true) ∧ Env w l w2 := by
  subst hz; exact env_of (says_any n w' hn) h
theorem rest_at (a b r : Nat) {w w' : World} {l : List (Nat × Nat)} (h : Env w l w') (ha : a < 2 ^ 256) (hb : b < 2 ^ 256) (h0 : b ≠ 0) (hr : a % b = r) : Calls Tryd.prog 8 #[num a, num b] w' fun e w2 => e = .returned (num r) ∧ Env w l w2 := by
  subst hr; exact env_of (rest_any a b w' ha hb h0) h
theorem low_at (m : Nat) (v : Bool) {w w' : World} {l : List (Nat × Nat)} (h : Env w l w') (hm : m < 2 ^ 256) (hv : decide (m ≤ 1) = v) : Calls Tryd.prog 6 #[num m] w' fun e w2 => e = .returned (.bool v) ∧ Env w l w2 := by
  subst hv; exact env_of (low_any m w' hm) h
theorem mexp_at (a n m r : Nat) {w w' : World} {l : List (Nat × Nat)} (h : Env w l w') (hn : n < 2 ^ 256) (hm : m < 2 ^ 256) (h1 : 1 < m) (ha : a < m) (hc : nbits n ≤ 16) (hr : a ^ n % m = r) : Calls Tryd.prog 26 #[num a, num n, num m] w' fun e w2 => e = .returned (.tuple #[num r, .int .i64 0]) ∧ Env w l w2 := by
  subst hr; exact env_of (mexp_short a n m w' hn hm ⟨h1, ha⟩ hc) h
set_option maxRecDepth 100000 in
set_option maxHeartbeats 4000000 in
theorem alive_any (w : World) : Calls Tryd.prog 7 #[] w fun e w' => e = .returned (.bool true) ∧ Below w.heap.size w w' := by
  have H0 := hid (Env.refl w)
  go_enter Tryd.func7, Tryd.ntmps7
  go_wp2_with fail
  refine (ofl_at 5 5 H0.out (by decide) (by decide)).mono ?_
  rintro e w1 ⟨rfl, h⟩
  have H1 := hid h
  clear h H0
  go_wp2_with fail
  refine (ofl_at 6 6 H1.out (by decide) (by decide)).mono ?_
  rintro e w2 ⟨rfl, h⟩
  have H2 := hid h
  clear h H1
  go_wp2_with fail
  refine (ofl_at 7 7 H2.out (by decide) (by decide)).mono ?_
  rintro e w3 ⟨rfl, h⟩
  have H3 := hid h
  clear h H2
  go_wp2_with fail
  refine (madd_at 5 6 7 4 H3.out (by decide) (by decide) (by decide) (by decide) (by decide)).mono ?_
  rintro e w4 ⟨rfl, h⟩
  have H4 := hid h
  clear h H3
  go_wp2_with fail
  have H4b := hid (H4.out.new 4)
  clear H4
  generalize w4.alloc (.cells (cls 4) 24) = w4b at *
  generalize w4.heap.size = g1 at *
  refine (ofl_at 2 2 H4b.out (by decide) (by decide)).mono ?_
  rintro e w5 ⟨rfl, h⟩
  have H5 := hid h
  clear h H4b
  go_wp2_with fail
  refine (ofl_at 6 6 H5.out (by decide) (by decide)).mono ?_
  rintro e w6 ⟨rfl, h⟩
  have H6 := hid h
  clear h H5
  go_wp2_with fail
  refine (ofl_at 7 7 H6.out (by decide) (by decide)).mono ?_
  rintro e w7 ⟨rfl, h⟩
  have H7 := hid h
  clear h H6
  go_wp2_with fail
  refine (msub_at 2 6 7 3 H7.out (by decide) (by decide) (by decide) (by decide) (by decide)).mono ?_
  rintro e w8 ⟨rfl, h⟩
  have H8 := hid h
  clear h H7
  go_wp2_with fail
  have H8b := hid (H8.out.new 3)
  clear H8
  generalize w8.alloc (.cells (cls 3) 24) = w8b at *
  generalize w8.heap.size = g3 at *
  refine (ofl_at 5 5 H8b.out (by decide) (by decide)).mono ?_
  rintro e w9 ⟨rfl, h⟩
  have H9 := hid h
  clear h H8b
  go_wp2_with fail
  refine (ofl_at 6 6 H9.out (by decide) (by decide)).mono ?_
  rintro e w10 ⟨rfl, h⟩
  have H10 := hid h
  clear h H9
  go_wp2_with fail
  refine (ofl_at 7 7 H10.out (by decide) (by decide)).mono ?_
  rintro e w11 ⟨rfl, h⟩
  have H11 := hid h
  clear h H10
  go_wp2_with fail
  refine (mmul_at 5 6 7 2 H11.out (by decide) (by decide) (by decide) (by decide) (by decide)).mono ?_
  rintro e w12 ⟨rfl, h⟩
  have H12 := hid h
  clear h H11
  go_wp2_with fail
  have H12b := hid (H12.out.new 2)
  clear H12
  generalize w12.alloc (.cells (cls 2) 24) = w12b at *
  generalize w12.heap.size = g5 at *
  refine (ofl_at 3 3 H12b.out (by decide) (by decide)).mono ?_
  rintro e w13 ⟨rfl, h⟩
  have H13 := hid h
  clear h H12b
  go_wp2_with fail
  refine (ofl_at 6 6 H13.out (by decide) (by decide)).mono ?_
  rintro e w14 ⟨rfl, h⟩
  have H14 := hid h
  clear h H13
  go_wp2_with fail
  refine (ofl_at 7 7 H14.out (by decide) (by decide)).mono ?_
  rintro e w15 ⟨rfl, h⟩
  have H15 := hid h
  clear h H14
  go_wp2_with fail
  refine (mexp_at 3 6 7 1 H15.out (by decide) (by decide) (by decide) (by decide) (nbits_up 6 16 (by decide)) (by decide)).mono ?_
  rintro e w16 ⟨rfl, h⟩
  have H16 := hid h
  clear h H15
  go_wp2_with fail
  have H16b := hid (H16.out.new 1)
  clear H16
  generalize w16.alloc (.cells (cls 1) 24) = w16b at *
  generalize w16.heap.size = g7 at *
  refine (ofl_at 3 3 H16b.out (by decide) (by decide)).mono ?_
  rintro e w17 ⟨rfl, h⟩
  have H17 := hid h
  clear h H16b
  go_wp2_with fail
  refine (ofl_at 7 7 H17.out (by decide) (by decide)).mono ?_
  rintro e w18 ⟨rfl, h⟩
  have H18 := hid h
  clear h H17
  go_wp2_with fail
  refine (minv_yes_at 3 7 5 H18.out (by decide) (by decide) (by decide) ⟨by decide, by decide⟩).mono ?_
  rintro e w19 ⟨rfl, h⟩
  have H19 := hid h
  clear h H18
  go_wp2_with fail
  have H19b := hid (H19.out.new 5)
  clear H19
  generalize w19.alloc (.cells (cls 5) 24) = w19b at *
  generalize w19.heap.size = g9 at *
  refine (ofl_at 7 7 H19b.out (by decide) (by decide)).mono ?_
  rintro e w20 ⟨rfl, h⟩
  have H20 := hid h
  clear h H19b
  go_wp2_with fail
  refine (none_at H20.out).mono ?_
  rintro e w21 ⟨rfl, h⟩
  have H21 := hid h
  clear h H20
  go_wp2_with fail
  refine (ofl_at 7 7 H21.out (by decide) (by decide)).mono ?_
  rintro e w22 ⟨rfl, h⟩
  have H22 := hid h
  clear h H21
  go_wp2_with fail
  refine (madd_none_at 7 0 7 H22.out (by decide) (by decide) (by decide) (by decide)).mono ?_
  rintro e w23 ⟨rfl, h⟩
  have H23 := hid h
  clear h H22
  go_wp2_with fail
  have H23b := hid (H23.out.new 0)
  clear H23
  generalize w23.alloc (.cells (cls 0) 24) = w23b at *
  generalize w23.heap.size = g11 at *
  refine (none_at H23b.out).mono ?_
  rintro e w24 ⟨rfl, h⟩
  have H24 := hid h
  clear h H23b
  go_wp2_with fail
  refine (none_at H24.out).mono ?_
  rintro e w25 ⟨rfl, h⟩
  have H25 := hid h
  clear h H24
  go_wp2_with fail
  refine (ofl_at 1 1 H25.out (by decide) (by decide)).mono ?_
  rintro e w26 ⟨rfl, h⟩
  have H26 := hid h
  clear h H25
  go_wp2_with fail
  refine (mmul_none_at 0 0 1 H26.out (by decide) (by decide) (by decide) (by decide)).mono ?_
  rintro e w27 ⟨rfl, h⟩
  have H27 := hid h
  clear h H26
  go_wp2_with fail
  have H27b := hid (H27.out.new 0)
  clear H27
  generalize w27.alloc (.cells (cls 0) 24) = w27b at *
  generalize w27.heap.size = g13 at *
  refine (ofl_at 2 2 H27b.out (by decide) (by decide)).mono ?_
  rintro e w28 ⟨rfl, h⟩
  have H28 := hid h
  clear h H27b
  go_wp2_with fail
  refine (ofl_at 4 4 H28.out (by decide) (by decide)).mono ?_
  rintro e w29 ⟨rfl, h⟩
  have H29 := hid h
  clear h H28
  go_wp2_with fail
  refine (minv_no_at 2 4 H29.out (by decide) (by decide) (by decide) (by decide)).mono ?_
  rintro e w30 ⟨rfl, h⟩
  have H30 := hid h
  clear h H29
  go_wp2_with fail
  have H30b := hid (H30.out.new 0)
  clear H30
  generalize w30.alloc (.cells (cls 0) 24) = w30b at *
  generalize w30.heap.size = g15 at *
  refine (none_at H30b.out).mono ?_
  rintro e w31 ⟨rfl, h⟩
  have H31 := hid h
  clear h H30b
  go_wp2_with fail
  refine (ofl_at 5 5 H31.out (by decide) (by decide)).mono ?_
  rintro e w32 ⟨rfl, h⟩
  have H32 := hid h
  clear h H31
  go_wp2_with fail
  refine (minv_no_at 0 5 H32.out (by decide) (by decide) (by decide) (by decide)).mono ?_
  rintro e w33 ⟨rfl, h⟩
  have H33 := hid h
  clear h H32
  go_wp2_with fail
  have H33b := hid (H33.out.new 0)
  clear H33
  generalize w33.alloc (.cells (cls 0) 24) = w33b at *
  generalize w33.heap.size = g17 at *
  refine (none_at H33b.out).mono ?_
  rintro e w34 ⟨rfl, h⟩
  have H34 := hid h
  clear h H33b
  go_wp2_with fail
  refine (none_at H34.out).mono ?_
  rintro e w35 ⟨rfl, h⟩
  have H35 := hid h
  clear h H34
  go_wp2_with fail
  refine (ofl_at 9 9 H35.out (by decide) (by decide)).mono ?_
  rintro e w36 ⟨rfl, h⟩
  have H36 := hid h
  clear h H35
  go_wp2_with fail
  refine (mexp_at 0 0 9 1 H36.out (by decide) (by decide) (by decide) (by decide) (nbits_up 0 16 (by decide)) (by decide)).mono ?_
  rintro e w37 ⟨rfl, h⟩
  have H37 := hid h
  clear h H36
  go_upto_region 11 with fail
  have H37b := hid (H37.out.new 1)
  clear H37
  generalize w37.alloc (.cells (cls 1) 24) = w37b at *
  generalize w37.heap.size = g19 at *
  obtain ⟨c0x37a, c0x37b, c0x37c, c0x37d⟩ := H37b.out.cell (g1) (4) (by simp)
  have c0x37l := H37b.out.lt (g1) (4) (by simp)
  have c0x37m := Nat.le_of_lt c0x37l
  go_wp2_with fail
  clear c0x37a c0x37b c0x37c c0x37d c0x37l c0x37m
  refine (says_at 4 4 H37b.out (by decide) (by decide)).mono ?_
  rintro e w38 ⟨rfl, h⟩
  have H38 := hid h
  clear h H37b
  obtain ⟨c0x38a, c0x38b, c0x38c, c0x38d⟩ := H38.out.cell (g3) (3) (by simp)
  have c0x38l := H38.out.lt (g3) (3) (by simp)
  have c0x38m := Nat.le_of_lt c0x38l
  go_wp2_with fail
  clear c0x38a c0x38b c0x38c c0x38d c0x38l c0x38m
  refine (says_at 3 3 H38.out (by decide) (by decide)).mono ?_
  rintro e w39 ⟨rfl, h⟩
  have H39 := hid h
  clear h H38
  obtain ⟨c0x39a, c0x39b, c0x39c, c0x39d⟩ := H39.out.cell (g5) (2) (by simp)
  have c0x39l := H39.out.lt (g5) (2) (by simp)
  have c0x39m := Nat.le_of_lt c0x39l
  go_wp2_with fail
  clear c0x39a c0x39b c0x39c c0x39d c0x39l c0x39m
  refine (says_at 2 2 H39.out (by decide) (by decide)).mono ?_
  rintro e w40 ⟨rfl, h⟩
  have H40 := hid h
  clear h H39
  obtain ⟨c0x40a, c0x40b, c0x40c, c0x40d⟩ := H40.out.cell (g7) (1) (by simp)
  have c0x40l := H40.out.lt (g7) (1) (by simp)
  have c0x40m := Nat.le_of_lt c0x40l
  go_wp2_with fail
  clear c0x40a c0x40b c0x40c c0x40d c0x40l c0x40m
  refine (says_at 1 1 H40.out (by decide) (by decide)).mono ?_
  rintro e w41 ⟨rfl, h⟩
  have H41 := hid h
  clear h H40
  obtain ⟨c0x41a, c0x41b, c0x41c, c0x41d⟩ := H41.out.cell (g9) (5) (by simp)
  have c0x41l := H41.out.lt (g9) (5) (by simp)
  have c0x41m := Nat.le_of_lt c0x41l
  go_wp2_with fail
  clear c0x41a c0x41b c0x41c c0x41d c0x41l c0x41m
  refine (says_at 5 5 H41.out (by decide) (by decide)).mono ?_
  rintro e w42 ⟨rfl, h⟩
  have H42 := hid h
  clear h H41
  obtain ⟨c0x42a, c0x42b, c0x42c, c0x42d⟩ := H42.out.cell (g19) (1) (by simp)
  have c0x42l := H42.out.lt (g19) (1) (by simp)
  have c0x42m := Nat.le_of_lt c0x42l
  go_wp2_with fail
  clear c0x42a c0x42b c0x42c c0x42d c0x42l c0x42m
  refine (says_at 1 1 H42.out (by decide) (by decide)).mono ?_
  rintro e w43 ⟨rfl, h⟩
  have H43 := hid h
  clear h H42
  go_wp2
  go_ret
  exact ⟨rfl, H43.out.1⟩
theorem alive_at {w w' : World} {l : List (Nat × Nat)} (h : Env w l w') : Calls Tryd.prog 7 #[] w' fun e w2 => e = .returned (.bool true) ∧ Env w l w2 :=
  env_of (alive_any w') h
end Go.Proofs.YtaggegknnnembaaDoor
