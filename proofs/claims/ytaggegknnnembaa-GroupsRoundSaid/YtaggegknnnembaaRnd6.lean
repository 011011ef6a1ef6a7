/-
  burrowlaw06.GroupsRound, walked: it answers true at any group and numbers. Conditions: none.
-/
import Derived.Test.YtaggegknnnembaaGma
namespace Go.Proofs.Ytaggegknnnembaa
open Go.RowKit
set_option linter.unusedVariables false

set_option maxRecDepth 100000 in
set_option maxHeartbeats 4000000 in
theorem round_zero (p q g a n m : Nat) (w : World) (hp : p < 2 ^ 256) (hq : q < 2 ^ 256) (hg : g < 2 ^ 256) (ha : a < 2 ^ 256) (hn : n < 2 ^ 256) (hm : m < 2 ^ 256) (hq0 : q = 0) : Calls Try.prog 5 #[.agg #[.int .u64 (wd p 0 : Int), .int .u64 (wd p 1 : Int), .int .u64 (wd p 2 : Int), .int .u64 (wd p 3 : Int), .int .u64 (wd q 0 : Int), .int .u64 (wd q 1 : Int), .int .u64 (wd q 2 : Int), .int .u64 (wd q 3 : Int), .int .u64 (wd g 0 : Int), .int .u64 (wd g 1 : Int), .int .u64 (wd g 2 : Int), .int .u64 (wd g 3 : Int), .int .u64 (wd a 0 : Int), .int .u64 (wd a 1 : Int), .int .u64 (wd a 2 : Int), .int .u64 (wd a 3 : Int), .int .u64 (wd n 0 : Int), .int .u64 (wd n 1 : Int), .int .u64 (wd n 2 : Int), .int .u64 (wd n 3 : Int), .int .u64 (wd m 0 : Int), .int .u64 (wd m 1 : Int), .int .u64 (wd m 2 : Int), .int .u64 (wd m 3 : Int)]] w fun e w' => e = .returned (.bool true) ∧ Below w.heap.size w w' := by
  have qz : ∀ w, (Op.equalIn 10000 24 (num q) (.agg #[.int .u64 0, .int .u64 0, .int .u64 0, .int .u64 0])).run Try.prog w = .ok true w := by rw [num_zero]; exact eq_yes q 0 hq0
  obtain ⟨s, es⟩ : ∃ z, (n + m) % 2 ^ 256 = z := ⟨_, rfl⟩
  obtain ⟨k, ek⟩ : ∃ z, (n + m) / 2 ^ 256 = z := ⟨_, rfl⟩
  have ES := hid es
  have EK := hid (show (((n + m) / 2 ^ 256 : Nat) : Int) = (k : Int) by rw [ek])
  have PL := hid hp
  have QL := hid hq
  have GL := hid hg
  have AL := hid ha
  have NL := hid hn
  have ML := hid hm
  clear hp hq hg ha hn hm
  clear hq0 es ek
  have H0 : Hid (Eg w (w.heap.size + 1) 26 p q g [(w.heap.size + 1 + 1 + 1 + 1, m), (w.heap.size + 1 + 1 + 1, n), (w.heap.size + 1 + 1, a)] (((((w.alloc (.cells #[.int .u64 (wd p 0 : Int), .int .u64 (wd p 1 : Int), .int .u64 (wd p 2 : Int), .int .u64 (wd p 3 : Int), .int .u64 (wd q 0 : Int), .int .u64 (wd q 1 : Int), .int .u64 (wd q 2 : Int), .int .u64 (wd q 3 : Int), .int .u64 (wd g 0 : Int), .int .u64 (wd g 1 : Int), .int .u64 (wd g 2 : Int), .int .u64 (wd g 3 : Int), .int .u64 (wd a 0 : Int), .int .u64 (wd a 1 : Int), .int .u64 (wd a 2 : Int), .int .u64 (wd a 3 : Int), .int .u64 (wd n 0 : Int), .int .u64 (wd n 1 : Int), .int .u64 (wd n 2 : Int), .int .u64 (wd n 3 : Int), .int .u64 (wd m 0 : Int), .int .u64 (wd m 1 : Int), .int .u64 (wd m 2 : Int), .int .u64 (wd m 3 : Int)] 40)).alloc (.cells (gcs p q g) 26)).alloc (.cells (cls a) 24)).alloc (.cells (cls n) 24)).alloc (.cells (cls m) 24))) := hid (by have h := (((((Eg.of ((Env.refl w).alloc (.cells #[.int .u64 (wd p 0 : Int), .int .u64 (wd p 1 : Int), .int .u64 (wd p 2 : Int), .int .u64 (wd p 3 : Int), .int .u64 (wd q 0 : Int), .int .u64 (wd q 1 : Int), .int .u64 (wd q 2 : Int), .int .u64 (wd q 3 : Int), .int .u64 (wd g 0 : Int), .int .u64 (wd g 1 : Int), .int .u64 (wd g 2 : Int), .int .u64 (wd g 3 : Int), .int .u64 (wd a 0 : Int), .int .u64 (wd a 1 : Int), .int .u64 (wd a 2 : Int), .int .u64 (wd a 3 : Int), .int .u64 (wd n 0 : Int), .int .u64 (wd n 1 : Int), .int .u64 (wd n 2 : Int), .int .u64 (wd n 3 : Int), .int .u64 (wd m 0 : Int), .int .u64 (wd m 1 : Int), .int .u64 (wd m 2 : Int), .int .u64 (wd m 3 : Int)] 40)) p q g 26)).new a).new n).new m); simpa using h)
  go_enter Try.func5, Try.ntmps5
  go_upto_region 5 with fail
  generalize ((((w.alloc (.cells #[.int .u64 (wd p 0 : Int), .int .u64 (wd p 1 : Int), .int .u64 (wd p 2 : Int), .int .u64 (wd p 3 : Int), .int .u64 (wd q 0 : Int), .int .u64 (wd q 1 : Int), .int .u64 (wd q 2 : Int), .int .u64 (wd q 3 : Int), .int .u64 (wd g 0 : Int), .int .u64 (wd g 1 : Int), .int .u64 (wd g 2 : Int), .int .u64 (wd g 3 : Int), .int .u64 (wd a 0 : Int), .int .u64 (wd a 1 : Int), .int .u64 (wd a 2 : Int), .int .u64 (wd a 3 : Int), .int .u64 (wd n 0 : Int), .int .u64 (wd n 1 : Int), .int .u64 (wd n 2 : Int), .int .u64 (wd n 3 : Int), .int .u64 (wd m 0 : Int), .int .u64 (wd m 1 : Int), .int .u64 (wd m 2 : Int), .int .u64 (wd m 3 : Int)] 40)).alloc (.cells (gcs p q g) 26)).alloc (.cells (cls a) 24)).alloc (.cells (cls n) 24)).alloc (.cells (cls m) 24) = w0 at *
  generalize w.heap.size + 1 + 1 + 1 + 1 = g_m at *
  generalize w.heap.size + 1 + 1 + 1 = g_n at *
  generalize w.heap.size + 1 + 1 = g_a at *
  generalize w.heap.size + 1 = g_p at *
  have eg0l := H0.out.gl
  have eg0m := Nat.le_of_lt eg0l
  obtain ⟨c2x0a, c2x0b, c2x0c, c2x0d⟩ := H0.out.cell (g_n) (n) (by simp)
  have c2x0l := H0.out.lt (g_n) (n) (by simp)
  have c2x0m := Nat.le_of_lt c2x0l
  obtain ⟨c8x0a, c8x0b, c8x0c, c8x0d⟩ := H0.out.cell (g_m) (m) (by simp)
  have c8x0l := H0.out.lt (g_m) (m) (by simp)
  have c8x0m := Nat.le_of_lt c8x0l
  go_wp2_with fail
  clear eg0l eg0m c2x0a c2x0b c2x0c c2x0d c2x0l c2x0m c8x0a c8x0b c8x0c c8x0d c8x0l c8x0m
  refine (eg_at (add_at n m s (k : Int) (Env.refl _) NL.out ML.out ES.out EK.out) H0.out).mono ?_
  rintro e w1 ⟨rfl, h⟩
  have H1 := hid h
  clear h H0
  go_upto_region 6 with fail
  have H1b := hid (H1.out.new s)
  clear H1
  generalize w1.alloc (.cells (cls s) 24) = w1b at *
  generalize w1.heap.size = g7 at *
  obtain ⟨ep1a, ep1b, ep1c, ep1d⟩ := H1b.out.gp
  obtain ⟨eq1a, eq1b, eq1c, eq1d⟩ := H1b.out.gq
  obtain ⟨eg1a, eg1b, eg1c, eg1d⟩ := H1b.out.gg
  have eg1l := H1b.out.gl
  have eg1m := Nat.le_of_lt eg1l
  obtain ⟨c14x1a, c14x1b, c14x1c, c14x1d⟩ := H1b.out.cell (g_a) (a) (by simp)
  have c14x1l := H1b.out.lt (g_a) (a) (by simp)
  have c14x1m := Nat.le_of_lt c14x1l
  go_wp2_with fail
  clear ep1a ep1b ep1c ep1d eq1a eq1b eq1c eq1d eg1a eg1b eg1c eg1d eg1l eg1m c14x1a c14x1b c14x1c c14x1d c14x1l c14x1m
  refine (eg_at (lives_at (Env.refl _)) H1b.out).mono ?_
  rintro e w2 ⟨rfl, h⟩
  have H2 := hid h
  clear h H1b
  go_wp2
  go_ret
  exact ⟨rfl, H2.out.1.1⟩
set_option maxRecDepth 100000 in
set_option maxHeartbeats 4000000 in
theorem round_no (p q g a n m : Nat) (w : World) (hp : p < 2 ^ 256) (hq : q < 2 ^ 256) (hg : g < 2 ^ 256) (ha : a < 2 ^ 256) (hn : n < 2 ^ 256) (hm : m < 2 ^ 256) (hq0 : q ≠ 0) (va : ¬ ((0 < a ∧ a < p) ∧ a ^ q % p = 1)) : Calls Try.prog 5 #[.agg #[.int .u64 (wd p 0 : Int), .int .u64 (wd p 1 : Int), .int .u64 (wd p 2 : Int), .int .u64 (wd p 3 : Int), .int .u64 (wd q 0 : Int), .int .u64 (wd q 1 : Int), .int .u64 (wd q 2 : Int), .int .u64 (wd q 3 : Int), .int .u64 (wd g 0 : Int), .int .u64 (wd g 1 : Int), .int .u64 (wd g 2 : Int), .int .u64 (wd g 3 : Int), .int .u64 (wd a 0 : Int), .int .u64 (wd a 1 : Int), .int .u64 (wd a 2 : Int), .int .u64 (wd a 3 : Int), .int .u64 (wd n 0 : Int), .int .u64 (wd n 1 : Int), .int .u64 (wd n 2 : Int), .int .u64 (wd n 3 : Int), .int .u64 (wd m 0 : Int), .int .u64 (wd m 1 : Int), .int .u64 (wd m 2 : Int), .int .u64 (wd m 3 : Int)]] w fun e w' => e = .returned (.bool true) ∧ Below w.heap.size w w' := by
  have qz : ∀ w, (Op.equalIn 10000 24 (num q) (.agg #[.int .u64 0, .int .u64 0, .int .u64 0, .int .u64 0])).run Try.prog w = .ok false w := by rw [num_zero]; exact eq_no q 0 hq (by decide) hq0
  obtain ⟨s, es⟩ : ∃ z, (n + m) % 2 ^ 256 = z := ⟨_, rfl⟩
  obtain ⟨k, ek⟩ : ∃ z, (n + m) / 2 ^ 256 = z := ⟨_, rfl⟩
  have ES := hid es
  have EK := hid (show (((n + m) / 2 ^ 256 : Nat) : Int) = (k : Int) by rw [ek])
  have VA : Hid (decide ((0 < a ∧ a < p) ∧ a ^ q % p = 1) = false) := hid (decide_eq_false va)
  have PL := hid hp
  have QL := hid hq
  have GL := hid hg
  have AL := hid ha
  have NL := hid hn
  have ML := hid hm
  clear hp hq hg ha hn hm
  clear hq0 es ek va
  have H0 : Hid (Eg w (w.heap.size + 1) 26 p q g [(w.heap.size + 1 + 1 + 1 + 1, m), (w.heap.size + 1 + 1 + 1, n), (w.heap.size + 1 + 1, a)] (((((w.alloc (.cells #[.int .u64 (wd p 0 : Int), .int .u64 (wd p 1 : Int), .int .u64 (wd p 2 : Int), .int .u64 (wd p 3 : Int), .int .u64 (wd q 0 : Int), .int .u64 (wd q 1 : Int), .int .u64 (wd q 2 : Int), .int .u64 (wd q 3 : Int), .int .u64 (wd g 0 : Int), .int .u64 (wd g 1 : Int), .int .u64 (wd g 2 : Int), .int .u64 (wd g 3 : Int), .int .u64 (wd a 0 : Int), .int .u64 (wd a 1 : Int), .int .u64 (wd a 2 : Int), .int .u64 (wd a 3 : Int), .int .u64 (wd n 0 : Int), .int .u64 (wd n 1 : Int), .int .u64 (wd n 2 : Int), .int .u64 (wd n 3 : Int), .int .u64 (wd m 0 : Int), .int .u64 (wd m 1 : Int), .int .u64 (wd m 2 : Int), .int .u64 (wd m 3 : Int)] 40)).alloc (.cells (gcs p q g) 26)).alloc (.cells (cls a) 24)).alloc (.cells (cls n) 24)).alloc (.cells (cls m) 24))) := hid (by have h := (((((Eg.of ((Env.refl w).alloc (.cells #[.int .u64 (wd p 0 : Int), .int .u64 (wd p 1 : Int), .int .u64 (wd p 2 : Int), .int .u64 (wd p 3 : Int), .int .u64 (wd q 0 : Int), .int .u64 (wd q 1 : Int), .int .u64 (wd q 2 : Int), .int .u64 (wd q 3 : Int), .int .u64 (wd g 0 : Int), .int .u64 (wd g 1 : Int), .int .u64 (wd g 2 : Int), .int .u64 (wd g 3 : Int), .int .u64 (wd a 0 : Int), .int .u64 (wd a 1 : Int), .int .u64 (wd a 2 : Int), .int .u64 (wd a 3 : Int), .int .u64 (wd n 0 : Int), .int .u64 (wd n 1 : Int), .int .u64 (wd n 2 : Int), .int .u64 (wd n 3 : Int), .int .u64 (wd m 0 : Int), .int .u64 (wd m 1 : Int), .int .u64 (wd m 2 : Int), .int .u64 (wd m 3 : Int)] 40)) p q g 26)).new a).new n).new m); simpa using h)
  go_enter Try.func5, Try.ntmps5
  go_upto_region 5 with fail
  generalize ((((w.alloc (.cells #[.int .u64 (wd p 0 : Int), .int .u64 (wd p 1 : Int), .int .u64 (wd p 2 : Int), .int .u64 (wd p 3 : Int), .int .u64 (wd q 0 : Int), .int .u64 (wd q 1 : Int), .int .u64 (wd q 2 : Int), .int .u64 (wd q 3 : Int), .int .u64 (wd g 0 : Int), .int .u64 (wd g 1 : Int), .int .u64 (wd g 2 : Int), .int .u64 (wd g 3 : Int), .int .u64 (wd a 0 : Int), .int .u64 (wd a 1 : Int), .int .u64 (wd a 2 : Int), .int .u64 (wd a 3 : Int), .int .u64 (wd n 0 : Int), .int .u64 (wd n 1 : Int), .int .u64 (wd n 2 : Int), .int .u64 (wd n 3 : Int), .int .u64 (wd m 0 : Int), .int .u64 (wd m 1 : Int), .int .u64 (wd m 2 : Int), .int .u64 (wd m 3 : Int)] 40)).alloc (.cells (gcs p q g) 26)).alloc (.cells (cls a) 24)).alloc (.cells (cls n) 24)).alloc (.cells (cls m) 24) = w0 at *
  generalize w.heap.size + 1 + 1 + 1 + 1 = g_m at *
  generalize w.heap.size + 1 + 1 + 1 = g_n at *
  generalize w.heap.size + 1 + 1 = g_a at *
  generalize w.heap.size + 1 = g_p at *
  have eg0l := H0.out.gl
  have eg0m := Nat.le_of_lt eg0l
  obtain ⟨c2x0a, c2x0b, c2x0c, c2x0d⟩ := H0.out.cell (g_n) (n) (by simp)
  have c2x0l := H0.out.lt (g_n) (n) (by simp)
  have c2x0m := Nat.le_of_lt c2x0l
  obtain ⟨c8x0a, c8x0b, c8x0c, c8x0d⟩ := H0.out.cell (g_m) (m) (by simp)
  have c8x0l := H0.out.lt (g_m) (m) (by simp)
  have c8x0m := Nat.le_of_lt c8x0l
  go_wp2_with fail
  clear eg0l eg0m c2x0a c2x0b c2x0c c2x0d c2x0l c2x0m c8x0a c8x0b c8x0c c8x0d c8x0l c8x0m
  refine (eg_at (add_at n m s (k : Int) (Env.refl _) NL.out ML.out ES.out EK.out) H0.out).mono ?_
  rintro e w1 ⟨rfl, h⟩
  have H1 := hid h
  clear h H0
  go_upto_region 6 with fail
  have H1b := hid (H1.out.new s)
  clear H1
  generalize w1.alloc (.cells (cls s) 24) = w1b at *
  generalize w1.heap.size = g7 at *
  obtain ⟨ep1a, ep1b, ep1c, ep1d⟩ := H1b.out.gp
  obtain ⟨eq1a, eq1b, eq1c, eq1d⟩ := H1b.out.gq
  obtain ⟨eg1a, eg1b, eg1c, eg1d⟩ := H1b.out.gg
  have eg1l := H1b.out.gl
  have eg1m := Nat.le_of_lt eg1l
  obtain ⟨c14x1a, c14x1b, c14x1c, c14x1d⟩ := H1b.out.cell (g_a) (a) (by simp)
  have c14x1l := H1b.out.lt (g_a) (a) (by simp)
  have c14x1m := Nat.le_of_lt c14x1l
  go_wp2_with fail
  clear ep1a ep1b ep1c ep1d eq1a eq1b eq1c eq1d eg1a eg1b eg1c eg1d eg1l eg1m c14x1a c14x1b c14x1c c14x1d c14x1l c14x1m
  refine (eg_of (in_any p q g a false _ PL.out QL.out AL.out VA.out) H1b.out).mono ?_
  rintro e w2 ⟨rfl, h⟩
  have H2 := hid h
  clear h H1b
  obtain ⟨ep2a, ep2b, ep2c, ep2d⟩ := H2.out.gp
  obtain ⟨eq2a, eq2b, eq2c, eq2d⟩ := H2.out.gq
  obtain ⟨eg2a, eg2b, eg2c, eg2d⟩ := H2.out.gg
  have eg2l := H2.out.gl
  have eg2m := Nat.le_of_lt eg2l
  obtain ⟨c14x2a, c14x2b, c14x2c, c14x2d⟩ := H2.out.cell (g_a) (a) (by simp)
  have c14x2l := H2.out.lt (g_a) (a) (by simp)
  have c14x2m := Nat.le_of_lt c14x2l
  obtain ⟨c20x2a, c20x2b, c20x2c, c20x2d⟩ := H2.out.cell (g_n) (n) (by simp)
  have c20x2l := H2.out.lt (g_n) (n) (by simp)
  have c20x2m := Nat.le_of_lt c20x2l
  go_wp2_with fail
  clear ep2a ep2b ep2c ep2d eq2a eq2b eq2c eq2d eg2a eg2b eg2c eg2d eg2l eg2m c14x2a c14x2b c14x2c c14x2d c14x2l c14x2m c20x2a c20x2b c20x2c c20x2d c20x2l c20x2m
  refine (eg_at (lives_at (Env.refl _)) H2.out).mono ?_
  rintro e w3 ⟨rfl, h⟩
  have H3 := hid h
  clear h H2
  go_wp2
  go_ret
  exact ⟨rfl, H3.out.1.1⟩
set_option maxRecDepth 100000 in
set_option maxHeartbeats 4000000 in
theorem round_over (p q g a n m : Nat) (w : World) (hp : p < 2 ^ 256) (hq : q < 2 ^ 256) (hg : g < 2 ^ 256) (ha : a < 2 ^ 256) (hn : n < 2 ^ 256) (hm : m < 2 ^ 256) (hq0 : q ≠ 0) (va : (0 < a ∧ a < p) ∧ a ^ q % p = 1) (ho : (n + m) / 2 ^ 256 ≠ 0) : Calls Try.prog 5 #[.agg #[.int .u64 (wd p 0 : Int), .int .u64 (wd p 1 : Int), .int .u64 (wd p 2 : Int), .int .u64 (wd p 3 : Int), .int .u64 (wd q 0 : Int), .int .u64 (wd q 1 : Int), .int .u64 (wd q 2 : Int), .int .u64 (wd q 3 : Int), .int .u64 (wd g 0 : Int), .int .u64 (wd g 1 : Int), .int .u64 (wd g 2 : Int), .int .u64 (wd g 3 : Int), .int .u64 (wd a 0 : Int), .int .u64 (wd a 1 : Int), .int .u64 (wd a 2 : Int), .int .u64 (wd a 3 : Int), .int .u64 (wd n 0 : Int), .int .u64 (wd n 1 : Int), .int .u64 (wd n 2 : Int), .int .u64 (wd n 3 : Int), .int .u64 (wd m 0 : Int), .int .u64 (wd m 1 : Int), .int .u64 (wd m 2 : Int), .int .u64 (wd m 3 : Int)]] w fun e w' => e = .returned (.bool true) ∧ Below w.heap.size w w' := by
  have qz : ∀ w, (Op.equalIn 10000 24 (num q) (.agg #[.int .u64 0, .int .u64 0, .int .u64 0, .int .u64 0])).run Try.prog w = .ok false w := by rw [num_zero]; exact eq_no q 0 hq (by decide) hq0
  obtain ⟨s, es⟩ : ∃ z, (n + m) % 2 ^ 256 = z := ⟨_, rfl⟩
  obtain ⟨k, ek⟩ : ∃ z, (n + m) / 2 ^ 256 = z := ⟨_, rfl⟩
  have ES := hid es
  have EK := hid (show (((n + m) / 2 ^ 256 : Nat) : Int) = (k : Int) by rw [ek])
  have hk : (k : Int) ≠ 0 := by omega
  have hkb : ((k : Int) != 0) = true := by simpa using hk
  have hkn : ¬ k = 0 := by omega
  have VA : Hid (decide ((0 < a ∧ a < p) ∧ a ^ q % p = 1) = true) := hid (decide_eq_true va)
  have PL := hid hp
  have QL := hid hq
  have GL := hid hg
  have AL := hid ha
  have NL := hid hn
  have ML := hid hm
  clear hp hq hg ha hn hm
  clear hq0 es ek va ho
  have H0 : Hid (Eg w (w.heap.size + 1) 26 p q g [(w.heap.size + 1 + 1 + 1 + 1, m), (w.heap.size + 1 + 1 + 1, n), (w.heap.size + 1 + 1, a)] (((((w.alloc (.cells #[.int .u64 (wd p 0 : Int), .int .u64 (wd p 1 : Int), .int .u64 (wd p 2 : Int), .int .u64 (wd p 3 : Int), .int .u64 (wd q 0 : Int), .int .u64 (wd q 1 : Int), .int .u64 (wd q 2 : Int), .int .u64 (wd q 3 : Int), .int .u64 (wd g 0 : Int), .int .u64 (wd g 1 : Int), .int .u64 (wd g 2 : Int), .int .u64 (wd g 3 : Int), .int .u64 (wd a 0 : Int), .int .u64 (wd a 1 : Int), .int .u64 (wd a 2 : Int), .int .u64 (wd a 3 : Int), .int .u64 (wd n 0 : Int), .int .u64 (wd n 1 : Int), .int .u64 (wd n 2 : Int), .int .u64 (wd n 3 : Int), .int .u64 (wd m 0 : Int), .int .u64 (wd m 1 : Int), .int .u64 (wd m 2 : Int), .int .u64 (wd m 3 : Int)] 40)).alloc (.cells (gcs p q g) 26)).alloc (.cells (cls a) 24)).alloc (.cells (cls n) 24)).alloc (.cells (cls m) 24))) := hid (by have h := (((((Eg.of ((Env.refl w).alloc (.cells #[.int .u64 (wd p 0 : Int), .int .u64 (wd p 1 : Int), .int .u64 (wd p 2 : Int), .int .u64 (wd p 3 : Int), .int .u64 (wd q 0 : Int), .int .u64 (wd q 1 : Int), .int .u64 (wd q 2 : Int), .int .u64 (wd q 3 : Int), .int .u64 (wd g 0 : Int), .int .u64 (wd g 1 : Int), .int .u64 (wd g 2 : Int), .int .u64 (wd g 3 : Int), .int .u64 (wd a 0 : Int), .int .u64 (wd a 1 : Int), .int .u64 (wd a 2 : Int), .int .u64 (wd a 3 : Int), .int .u64 (wd n 0 : Int), .int .u64 (wd n 1 : Int), .int .u64 (wd n 2 : Int), .int .u64 (wd n 3 : Int), .int .u64 (wd m 0 : Int), .int .u64 (wd m 1 : Int), .int .u64 (wd m 2 : Int), .int .u64 (wd m 3 : Int)] 40)) p q g 26)).new a).new n).new m); simpa using h)
  go_enter Try.func5, Try.ntmps5
  go_upto_region 5 with fail
  generalize ((((w.alloc (.cells #[.int .u64 (wd p 0 : Int), .int .u64 (wd p 1 : Int), .int .u64 (wd p 2 : Int), .int .u64 (wd p 3 : Int), .int .u64 (wd q 0 : Int), .int .u64 (wd q 1 : Int), .int .u64 (wd q 2 : Int), .int .u64 (wd q 3 : Int), .int .u64 (wd g 0 : Int), .int .u64 (wd g 1 : Int), .int .u64 (wd g 2 : Int), .int .u64 (wd g 3 : Int), .int .u64 (wd a 0 : Int), .int .u64 (wd a 1 : Int), .int .u64 (wd a 2 : Int), .int .u64 (wd a 3 : Int), .int .u64 (wd n 0 : Int), .int .u64 (wd n 1 : Int), .int .u64 (wd n 2 : Int), .int .u64 (wd n 3 : Int), .int .u64 (wd m 0 : Int), .int .u64 (wd m 1 : Int), .int .u64 (wd m 2 : Int), .int .u64 (wd m 3 : Int)] 40)).alloc (.cells (gcs p q g) 26)).alloc (.cells (cls a) 24)).alloc (.cells (cls n) 24)).alloc (.cells (cls m) 24) = w0 at *
  generalize w.heap.size + 1 + 1 + 1 + 1 = g_m at *
  generalize w.heap.size + 1 + 1 + 1 = g_n at *
  generalize w.heap.size + 1 + 1 = g_a at *
  generalize w.heap.size + 1 = g_p at *
  have eg0l := H0.out.gl
  have eg0m := Nat.le_of_lt eg0l
  obtain ⟨c2x0a, c2x0b, c2x0c, c2x0d⟩ := H0.out.cell (g_n) (n) (by simp)
  have c2x0l := H0.out.lt (g_n) (n) (by simp)
  have c2x0m := Nat.le_of_lt c2x0l
  obtain ⟨c8x0a, c8x0b, c8x0c, c8x0d⟩ := H0.out.cell (g_m) (m) (by simp)
  have c8x0l := H0.out.lt (g_m) (m) (by simp)
  have c8x0m := Nat.le_of_lt c8x0l
  go_wp2_with fail
  clear eg0l eg0m c2x0a c2x0b c2x0c c2x0d c2x0l c2x0m c8x0a c8x0b c8x0c c8x0d c8x0l c8x0m
  refine (eg_at (add_at n m s (k : Int) (Env.refl _) NL.out ML.out ES.out EK.out) H0.out).mono ?_
  rintro e w1 ⟨rfl, h⟩
  have H1 := hid h
  clear h H0
  go_upto_region 6 with fail
  have H1b := hid (H1.out.new s)
  clear H1
  generalize w1.alloc (.cells (cls s) 24) = w1b at *
  generalize w1.heap.size = g7 at *
  obtain ⟨ep1a, ep1b, ep1c, ep1d⟩ := H1b.out.gp
  obtain ⟨eq1a, eq1b, eq1c, eq1d⟩ := H1b.out.gq
  obtain ⟨eg1a, eg1b, eg1c, eg1d⟩ := H1b.out.gg
  have eg1l := H1b.out.gl
  have eg1m := Nat.le_of_lt eg1l
  obtain ⟨c14x1a, c14x1b, c14x1c, c14x1d⟩ := H1b.out.cell (g_a) (a) (by simp)
  have c14x1l := H1b.out.lt (g_a) (a) (by simp)
  have c14x1m := Nat.le_of_lt c14x1l
  go_wp2_with fail
  clear ep1a ep1b ep1c ep1d eq1a eq1b eq1c eq1d eg1a eg1b eg1c eg1d eg1l eg1m c14x1a c14x1b c14x1c c14x1d c14x1l c14x1m
  refine (eg_of (in_any p q g a true _ PL.out QL.out AL.out VA.out) H1b.out).mono ?_
  rintro e w2 ⟨rfl, h⟩
  have H2 := hid h
  clear h H1b
  obtain ⟨ep2a, ep2b, ep2c, ep2d⟩ := H2.out.gp
  obtain ⟨eq2a, eq2b, eq2c, eq2d⟩ := H2.out.gq
  obtain ⟨eg2a, eg2b, eg2c, eg2d⟩ := H2.out.gg
  have eg2l := H2.out.gl
  have eg2m := Nat.le_of_lt eg2l
  obtain ⟨c14x2a, c14x2b, c14x2c, c14x2d⟩ := H2.out.cell (g_a) (a) (by simp)
  have c14x2l := H2.out.lt (g_a) (a) (by simp)
  have c14x2m := Nat.le_of_lt c14x2l
  obtain ⟨c20x2a, c20x2b, c20x2c, c20x2d⟩ := H2.out.cell (g_n) (n) (by simp)
  have c20x2l := H2.out.lt (g_n) (n) (by simp)
  have c20x2m := Nat.le_of_lt c20x2l
  go_wp2_with fail
  clear ep2a ep2b ep2c ep2d eq2a eq2b eq2c eq2d eg2a eg2b eg2c eg2d eg2l eg2m c14x2a c14x2b c14x2c c14x2d c14x2l c14x2m c20x2a c20x2b c20x2c c20x2d c20x2l c20x2m
  refine (eg_at (lives_at (Env.refl _)) H2.out).mono ?_
  rintro e w3 ⟨rfl, h⟩
  have H3 := hid h
  clear h H2
  go_wp2
  go_ret
  exact ⟨rfl, H3.out.1.1⟩
set_option maxRecDepth 100000 in
set_option maxHeartbeats 4000000 in
theorem round_past (p q g a n m : Nat) (w : World) (hp : p < 2 ^ 256) (hq : q < 2 ^ 256) (hg : g < 2 ^ 256) (ha : a < 2 ^ 256) (hn : n < 2 ^ 256) (hm : m < 2 ^ 256) (hq0 : q ≠ 0) (va : (0 < a ∧ a < p) ∧ a ^ q % p = 1) (ho : (n + m) / 2 ^ 256 = 0) (hc : (n + q) / 2 ^ 256 ≠ 0) : Calls Try.prog 5 #[.agg #[.int .u64 (wd p 0 : Int), .int .u64 (wd p 1 : Int), .int .u64 (wd p 2 : Int), .int .u64 (wd p 3 : Int), .int .u64 (wd q 0 : Int), .int .u64 (wd q 1 : Int), .int .u64 (wd q 2 : Int), .int .u64 (wd q 3 : Int), .int .u64 (wd g 0 : Int), .int .u64 (wd g 1 : Int), .int .u64 (wd g 2 : Int), .int .u64 (wd g 3 : Int), .int .u64 (wd a 0 : Int), .int .u64 (wd a 1 : Int), .int .u64 (wd a 2 : Int), .int .u64 (wd a 3 : Int), .int .u64 (wd n 0 : Int), .int .u64 (wd n 1 : Int), .int .u64 (wd n 2 : Int), .int .u64 (wd n 3 : Int), .int .u64 (wd m 0 : Int), .int .u64 (wd m 1 : Int), .int .u64 (wd m 2 : Int), .int .u64 (wd m 3 : Int)]] w fun e w' => e = .returned (.bool true) ∧ Below w.heap.size w w' := by
  have qz : ∀ w, (Op.equalIn 10000 24 (num q) (.agg #[.int .u64 0, .int .u64 0, .int .u64 0, .int .u64 0])).run Try.prog w = .ok false w := by rw [num_zero]; exact eq_no q 0 hq (by decide) hq0
  obtain ⟨s, es⟩ : ∃ z, (n + m) % 2 ^ 256 = z := ⟨_, rfl⟩
  obtain ⟨k, ek⟩ : ∃ z, (n + m) / 2 ^ 256 = z := ⟨_, rfl⟩
  have ES := hid es
  have EK := hid (show (((n + m) / 2 ^ 256 : Nat) : Int) = (k : Int) by rw [ek])
  have hk : k = 0 := by omega
  subst hk
  have VA : Hid (decide ((0 < a ∧ a < p) ∧ a ^ q % p = 1) = true) := hid (decide_eq_true va)
  have hs2 : s = n + m := by rw [← es, Nat.mod_eq_of_lt]; rcases Nat.lt_or_ge (n + m) (2 ^ 256) with h | h; exact h; exact absurd ek (by have := Nat.div_pos h (Nat.two_pow_pos 256); omega)
  have hp1 : 1 < p := by omega
  have mx := grp_pow (n := n) hp1 va.2
  have my := grp_pow (n := m) hp1 va.2
  have mw := grp_add (p := p) (a := a) (n := n) (m := m)
  have mr := grp_round (n := n) hp1 va.2
  rw [← hs2] at mw
  have lx : a ^ n % p < p := Nat.mod_lt _ (by omega)
  obtain ⟨x, ex⟩ : ∃ r, a ^ n % p = r := ⟨_, rfl⟩
  rw [ex] at lx
  have ly : a ^ m % p < p := Nat.mod_lt _ (by omega)
  obtain ⟨y, ey⟩ : ∃ r, a ^ m % p = r := ⟨_, rfl⟩
  rw [ey] at ly
  have lz : a ^ s % p < p := Nat.mod_lt _ (by omega)
  obtain ⟨z, ez⟩ : ∃ r, a ^ s % p = r := ⟨_, rfl⟩
  rw [ez] at lz
  rw [ex] at mx mr
  rw [ey] at my
  rw [ex, ey, ez] at mw
  have vx := hid (grp_pos hp1 hq0 mx lx)
  have vy := hid (grp_pos hp1 hq0 my ly)
  obtain ⟨t, et⟩ : ∃ z, (n + q) % 2 ^ 256 = z := ⟨_, rfl⟩
  obtain ⟨j, ej⟩ : ∃ z, (n + q) / 2 ^ 256 = z := ⟨_, rfl⟩
  have ET := hid et
  have EJ := hid (show (((n + q) / 2 ^ 256 : Nat) : Int) = (j : Int) by rw [ej])
  have hj : (j : Int) ≠ 0 := by omega
  have hjb : ((j : Int) != 0) = true := by simpa using hj
  have hjn : ¬ j = 0 := by omega
  have AV := hid va.1
  have EX := hid ex
  have EY := hid ey
  have EZ := hid ez
  have MW := hid mw
  have SL := hid (show s < 2 ^ 256 by rw [← es]; exact Nat.mod_lt _ (Nat.two_pow_pos _))
  have TL := hid (show t < 2 ^ 256 by rw [← et]; exact Nat.mod_lt _ (Nat.two_pow_pos _))
  have qz2 := eq_yes z z rfl
  have qx := eq_yes x x rfl
  clear mx my mw mr lx ly lz ex ey ez hp1 et ej hs2 hc hj
  have hj : (j : Int) ≠ 0 := by have := hjn; omega
  have PL := hid hp
  have QL := hid hq
  have GL := hid hg
  have AL := hid ha
  have NL := hid hn
  have ML := hid hm
  clear hp hq hg ha hn hm
  clear hq0 es ek va ho
  have H0 : Hid (Eg w (w.heap.size + 1) 26 p q g [(w.heap.size + 1 + 1 + 1 + 1, m), (w.heap.size + 1 + 1 + 1, n), (w.heap.size + 1 + 1, a)] (((((w.alloc (.cells #[.int .u64 (wd p 0 : Int), .int .u64 (wd p 1 : Int), .int .u64 (wd p 2 : Int), .int .u64 (wd p 3 : Int), .int .u64 (wd q 0 : Int), .int .u64 (wd q 1 : Int), .int .u64 (wd q 2 : Int), .int .u64 (wd q 3 : Int), .int .u64 (wd g 0 : Int), .int .u64 (wd g 1 : Int), .int .u64 (wd g 2 : Int), .int .u64 (wd g 3 : Int), .int .u64 (wd a 0 : Int), .int .u64 (wd a 1 : Int), .int .u64 (wd a 2 : Int), .int .u64 (wd a 3 : Int), .int .u64 (wd n 0 : Int), .int .u64 (wd n 1 : Int), .int .u64 (wd n 2 : Int), .int .u64 (wd n 3 : Int), .int .u64 (wd m 0 : Int), .int .u64 (wd m 1 : Int), .int .u64 (wd m 2 : Int), .int .u64 (wd m 3 : Int)] 40)).alloc (.cells (gcs p q g) 26)).alloc (.cells (cls a) 24)).alloc (.cells (cls n) 24)).alloc (.cells (cls m) 24))) := hid (by have h := (((((Eg.of ((Env.refl w).alloc (.cells #[.int .u64 (wd p 0 : Int), .int .u64 (wd p 1 : Int), .int .u64 (wd p 2 : Int), .int .u64 (wd p 3 : Int), .int .u64 (wd q 0 : Int), .int .u64 (wd q 1 : Int), .int .u64 (wd q 2 : Int), .int .u64 (wd q 3 : Int), .int .u64 (wd g 0 : Int), .int .u64 (wd g 1 : Int), .int .u64 (wd g 2 : Int), .int .u64 (wd g 3 : Int), .int .u64 (wd a 0 : Int), .int .u64 (wd a 1 : Int), .int .u64 (wd a 2 : Int), .int .u64 (wd a 3 : Int), .int .u64 (wd n 0 : Int), .int .u64 (wd n 1 : Int), .int .u64 (wd n 2 : Int), .int .u64 (wd n 3 : Int), .int .u64 (wd m 0 : Int), .int .u64 (wd m 1 : Int), .int .u64 (wd m 2 : Int), .int .u64 (wd m 3 : Int)] 40)) p q g 26)).new a).new n).new m); simpa using h)
  go_enter Try.func5, Try.ntmps5
  go_upto_region 5 with fail
  generalize ((((w.alloc (.cells #[.int .u64 (wd p 0 : Int), .int .u64 (wd p 1 : Int), .int .u64 (wd p 2 : Int), .int .u64 (wd p 3 : Int), .int .u64 (wd q 0 : Int), .int .u64 (wd q 1 : Int), .int .u64 (wd q 2 : Int), .int .u64 (wd q 3 : Int), .int .u64 (wd g 0 : Int), .int .u64 (wd g 1 : Int), .int .u64 (wd g 2 : Int), .int .u64 (wd g 3 : Int), .int .u64 (wd a 0 : Int), .int .u64 (wd a 1 : Int), .int .u64 (wd a 2 : Int), .int .u64 (wd a 3 : Int), .int .u64 (wd n 0 : Int), .int .u64 (wd n 1 : Int), .int .u64 (wd n 2 : Int), .int .u64 (wd n 3 : Int), .int .u64 (wd m 0 : Int), .int .u64 (wd m 1 : Int), .int .u64 (wd m 2 : Int), .int .u64 (wd m 3 : Int)] 40)).alloc (.cells (gcs p q g) 26)).alloc (.cells (cls a) 24)).alloc (.cells (cls n) 24)).alloc (.cells (cls m) 24) = w0 at *
  generalize w.heap.size + 1 + 1 + 1 + 1 = g_m at *
  generalize w.heap.size + 1 + 1 + 1 = g_n at *
  generalize w.heap.size + 1 + 1 = g_a at *
  generalize w.heap.size + 1 = g_p at *
  have eg0l := H0.out.gl
  have eg0m := Nat.le_of_lt eg0l
  obtain ⟨c2x0a, c2x0b, c2x0c, c2x0d⟩ := H0.out.cell (g_n) (n) (by simp)
  have c2x0l := H0.out.lt (g_n) (n) (by simp)
  have c2x0m := Nat.le_of_lt c2x0l
  obtain ⟨c8x0a, c8x0b, c8x0c, c8x0d⟩ := H0.out.cell (g_m) (m) (by simp)
  have c8x0l := H0.out.lt (g_m) (m) (by simp)
  have c8x0m := Nat.le_of_lt c8x0l
  go_wp2_with fail
  clear eg0l eg0m c2x0a c2x0b c2x0c c2x0d c2x0l c2x0m c8x0a c8x0b c8x0c c8x0d c8x0l c8x0m
  refine (eg_at (add_at n m s 0 (Env.refl _) NL.out ML.out ES.out EK.out) H0.out).mono ?_
  rintro e w1 ⟨rfl, h⟩
  have H1 := hid h
  clear h H0
  go_upto_region 6 with fail
  have H1b := hid (H1.out.new s)
  clear H1
  generalize w1.alloc (.cells (cls s) 24) = w1b at *
  generalize w1.heap.size = g7 at *
  obtain ⟨ep1a, ep1b, ep1c, ep1d⟩ := H1b.out.gp
  obtain ⟨eq1a, eq1b, eq1c, eq1d⟩ := H1b.out.gq
  obtain ⟨eg1a, eg1b, eg1c, eg1d⟩ := H1b.out.gg
  have eg1l := H1b.out.gl
  have eg1m := Nat.le_of_lt eg1l
  obtain ⟨c14x1a, c14x1b, c14x1c, c14x1d⟩ := H1b.out.cell (g_a) (a) (by simp)
  have c14x1l := H1b.out.lt (g_a) (a) (by simp)
  have c14x1m := Nat.le_of_lt c14x1l
  go_wp2_with fail
  clear ep1a ep1b ep1c ep1d eq1a eq1b eq1c eq1d eg1a eg1b eg1c eg1d eg1l eg1m c14x1a c14x1b c14x1c c14x1d c14x1l c14x1m
  refine (eg_of (in_any p q g a true _ PL.out QL.out AL.out VA.out) H1b.out).mono ?_
  rintro e w2 ⟨rfl, h⟩
  have H2 := hid h
  clear h H1b
  obtain ⟨ep2a, ep2b, ep2c, ep2d⟩ := H2.out.gp
  obtain ⟨eq2a, eq2b, eq2c, eq2d⟩ := H2.out.gq
  obtain ⟨eg2a, eg2b, eg2c, eg2d⟩ := H2.out.gg
  have eg2l := H2.out.gl
  have eg2m := Nat.le_of_lt eg2l
  obtain ⟨c14x2a, c14x2b, c14x2c, c14x2d⟩ := H2.out.cell (g_a) (a) (by simp)
  have c14x2l := H2.out.lt (g_a) (a) (by simp)
  have c14x2m := Nat.le_of_lt c14x2l
  obtain ⟨c20x2a, c20x2b, c20x2c, c20x2d⟩ := H2.out.cell (g_n) (n) (by simp)
  have c20x2l := H2.out.lt (g_n) (n) (by simp)
  have c20x2m := Nat.le_of_lt c20x2l
  go_wp2_with fail
  clear ep2a ep2b ep2c ep2d eq2a eq2b eq2c eq2d eg2a eg2b eg2c eg2d eg2l eg2m c14x2a c14x2b c14x2c c14x2d c14x2l c14x2m c20x2a c20x2b c20x2c c20x2d c20x2l c20x2m
  refine (eg_of (gexp_any p q g a n x _ PL.out NL.out AV.out EX.out) H2.out).mono ?_
  rintro e w3 ⟨rfl, h⟩
  have H3 := hid h
  clear h H2
  go_upto_region 9 with fail
  have H3b := hid (H3.out.new x)
  clear H3
  generalize w3.alloc (.cells (cls x) 24) = w3b at *
  generalize w3.heap.size = g9 at *
  obtain ⟨ep3a, ep3b, ep3c, ep3d⟩ := H3b.out.gp
  obtain ⟨eq3a, eq3b, eq3c, eq3d⟩ := H3b.out.gq
  obtain ⟨eg3a, eg3b, eg3c, eg3d⟩ := H3b.out.gg
  have eg3l := H3b.out.gl
  have eg3m := Nat.le_of_lt eg3l
  obtain ⟨c14x3a, c14x3b, c14x3c, c14x3d⟩ := H3b.out.cell (g_a) (a) (by simp)
  have c14x3l := H3b.out.lt (g_a) (a) (by simp)
  have c14x3m := Nat.le_of_lt c14x3l
  obtain ⟨c20x3a, c20x3b, c20x3c, c20x3d⟩ := H3b.out.cell (g_m) (m) (by simp)
  have c20x3l := H3b.out.lt (g_m) (m) (by simp)
  have c20x3m := Nat.le_of_lt c20x3l
  go_wp2_with fail
  clear ep3a ep3b ep3c ep3d eq3a eq3b eq3c eq3d eg3a eg3b eg3c eg3d eg3l eg3m c14x3a c14x3b c14x3c c14x3d c14x3l c14x3m c20x3a c20x3b c20x3c c20x3d c20x3l c20x3m
  refine (eg_of (gexp_any p q g a m y _ PL.out ML.out AV.out EY.out) H3b.out).mono ?_
  rintro e w4 ⟨rfl, h⟩
  have H4 := hid h
  clear h H3b
  go_upto_region 10 with fail
  have H4b := hid (H4.out.new y)
  clear H4
  generalize w4.alloc (.cells (cls y) 24) = w4b at *
  generalize w4.heap.size = g11 at *
  obtain ⟨ep4a, ep4b, ep4c, ep4d⟩ := H4b.out.gp
  obtain ⟨eq4a, eq4b, eq4c, eq4d⟩ := H4b.out.gq
  obtain ⟨eg4a, eg4b, eg4c, eg4d⟩ := H4b.out.gg
  have eg4l := H4b.out.gl
  have eg4m := Nat.le_of_lt eg4l
  obtain ⟨c14x4a, c14x4b, c14x4c, c14x4d⟩ := H4b.out.cell (g_a) (a) (by simp)
  have c14x4l := H4b.out.lt (g_a) (a) (by simp)
  have c14x4m := Nat.le_of_lt c14x4l
  obtain ⟨c20x4a, c20x4b, c20x4c, c20x4d⟩ := H4b.out.cell (g7) (s) (by simp)
  have c20x4l := H4b.out.lt (g7) (s) (by simp)
  have c20x4m := Nat.le_of_lt c20x4l
  go_wp2_with fail
  clear ep4a ep4b ep4c ep4d eq4a eq4b eq4c eq4d eg4a eg4b eg4c eg4d eg4l eg4m c14x4a c14x4b c14x4c c14x4d c14x4l c14x4m c20x4a c20x4b c20x4c c20x4d c20x4l c20x4m
  refine (eg_of (gexp_any p q g a s z _ PL.out SL.out AV.out EZ.out) H4b.out).mono ?_
  rintro e w5 ⟨rfl, h⟩
  have H5 := hid h
  clear h H4b
  go_upto_region 11 with fail
  have H5b := hid (H5.out.new z)
  clear H5
  generalize w5.alloc (.cells (cls z) 24) = w5b at *
  generalize w5.heap.size = g13 at *
  obtain ⟨ep5a, ep5b, ep5c, ep5d⟩ := H5b.out.gp
  obtain ⟨eq5a, eq5b, eq5c, eq5d⟩ := H5b.out.gq
  obtain ⟨eg5a, eg5b, eg5c, eg5d⟩ := H5b.out.gg
  have eg5l := H5b.out.gl
  have eg5m := Nat.le_of_lt eg5l
  obtain ⟨c14x5a, c14x5b, c14x5c, c14x5d⟩ := H5b.out.cell (g9) (x) (by simp)
  have c14x5l := H5b.out.lt (g9) (x) (by simp)
  have c14x5m := Nat.le_of_lt c14x5l
  obtain ⟨c20x5a, c20x5b, c20x5c, c20x5d⟩ := H5b.out.cell (g11) (y) (by simp)
  have c20x5l := H5b.out.lt (g11) (y) (by simp)
  have c20x5m := Nat.le_of_lt c20x5l
  go_wp2_with fail
  clear ep5a ep5b ep5c ep5d eq5a eq5b eq5c eq5d eg5a eg5b eg5c eg5d eg5l eg5m c14x5a c14x5b c14x5c c14x5d c14x5l c14x5m c20x5a c20x5b c20x5c c20x5d c20x5l c20x5m
  refine (eg_of (gmul_at p q g x y z _ PL.out vx.out vy.out MW.out) H5b.out).mono ?_
  rintro e w6 ⟨rfl, h⟩
  have H6 := hid h
  clear h H5b
  go_upto_region 12 with fail
  have H6b := hid (H6.out.new z)
  clear H6
  generalize w6.alloc (.cells (cls z) 24) = w6b at *
  generalize w6.heap.size = g15 at *
  obtain ⟨c0x6a, c0x6b, c0x6c, c0x6d⟩ := H6b.out.cell (g15) (z) (by simp)
  have c0x6l := H6b.out.lt (g15) (z) (by simp)
  have c0x6m := Nat.le_of_lt c0x6l
  obtain ⟨c6x6a, c6x6b, c6x6c, c6x6d⟩ := H6b.out.cell (g13) (z) (by simp)
  have c6x6l := H6b.out.lt (g13) (z) (by simp)
  have c6x6m := Nat.le_of_lt c6x6l
  obtain ⟨c12x6a, c12x6b, c12x6c, c12x6d⟩ := H6b.out.cell (g_n) (n) (by simp)
  have c12x6l := H6b.out.lt (g_n) (n) (by simp)
  have c12x6m := Nat.le_of_lt c12x6l
  obtain ⟨eq6a, eq6b, eq6c, eq6d⟩ := H6b.out.gq
  have eg6l := H6b.out.gl
  have eg6m := Nat.le_of_lt eg6l
  go_wp2_with fail
  clear c0x6a c0x6b c0x6c c0x6d c0x6l c0x6m c6x6a c6x6b c6x6c c6x6d c6x6l c6x6m c12x6a c12x6b c12x6c c12x6d c12x6l c12x6m eq6a eq6b eq6c eq6d eg6l eg6m
  refine (eg_at (add_at n q t (j : Int) (Env.refl _) NL.out QL.out ET.out EJ.out) H6b.out).mono ?_
  rintro e w7 ⟨rfl, h⟩
  have H7 := hid h
  clear h H6b
  go_upto_region 15 with fail
  have H7b := hid (H7.out.new t)
  clear H7
  generalize w7.alloc (.cells (cls t) 24) = w7b at *
  generalize w7.heap.size = g17 at *
  go_wp2_with fail
  refine (eg_at (lives_at (Env.refl _)) H7b.out).mono ?_
  rintro e w8 ⟨rfl, h⟩
  have H8 := hid h
  clear h H7b
  go_wp2
  go_ret
  exact ⟨rfl, H8.out.1.1⟩
set_option maxRecDepth 100000 in
set_option maxHeartbeats 4000000 in
theorem round_all (p q g a n m : Nat) (w : World) (hp : p < 2 ^ 256) (hq : q < 2 ^ 256) (hg : g < 2 ^ 256) (ha : a < 2 ^ 256) (hn : n < 2 ^ 256) (hm : m < 2 ^ 256) (hq0 : q ≠ 0) (va : (0 < a ∧ a < p) ∧ a ^ q % p = 1) (ho : (n + m) / 2 ^ 256 = 0) (hc : (n + q) / 2 ^ 256 = 0) : Calls Try.prog 5 #[.agg #[.int .u64 (wd p 0 : Int), .int .u64 (wd p 1 : Int), .int .u64 (wd p 2 : Int), .int .u64 (wd p 3 : Int), .int .u64 (wd q 0 : Int), .int .u64 (wd q 1 : Int), .int .u64 (wd q 2 : Int), .int .u64 (wd q 3 : Int), .int .u64 (wd g 0 : Int), .int .u64 (wd g 1 : Int), .int .u64 (wd g 2 : Int), .int .u64 (wd g 3 : Int), .int .u64 (wd a 0 : Int), .int .u64 (wd a 1 : Int), .int .u64 (wd a 2 : Int), .int .u64 (wd a 3 : Int), .int .u64 (wd n 0 : Int), .int .u64 (wd n 1 : Int), .int .u64 (wd n 2 : Int), .int .u64 (wd n 3 : Int), .int .u64 (wd m 0 : Int), .int .u64 (wd m 1 : Int), .int .u64 (wd m 2 : Int), .int .u64 (wd m 3 : Int)]] w fun e w' => e = .returned (.bool true) ∧ Below w.heap.size w w' := by
  have qz : ∀ w, (Op.equalIn 10000 24 (num q) (.agg #[.int .u64 0, .int .u64 0, .int .u64 0, .int .u64 0])).run Try.prog w = .ok false w := by rw [num_zero]; exact eq_no q 0 hq (by decide) hq0
  obtain ⟨s, es⟩ : ∃ z, (n + m) % 2 ^ 256 = z := ⟨_, rfl⟩
  obtain ⟨k, ek⟩ : ∃ z, (n + m) / 2 ^ 256 = z := ⟨_, rfl⟩
  have ES := hid es
  have EK := hid (show (((n + m) / 2 ^ 256 : Nat) : Int) = (k : Int) by rw [ek])
  have hk : k = 0 := by omega
  subst hk
  have VA : Hid (decide ((0 < a ∧ a < p) ∧ a ^ q % p = 1) = true) := hid (decide_eq_true va)
  have hs2 : s = n + m := by rw [← es, Nat.mod_eq_of_lt]; rcases Nat.lt_or_ge (n + m) (2 ^ 256) with h | h; exact h; exact absurd ek (by have := Nat.div_pos h (Nat.two_pow_pos 256); omega)
  have hp1 : 1 < p := by omega
  have mx := grp_pow (n := n) hp1 va.2
  have my := grp_pow (n := m) hp1 va.2
  have mw := grp_add (p := p) (a := a) (n := n) (m := m)
  have mr := grp_round (n := n) hp1 va.2
  rw [← hs2] at mw
  have lx : a ^ n % p < p := Nat.mod_lt _ (by omega)
  obtain ⟨x, ex⟩ : ∃ r, a ^ n % p = r := ⟨_, rfl⟩
  rw [ex] at lx
  have ly : a ^ m % p < p := Nat.mod_lt _ (by omega)
  obtain ⟨y, ey⟩ : ∃ r, a ^ m % p = r := ⟨_, rfl⟩
  rw [ey] at ly
  have lz : a ^ s % p < p := Nat.mod_lt _ (by omega)
  obtain ⟨z, ez⟩ : ∃ r, a ^ s % p = r := ⟨_, rfl⟩
  rw [ez] at lz
  rw [ex] at mx mr
  rw [ey] at my
  rw [ex, ey, ez] at mw
  have vx := hid (grp_pos hp1 hq0 mx lx)
  have vy := hid (grp_pos hp1 hq0 my ly)
  obtain ⟨t, et⟩ : ∃ z, (n + q) % 2 ^ 256 = z := ⟨_, rfl⟩
  obtain ⟨j, ej⟩ : ∃ z, (n + q) / 2 ^ 256 = z := ⟨_, rfl⟩
  have ET := hid et
  have EJ := hid (show (((n + q) / 2 ^ 256 : Nat) : Int) = (j : Int) by rw [ej])
  have hj : j = 0 := by omega
  subst hj
  have ht2 : t = n + q := by rw [← et, Nat.mod_eq_of_lt]; rcases Nat.lt_or_ge (n + q) (2 ^ 256) with h | h; exact h; exact absurd ej (by have := Nat.div_pos h (Nat.two_pow_pos 256); omega)
  have MR := hid (show a ^ t % p = x by rw [ht2]; exact mr)
  clear ht2
  have AV := hid va.1
  have EX := hid ex
  have EY := hid ey
  have EZ := hid ez
  have MW := hid mw
  have SL := hid (show s < 2 ^ 256 by rw [← es]; exact Nat.mod_lt _ (Nat.two_pow_pos _))
  have TL := hid (show t < 2 ^ 256 by rw [← et]; exact Nat.mod_lt _ (Nat.two_pow_pos _))
  have qz2 := eq_yes z z rfl
  have qx := eq_yes x x rfl
  clear mx my mw mr lx ly lz ex ey ez hp1 et ej hs2 hc
  have PL := hid hp
  have QL := hid hq
  have GL := hid hg
  have AL := hid ha
  have NL := hid hn
  have ML := hid hm
  clear hp hq hg ha hn hm
  clear hq0 es ek va ho
  have H0 : Hid (Eg w (w.heap.size + 1) 26 p q g [(w.heap.size + 1 + 1 + 1 + 1, m), (w.heap.size + 1 + 1 + 1, n), (w.heap.size + 1 + 1, a)] (((((w.alloc (.cells #[.int .u64 (wd p 0 : Int), .int .u64 (wd p 1 : Int), .int .u64 (wd p 2 : Int), .int .u64 (wd p 3 : Int), .int .u64 (wd q 0 : Int), .int .u64 (wd q 1 : Int), .int .u64 (wd q 2 : Int), .int .u64 (wd q 3 : Int), .int .u64 (wd g 0 : Int), .int .u64 (wd g 1 : Int), .int .u64 (wd g 2 : Int), .int .u64 (wd g 3 : Int), .int .u64 (wd a 0 : Int), .int .u64 (wd a 1 : Int), .int .u64 (wd a 2 : Int), .int .u64 (wd a 3 : Int), .int .u64 (wd n 0 : Int), .int .u64 (wd n 1 : Int), .int .u64 (wd n 2 : Int), .int .u64 (wd n 3 : Int), .int .u64 (wd m 0 : Int), .int .u64 (wd m 1 : Int), .int .u64 (wd m 2 : Int), .int .u64 (wd m 3 : Int)] 40)).alloc (.cells (gcs p q g) 26)).alloc (.cells (cls a) 24)).alloc (.cells (cls n) 24)).alloc (.cells (cls m) 24))) := hid (by have h := (((((Eg.of ((Env.refl w).alloc (.cells #[.int .u64 (wd p 0 : Int), .int .u64 (wd p 1 : Int), .int .u64 (wd p 2 : Int), .int .u64 (wd p 3 : Int), .int .u64 (wd q 0 : Int), .int .u64 (wd q 1 : Int), .int .u64 (wd q 2 : Int), .int .u64 (wd q 3 : Int), .int .u64 (wd g 0 : Int), .int .u64 (wd g 1 : Int), .int .u64 (wd g 2 : Int), .int .u64 (wd g 3 : Int), .int .u64 (wd a 0 : Int), .int .u64 (wd a 1 : Int), .int .u64 (wd a 2 : Int), .int .u64 (wd a 3 : Int), .int .u64 (wd n 0 : Int), .int .u64 (wd n 1 : Int), .int .u64 (wd n 2 : Int), .int .u64 (wd n 3 : Int), .int .u64 (wd m 0 : Int), .int .u64 (wd m 1 : Int), .int .u64 (wd m 2 : Int), .int .u64 (wd m 3 : Int)] 40)) p q g 26)).new a).new n).new m); simpa using h)
  go_enter Try.func5, Try.ntmps5
  go_upto_region 5 with fail
  generalize ((((w.alloc (.cells #[.int .u64 (wd p 0 : Int), .int .u64 (wd p 1 : Int), .int .u64 (wd p 2 : Int), .int .u64 (wd p 3 : Int), .int .u64 (wd q 0 : Int), .int .u64 (wd q 1 : Int), .int .u64 (wd q 2 : Int), .int .u64 (wd q 3 : Int), .int .u64 (wd g 0 : Int), .int .u64 (wd g 1 : Int), .int .u64 (wd g 2 : Int), .int .u64 (wd g 3 : Int), .int .u64 (wd a 0 : Int), .int .u64 (wd a 1 : Int), .int .u64 (wd a 2 : Int), .int .u64 (wd a 3 : Int), .int .u64 (wd n 0 : Int), .int .u64 (wd n 1 : Int), .int .u64 (wd n 2 : Int), .int .u64 (wd n 3 : Int), .int .u64 (wd m 0 : Int), .int .u64 (wd m 1 : Int), .int .u64 (wd m 2 : Int), .int .u64 (wd m 3 : Int)] 40)).alloc (.cells (gcs p q g) 26)).alloc (.cells (cls a) 24)).alloc (.cells (cls n) 24)).alloc (.cells (cls m) 24) = w0 at *
  generalize w.heap.size + 1 + 1 + 1 + 1 = g_m at *
  generalize w.heap.size + 1 + 1 + 1 = g_n at *
  generalize w.heap.size + 1 + 1 = g_a at *
  generalize w.heap.size + 1 = g_p at *
  have eg0l := H0.out.gl
  have eg0m := Nat.le_of_lt eg0l
  obtain ⟨c2x0a, c2x0b, c2x0c, c2x0d⟩ := H0.out.cell (g_n) (n) (by simp)
  have c2x0l := H0.out.lt (g_n) (n) (by simp)
  have c2x0m := Nat.le_of_lt c2x0l
  obtain ⟨c8x0a, c8x0b, c8x0c, c8x0d⟩ := H0.out.cell (g_m) (m) (by simp)
  have c8x0l := H0.out.lt (g_m) (m) (by simp)
  have c8x0m := Nat.le_of_lt c8x0l
  go_wp2_with fail
  clear eg0l eg0m c2x0a c2x0b c2x0c c2x0d c2x0l c2x0m c8x0a c8x0b c8x0c c8x0d c8x0l c8x0m
  refine (eg_at (add_at n m s 0 (Env.refl _) NL.out ML.out ES.out EK.out) H0.out).mono ?_
  rintro e w1 ⟨rfl, h⟩
  have H1 := hid h
  clear h H0
  go_upto_region 6 with fail
  have H1b := hid (H1.out.new s)
  clear H1
  generalize w1.alloc (.cells (cls s) 24) = w1b at *
  generalize w1.heap.size = g7 at *
  obtain ⟨ep1a, ep1b, ep1c, ep1d⟩ := H1b.out.gp
  obtain ⟨eq1a, eq1b, eq1c, eq1d⟩ := H1b.out.gq
  obtain ⟨eg1a, eg1b, eg1c, eg1d⟩ := H1b.out.gg
  have eg1l := H1b.out.gl
  have eg1m := Nat.le_of_lt eg1l
  obtain ⟨c14x1a, c14x1b, c14x1c, c14x1d⟩ := H1b.out.cell (g_a) (a) (by simp)
  have c14x1l := H1b.out.lt (g_a) (a) (by simp)
  have c14x1m := Nat.le_of_lt c14x1l
  go_wp2_with fail
  clear ep1a ep1b ep1c ep1d eq1a eq1b eq1c eq1d eg1a eg1b eg1c eg1d eg1l eg1m c14x1a c14x1b c14x1c c14x1d c14x1l c14x1m
  refine (eg_of (in_any p q g a true _ PL.out QL.out AL.out VA.out) H1b.out).mono ?_
  rintro e w2 ⟨rfl, h⟩
  have H2 := hid h
  clear h H1b
  obtain ⟨ep2a, ep2b, ep2c, ep2d⟩ := H2.out.gp
  obtain ⟨eq2a, eq2b, eq2c, eq2d⟩ := H2.out.gq
  obtain ⟨eg2a, eg2b, eg2c, eg2d⟩ := H2.out.gg
  have eg2l := H2.out.gl
  have eg2m := Nat.le_of_lt eg2l
  obtain ⟨c14x2a, c14x2b, c14x2c, c14x2d⟩ := H2.out.cell (g_a) (a) (by simp)
  have c14x2l := H2.out.lt (g_a) (a) (by simp)
  have c14x2m := Nat.le_of_lt c14x2l
  obtain ⟨c20x2a, c20x2b, c20x2c, c20x2d⟩ := H2.out.cell (g_n) (n) (by simp)
  have c20x2l := H2.out.lt (g_n) (n) (by simp)
  have c20x2m := Nat.le_of_lt c20x2l
  go_wp2_with fail
  clear ep2a ep2b ep2c ep2d eq2a eq2b eq2c eq2d eg2a eg2b eg2c eg2d eg2l eg2m c14x2a c14x2b c14x2c c14x2d c14x2l c14x2m c20x2a c20x2b c20x2c c20x2d c20x2l c20x2m
  refine (eg_of (gexp_any p q g a n x _ PL.out NL.out AV.out EX.out) H2.out).mono ?_
  rintro e w3 ⟨rfl, h⟩
  have H3 := hid h
  clear h H2
  go_upto_region 9 with fail
  have H3b := hid (H3.out.new x)
  clear H3
  generalize w3.alloc (.cells (cls x) 24) = w3b at *
  generalize w3.heap.size = g9 at *
  obtain ⟨ep3a, ep3b, ep3c, ep3d⟩ := H3b.out.gp
  obtain ⟨eq3a, eq3b, eq3c, eq3d⟩ := H3b.out.gq
  obtain ⟨eg3a, eg3b, eg3c, eg3d⟩ := H3b.out.gg
  have eg3l := H3b.out.gl
  have eg3m := Nat.le_of_lt eg3l
  obtain ⟨c14x3a, c14x3b, c14x3c, c14x3d⟩ := H3b.out.cell (g_a) (a) (by simp)
  have c14x3l := H3b.out.lt (g_a) (a) (by simp)
  have c14x3m := Nat.le_of_lt c14x3l
  obtain ⟨c20x3a, c20x3b, c20x3c, c20x3d⟩ := H3b.out.cell (g_m) (m) (by simp)
  have c20x3l := H3b.out.lt (g_m) (m) (by simp)
  have c20x3m := Nat.le_of_lt c20x3l
  go_wp2_with fail
  clear ep3a ep3b ep3c ep3d eq3a eq3b eq3c eq3d eg3a eg3b eg3c eg3d eg3l eg3m c14x3a c14x3b c14x3c c14x3d c14x3l c14x3m c20x3a c20x3b c20x3c c20x3d c20x3l c20x3m
  refine (eg_of (gexp_any p q g a m y _ PL.out ML.out AV.out EY.out) H3b.out).mono ?_
  rintro e w4 ⟨rfl, h⟩
  have H4 := hid h
  clear h H3b
  go_upto_region 10 with fail
  have H4b := hid (H4.out.new y)
  clear H4
  generalize w4.alloc (.cells (cls y) 24) = w4b at *
  generalize w4.heap.size = g11 at *
  obtain ⟨ep4a, ep4b, ep4c, ep4d⟩ := H4b.out.gp
  obtain ⟨eq4a, eq4b, eq4c, eq4d⟩ := H4b.out.gq
  obtain ⟨eg4a, eg4b, eg4c, eg4d⟩ := H4b.out.gg
  have eg4l := H4b.out.gl
  have eg4m := Nat.le_of_lt eg4l
  obtain ⟨c14x4a, c14x4b, c14x4c, c14x4d⟩ := H4b.out.cell (g_a) (a) (by simp)
  have c14x4l := H4b.out.lt (g_a) (a) (by simp)
  have c14x4m := Nat.le_of_lt c14x4l
  obtain ⟨c20x4a, c20x4b, c20x4c, c20x4d⟩ := H4b.out.cell (g7) (s) (by simp)
  have c20x4l := H4b.out.lt (g7) (s) (by simp)
  have c20x4m := Nat.le_of_lt c20x4l
  go_wp2_with fail
  clear ep4a ep4b ep4c ep4d eq4a eq4b eq4c eq4d eg4a eg4b eg4c eg4d eg4l eg4m c14x4a c14x4b c14x4c c14x4d c14x4l c14x4m c20x4a c20x4b c20x4c c20x4d c20x4l c20x4m
  refine (eg_of (gexp_any p q g a s z _ PL.out SL.out AV.out EZ.out) H4b.out).mono ?_
  rintro e w5 ⟨rfl, h⟩
  have H5 := hid h
  clear h H4b
  go_upto_region 11 with fail
  have H5b := hid (H5.out.new z)
  clear H5
  generalize w5.alloc (.cells (cls z) 24) = w5b at *
  generalize w5.heap.size = g13 at *
  obtain ⟨ep5a, ep5b, ep5c, ep5d⟩ := H5b.out.gp
  obtain ⟨eq5a, eq5b, eq5c, eq5d⟩ := H5b.out.gq
  obtain ⟨eg5a, eg5b, eg5c, eg5d⟩ := H5b.out.gg
  have eg5l := H5b.out.gl
  have eg5m := Nat.le_of_lt eg5l
  obtain ⟨c14x5a, c14x5b, c14x5c, c14x5d⟩ := H5b.out.cell (g9) (x) (by simp)
  have c14x5l := H5b.out.lt (g9) (x) (by simp)
  have c14x5m := Nat.le_of_lt c14x5l
  obtain ⟨c20x5a, c20x5b, c20x5c, c20x5d⟩ := H5b.out.cell (g11) (y) (by simp)
  have c20x5l := H5b.out.lt (g11) (y) (by simp)
  have c20x5m := Nat.le_of_lt c20x5l
  go_wp2_with fail
  clear ep5a ep5b ep5c ep5d eq5a eq5b eq5c eq5d eg5a eg5b eg5c eg5d eg5l eg5m c14x5a c14x5b c14x5c c14x5d c14x5l c14x5m c20x5a c20x5b c20x5c c20x5d c20x5l c20x5m
  refine (eg_of (gmul_at p q g x y z _ PL.out vx.out vy.out MW.out) H5b.out).mono ?_
  rintro e w6 ⟨rfl, h⟩
  have H6 := hid h
  clear h H5b
  go_upto_region 12 with fail
  have H6b := hid (H6.out.new z)
  clear H6
  generalize w6.alloc (.cells (cls z) 24) = w6b at *
  generalize w6.heap.size = g15 at *
  obtain ⟨c0x6a, c0x6b, c0x6c, c0x6d⟩ := H6b.out.cell (g15) (z) (by simp)
  have c0x6l := H6b.out.lt (g15) (z) (by simp)
  have c0x6m := Nat.le_of_lt c0x6l
  obtain ⟨c6x6a, c6x6b, c6x6c, c6x6d⟩ := H6b.out.cell (g13) (z) (by simp)
  have c6x6l := H6b.out.lt (g13) (z) (by simp)
  have c6x6m := Nat.le_of_lt c6x6l
  obtain ⟨c12x6a, c12x6b, c12x6c, c12x6d⟩ := H6b.out.cell (g_n) (n) (by simp)
  have c12x6l := H6b.out.lt (g_n) (n) (by simp)
  have c12x6m := Nat.le_of_lt c12x6l
  obtain ⟨eq6a, eq6b, eq6c, eq6d⟩ := H6b.out.gq
  have eg6l := H6b.out.gl
  have eg6m := Nat.le_of_lt eg6l
  go_wp2_with fail
  clear c0x6a c0x6b c0x6c c0x6d c0x6l c0x6m c6x6a c6x6b c6x6c c6x6d c6x6l c6x6m c12x6a c12x6b c12x6c c12x6d c12x6l c12x6m eq6a eq6b eq6c eq6d eg6l eg6m
  refine (eg_at (add_at n q t 0 (Env.refl _) NL.out QL.out ET.out EJ.out) H6b.out).mono ?_
  rintro e w7 ⟨rfl, h⟩
  have H7 := hid h
  clear h H6b
  go_upto_region 15 with fail
  have H7b := hid (H7.out.new t)
  clear H7
  generalize w7.alloc (.cells (cls t) 24) = w7b at *
  generalize w7.heap.size = g17 at *
  obtain ⟨ep7a, ep7b, ep7c, ep7d⟩ := H7b.out.gp
  obtain ⟨eq7a, eq7b, eq7c, eq7d⟩ := H7b.out.gq
  obtain ⟨eg7a, eg7b, eg7c, eg7d⟩ := H7b.out.gg
  have eg7l := H7b.out.gl
  have eg7m := Nat.le_of_lt eg7l
  obtain ⟨c14x7a, c14x7b, c14x7c, c14x7d⟩ := H7b.out.cell (g_a) (a) (by simp)
  have c14x7l := H7b.out.lt (g_a) (a) (by simp)
  have c14x7m := Nat.le_of_lt c14x7l
  obtain ⟨c20x7a, c20x7b, c20x7c, c20x7d⟩ := H7b.out.cell (g17) (t) (by simp)
  have c20x7l := H7b.out.lt (g17) (t) (by simp)
  have c20x7m := Nat.le_of_lt c20x7l
  go_wp2_with fail
  clear ep7a ep7b ep7c ep7d eq7a eq7b eq7c eq7d eg7a eg7b eg7c eg7d eg7l eg7m c14x7a c14x7b c14x7c c14x7d c14x7l c14x7m c20x7a c20x7b c20x7c c20x7d c20x7l c20x7m
  refine (eg_of (gexp_any p q g a t x _ PL.out TL.out AV.out MR.out) H7b.out).mono ?_
  rintro e w8 ⟨rfl, h⟩
  have H8 := hid h
  clear h H7b
  go_upto_region 18 with fail
  have H8b := hid (H8.out.new x)
  clear H8
  generalize w8.alloc (.cells (cls x) 24) = w8b at *
  generalize w8.heap.size = g19 at *
  obtain ⟨c0x8a, c0x8b, c0x8c, c0x8d⟩ := H8b.out.cell (g19) (x) (by simp)
  have c0x8l := H8b.out.lt (g19) (x) (by simp)
  have c0x8m := Nat.le_of_lt c0x8l
  obtain ⟨c6x8a, c6x8b, c6x8c, c6x8d⟩ := H8b.out.cell (g9) (x) (by simp)
  have c6x8l := H8b.out.lt (g9) (x) (by simp)
  have c6x8m := Nat.le_of_lt c6x8l
  go_wp2_with fail
  clear c0x8a c0x8b c0x8c c0x8d c0x8l c0x8m c6x8a c6x8b c6x8c c6x8d c6x8l c6x8m
  refine (eg_at (lives_at (Env.refl _)) H8b.out).mono ?_
  rintro e w9 ⟨rfl, h⟩
  have H9 := hid h
  clear h H8b
  go_wp2
  go_ret
  exact ⟨rfl, H9.out.1.1⟩
theorem roundLaw_any (p q g a n m : Nat) (w : World) (hp : p < 2 ^ 256) (hq : q < 2 ^ 256) (hg : g < 2 ^ 256) (ha : a < 2 ^ 256) (hn : n < 2 ^ 256) (hm : m < 2 ^ 256) : Calls Try.prog 5 #[.agg #[.int .u64 (wd p 0 : Int), .int .u64 (wd p 1 : Int), .int .u64 (wd p 2 : Int), .int .u64 (wd p 3 : Int), .int .u64 (wd q 0 : Int), .int .u64 (wd q 1 : Int), .int .u64 (wd q 2 : Int), .int .u64 (wd q 3 : Int), .int .u64 (wd g 0 : Int), .int .u64 (wd g 1 : Int), .int .u64 (wd g 2 : Int), .int .u64 (wd g 3 : Int), .int .u64 (wd a 0 : Int), .int .u64 (wd a 1 : Int), .int .u64 (wd a 2 : Int), .int .u64 (wd a 3 : Int), .int .u64 (wd n 0 : Int), .int .u64 (wd n 1 : Int), .int .u64 (wd n 2 : Int), .int .u64 (wd n 3 : Int), .int .u64 (wd m 0 : Int), .int .u64 (wd m 1 : Int), .int .u64 (wd m 2 : Int), .int .u64 (wd m 3 : Int)]] w fun e w' => e = .returned (.bool true) ∧ Below w.heap.size w w' := by
  by_cases h0 : q = 0
  · exact round_zero p q g a n m w hp hq hg ha hn hm h0
  by_cases h1 : (0 < a ∧ a < p) ∧ a ^ q % p = 1
  · by_cases h2 : (n + m) / 2 ^ 256 = 0
    · by_cases h3 : (n + q) / 2 ^ 256 = 0
      · exact round_all p q g a n m w hp hq hg ha hn hm h0 h1 h2 h3
      · exact round_past p q g a n m w hp hq hg ha hn hm h0 h1 h2 h3
    · exact round_over p q g a n m w hp hq hg ha hn hm h0 h1 h2
  · exact round_no p q g a n m w hp hq hg ha hn hm h0 h1
end Go.Proofs.Ytaggegknnnembaa
