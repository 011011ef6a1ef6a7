/-
  burrowlaw06.GroupsClosed, walked: it answers true at any group and numbers. Conditions: none.
-/
import Derived.Test.YtaggegknnnembaaGma
namespace Go.Proofs.Ytaggegknnnembaa
open Go.RowKit
set_option linter.unusedVariables false

set_option maxRecDepth 100000 in
set_option maxHeartbeats 4000000 in
theorem closed_zero (p q g a b n : Nat) (w : World) (hp : p < 2 ^ 256) (hq : q < 2 ^ 256) (hg : g < 2 ^ 256) (ha : a < 2 ^ 256) (hb : b < 2 ^ 256) (hn : n < 2 ^ 256) (hq0 : q = 0) : Calls Try.prog 4 #[.agg #[.int .u64 (wd p 0 : Int), .int .u64 (wd p 1 : Int), .int .u64 (wd p 2 : Int), .int .u64 (wd p 3 : Int), .int .u64 (wd q 0 : Int), .int .u64 (wd q 1 : Int), .int .u64 (wd q 2 : Int), .int .u64 (wd q 3 : Int), .int .u64 (wd g 0 : Int), .int .u64 (wd g 1 : Int), .int .u64 (wd g 2 : Int), .int .u64 (wd g 3 : Int), .int .u64 (wd a 0 : Int), .int .u64 (wd a 1 : Int), .int .u64 (wd a 2 : Int), .int .u64 (wd a 3 : Int), .int .u64 (wd b 0 : Int), .int .u64 (wd b 1 : Int), .int .u64 (wd b 2 : Int), .int .u64 (wd b 3 : Int), .int .u64 (wd n 0 : Int), .int .u64 (wd n 1 : Int), .int .u64 (wd n 2 : Int), .int .u64 (wd n 3 : Int)]] w fun e w' => e = .returned (.bool true) ∧ Below w.heap.size w w' := by
  have qz : ∀ w, (Op.equalIn 10000 24 (num q) (.agg #[.int .u64 0, .int .u64 0, .int .u64 0, .int .u64 0])).run Try.prog w = .ok true w := by rw [num_zero]; exact eq_yes q 0 hq0
  have PL := hid hp
  have QL := hid hq
  have GL := hid hg
  have AL := hid ha
  have BL := hid hb
  have NL := hid hn
  clear hp hq hg ha hb hn
  clear hq0
  have H0 : Hid (Eg w (w.heap.size + 1) 26 p q g [(w.heap.size + 1 + 1 + 1 + 1, n), (w.heap.size + 1 + 1 + 1, b), (w.heap.size + 1 + 1, a)] (((((w.alloc (.cells #[.int .u64 (wd p 0 : Int), .int .u64 (wd p 1 : Int), .int .u64 (wd p 2 : Int), .int .u64 (wd p 3 : Int), .int .u64 (wd q 0 : Int), .int .u64 (wd q 1 : Int), .int .u64 (wd q 2 : Int), .int .u64 (wd q 3 : Int), .int .u64 (wd g 0 : Int), .int .u64 (wd g 1 : Int), .int .u64 (wd g 2 : Int), .int .u64 (wd g 3 : Int), .int .u64 (wd a 0 : Int), .int .u64 (wd a 1 : Int), .int .u64 (wd a 2 : Int), .int .u64 (wd a 3 : Int), .int .u64 (wd b 0 : Int), .int .u64 (wd b 1 : Int), .int .u64 (wd b 2 : Int), .int .u64 (wd b 3 : Int), .int .u64 (wd n 0 : Int), .int .u64 (wd n 1 : Int), .int .u64 (wd n 2 : Int), .int .u64 (wd n 3 : Int)] 36)).alloc (.cells (gcs p q g) 26)).alloc (.cells (cls a) 24)).alloc (.cells (cls b) 24)).alloc (.cells (cls n) 24))) := hid (by have h := (((((Eg.of ((Env.refl w).alloc (.cells #[.int .u64 (wd p 0 : Int), .int .u64 (wd p 1 : Int), .int .u64 (wd p 2 : Int), .int .u64 (wd p 3 : Int), .int .u64 (wd q 0 : Int), .int .u64 (wd q 1 : Int), .int .u64 (wd q 2 : Int), .int .u64 (wd q 3 : Int), .int .u64 (wd g 0 : Int), .int .u64 (wd g 1 : Int), .int .u64 (wd g 2 : Int), .int .u64 (wd g 3 : Int), .int .u64 (wd a 0 : Int), .int .u64 (wd a 1 : Int), .int .u64 (wd a 2 : Int), .int .u64 (wd a 3 : Int), .int .u64 (wd b 0 : Int), .int .u64 (wd b 1 : Int), .int .u64 (wd b 2 : Int), .int .u64 (wd b 3 : Int), .int .u64 (wd n 0 : Int), .int .u64 (wd n 1 : Int), .int .u64 (wd n 2 : Int), .int .u64 (wd n 3 : Int)] 36)) p q g 26)).new a).new b).new n); simpa using h)
  go_enter Try.func4, Try.ntmps4
  go_upto_region 5 with fail
  generalize ((((w.alloc (.cells #[.int .u64 (wd p 0 : Int), .int .u64 (wd p 1 : Int), .int .u64 (wd p 2 : Int), .int .u64 (wd p 3 : Int), .int .u64 (wd q 0 : Int), .int .u64 (wd q 1 : Int), .int .u64 (wd q 2 : Int), .int .u64 (wd q 3 : Int), .int .u64 (wd g 0 : Int), .int .u64 (wd g 1 : Int), .int .u64 (wd g 2 : Int), .int .u64 (wd g 3 : Int), .int .u64 (wd a 0 : Int), .int .u64 (wd a 1 : Int), .int .u64 (wd a 2 : Int), .int .u64 (wd a 3 : Int), .int .u64 (wd b 0 : Int), .int .u64 (wd b 1 : Int), .int .u64 (wd b 2 : Int), .int .u64 (wd b 3 : Int), .int .u64 (wd n 0 : Int), .int .u64 (wd n 1 : Int), .int .u64 (wd n 2 : Int), .int .u64 (wd n 3 : Int)] 36)).alloc (.cells (gcs p q g) 26)).alloc (.cells (cls a) 24)).alloc (.cells (cls b) 24)).alloc (.cells (cls n) 24) = w0 at *
  generalize w.heap.size + 1 + 1 + 1 + 1 = g_n at *
  generalize w.heap.size + 1 + 1 + 1 = g_b at *
  generalize w.heap.size + 1 + 1 = g_a at *
  generalize w.heap.size + 1 = g_p at *
  obtain ⟨ep0a, ep0b, ep0c, ep0d⟩ := H0.out.gp
  obtain ⟨eq0a, eq0b, eq0c, eq0d⟩ := H0.out.gq
  obtain ⟨eg0a, eg0b, eg0c, eg0d⟩ := H0.out.gg
  have eg0l := H0.out.gl
  have eg0m := Nat.le_of_lt eg0l
  obtain ⟨c14x0a, c14x0b, c14x0c, c14x0d⟩ := H0.out.cell (g_a) (a) (by simp)
  have c14x0l := H0.out.lt (g_a) (a) (by simp)
  have c14x0m := Nat.le_of_lt c14x0l
  obtain ⟨c20x0a, c20x0b, c20x0c, c20x0d⟩ := H0.out.cell (g_b) (b) (by simp)
  have c20x0l := H0.out.lt (g_b) (b) (by simp)
  have c20x0m := Nat.le_of_lt c20x0l
  go_wp2_with fail
  clear ep0a ep0b ep0c ep0d eq0a eq0b eq0c eq0d eg0a eg0b eg0c eg0d eg0l eg0m c14x0a c14x0b c14x0c c14x0d c14x0l c14x0m c20x0a c20x0b c20x0c c20x0d c20x0l c20x0m
  refine (eg_at (lives_at (Env.refl _)) H0.out).mono ?_
  rintro e w1 ⟨rfl, h⟩
  have H1 := hid h
  clear h H0
  go_wp2
  go_ret
  exact ⟨rfl, H1.out.1.1⟩
set_option maxRecDepth 100000 in
set_option maxHeartbeats 4000000 in
theorem closed_noa (p q g a b n : Nat) (w : World) (hp : p < 2 ^ 256) (hq : q < 2 ^ 256) (hg : g < 2 ^ 256) (ha : a < 2 ^ 256) (hb : b < 2 ^ 256) (hn : n < 2 ^ 256) (hq0 : q ≠ 0) (va : ¬ ((0 < a ∧ a < p) ∧ a ^ q % p = 1)) : Calls Try.prog 4 #[.agg #[.int .u64 (wd p 0 : Int), .int .u64 (wd p 1 : Int), .int .u64 (wd p 2 : Int), .int .u64 (wd p 3 : Int), .int .u64 (wd q 0 : Int), .int .u64 (wd q 1 : Int), .int .u64 (wd q 2 : Int), .int .u64 (wd q 3 : Int), .int .u64 (wd g 0 : Int), .int .u64 (wd g 1 : Int), .int .u64 (wd g 2 : Int), .int .u64 (wd g 3 : Int), .int .u64 (wd a 0 : Int), .int .u64 (wd a 1 : Int), .int .u64 (wd a 2 : Int), .int .u64 (wd a 3 : Int), .int .u64 (wd b 0 : Int), .int .u64 (wd b 1 : Int), .int .u64 (wd b 2 : Int), .int .u64 (wd b 3 : Int), .int .u64 (wd n 0 : Int), .int .u64 (wd n 1 : Int), .int .u64 (wd n 2 : Int), .int .u64 (wd n 3 : Int)]] w fun e w' => e = .returned (.bool true) ∧ Below w.heap.size w w' := by
  have qz : ∀ w, (Op.equalIn 10000 24 (num q) (.agg #[.int .u64 0, .int .u64 0, .int .u64 0, .int .u64 0])).run Try.prog w = .ok false w := by rw [num_zero]; exact eq_no q 0 hq (by decide) hq0
  have VA : Hid (decide ((0 < a ∧ a < p) ∧ a ^ q % p = 1) = false) := hid (decide_eq_false va)
  have PL := hid hp
  have QL := hid hq
  have GL := hid hg
  have AL := hid ha
  have BL := hid hb
  have NL := hid hn
  clear hp hq hg ha hb hn
  clear hq0 va
  have H0 : Hid (Eg w (w.heap.size + 1) 26 p q g [(w.heap.size + 1 + 1 + 1 + 1, n), (w.heap.size + 1 + 1 + 1, b), (w.heap.size + 1 + 1, a)] (((((w.alloc (.cells #[.int .u64 (wd p 0 : Int), .int .u64 (wd p 1 : Int), .int .u64 (wd p 2 : Int), .int .u64 (wd p 3 : Int), .int .u64 (wd q 0 : Int), .int .u64 (wd q 1 : Int), .int .u64 (wd q 2 : Int), .int .u64 (wd q 3 : Int), .int .u64 (wd g 0 : Int), .int .u64 (wd g 1 : Int), .int .u64 (wd g 2 : Int), .int .u64 (wd g 3 : Int), .int .u64 (wd a 0 : Int), .int .u64 (wd a 1 : Int), .int .u64 (wd a 2 : Int), .int .u64 (wd a 3 : Int), .int .u64 (wd b 0 : Int), .int .u64 (wd b 1 : Int), .int .u64 (wd b 2 : Int), .int .u64 (wd b 3 : Int), .int .u64 (wd n 0 : Int), .int .u64 (wd n 1 : Int), .int .u64 (wd n 2 : Int), .int .u64 (wd n 3 : Int)] 36)).alloc (.cells (gcs p q g) 26)).alloc (.cells (cls a) 24)).alloc (.cells (cls b) 24)).alloc (.cells (cls n) 24))) := hid (by have h := (((((Eg.of ((Env.refl w).alloc (.cells #[.int .u64 (wd p 0 : Int), .int .u64 (wd p 1 : Int), .int .u64 (wd p 2 : Int), .int .u64 (wd p 3 : Int), .int .u64 (wd q 0 : Int), .int .u64 (wd q 1 : Int), .int .u64 (wd q 2 : Int), .int .u64 (wd q 3 : Int), .int .u64 (wd g 0 : Int), .int .u64 (wd g 1 : Int), .int .u64 (wd g 2 : Int), .int .u64 (wd g 3 : Int), .int .u64 (wd a 0 : Int), .int .u64 (wd a 1 : Int), .int .u64 (wd a 2 : Int), .int .u64 (wd a 3 : Int), .int .u64 (wd b 0 : Int), .int .u64 (wd b 1 : Int), .int .u64 (wd b 2 : Int), .int .u64 (wd b 3 : Int), .int .u64 (wd n 0 : Int), .int .u64 (wd n 1 : Int), .int .u64 (wd n 2 : Int), .int .u64 (wd n 3 : Int)] 36)) p q g 26)).new a).new b).new n); simpa using h)
  go_enter Try.func4, Try.ntmps4
  go_upto_region 5 with fail
  generalize ((((w.alloc (.cells #[.int .u64 (wd p 0 : Int), .int .u64 (wd p 1 : Int), .int .u64 (wd p 2 : Int), .int .u64 (wd p 3 : Int), .int .u64 (wd q 0 : Int), .int .u64 (wd q 1 : Int), .int .u64 (wd q 2 : Int), .int .u64 (wd q 3 : Int), .int .u64 (wd g 0 : Int), .int .u64 (wd g 1 : Int), .int .u64 (wd g 2 : Int), .int .u64 (wd g 3 : Int), .int .u64 (wd a 0 : Int), .int .u64 (wd a 1 : Int), .int .u64 (wd a 2 : Int), .int .u64 (wd a 3 : Int), .int .u64 (wd b 0 : Int), .int .u64 (wd b 1 : Int), .int .u64 (wd b 2 : Int), .int .u64 (wd b 3 : Int), .int .u64 (wd n 0 : Int), .int .u64 (wd n 1 : Int), .int .u64 (wd n 2 : Int), .int .u64 (wd n 3 : Int)] 36)).alloc (.cells (gcs p q g) 26)).alloc (.cells (cls a) 24)).alloc (.cells (cls b) 24)).alloc (.cells (cls n) 24) = w0 at *
  generalize w.heap.size + 1 + 1 + 1 + 1 = g_n at *
  generalize w.heap.size + 1 + 1 + 1 = g_b at *
  generalize w.heap.size + 1 + 1 = g_a at *
  generalize w.heap.size + 1 = g_p at *
  obtain ⟨ep0a, ep0b, ep0c, ep0d⟩ := H0.out.gp
  obtain ⟨eq0a, eq0b, eq0c, eq0d⟩ := H0.out.gq
  obtain ⟨eg0a, eg0b, eg0c, eg0d⟩ := H0.out.gg
  have eg0l := H0.out.gl
  have eg0m := Nat.le_of_lt eg0l
  obtain ⟨c14x0a, c14x0b, c14x0c, c14x0d⟩ := H0.out.cell (g_a) (a) (by simp)
  have c14x0l := H0.out.lt (g_a) (a) (by simp)
  have c14x0m := Nat.le_of_lt c14x0l
  obtain ⟨c20x0a, c20x0b, c20x0c, c20x0d⟩ := H0.out.cell (g_b) (b) (by simp)
  have c20x0l := H0.out.lt (g_b) (b) (by simp)
  have c20x0m := Nat.le_of_lt c20x0l
  go_wp2_with fail
  clear ep0a ep0b ep0c ep0d eq0a eq0b eq0c eq0d eg0a eg0b eg0c eg0d eg0l eg0m c14x0a c14x0b c14x0c c14x0d c14x0l c14x0m c20x0a c20x0b c20x0c c20x0d c20x0l c20x0m
  refine (eg_of (in_any p q g a false _ PL.out QL.out AL.out VA.out) H0.out).mono ?_
  rintro e w1 ⟨rfl, h⟩
  have H1 := hid h
  clear h H0
  go_wp2_with fail
  refine (eg_at (lives_at (Env.refl _)) H1.out).mono ?_
  rintro e w2 ⟨rfl, h⟩
  have H2 := hid h
  clear h H1
  go_wp2
  go_ret
  exact ⟨rfl, H2.out.1.1⟩
set_option maxRecDepth 100000 in
set_option maxHeartbeats 4000000 in
theorem closed_nob (p q g a b n : Nat) (w : World) (hp : p < 2 ^ 256) (hq : q < 2 ^ 256) (hg : g < 2 ^ 256) (ha : a < 2 ^ 256) (hb : b < 2 ^ 256) (hn : n < 2 ^ 256) (hq0 : q ≠ 0) (va : (0 < a ∧ a < p) ∧ a ^ q % p = 1) (vb : ¬ ((0 < b ∧ b < p) ∧ b ^ q % p = 1)) : Calls Try.prog 4 #[.agg #[.int .u64 (wd p 0 : Int), .int .u64 (wd p 1 : Int), .int .u64 (wd p 2 : Int), .int .u64 (wd p 3 : Int), .int .u64 (wd q 0 : Int), .int .u64 (wd q 1 : Int), .int .u64 (wd q 2 : Int), .int .u64 (wd q 3 : Int), .int .u64 (wd g 0 : Int), .int .u64 (wd g 1 : Int), .int .u64 (wd g 2 : Int), .int .u64 (wd g 3 : Int), .int .u64 (wd a 0 : Int), .int .u64 (wd a 1 : Int), .int .u64 (wd a 2 : Int), .int .u64 (wd a 3 : Int), .int .u64 (wd b 0 : Int), .int .u64 (wd b 1 : Int), .int .u64 (wd b 2 : Int), .int .u64 (wd b 3 : Int), .int .u64 (wd n 0 : Int), .int .u64 (wd n 1 : Int), .int .u64 (wd n 2 : Int), .int .u64 (wd n 3 : Int)]] w fun e w' => e = .returned (.bool true) ∧ Below w.heap.size w w' := by
  have qz : ∀ w, (Op.equalIn 10000 24 (num q) (.agg #[.int .u64 0, .int .u64 0, .int .u64 0, .int .u64 0])).run Try.prog w = .ok false w := by rw [num_zero]; exact eq_no q 0 hq (by decide) hq0
  have VA : Hid (decide ((0 < a ∧ a < p) ∧ a ^ q % p = 1) = true) := hid (decide_eq_true va)
  have VB : Hid (decide ((0 < b ∧ b < p) ∧ b ^ q % p = 1) = false) := hid (decide_eq_false vb)
  have PL := hid hp
  have QL := hid hq
  have GL := hid hg
  have AL := hid ha
  have BL := hid hb
  have NL := hid hn
  clear hp hq hg ha hb hn
  clear hq0 va vb
  have H0 : Hid (Eg w (w.heap.size + 1) 26 p q g [(w.heap.size + 1 + 1 + 1 + 1, n), (w.heap.size + 1 + 1 + 1, b), (w.heap.size + 1 + 1, a)] (((((w.alloc (.cells #[.int .u64 (wd p 0 : Int), .int .u64 (wd p 1 : Int), .int .u64 (wd p 2 : Int), .int .u64 (wd p 3 : Int), .int .u64 (wd q 0 : Int), .int .u64 (wd q 1 : Int), .int .u64 (wd q 2 : Int), .int .u64 (wd q 3 : Int), .int .u64 (wd g 0 : Int), .int .u64 (wd g 1 : Int), .int .u64 (wd g 2 : Int), .int .u64 (wd g 3 : Int), .int .u64 (wd a 0 : Int), .int .u64 (wd a 1 : Int), .int .u64 (wd a 2 : Int), .int .u64 (wd a 3 : Int), .int .u64 (wd b 0 : Int), .int .u64 (wd b 1 : Int), .int .u64 (wd b 2 : Int), .int .u64 (wd b 3 : Int), .int .u64 (wd n 0 : Int), .int .u64 (wd n 1 : Int), .int .u64 (wd n 2 : Int), .int .u64 (wd n 3 : Int)] 36)).alloc (.cells (gcs p q g) 26)).alloc (.cells (cls a) 24)).alloc (.cells (cls b) 24)).alloc (.cells (cls n) 24))) := hid (by have h := (((((Eg.of ((Env.refl w).alloc (.cells #[.int .u64 (wd p 0 : Int), .int .u64 (wd p 1 : Int), .int .u64 (wd p 2 : Int), .int .u64 (wd p 3 : Int), .int .u64 (wd q 0 : Int), .int .u64 (wd q 1 : Int), .int .u64 (wd q 2 : Int), .int .u64 (wd q 3 : Int), .int .u64 (wd g 0 : Int), .int .u64 (wd g 1 : Int), .int .u64 (wd g 2 : Int), .int .u64 (wd g 3 : Int), .int .u64 (wd a 0 : Int), .int .u64 (wd a 1 : Int), .int .u64 (wd a 2 : Int), .int .u64 (wd a 3 : Int), .int .u64 (wd b 0 : Int), .int .u64 (wd b 1 : Int), .int .u64 (wd b 2 : Int), .int .u64 (wd b 3 : Int), .int .u64 (wd n 0 : Int), .int .u64 (wd n 1 : Int), .int .u64 (wd n 2 : Int), .int .u64 (wd n 3 : Int)] 36)) p q g 26)).new a).new b).new n); simpa using h)
  go_enter Try.func4, Try.ntmps4
  go_upto_region 5 with fail
  generalize ((((w.alloc (.cells #[.int .u64 (wd p 0 : Int), .int .u64 (wd p 1 : Int), .int .u64 (wd p 2 : Int), .int .u64 (wd p 3 : Int), .int .u64 (wd q 0 : Int), .int .u64 (wd q 1 : Int), .int .u64 (wd q 2 : Int), .int .u64 (wd q 3 : Int), .int .u64 (wd g 0 : Int), .int .u64 (wd g 1 : Int), .int .u64 (wd g 2 : Int), .int .u64 (wd g 3 : Int), .int .u64 (wd a 0 : Int), .int .u64 (wd a 1 : Int), .int .u64 (wd a 2 : Int), .int .u64 (wd a 3 : Int), .int .u64 (wd b 0 : Int), .int .u64 (wd b 1 : Int), .int .u64 (wd b 2 : Int), .int .u64 (wd b 3 : Int), .int .u64 (wd n 0 : Int), .int .u64 (wd n 1 : Int), .int .u64 (wd n 2 : Int), .int .u64 (wd n 3 : Int)] 36)).alloc (.cells (gcs p q g) 26)).alloc (.cells (cls a) 24)).alloc (.cells (cls b) 24)).alloc (.cells (cls n) 24) = w0 at *
  generalize w.heap.size + 1 + 1 + 1 + 1 = g_n at *
  generalize w.heap.size + 1 + 1 + 1 = g_b at *
  generalize w.heap.size + 1 + 1 = g_a at *
  generalize w.heap.size + 1 = g_p at *
  obtain ⟨ep0a, ep0b, ep0c, ep0d⟩ := H0.out.gp
  obtain ⟨eq0a, eq0b, eq0c, eq0d⟩ := H0.out.gq
  obtain ⟨eg0a, eg0b, eg0c, eg0d⟩ := H0.out.gg
  have eg0l := H0.out.gl
  have eg0m := Nat.le_of_lt eg0l
  obtain ⟨c14x0a, c14x0b, c14x0c, c14x0d⟩ := H0.out.cell (g_a) (a) (by simp)
  have c14x0l := H0.out.lt (g_a) (a) (by simp)
  have c14x0m := Nat.le_of_lt c14x0l
  obtain ⟨c20x0a, c20x0b, c20x0c, c20x0d⟩ := H0.out.cell (g_b) (b) (by simp)
  have c20x0l := H0.out.lt (g_b) (b) (by simp)
  have c20x0m := Nat.le_of_lt c20x0l
  go_wp2_with fail
  clear ep0a ep0b ep0c ep0d eq0a eq0b eq0c eq0d eg0a eg0b eg0c eg0d eg0l eg0m c14x0a c14x0b c14x0c c14x0d c14x0l c14x0m c20x0a c20x0b c20x0c c20x0d c20x0l c20x0m
  refine (eg_of (in_any p q g a true _ PL.out QL.out AL.out VA.out) H0.out).mono ?_
  rintro e w1 ⟨rfl, h⟩
  have H1 := hid h
  clear h H0
  obtain ⟨ep1a, ep1b, ep1c, ep1d⟩ := H1.out.gp
  obtain ⟨eq1a, eq1b, eq1c, eq1d⟩ := H1.out.gq
  obtain ⟨eg1a, eg1b, eg1c, eg1d⟩ := H1.out.gg
  have eg1l := H1.out.gl
  have eg1m := Nat.le_of_lt eg1l
  obtain ⟨c14x1a, c14x1b, c14x1c, c14x1d⟩ := H1.out.cell (g_b) (b) (by simp)
  have c14x1l := H1.out.lt (g_b) (b) (by simp)
  have c14x1m := Nat.le_of_lt c14x1l
  go_wp2_with fail
  clear ep1a ep1b ep1c ep1d eq1a eq1b eq1c eq1d eg1a eg1b eg1c eg1d eg1l eg1m c14x1a c14x1b c14x1c c14x1d c14x1l c14x1m
  refine (eg_of (in_any p q g b false _ PL.out QL.out BL.out VB.out) H1.out).mono ?_
  rintro e w2 ⟨rfl, h⟩
  have H2 := hid h
  clear h H1
  go_wp2_with fail
  refine (eg_at (lives_at (Env.refl _)) H2.out).mono ?_
  rintro e w3 ⟨rfl, h⟩
  have H3 := hid h
  clear h H2
  go_wp2
  go_ret
  exact ⟨rfl, H3.out.1.1⟩
set_option maxRecDepth 100000 in
set_option maxHeartbeats 4000000 in
theorem closed_all (p q g a b n : Nat) (w : World) (hp : p < 2 ^ 256) (hq : q < 2 ^ 256) (hg : g < 2 ^ 256) (ha : a < 2 ^ 256) (hb : b < 2 ^ 256) (hn : n < 2 ^ 256) (hq0 : q ≠ 0) (va : (0 < a ∧ a < p) ∧ a ^ q % p = 1) (vb : (0 < b ∧ b < p) ∧ b ^ q % p = 1) : Calls Try.prog 4 #[.agg #[.int .u64 (wd p 0 : Int), .int .u64 (wd p 1 : Int), .int .u64 (wd p 2 : Int), .int .u64 (wd p 3 : Int), .int .u64 (wd q 0 : Int), .int .u64 (wd q 1 : Int), .int .u64 (wd q 2 : Int), .int .u64 (wd q 3 : Int), .int .u64 (wd g 0 : Int), .int .u64 (wd g 1 : Int), .int .u64 (wd g 2 : Int), .int .u64 (wd g 3 : Int), .int .u64 (wd a 0 : Int), .int .u64 (wd a 1 : Int), .int .u64 (wd a 2 : Int), .int .u64 (wd a 3 : Int), .int .u64 (wd b 0 : Int), .int .u64 (wd b 1 : Int), .int .u64 (wd b 2 : Int), .int .u64 (wd b 3 : Int), .int .u64 (wd n 0 : Int), .int .u64 (wd n 1 : Int), .int .u64 (wd n 2 : Int), .int .u64 (wd n 3 : Int)]] w fun e w' => e = .returned (.bool true) ∧ Below w.heap.size w w' := by
  have qz : ∀ w, (Op.equalIn 10000 24 (num q) (.agg #[.int .u64 0, .int .u64 0, .int .u64 0, .int .u64 0])).run Try.prog w = .ok false w := by rw [num_zero]; exact eq_no q 0 hq (by decide) hq0
  have VA : Hid (decide ((0 < a ∧ a < p) ∧ a ^ q % p = 1) = true) := hid (decide_eq_true va)
  have VB : Hid (decide ((0 < b ∧ b < p) ∧ b ^ q % p = 1) = true) := hid (decide_eq_true vb)
  have hp1 : 1 < p := by omega
  have mx := grp_mul hp1 va.2 vb.2
  have my := grp_inv hp1 hq0 va.2
  have my2 := grp_pow (n := q - 1) hp1 va.2
  have mz := grp_pow (n := n) hp1 va.2
  have lx : a * b % p < p := Nat.mod_lt _ (by omega)
  obtain ⟨x, ex⟩ : ∃ r, a * b % p = r := ⟨_, rfl⟩
  rw [ex] at lx mx
  have ly : a ^ (q - 1) % p < p := Nat.mod_lt _ (by omega)
  obtain ⟨y, ey⟩ : ∃ r, a ^ (q - 1) % p = r := ⟨_, rfl⟩
  rw [ey] at ly my my2
  have lz : a ^ n % p < p := Nat.mod_lt _ (by omega)
  obtain ⟨z, ez⟩ : ∃ r, a ^ n % p = r := ⟨_, rfl⟩
  rw [ez] at lz mz
  have vx := grp_pos hp1 hq0 mx lx
  have vy := grp_pos hp1 hq0 my2 ly
  have vz := grp_pos hp1 hq0 mz lz
  have VX : Hid (decide ((0 < x ∧ x < p) ∧ x ^ q % p = 1) = true) := hid (decide_eq_true ⟨vx, mx⟩)
  have VY : Hid (decide ((0 < y ∧ y < p) ∧ y ^ q % p = 1) = true) := hid (decide_eq_true ⟨vy, my2⟩)
  have VZ : Hid (decide ((0 < z ∧ z < p) ∧ z ^ q % p = 1) = true) := hid (decide_eq_true ⟨vz, mz⟩)
  have XL := hid (Nat.lt_trans lx hp)
  have YL := hid (Nat.lt_trans ly hp)
  have ZL := hid (Nat.lt_trans lz hp)
  have AV := hid va.1
  have BV := hid vb.1
  have YV := hid vy
  have EX := hid ex
  have EZ := hid ez
  have IV := hid my
  have AY := hid my.2
  have q1 := eq_yes 1 1 rfl
  clear mx my my2 mz lx ly lz vx vy vz ex ey ez hp1 va vb
  have PL := hid hp
  have QL := hid hq
  have GL := hid hg
  have AL := hid ha
  have BL := hid hb
  have NL := hid hn
  clear hp hq hg ha hb hn
  clear hq0
  have H0 : Hid (Eg w (w.heap.size + 1) 26 p q g [(w.heap.size + 1 + 1 + 1 + 1, n), (w.heap.size + 1 + 1 + 1, b), (w.heap.size + 1 + 1, a)] (((((w.alloc (.cells #[.int .u64 (wd p 0 : Int), .int .u64 (wd p 1 : Int), .int .u64 (wd p 2 : Int), .int .u64 (wd p 3 : Int), .int .u64 (wd q 0 : Int), .int .u64 (wd q 1 : Int), .int .u64 (wd q 2 : Int), .int .u64 (wd q 3 : Int), .int .u64 (wd g 0 : Int), .int .u64 (wd g 1 : Int), .int .u64 (wd g 2 : Int), .int .u64 (wd g 3 : Int), .int .u64 (wd a 0 : Int), .int .u64 (wd a 1 : Int), .int .u64 (wd a 2 : Int), .int .u64 (wd a 3 : Int), .int .u64 (wd b 0 : Int), .int .u64 (wd b 1 : Int), .int .u64 (wd b 2 : Int), .int .u64 (wd b 3 : Int), .int .u64 (wd n 0 : Int), .int .u64 (wd n 1 : Int), .int .u64 (wd n 2 : Int), .int .u64 (wd n 3 : Int)] 36)).alloc (.cells (gcs p q g) 26)).alloc (.cells (cls a) 24)).alloc (.cells (cls b) 24)).alloc (.cells (cls n) 24))) := hid (by have h := (((((Eg.of ((Env.refl w).alloc (.cells #[.int .u64 (wd p 0 : Int), .int .u64 (wd p 1 : Int), .int .u64 (wd p 2 : Int), .int .u64 (wd p 3 : Int), .int .u64 (wd q 0 : Int), .int .u64 (wd q 1 : Int), .int .u64 (wd q 2 : Int), .int .u64 (wd q 3 : Int), .int .u64 (wd g 0 : Int), .int .u64 (wd g 1 : Int), .int .u64 (wd g 2 : Int), .int .u64 (wd g 3 : Int), .int .u64 (wd a 0 : Int), .int .u64 (wd a 1 : Int), .int .u64 (wd a 2 : Int), .int .u64 (wd a 3 : Int), .int .u64 (wd b 0 : Int), .int .u64 (wd b 1 : Int), .int .u64 (wd b 2 : Int), .int .u64 (wd b 3 : Int), .int .u64 (wd n 0 : Int), .int .u64 (wd n 1 : Int), .int .u64 (wd n 2 : Int), .int .u64 (wd n 3 : Int)] 36)) p q g 26)).new a).new b).new n); simpa using h)
  go_enter Try.func4, Try.ntmps4
  go_upto_region 5 with fail
  generalize ((((w.alloc (.cells #[.int .u64 (wd p 0 : Int), .int .u64 (wd p 1 : Int), .int .u64 (wd p 2 : Int), .int .u64 (wd p 3 : Int), .int .u64 (wd q 0 : Int), .int .u64 (wd q 1 : Int), .int .u64 (wd q 2 : Int), .int .u64 (wd q 3 : Int), .int .u64 (wd g 0 : Int), .int .u64 (wd g 1 : Int), .int .u64 (wd g 2 : Int), .int .u64 (wd g 3 : Int), .int .u64 (wd a 0 : Int), .int .u64 (wd a 1 : Int), .int .u64 (wd a 2 : Int), .int .u64 (wd a 3 : Int), .int .u64 (wd b 0 : Int), .int .u64 (wd b 1 : Int), .int .u64 (wd b 2 : Int), .int .u64 (wd b 3 : Int), .int .u64 (wd n 0 : Int), .int .u64 (wd n 1 : Int), .int .u64 (wd n 2 : Int), .int .u64 (wd n 3 : Int)] 36)).alloc (.cells (gcs p q g) 26)).alloc (.cells (cls a) 24)).alloc (.cells (cls b) 24)).alloc (.cells (cls n) 24) = w0 at *
  generalize w.heap.size + 1 + 1 + 1 + 1 = g_n at *
  generalize w.heap.size + 1 + 1 + 1 = g_b at *
  generalize w.heap.size + 1 + 1 = g_a at *
  generalize w.heap.size + 1 = g_p at *
  obtain ⟨ep0a, ep0b, ep0c, ep0d⟩ := H0.out.gp
  obtain ⟨eq0a, eq0b, eq0c, eq0d⟩ := H0.out.gq
  obtain ⟨eg0a, eg0b, eg0c, eg0d⟩ := H0.out.gg
  have eg0l := H0.out.gl
  have eg0m := Nat.le_of_lt eg0l
  obtain ⟨c14x0a, c14x0b, c14x0c, c14x0d⟩ := H0.out.cell (g_a) (a) (by simp)
  have c14x0l := H0.out.lt (g_a) (a) (by simp)
  have c14x0m := Nat.le_of_lt c14x0l
  obtain ⟨c20x0a, c20x0b, c20x0c, c20x0d⟩ := H0.out.cell (g_b) (b) (by simp)
  have c20x0l := H0.out.lt (g_b) (b) (by simp)
  have c20x0m := Nat.le_of_lt c20x0l
  go_wp2_with fail
  clear ep0a ep0b ep0c ep0d eq0a eq0b eq0c eq0d eg0a eg0b eg0c eg0d eg0l eg0m c14x0a c14x0b c14x0c c14x0d c14x0l c14x0m c20x0a c20x0b c20x0c c20x0d c20x0l c20x0m
  refine (eg_of (in_any p q g a true _ PL.out QL.out AL.out VA.out) H0.out).mono ?_
  rintro e w1 ⟨rfl, h⟩
  have H1 := hid h
  clear h H0
  obtain ⟨ep1a, ep1b, ep1c, ep1d⟩ := H1.out.gp
  obtain ⟨eq1a, eq1b, eq1c, eq1d⟩ := H1.out.gq
  obtain ⟨eg1a, eg1b, eg1c, eg1d⟩ := H1.out.gg
  have eg1l := H1.out.gl
  have eg1m := Nat.le_of_lt eg1l
  obtain ⟨c14x1a, c14x1b, c14x1c, c14x1d⟩ := H1.out.cell (g_b) (b) (by simp)
  have c14x1l := H1.out.lt (g_b) (b) (by simp)
  have c14x1m := Nat.le_of_lt c14x1l
  go_wp2_with fail
  clear ep1a ep1b ep1c ep1d eq1a eq1b eq1c eq1d eg1a eg1b eg1c eg1d eg1l eg1m c14x1a c14x1b c14x1c c14x1d c14x1l c14x1m
  refine (eg_of (in_any p q g b true _ PL.out QL.out BL.out VB.out) H1.out).mono ?_
  rintro e w2 ⟨rfl, h⟩
  have H2 := hid h
  clear h H1
  obtain ⟨ep2a, ep2b, ep2c, ep2d⟩ := H2.out.gp
  obtain ⟨eq2a, eq2b, eq2c, eq2d⟩ := H2.out.gq
  obtain ⟨eg2a, eg2b, eg2c, eg2d⟩ := H2.out.gg
  have eg2l := H2.out.gl
  have eg2m := Nat.le_of_lt eg2l
  obtain ⟨c14x2a, c14x2b, c14x2c, c14x2d⟩ := H2.out.cell (g_a) (a) (by simp)
  have c14x2l := H2.out.lt (g_a) (a) (by simp)
  have c14x2m := Nat.le_of_lt c14x2l
  obtain ⟨c20x2a, c20x2b, c20x2c, c20x2d⟩ := H2.out.cell (g_b) (b) (by simp)
  have c20x2l := H2.out.lt (g_b) (b) (by simp)
  have c20x2m := Nat.le_of_lt c20x2l
  go_wp2_with fail
  clear ep2a ep2b ep2c ep2d eq2a eq2b eq2c eq2d eg2a eg2b eg2c eg2d eg2l eg2m c14x2a c14x2b c14x2c c14x2d c14x2l c14x2m c20x2a c20x2b c20x2c c20x2d c20x2l c20x2m
  refine (eg_of (gmul_at p q g a b x _ PL.out AV.out BV.out EX.out) H2.out).mono ?_
  rintro e w3 ⟨rfl, h⟩
  have H3 := hid h
  clear h H2
  go_upto_region 8 with fail
  have H3b := hid (H3.out.new x)
  clear H3
  generalize w3.alloc (.cells (cls x) 24) = w3b at *
  generalize w3.heap.size = g7 at *
  obtain ⟨ep3a, ep3b, ep3c, ep3d⟩ := H3b.out.gp
  obtain ⟨eq3a, eq3b, eq3c, eq3d⟩ := H3b.out.gq
  obtain ⟨eg3a, eg3b, eg3c, eg3d⟩ := H3b.out.gg
  have eg3l := H3b.out.gl
  have eg3m := Nat.le_of_lt eg3l
  obtain ⟨c14x3a, c14x3b, c14x3c, c14x3d⟩ := H3b.out.cell (g_a) (a) (by simp)
  have c14x3l := H3b.out.lt (g_a) (a) (by simp)
  have c14x3m := Nat.le_of_lt c14x3l
  go_wp2_with fail
  clear ep3a ep3b ep3c ep3d eq3a eq3b eq3c eq3d eg3a eg3b eg3c eg3d eg3l eg3m c14x3a c14x3b c14x3c c14x3d c14x3l c14x3m
  refine (eg_of (ginv_some p q g a y _ PL.out AL.out AV.out IV.out) H3b.out).mono ?_
  rintro e w4 ⟨rfl, h⟩
  have H4 := hid h
  clear h H3b
  go_upto_region 9 with fail
  have H4b := hid (H4.out.new y)
  clear H4
  generalize w4.alloc (.cells (cls y) 24) = w4b at *
  generalize w4.heap.size = g9 at *
  obtain ⟨ep4a, ep4b, ep4c, ep4d⟩ := H4b.out.gp
  obtain ⟨eq4a, eq4b, eq4c, eq4d⟩ := H4b.out.gq
  obtain ⟨eg4a, eg4b, eg4c, eg4d⟩ := H4b.out.gg
  have eg4l := H4b.out.gl
  have eg4m := Nat.le_of_lt eg4l
  obtain ⟨c14x4a, c14x4b, c14x4c, c14x4d⟩ := H4b.out.cell (g_a) (a) (by simp)
  have c14x4l := H4b.out.lt (g_a) (a) (by simp)
  have c14x4m := Nat.le_of_lt c14x4l
  obtain ⟨c20x4a, c20x4b, c20x4c, c20x4d⟩ := H4b.out.cell (g_n) (n) (by simp)
  have c20x4l := H4b.out.lt (g_n) (n) (by simp)
  have c20x4m := Nat.le_of_lt c20x4l
  go_wp2_with fail
  clear ep4a ep4b ep4c ep4d eq4a eq4b eq4c eq4d eg4a eg4b eg4c eg4d eg4l eg4m c14x4a c14x4b c14x4c c14x4d c14x4l c14x4m c20x4a c20x4b c20x4c c20x4d c20x4l c20x4m
  refine (eg_of (gexp_any p q g a n z _ PL.out NL.out AV.out EZ.out) H4b.out).mono ?_
  rintro e w5 ⟨rfl, h⟩
  have H5 := hid h
  clear h H4b
  go_upto_region 10 with fail
  have H5b := hid (H5.out.new z)
  clear H5
  generalize w5.alloc (.cells (cls z) 24) = w5b at *
  generalize w5.heap.size = g11 at *
  obtain ⟨ep5a, ep5b, ep5c, ep5d⟩ := H5b.out.gp
  obtain ⟨eq5a, eq5b, eq5c, eq5d⟩ := H5b.out.gq
  obtain ⟨eg5a, eg5b, eg5c, eg5d⟩ := H5b.out.gg
  have eg5l := H5b.out.gl
  have eg5m := Nat.le_of_lt eg5l
  obtain ⟨c14x5a, c14x5b, c14x5c, c14x5d⟩ := H5b.out.cell (g_a) (a) (by simp)
  have c14x5l := H5b.out.lt (g_a) (a) (by simp)
  have c14x5m := Nat.le_of_lt c14x5l
  obtain ⟨c20x5a, c20x5b, c20x5c, c20x5d⟩ := H5b.out.cell (g9) (y) (by simp)
  have c20x5l := H5b.out.lt (g9) (y) (by simp)
  have c20x5m := Nat.le_of_lt c20x5l
  go_wp2_with fail
  clear ep5a ep5b ep5c ep5d eq5a eq5b eq5c eq5d eg5a eg5b eg5c eg5d eg5l eg5m c14x5a c14x5b c14x5c c14x5d c14x5l c14x5m c20x5a c20x5b c20x5c c20x5d c20x5l c20x5m
  refine (eg_of (gmul_at p q g a y 1 _ PL.out AV.out YV.out AY.out) H5b.out).mono ?_
  rintro e w6 ⟨rfl, h⟩
  have H6 := hid h
  clear h H5b
  go_upto_region 11 with fail
  have H6b := hid (H6.out.new 1)
  clear H6
  generalize w6.alloc (.cells (cls 1) 24) = w6b at *
  generalize w6.heap.size = g13 at *
  have hs := H6b.out.drew
  go_region_held3 (fun w' => (w'.cell? ⟨g7, 0, none⟩ = some (.int .u64 (wd (x) 0 : Int)) ∧ w'.cell? ⟨g7, 1, none⟩ = some (.int .u64 (wd (x) 1 : Int)) ∧ w'.cell? ⟨g7, 2, none⟩ = some (.int .u64 (wd (x) 2 : Int)) ∧ w'.cell? ⟨g7, 3, none⟩ = some (.int .u64 (wd (x) 3 : Int))) ∧ (w'.cell? ⟨g9, 0, none⟩ = some (.int .u64 (wd (y) 0 : Int)) ∧ w'.cell? ⟨g9, 1, none⟩ = some (.int .u64 (wd (y) 1 : Int)) ∧ w'.cell? ⟨g9, 2, none⟩ = some (.int .u64 (wd (y) 2 : Int)) ∧ w'.cell? ⟨g9, 3, none⟩ = some (.int .u64 (wd (y) 3 : Int))) ∧ (w'.cell? ⟨g11, 0, none⟩ = some (.int .u64 (wd (z) 0 : Int)) ∧ w'.cell? ⟨g11, 1, none⟩ = some (.int .u64 (wd (z) 1 : Int)) ∧ w'.cell? ⟨g11, 2, none⟩ = some (.int .u64 (wd (z) 2 : Int)) ∧ w'.cell? ⟨g11, 3, none⟩ = some (.int .u64 (wd (z) 3 : Int))) ∧ (w'.cell? ⟨g13, 0, none⟩ = some (.int .u64 (wd (1) 0 : Int)) ∧ w'.cell? ⟨g13, 1, none⟩ = some (.int .u64 (wd (1) 1 : Int)) ∧ w'.cell? ⟨g13, 2, none⟩ = some (.int .u64 (wd (1) 2 : Int)) ∧ w'.cell? ⟨g13, 3, none⟩ = some (.int .u64 (wd (1) 3 : Int))) ∧ (w'.cell? ⟨g_p, 0, none⟩ = some (.int .u64 (wd p 0 : Int)) ∧ w'.cell? ⟨g_p, 1, none⟩ = some (.int .u64 (wd p 1 : Int)) ∧ w'.cell? ⟨g_p, 2, none⟩ = some (.int .u64 (wd p 2 : Int)) ∧ w'.cell? ⟨g_p, 3, none⟩ = some (.int .u64 (wd p 3 : Int))) ∧ (w'.cell? ⟨g_p, 4, none⟩ = some (.int .u64 (wd q 0 : Int)) ∧ w'.cell? ⟨g_p, 5, none⟩ = some (.int .u64 (wd q 1 : Int)) ∧ w'.cell? ⟨g_p, 6, none⟩ = some (.int .u64 (wd q 2 : Int)) ∧ w'.cell? ⟨g_p, 7, none⟩ = some (.int .u64 (wd q 3 : Int))) ∧ (w'.cell? ⟨g_p, 8, none⟩ = some (.int .u64 (wd g 0 : Int)) ∧ w'.cell? ⟨g_p, 9, none⟩ = some (.int .u64 (wd g 1 : Int)) ∧ w'.cell? ⟨g_p, 10, none⟩ = some (.int .u64 (wd g 2 : Int)) ∧ w'.cell? ⟨g_p, 11, none⟩ = some (.int .u64 (wd g 3 : Int)))) (exact ⟨Eg.cell (by assumption) _ _ (by simp), Eg.cell (by assumption) _ _ (by simp), Eg.cell (by assumption) _ _ (by simp), Eg.cell (by assumption) _ _ (by simp), Eg.gp (by assumption), Eg.gq (by assumption), Eg.gg (by assumption)⟩) (first | ((go_at_call 17); (with_reducible refine (eg_of (in_any p q g x true _ PL.out QL.out XL.out VX.out) (by assumption)).mono ?_); rintro e wn ⟨rfl, hs⟩) | ((go_at_call 17); (with_reducible refine (eg_of (in_any p q g y true _ PL.out QL.out YL.out VY.out) (by assumption)).mono ?_); rintro e wn ⟨rfl, hs⟩) | ((go_at_call 17); (with_reducible refine (eg_of (in_any p q g z true _ PL.out QL.out ZL.out VZ.out) (by assumption)).mono ?_); rintro e wn ⟨rfl, hs⟩) | ((go_at_call 20); (with_reducible refine (eg_at (of_at 1 1 (Env.refl _) (by decide) rfl) (by assumption)).mono ?_); rintro e wn ⟨rfl, hs⟩) | ((go_at_call 19); (with_reducible refine (eg_at (lives_at (Env.refl _)) (by assumption)).mono ?_); rintro e wn ⟨rfl, hs⟩))
  go_wp2
  go_ret
  exact ⟨rfl, hs.1.1⟩
theorem closedLaw_any (p q g a b n : Nat) (w : World) (hp : p < 2 ^ 256) (hq : q < 2 ^ 256) (hg : g < 2 ^ 256) (ha : a < 2 ^ 256) (hb : b < 2 ^ 256) (hn : n < 2 ^ 256) : Calls Try.prog 4 #[.agg #[.int .u64 (wd p 0 : Int), .int .u64 (wd p 1 : Int), .int .u64 (wd p 2 : Int), .int .u64 (wd p 3 : Int), .int .u64 (wd q 0 : Int), .int .u64 (wd q 1 : Int), .int .u64 (wd q 2 : Int), .int .u64 (wd q 3 : Int), .int .u64 (wd g 0 : Int), .int .u64 (wd g 1 : Int), .int .u64 (wd g 2 : Int), .int .u64 (wd g 3 : Int), .int .u64 (wd a 0 : Int), .int .u64 (wd a 1 : Int), .int .u64 (wd a 2 : Int), .int .u64 (wd a 3 : Int), .int .u64 (wd b 0 : Int), .int .u64 (wd b 1 : Int), .int .u64 (wd b 2 : Int), .int .u64 (wd b 3 : Int), .int .u64 (wd n 0 : Int), .int .u64 (wd n 1 : Int), .int .u64 (wd n 2 : Int), .int .u64 (wd n 3 : Int)]] w fun e w' => e = .returned (.bool true) ∧ Below w.heap.size w w' := by
  by_cases h0 : q = 0
  · exact closed_zero p q g a b n w hp hq hg ha hb hn h0
  by_cases h1 : (0 < a ∧ a < p) ∧ a ^ q % p = 1
  · by_cases h2 : (0 < b ∧ b < p) ∧ b ^ q % p = 1
    · exact closed_all p q g a b n w hp hq hg ha hb hn h0 h1 h2
    · exact closed_nob p q g a b n w hp hq hg ha hb hn h0 h1 h2
  · exact closed_noa p q g a b n w hp hq hg ha hb hn h0 h1
end Go.Proofs.Ytaggegknnnembaa
