/-
  burrowlaw06.GroupsShare, walked: it answers true at any group and numbers. Conditions: none.
-/
import Derived.Test.YtaggegknnnembaaGma
namespace Go.Proofs.Ytaggegknnnembaa
open Go.RowKit
set_option linter.unusedVariables false

set_option maxRecDepth 100000 in
set_option maxHeartbeats 4000000 in
theorem share_none (p q g a n m : Nat) (w : World) (hp : p < 2 ^ 256) (hq : q < 2 ^ 256) (hg : g < 2 ^ 256) (ha : a < 2 ^ 256) (hn : n < 2 ^ 256) (hm : m < 2 ^ 256) (va : ¬ (0 < a ∧ a < p)) : Calls Try.prog 6 #[.agg #[.int .u64 (wd p 0 : Int), .int .u64 (wd p 1 : Int), .int .u64 (wd p 2 : Int), .int .u64 (wd p 3 : Int), .int .u64 (wd q 0 : Int), .int .u64 (wd q 1 : Int), .int .u64 (wd q 2 : Int), .int .u64 (wd q 3 : Int), .int .u64 (wd g 0 : Int), .int .u64 (wd g 1 : Int), .int .u64 (wd g 2 : Int), .int .u64 (wd g 3 : Int), .int .u64 (wd a 0 : Int), .int .u64 (wd a 1 : Int), .int .u64 (wd a 2 : Int), .int .u64 (wd a 3 : Int), .int .u64 (wd n 0 : Int), .int .u64 (wd n 1 : Int), .int .u64 (wd n 2 : Int), .int .u64 (wd n 3 : Int), .int .u64 (wd m 0 : Int), .int .u64 (wd m 1 : Int), .int .u64 (wd m 2 : Int), .int .u64 (wd m 3 : Int)]] w fun e w' => e = .returned (.bool true) ∧ Below w.heap.size w w' := by
  have VA := hid va
  clear va
  have PL := hid hp
  have QL := hid hq
  have GL := hid hg
  have AL := hid ha
  have NL := hid hn
  have ML := hid hm
  clear hp hq hg ha hn hm
  have H0 : Hid (Eg w (w.heap.size + 1) 26 p q g [(w.heap.size + 1 + 1 + 1 + 1, m), (w.heap.size + 1 + 1 + 1, n), (w.heap.size + 1 + 1, a)] (((((w.alloc (.cells #[.int .u64 (wd p 0 : Int), .int .u64 (wd p 1 : Int), .int .u64 (wd p 2 : Int), .int .u64 (wd p 3 : Int), .int .u64 (wd q 0 : Int), .int .u64 (wd q 1 : Int), .int .u64 (wd q 2 : Int), .int .u64 (wd q 3 : Int), .int .u64 (wd g 0 : Int), .int .u64 (wd g 1 : Int), .int .u64 (wd g 2 : Int), .int .u64 (wd g 3 : Int), .int .u64 (wd a 0 : Int), .int .u64 (wd a 1 : Int), .int .u64 (wd a 2 : Int), .int .u64 (wd a 3 : Int), .int .u64 (wd n 0 : Int), .int .u64 (wd n 1 : Int), .int .u64 (wd n 2 : Int), .int .u64 (wd n 3 : Int), .int .u64 (wd m 0 : Int), .int .u64 (wd m 1 : Int), .int .u64 (wd m 2 : Int), .int .u64 (wd m 3 : Int)] 40)).alloc (.cells (gcs p q g) 26)).alloc (.cells (cls a) 24)).alloc (.cells (cls n) 24)).alloc (.cells (cls m) 24))) := hid (by have h := (((((Eg.of ((Env.refl w).alloc (.cells #[.int .u64 (wd p 0 : Int), .int .u64 (wd p 1 : Int), .int .u64 (wd p 2 : Int), .int .u64 (wd p 3 : Int), .int .u64 (wd q 0 : Int), .int .u64 (wd q 1 : Int), .int .u64 (wd q 2 : Int), .int .u64 (wd q 3 : Int), .int .u64 (wd g 0 : Int), .int .u64 (wd g 1 : Int), .int .u64 (wd g 2 : Int), .int .u64 (wd g 3 : Int), .int .u64 (wd a 0 : Int), .int .u64 (wd a 1 : Int), .int .u64 (wd a 2 : Int), .int .u64 (wd a 3 : Int), .int .u64 (wd n 0 : Int), .int .u64 (wd n 1 : Int), .int .u64 (wd n 2 : Int), .int .u64 (wd n 3 : Int), .int .u64 (wd m 0 : Int), .int .u64 (wd m 1 : Int), .int .u64 (wd m 2 : Int), .int .u64 (wd m 3 : Int)] 40)) p q g 26)).new a).new n).new m); simpa using h)
  go_enter Try.func6, Try.ntmps6
  go_upto_region 5 with fail
  generalize ((((w.alloc (.cells #[.int .u64 (wd p 0 : Int), .int .u64 (wd p 1 : Int), .int .u64 (wd p 2 : Int), .int .u64 (wd p 3 : Int), .int .u64 (wd q 0 : Int), .int .u64 (wd q 1 : Int), .int .u64 (wd q 2 : Int), .int .u64 (wd q 3 : Int), .int .u64 (wd g 0 : Int), .int .u64 (wd g 1 : Int), .int .u64 (wd g 2 : Int), .int .u64 (wd g 3 : Int), .int .u64 (wd a 0 : Int), .int .u64 (wd a 1 : Int), .int .u64 (wd a 2 : Int), .int .u64 (wd a 3 : Int), .int .u64 (wd n 0 : Int), .int .u64 (wd n 1 : Int), .int .u64 (wd n 2 : Int), .int .u64 (wd n 3 : Int), .int .u64 (wd m 0 : Int), .int .u64 (wd m 1 : Int), .int .u64 (wd m 2 : Int), .int .u64 (wd m 3 : Int)] 40)).alloc (.cells (gcs p q g) 26)).alloc (.cells (cls a) 24)).alloc (.cells (cls n) 24)).alloc (.cells (cls m) 24) = w0 at *
  generalize w.heap.size + 1 + 1 + 1 + 1 = g_m at *
  generalize w.heap.size + 1 + 1 + 1 = g_n at *
  generalize w.heap.size + 1 + 1 = g_a at *
  generalize w.heap.size + 1 = g_p at *
  obtain ⟨ep0a, ep0b, ep0c, ep0d⟩ := H0.out.gp
  obtain ⟨eq0a, eq0b, eq0c, eq0d⟩ := H0.out.gq
  obtain ⟨eg0a, eg0b, eg0c, eg0d⟩ := H0.out.gg
  have eg0l := H0.out.gl
  have eg0m := Nat.le_of_lt eg0l
  obtain ⟨c14x0a, c14x0b, c14x0c, c14x0d⟩ := H0.out.cell (g_a) (a) (by simp)
  have c14x0l := H0.out.lt (g_a) (a) (by simp)
  have c14x0m := Nat.le_of_lt c14x0l
  obtain ⟨c20x0a, c20x0b, c20x0c, c20x0d⟩ := H0.out.cell (g_n) (n) (by simp)
  have c20x0l := H0.out.lt (g_n) (n) (by simp)
  have c20x0m := Nat.le_of_lt c20x0l
  go_wp2_with fail
  clear ep0a ep0b ep0c ep0d eq0a eq0b eq0c eq0d eg0a eg0b eg0c eg0d eg0l eg0m c14x0a c14x0b c14x0c c14x0d c14x0l c14x0m c20x0a c20x0b c20x0c c20x0d c20x0l c20x0m
  refine (eg_of (gexp_none p q g a n _ PL.out AL.out VA.out) H0.out).mono ?_
  rintro e w1 ⟨rfl, h⟩
  have H1 := hid h
  clear h H0
  go_upto_region 6 with fail
  have H1b := hid (H1.out.new 0)
  clear H1
  generalize w1.alloc (.cells (cls 0) 24) = w1b at *
  generalize w1.heap.size = g7 at *
  obtain ⟨ep1a, ep1b, ep1c, ep1d⟩ := H1b.out.gp
  obtain ⟨eq1a, eq1b, eq1c, eq1d⟩ := H1b.out.gq
  obtain ⟨eg1a, eg1b, eg1c, eg1d⟩ := H1b.out.gg
  have eg1l := H1b.out.gl
  have eg1m := Nat.le_of_lt eg1l
  obtain ⟨c14x1a, c14x1b, c14x1c, c14x1d⟩ := H1b.out.cell (g_a) (a) (by simp)
  have c14x1l := H1b.out.lt (g_a) (a) (by simp)
  have c14x1m := Nat.le_of_lt c14x1l
  obtain ⟨c20x1a, c20x1b, c20x1c, c20x1d⟩ := H1b.out.cell (g_m) (m) (by simp)
  have c20x1l := H1b.out.lt (g_m) (m) (by simp)
  have c20x1m := Nat.le_of_lt c20x1l
  go_wp2_with fail
  clear ep1a ep1b ep1c ep1d eq1a eq1b eq1c eq1d eg1a eg1b eg1c eg1d eg1l eg1m c14x1a c14x1b c14x1c c14x1d c14x1l c14x1m c20x1a c20x1b c20x1c c20x1d c20x1l c20x1m
  refine (eg_of (gexp_none p q g a m _ PL.out AL.out VA.out) H1b.out).mono ?_
  rintro e w2 ⟨rfl, h⟩
  have H2 := hid h
  clear h H1b
  go_upto_region 7 with fail
  have H2b := hid (H2.out.new 0)
  clear H2
  generalize w2.alloc (.cells (cls 0) 24) = w2b at *
  generalize w2.heap.size = g9 at *
  go_wp2_with fail
  refine (eg_at (lives_at (Env.refl _)) H2b.out).mono ?_
  rintro e w3 ⟨rfl, h⟩
  have H3 := hid h
  clear h H2b
  go_wp2
  go_ret
  exact ⟨rfl, H3.out.1.1⟩
set_option maxRecDepth 100000 in
set_option maxHeartbeats 4000000 in
theorem share_nox (p q g a n m : Nat) (w : World) (hp : p < 2 ^ 256) (hq : q < 2 ^ 256) (hg : g < 2 ^ 256) (ha : a < 2 ^ 256) (hn : n < 2 ^ 256) (hm : m < 2 ^ 256) (va : 0 < a ∧ a < p) (hx0 : a ^ n % p = 0) : Calls Try.prog 6 #[.agg #[.int .u64 (wd p 0 : Int), .int .u64 (wd p 1 : Int), .int .u64 (wd p 2 : Int), .int .u64 (wd p 3 : Int), .int .u64 (wd q 0 : Int), .int .u64 (wd q 1 : Int), .int .u64 (wd q 2 : Int), .int .u64 (wd q 3 : Int), .int .u64 (wd g 0 : Int), .int .u64 (wd g 1 : Int), .int .u64 (wd g 2 : Int), .int .u64 (wd g 3 : Int), .int .u64 (wd a 0 : Int), .int .u64 (wd a 1 : Int), .int .u64 (wd a 2 : Int), .int .u64 (wd a 3 : Int), .int .u64 (wd n 0 : Int), .int .u64 (wd n 1 : Int), .int .u64 (wd n 2 : Int), .int .u64 (wd n 3 : Int), .int .u64 (wd m 0 : Int), .int .u64 (wd m 1 : Int), .int .u64 (wd m 2 : Int), .int .u64 (wd m 3 : Int)]] w fun e w' => e = .returned (.bool true) ∧ Below w.heap.size w w' := by
  have hp1 : 1 < p := by omega
  obtain ⟨x, ex⟩ : ∃ r, a ^ n % p = r := ⟨_, rfl⟩
  have lx : x < p := by rw [← ex]; exact Nat.mod_lt _ (by omega)
  obtain ⟨y, ey⟩ : ∃ r, a ^ m % p = r := ⟨_, rfl⟩
  have ly : y < p := by rw [← ey]; exact Nat.mod_lt _ (by omega)
  rw [ex] at hx0
  have qx : ∀ w, (Op.equalIn 10000 24 (num x) (.agg #[.int .u64 0, .int .u64 0, .int .u64 0, .int .u64 0])).run Try.prog w = .ok true w := by rw [num_zero]; exact eq_yes x 0 hx0
  have EX := hid ex
  have EY := hid ey
  clear ex ey lx ly hp1 hx0
  have VA := hid va
  clear va
  have PL := hid hp
  have QL := hid hq
  have GL := hid hg
  have AL := hid ha
  have NL := hid hn
  have ML := hid hm
  clear hp hq hg ha hn hm
  have H0 : Hid (Eg w (w.heap.size + 1) 26 p q g [(w.heap.size + 1 + 1 + 1 + 1, m), (w.heap.size + 1 + 1 + 1, n), (w.heap.size + 1 + 1, a)] (((((w.alloc (.cells #[.int .u64 (wd p 0 : Int), .int .u64 (wd p 1 : Int), .int .u64 (wd p 2 : Int), .int .u64 (wd p 3 : Int), .int .u64 (wd q 0 : Int), .int .u64 (wd q 1 : Int), .int .u64 (wd q 2 : Int), .int .u64 (wd q 3 : Int), .int .u64 (wd g 0 : Int), .int .u64 (wd g 1 : Int), .int .u64 (wd g 2 : Int), .int .u64 (wd g 3 : Int), .int .u64 (wd a 0 : Int), .int .u64 (wd a 1 : Int), .int .u64 (wd a 2 : Int), .int .u64 (wd a 3 : Int), .int .u64 (wd n 0 : Int), .int .u64 (wd n 1 : Int), .int .u64 (wd n 2 : Int), .int .u64 (wd n 3 : Int), .int .u64 (wd m 0 : Int), .int .u64 (wd m 1 : Int), .int .u64 (wd m 2 : Int), .int .u64 (wd m 3 : Int)] 40)).alloc (.cells (gcs p q g) 26)).alloc (.cells (cls a) 24)).alloc (.cells (cls n) 24)).alloc (.cells (cls m) 24))) := hid (by have h := (((((Eg.of ((Env.refl w).alloc (.cells #[.int .u64 (wd p 0 : Int), .int .u64 (wd p 1 : Int), .int .u64 (wd p 2 : Int), .int .u64 (wd p 3 : Int), .int .u64 (wd q 0 : Int), .int .u64 (wd q 1 : Int), .int .u64 (wd q 2 : Int), .int .u64 (wd q 3 : Int), .int .u64 (wd g 0 : Int), .int .u64 (wd g 1 : Int), .int .u64 (wd g 2 : Int), .int .u64 (wd g 3 : Int), .int .u64 (wd a 0 : Int), .int .u64 (wd a 1 : Int), .int .u64 (wd a 2 : Int), .int .u64 (wd a 3 : Int), .int .u64 (wd n 0 : Int), .int .u64 (wd n 1 : Int), .int .u64 (wd n 2 : Int), .int .u64 (wd n 3 : Int), .int .u64 (wd m 0 : Int), .int .u64 (wd m 1 : Int), .int .u64 (wd m 2 : Int), .int .u64 (wd m 3 : Int)] 40)) p q g 26)).new a).new n).new m); simpa using h)
  go_enter Try.func6, Try.ntmps6
  go_upto_region 5 with fail
  generalize ((((w.alloc (.cells #[.int .u64 (wd p 0 : Int), .int .u64 (wd p 1 : Int), .int .u64 (wd p 2 : Int), .int .u64 (wd p 3 : Int), .int .u64 (wd q 0 : Int), .int .u64 (wd q 1 : Int), .int .u64 (wd q 2 : Int), .int .u64 (wd q 3 : Int), .int .u64 (wd g 0 : Int), .int .u64 (wd g 1 : Int), .int .u64 (wd g 2 : Int), .int .u64 (wd g 3 : Int), .int .u64 (wd a 0 : Int), .int .u64 (wd a 1 : Int), .int .u64 (wd a 2 : Int), .int .u64 (wd a 3 : Int), .int .u64 (wd n 0 : Int), .int .u64 (wd n 1 : Int), .int .u64 (wd n 2 : Int), .int .u64 (wd n 3 : Int), .int .u64 (wd m 0 : Int), .int .u64 (wd m 1 : Int), .int .u64 (wd m 2 : Int), .int .u64 (wd m 3 : Int)] 40)).alloc (.cells (gcs p q g) 26)).alloc (.cells (cls a) 24)).alloc (.cells (cls n) 24)).alloc (.cells (cls m) 24) = w0 at *
  generalize w.heap.size + 1 + 1 + 1 + 1 = g_m at *
  generalize w.heap.size + 1 + 1 + 1 = g_n at *
  generalize w.heap.size + 1 + 1 = g_a at *
  generalize w.heap.size + 1 = g_p at *
  obtain ⟨ep0a, ep0b, ep0c, ep0d⟩ := H0.out.gp
  obtain ⟨eq0a, eq0b, eq0c, eq0d⟩ := H0.out.gq
  obtain ⟨eg0a, eg0b, eg0c, eg0d⟩ := H0.out.gg
  have eg0l := H0.out.gl
  have eg0m := Nat.le_of_lt eg0l
  obtain ⟨c14x0a, c14x0b, c14x0c, c14x0d⟩ := H0.out.cell (g_a) (a) (by simp)
  have c14x0l := H0.out.lt (g_a) (a) (by simp)
  have c14x0m := Nat.le_of_lt c14x0l
  obtain ⟨c20x0a, c20x0b, c20x0c, c20x0d⟩ := H0.out.cell (g_n) (n) (by simp)
  have c20x0l := H0.out.lt (g_n) (n) (by simp)
  have c20x0m := Nat.le_of_lt c20x0l
  go_wp2_with fail
  clear ep0a ep0b ep0c ep0d eq0a eq0b eq0c eq0d eg0a eg0b eg0c eg0d eg0l eg0m c14x0a c14x0b c14x0c c14x0d c14x0l c14x0m c20x0a c20x0b c20x0c c20x0d c20x0l c20x0m
  refine (eg_of (gexp_any p q g a n x _ PL.out NL.out VA.out EX.out) H0.out).mono ?_
  rintro e w1 ⟨rfl, h⟩
  have H1 := hid h
  clear h H0
  go_upto_region 6 with fail
  have H1b := hid (H1.out.new x)
  clear H1
  generalize w1.alloc (.cells (cls x) 24) = w1b at *
  generalize w1.heap.size = g7 at *
  obtain ⟨ep1a, ep1b, ep1c, ep1d⟩ := H1b.out.gp
  obtain ⟨eq1a, eq1b, eq1c, eq1d⟩ := H1b.out.gq
  obtain ⟨eg1a, eg1b, eg1c, eg1d⟩ := H1b.out.gg
  have eg1l := H1b.out.gl
  have eg1m := Nat.le_of_lt eg1l
  obtain ⟨c14x1a, c14x1b, c14x1c, c14x1d⟩ := H1b.out.cell (g_a) (a) (by simp)
  have c14x1l := H1b.out.lt (g_a) (a) (by simp)
  have c14x1m := Nat.le_of_lt c14x1l
  obtain ⟨c20x1a, c20x1b, c20x1c, c20x1d⟩ := H1b.out.cell (g_m) (m) (by simp)
  have c20x1l := H1b.out.lt (g_m) (m) (by simp)
  have c20x1m := Nat.le_of_lt c20x1l
  go_wp2_with fail
  clear ep1a ep1b ep1c ep1d eq1a eq1b eq1c eq1d eg1a eg1b eg1c eg1d eg1l eg1m c14x1a c14x1b c14x1c c14x1d c14x1l c14x1m c20x1a c20x1b c20x1c c20x1d c20x1l c20x1m
  refine (eg_of (gexp_any p q g a m y _ PL.out ML.out VA.out EY.out) H1b.out).mono ?_
  rintro e w2 ⟨rfl, h⟩
  have H2 := hid h
  clear h H1b
  go_upto_region 7 with fail
  have H2b := hid (H2.out.new y)
  clear H2
  generalize w2.alloc (.cells (cls y) 24) = w2b at *
  generalize w2.heap.size = g9 at *
  obtain ⟨c0x2a, c0x2b, c0x2c, c0x2d⟩ := H2b.out.cell (g7) (x) (by simp)
  have c0x2l := H2b.out.lt (g7) (x) (by simp)
  have c0x2m := Nat.le_of_lt c0x2l
  obtain ⟨c6x2a, c6x2b, c6x2c, c6x2d⟩ := H2b.out.cell (g9) (y) (by simp)
  have c6x2l := H2b.out.lt (g9) (y) (by simp)
  have c6x2m := Nat.le_of_lt c6x2l
  go_wp2_with fail
  clear c0x2a c0x2b c0x2c c0x2d c0x2l c0x2m c6x2a c6x2b c6x2c c6x2d c6x2l c6x2m
  refine (eg_at (lives_at (Env.refl _)) H2b.out).mono ?_
  rintro e w3 ⟨rfl, h⟩
  have H3 := hid h
  clear h H2b
  go_wp2
  go_ret
  exact ⟨rfl, H3.out.1.1⟩
set_option maxRecDepth 100000 in
set_option maxHeartbeats 4000000 in
theorem share_noy (p q g a n m : Nat) (w : World) (hp : p < 2 ^ 256) (hq : q < 2 ^ 256) (hg : g < 2 ^ 256) (ha : a < 2 ^ 256) (hn : n < 2 ^ 256) (hm : m < 2 ^ 256) (va : 0 < a ∧ a < p) (hx0 : a ^ n % p ≠ 0) (hy0 : a ^ m % p = 0) : Calls Try.prog 6 #[.agg #[.int .u64 (wd p 0 : Int), .int .u64 (wd p 1 : Int), .int .u64 (wd p 2 : Int), .int .u64 (wd p 3 : Int), .int .u64 (wd q 0 : Int), .int .u64 (wd q 1 : Int), .int .u64 (wd q 2 : Int), .int .u64 (wd q 3 : Int), .int .u64 (wd g 0 : Int), .int .u64 (wd g 1 : Int), .int .u64 (wd g 2 : Int), .int .u64 (wd g 3 : Int), .int .u64 (wd a 0 : Int), .int .u64 (wd a 1 : Int), .int .u64 (wd a 2 : Int), .int .u64 (wd a 3 : Int), .int .u64 (wd n 0 : Int), .int .u64 (wd n 1 : Int), .int .u64 (wd n 2 : Int), .int .u64 (wd n 3 : Int), .int .u64 (wd m 0 : Int), .int .u64 (wd m 1 : Int), .int .u64 (wd m 2 : Int), .int .u64 (wd m 3 : Int)]] w fun e w' => e = .returned (.bool true) ∧ Below w.heap.size w w' := by
  have hp1 : 1 < p := by omega
  obtain ⟨x, ex⟩ : ∃ r, a ^ n % p = r := ⟨_, rfl⟩
  have lx : x < p := by rw [← ex]; exact Nat.mod_lt _ (by omega)
  obtain ⟨y, ey⟩ : ∃ r, a ^ m % p = r := ⟨_, rfl⟩
  have ly : y < p := by rw [← ey]; exact Nat.mod_lt _ (by omega)
  rw [ex] at hx0
  rw [ey] at hy0
  have qx : ∀ w, (Op.equalIn 10000 24 (num x) (.agg #[.int .u64 0, .int .u64 0, .int .u64 0, .int .u64 0])).run Try.prog w = .ok false w := by rw [num_zero]; exact eq_no x 0 (Nat.lt_trans lx hp) (by decide) hx0
  have qy : ∀ w, (Op.equalIn 10000 24 (num y) (.agg #[.int .u64 0, .int .u64 0, .int .u64 0, .int .u64 0])).run Try.prog w = .ok true w := by rw [num_zero]; exact eq_yes y 0 hy0
  have EX := hid ex
  have EY := hid ey
  clear ex ey lx ly hp1 hx0 hy0
  have VA := hid va
  clear va
  have PL := hid hp
  have QL := hid hq
  have GL := hid hg
  have AL := hid ha
  have NL := hid hn
  have ML := hid hm
  clear hp hq hg ha hn hm
  have H0 : Hid (Eg w (w.heap.size + 1) 26 p q g [(w.heap.size + 1 + 1 + 1 + 1, m), (w.heap.size + 1 + 1 + 1, n), (w.heap.size + 1 + 1, a)] (((((w.alloc (.cells #[.int .u64 (wd p 0 : Int), .int .u64 (wd p 1 : Int), .int .u64 (wd p 2 : Int), .int .u64 (wd p 3 : Int), .int .u64 (wd q 0 : Int), .int .u64 (wd q 1 : Int), .int .u64 (wd q 2 : Int), .int .u64 (wd q 3 : Int), .int .u64 (wd g 0 : Int), .int .u64 (wd g 1 : Int), .int .u64 (wd g 2 : Int), .int .u64 (wd g 3 : Int), .int .u64 (wd a 0 : Int), .int .u64 (wd a 1 : Int), .int .u64 (wd a 2 : Int), .int .u64 (wd a 3 : Int), .int .u64 (wd n 0 : Int), .int .u64 (wd n 1 : Int), .int .u64 (wd n 2 : Int), .int .u64 (wd n 3 : Int), .int .u64 (wd m 0 : Int), .int .u64 (wd m 1 : Int), .int .u64 (wd m 2 : Int), .int .u64 (wd m 3 : Int)] 40)).alloc (.cells (gcs p q g) 26)).alloc (.cells (cls a) 24)).alloc (.cells (cls n) 24)).alloc (.cells (cls m) 24))) := hid (by have h := (((((Eg.of ((Env.refl w).alloc (.cells #[.int .u64 (wd p 0 : Int), .int .u64 (wd p 1 : Int), .int .u64 (wd p 2 : Int), .int .u64 (wd p 3 : Int), .int .u64 (wd q 0 : Int), .int .u64 (wd q 1 : Int), .int .u64 (wd q 2 : Int), .int .u64 (wd q 3 : Int), .int .u64 (wd g 0 : Int), .int .u64 (wd g 1 : Int), .int .u64 (wd g 2 : Int), .int .u64 (wd g 3 : Int), .int .u64 (wd a 0 : Int), .int .u64 (wd a 1 : Int), .int .u64 (wd a 2 : Int), .int .u64 (wd a 3 : Int), .int .u64 (wd n 0 : Int), .int .u64 (wd n 1 : Int), .int .u64 (wd n 2 : Int), .int .u64 (wd n 3 : Int), .int .u64 (wd m 0 : Int), .int .u64 (wd m 1 : Int), .int .u64 (wd m 2 : Int), .int .u64 (wd m 3 : Int)] 40)) p q g 26)).new a).new n).new m); simpa using h)
  go_enter Try.func6, Try.ntmps6
  go_upto_region 5 with fail
  generalize ((((w.alloc (.cells #[.int .u64 (wd p 0 : Int), .int .u64 (wd p 1 : Int), .int .u64 (wd p 2 : Int), .int .u64 (wd p 3 : Int), .int .u64 (wd q 0 : Int), .int .u64 (wd q 1 : Int), .int .u64 (wd q 2 : Int), .int .u64 (wd q 3 : Int), .int .u64 (wd g 0 : Int), .int .u64 (wd g 1 : Int), .int .u64 (wd g 2 : Int), .int .u64 (wd g 3 : Int), .int .u64 (wd a 0 : Int), .int .u64 (wd a 1 : Int), .int .u64 (wd a 2 : Int), .int .u64 (wd a 3 : Int), .int .u64 (wd n 0 : Int), .int .u64 (wd n 1 : Int), .int .u64 (wd n 2 : Int), .int .u64 (wd n 3 : Int), .int .u64 (wd m 0 : Int), .int .u64 (wd m 1 : Int), .int .u64 (wd m 2 : Int), .int .u64 (wd m 3 : Int)] 40)).alloc (.cells (gcs p q g) 26)).alloc (.cells (cls a) 24)).alloc (.cells (cls n) 24)).alloc (.cells (cls m) 24) = w0 at *
  generalize w.heap.size + 1 + 1 + 1 + 1 = g_m at *
  generalize w.heap.size + 1 + 1 + 1 = g_n at *
  generalize w.heap.size + 1 + 1 = g_a at *
  generalize w.heap.size + 1 = g_p at *
  obtain ⟨ep0a, ep0b, ep0c, ep0d⟩ := H0.out.gp
  obtain ⟨eq0a, eq0b, eq0c, eq0d⟩ := H0.out.gq
  obtain ⟨eg0a, eg0b, eg0c, eg0d⟩ := H0.out.gg
  have eg0l := H0.out.gl
  have eg0m := Nat.le_of_lt eg0l
  obtain ⟨c14x0a, c14x0b, c14x0c, c14x0d⟩ := H0.out.cell (g_a) (a) (by simp)
  have c14x0l := H0.out.lt (g_a) (a) (by simp)
  have c14x0m := Nat.le_of_lt c14x0l
  obtain ⟨c20x0a, c20x0b, c20x0c, c20x0d⟩ := H0.out.cell (g_n) (n) (by simp)
  have c20x0l := H0.out.lt (g_n) (n) (by simp)
  have c20x0m := Nat.le_of_lt c20x0l
  go_wp2_with fail
  clear ep0a ep0b ep0c ep0d eq0a eq0b eq0c eq0d eg0a eg0b eg0c eg0d eg0l eg0m c14x0a c14x0b c14x0c c14x0d c14x0l c14x0m c20x0a c20x0b c20x0c c20x0d c20x0l c20x0m
  refine (eg_of (gexp_any p q g a n x _ PL.out NL.out VA.out EX.out) H0.out).mono ?_
  rintro e w1 ⟨rfl, h⟩
  have H1 := hid h
  clear h H0
  go_upto_region 6 with fail
  have H1b := hid (H1.out.new x)
  clear H1
  generalize w1.alloc (.cells (cls x) 24) = w1b at *
  generalize w1.heap.size = g7 at *
  obtain ⟨ep1a, ep1b, ep1c, ep1d⟩ := H1b.out.gp
  obtain ⟨eq1a, eq1b, eq1c, eq1d⟩ := H1b.out.gq
  obtain ⟨eg1a, eg1b, eg1c, eg1d⟩ := H1b.out.gg
  have eg1l := H1b.out.gl
  have eg1m := Nat.le_of_lt eg1l
  obtain ⟨c14x1a, c14x1b, c14x1c, c14x1d⟩ := H1b.out.cell (g_a) (a) (by simp)
  have c14x1l := H1b.out.lt (g_a) (a) (by simp)
  have c14x1m := Nat.le_of_lt c14x1l
  obtain ⟨c20x1a, c20x1b, c20x1c, c20x1d⟩ := H1b.out.cell (g_m) (m) (by simp)
  have c20x1l := H1b.out.lt (g_m) (m) (by simp)
  have c20x1m := Nat.le_of_lt c20x1l
  go_wp2_with fail
  clear ep1a ep1b ep1c ep1d eq1a eq1b eq1c eq1d eg1a eg1b eg1c eg1d eg1l eg1m c14x1a c14x1b c14x1c c14x1d c14x1l c14x1m c20x1a c20x1b c20x1c c20x1d c20x1l c20x1m
  refine (eg_of (gexp_any p q g a m y _ PL.out ML.out VA.out EY.out) H1b.out).mono ?_
  rintro e w2 ⟨rfl, h⟩
  have H2 := hid h
  clear h H1b
  go_upto_region 7 with fail
  have H2b := hid (H2.out.new y)
  clear H2
  generalize w2.alloc (.cells (cls y) 24) = w2b at *
  generalize w2.heap.size = g9 at *
  obtain ⟨c0x2a, c0x2b, c0x2c, c0x2d⟩ := H2b.out.cell (g7) (x) (by simp)
  have c0x2l := H2b.out.lt (g7) (x) (by simp)
  have c0x2m := Nat.le_of_lt c0x2l
  obtain ⟨c6x2a, c6x2b, c6x2c, c6x2d⟩ := H2b.out.cell (g9) (y) (by simp)
  have c6x2l := H2b.out.lt (g9) (y) (by simp)
  have c6x2m := Nat.le_of_lt c6x2l
  go_wp2_with fail
  clear c0x2a c0x2b c0x2c c0x2d c0x2l c0x2m c6x2a c6x2b c6x2c c6x2d c6x2l c6x2m
  refine (eg_at (lives_at (Env.refl _)) H2b.out).mono ?_
  rintro e w3 ⟨rfl, h⟩
  have H3 := hid h
  clear h H2b
  go_wp2
  go_ret
  exact ⟨rfl, H3.out.1.1⟩
set_option maxRecDepth 100000 in
set_option maxHeartbeats 4000000 in
theorem share_all (p q g a n m : Nat) (w : World) (hp : p < 2 ^ 256) (hq : q < 2 ^ 256) (hg : g < 2 ^ 256) (ha : a < 2 ^ 256) (hn : n < 2 ^ 256) (hm : m < 2 ^ 256) (va : 0 < a ∧ a < p) (hx0 : a ^ n % p ≠ 0) (hy0 : a ^ m % p ≠ 0) : Calls Try.prog 6 #[.agg #[.int .u64 (wd p 0 : Int), .int .u64 (wd p 1 : Int), .int .u64 (wd p 2 : Int), .int .u64 (wd p 3 : Int), .int .u64 (wd q 0 : Int), .int .u64 (wd q 1 : Int), .int .u64 (wd q 2 : Int), .int .u64 (wd q 3 : Int), .int .u64 (wd g 0 : Int), .int .u64 (wd g 1 : Int), .int .u64 (wd g 2 : Int), .int .u64 (wd g 3 : Int), .int .u64 (wd a 0 : Int), .int .u64 (wd a 1 : Int), .int .u64 (wd a 2 : Int), .int .u64 (wd a 3 : Int), .int .u64 (wd n 0 : Int), .int .u64 (wd n 1 : Int), .int .u64 (wd n 2 : Int), .int .u64 (wd n 3 : Int), .int .u64 (wd m 0 : Int), .int .u64 (wd m 1 : Int), .int .u64 (wd m 2 : Int), .int .u64 (wd m 3 : Int)]] w fun e w' => e = .returned (.bool true) ∧ Below w.heap.size w w' := by
  have hp1 : 1 < p := by omega
  obtain ⟨x, ex⟩ : ∃ r, a ^ n % p = r := ⟨_, rfl⟩
  have lx : x < p := by rw [← ex]; exact Nat.mod_lt _ (by omega)
  obtain ⟨y, ey⟩ : ∃ r, a ^ m % p = r := ⟨_, rfl⟩
  have ly : y < p := by rw [← ey]; exact Nat.mod_lt _ (by omega)
  rw [ex] at hx0
  rw [ey] at hy0
  have qx : ∀ w, (Op.equalIn 10000 24 (num x) (.agg #[.int .u64 0, .int .u64 0, .int .u64 0, .int .u64 0])).run Try.prog w = .ok false w := by rw [num_zero]; exact eq_no x 0 (Nat.lt_trans lx hp) (by decide) hx0
  have qy : ∀ w, (Op.equalIn 10000 24 (num y) (.agg #[.int .u64 0, .int .u64 0, .int .u64 0, .int .u64 0])).run Try.prog w = .ok false w := by rw [num_zero]; exact eq_no y 0 (Nat.lt_trans ly hp) (by decide) hy0
  have ms := grp_share (p := p) (a := a) (n := n) (m := m)
  rw [ex, ey] at ms
  obtain ⟨u, eu⟩ : ∃ r, x ^ m % p = r := ⟨_, rfl⟩
  rw [eu] at ms
  have EU := hid eu
  have EV := hid ms.symm
  have XV := hid (show 0 < x ∧ x < p from ⟨Nat.pos_of_ne_zero hx0, lx⟩)
  have YV := hid (show 0 < y ∧ y < p from ⟨Nat.pos_of_ne_zero hy0, ly⟩)
  have qu := eq_yes u u rfl
  clear ms eu
  have EX := hid ex
  have EY := hid ey
  clear ex ey lx ly hp1 hx0 hy0
  have VA := hid va
  clear va
  have PL := hid hp
  have QL := hid hq
  have GL := hid hg
  have AL := hid ha
  have NL := hid hn
  have ML := hid hm
  clear hp hq hg ha hn hm
  have H0 : Hid (Eg w (w.heap.size + 1) 26 p q g [(w.heap.size + 1 + 1 + 1 + 1, m), (w.heap.size + 1 + 1 + 1, n), (w.heap.size + 1 + 1, a)] (((((w.alloc (.cells #[.int .u64 (wd p 0 : Int), .int .u64 (wd p 1 : Int), .int .u64 (wd p 2 : Int), .int .u64 (wd p 3 : Int), .int .u64 (wd q 0 : Int), .int .u64 (wd q 1 : Int), .int .u64 (wd q 2 : Int), .int .u64 (wd q 3 : Int), .int .u64 (wd g 0 : Int), .int .u64 (wd g 1 : Int), .int .u64 (wd g 2 : Int), .int .u64 (wd g 3 : Int), .int .u64 (wd a 0 : Int), .int .u64 (wd a 1 : Int), .int .u64 (wd a 2 : Int), .int .u64 (wd a 3 : Int), .int .u64 (wd n 0 : Int), .int .u64 (wd n 1 : Int), .int .u64 (wd n 2 : Int), .int .u64 (wd n 3 : Int), .int .u64 (wd m 0 : Int), .int .u64 (wd m 1 : Int), .int .u64 (wd m 2 : Int), .int .u64 (wd m 3 : Int)] 40)).alloc (.cells (gcs p q g) 26)).alloc (.cells (cls a) 24)).alloc (.cells (cls n) 24)).alloc (.cells (cls m) 24))) := hid (by have h := (((((Eg.of ((Env.refl w).alloc (.cells #[.int .u64 (wd p 0 : Int), .int .u64 (wd p 1 : Int), .int .u64 (wd p 2 : Int), .int .u64 (wd p 3 : Int), .int .u64 (wd q 0 : Int), .int .u64 (wd q 1 : Int), .int .u64 (wd q 2 : Int), .int .u64 (wd q 3 : Int), .int .u64 (wd g 0 : Int), .int .u64 (wd g 1 : Int), .int .u64 (wd g 2 : Int), .int .u64 (wd g 3 : Int), .int .u64 (wd a 0 : Int), .int .u64 (wd a 1 : Int), .int .u64 (wd a 2 : Int), .int .u64 (wd a 3 : Int), .int .u64 (wd n 0 : Int), .int .u64 (wd n 1 : Int), .int .u64 (wd n 2 : Int), .int .u64 (wd n 3 : Int), .int .u64 (wd m 0 : Int), .int .u64 (wd m 1 : Int), .int .u64 (wd m 2 : Int), .int .u64 (wd m 3 : Int)] 40)) p q g 26)).new a).new n).new m); simpa using h)
  go_enter Try.func6, Try.ntmps6
  go_upto_region 5 with fail
  generalize ((((w.alloc (.cells #[.int .u64 (wd p 0 : Int), .int .u64 (wd p 1 : Int), .int .u64 (wd p 2 : Int), .int .u64 (wd p 3 : Int), .int .u64 (wd q 0 : Int), .int .u64 (wd q 1 : Int), .int .u64 (wd q 2 : Int), .int .u64 (wd q 3 : Int), .int .u64 (wd g 0 : Int), .int .u64 (wd g 1 : Int), .int .u64 (wd g 2 : Int), .int .u64 (wd g 3 : Int), .int .u64 (wd a 0 : Int), .int .u64 (wd a 1 : Int), .int .u64 (wd a 2 : Int), .int .u64 (wd a 3 : Int), .int .u64 (wd n 0 : Int), .int .u64 (wd n 1 : Int), .int .u64 (wd n 2 : Int), .int .u64 (wd n 3 : Int), .int .u64 (wd m 0 : Int), .int .u64 (wd m 1 : Int), .int .u64 (wd m 2 : Int), .int .u64 (wd m 3 : Int)] 40)).alloc (.cells (gcs p q g) 26)).alloc (.cells (cls a) 24)).alloc (.cells (cls n) 24)).alloc (.cells (cls m) 24) = w0 at *
  generalize w.heap.size + 1 + 1 + 1 + 1 = g_m at *
  generalize w.heap.size + 1 + 1 + 1 = g_n at *
  generalize w.heap.size + 1 + 1 = g_a at *
  generalize w.heap.size + 1 = g_p at *
  obtain ⟨ep0a, ep0b, ep0c, ep0d⟩ := H0.out.gp
  obtain ⟨eq0a, eq0b, eq0c, eq0d⟩ := H0.out.gq
  obtain ⟨eg0a, eg0b, eg0c, eg0d⟩ := H0.out.gg
  have eg0l := H0.out.gl
  have eg0m := Nat.le_of_lt eg0l
  obtain ⟨c14x0a, c14x0b, c14x0c, c14x0d⟩ := H0.out.cell (g_a) (a) (by simp)
  have c14x0l := H0.out.lt (g_a) (a) (by simp)
  have c14x0m := Nat.le_of_lt c14x0l
  obtain ⟨c20x0a, c20x0b, c20x0c, c20x0d⟩ := H0.out.cell (g_n) (n) (by simp)
  have c20x0l := H0.out.lt (g_n) (n) (by simp)
  have c20x0m := Nat.le_of_lt c20x0l
  go_wp2_with fail
  clear ep0a ep0b ep0c ep0d eq0a eq0b eq0c eq0d eg0a eg0b eg0c eg0d eg0l eg0m c14x0a c14x0b c14x0c c14x0d c14x0l c14x0m c20x0a c20x0b c20x0c c20x0d c20x0l c20x0m
  refine (eg_of (gexp_any p q g a n x _ PL.out NL.out VA.out EX.out) H0.out).mono ?_
  rintro e w1 ⟨rfl, h⟩
  have H1 := hid h
  clear h H0
  go_upto_region 6 with fail
  have H1b := hid (H1.out.new x)
  clear H1
  generalize w1.alloc (.cells (cls x) 24) = w1b at *
  generalize w1.heap.size = g7 at *
  obtain ⟨ep1a, ep1b, ep1c, ep1d⟩ := H1b.out.gp
  obtain ⟨eq1a, eq1b, eq1c, eq1d⟩ := H1b.out.gq
  obtain ⟨eg1a, eg1b, eg1c, eg1d⟩ := H1b.out.gg
  have eg1l := H1b.out.gl
  have eg1m := Nat.le_of_lt eg1l
  obtain ⟨c14x1a, c14x1b, c14x1c, c14x1d⟩ := H1b.out.cell (g_a) (a) (by simp)
  have c14x1l := H1b.out.lt (g_a) (a) (by simp)
  have c14x1m := Nat.le_of_lt c14x1l
  obtain ⟨c20x1a, c20x1b, c20x1c, c20x1d⟩ := H1b.out.cell (g_m) (m) (by simp)
  have c20x1l := H1b.out.lt (g_m) (m) (by simp)
  have c20x1m := Nat.le_of_lt c20x1l
  go_wp2_with fail
  clear ep1a ep1b ep1c ep1d eq1a eq1b eq1c eq1d eg1a eg1b eg1c eg1d eg1l eg1m c14x1a c14x1b c14x1c c14x1d c14x1l c14x1m c20x1a c20x1b c20x1c c20x1d c20x1l c20x1m
  refine (eg_of (gexp_any p q g a m y _ PL.out ML.out VA.out EY.out) H1b.out).mono ?_
  rintro e w2 ⟨rfl, h⟩
  have H2 := hid h
  clear h H1b
  go_upto_region 7 with fail
  have H2b := hid (H2.out.new y)
  clear H2
  generalize w2.alloc (.cells (cls y) 24) = w2b at *
  generalize w2.heap.size = g9 at *
  obtain ⟨c0x2a, c0x2b, c0x2c, c0x2d⟩ := H2b.out.cell (g7) (x) (by simp)
  have c0x2l := H2b.out.lt (g7) (x) (by simp)
  have c0x2m := Nat.le_of_lt c0x2l
  obtain ⟨c6x2a, c6x2b, c6x2c, c6x2d⟩ := H2b.out.cell (g9) (y) (by simp)
  have c6x2l := H2b.out.lt (g9) (y) (by simp)
  have c6x2m := Nat.le_of_lt c6x2l
  obtain ⟨ep2a, ep2b, ep2c, ep2d⟩ := H2b.out.gp
  obtain ⟨eq2a, eq2b, eq2c, eq2d⟩ := H2b.out.gq
  obtain ⟨eg2a, eg2b, eg2c, eg2d⟩ := H2b.out.gg
  have eg2l := H2b.out.gl
  have eg2m := Nat.le_of_lt eg2l
  obtain ⟨c26x2a, c26x2b, c26x2c, c26x2d⟩ := H2b.out.cell (g_m) (m) (by simp)
  have c26x2l := H2b.out.lt (g_m) (m) (by simp)
  have c26x2m := Nat.le_of_lt c26x2l
  go_wp2_with fail
  clear c0x2a c0x2b c0x2c c0x2d c0x2l c0x2m c6x2a c6x2b c6x2c c6x2d c6x2l c6x2m ep2a ep2b ep2c ep2d eq2a eq2b eq2c eq2d eg2a eg2b eg2c eg2d eg2l eg2m c26x2a c26x2b c26x2c c26x2d c26x2l c26x2m
  refine (eg_of (gexp_any p q g x m u _ PL.out ML.out XV.out EU.out) H2b.out).mono ?_
  rintro e w3 ⟨rfl, h⟩
  have H3 := hid h
  clear h H2b
  go_upto_region 10 with fail
  have H3b := hid (H3.out.new u)
  clear H3
  generalize w3.alloc (.cells (cls u) 24) = w3b at *
  generalize w3.heap.size = g11 at *
  obtain ⟨ep3a, ep3b, ep3c, ep3d⟩ := H3b.out.gp
  obtain ⟨eq3a, eq3b, eq3c, eq3d⟩ := H3b.out.gq
  obtain ⟨eg3a, eg3b, eg3c, eg3d⟩ := H3b.out.gg
  have eg3l := H3b.out.gl
  have eg3m := Nat.le_of_lt eg3l
  obtain ⟨c14x3a, c14x3b, c14x3c, c14x3d⟩ := H3b.out.cell (g9) (y) (by simp)
  have c14x3l := H3b.out.lt (g9) (y) (by simp)
  have c14x3m := Nat.le_of_lt c14x3l
  obtain ⟨c20x3a, c20x3b, c20x3c, c20x3d⟩ := H3b.out.cell (g_n) (n) (by simp)
  have c20x3l := H3b.out.lt (g_n) (n) (by simp)
  have c20x3m := Nat.le_of_lt c20x3l
  go_wp2_with fail
  clear ep3a ep3b ep3c ep3d eq3a eq3b eq3c eq3d eg3a eg3b eg3c eg3d eg3l eg3m c14x3a c14x3b c14x3c c14x3d c14x3l c14x3m c20x3a c20x3b c20x3c c20x3d c20x3l c20x3m
  refine (eg_of (gexp_any p q g y n u _ PL.out NL.out YV.out EV.out) H3b.out).mono ?_
  rintro e w4 ⟨rfl, h⟩
  have H4 := hid h
  clear h H3b
  go_upto_region 11 with fail
  have H4b := hid (H4.out.new u)
  clear H4
  generalize w4.alloc (.cells (cls u) 24) = w4b at *
  generalize w4.heap.size = g13 at *
  obtain ⟨c0x4a, c0x4b, c0x4c, c0x4d⟩ := H4b.out.cell (g11) (u) (by simp)
  have c0x4l := H4b.out.lt (g11) (u) (by simp)
  have c0x4m := Nat.le_of_lt c0x4l
  obtain ⟨c6x4a, c6x4b, c6x4c, c6x4d⟩ := H4b.out.cell (g13) (u) (by simp)
  have c6x4l := H4b.out.lt (g13) (u) (by simp)
  have c6x4m := Nat.le_of_lt c6x4l
  go_wp2_with fail
  clear c0x4a c0x4b c0x4c c0x4d c0x4l c0x4m c6x4a c6x4b c6x4c c6x4d c6x4l c6x4m
  refine (eg_at (lives_at (Env.refl _)) H4b.out).mono ?_
  rintro e w5 ⟨rfl, h⟩
  have H5 := hid h
  clear h H4b
  go_wp2
  go_ret
  exact ⟨rfl, H5.out.1.1⟩
theorem shareLaw_any (p q g a n m : Nat) (w : World) (hp : p < 2 ^ 256) (hq : q < 2 ^ 256) (hg : g < 2 ^ 256) (ha : a < 2 ^ 256) (hn : n < 2 ^ 256) (hm : m < 2 ^ 256) : Calls Try.prog 6 #[.agg #[.int .u64 (wd p 0 : Int), .int .u64 (wd p 1 : Int), .int .u64 (wd p 2 : Int), .int .u64 (wd p 3 : Int), .int .u64 (wd q 0 : Int), .int .u64 (wd q 1 : Int), .int .u64 (wd q 2 : Int), .int .u64 (wd q 3 : Int), .int .u64 (wd g 0 : Int), .int .u64 (wd g 1 : Int), .int .u64 (wd g 2 : Int), .int .u64 (wd g 3 : Int), .int .u64 (wd a 0 : Int), .int .u64 (wd a 1 : Int), .int .u64 (wd a 2 : Int), .int .u64 (wd a 3 : Int), .int .u64 (wd n 0 : Int), .int .u64 (wd n 1 : Int), .int .u64 (wd n 2 : Int), .int .u64 (wd n 3 : Int), .int .u64 (wd m 0 : Int), .int .u64 (wd m 1 : Int), .int .u64 (wd m 2 : Int), .int .u64 (wd m 3 : Int)]] w fun e w' => e = .returned (.bool true) ∧ Below w.heap.size w w' := by
  by_cases h : 0 < a ∧ a < p
  · by_cases h1 : a ^ n % p = 0
    · exact share_nox p q g a n m w hp hq hg ha hn hm h h1
    · by_cases h2 : a ^ m % p = 0
      · exact share_noy p q g a n m w hp hq hg ha hn hm h h1 h2
      · exact share_all p q g a n m w hp hq hg ha hn hm h h1 h2
  · exact share_none p q g a n m w hp hq hg ha hn hm h
end Go.Proofs.Ytaggegknnnembaa
