/-
  burrowref06, walked. Conditions: none of its own.
  burrowref06, its three ways to reckon, beside those of the program. Conditions: none of its own.
  burrowlaw06.GroupsOf, walked: it answers true at any group and two numbers. Conditions: none.
-/
import Derived.Test.YtaggegknnnembaaPkF
import Derived.Test.YtaggegknnnembaaGma
import Derived.Test.YtaggegknnnembaaPkD
import Derived.Test.YtaggegknnnembaaPkG
namespace Go.Proofs.Ytaggegknnnembaa
open Go.RowKit
set_option linter.unusedVariables false

theorem num_one : (.agg #[.int .u64 1, .int .u64 0, .int .u64 0, .int .u64 0] : Value) = num 1 := num_small 1 (by decide)
theorem rcmp_one (p : Nat) (c : Int) (w : World) (hp : p < 2 ^ 256) (hc : cmpN p 1 = c) : Calls Try.prog 36 #[num p, .agg #[.int .u64 1, .int .u64 0, .int .u64 0, .int .u64 0]] w fun e w' => e = .returned (.int .i64 c) ∧ Below w.heap.size w w' := by
  rw [num_one]; exact rcmp_c p 1 c w hp (by decide) hc
set_option maxRecDepth 100000 in
set_option maxHeartbeats 4000000 in
theorem r6may_a (p q g a : Nat) (w : World) (hp : p < 2 ^ 256) (ha : a < 2 ^ 256) (hv : ¬ 1 < p) : Calls Try.prog 33 #[gv p q g, num a] w fun e w' => e = .returned (.bool false) ∧ Below w.heap.size w w' := by
  obtain ⟨c1, ec1⟩ : ∃ z, cmpN p 1 = z := ⟨_, rfl⟩
  have nc1 : ¬ 0 < c1 := by rw [← ec1]; unfold cmpN; split <;> (try split) <;> omega
  have Ec1 := hid ec1
  clear ec1
  have PL := hid hp
  have AL := hid ha
  clear hp ha
  clear hv
  have H0 := hid ((((Eg.of (Env.refl w) p q g 26)).new a).perm (l' := [(w.heap.size + 1, a)]) (by simp))
  go_enter Try.func33, Try.ntmps33
  go_upto_region 1 with fail
  generalize (w.alloc (.cells (gcs p q g) 26)).alloc (.cells (cls a) 24) = w0 at *
  generalize w.heap.size + 1 = g_a at *
  generalize hzg_p : w.heap.size = g_p at *
  obtain ⟨ep0a, ep0b, ep0c, ep0d⟩ := H0.out.gp
  have eg0l := H0.out.gl
  have eg0m := Nat.le_of_lt eg0l
  obtain ⟨c6x0a, c6x0b, c6x0c, c6x0d⟩ := H0.out.cell (g_a) (a) (by simp)
  have c6x0l := H0.out.lt (g_a) (a) (by simp)
  have c6x0m := Nat.le_of_lt c6x0l
  go_wp2_with fail
  clear ep0a ep0b ep0c ep0d eg0l eg0m c6x0a c6x0b c6x0c c6x0d c6x0l c6x0m
  refine (eg_of (rcmp_one p c1 _ PL.out Ec1.out) H0.out).mono ?_
  rintro e w1 ⟨rfl, h⟩
  have H1 := hid h
  clear h H0
  obtain ⟨ep1a, ep1b, ep1c, ep1d⟩ := H1.out.gp
  have eg1l := H1.out.gl
  have eg1m := Nat.le_of_lt eg1l
  obtain ⟨c6x1a, c6x1b, c6x1c, c6x1d⟩ := H1.out.cell (g_a) (a) (by simp)
  have c6x1l := H1.out.lt (g_a) (a) (by simp)
  have c6x1m := Nat.le_of_lt c6x1l
  go_wp2
  exact bodyPost_ret (v := .bool false) (by first | (simp [results, Try.results33, go_sem]; done) | (simp [results, Try.results33, go_sem]; omega)) rfl ⟨rfl, by first | exact H1.out.1.1 | (rw [← hzg_p]; exact H1.out.1.1)⟩
set_option maxRecDepth 100000 in
set_option maxHeartbeats 4000000 in
theorem r6may_b (p q g a : Nat) (w : World) (hp : p < 2 ^ 256) (ha : a < 2 ^ 256) (hv : 1 < p ∧ a = 0) : Calls Try.prog 33 #[gv p q g, num a] w fun e w' => e = .returned (.bool false) ∧ Below w.heap.size w w' := by
  obtain ⟨c1, ec1⟩ : ∃ z, cmpN p 1 = z := ⟨_, rfl⟩
  have nc1 : 0 < c1 := by rw [← ec1]; unfold cmpN; split <;> (try split) <;> omega
  have Ec1 := hid ec1
  clear ec1
  have qa : ∀ w, (Op.equalIn 10000 24 (num a) (.agg #[.int .u64 0, .int .u64 0, .int .u64 0, .int .u64 0])).run Try.prog w = .ok true w := by rw [num_zero]; exact eq_yes a 0 hv.2
  have PL := hid hp
  have AL := hid ha
  clear hp ha
  clear hv
  have H0 := hid ((((Eg.of (Env.refl w) p q g 26)).new a).perm (l' := [(w.heap.size + 1, a)]) (by simp))
  go_enter Try.func33, Try.ntmps33
  go_upto_region 1 with fail
  generalize (w.alloc (.cells (gcs p q g) 26)).alloc (.cells (cls a) 24) = w0 at *
  generalize w.heap.size + 1 = g_a at *
  generalize hzg_p : w.heap.size = g_p at *
  obtain ⟨ep0a, ep0b, ep0c, ep0d⟩ := H0.out.gp
  have eg0l := H0.out.gl
  have eg0m := Nat.le_of_lt eg0l
  obtain ⟨c6x0a, c6x0b, c6x0c, c6x0d⟩ := H0.out.cell (g_a) (a) (by simp)
  have c6x0l := H0.out.lt (g_a) (a) (by simp)
  have c6x0m := Nat.le_of_lt c6x0l
  go_wp2_with fail
  clear ep0a ep0b ep0c ep0d eg0l eg0m c6x0a c6x0b c6x0c c6x0d c6x0l c6x0m
  refine (eg_of (rcmp_one p c1 _ PL.out Ec1.out) H0.out).mono ?_
  rintro e w1 ⟨rfl, h⟩
  have H1 := hid h
  clear h H0
  obtain ⟨ep1a, ep1b, ep1c, ep1d⟩ := H1.out.gp
  have eg1l := H1.out.gl
  have eg1m := Nat.le_of_lt eg1l
  obtain ⟨c6x1a, c6x1b, c6x1c, c6x1d⟩ := H1.out.cell (g_a) (a) (by simp)
  have c6x1l := H1.out.lt (g_a) (a) (by simp)
  have c6x1m := Nat.le_of_lt c6x1l
  go_wp2
  exact bodyPost_ret (v := .bool false) (by first | (simp [results, Try.results33, go_sem]; done) | (simp [results, Try.results33, go_sem]; omega)) rfl ⟨rfl, by first | exact H1.out.1.1 | (rw [← hzg_p]; exact H1.out.1.1)⟩
set_option maxRecDepth 100000 in
set_option maxHeartbeats 4000000 in
theorem r6may_c (p q g a : Nat) (w : World) (hp : p < 2 ^ 256) (ha : a < 2 ^ 256) (hv : 1 < p ∧ a ≠ 0 ∧ ¬ a < p) : Calls Try.prog 33 #[gv p q g, num a] w fun e w' => e = .returned (.bool false) ∧ Below w.heap.size w w' := by
  obtain ⟨c1, ec1⟩ : ∃ z, cmpN p 1 = z := ⟨_, rfl⟩
  have nc1 : 0 < c1 := by rw [← ec1]; unfold cmpN; split <;> (try split) <;> omega
  have Ec1 := hid ec1
  clear ec1
  have qa : ∀ w, (Op.equalIn 10000 24 (num a) (.agg #[.int .u64 0, .int .u64 0, .int .u64 0, .int .u64 0])).run Try.prog w = .ok false w := by rw [num_zero]; exact eq_no a 0 ha (by decide) hv.2.1
  obtain ⟨c2, ec2⟩ : ∃ z, cmpN a p = z := ⟨_, rfl⟩
  have nc2 : ¬ c2 < 0 := by rw [← ec2]; unfold cmpN; split <;> (try split) <;> omega
  have Ec2 := hid ec2
  clear ec2
  have PL := hid hp
  have AL := hid ha
  clear hp ha
  clear hv
  have H0 := hid ((((Eg.of (Env.refl w) p q g 26)).new a).perm (l' := [(w.heap.size + 1, a)]) (by simp))
  go_enter Try.func33, Try.ntmps33
  go_upto_region 1 with fail
  generalize (w.alloc (.cells (gcs p q g) 26)).alloc (.cells (cls a) 24) = w0 at *
  generalize w.heap.size + 1 = g_a at *
  generalize hzg_p : w.heap.size = g_p at *
  obtain ⟨ep0a, ep0b, ep0c, ep0d⟩ := H0.out.gp
  have eg0l := H0.out.gl
  have eg0m := Nat.le_of_lt eg0l
  obtain ⟨c6x0a, c6x0b, c6x0c, c6x0d⟩ := H0.out.cell (g_a) (a) (by simp)
  have c6x0l := H0.out.lt (g_a) (a) (by simp)
  have c6x0m := Nat.le_of_lt c6x0l
  go_wp2_with fail
  clear ep0a ep0b ep0c ep0d eg0l eg0m c6x0a c6x0b c6x0c c6x0d c6x0l c6x0m
  refine (eg_of (rcmp_one p c1 _ PL.out Ec1.out) H0.out).mono ?_
  rintro e w1 ⟨rfl, h⟩
  have H1 := hid h
  clear h H0
  obtain ⟨ep1a, ep1b, ep1c, ep1d⟩ := H1.out.gp
  have eg1l := H1.out.gl
  have eg1m := Nat.le_of_lt eg1l
  obtain ⟨c6x1a, c6x1b, c6x1c, c6x1d⟩ := H1.out.cell (g_a) (a) (by simp)
  have c6x1l := H1.out.lt (g_a) (a) (by simp)
  have c6x1m := Nat.le_of_lt c6x1l
  go_wp2_with fail
  clear ep1a ep1b ep1c ep1d eg1l eg1m c6x1a c6x1b c6x1c c6x1d c6x1l c6x1m
  refine (eg_of (rcmp_c a p c2 _ AL.out PL.out Ec2.out) H1.out).mono ?_
  rintro e w2 ⟨rfl, h⟩
  have H2 := hid h
  clear h H1
  go_wp2
  exact bodyPost_ret (v := .bool false) (by first | (simp [results, Try.results33, go_sem]; done) | (simp [results, Try.results33, go_sem]; omega)) rfl ⟨rfl, by first | exact H2.out.1.1 | (rw [← hzg_p]; exact H2.out.1.1)⟩
set_option maxRecDepth 100000 in
set_option maxHeartbeats 4000000 in
theorem r6may_d (p q g a : Nat) (w : World) (hp : p < 2 ^ 256) (ha : a < 2 ^ 256) (hv : 1 < p ∧ a ≠ 0 ∧ a < p) : Calls Try.prog 33 #[gv p q g, num a] w fun e w' => e = .returned (.bool true) ∧ Below w.heap.size w w' := by
  obtain ⟨c1, ec1⟩ : ∃ z, cmpN p 1 = z := ⟨_, rfl⟩
  have nc1 : 0 < c1 := by rw [← ec1]; unfold cmpN; split <;> (try split) <;> omega
  have Ec1 := hid ec1
  clear ec1
  have qa : ∀ w, (Op.equalIn 10000 24 (num a) (.agg #[.int .u64 0, .int .u64 0, .int .u64 0, .int .u64 0])).run Try.prog w = .ok false w := by rw [num_zero]; exact eq_no a 0 ha (by decide) hv.2.1
  obtain ⟨c2, ec2⟩ : ∃ z, cmpN a p = z := ⟨_, rfl⟩
  have nc2 : c2 < 0 := by rw [← ec2]; unfold cmpN; split <;> (try split) <;> omega
  have Ec2 := hid ec2
  clear ec2
  have PL := hid hp
  have AL := hid ha
  clear hp ha
  clear hv
  have H0 := hid ((((Eg.of (Env.refl w) p q g 26)).new a).perm (l' := [(w.heap.size + 1, a)]) (by simp))
  go_enter Try.func33, Try.ntmps33
  go_upto_region 1 with fail
  generalize (w.alloc (.cells (gcs p q g) 26)).alloc (.cells (cls a) 24) = w0 at *
  generalize w.heap.size + 1 = g_a at *
  generalize hzg_p : w.heap.size = g_p at *
  obtain ⟨ep0a, ep0b, ep0c, ep0d⟩ := H0.out.gp
  have eg0l := H0.out.gl
  have eg0m := Nat.le_of_lt eg0l
  obtain ⟨c6x0a, c6x0b, c6x0c, c6x0d⟩ := H0.out.cell (g_a) (a) (by simp)
  have c6x0l := H0.out.lt (g_a) (a) (by simp)
  have c6x0m := Nat.le_of_lt c6x0l
  go_wp2_with fail
  clear ep0a ep0b ep0c ep0d eg0l eg0m c6x0a c6x0b c6x0c c6x0d c6x0l c6x0m
  refine (eg_of (rcmp_one p c1 _ PL.out Ec1.out) H0.out).mono ?_
  rintro e w1 ⟨rfl, h⟩
  have H1 := hid h
  clear h H0
  obtain ⟨ep1a, ep1b, ep1c, ep1d⟩ := H1.out.gp
  have eg1l := H1.out.gl
  have eg1m := Nat.le_of_lt eg1l
  obtain ⟨c6x1a, c6x1b, c6x1c, c6x1d⟩ := H1.out.cell (g_a) (a) (by simp)
  have c6x1l := H1.out.lt (g_a) (a) (by simp)
  have c6x1m := Nat.le_of_lt c6x1l
  go_wp2_with fail
  clear ep1a ep1b ep1c ep1d eg1l eg1m c6x1a c6x1b c6x1c c6x1d c6x1l c6x1m
  refine (eg_of (rcmp_c a p c2 _ AL.out PL.out Ec2.out) H1.out).mono ?_
  rintro e w2 ⟨rfl, h⟩
  have H2 := hid h
  clear h H1
  go_wp2
  exact bodyPost_ret (v := .bool true) (by first | (simp [results, Try.results33, go_sem]; done) | (simp [results, Try.results33, go_sem]; omega)) rfl ⟨rfl, by first | exact H2.out.1.1 | (rw [← hzg_p]; exact H2.out.1.1)⟩
theorem r6may_any (p q g a : Nat) (v : Bool) (w : World) (hp : p < 2 ^ 256) (ha : a < 2 ^ 256) (hv : decide (0 < a ∧ a < p) = v) : Calls Try.prog 33 #[gv p q g, num a] w fun e w' => e = .returned (.bool v) ∧ Below w.heap.size w w' := by
  subst hv
  by_cases h1 : 1 < p
  · by_cases h2 : a = 0
    · rw [decide_eq_false (fun h => by omega)]; exact r6may_b p q g a w hp ha ⟨h1, h2⟩
    · by_cases h3 : a < p
      · rw [decide_eq_true (show 0 < a ∧ a < p by omega)]; exact r6may_d p q g a w hp ha ⟨h1, h2, h3⟩
      · rw [decide_eq_false (fun h => h3 h.2)]; exact r6may_c p q g a w hp ha ⟨h1, h2, h3⟩
  · rw [decide_eq_false (fun h => by omega)]; exact r6may_a p q g a w hp ha h1
set_option maxRecDepth 100000 in
set_option maxHeartbeats 4000000 in
theorem r6in_none (p q g a : Nat) (w : World) (hp : p < 2 ^ 256) (hq : q < 2 ^ 256) (ha : a < 2 ^ 256) (hv : ¬ (0 < a ∧ a < p)) : Calls Try.prog 18 #[gv p q g, num a] w fun e w' => e = .returned (.bool false) ∧ Below w.heap.size w w' := by
  have VM := hid (show decide (0 < a ∧ a < p) = false from decide_eq_false hv)
  have PL := hid hp
  have QL := hid hq
  have AL := hid ha
  clear hp hq ha
  clear hv
  have H0 := hid ((((Eg.of (Env.refl w) p q g 26)).new a).perm (l' := [(w.heap.size + 1, a)]) (by simp))
  go_enter Try.func18, Try.ntmps18
  go_upto_region 1 with fail
  generalize (w.alloc (.cells (gcs p q g) 26)).alloc (.cells (cls a) 24) = w0 at *
  generalize w.heap.size + 1 = g_a at *
  generalize hzg_p : w.heap.size = g_p at *
  obtain ⟨ep0a, ep0b, ep0c, ep0d⟩ := H0.out.gp
  obtain ⟨eq0a, eq0b, eq0c, eq0d⟩ := H0.out.gq
  obtain ⟨eg0a, eg0b, eg0c, eg0d⟩ := H0.out.gg
  have eg0l := H0.out.gl
  have eg0m := Nat.le_of_lt eg0l
  obtain ⟨c14x0a, c14x0b, c14x0c, c14x0d⟩ := H0.out.cell (g_a) (a) (by simp)
  have c14x0l := H0.out.lt (g_a) (a) (by simp)
  have c14x0m := Nat.le_of_lt c14x0l
  go_wp2_with fail
  clear ep0a ep0b ep0c ep0d eq0a eq0b eq0c eq0d eg0a eg0b eg0c eg0d eg0l eg0m c14x0a c14x0b c14x0c c14x0d c14x0l c14x0m
  refine (eg_of (r6may_any p q g a false _ PL.out AL.out VM.out) H0.out).mono ?_
  rintro e w1 ⟨rfl, h⟩
  have H1 := hid h
  clear h H0
  go_wp2
  exact bodyPost_ret (v := .bool false) (by first | (simp [results, Try.results18, go_sem]; done) | (simp [results, Try.results18, go_sem]; omega)) rfl ⟨rfl, by first | exact H1.out.1.1 | (rw [← hzg_p]; exact H1.out.1.1)⟩
set_option maxRecDepth 100000 in
set_option maxHeartbeats 4000000 in
theorem r6in_no (p q g a : Nat) (w : World) (hp : p < 2 ^ 256) (hq : q < 2 ^ 256) (ha : a < 2 ^ 256) (hv : (0 < a ∧ a < p) ∧ a ^ q % p ≠ 1) : Calls Try.prog 18 #[gv p q g, num a] w fun e w' => e = .returned (.bool false) ∧ Below w.heap.size w w' := by
  have VM := hid (show decide (0 < a ∧ a < p) = true from decide_eq_true hv.1)
  have V1 := hid (show 1 < p ∧ a < p by omega)
  obtain ⟨x, ex⟩ : ∃ z, a ^ q % p = z := ⟨_, rfl⟩
  have EX := hid ex
  have qx : ∀ w, (Op.equalIn 10000 24 (num x) (.agg #[.int .u64 1, .int .u64 0, .int .u64 0, .int .u64 0])).run Try.prog w = .ok false w := by rw [num_one]; exact eq_no x 1 (by rw [← ex]; exact Nat.lt_trans (Nat.mod_lt _ (by omega)) hp) (by decide) (by rw [← ex]; exact hv.2)
  clear ex
  have PL := hid hp
  have QL := hid hq
  have AL := hid ha
  clear hp hq ha
  clear hv
  have H0 := hid ((((Eg.of (Env.refl w) p q g 26)).new a).perm (l' := [(w.heap.size + 1, a)]) (by simp))
  go_enter Try.func18, Try.ntmps18
  go_upto_region 1 with fail
  generalize (w.alloc (.cells (gcs p q g) 26)).alloc (.cells (cls a) 24) = w0 at *
  generalize w.heap.size + 1 = g_a at *
  generalize hzg_p : w.heap.size = g_p at *
  obtain ⟨ep0a, ep0b, ep0c, ep0d⟩ := H0.out.gp
  obtain ⟨eq0a, eq0b, eq0c, eq0d⟩ := H0.out.gq
  obtain ⟨eg0a, eg0b, eg0c, eg0d⟩ := H0.out.gg
  have eg0l := H0.out.gl
  have eg0m := Nat.le_of_lt eg0l
  obtain ⟨c14x0a, c14x0b, c14x0c, c14x0d⟩ := H0.out.cell (g_a) (a) (by simp)
  have c14x0l := H0.out.lt (g_a) (a) (by simp)
  have c14x0m := Nat.le_of_lt c14x0l
  go_wp2_with fail
  clear ep0a ep0b ep0c ep0d eq0a eq0b eq0c eq0d eg0a eg0b eg0c eg0d eg0l eg0m c14x0a c14x0b c14x0c c14x0d c14x0l c14x0m
  refine (eg_of (r6may_any p q g a true _ PL.out AL.out VM.out) H0.out).mono ?_
  rintro e w1 ⟨rfl, h⟩
  have H1 := hid h
  clear h H0
  obtain ⟨ep1a, ep1b, ep1c, ep1d⟩ := H1.out.gp
  obtain ⟨eq1a, eq1b, eq1c, eq1d⟩ := H1.out.gq
  have eg1l := H1.out.gl
  have eg1m := Nat.le_of_lt eg1l
  obtain ⟨c10x1a, c10x1b, c10x1c, c10x1d⟩ := H1.out.cell (g_a) (a) (by simp)
  have c10x1l := H1.out.lt (g_a) (a) (by simp)
  have c10x1m := Nat.le_of_lt c10x1l
  go_wp2_with fail
  clear ep1a ep1b ep1c ep1d eq1a eq1b eq1c eq1d eg1l eg1m c10x1a c10x1b c10x1c c10x1d c10x1l c10x1m
  refine (eg_of (rmexp_some a q p x _ AL.out QL.out PL.out V1.out EX.out) H1.out).mono ?_
  rintro e w2 ⟨rfl, h⟩
  have H2 := hid h
  clear h H1
  go_upto_region 4 with fail
  have H2b := hid (H2.out.new x)
  clear H2
  generalize w2.alloc (.cells (cls x) 24) = w2b at *
  generalize w2.heap.size = g5 at *
  obtain ⟨c0x2a, c0x2b, c0x2c, c0x2d⟩ := H2b.out.cell (g5) (x) (by simp)
  have c0x2l := H2b.out.lt (g5) (x) (by simp)
  have c0x2m := Nat.le_of_lt c0x2l
  go_wp2
  exact bodyPost_ret (v := .bool false) (by first | (simp [results, Try.results18, go_sem]; done) | (simp [results, Try.results18, go_sem]; omega)) rfl ⟨rfl, by first | exact H2b.out.1.1 | (rw [← hzg_p]; exact H2b.out.1.1)⟩
set_option maxRecDepth 100000 in
set_option maxHeartbeats 4000000 in
theorem r6in_yes (p q g a : Nat) (w : World) (hp : p < 2 ^ 256) (hq : q < 2 ^ 256) (ha : a < 2 ^ 256) (hv : (0 < a ∧ a < p) ∧ a ^ q % p = 1) : Calls Try.prog 18 #[gv p q g, num a] w fun e w' => e = .returned (.bool true) ∧ Below w.heap.size w w' := by
  have VM := hid (show decide (0 < a ∧ a < p) = true from decide_eq_true hv.1)
  have V1 := hid (show 1 < p ∧ a < p by omega)
  obtain ⟨x, ex⟩ : ∃ z, a ^ q % p = z := ⟨_, rfl⟩
  have EX := hid ex
  have qx : ∀ w, (Op.equalIn 10000 24 (num x) (.agg #[.int .u64 1, .int .u64 0, .int .u64 0, .int .u64 0])).run Try.prog w = .ok true w := by rw [num_one]; exact eq_yes x 1 (by rw [← ex]; exact hv.2)
  clear ex
  have PL := hid hp
  have QL := hid hq
  have AL := hid ha
  clear hp hq ha
  clear hv
  have H0 := hid ((((Eg.of (Env.refl w) p q g 26)).new a).perm (l' := [(w.heap.size + 1, a)]) (by simp))
  go_enter Try.func18, Try.ntmps18
  go_upto_region 1 with fail
  generalize (w.alloc (.cells (gcs p q g) 26)).alloc (.cells (cls a) 24) = w0 at *
  generalize w.heap.size + 1 = g_a at *
  generalize hzg_p : w.heap.size = g_p at *
  obtain ⟨ep0a, ep0b, ep0c, ep0d⟩ := H0.out.gp
  obtain ⟨eq0a, eq0b, eq0c, eq0d⟩ := H0.out.gq
  obtain ⟨eg0a, eg0b, eg0c, eg0d⟩ := H0.out.gg
  have eg0l := H0.out.gl
  have eg0m := Nat.le_of_lt eg0l
  obtain ⟨c14x0a, c14x0b, c14x0c, c14x0d⟩ := H0.out.cell (g_a) (a) (by simp)
  have c14x0l := H0.out.lt (g_a) (a) (by simp)
  have c14x0m := Nat.le_of_lt c14x0l
  go_wp2_with fail
  clear ep0a ep0b ep0c ep0d eq0a eq0b eq0c eq0d eg0a eg0b eg0c eg0d eg0l eg0m c14x0a c14x0b c14x0c c14x0d c14x0l c14x0m
  refine (eg_of (r6may_any p q g a true _ PL.out AL.out VM.out) H0.out).mono ?_
  rintro e w1 ⟨rfl, h⟩
  have H1 := hid h
  clear h H0
  obtain ⟨ep1a, ep1b, ep1c, ep1d⟩ := H1.out.gp
  obtain ⟨eq1a, eq1b, eq1c, eq1d⟩ := H1.out.gq
  have eg1l := H1.out.gl
  have eg1m := Nat.le_of_lt eg1l
  obtain ⟨c10x1a, c10x1b, c10x1c, c10x1d⟩ := H1.out.cell (g_a) (a) (by simp)
  have c10x1l := H1.out.lt (g_a) (a) (by simp)
  have c10x1m := Nat.le_of_lt c10x1l
  go_wp2_with fail
  clear ep1a ep1b ep1c ep1d eq1a eq1b eq1c eq1d eg1l eg1m c10x1a c10x1b c10x1c c10x1d c10x1l c10x1m
  refine (eg_of (rmexp_some a q p x _ AL.out QL.out PL.out V1.out EX.out) H1.out).mono ?_
  rintro e w2 ⟨rfl, h⟩
  have H2 := hid h
  clear h H1
  go_upto_region 4 with fail
  have H2b := hid (H2.out.new x)
  clear H2
  generalize w2.alloc (.cells (cls x) 24) = w2b at *
  generalize w2.heap.size = g5 at *
  obtain ⟨c0x2a, c0x2b, c0x2c, c0x2d⟩ := H2b.out.cell (g5) (x) (by simp)
  have c0x2l := H2b.out.lt (g5) (x) (by simp)
  have c0x2m := Nat.le_of_lt c0x2l
  go_wp2
  exact bodyPost_ret (v := .bool true) (by first | (simp [results, Try.results18, go_sem]; done) | (simp [results, Try.results18, go_sem]; omega)) rfl ⟨rfl, by first | exact H2b.out.1.1 | (rw [← hzg_p]; exact H2b.out.1.1)⟩
theorem r6in_any (p q g a : Nat) (v : Bool) (w : World) (hp : p < 2 ^ 256) (hq : q < 2 ^ 256) (ha : a < 2 ^ 256) (hv : decide ((0 < a ∧ a < p) ∧ a ^ q % p = 1) = v) : Calls Try.prog 18 #[gv p q g, num a] w fun e w' => e = .returned (.bool v) ∧ Below w.heap.size w w' := by
  subst hv
  by_cases h1 : 0 < a ∧ a < p
  · by_cases h2 : a ^ q % p = 1
    · rw [decide_eq_true (show (0 < a ∧ a < p) ∧ a ^ q % p = 1 from ⟨h1, h2⟩)]; exact r6in_yes p q g a w hp hq ha ⟨h1, h2⟩
    · rw [decide_eq_false (fun h => h2 h.2)]; exact r6in_no p q g a w hp hq ha ⟨h1, h2⟩
  · rw [decide_eq_false (fun h => h1 h.1)]; exact r6in_none p q g a w hp hq ha h1
set_option maxRecDepth 100000 in
set_option maxHeartbeats 4000000 in
theorem r6fine_p (p q g : Nat) (w : World) (hp : p < 2 ^ 256) (hq : q < 2 ^ 256) (hg : g < 2 ^ 256) (hv : ¬ 1 < p) : Calls Try.prog 16 #[gv p q g] w fun e w' => e = .returned (.bool false) ∧ Below w.heap.size w w' := by
  obtain ⟨c1, ec1⟩ : ∃ z, cmpN p 1 = z := ⟨_, rfl⟩
  have nc1 : ¬ 0 < c1 := by rw [← ec1]; unfold cmpN; split <;> (try split) <;> omega
  have Ec1 := hid ec1
  clear ec1
  have PL := hid hp
  have QL := hid hq
  have GL := hid hg
  clear hp hq hg
  clear hv
  have H0 := hid (((Eg.of (Env.refl w) p q g 26)).perm (l' := []) (by simp))
  go_enter Try.func16, Try.ntmps16
  go_upto_region 1 with fail
  generalize w.alloc (.cells (gcs p q g) 26) = w0 at *
  generalize hzg_p : w.heap.size = g_p at *
  obtain ⟨ep0a, ep0b, ep0c, ep0d⟩ := H0.out.gp
  obtain ⟨eq0a, eq0b, eq0c, eq0d⟩ := H0.out.gq
  obtain ⟨eg0a, eg0b, eg0c, eg0d⟩ := H0.out.gg
  have eg0l := H0.out.gl
  have eg0m := Nat.le_of_lt eg0l
  go_wp2_with fail
  clear ep0a ep0b ep0c ep0d eq0a eq0b eq0c eq0d eg0a eg0b eg0c eg0d eg0l eg0m
  refine (eg_of (rcmp_one p c1 _ PL.out Ec1.out) H0.out).mono ?_
  rintro e w1 ⟨rfl, h⟩
  have H1 := hid h
  clear h H0
  obtain ⟨ep1a, ep1b, ep1c, ep1d⟩ := H1.out.gp
  obtain ⟨eq1a, eq1b, eq1c, eq1d⟩ := H1.out.gq
  obtain ⟨eg1a, eg1b, eg1c, eg1d⟩ := H1.out.gg
  have eg1l := H1.out.gl
  have eg1m := Nat.le_of_lt eg1l
  go_wp2
  exact bodyPost_ret (v := .bool false) (by first | (simp [results, Try.results16, go_sem]; done) | (simp [results, Try.results16, go_sem]; omega)) rfl ⟨rfl, by first | exact H1.out.1.1 | (rw [← hzg_p]; exact H1.out.1.1)⟩
set_option maxRecDepth 100000 in
set_option maxHeartbeats 4000000 in
theorem r6fine_q (p q g : Nat) (w : World) (hp : p < 2 ^ 256) (hq : q < 2 ^ 256) (hg : g < 2 ^ 256) (hv : 1 < p ∧ ¬ 1 < q) : Calls Try.prog 16 #[gv p q g] w fun e w' => e = .returned (.bool false) ∧ Below w.heap.size w w' := by
  obtain ⟨c1, ec1⟩ : ∃ z, cmpN p 1 = z := ⟨_, rfl⟩
  have nc1 : 0 < c1 := by rw [← ec1]; unfold cmpN; split <;> (try split) <;> omega
  have Ec1 := hid ec1
  clear ec1
  obtain ⟨c2, ec2⟩ : ∃ z, cmpN q 1 = z := ⟨_, rfl⟩
  have nc2 : ¬ 0 < c2 := by rw [← ec2]; unfold cmpN; split <;> (try split) <;> omega
  have Ec2 := hid ec2
  clear ec2
  have PL := hid hp
  have QL := hid hq
  have GL := hid hg
  clear hp hq hg
  clear hv
  have H0 := hid (((Eg.of (Env.refl w) p q g 26)).perm (l' := []) (by simp))
  go_enter Try.func16, Try.ntmps16
  go_upto_region 1 with fail
  generalize w.alloc (.cells (gcs p q g) 26) = w0 at *
  generalize hzg_p : w.heap.size = g_p at *
  obtain ⟨ep0a, ep0b, ep0c, ep0d⟩ := H0.out.gp
  obtain ⟨eq0a, eq0b, eq0c, eq0d⟩ := H0.out.gq
  obtain ⟨eg0a, eg0b, eg0c, eg0d⟩ := H0.out.gg
  have eg0l := H0.out.gl
  have eg0m := Nat.le_of_lt eg0l
  go_wp2_with fail
  clear ep0a ep0b ep0c ep0d eq0a eq0b eq0c eq0d eg0a eg0b eg0c eg0d eg0l eg0m
  refine (eg_of (rcmp_one p c1 _ PL.out Ec1.out) H0.out).mono ?_
  rintro e w1 ⟨rfl, h⟩
  have H1 := hid h
  clear h H0
  obtain ⟨ep1a, ep1b, ep1c, ep1d⟩ := H1.out.gp
  obtain ⟨eq1a, eq1b, eq1c, eq1d⟩ := H1.out.gq
  obtain ⟨eg1a, eg1b, eg1c, eg1d⟩ := H1.out.gg
  have eg1l := H1.out.gl
  have eg1m := Nat.le_of_lt eg1l
  go_wp2_with fail
  clear ep1a ep1b ep1c ep1d eq1a eq1b eq1c eq1d eg1a eg1b eg1c eg1d eg1l eg1m
  refine (eg_of (rcmp_one q c2 _ QL.out Ec2.out) H1.out).mono ?_
  rintro e w2 ⟨rfl, h⟩
  have H2 := hid h
  clear h H1
  obtain ⟨ep2a, ep2b, ep2c, ep2d⟩ := H2.out.gp
  obtain ⟨eq2a, eq2b, eq2c, eq2d⟩ := H2.out.gq
  obtain ⟨eg2a, eg2b, eg2c, eg2d⟩ := H2.out.gg
  have eg2l := H2.out.gl
  have eg2m := Nat.le_of_lt eg2l
  go_wp2
  exact bodyPost_ret (v := .bool false) (by first | (simp [results, Try.results16, go_sem]; done) | (simp [results, Try.results16, go_sem]; omega)) rfl ⟨rfl, by first | exact H2.out.1.1 | (rw [← hzg_p]; exact H2.out.1.1)⟩
set_option maxRecDepth 100000 in
set_option maxHeartbeats 4000000 in
theorem r6fine_n (p q g : Nat) (w : World) (hp : p < 2 ^ 256) (hq : q < 2 ^ 256) (hg : g < 2 ^ 256) (hv : 1 < p ∧ 1 < q ∧ ¬ ((0 < g ∧ g < p) ∧ g ^ q % p = 1)) : Calls Try.prog 16 #[gv p q g] w fun e w' => e = .returned (.bool false) ∧ Below w.heap.size w w' := by
  obtain ⟨c1, ec1⟩ : ∃ z, cmpN p 1 = z := ⟨_, rfl⟩
  have nc1 : 0 < c1 := by rw [← ec1]; unfold cmpN; split <;> (try split) <;> omega
  have Ec1 := hid ec1
  clear ec1
  obtain ⟨c2, ec2⟩ : ∃ z, cmpN q 1 = z := ⟨_, rfl⟩
  have nc2 : 0 < c2 := by rw [← ec2]; unfold cmpN; split <;> (try split) <;> omega
  have Ec2 := hid ec2
  clear ec2
  have VI := hid (show decide ((0 < g ∧ g < p) ∧ g ^ q % p = 1) = false from decide_eq_false hv.2.2)
  have PL := hid hp
  have QL := hid hq
  have GL := hid hg
  clear hp hq hg
  clear hv
  have H0 := hid (((Eg.of (Env.refl w) p q g 26)).perm (l' := []) (by simp))
  go_enter Try.func16, Try.ntmps16
  go_upto_region 1 with fail
  generalize w.alloc (.cells (gcs p q g) 26) = w0 at *
  generalize hzg_p : w.heap.size = g_p at *
  obtain ⟨ep0a, ep0b, ep0c, ep0d⟩ := H0.out.gp
  obtain ⟨eq0a, eq0b, eq0c, eq0d⟩ := H0.out.gq
  obtain ⟨eg0a, eg0b, eg0c, eg0d⟩ := H0.out.gg
  have eg0l := H0.out.gl
  have eg0m := Nat.le_of_lt eg0l
  go_wp2_with fail
  clear ep0a ep0b ep0c ep0d eq0a eq0b eq0c eq0d eg0a eg0b eg0c eg0d eg0l eg0m
  refine (eg_of (rcmp_one p c1 _ PL.out Ec1.out) H0.out).mono ?_
  rintro e w1 ⟨rfl, h⟩
  have H1 := hid h
  clear h H0
  obtain ⟨ep1a, ep1b, ep1c, ep1d⟩ := H1.out.gp
  obtain ⟨eq1a, eq1b, eq1c, eq1d⟩ := H1.out.gq
  obtain ⟨eg1a, eg1b, eg1c, eg1d⟩ := H1.out.gg
  have eg1l := H1.out.gl
  have eg1m := Nat.le_of_lt eg1l
  go_wp2_with fail
  clear ep1a ep1b ep1c ep1d eq1a eq1b eq1c eq1d eg1a eg1b eg1c eg1d eg1l eg1m
  refine (eg_of (rcmp_one q c2 _ QL.out Ec2.out) H1.out).mono ?_
  rintro e w2 ⟨rfl, h⟩
  have H2 := hid h
  clear h H1
  obtain ⟨ep2a, ep2b, ep2c, ep2d⟩ := H2.out.gp
  obtain ⟨eq2a, eq2b, eq2c, eq2d⟩ := H2.out.gq
  obtain ⟨eg2a, eg2b, eg2c, eg2d⟩ := H2.out.gg
  have eg2l := H2.out.gl
  have eg2m := Nat.le_of_lt eg2l
  go_wp2_with fail
  clear ep2a ep2b ep2c ep2d eq2a eq2b eq2c eq2d eg2a eg2b eg2c eg2d eg2l eg2m
  refine (eg_of (r6in_any p q g g false _ PL.out QL.out GL.out VI.out) H2.out).mono ?_
  rintro e w3 ⟨rfl, h⟩
  have H3 := hid h
  clear h H2
  obtain ⟨ep3a, ep3b, ep3c, ep3d⟩ := H3.out.gp
  obtain ⟨eq3a, eq3b, eq3c, eq3d⟩ := H3.out.gq
  obtain ⟨eg3a, eg3b, eg3c, eg3d⟩ := H3.out.gg
  have eg3l := H3.out.gl
  have eg3m := Nat.le_of_lt eg3l
  go_wp2
  exact bodyPost_ret (v := .bool false) (by first | (simp [results, Try.results16, go_sem]; done) | (simp [results, Try.results16, go_sem]; omega)) rfl ⟨rfl, by first | exact H3.out.1.1 | (rw [← hzg_p]; exact H3.out.1.1)⟩
set_option maxRecDepth 100000 in
set_option maxHeartbeats 4000000 in
theorem r6fine_o (p q g : Nat) (w : World) (hp : p < 2 ^ 256) (hq : q < 2 ^ 256) (hg : g < 2 ^ 256) (hv : 1 < p ∧ 1 < q ∧ ((0 < g ∧ g < p) ∧ g ^ q % p = 1) ∧ g = 1) : Calls Try.prog 16 #[gv p q g] w fun e w' => e = .returned (.bool false) ∧ Below w.heap.size w w' := by
  obtain ⟨c1, ec1⟩ : ∃ z, cmpN p 1 = z := ⟨_, rfl⟩
  have nc1 : 0 < c1 := by rw [← ec1]; unfold cmpN; split <;> (try split) <;> omega
  have Ec1 := hid ec1
  clear ec1
  obtain ⟨c2, ec2⟩ : ∃ z, cmpN q 1 = z := ⟨_, rfl⟩
  have nc2 : 0 < c2 := by rw [← ec2]; unfold cmpN; split <;> (try split) <;> omega
  have Ec2 := hid ec2
  clear ec2
  have VI := hid (show decide ((0 < g ∧ g < p) ∧ g ^ q % p = 1) = true from decide_eq_true hv.2.2.1)
  have qg : ∀ w, (Op.equalIn 10000 24 (num g) (.agg #[.int .u64 1, .int .u64 0, .int .u64 0, .int .u64 0])).run Try.prog w = .ok true w := by rw [num_one]; exact eq_yes g 1 hv.2.2.2
  have PL := hid hp
  have QL := hid hq
  have GL := hid hg
  clear hp hq hg
  clear hv
  have H0 := hid (((Eg.of (Env.refl w) p q g 26)).perm (l' := []) (by simp))
  go_enter Try.func16, Try.ntmps16
  go_upto_region 1 with fail
  generalize w.alloc (.cells (gcs p q g) 26) = w0 at *
  generalize hzg_p : w.heap.size = g_p at *
  obtain ⟨ep0a, ep0b, ep0c, ep0d⟩ := H0.out.gp
  obtain ⟨eq0a, eq0b, eq0c, eq0d⟩ := H0.out.gq
  obtain ⟨eg0a, eg0b, eg0c, eg0d⟩ := H0.out.gg
  have eg0l := H0.out.gl
  have eg0m := Nat.le_of_lt eg0l
  go_wp2_with fail
  clear ep0a ep0b ep0c ep0d eq0a eq0b eq0c eq0d eg0a eg0b eg0c eg0d eg0l eg0m
  refine (eg_of (rcmp_one p c1 _ PL.out Ec1.out) H0.out).mono ?_
  rintro e w1 ⟨rfl, h⟩
  have H1 := hid h
  clear h H0
  obtain ⟨ep1a, ep1b, ep1c, ep1d⟩ := H1.out.gp
  obtain ⟨eq1a, eq1b, eq1c, eq1d⟩ := H1.out.gq
  obtain ⟨eg1a, eg1b, eg1c, eg1d⟩ := H1.out.gg
  have eg1l := H1.out.gl
  have eg1m := Nat.le_of_lt eg1l
  go_wp2_with fail
  clear ep1a ep1b ep1c ep1d eq1a eq1b eq1c eq1d eg1a eg1b eg1c eg1d eg1l eg1m
  refine (eg_of (rcmp_one q c2 _ QL.out Ec2.out) H1.out).mono ?_
  rintro e w2 ⟨rfl, h⟩
  have H2 := hid h
  clear h H1
  obtain ⟨ep2a, ep2b, ep2c, ep2d⟩ := H2.out.gp
  obtain ⟨eq2a, eq2b, eq2c, eq2d⟩ := H2.out.gq
  obtain ⟨eg2a, eg2b, eg2c, eg2d⟩ := H2.out.gg
  have eg2l := H2.out.gl
  have eg2m := Nat.le_of_lt eg2l
  go_wp2_with fail
  clear ep2a ep2b ep2c ep2d eq2a eq2b eq2c eq2d eg2a eg2b eg2c eg2d eg2l eg2m
  refine (eg_of (r6in_any p q g g true _ PL.out QL.out GL.out VI.out) H2.out).mono ?_
  rintro e w3 ⟨rfl, h⟩
  have H3 := hid h
  clear h H2
  obtain ⟨ep3a, ep3b, ep3c, ep3d⟩ := H3.out.gp
  obtain ⟨eq3a, eq3b, eq3c, eq3d⟩ := H3.out.gq
  obtain ⟨eg3a, eg3b, eg3c, eg3d⟩ := H3.out.gg
  have eg3l := H3.out.gl
  have eg3m := Nat.le_of_lt eg3l
  go_wp2
  exact bodyPost_ret (v := .bool false) (by first | (simp [results, Try.results16, go_sem]; done) | (simp [results, Try.results16, go_sem]; omega)) rfl ⟨rfl, by first | exact H3.out.1.1 | (rw [← hzg_p]; exact H3.out.1.1)⟩
set_option maxRecDepth 100000 in
set_option maxHeartbeats 4000000 in
theorem r6fine_t (p q g : Nat) (w : World) (hp : p < 2 ^ 256) (hq : q < 2 ^ 256) (hg : g < 2 ^ 256) (hv : 1 < p ∧ 1 < q ∧ ((0 < g ∧ g < p) ∧ g ^ q % p = 1) ∧ g ≠ 1) : Calls Try.prog 16 #[gv p q g] w fun e w' => e = .returned (.bool true) ∧ Below w.heap.size w w' := by
  obtain ⟨c1, ec1⟩ : ∃ z, cmpN p 1 = z := ⟨_, rfl⟩
  have nc1 : 0 < c1 := by rw [← ec1]; unfold cmpN; split <;> (try split) <;> omega
  have Ec1 := hid ec1
  clear ec1
  obtain ⟨c2, ec2⟩ : ∃ z, cmpN q 1 = z := ⟨_, rfl⟩
  have nc2 : 0 < c2 := by rw [← ec2]; unfold cmpN; split <;> (try split) <;> omega
  have Ec2 := hid ec2
  clear ec2
  have VI := hid (show decide ((0 < g ∧ g < p) ∧ g ^ q % p = 1) = true from decide_eq_true hv.2.2.1)
  have qg : ∀ w, (Op.equalIn 10000 24 (num g) (.agg #[.int .u64 1, .int .u64 0, .int .u64 0, .int .u64 0])).run Try.prog w = .ok false w := by rw [num_one]; exact eq_no g 1 hg (by decide) hv.2.2.2
  have PL := hid hp
  have QL := hid hq
  have GL := hid hg
  clear hp hq hg
  clear hv
  have H0 := hid (((Eg.of (Env.refl w) p q g 26)).perm (l' := []) (by simp))
  go_enter Try.func16, Try.ntmps16
  go_upto_region 1 with fail
  generalize w.alloc (.cells (gcs p q g) 26) = w0 at *
  generalize hzg_p : w.heap.size = g_p at *
  obtain ⟨ep0a, ep0b, ep0c, ep0d⟩ := H0.out.gp
  obtain ⟨eq0a, eq0b, eq0c, eq0d⟩ := H0.out.gq
  obtain ⟨eg0a, eg0b, eg0c, eg0d⟩ := H0.out.gg
  have eg0l := H0.out.gl
  have eg0m := Nat.le_of_lt eg0l
  go_wp2_with fail
  clear ep0a ep0b ep0c ep0d eq0a eq0b eq0c eq0d eg0a eg0b eg0c eg0d eg0l eg0m
  refine (eg_of (rcmp_one p c1 _ PL.out Ec1.out) H0.out).mono ?_
  rintro e w1 ⟨rfl, h⟩
  have H1 := hid h
  clear h H0
  obtain ⟨ep1a, ep1b, ep1c, ep1d⟩ := H1.out.gp
  obtain ⟨eq1a, eq1b, eq1c, eq1d⟩ := H1.out.gq
  obtain ⟨eg1a, eg1b, eg1c, eg1d⟩ := H1.out.gg
  have eg1l := H1.out.gl
  have eg1m := Nat.le_of_lt eg1l
  go_wp2_with fail
  clear ep1a ep1b ep1c ep1d eq1a eq1b eq1c eq1d eg1a eg1b eg1c eg1d eg1l eg1m
  refine (eg_of (rcmp_one q c2 _ QL.out Ec2.out) H1.out).mono ?_
  rintro e w2 ⟨rfl, h⟩
  have H2 := hid h
  clear h H1
  obtain ⟨ep2a, ep2b, ep2c, ep2d⟩ := H2.out.gp
  obtain ⟨eq2a, eq2b, eq2c, eq2d⟩ := H2.out.gq
  obtain ⟨eg2a, eg2b, eg2c, eg2d⟩ := H2.out.gg
  have eg2l := H2.out.gl
  have eg2m := Nat.le_of_lt eg2l
  go_wp2_with fail
  clear ep2a ep2b ep2c ep2d eq2a eq2b eq2c eq2d eg2a eg2b eg2c eg2d eg2l eg2m
  refine (eg_of (r6in_any p q g g true _ PL.out QL.out GL.out VI.out) H2.out).mono ?_
  rintro e w3 ⟨rfl, h⟩
  have H3 := hid h
  clear h H2
  obtain ⟨ep3a, ep3b, ep3c, ep3d⟩ := H3.out.gp
  obtain ⟨eq3a, eq3b, eq3c, eq3d⟩ := H3.out.gq
  obtain ⟨eg3a, eg3b, eg3c, eg3d⟩ := H3.out.gg
  have eg3l := H3.out.gl
  have eg3m := Nat.le_of_lt eg3l
  go_wp2
  exact bodyPost_ret (v := .bool true) (by first | (simp [results, Try.results16, go_sem]; done) | (simp [results, Try.results16, go_sem]; omega)) rfl ⟨rfl, by first | exact H3.out.1.1 | (rw [← hzg_p]; exact H3.out.1.1)⟩
theorem r6fine_any (p q g : Nat) (v : Bool) (w : World) (hp : p < 2 ^ 256) (hq : q < 2 ^ 256) (hg : g < 2 ^ 256) (hv : decide (1 < q ∧ g ≠ 1 ∧ (0 < g ∧ g < p) ∧ g ^ q % p = 1) = v) : Calls Try.prog 16 #[gv p q g] w fun e w' => e = .returned (.bool v) ∧ Below w.heap.size w w' := by
  subst hv
  by_cases h1 : 1 < p
  · by_cases h2 : 1 < q
    · by_cases h3 : (0 < g ∧ g < p) ∧ g ^ q % p = 1
      · by_cases h4 : g = 1
        · rw [decide_eq_false (fun h => h.2.1 h4)]; exact r6fine_o p q g w hp hq hg ⟨h1, h2, h3, h4⟩
        · rw [decide_eq_true (show 1 < q ∧ g ≠ 1 ∧ (0 < g ∧ g < p) ∧ g ^ q % p = 1 from ⟨h2, h4, h3⟩)]; exact r6fine_t p q g w hp hq hg ⟨h1, h2, h3, h4⟩
      · rw [decide_eq_false (fun h => h3 h.2.2)]; exact r6fine_n p q g w hp hq hg ⟨h1, h2, h3⟩
    · rw [decide_eq_false (fun h => h2 h.1)]; exact r6fine_q p q g w hp hq hg ⟨h1, h2⟩
  · rw [decide_eq_false (fun h => by omega)]; exact r6fine_p p q g w hp hq hg h1
end Go.Proofs.Ytaggegknnnembaa
namespace Go.Proofs.Ytaggegknnnembaa
open Go.RowKit
set_option linter.unusedVariables false

set_option maxRecDepth 100000 in
set_option maxHeartbeats 4000000 in
theorem r6mul_noa (p q g a b : Nat) (w : World) (hp : p < 2 ^ 256) (ha : a < 2 ^ 256) (hb : b < 2 ^ 256) (va : ¬ (0 < a ∧ a < p)) : Calls Try.prog 10 #[gv p q g, num a, num b] w fun e w' => e = .returned (.tuple #[num 0, .int .i64 1]) ∧ Below w.heap.size w w' := by
  have VA := hid (show decide (0 < a ∧ a < p) = false from decide_eq_false va)
  have PL := hid hp
  have AL := hid ha
  have BL := hid hb
  clear hp ha hb
  clear va
  have H0 := hid ((((((Eg.of (Env.refl w) p q g 26)).new a).new b).zero).perm (l' := [(w.heap.size + 1 + 1 + 1, 0), (w.heap.size + 1 + 1, b), (w.heap.size + 1, a)]) (by simp))
  have DZ := hid (show w.heap.size ≤ w.heap.size + 1 + 1 + 1 ∧ w.heap.size ≠ w.heap.size + 1 + 1 + 1 by omega)
  go_enter Try.func10, Try.ntmps10
  go_upto_region 1 with fail
  generalize (((w.alloc (.cells (gcs p q g) 26)).alloc (.cells (cls a) 24)).alloc (.cells (cls b) 24)).alloc (.cells #[.int .u64 0, .int .u64 0, .int .u64 0, .int .u64 0] 24) = w0 at *
  generalize w.heap.size + 1 + 1 + 1 = g_z at *
  generalize w.heap.size + 1 + 1 = g_b at *
  generalize w.heap.size + 1 = g_a at *
  generalize hzg_p : w.heap.size = g_p at *
  obtain ⟨ep0a, ep0b, ep0c, ep0d⟩ := H0.out.gp
  obtain ⟨eq0a, eq0b, eq0c, eq0d⟩ := H0.out.gq
  obtain ⟨eg0a, eg0b, eg0c, eg0d⟩ := H0.out.gg
  have eg0l := H0.out.gl
  have eg0m := Nat.le_of_lt eg0l
  obtain ⟨c14x0a, c14x0b, c14x0c, c14x0d⟩ := H0.out.cell (g_a) (a) (by simp)
  have c14x0l := H0.out.lt (g_a) (a) (by simp)
  have c14x0m := Nat.le_of_lt c14x0l
  obtain ⟨c20x0a, c20x0b, c20x0c, c20x0d⟩ := H0.out.cell (g_b) (b) (by simp)
  have c20x0l := H0.out.lt (g_b) (b) (by simp)
  have c20x0m := Nat.le_of_lt c20x0l
  go_wp2_with fail
  clear ep0a ep0b ep0c ep0d eq0a eq0b eq0c eq0d eg0a eg0b eg0c eg0d eg0l eg0m c14x0a c14x0b c14x0c c14x0d c14x0l c14x0m c20x0a c20x0b c20x0c c20x0d c20x0l c20x0m
  refine (eg_of (r6may_any p q g a false _ PL.out AL.out VA.out) H0.out).mono ?_
  rintro e w1 ⟨rfl, h⟩
  have H1 := hid h
  clear h H0
  obtain ⟨z0, z1, z2, z3⟩ := H1.out.cell g_z 0 (by simp)
  have zl := H1.out.lt g_z 0 (by simp)
  have zf := H1.out.frozen g_z 0 (by simp)
  have HZ := hid (H1.out.1.set g_z 0 (0) [] (by simp) (by rw [hzg_p]; exact DZ.out.1) (by simp))
  go_wp2
  clear z0 z1 z2 z3 zl zf
  try rw [Exit.noGoto_ret]
  change bodyPost _ _ _ _ _ (fil w1 g_z (0))
  generalize fil w1 g_z (0) = wz at *
  obtain ⟨k0, k1, k2, k3⟩ := HZ.out.cell g_z (0) (by simp)
  exact bodyPost_ret (v := .tuple #[num (0), .int .i64 1]) (by simp [results, Try.results10, go_sem, k0, k1, k2, k3]) rfl ⟨rfl, HZ.out.1⟩
set_option maxRecDepth 100000 in
set_option maxHeartbeats 4000000 in
theorem r6mul_nob (p q g a b : Nat) (w : World) (hp : p < 2 ^ 256) (ha : a < 2 ^ 256) (hb : b < 2 ^ 256) (va : 0 < a ∧ a < p) (vb : ¬ (0 < b ∧ b < p)) : Calls Try.prog 10 #[gv p q g, num a, num b] w fun e w' => e = .returned (.tuple #[num 0, .int .i64 1]) ∧ Below w.heap.size w w' := by
  have VA := hid (show decide (0 < a ∧ a < p) = true from decide_eq_true va)
  have VB := hid (show decide (0 < b ∧ b < p) = false from decide_eq_false vb)
  have PL := hid hp
  have AL := hid ha
  have BL := hid hb
  clear hp ha hb
  clear va vb
  have H0 := hid ((((((Eg.of (Env.refl w) p q g 26)).new a).new b).zero).perm (l' := [(w.heap.size + 1 + 1 + 1, 0), (w.heap.size + 1 + 1, b), (w.heap.size + 1, a)]) (by simp))
  have DZ := hid (show w.heap.size ≤ w.heap.size + 1 + 1 + 1 ∧ w.heap.size ≠ w.heap.size + 1 + 1 + 1 by omega)
  go_enter Try.func10, Try.ntmps10
  go_upto_region 1 with fail
  generalize (((w.alloc (.cells (gcs p q g) 26)).alloc (.cells (cls a) 24)).alloc (.cells (cls b) 24)).alloc (.cells #[.int .u64 0, .int .u64 0, .int .u64 0, .int .u64 0] 24) = w0 at *
  generalize w.heap.size + 1 + 1 + 1 = g_z at *
  generalize w.heap.size + 1 + 1 = g_b at *
  generalize w.heap.size + 1 = g_a at *
  generalize hzg_p : w.heap.size = g_p at *
  obtain ⟨ep0a, ep0b, ep0c, ep0d⟩ := H0.out.gp
  obtain ⟨eq0a, eq0b, eq0c, eq0d⟩ := H0.out.gq
  obtain ⟨eg0a, eg0b, eg0c, eg0d⟩ := H0.out.gg
  have eg0l := H0.out.gl
  have eg0m := Nat.le_of_lt eg0l
  obtain ⟨c14x0a, c14x0b, c14x0c, c14x0d⟩ := H0.out.cell (g_a) (a) (by simp)
  have c14x0l := H0.out.lt (g_a) (a) (by simp)
  have c14x0m := Nat.le_of_lt c14x0l
  obtain ⟨c20x0a, c20x0b, c20x0c, c20x0d⟩ := H0.out.cell (g_b) (b) (by simp)
  have c20x0l := H0.out.lt (g_b) (b) (by simp)
  have c20x0m := Nat.le_of_lt c20x0l
  go_wp2_with fail
  clear ep0a ep0b ep0c ep0d eq0a eq0b eq0c eq0d eg0a eg0b eg0c eg0d eg0l eg0m c14x0a c14x0b c14x0c c14x0d c14x0l c14x0m c20x0a c20x0b c20x0c c20x0d c20x0l c20x0m
  refine (eg_of (r6may_any p q g a true _ PL.out AL.out VA.out) H0.out).mono ?_
  rintro e w1 ⟨rfl, h⟩
  have H1 := hid h
  clear h H0
  obtain ⟨ep1a, ep1b, ep1c, ep1d⟩ := H1.out.gp
  obtain ⟨eq1a, eq1b, eq1c, eq1d⟩ := H1.out.gq
  obtain ⟨eg1a, eg1b, eg1c, eg1d⟩ := H1.out.gg
  have eg1l := H1.out.gl
  have eg1m := Nat.le_of_lt eg1l
  obtain ⟨c14x1a, c14x1b, c14x1c, c14x1d⟩ := H1.out.cell (g_a) (a) (by simp)
  have c14x1l := H1.out.lt (g_a) (a) (by simp)
  have c14x1m := Nat.le_of_lt c14x1l
  obtain ⟨c20x1a, c20x1b, c20x1c, c20x1d⟩ := H1.out.cell (g_b) (b) (by simp)
  have c20x1l := H1.out.lt (g_b) (b) (by simp)
  have c20x1m := Nat.le_of_lt c20x1l
  go_wp2_with fail
  clear ep1a ep1b ep1c ep1d eq1a eq1b eq1c eq1d eg1a eg1b eg1c eg1d eg1l eg1m c14x1a c14x1b c14x1c c14x1d c14x1l c14x1m c20x1a c20x1b c20x1c c20x1d c20x1l c20x1m
  refine (eg_of (r6may_any p q g b false _ PL.out BL.out VB.out) H1.out).mono ?_
  rintro e w2 ⟨rfl, h⟩
  have H2 := hid h
  clear h H1
  obtain ⟨z0, z1, z2, z3⟩ := H2.out.cell g_z 0 (by simp)
  have zl := H2.out.lt g_z 0 (by simp)
  have zf := H2.out.frozen g_z 0 (by simp)
  have HZ := hid (H2.out.1.set g_z 0 (0) [] (by simp) (by rw [hzg_p]; exact DZ.out.1) (by simp))
  go_wp2
  clear z0 z1 z2 z3 zl zf
  try rw [Exit.noGoto_ret]
  change bodyPost _ _ _ _ _ (fil w2 g_z (0))
  generalize fil w2 g_z (0) = wz at *
  obtain ⟨k0, k1, k2, k3⟩ := HZ.out.cell g_z (0) (by simp)
  exact bodyPost_ret (v := .tuple #[num (0), .int .i64 1]) (by simp [results, Try.results10, go_sem, k0, k1, k2, k3]) rfl ⟨rfl, HZ.out.1⟩
set_option maxRecDepth 100000 in
set_option maxHeartbeats 4000000 in
theorem r6mul_ok (p q g a b r : Nat) (e0 : Int) (w : World) (hp : p < 2 ^ 256) (ha : a < 2 ^ 256) (hb : b < 2 ^ 256) (va : 0 < a ∧ a < p) (vb : 0 < b ∧ b < p) (hD : ∀ w, Calls Try.prog 29 #[num a, num b, num p] w fun x w' => x = .returned (.tuple #[num r, .int .i64 e0]) ∧ Below w.heap.size w w') : Calls Try.prog 10 #[gv p q g, num a, num b] w fun e w' => e = .returned (.tuple #[num r, .int .i64 e0]) ∧ Below w.heap.size w w' := by
  have VA := hid (show decide (0 < a ∧ a < p) = true from decide_eq_true va)
  have VB := hid (show decide (0 < b ∧ b < p) = true from decide_eq_true vb)
  have HD := hid hD
  clear hD
  have PL := hid hp
  have AL := hid ha
  have BL := hid hb
  clear hp ha hb
  clear va vb
  have H0 := hid ((((((Eg.of (Env.refl w) p q g 26)).new a).new b).zero).perm (l' := [(w.heap.size + 1 + 1 + 1, 0), (w.heap.size + 1 + 1, b), (w.heap.size + 1, a)]) (by simp))
  have DZ := hid (show w.heap.size ≤ w.heap.size + 1 + 1 + 1 ∧ w.heap.size ≠ w.heap.size + 1 + 1 + 1 by omega)
  go_enter Try.func10, Try.ntmps10
  go_upto_region 1 with fail
  generalize (((w.alloc (.cells (gcs p q g) 26)).alloc (.cells (cls a) 24)).alloc (.cells (cls b) 24)).alloc (.cells #[.int .u64 0, .int .u64 0, .int .u64 0, .int .u64 0] 24) = w0 at *
  generalize w.heap.size + 1 + 1 + 1 = g_z at *
  generalize w.heap.size + 1 + 1 = g_b at *
  generalize w.heap.size + 1 = g_a at *
  generalize hzg_p : w.heap.size = g_p at *
  obtain ⟨ep0a, ep0b, ep0c, ep0d⟩ := H0.out.gp
  obtain ⟨eq0a, eq0b, eq0c, eq0d⟩ := H0.out.gq
  obtain ⟨eg0a, eg0b, eg0c, eg0d⟩ := H0.out.gg
  have eg0l := H0.out.gl
  have eg0m := Nat.le_of_lt eg0l
  obtain ⟨c14x0a, c14x0b, c14x0c, c14x0d⟩ := H0.out.cell (g_a) (a) (by simp)
  have c14x0l := H0.out.lt (g_a) (a) (by simp)
  have c14x0m := Nat.le_of_lt c14x0l
  obtain ⟨c20x0a, c20x0b, c20x0c, c20x0d⟩ := H0.out.cell (g_b) (b) (by simp)
  have c20x0l := H0.out.lt (g_b) (b) (by simp)
  have c20x0m := Nat.le_of_lt c20x0l
  go_wp2_with fail
  clear ep0a ep0b ep0c ep0d eq0a eq0b eq0c eq0d eg0a eg0b eg0c eg0d eg0l eg0m c14x0a c14x0b c14x0c c14x0d c14x0l c14x0m c20x0a c20x0b c20x0c c20x0d c20x0l c20x0m
  refine (eg_of (r6may_any p q g a true _ PL.out AL.out VA.out) H0.out).mono ?_
  rintro e w1 ⟨rfl, h⟩
  have H1 := hid h
  clear h H0
  obtain ⟨ep1a, ep1b, ep1c, ep1d⟩ := H1.out.gp
  obtain ⟨eq1a, eq1b, eq1c, eq1d⟩ := H1.out.gq
  obtain ⟨eg1a, eg1b, eg1c, eg1d⟩ := H1.out.gg
  have eg1l := H1.out.gl
  have eg1m := Nat.le_of_lt eg1l
  obtain ⟨c14x1a, c14x1b, c14x1c, c14x1d⟩ := H1.out.cell (g_a) (a) (by simp)
  have c14x1l := H1.out.lt (g_a) (a) (by simp)
  have c14x1m := Nat.le_of_lt c14x1l
  obtain ⟨c20x1a, c20x1b, c20x1c, c20x1d⟩ := H1.out.cell (g_b) (b) (by simp)
  have c20x1l := H1.out.lt (g_b) (b) (by simp)
  have c20x1m := Nat.le_of_lt c20x1l
  go_wp2_with fail
  clear ep1a ep1b ep1c ep1d eq1a eq1b eq1c eq1d eg1a eg1b eg1c eg1d eg1l eg1m c14x1a c14x1b c14x1c c14x1d c14x1l c14x1m c20x1a c20x1b c20x1c c20x1d c20x1l c20x1m
  refine (eg_of (r6may_any p q g b true _ PL.out BL.out VB.out) H1.out).mono ?_
  rintro e w2 ⟨rfl, h⟩
  have H2 := hid h
  clear h H1
  obtain ⟨ep2a, ep2b, ep2c, ep2d⟩ := H2.out.gp
  have eg2l := H2.out.gl
  have eg2m := Nat.le_of_lt eg2l
  obtain ⟨c6x2a, c6x2b, c6x2c, c6x2d⟩ := H2.out.cell (g_a) (a) (by simp)
  have c6x2l := H2.out.lt (g_a) (a) (by simp)
  have c6x2m := Nat.le_of_lt c6x2l
  obtain ⟨c12x2a, c12x2b, c12x2c, c12x2d⟩ := H2.out.cell (g_b) (b) (by simp)
  have c12x2l := H2.out.lt (g_b) (b) (by simp)
  have c12x2m := Nat.le_of_lt c12x2l
  go_wp2_with fail
  clear ep2a ep2b ep2c ep2d eg2l eg2m c6x2a c6x2b c6x2c c6x2d c6x2l c6x2m c12x2a c12x2b c12x2c c12x2d c12x2l c12x2m
  refine (eg_of (HD.out _) H2.out).mono ?_
  rintro e w3 ⟨rfl, h⟩
  have H3 := hid h
  clear h H2
  obtain ⟨z0, z1, z2, z3⟩ := H3.out.cell g_z 0 (by simp)
  have zl := H3.out.lt g_z 0 (by simp)
  have zf := H3.out.frozen g_z 0 (by simp)
  have HZ := hid (H3.out.1.set g_z 0 (r) [] (by simp) (by rw [hzg_p]; exact DZ.out.1) (by simp))
  go_wp2
  clear z0 z1 z2 z3 zl zf
  try rw [Exit.noGoto_ret]
  change bodyPost _ _ _ _ _ (fil w3 g_z (r))
  generalize fil w3 g_z (r) = wz at *
  obtain ⟨k0, k1, k2, k3⟩ := HZ.out.cell g_z (r) (by simp)
  exact bodyPost_ret (v := .tuple #[num (r), .int .i64 e0]) (by simp [results, Try.results10, go_sem, k0, k1, k2, k3]) rfl ⟨rfl, HZ.out.1⟩
set_option maxRecDepth 100000 in
set_option maxHeartbeats 4000000 in
theorem r6inv_noa (p q g a : Nat) (w : World) (hp : p < 2 ^ 256) (ha : a < 2 ^ 256) (va : ¬ (0 < a ∧ a < p)) : Calls Try.prog 12 #[gv p q g, num a] w fun e w' => e = .returned (.tuple #[num 0, .int .i64 1]) ∧ Below w.heap.size w w' := by
  have VA := hid (show decide (0 < a ∧ a < p) = false from decide_eq_false va)
  have PL := hid hp
  have AL := hid ha
  clear hp ha
  clear va
  have H0 := hid (((((Eg.of (Env.refl w) p q g 26)).new a).zero).perm (l' := [(w.heap.size + 1 + 1, 0), (w.heap.size + 1, a)]) (by simp))
  have DZ := hid (show w.heap.size ≤ w.heap.size + 1 + 1 ∧ w.heap.size ≠ w.heap.size + 1 + 1 by omega)
  go_enter Try.func12, Try.ntmps12
  go_upto_region 1 with fail
  generalize ((w.alloc (.cells (gcs p q g) 26)).alloc (.cells (cls a) 24)).alloc (.cells #[.int .u64 0, .int .u64 0, .int .u64 0, .int .u64 0] 24) = w0 at *
  generalize w.heap.size + 1 + 1 = g_z at *
  generalize w.heap.size + 1 = g_a at *
  generalize hzg_p : w.heap.size = g_p at *
  obtain ⟨ep0a, ep0b, ep0c, ep0d⟩ := H0.out.gp
  obtain ⟨eq0a, eq0b, eq0c, eq0d⟩ := H0.out.gq
  obtain ⟨eg0a, eg0b, eg0c, eg0d⟩ := H0.out.gg
  have eg0l := H0.out.gl
  have eg0m := Nat.le_of_lt eg0l
  obtain ⟨c14x0a, c14x0b, c14x0c, c14x0d⟩ := H0.out.cell (g_a) (a) (by simp)
  have c14x0l := H0.out.lt (g_a) (a) (by simp)
  have c14x0m := Nat.le_of_lt c14x0l
  go_wp2_with fail
  clear ep0a ep0b ep0c ep0d eq0a eq0b eq0c eq0d eg0a eg0b eg0c eg0d eg0l eg0m c14x0a c14x0b c14x0c c14x0d c14x0l c14x0m
  refine (eg_of (r6may_any p q g a false _ PL.out AL.out VA.out) H0.out).mono ?_
  rintro e w1 ⟨rfl, h⟩
  have H1 := hid h
  clear h H0
  obtain ⟨z0, z1, z2, z3⟩ := H1.out.cell g_z 0 (by simp)
  have zl := H1.out.lt g_z 0 (by simp)
  have zf := H1.out.frozen g_z 0 (by simp)
  have HZ := hid (H1.out.1.set g_z 0 (0) [] (by simp) (by rw [hzg_p]; exact DZ.out.1) (by simp))
  go_wp2
  clear z0 z1 z2 z3 zl zf
  try rw [Exit.noGoto_ret]
  change bodyPost _ _ _ _ _ (fil w1 g_z (0))
  generalize fil w1 g_z (0) = wz at *
  obtain ⟨k0, k1, k2, k3⟩ := HZ.out.cell g_z (0) (by simp)
  exact bodyPost_ret (v := .tuple #[num (0), .int .i64 1]) (by simp [results, Try.results12, go_sem, k0, k1, k2, k3]) rfl ⟨rfl, HZ.out.1⟩
set_option maxRecDepth 100000 in
set_option maxHeartbeats 4000000 in
theorem r6inv_ok (p q g a r : Nat) (e0 : Int) (w : World) (hp : p < 2 ^ 256) (ha : a < 2 ^ 256) (va : 0 < a ∧ a < p) (hD : ∀ w, Calls Try.prog 31 #[num a, num p] w fun x w' => x = .returned (.tuple #[num r, .int .i64 e0]) ∧ Below w.heap.size w w') : Calls Try.prog 12 #[gv p q g, num a] w fun e w' => e = .returned (.tuple #[num r, .int .i64 e0]) ∧ Below w.heap.size w w' := by
  have VA := hid (show decide (0 < a ∧ a < p) = true from decide_eq_true va)
  have HD := hid hD
  clear hD
  have PL := hid hp
  have AL := hid ha
  clear hp ha
  clear va
  have H0 := hid (((((Eg.of (Env.refl w) p q g 26)).new a).zero).perm (l' := [(w.heap.size + 1 + 1, 0), (w.heap.size + 1, a)]) (by simp))
  have DZ := hid (show w.heap.size ≤ w.heap.size + 1 + 1 ∧ w.heap.size ≠ w.heap.size + 1 + 1 by omega)
  go_enter Try.func12, Try.ntmps12
  go_upto_region 1 with fail
  generalize ((w.alloc (.cells (gcs p q g) 26)).alloc (.cells (cls a) 24)).alloc (.cells #[.int .u64 0, .int .u64 0, .int .u64 0, .int .u64 0] 24) = w0 at *
  generalize w.heap.size + 1 + 1 = g_z at *
  generalize w.heap.size + 1 = g_a at *
  generalize hzg_p : w.heap.size = g_p at *
  obtain ⟨ep0a, ep0b, ep0c, ep0d⟩ := H0.out.gp
  obtain ⟨eq0a, eq0b, eq0c, eq0d⟩ := H0.out.gq
  obtain ⟨eg0a, eg0b, eg0c, eg0d⟩ := H0.out.gg
  have eg0l := H0.out.gl
  have eg0m := Nat.le_of_lt eg0l
  obtain ⟨c14x0a, c14x0b, c14x0c, c14x0d⟩ := H0.out.cell (g_a) (a) (by simp)
  have c14x0l := H0.out.lt (g_a) (a) (by simp)
  have c14x0m := Nat.le_of_lt c14x0l
  go_wp2_with fail
  clear ep0a ep0b ep0c ep0d eq0a eq0b eq0c eq0d eg0a eg0b eg0c eg0d eg0l eg0m c14x0a c14x0b c14x0c c14x0d c14x0l c14x0m
  refine (eg_of (r6may_any p q g a true _ PL.out AL.out VA.out) H0.out).mono ?_
  rintro e w1 ⟨rfl, h⟩
  have H1 := hid h
  clear h H0
  obtain ⟨ep1a, ep1b, ep1c, ep1d⟩ := H1.out.gp
  have eg1l := H1.out.gl
  have eg1m := Nat.le_of_lt eg1l
  obtain ⟨c6x1a, c6x1b, c6x1c, c6x1d⟩ := H1.out.cell (g_a) (a) (by simp)
  have c6x1l := H1.out.lt (g_a) (a) (by simp)
  have c6x1m := Nat.le_of_lt c6x1l
  go_wp2_with fail
  clear ep1a ep1b ep1c ep1d eg1l eg1m c6x1a c6x1b c6x1c c6x1d c6x1l c6x1m
  refine (eg_of (HD.out _) H1.out).mono ?_
  rintro e w2 ⟨rfl, h⟩
  have H2 := hid h
  clear h H1
  obtain ⟨z0, z1, z2, z3⟩ := H2.out.cell g_z 0 (by simp)
  have zl := H2.out.lt g_z 0 (by simp)
  have zf := H2.out.frozen g_z 0 (by simp)
  have HZ := hid (H2.out.1.set g_z 0 (r) [] (by simp) (by rw [hzg_p]; exact DZ.out.1) (by simp))
  go_wp2
  clear z0 z1 z2 z3 zl zf
  try rw [Exit.noGoto_ret]
  change bodyPost _ _ _ _ _ (fil w2 g_z (r))
  generalize fil w2 g_z (r) = wz at *
  obtain ⟨k0, k1, k2, k3⟩ := HZ.out.cell g_z (r) (by simp)
  exact bodyPost_ret (v := .tuple #[num (r), .int .i64 e0]) (by simp [results, Try.results12, go_sem, k0, k1, k2, k3]) rfl ⟨rfl, HZ.out.1⟩
set_option maxRecDepth 100000 in
set_option maxHeartbeats 4000000 in
theorem r6exp_noa (p q g a n : Nat) (w : World) (hp : p < 2 ^ 256) (ha : a < 2 ^ 256) (va : ¬ (0 < a ∧ a < p)) : Calls Try.prog 14 #[gv p q g, num a, num n] w fun e w' => e = .returned (.tuple #[num 0, .int .i64 1]) ∧ Below w.heap.size w w' := by
  have VA := hid (show decide (0 < a ∧ a < p) = false from decide_eq_false va)
  have PL := hid hp
  have AL := hid ha
  clear hp ha
  clear va
  have H0 := hid ((((((Eg.of (Env.refl w) p q g 26)).new a).new n).zero).perm (l' := [(w.heap.size + 1 + 1 + 1, 0), (w.heap.size + 1 + 1, n), (w.heap.size + 1, a)]) (by simp))
  have DZ := hid (show w.heap.size ≤ w.heap.size + 1 + 1 + 1 ∧ w.heap.size ≠ w.heap.size + 1 + 1 + 1 by omega)
  go_enter Try.func14, Try.ntmps14
  go_upto_region 1 with fail
  generalize (((w.alloc (.cells (gcs p q g) 26)).alloc (.cells (cls a) 24)).alloc (.cells (cls n) 24)).alloc (.cells #[.int .u64 0, .int .u64 0, .int .u64 0, .int .u64 0] 24) = w0 at *
  generalize w.heap.size + 1 + 1 + 1 = g_z at *
  generalize w.heap.size + 1 + 1 = g_b at *
  generalize w.heap.size + 1 = g_a at *
  generalize hzg_p : w.heap.size = g_p at *
  obtain ⟨ep0a, ep0b, ep0c, ep0d⟩ := H0.out.gp
  obtain ⟨eq0a, eq0b, eq0c, eq0d⟩ := H0.out.gq
  obtain ⟨eg0a, eg0b, eg0c, eg0d⟩ := H0.out.gg
  have eg0l := H0.out.gl
  have eg0m := Nat.le_of_lt eg0l
  obtain ⟨c14x0a, c14x0b, c14x0c, c14x0d⟩ := H0.out.cell (g_a) (a) (by simp)
  have c14x0l := H0.out.lt (g_a) (a) (by simp)
  have c14x0m := Nat.le_of_lt c14x0l
  obtain ⟨c20x0a, c20x0b, c20x0c, c20x0d⟩ := H0.out.cell (g_b) (n) (by simp)
  have c20x0l := H0.out.lt (g_b) (n) (by simp)
  have c20x0m := Nat.le_of_lt c20x0l
  go_wp2_with fail
  clear ep0a ep0b ep0c ep0d eq0a eq0b eq0c eq0d eg0a eg0b eg0c eg0d eg0l eg0m c14x0a c14x0b c14x0c c14x0d c14x0l c14x0m c20x0a c20x0b c20x0c c20x0d c20x0l c20x0m
  refine (eg_of (r6may_any p q g a false _ PL.out AL.out VA.out) H0.out).mono ?_
  rintro e w1 ⟨rfl, h⟩
  have H1 := hid h
  clear h H0
  obtain ⟨z0, z1, z2, z3⟩ := H1.out.cell g_z 0 (by simp)
  have zl := H1.out.lt g_z 0 (by simp)
  have zf := H1.out.frozen g_z 0 (by simp)
  have HZ := hid (H1.out.1.set g_z 0 (0) [] (by simp) (by rw [hzg_p]; exact DZ.out.1) (by simp))
  go_wp2
  clear z0 z1 z2 z3 zl zf
  try rw [Exit.noGoto_ret]
  change bodyPost _ _ _ _ _ (fil w1 g_z (0))
  generalize fil w1 g_z (0) = wz at *
  obtain ⟨k0, k1, k2, k3⟩ := HZ.out.cell g_z (0) (by simp)
  exact bodyPost_ret (v := .tuple #[num (0), .int .i64 1]) (by simp [results, Try.results14, go_sem, k0, k1, k2, k3]) rfl ⟨rfl, HZ.out.1⟩
set_option maxRecDepth 100000 in
set_option maxHeartbeats 4000000 in
theorem r6exp_ok (p q g a n r : Nat) (e0 : Int) (w : World) (hp : p < 2 ^ 256) (ha : a < 2 ^ 256) (va : 0 < a ∧ a < p) (hD : ∀ w, Calls Try.prog 30 #[num a, num n, num p] w fun x w' => x = .returned (.tuple #[num r, .int .i64 e0]) ∧ Below w.heap.size w w') : Calls Try.prog 14 #[gv p q g, num a, num n] w fun e w' => e = .returned (.tuple #[num r, .int .i64 e0]) ∧ Below w.heap.size w w' := by
  have VA := hid (show decide (0 < a ∧ a < p) = true from decide_eq_true va)
  have HD := hid hD
  clear hD
  have PL := hid hp
  have AL := hid ha
  clear hp ha
  clear va
  have H0 := hid ((((((Eg.of (Env.refl w) p q g 26)).new a).new n).zero).perm (l' := [(w.heap.size + 1 + 1 + 1, 0), (w.heap.size + 1 + 1, n), (w.heap.size + 1, a)]) (by simp))
  have DZ := hid (show w.heap.size ≤ w.heap.size + 1 + 1 + 1 ∧ w.heap.size ≠ w.heap.size + 1 + 1 + 1 by omega)
  go_enter Try.func14, Try.ntmps14
  go_upto_region 1 with fail
  generalize (((w.alloc (.cells (gcs p q g) 26)).alloc (.cells (cls a) 24)).alloc (.cells (cls n) 24)).alloc (.cells #[.int .u64 0, .int .u64 0, .int .u64 0, .int .u64 0] 24) = w0 at *
  generalize w.heap.size + 1 + 1 + 1 = g_z at *
  generalize w.heap.size + 1 + 1 = g_b at *
  generalize w.heap.size + 1 = g_a at *
  generalize hzg_p : w.heap.size = g_p at *
  obtain ⟨ep0a, ep0b, ep0c, ep0d⟩ := H0.out.gp
  obtain ⟨eq0a, eq0b, eq0c, eq0d⟩ := H0.out.gq
  obtain ⟨eg0a, eg0b, eg0c, eg0d⟩ := H0.out.gg
  have eg0l := H0.out.gl
  have eg0m := Nat.le_of_lt eg0l
  obtain ⟨c14x0a, c14x0b, c14x0c, c14x0d⟩ := H0.out.cell (g_a) (a) (by simp)
  have c14x0l := H0.out.lt (g_a) (a) (by simp)
  have c14x0m := Nat.le_of_lt c14x0l
  obtain ⟨c20x0a, c20x0b, c20x0c, c20x0d⟩ := H0.out.cell (g_b) (n) (by simp)
  have c20x0l := H0.out.lt (g_b) (n) (by simp)
  have c20x0m := Nat.le_of_lt c20x0l
  go_wp2_with fail
  clear ep0a ep0b ep0c ep0d eq0a eq0b eq0c eq0d eg0a eg0b eg0c eg0d eg0l eg0m c14x0a c14x0b c14x0c c14x0d c14x0l c14x0m c20x0a c20x0b c20x0c c20x0d c20x0l c20x0m
  refine (eg_of (r6may_any p q g a true _ PL.out AL.out VA.out) H0.out).mono ?_
  rintro e w1 ⟨rfl, h⟩
  have H1 := hid h
  clear h H0
  obtain ⟨ep1a, ep1b, ep1c, ep1d⟩ := H1.out.gp
  have eg1l := H1.out.gl
  have eg1m := Nat.le_of_lt eg1l
  obtain ⟨c6x1a, c6x1b, c6x1c, c6x1d⟩ := H1.out.cell (g_a) (a) (by simp)
  have c6x1l := H1.out.lt (g_a) (a) (by simp)
  have c6x1m := Nat.le_of_lt c6x1l
  obtain ⟨c12x1a, c12x1b, c12x1c, c12x1d⟩ := H1.out.cell (g_b) (n) (by simp)
  have c12x1l := H1.out.lt (g_b) (n) (by simp)
  have c12x1m := Nat.le_of_lt c12x1l
  go_wp2_with fail
  clear ep1a ep1b ep1c ep1d eg1l eg1m c6x1a c6x1b c6x1c c6x1d c6x1l c6x1m c12x1a c12x1b c12x1c c12x1d c12x1l c12x1m
  refine (eg_of (HD.out _) H1.out).mono ?_
  rintro e w2 ⟨rfl, h⟩
  have H2 := hid h
  clear h H1
  obtain ⟨z0, z1, z2, z3⟩ := H2.out.cell g_z 0 (by simp)
  have zl := H2.out.lt g_z 0 (by simp)
  have zf := H2.out.frozen g_z 0 (by simp)
  have HZ := hid (H2.out.1.set g_z 0 (r) [] (by simp) (by rw [hzg_p]; exact DZ.out.1) (by simp))
  go_wp2
  clear z0 z1 z2 z3 zl zf
  try rw [Exit.noGoto_ret]
  change bodyPost _ _ _ _ _ (fil w2 g_z (r))
  generalize fil w2 g_z (r) = wz at *
  obtain ⟨k0, k1, k2, k3⟩ := HZ.out.cell g_z (r) (by simp)
  exact bodyPost_ret (v := .tuple #[num (r), .int .i64 e0]) (by simp [results, Try.results14, go_sem, k0, k1, k2, k3]) rfl ⟨rfl, HZ.out.1⟩
theorem gmul_both (p q g a b : Nat) (hp : p < 2 ^ 256) (ha : a < 2 ^ 256) (hb : b < 2 ^ 256) : ∃ r e, Both 9 10 #[gv p q g, num a, num b] r e := by
  by_cases va : 0 < a ∧ a < p
  · by_cases vb : 0 < b ∧ b < p
    · exact ⟨a * b % p, 0, fun w => gmul_some p q g a b w hp ha hb va vb, fun w => r6mul_ok p q g a b _ 0 w hp ha hb va vb (fun w => rmmul_some a b p _ w ha hb hp (by omega) rfl)⟩
    · exact ⟨0, 1, fun w => gmul_none p q g a b w hp ha hb (fun h => vb h.2), fun w => r6mul_nob p q g a b w hp ha hb va vb⟩
  · exact ⟨0, 1, fun w => gmul_none p q g a b w hp ha hb (fun h => va h.1), fun w => r6mul_noa p q g a b w hp ha hb va⟩
theorem ginv_both (p q g a : Nat) (hp : p < 2 ^ 256) (ha : a < 2 ^ 256) : ∃ r e, Both 11 12 #[gv p q g, num a] r e := by
  by_cases va : 0 < a ∧ a < p
  · by_cases hg : Nat.gcd a p = 1
    · obtain ⟨v, hv⟩ := ivs_exists (show 1 < p by omega) va.2 hg
      exact ⟨v, 0, fun w => ginv_some p q g a v w hp ha va hv, fun w => r6inv_ok p q g a v 0 w hp ha va (fun w => rminv_is a p v w ha hp (by omega) hv)⟩
    · exact ⟨0, 7, fun w => ginv_no p q g a w hp ha va hg, fun w => r6inv_ok p q g a 0 7 w hp ha va (fun w => rminv_no a p w ha hp (by omega) hg)⟩
  · exact ⟨0, 1, fun w => ginv_none p q g a w hp ha va, fun w => r6inv_noa p q g a w hp ha va⟩
theorem gexp_both (p q g a n : Nat) (hp : p < 2 ^ 256) (ha : a < 2 ^ 256) (hn : n < 2 ^ 256) : ∃ r e, Both 13 14 #[gv p q g, num a, num n] r e := by
  by_cases va : 0 < a ∧ a < p
  · exact ⟨a ^ n % p, 0, fun w => gexp_any p q g a n _ w hp hn va rfl, fun w => r6exp_ok p q g a n _ 0 w hp ha va (fun w => rmexp_some a n p _ w ha hn hp (by omega) rfl)⟩
  · exact ⟨0, 1, fun w => gexp_none p q g a n w hp ha va, fun w => r6exp_noa p q g a n w hp ha va⟩
end Go.Proofs.Ytaggegknnnembaa
namespace Go.Proofs.Ytaggegknnnembaa
open Go.RowKit
set_option linter.unusedVariables false

set_option maxRecDepth 100000 in
set_option maxHeartbeats 12000000 in
theorem groupsOf_any (p q g a b : Nat) (w : World) (hp : p < 2 ^ 256) (hq : q < 2 ^ 256) (hg : g < 2 ^ 256) (ha : a < 2 ^ 256) (hb : b < 2 ^ 256) : Calls Try.prog 3 #[gv p q g, num a, num b] w fun e w' => e = .returned (.bool true) ∧ Below w.heap.size w w' := by
  obtain ⟨r0, e0, B0⟩ := gmul_both p q g a b hp ha hb
  obtain ⟨r1, e1, B1⟩ := ginv_both p q g a hp ha
  obtain ⟨r2, e2, B2⟩ := gexp_both p q g a b hp ha hb
  have B0 := hid B0
  have q0 := eq_yes r0 r0 rfl
  have B1 := hid B1
  have q1 := eq_yes r1 r1 rfl
  have B2 := hid B2
  have q2 := eq_yes r2 r2 rfl
  obtain ⟨v, ev⟩ : ∃ v, decide (1 < q ∧ g ≠ 1 ∧ (0 < g ∧ g < p) ∧ g ^ q % p = 1) = v := ⟨_, rfl⟩
  obtain ⟨u, eu⟩ : ∃ u, decide ((0 < a ∧ a < p) ∧ a ^ q % p = 1) = u := ⟨_, rfl⟩
  have EV := hid ev
  have EU := hid eu
  clear ev eu
  have PL := hid hp
  have QL := hid hq
  have GL := hid hg
  have AL := hid ha
  clear hp hq hg ha
  clear hb
  have H0 := hid (((((Eg.of (Env.refl w) p q g 26)).new a).new b).perm (l' := [(w.heap.size + 1 + 1, b), (w.heap.size + 1, a)]) (by simp))
  go_enter Try.func3, Try.ntmps3
  go_upto_region 1 with fail
  generalize ((w.alloc (.cells (gcs p q g) 26)).alloc (.cells (cls a) 24)).alloc (.cells (cls b) 24) = w0 at *
  generalize w.heap.size + 1 + 1 = g_b at *
  generalize w.heap.size + 1 = g_a at *
  generalize hzg_p : w.heap.size = g_p at *
  obtain ⟨ep0a, ep0b, ep0c, ep0d⟩ := H0.out.gp
  obtain ⟨eq0a, eq0b, eq0c, eq0d⟩ := H0.out.gq
  obtain ⟨eg0a, eg0b, eg0c, eg0d⟩ := H0.out.gg
  have eg0l := H0.out.gl
  have eg0m := Nat.le_of_lt eg0l
  obtain ⟨c14x0a, c14x0b, c14x0c, c14x0d⟩ := H0.out.cell (g_a) (a) (by simp)
  have c14x0l := H0.out.lt (g_a) (a) (by simp)
  have c14x0m := Nat.le_of_lt c14x0l
  obtain ⟨c20x0a, c20x0b, c20x0c, c20x0d⟩ := H0.out.cell (g_b) (b) (by simp)
  have c20x0l := H0.out.lt (g_b) (b) (by simp)
  have c20x0m := Nat.le_of_lt c20x0l
  go_wp2_with fail
  clear ep0a ep0b ep0c ep0d eq0a eq0b eq0c eq0d eg0a eg0b eg0c eg0d eg0l eg0m c14x0a c14x0b c14x0c c14x0d c14x0l c14x0m c20x0a c20x0b c20x0c c20x0d c20x0l c20x0m
  refine (eg_of (B0.out.1 _) H0.out).mono ?_
  rintro e w1 ⟨rfl, h⟩
  have H1 := hid h
  clear h H0
  go_upto_region 2 with fail
  have H1b := hid (H1.out.new r0)
  clear H1
  generalize w1.alloc (.cells (cls r0) 24) = w1b at *
  generalize w1.heap.size = g7 at *
  obtain ⟨ep1a, ep1b, ep1c, ep1d⟩ := H1b.out.gp
  obtain ⟨eq1a, eq1b, eq1c, eq1d⟩ := H1b.out.gq
  obtain ⟨eg1a, eg1b, eg1c, eg1d⟩ := H1b.out.gg
  have eg1l := H1b.out.gl
  have eg1m := Nat.le_of_lt eg1l
  obtain ⟨c14x1a, c14x1b, c14x1c, c14x1d⟩ := H1b.out.cell (g_a) (a) (by simp)
  have c14x1l := H1b.out.lt (g_a) (a) (by simp)
  have c14x1m := Nat.le_of_lt c14x1l
  obtain ⟨c20x1a, c20x1b, c20x1c, c20x1d⟩ := H1b.out.cell (g_b) (b) (by simp)
  have c20x1l := H1b.out.lt (g_b) (b) (by simp)
  have c20x1m := Nat.le_of_lt c20x1l
  go_wp2_with fail
  clear ep1a ep1b ep1c ep1d eq1a eq1b eq1c eq1d eg1a eg1b eg1c eg1d eg1l eg1m c14x1a c14x1b c14x1c c14x1d c14x1l c14x1m c20x1a c20x1b c20x1c c20x1d c20x1l c20x1m
  refine (eg_of (B0.out.2 _) H1b.out).mono ?_
  rintro e w2 ⟨rfl, h⟩
  have H2 := hid h
  clear h H1b
  go_upto_region 3 with fail
  have H2b := hid (H2.out.new r0)
  clear H2
  generalize w2.alloc (.cells (cls r0) 24) = w2b at *
  generalize w2.heap.size = g9 at *
  obtain ⟨ep2a, ep2b, ep2c, ep2d⟩ := H2b.out.gp
  obtain ⟨eq2a, eq2b, eq2c, eq2d⟩ := H2b.out.gq
  obtain ⟨eg2a, eg2b, eg2c, eg2d⟩ := H2b.out.gg
  have eg2l := H2b.out.gl
  have eg2m := Nat.le_of_lt eg2l
  obtain ⟨c14x2a, c14x2b, c14x2c, c14x2d⟩ := H2b.out.cell (g_a) (a) (by simp)
  have c14x2l := H2b.out.lt (g_a) (a) (by simp)
  have c14x2m := Nat.le_of_lt c14x2l
  go_wp2_with fail
  clear ep2a ep2b ep2c ep2d eq2a eq2b eq2c eq2d eg2a eg2b eg2c eg2d eg2l eg2m c14x2a c14x2b c14x2c c14x2d c14x2l c14x2m
  refine (eg_of (B1.out.1 _) H2b.out).mono ?_
  rintro e w3 ⟨rfl, h⟩
  have H3 := hid h
  clear h H2b
  go_upto_region 4 with fail
  have H3b := hid (H3.out.new r1)
  clear H3
  generalize w3.alloc (.cells (cls r1) 24) = w3b at *
  generalize w3.heap.size = g11 at *
  obtain ⟨ep3a, ep3b, ep3c, ep3d⟩ := H3b.out.gp
  obtain ⟨eq3a, eq3b, eq3c, eq3d⟩ := H3b.out.gq
  obtain ⟨eg3a, eg3b, eg3c, eg3d⟩ := H3b.out.gg
  have eg3l := H3b.out.gl
  have eg3m := Nat.le_of_lt eg3l
  obtain ⟨c14x3a, c14x3b, c14x3c, c14x3d⟩ := H3b.out.cell (g_a) (a) (by simp)
  have c14x3l := H3b.out.lt (g_a) (a) (by simp)
  have c14x3m := Nat.le_of_lt c14x3l
  go_wp2_with fail
  clear ep3a ep3b ep3c ep3d eq3a eq3b eq3c eq3d eg3a eg3b eg3c eg3d eg3l eg3m c14x3a c14x3b c14x3c c14x3d c14x3l c14x3m
  refine (eg_of (B1.out.2 _) H3b.out).mono ?_
  rintro e w4 ⟨rfl, h⟩
  have H4 := hid h
  clear h H3b
  go_upto_region 5 with fail
  have H4b := hid (H4.out.new r1)
  clear H4
  generalize w4.alloc (.cells (cls r1) 24) = w4b at *
  generalize w4.heap.size = g13 at *
  obtain ⟨ep4a, ep4b, ep4c, ep4d⟩ := H4b.out.gp
  obtain ⟨eq4a, eq4b, eq4c, eq4d⟩ := H4b.out.gq
  obtain ⟨eg4a, eg4b, eg4c, eg4d⟩ := H4b.out.gg
  have eg4l := H4b.out.gl
  have eg4m := Nat.le_of_lt eg4l
  obtain ⟨c14x4a, c14x4b, c14x4c, c14x4d⟩ := H4b.out.cell (g_a) (a) (by simp)
  have c14x4l := H4b.out.lt (g_a) (a) (by simp)
  have c14x4m := Nat.le_of_lt c14x4l
  obtain ⟨c20x4a, c20x4b, c20x4c, c20x4d⟩ := H4b.out.cell (g_b) (b) (by simp)
  have c20x4l := H4b.out.lt (g_b) (b) (by simp)
  have c20x4m := Nat.le_of_lt c20x4l
  go_wp2_with fail
  clear ep4a ep4b ep4c ep4d eq4a eq4b eq4c eq4d eg4a eg4b eg4c eg4d eg4l eg4m c14x4a c14x4b c14x4c c14x4d c14x4l c14x4m c20x4a c20x4b c20x4c c20x4d c20x4l c20x4m
  refine (eg_of (B2.out.1 _) H4b.out).mono ?_
  rintro e w5 ⟨rfl, h⟩
  have H5 := hid h
  clear h H4b
  go_upto_region 6 with fail
  have H5b := hid (H5.out.new r2)
  clear H5
  generalize w5.alloc (.cells (cls r2) 24) = w5b at *
  generalize w5.heap.size = g15 at *
  obtain ⟨ep5a, ep5b, ep5c, ep5d⟩ := H5b.out.gp
  obtain ⟨eq5a, eq5b, eq5c, eq5d⟩ := H5b.out.gq
  obtain ⟨eg5a, eg5b, eg5c, eg5d⟩ := H5b.out.gg
  have eg5l := H5b.out.gl
  have eg5m := Nat.le_of_lt eg5l
  obtain ⟨c14x5a, c14x5b, c14x5c, c14x5d⟩ := H5b.out.cell (g_a) (a) (by simp)
  have c14x5l := H5b.out.lt (g_a) (a) (by simp)
  have c14x5m := Nat.le_of_lt c14x5l
  obtain ⟨c20x5a, c20x5b, c20x5c, c20x5d⟩ := H5b.out.cell (g_b) (b) (by simp)
  have c20x5l := H5b.out.lt (g_b) (b) (by simp)
  have c20x5m := Nat.le_of_lt c20x5l
  go_wp2_with fail
  clear ep5a ep5b ep5c ep5d eq5a eq5b eq5c eq5d eg5a eg5b eg5c eg5d eg5l eg5m c14x5a c14x5b c14x5c c14x5d c14x5l c14x5m c20x5a c20x5b c20x5c c20x5d c20x5l c20x5m
  refine (eg_of (B2.out.2 _) H5b.out).mono ?_
  rintro e w6 ⟨rfl, h⟩
  have H6 := hid h
  clear h H5b
  go_upto_region 7 with fail
  have H6b := hid (H6.out.new r2)
  clear H6
  generalize w6.alloc (.cells (cls r2) 24) = w6b at *
  generalize w6.heap.size = g17 at *
  have hs := H6b.out.drew
  refine wp_region_noPanic ?_
  refine Goes.region (fun (L : Array Bool) (w' : World) => w'.cell? ⟨g_p, 0, none⟩ = some (.int .u64 (wd p 0 : Int)) ∧ w'.cell? ⟨g_p, 1, none⟩ = some (.int .u64 (wd p 1 : Int)) ∧ w'.cell? ⟨g_p, 2, none⟩ = some (.int .u64 (wd p 2 : Int)) ∧ w'.cell? ⟨g_p, 3, none⟩ = some (.int .u64 (wd p 3 : Int)) ∧ w'.cell? ⟨g_p, 4, none⟩ = some (.int .u64 (wd q 0 : Int)) ∧ w'.cell? ⟨g_p, 5, none⟩ = some (.int .u64 (wd q 1 : Int)) ∧ w'.cell? ⟨g_p, 6, none⟩ = some (.int .u64 (wd q 2 : Int)) ∧ w'.cell? ⟨g_p, 7, none⟩ = some (.int .u64 (wd q 3 : Int)) ∧ w'.cell? ⟨g_p, 8, none⟩ = some (.int .u64 (wd g 0 : Int)) ∧ w'.cell? ⟨g_p, 9, none⟩ = some (.int .u64 (wd g 1 : Int)) ∧ w'.cell? ⟨g_p, 10, none⟩ = some (.int .u64 (wd g 2 : Int)) ∧ w'.cell? ⟨g_p, 11, none⟩ = some (.int .u64 (wd g 3 : Int)) ∧ w'.cell? ⟨g_a, 0, none⟩ = some (.int .u64 (wd (a) 0 : Int)) ∧ w'.cell? ⟨g_a, 1, none⟩ = some (.int .u64 (wd (a) 1 : Int)) ∧ w'.cell? ⟨g_a, 2, none⟩ = some (.int .u64 (wd (a) 2 : Int)) ∧ w'.cell? ⟨g_a, 3, none⟩ = some (.int .u64 (wd (a) 3 : Int)) ∧ w'.cell? ⟨g7, 0, none⟩ = some (.int .u64 (wd (r0) 0 : Int)) ∧ w'.cell? ⟨g7, 1, none⟩ = some (.int .u64 (wd (r0) 1 : Int)) ∧ w'.cell? ⟨g7, 2, none⟩ = some (.int .u64 (wd (r0) 2 : Int)) ∧ w'.cell? ⟨g7, 3, none⟩ = some (.int .u64 (wd (r0) 3 : Int)) ∧ w'.cell? ⟨g9, 0, none⟩ = some (.int .u64 (wd (r0) 0 : Int)) ∧ w'.cell? ⟨g9, 1, none⟩ = some (.int .u64 (wd (r0) 1 : Int)) ∧ w'.cell? ⟨g9, 2, none⟩ = some (.int .u64 (wd (r0) 2 : Int)) ∧ w'.cell? ⟨g9, 3, none⟩ = some (.int .u64 (wd (r0) 3 : Int)) ∧ w'.cell? ⟨g11, 0, none⟩ = some (.int .u64 (wd (r1) 0 : Int)) ∧ w'.cell? ⟨g11, 1, none⟩ = some (.int .u64 (wd (r1) 1 : Int)) ∧ w'.cell? ⟨g11, 2, none⟩ = some (.int .u64 (wd (r1) 2 : Int)) ∧ w'.cell? ⟨g11, 3, none⟩ = some (.int .u64 (wd (r1) 3 : Int)) ∧ w'.cell? ⟨g13, 0, none⟩ = some (.int .u64 (wd (r1) 0 : Int)) ∧ w'.cell? ⟨g13, 1, none⟩ = some (.int .u64 (wd (r1) 1 : Int)) ∧ w'.cell? ⟨g13, 2, none⟩ = some (.int .u64 (wd (r1) 2 : Int)) ∧ w'.cell? ⟨g13, 3, none⟩ = some (.int .u64 (wd (r1) 3 : Int)) ∧ w'.cell? ⟨g15, 0, none⟩ = some (.int .u64 (wd (r2) 0 : Int)) ∧ w'.cell? ⟨g15, 1, none⟩ = some (.int .u64 (wd (r2) 1 : Int)) ∧ w'.cell? ⟨g15, 2, none⟩ = some (.int .u64 (wd (r2) 2 : Int)) ∧ w'.cell? ⟨g15, 3, none⟩ = some (.int .u64 (wd (r2) 3 : Int)) ∧ w'.cell? ⟨g17, 0, none⟩ = some (.int .u64 (wd (r2) 0 : Int)) ∧ w'.cell? ⟨g17, 1, none⟩ = some (.int .u64 (wd (r2) 1 : Int)) ∧ w'.cell? ⟨g17, 2, none⟩ = some (.int .u64 (wd (r2) 2 : Int)) ∧ w'.cell? ⟨g17, 3, none⟩ = some (.int .u64 (wd (r2) 3 : Int))) (by kernel_rfl) ?_
  generalize w6b.drew = wdr at *
  have hJJ := hid (And.intro (Eg.gp hs).1 (And.intro (Eg.gp hs).2.1 (And.intro (Eg.gp hs).2.2.1 (And.intro (Eg.gp hs).2.2.2 (And.intro (Eg.gq hs).1 (And.intro (Eg.gq hs).2.1 (And.intro (Eg.gq hs).2.2.1 (And.intro (Eg.gq hs).2.2.2 (And.intro (Eg.gg hs).1 (And.intro (Eg.gg hs).2.1 (And.intro (Eg.gg hs).2.2.1 (And.intro (Eg.gg hs).2.2.2 (And.intro (Eg.cell hs g_a (a) (by simp)).1 (And.intro (Eg.cell hs g_a (a) (by simp)).2.1 (And.intro (Eg.cell hs g_a (a) (by simp)).2.2.1 (And.intro (Eg.cell hs g_a (a) (by simp)).2.2.2 (And.intro (Eg.cell hs g7 (r0) (by simp)).1 (And.intro (Eg.cell hs g7 (r0) (by simp)).2.1 (And.intro (Eg.cell hs g7 (r0) (by simp)).2.2.1 (And.intro (Eg.cell hs g7 (r0) (by simp)).2.2.2 (And.intro (Eg.cell hs g9 (r0) (by simp)).1 (And.intro (Eg.cell hs g9 (r0) (by simp)).2.1 (And.intro (Eg.cell hs g9 (r0) (by simp)).2.2.1 (And.intro (Eg.cell hs g9 (r0) (by simp)).2.2.2 (And.intro (Eg.cell hs g11 (r1) (by simp)).1 (And.intro (Eg.cell hs g11 (r1) (by simp)).2.1 (And.intro (Eg.cell hs g11 (r1) (by simp)).2.2.1 (And.intro (Eg.cell hs g11 (r1) (by simp)).2.2.2 (And.intro (Eg.cell hs g13 (r1) (by simp)).1 (And.intro (Eg.cell hs g13 (r1) (by simp)).2.1 (And.intro (Eg.cell hs g13 (r1) (by simp)).2.2.1 (And.intro (Eg.cell hs g13 (r1) (by simp)).2.2.2 (And.intro (Eg.cell hs g15 (r2) (by simp)).1 (And.intro (Eg.cell hs g15 (r2) (by simp)).2.1 (And.intro (Eg.cell hs g15 (r2) (by simp)).2.2.1 (And.intro (Eg.cell hs g15 (r2) (by simp)).2.2.2 (And.intro (Eg.cell hs g17 (r2) (by simp)).1 (And.intro (Eg.cell hs g17 (r2) (by simp)).2.1 (And.intro (Eg.cell hs g17 (r2) (by simp)).2.2.1 (Eg.cell hs g17 (r2) (by simp)).2.2.2)))))))))))))))))))))))))))))))))))))))
  refine Goes.tk (i := 0) (o := ⟨some 59, _, _, _, _, _⟩) (v := ?_) [] (y := Or.inl ⟨by rfl, ?_⟩) (s := hJJ.out) (H := ?_)
  rotate_left
  · rintro w ⟨up, -, hX⟩; (try dsimp only at hX); obtain ⟨x0, x1, x2, x3, x4, x5, x6, x7, x8, x9, x10, x11, x12, x13, x14, x15, x16, x17, x18, x19, x20, x21, x22, x23, x24, x25, x26, x27, x28, x29, x30, x31, x32, x33, x34, x35, x36, x37, x38, x39⟩ := hX; go_simp; try with_reducible rfl
  try simp only [putz]
  refine Goes.tk (i := 2) (o := ⟨some 61, _, _, _, _, _⟩) (v := ?_) [] (y := Or.inl ⟨by rfl, ?_⟩) (s := hJJ.out) (H := ?_)
  rotate_left
  · rintro w ⟨up, -, hX⟩; (try dsimp only at hX); obtain ⟨x0, x1, x2, x3, x4, x5, x6, x7, x8, x9, x10, x11, x12, x13, x14, x15, x16, x17, x18, x19, x20, x21, x22, x23, x24, x25, x26, x27, x28, x29, x30, x31, x32, x33, x34, x35, x36, x37, x38, x39⟩ := hX; go_simp; try with_reducible rfl
  try simp only [putz]
  clear hJJ
  refine Goes.one (i := 1) (o := ⟨some 60, _, _, _, _, _⟩) (by kernel_rfl) rfl (fun K hK => ?_)
  go_simp
  with_reducible refine (eg_of (fine_any p q g v _ PL.out QL.out GL.out EV.out) hs).mono ?_
  rintro e wn1 ⟨rfl, hs1⟩
  go_wp2_with fail
  refine hK.out _ _ (⟨(Eg.gp hs1).1, (Eg.gp hs1).2.1, (Eg.gp hs1).2.2.1, (Eg.gp hs1).2.2.2, (Eg.gq hs1).1, (Eg.gq hs1).2.1, (Eg.gq hs1).2.2.1, (Eg.gq hs1).2.2.2, (Eg.gg hs1).1, (Eg.gg hs1).2.1, (Eg.gg hs1).2.2.1, (Eg.gg hs1).2.2.2, (Eg.cell hs1 g_a (a) (by simp)).1, (Eg.cell hs1 g_a (a) (by simp)).2.1, (Eg.cell hs1 g_a (a) (by simp)).2.2.1, (Eg.cell hs1 g_a (a) (by simp)).2.2.2, (Eg.cell hs1 g7 (r0) (by simp)).1, (Eg.cell hs1 g7 (r0) (by simp)).2.1, (Eg.cell hs1 g7 (r0) (by simp)).2.2.1, (Eg.cell hs1 g7 (r0) (by simp)).2.2.2, (Eg.cell hs1 g9 (r0) (by simp)).1, (Eg.cell hs1 g9 (r0) (by simp)).2.1, (Eg.cell hs1 g9 (r0) (by simp)).2.2.1, (Eg.cell hs1 g9 (r0) (by simp)).2.2.2, (Eg.cell hs1 g11 (r1) (by simp)).1, (Eg.cell hs1 g11 (r1) (by simp)).2.1, (Eg.cell hs1 g11 (r1) (by simp)).2.2.1, (Eg.cell hs1 g11 (r1) (by simp)).2.2.2, (Eg.cell hs1 g13 (r1) (by simp)).1, (Eg.cell hs1 g13 (r1) (by simp)).2.1, (Eg.cell hs1 g13 (r1) (by simp)).2.2.1, (Eg.cell hs1 g13 (r1) (by simp)).2.2.2, (Eg.cell hs1 g15 (r2) (by simp)).1, (Eg.cell hs1 g15 (r2) (by simp)).2.1, (Eg.cell hs1 g15 (r2) (by simp)).2.2.1, (Eg.cell hs1 g15 (r2) (by simp)).2.2.2, (Eg.cell hs1 g17 (r2) (by simp)).1, (Eg.cell hs1 g17 (r2) (by simp)).2.1, (Eg.cell hs1 g17 (r2) (by simp)).2.2.1, (Eg.cell hs1 g17 (r2) (by simp)).2.2.2⟩) ?_
  clear hK K
  try simp only [putz]
  clear hs
  have hs := hs1
  clear hs1
  refine Goes.one (i := 3) (o := ⟨some 62, _, _, _, _, _⟩) (by kernel_rfl) rfl (fun K hK => ?_)
  go_simp
  with_reducible refine (eg_of (r6fine_any p q g v _ PL.out QL.out GL.out EV.out) hs).mono ?_
  rintro e wn2 ⟨rfl, hs2⟩
  go_wp2_with fail
  refine hK.out _ _ (⟨(Eg.gp hs2).1, (Eg.gp hs2).2.1, (Eg.gp hs2).2.2.1, (Eg.gp hs2).2.2.2, (Eg.gq hs2).1, (Eg.gq hs2).2.1, (Eg.gq hs2).2.2.1, (Eg.gq hs2).2.2.2, (Eg.gg hs2).1, (Eg.gg hs2).2.1, (Eg.gg hs2).2.2.1, (Eg.gg hs2).2.2.2, (Eg.cell hs2 g_a (a) (by simp)).1, (Eg.cell hs2 g_a (a) (by simp)).2.1, (Eg.cell hs2 g_a (a) (by simp)).2.2.1, (Eg.cell hs2 g_a (a) (by simp)).2.2.2, (Eg.cell hs2 g7 (r0) (by simp)).1, (Eg.cell hs2 g7 (r0) (by simp)).2.1, (Eg.cell hs2 g7 (r0) (by simp)).2.2.1, (Eg.cell hs2 g7 (r0) (by simp)).2.2.2, (Eg.cell hs2 g9 (r0) (by simp)).1, (Eg.cell hs2 g9 (r0) (by simp)).2.1, (Eg.cell hs2 g9 (r0) (by simp)).2.2.1, (Eg.cell hs2 g9 (r0) (by simp)).2.2.2, (Eg.cell hs2 g11 (r1) (by simp)).1, (Eg.cell hs2 g11 (r1) (by simp)).2.1, (Eg.cell hs2 g11 (r1) (by simp)).2.2.1, (Eg.cell hs2 g11 (r1) (by simp)).2.2.2, (Eg.cell hs2 g13 (r1) (by simp)).1, (Eg.cell hs2 g13 (r1) (by simp)).2.1, (Eg.cell hs2 g13 (r1) (by simp)).2.2.1, (Eg.cell hs2 g13 (r1) (by simp)).2.2.2, (Eg.cell hs2 g15 (r2) (by simp)).1, (Eg.cell hs2 g15 (r2) (by simp)).2.1, (Eg.cell hs2 g15 (r2) (by simp)).2.2.1, (Eg.cell hs2 g15 (r2) (by simp)).2.2.2, (Eg.cell hs2 g17 (r2) (by simp)).1, (Eg.cell hs2 g17 (r2) (by simp)).2.1, (Eg.cell hs2 g17 (r2) (by simp)).2.2.1, (Eg.cell hs2 g17 (r2) (by simp)).2.2.2⟩) ?_
  clear hK K
  try simp only [putz]
  clear hs
  have hs := hs2
  clear hs2
  have hJJ := hid (And.intro (Eg.gp hs).1 (And.intro (Eg.gp hs).2.1 (And.intro (Eg.gp hs).2.2.1 (And.intro (Eg.gp hs).2.2.2 (And.intro (Eg.gq hs).1 (And.intro (Eg.gq hs).2.1 (And.intro (Eg.gq hs).2.2.1 (And.intro (Eg.gq hs).2.2.2 (And.intro (Eg.gg hs).1 (And.intro (Eg.gg hs).2.1 (And.intro (Eg.gg hs).2.2.1 (And.intro (Eg.gg hs).2.2.2 (And.intro (Eg.cell hs g_a (a) (by simp)).1 (And.intro (Eg.cell hs g_a (a) (by simp)).2.1 (And.intro (Eg.cell hs g_a (a) (by simp)).2.2.1 (And.intro (Eg.cell hs g_a (a) (by simp)).2.2.2 (And.intro (Eg.cell hs g7 (r0) (by simp)).1 (And.intro (Eg.cell hs g7 (r0) (by simp)).2.1 (And.intro (Eg.cell hs g7 (r0) (by simp)).2.2.1 (And.intro (Eg.cell hs g7 (r0) (by simp)).2.2.2 (And.intro (Eg.cell hs g9 (r0) (by simp)).1 (And.intro (Eg.cell hs g9 (r0) (by simp)).2.1 (And.intro (Eg.cell hs g9 (r0) (by simp)).2.2.1 (And.intro (Eg.cell hs g9 (r0) (by simp)).2.2.2 (And.intro (Eg.cell hs g11 (r1) (by simp)).1 (And.intro (Eg.cell hs g11 (r1) (by simp)).2.1 (And.intro (Eg.cell hs g11 (r1) (by simp)).2.2.1 (And.intro (Eg.cell hs g11 (r1) (by simp)).2.2.2 (And.intro (Eg.cell hs g13 (r1) (by simp)).1 (And.intro (Eg.cell hs g13 (r1) (by simp)).2.1 (And.intro (Eg.cell hs g13 (r1) (by simp)).2.2.1 (And.intro (Eg.cell hs g13 (r1) (by simp)).2.2.2 (And.intro (Eg.cell hs g15 (r2) (by simp)).1 (And.intro (Eg.cell hs g15 (r2) (by simp)).2.1 (And.intro (Eg.cell hs g15 (r2) (by simp)).2.2.1 (And.intro (Eg.cell hs g15 (r2) (by simp)).2.2.2 (And.intro (Eg.cell hs g17 (r2) (by simp)).1 (And.intro (Eg.cell hs g17 (r2) (by simp)).2.1 (And.intro (Eg.cell hs g17 (r2) (by simp)).2.2.1 (Eg.cell hs g17 (r2) (by simp)).2.2.2)))))))))))))))))))))))))))))))))))))))
  refine Goes.tk (i := 4) (o := ⟨some 63, _, _, _, _, _⟩) (v := ?_) [] (y := Or.inl ⟨by rfl, ?_⟩) (s := hJJ.out) (H := ?_)
  rotate_left
  · intro w hY; go_simp; try with_reducible rfl
  try simp only [putz]
  refine Goes.tk (i := 5) (o := ⟨some 64, _, _, _, _, _⟩) (v := ?_) [] (y := Or.inl ⟨by rfl, ?_⟩) (s := hJJ.out) (H := ?_)
  rotate_left
  · intro w hY; go_simp; try with_reducible rfl
  try simp only [putz]
  refine Goes.tk (i := 6) (o := ⟨some 65, _, _, _, _, _⟩) (v := ?_) [] (y := Or.inl ⟨by rfl, ?_⟩) (s := hJJ.out) (H := ?_)
  rotate_left
  · rintro w ⟨up, -, hX⟩; (try dsimp only at hX); obtain ⟨x0, x1, x2, x3, x4, x5, x6, x7, x8, x9, x10, x11, x12, x13, x14, x15, x16, x17, x18, x19, x20, x21, x22, x23, x24, x25, x26, x27, x28, x29, x30, x31, x32, x33, x34, x35, x36, x37, x38, x39⟩ := hX; go_simp; try with_reducible rfl
  try simp only [putz]
  refine Goes.tk (i := 7) (o := ⟨some 66, _, _, _, _, _⟩) (v := ?_) [] (y := Or.inl ⟨by rfl, ?_⟩) (s := hJJ.out) (H := ?_)
  rotate_left
  · rintro w ⟨up, -, hX⟩; (try dsimp only at hX); obtain ⟨x0, x1, x2, x3, x4, x5, x6, x7, x8, x9, x10, x11, x12, x13, x14, x15, x16, x17, x18, x19, x20, x21, x22, x23, x24, x25, x26, x27, x28, x29, x30, x31, x32, x33, x34, x35, x36, x37, x38, x39⟩ := hX; go_simp; try with_reducible rfl
  try simp only [putz]
  refine Goes.tk (i := 9) (o := ⟨some 68, _, _, _, _, _⟩) (v := ?_) [] (y := Or.inl ⟨by rfl, ?_⟩) (s := hJJ.out) (H := ?_)
  rotate_left
  · rintro w ⟨up, -, hX⟩; (try dsimp only at hX); obtain ⟨x0, x1, x2, x3, x4, x5, x6, x7, x8, x9, x10, x11, x12, x13, x14, x15, x16, x17, x18, x19, x20, x21, x22, x23, x24, x25, x26, x27, x28, x29, x30, x31, x32, x33, x34, x35, x36, x37, x38, x39⟩ := hX; go_simp; try with_reducible rfl
  try simp only [putz]
  refine Goes.tk (i := 10) (o := ⟨some 69, _, _, _, _, _⟩) (v := ?_) [] (y := Or.inl ⟨by rfl, ?_⟩) (s := hJJ.out) (H := ?_)
  rotate_left
  · rintro w ⟨up, -, hX⟩; (try dsimp only at hX); obtain ⟨x0, x1, x2, x3, x4, x5, x6, x7, x8, x9, x10, x11, x12, x13, x14, x15, x16, x17, x18, x19, x20, x21, x22, x23, x24, x25, x26, x27, x28, x29, x30, x31, x32, x33, x34, x35, x36, x37, x38, x39⟩ := hX; go_simp; try with_reducible rfl
  try simp only [putz]
  clear hJJ
  refine Goes.one (i := 8) (o := ⟨some 67, _, _, _, _, _⟩) (by kernel_rfl) rfl (fun K hK => ?_)
  go_simp
  with_reducible refine (eg_of (in_any p q g a u _ PL.out QL.out AL.out EU.out) hs).mono ?_
  rintro e wn3 ⟨rfl, hs3⟩
  go_wp2_with fail
  refine hK.out _ _ (⟨(Eg.gp hs3).1, (Eg.gp hs3).2.1, (Eg.gp hs3).2.2.1, (Eg.gp hs3).2.2.2, (Eg.gq hs3).1, (Eg.gq hs3).2.1, (Eg.gq hs3).2.2.1, (Eg.gq hs3).2.2.2, (Eg.gg hs3).1, (Eg.gg hs3).2.1, (Eg.gg hs3).2.2.1, (Eg.gg hs3).2.2.2, (Eg.cell hs3 g_a (a) (by simp)).1, (Eg.cell hs3 g_a (a) (by simp)).2.1, (Eg.cell hs3 g_a (a) (by simp)).2.2.1, (Eg.cell hs3 g_a (a) (by simp)).2.2.2, (Eg.cell hs3 g7 (r0) (by simp)).1, (Eg.cell hs3 g7 (r0) (by simp)).2.1, (Eg.cell hs3 g7 (r0) (by simp)).2.2.1, (Eg.cell hs3 g7 (r0) (by simp)).2.2.2, (Eg.cell hs3 g9 (r0) (by simp)).1, (Eg.cell hs3 g9 (r0) (by simp)).2.1, (Eg.cell hs3 g9 (r0) (by simp)).2.2.1, (Eg.cell hs3 g9 (r0) (by simp)).2.2.2, (Eg.cell hs3 g11 (r1) (by simp)).1, (Eg.cell hs3 g11 (r1) (by simp)).2.1, (Eg.cell hs3 g11 (r1) (by simp)).2.2.1, (Eg.cell hs3 g11 (r1) (by simp)).2.2.2, (Eg.cell hs3 g13 (r1) (by simp)).1, (Eg.cell hs3 g13 (r1) (by simp)).2.1, (Eg.cell hs3 g13 (r1) (by simp)).2.2.1, (Eg.cell hs3 g13 (r1) (by simp)).2.2.2, (Eg.cell hs3 g15 (r2) (by simp)).1, (Eg.cell hs3 g15 (r2) (by simp)).2.1, (Eg.cell hs3 g15 (r2) (by simp)).2.2.1, (Eg.cell hs3 g15 (r2) (by simp)).2.2.2, (Eg.cell hs3 g17 (r2) (by simp)).1, (Eg.cell hs3 g17 (r2) (by simp)).2.1, (Eg.cell hs3 g17 (r2) (by simp)).2.2.1, (Eg.cell hs3 g17 (r2) (by simp)).2.2.2⟩) ?_
  clear hK K
  try simp only [putz]
  clear hs
  have hs := hs3
  clear hs3
  refine Goes.one (i := 11) (o := ⟨some 70, _, _, _, _, _⟩) (by kernel_rfl) rfl (fun K hK => ?_)
  go_simp
  with_reducible refine (eg_of (r6in_any p q g a u _ PL.out QL.out AL.out EU.out) hs).mono ?_
  rintro e wn4 ⟨rfl, hs4⟩
  go_wp2_with fail
  refine hK.out _ _ (⟨(Eg.gp hs4).1, (Eg.gp hs4).2.1, (Eg.gp hs4).2.2.1, (Eg.gp hs4).2.2.2, (Eg.gq hs4).1, (Eg.gq hs4).2.1, (Eg.gq hs4).2.2.1, (Eg.gq hs4).2.2.2, (Eg.gg hs4).1, (Eg.gg hs4).2.1, (Eg.gg hs4).2.2.1, (Eg.gg hs4).2.2.2, (Eg.cell hs4 g_a (a) (by simp)).1, (Eg.cell hs4 g_a (a) (by simp)).2.1, (Eg.cell hs4 g_a (a) (by simp)).2.2.1, (Eg.cell hs4 g_a (a) (by simp)).2.2.2, (Eg.cell hs4 g7 (r0) (by simp)).1, (Eg.cell hs4 g7 (r0) (by simp)).2.1, (Eg.cell hs4 g7 (r0) (by simp)).2.2.1, (Eg.cell hs4 g7 (r0) (by simp)).2.2.2, (Eg.cell hs4 g9 (r0) (by simp)).1, (Eg.cell hs4 g9 (r0) (by simp)).2.1, (Eg.cell hs4 g9 (r0) (by simp)).2.2.1, (Eg.cell hs4 g9 (r0) (by simp)).2.2.2, (Eg.cell hs4 g11 (r1) (by simp)).1, (Eg.cell hs4 g11 (r1) (by simp)).2.1, (Eg.cell hs4 g11 (r1) (by simp)).2.2.1, (Eg.cell hs4 g11 (r1) (by simp)).2.2.2, (Eg.cell hs4 g13 (r1) (by simp)).1, (Eg.cell hs4 g13 (r1) (by simp)).2.1, (Eg.cell hs4 g13 (r1) (by simp)).2.2.1, (Eg.cell hs4 g13 (r1) (by simp)).2.2.2, (Eg.cell hs4 g15 (r2) (by simp)).1, (Eg.cell hs4 g15 (r2) (by simp)).2.1, (Eg.cell hs4 g15 (r2) (by simp)).2.2.1, (Eg.cell hs4 g15 (r2) (by simp)).2.2.2, (Eg.cell hs4 g17 (r2) (by simp)).1, (Eg.cell hs4 g17 (r2) (by simp)).2.1, (Eg.cell hs4 g17 (r2) (by simp)).2.2.1, (Eg.cell hs4 g17 (r2) (by simp)).2.2.2⟩) ?_
  clear hK K
  try simp only [putz]
  clear hs
  have hs := hs4
  clear hs4
  have hJJ := hid (And.intro (Eg.gp hs).1 (And.intro (Eg.gp hs).2.1 (And.intro (Eg.gp hs).2.2.1 (And.intro (Eg.gp hs).2.2.2 (And.intro (Eg.gq hs).1 (And.intro (Eg.gq hs).2.1 (And.intro (Eg.gq hs).2.2.1 (And.intro (Eg.gq hs).2.2.2 (And.intro (Eg.gg hs).1 (And.intro (Eg.gg hs).2.1 (And.intro (Eg.gg hs).2.2.1 (And.intro (Eg.gg hs).2.2.2 (And.intro (Eg.cell hs g_a (a) (by simp)).1 (And.intro (Eg.cell hs g_a (a) (by simp)).2.1 (And.intro (Eg.cell hs g_a (a) (by simp)).2.2.1 (And.intro (Eg.cell hs g_a (a) (by simp)).2.2.2 (And.intro (Eg.cell hs g7 (r0) (by simp)).1 (And.intro (Eg.cell hs g7 (r0) (by simp)).2.1 (And.intro (Eg.cell hs g7 (r0) (by simp)).2.2.1 (And.intro (Eg.cell hs g7 (r0) (by simp)).2.2.2 (And.intro (Eg.cell hs g9 (r0) (by simp)).1 (And.intro (Eg.cell hs g9 (r0) (by simp)).2.1 (And.intro (Eg.cell hs g9 (r0) (by simp)).2.2.1 (And.intro (Eg.cell hs g9 (r0) (by simp)).2.2.2 (And.intro (Eg.cell hs g11 (r1) (by simp)).1 (And.intro (Eg.cell hs g11 (r1) (by simp)).2.1 (And.intro (Eg.cell hs g11 (r1) (by simp)).2.2.1 (And.intro (Eg.cell hs g11 (r1) (by simp)).2.2.2 (And.intro (Eg.cell hs g13 (r1) (by simp)).1 (And.intro (Eg.cell hs g13 (r1) (by simp)).2.1 (And.intro (Eg.cell hs g13 (r1) (by simp)).2.2.1 (And.intro (Eg.cell hs g13 (r1) (by simp)).2.2.2 (And.intro (Eg.cell hs g15 (r2) (by simp)).1 (And.intro (Eg.cell hs g15 (r2) (by simp)).2.1 (And.intro (Eg.cell hs g15 (r2) (by simp)).2.2.1 (And.intro (Eg.cell hs g15 (r2) (by simp)).2.2.2 (And.intro (Eg.cell hs g17 (r2) (by simp)).1 (And.intro (Eg.cell hs g17 (r2) (by simp)).2.1 (And.intro (Eg.cell hs g17 (r2) (by simp)).2.2.1 (Eg.cell hs g17 (r2) (by simp)).2.2.2)))))))))))))))))))))))))))))))))))))))
  refine Goes.tk (i := 12) (o := ⟨some 71, _, _, _, _, _⟩) (v := ?_) [] (y := Or.inl ⟨by rfl, ?_⟩) (s := hJJ.out) (H := ?_)
  rotate_left
  · intro w hY; go_simp; try with_reducible rfl
  try simp only [putz]
  refine Goes.tk (i := 13) (o := ⟨some 72, _, _, _, _, _⟩) (v := ?_) [] (y := Or.inl ⟨by rfl, ?_⟩) (s := hJJ.out) (H := ?_)
  rotate_left
  · intro w hY; go_simp; try with_reducible rfl
  try simp only [putz]
  refine Goes.tk (i := 14) (o := ⟨some 73, _, _, _, _, _⟩) (v := ?_) [] (y := Or.inl ⟨by rfl, ?_⟩) (s := hJJ.out) (H := ?_)
  rotate_left
  · intro w hY; go_simp; try with_reducible rfl
  try simp only [putz]
  refine Goes.tk (i := 15) (o := ⟨some 74, _, _, _, _, _⟩) (v := ?_) [] (y := Or.inl ⟨by rfl, ?_⟩) (s := hJJ.out) (H := ?_)
  rotate_left
  · rintro w ⟨up, -, hX⟩; (try dsimp only at hX); obtain ⟨x0, x1, x2, x3, x4, x5, x6, x7, x8, x9, x10, x11, x12, x13, x14, x15, x16, x17, x18, x19, x20, x21, x22, x23, x24, x25, x26, x27, x28, x29, x30, x31, x32, x33, x34, x35, x36, x37, x38, x39⟩ := hX; go_simp; try with_reducible rfl
  try simp only [putz]
  refine Goes.tk (i := 16) (o := ⟨some 75, _, _, _, _, _⟩) (v := ?_) [] (y := Or.inl ⟨by rfl, ?_⟩) (s := hJJ.out) (H := ?_)
  rotate_left
  · rintro w ⟨up, -, hX⟩; (try dsimp only at hX); obtain ⟨x0, x1, x2, x3, x4, x5, x6, x7, x8, x9, x10, x11, x12, x13, x14, x15, x16, x17, x18, x19, x20, x21, x22, x23, x24, x25, x26, x27, x28, x29, x30, x31, x32, x33, x34, x35, x36, x37, x38, x39⟩ := hX; go_simp; try with_reducible rfl
  try simp only [putz]
  refine Goes.tk (i := 17) (o := ⟨some 76, _, _, _, _, _⟩) (v := ?_) [] (y := Or.inl ⟨by rfl, ?_⟩) (s := hJJ.out) (H := ?_)
  rotate_left
  · intro w hY; go_simp; try with_reducible rfl
  try simp only [putz]
  refine Goes.tk (i := 18) (o := ⟨some 77, _, _, _, _, _⟩) (v := ?_) [] (y := Or.inl ⟨by rfl, ?_⟩) (s := hJJ.out) (H := ?_)
  rotate_left
  · intro w hY; go_simp; try with_reducible rfl
  try simp only [putz]
  refine Goes.tk (i := 19) (o := ⟨some 78, _, _, _, _, _⟩) (v := ?_) [] (y := Or.inl ⟨by rfl, ?_⟩) (s := hJJ.out) (H := ?_)
  rotate_left
  · intro w hY; go_simp; try with_reducible rfl
  try simp only [putz]
  refine Goes.tk (i := 20) (o := ⟨some 79, _, _, _, _, _⟩) (v := ?_) [] (y := Or.inl ⟨by rfl, ?_⟩) (s := hJJ.out) (H := ?_)
  rotate_left
  · intro w hY; go_simp; try with_reducible rfl
  try simp only [putz]
  refine Goes.tk (i := 21) (o := ⟨some 80, _, _, _, _, _⟩) (v := ?_) [] (y := Or.inl ⟨by rfl, ?_⟩) (s := hJJ.out) (H := ?_)
  rotate_left
  · intro w hY; go_simp; try with_reducible rfl
  try simp only [putz]
  refine Goes.tk (i := 22) (o := ⟨some 81, _, _, _, _, _⟩) (v := ?_) [] (y := Or.inl ⟨by rfl, ?_⟩) (s := hJJ.out) (H := ?_)
  rotate_left
  · intro w hY; go_simp; try with_reducible rfl
  try simp only [putz]
  refine Goes.tk (i := 23) (o := ⟨some 82, _, _, _, _, _⟩) (v := ?_) [] (y := Or.inl ⟨by rfl, ?_⟩) (s := hJJ.out) (H := ?_)
  rotate_left
  · intro w hY; go_simp; try with_reducible rfl
  try simp only [putz]
  refine Goes.tk (i := 24) (o := ⟨some 83, _, _, _, _, _⟩) (v := ?_) [] (y := Or.inl ⟨by rfl, ?_⟩) (s := hJJ.out) (H := ?_)
  rotate_left
  · intro w hY; go_simp; try with_reducible rfl
  try simp only [putz]
  refine Goes.tk (i := 25) (o := ⟨some 84, _, _, _, _, _⟩) (v := ?_) [] (y := Or.inl ⟨by rfl, ?_⟩) (s := hJJ.out) (H := ?_)
  rotate_left
  · rintro w ⟨up, -, hX⟩; (try dsimp only at hX); obtain ⟨x0, x1, x2, x3, x4, x5, x6, x7, x8, x9, x10, x11, x12, x13, x14, x15, x16, x17, x18, x19, x20, x21, x22, x23, x24, x25, x26, x27, x28, x29, x30, x31, x32, x33, x34, x35, x36, x37, x38, x39⟩ := hX; go_simp; try with_reducible rfl
  try simp only [putz]
  refine Goes.tk (i := 26) (o := ⟨some 85, _, _, _, _, _⟩) (v := ?_) [] (y := Or.inl ⟨by rfl, ?_⟩) (s := hJJ.out) (H := ?_)
  rotate_left
  · rintro w ⟨up, -, hX⟩; (try dsimp only at hX); obtain ⟨x0, x1, x2, x3, x4, x5, x6, x7, x8, x9, x10, x11, x12, x13, x14, x15, x16, x17, x18, x19, x20, x21, x22, x23, x24, x25, x26, x27, x28, x29, x30, x31, x32, x33, x34, x35, x36, x37, x38, x39⟩ := hX; go_simp; try with_reducible rfl
  try simp only [putz]
  refine Goes.tk (i := 27) (o := ⟨some 86, _, _, _, _, _⟩) (v := ?_) [] (y := Or.inl ⟨by rfl, ?_⟩) (s := hJJ.out) (H := ?_)
  rotate_left
  · intro w hY; go_simp; try with_reducible rfl
  try simp only [putz]
  refine Goes.tk (i := 28) (o := ⟨some 87, _, _, _, _, _⟩) (v := ?_) [] (y := Or.inl ⟨by rfl, ?_⟩) (s := hJJ.out) (H := ?_)
  rotate_left
  · intro w hY; go_simp; try with_reducible rfl
  try simp only [putz]
  refine Goes.tk (i := 29) (o := ⟨some 88, _, _, _, _, _⟩) (v := ?_) [] (y := Or.inl ⟨by rfl, ?_⟩) (s := hJJ.out) (H := ?_)
  rotate_left
  · intro w hY; go_simp; try with_reducible rfl
  try simp only [putz]
  refine Goes.tk (i := 30) (o := ⟨some 89, _, _, _, _, _⟩) (v := ?_) [] (y := Or.inl ⟨by rfl, ?_⟩) (s := hJJ.out) (H := ?_)
  rotate_left
  · intro w hY; go_simp; try with_reducible rfl
  try simp only [putz]
  refine Goes.tk (i := 31) (o := ⟨some 90, _, _, _, _, _⟩) (v := ?_) [] (y := Or.inl ⟨by rfl, ?_⟩) (s := hJJ.out) (H := ?_)
  rotate_left
  · intro w hY; go_simp; try with_reducible rfl
  try simp only [putz]
  refine Goes.tk (i := 32) (o := ⟨some 91, _, _, _, _, _⟩) (v := ?_) [] (y := Or.inl ⟨by rfl, ?_⟩) (s := hJJ.out) (H := ?_)
  rotate_left
  · intro w hY; go_simp; try with_reducible rfl
  try simp only [putz]
  refine Goes.tk (i := 33) (o := ⟨some 92, _, _, _, _, _⟩) (v := ?_) [] (y := Or.inl ⟨by rfl, ?_⟩) (s := hJJ.out) (H := ?_)
  rotate_left
  · intro w hY; go_simp; try with_reducible rfl
  try simp only [putz]
  refine Goes.tk (i := 34) (o := ⟨some 93, _, _, _, _, _⟩) (v := ?_) [] (y := Or.inl ⟨by rfl, ?_⟩) (s := hJJ.out) (H := ?_)
  rotate_left
  · intro w hY; go_simp; try with_reducible rfl
  try simp only [putz]
  refine Goes.tk (i := 35) (o := ⟨some 94, _, _, _, _, _⟩) (v := ?_) [] (y := Or.inl ⟨by rfl, ?_⟩) (s := hJJ.out) (H := ?_)
  rotate_left
  · rintro w ⟨up, -, hX⟩; (try dsimp only at hX); obtain ⟨x0, x1, x2, x3, x4, x5, x6, x7, x8, x9, x10, x11, x12, x13, x14, x15, x16, x17, x18, x19, x20, x21, x22, x23, x24, x25, x26, x27, x28, x29, x30, x31, x32, x33, x34, x35, x36, x37, x38, x39⟩ := hX; go_simp; try with_reducible rfl
  try simp only [putz]
  refine Goes.tk (i := 36) (o := ⟨some 95, _, _, _, _, _⟩) (v := ?_) [] (y := Or.inl ⟨by rfl, ?_⟩) (s := hJJ.out) (H := ?_)
  rotate_left
  · rintro w ⟨up, -, hX⟩; (try dsimp only at hX); obtain ⟨x0, x1, x2, x3, x4, x5, x6, x7, x8, x9, x10, x11, x12, x13, x14, x15, x16, x17, x18, x19, x20, x21, x22, x23, x24, x25, x26, x27, x28, x29, x30, x31, x32, x33, x34, x35, x36, x37, x38, x39⟩ := hX; go_simp; try with_reducible rfl
  try simp only [putz]
  refine Goes.tk (i := 37) (o := ⟨some 96, _, _, _, _, _⟩) (v := ?_) [] (y := Or.inl ⟨by rfl, ?_⟩) (s := hJJ.out) (H := ?_)
  rotate_left
  · intro w hY; go_simp; try with_reducible rfl
  try simp only [putz]
  refine Goes.tk (i := 38) (o := ⟨some 97, _, _, _, _, _⟩) (v := ?_) [] (y := Or.inl ⟨by rfl, ?_⟩) (s := hJJ.out) (H := ?_)
  rotate_left
  · intro w hY; go_simp; try with_reducible rfl
  try simp only [putz]
  refine Goes.tk (i := 39) (o := ⟨some 98, _, _, _, _, _⟩) (v := ?_) [] (y := Or.inl ⟨by rfl, ?_⟩) (s := hJJ.out) (H := ?_)
  rotate_left
  · intro w hY; go_simp; try with_reducible rfl
  try simp only [putz]
  refine Goes.tk (i := 40) (o := ⟨some 99, _, _, _, _, _⟩) (v := ?_) [] (y := Or.inl ⟨by rfl, ?_⟩) (s := hJJ.out) (H := ?_)
  rotate_left
  · intro w hY; go_simp; try with_reducible rfl
  try simp only [putz]
  refine Goes.tk (i := 41) (o := ⟨some 100, _, _, _, _, _⟩) (v := ?_) [] (y := Or.inl ⟨by rfl, ?_⟩) (s := hJJ.out) (H := ?_)
  rotate_left
  · intro w hY; go_simp; try with_reducible rfl
  try simp only [putz]
  refine Goes.tk (i := 42) (o := ⟨some 101, _, _, _, _, _⟩) (v := ?_) [] (y := Or.inl ⟨by rfl, ?_⟩) (s := hJJ.out) (H := ?_)
  rotate_left
  · intro w hY; go_simp; try with_reducible rfl
  try simp only [putz]
  refine Goes.tk (i := 43) (o := ⟨some 102, _, _, _, _, _⟩) (v := ?_) [] (y := Or.inl ⟨by rfl, ?_⟩) (s := hJJ.out) (H := ?_)
  rotate_left
  · intro w hY; go_simp; try with_reducible rfl
  try simp only [putz]
  refine Goes.tk (i := 44) (o := ⟨some 103, _, _, _, _, _⟩) (v := ?_) [] (y := Or.inl ⟨by rfl, ?_⟩) (s := hJJ.out) (H := ?_)
  rotate_left
  · intro w hY; go_simp; try with_reducible rfl
  try simp only [putz]
  clear hJJ
  refine Goes.one (i := 45) (o := ⟨some 104, _, _, _, _, _⟩) (by kernel_rfl) rfl (fun K hK => ?_)
  go_simp
  with_reducible refine (eg_at (lives_at (Env.refl _)) hs).mono ?_
  rintro e wn5 ⟨rfl, hs5⟩
  go_wp2_with fail
  refine hK.out _ _ (⟨(Eg.gp hs5).1, (Eg.gp hs5).2.1, (Eg.gp hs5).2.2.1, (Eg.gp hs5).2.2.2, (Eg.gq hs5).1, (Eg.gq hs5).2.1, (Eg.gq hs5).2.2.1, (Eg.gq hs5).2.2.2, (Eg.gg hs5).1, (Eg.gg hs5).2.1, (Eg.gg hs5).2.2.1, (Eg.gg hs5).2.2.2, (Eg.cell hs5 g_a (a) (by simp)).1, (Eg.cell hs5 g_a (a) (by simp)).2.1, (Eg.cell hs5 g_a (a) (by simp)).2.2.1, (Eg.cell hs5 g_a (a) (by simp)).2.2.2, (Eg.cell hs5 g7 (r0) (by simp)).1, (Eg.cell hs5 g7 (r0) (by simp)).2.1, (Eg.cell hs5 g7 (r0) (by simp)).2.2.1, (Eg.cell hs5 g7 (r0) (by simp)).2.2.2, (Eg.cell hs5 g9 (r0) (by simp)).1, (Eg.cell hs5 g9 (r0) (by simp)).2.1, (Eg.cell hs5 g9 (r0) (by simp)).2.2.1, (Eg.cell hs5 g9 (r0) (by simp)).2.2.2, (Eg.cell hs5 g11 (r1) (by simp)).1, (Eg.cell hs5 g11 (r1) (by simp)).2.1, (Eg.cell hs5 g11 (r1) (by simp)).2.2.1, (Eg.cell hs5 g11 (r1) (by simp)).2.2.2, (Eg.cell hs5 g13 (r1) (by simp)).1, (Eg.cell hs5 g13 (r1) (by simp)).2.1, (Eg.cell hs5 g13 (r1) (by simp)).2.2.1, (Eg.cell hs5 g13 (r1) (by simp)).2.2.2, (Eg.cell hs5 g15 (r2) (by simp)).1, (Eg.cell hs5 g15 (r2) (by simp)).2.1, (Eg.cell hs5 g15 (r2) (by simp)).2.2.1, (Eg.cell hs5 g15 (r2) (by simp)).2.2.2, (Eg.cell hs5 g17 (r2) (by simp)).1, (Eg.cell hs5 g17 (r2) (by simp)).2.1, (Eg.cell hs5 g17 (r2) (by simp)).2.2.1, (Eg.cell hs5 g17 (r2) (by simp)).2.2.2⟩) ?_
  clear hK K
  try simp only [putz]
  clear hs
  have hs := hs5
  clear hs5
  have hJJ := hid (And.intro (Eg.gp hs).1 (And.intro (Eg.gp hs).2.1 (And.intro (Eg.gp hs).2.2.1 (And.intro (Eg.gp hs).2.2.2 (And.intro (Eg.gq hs).1 (And.intro (Eg.gq hs).2.1 (And.intro (Eg.gq hs).2.2.1 (And.intro (Eg.gq hs).2.2.2 (And.intro (Eg.gg hs).1 (And.intro (Eg.gg hs).2.1 (And.intro (Eg.gg hs).2.2.1 (And.intro (Eg.gg hs).2.2.2 (And.intro (Eg.cell hs g_a (a) (by simp)).1 (And.intro (Eg.cell hs g_a (a) (by simp)).2.1 (And.intro (Eg.cell hs g_a (a) (by simp)).2.2.1 (And.intro (Eg.cell hs g_a (a) (by simp)).2.2.2 (And.intro (Eg.cell hs g7 (r0) (by simp)).1 (And.intro (Eg.cell hs g7 (r0) (by simp)).2.1 (And.intro (Eg.cell hs g7 (r0) (by simp)).2.2.1 (And.intro (Eg.cell hs g7 (r0) (by simp)).2.2.2 (And.intro (Eg.cell hs g9 (r0) (by simp)).1 (And.intro (Eg.cell hs g9 (r0) (by simp)).2.1 (And.intro (Eg.cell hs g9 (r0) (by simp)).2.2.1 (And.intro (Eg.cell hs g9 (r0) (by simp)).2.2.2 (And.intro (Eg.cell hs g11 (r1) (by simp)).1 (And.intro (Eg.cell hs g11 (r1) (by simp)).2.1 (And.intro (Eg.cell hs g11 (r1) (by simp)).2.2.1 (And.intro (Eg.cell hs g11 (r1) (by simp)).2.2.2 (And.intro (Eg.cell hs g13 (r1) (by simp)).1 (And.intro (Eg.cell hs g13 (r1) (by simp)).2.1 (And.intro (Eg.cell hs g13 (r1) (by simp)).2.2.1 (And.intro (Eg.cell hs g13 (r1) (by simp)).2.2.2 (And.intro (Eg.cell hs g15 (r2) (by simp)).1 (And.intro (Eg.cell hs g15 (r2) (by simp)).2.1 (And.intro (Eg.cell hs g15 (r2) (by simp)).2.2.1 (And.intro (Eg.cell hs g15 (r2) (by simp)).2.2.2 (And.intro (Eg.cell hs g17 (r2) (by simp)).1 (And.intro (Eg.cell hs g17 (r2) (by simp)).2.1 (And.intro (Eg.cell hs g17 (r2) (by simp)).2.2.1 (Eg.cell hs g17 (r2) (by simp)).2.2.2)))))))))))))))))))))))))))))))))))))))
  refine Goes.tk (i := 46) (o := ⟨some 105, _, _, _, _, _⟩) (v := ?_) [] (y := Or.inl ⟨by rfl, ?_⟩) (s := hJJ.out) (H := ?_)
  rotate_left
  · intro w hY; go_simp; try with_reducible rfl
  try simp only [putz]
  refine Goes.tk (i := 47) (o := ⟨some 6, _, _, _, _, _⟩) (v := ?_) [] (y := Or.inl ⟨by rfl, ?_⟩) (s := hJJ.out) (H := ?_)
  rotate_left
  · intro w hY; go_simp; try with_reducible rfl
  try simp only [putz]
  clear hJJ
  refine Goes.done (by kernel_rfl) ?_ _
  refine NoPanic.normal ?_
  go_wp2_with fail
  try go_ret
  first | exact ⟨rfl, by first | exact hs.1.1 | (rw [← hzg_p]; exact hs.1.1)⟩ | exact bodyPost_ret (v := .bool true) (by simp [results, Try.results3, go_sem]) rfl ⟨rfl, by first | exact hs.1.1 | (rw [← hzg_p]; exact hs.1.1)⟩
end Go.Proofs.Ytaggegknnnembaa
