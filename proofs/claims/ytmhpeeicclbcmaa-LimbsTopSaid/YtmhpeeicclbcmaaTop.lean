/-
  burrowlaw02.LimbsTop, walked: it answers true at any two long numbers. Conditions: none.
-/
import Derived.Test.YtmhpeeicclbcmaaAlive
import Derived.Test.YtmhpeeicclbcmaaFacts
import Derived.Deep.RegionWith
import Derived.Deep.DeepCutAuto
namespace Go.Proofs.Ytmhpeeicclbcmaa
open Go.RowKit
set_option linter.unusedVariables false

theorem nbits_two (n k : Nat) (h1 : 2 ^ k ≤ n) (h2 : n < 2 ^ k + 2 ^ k) : nbits n = k + 1 := nbits_of n k h1 (by rw [Nat.pow_succ]; omega)
theorem nbits_lo (a b : Nat) (h : a * b / 2 ^ 256 = 0) : nbits (a * b) = nbits (a * b % 2 ^ 256) := by
  rw [Nat.mod_eq_of_lt]
  exact (Nat.div_eq_zero_iff_lt (Nat.two_pow_pos 256)).1 h
theorem nbits_hi (a b : Nat) (h : a * b / 2 ^ 256 ≠ 0) : nbits (a * b) = 256 + nbits (a * b / 2 ^ 256) := by
  have := nbits_top (a * b / 2 ^ 256) (a * b % 2 ^ 256) 256 (Nat.mod_lt _ (Nat.two_pow_pos 256)) (by omega)
  rw [Nat.mod_add_div] at this
  exact this

set_option maxRecDepth 100000 in
set_option maxHeartbeats 1600000 in
theorem top_first (b : Nat) (w : World) (hb : b < 2 ^ 256) : Calls Try.prog 8 #[num 0, num b] w fun e w' => e = .returned (.bool true) ∧ Below w.heap.size w w' := by
  have HB := hid hb
  have q3 := eq_yes 0 0 rfl
  obtain ⟨X, e7⟩ : ∃ y : Int, Hid ((nbits b : Int) = y) := ⟨_, hid rfl⟩
  have hX : 0 ≤ X ∧ X ≤ 256 := by have := nbits_256 b hb; have := e7.out; omega
  obtain ⟨hX0, hX1⟩ := hX
  have e1 : Hid (0 * b % 2 ^ 256 = 0) := hid (by simp)
  have e2 : Hid (0 * b / 2 ^ 256 = 0) := hid (by simp)
  clear hb
  have H0 := hid ((Env.refl w).new2 0 b)
  go_enter Try.func8, Try.ntmps8
  go_wp2_with fail
  generalize (w.alloc (.cells (cls 0) 24)).alloc (.cells (cls b) 24) = w0 at *
  generalize w.heap.size + 1 = gb at *
  generalize w.heap.size = ga at *
  refine (mul_at 0 b 0 0 H0.out (by decide) HB.out e1.out e2.out).mono ?_
  rintro e w1 ⟨rfl, h⟩
  have H1 := hid h
  clear h H0
  go_wp2_with fail
  have H1b := hid (H1.out.new2 0 0)
  clear H1
  generalize (w1.alloc (.cells (cls 0) 24)).alloc (.cells (cls 0) 24) = w1b at *
  generalize w1.heap.size + 1 = g5s at *
  generalize w1.heap.size = g5 at *
  refine (bits_at 0 0 H1b.out (by decide) (by decide)).mono ?_
  rintro e w2 ⟨rfl, h⟩
  have H2 := hid h
  clear h H1b
  go_wp2_with fail
  have hD := H2.out.drew
  go_region_held3 (fun w' => (w'.cell? ⟨g5s, 0, none⟩ = some (.int .u64 (wd 0 0 : Int)) ∧ w'.cell? ⟨g5s, 1, none⟩ = some (.int .u64 (wd 0 1 : Int)) ∧ w'.cell? ⟨g5s, 2, none⟩ = some (.int .u64 (wd 0 2 : Int)) ∧ w'.cell? ⟨g5s, 3, none⟩ = some (.int .u64 (wd 0 3 : Int)))) (exact Env.cell (by assumption) _ _ (by simp)) (first | ((go_at_call 28); (with_reducible refine (none_at (by assumption)).mono ?_); rintro e wn ⟨rfl, hs⟩))
  have H3 := hid hs
  clear hs hD H2
  go_wp2_with fail
  have w1 : IntKind.i64.wrap (X + 0) = X + 0 := IntWalk.i64_in _ (by omega)
  have w2 : IntKind.i64.wrap (0 + X) = 0 + X := IntWalk.i64_in _ (by omega)
  have w3 : IntKind.i64.wrap X = X := IntWalk.i64_in _ (by omega)
  have hD := H3.out.drew
  go_region_held3 (fun w' => (w'.cell? ⟨ga, 0, none⟩ = some (.int .u64 (wd 0 0 : Int)) ∧ w'.cell? ⟨ga, 1, none⟩ = some (.int .u64 (wd 0 1 : Int)) ∧ w'.cell? ⟨ga, 2, none⟩ = some (.int .u64 (wd 0 2 : Int)) ∧ w'.cell? ⟨ga, 3, none⟩ = some (.int .u64 (wd 0 3 : Int))) ∧ (w'.cell? ⟨gb, 0, none⟩ = some (.int .u64 (wd b 0 : Int)) ∧ w'.cell? ⟨gb, 1, none⟩ = some (.int .u64 (wd b 1 : Int)) ∧ w'.cell? ⟨gb, 2, none⟩ = some (.int .u64 (wd b 2 : Int)) ∧ w'.cell? ⟨gb, 3, none⟩ = some (.int .u64 (wd b 3 : Int)))) (exact ⟨Env.cell (by assumption) _ _ (by simp), Env.cell (by assumption) _ _ (by simp)⟩) (first | ((go_at_call 20); (with_reducible refine (bits_at b X (by assumption) HB.out e7.out).mono ?_); rintro e wn ⟨rfl, hs⟩) | ((go_at_call 20); (with_reducible refine (bits_at 0 0 (by assumption) (by decide) (by decide)).mono ?_); rintro e wn ⟨rfl, hs⟩))
  have H4 := hid hs
  clear hs hD H3
  clear w1 w2 w3
  go_wp2_with fail
  obtain ⟨c0, c1, c2, c3⟩ := H4.out.cell ga 0 (by simp)
  have hD := H4.out.drew
  go_cut [39] (fun s39 wx => s39 = .bool true ∧ Hid (Env w [(g5s, 0), (g5, 0), (gb, b), (ga, 0)] wx))
  case first =>
    go_region_with ((go_at_call 28); (with_reducible refine (none_at (by assumption)).mono ?_); rintro e wn ⟨rfl, hs⟩; obtain ⟨d0, d1, d2, d3⟩ := hs.cell ga 0 (by simp))
    all_goals
      go_wp2_with fail
      go_meet
      exact ⟨rfl, hid hs⟩
  case rest =>
    obtain ⟨rfl, H5⟩ := hcut
    clear c0 c1 c2 c3 hD H4
    go_wp2_with fail
    refine (alive_at H5.out).mono ?_
    rintro e w6 ⟨rfl, h⟩
    have H6 := hid h
    clear h H5
    go_wp2
    go_ret
    exact ⟨rfl, H6.out.1⟩

set_option maxRecDepth 100000 in
set_option maxHeartbeats 1600000 in
theorem top_second (a : Nat) (w : World) (ha : a < 2 ^ 256) (ha0 : a ≠ 0) : Calls Try.prog 8 #[num a, num 0] w fun e w' => e = .returned (.bool true) ∧ Below w.heap.size w w' := by
  have HA := hid ha
  have q1 := eq_no a 0 ha (by decide) ha0
  have q3 := eq_yes 0 0 rfl
  obtain ⟨X, e7⟩ : ∃ y : Int, Hid ((nbits a : Int) = y) := ⟨_, hid rfl⟩
  have hX : 0 ≤ X ∧ X ≤ 256 := by have := nbits_256 a ha; have := e7.out; omega
  obtain ⟨hX0, hX1⟩ := hX
  have e1 : Hid (a * 0 % 2 ^ 256 = 0) := hid (by simp)
  have e2 : Hid (a * 0 / 2 ^ 256 = 0) := hid (by simp)
  clear ha ha0
  have H0 := hid ((Env.refl w).new2 a 0)
  go_enter Try.func8, Try.ntmps8
  go_wp2_with fail
  generalize (w.alloc (.cells (cls a) 24)).alloc (.cells (cls 0) 24) = w0 at *
  generalize w.heap.size + 1 = gb at *
  generalize w.heap.size = ga at *
  refine (mul_at a 0 0 0 H0.out HA.out (by decide) e1.out e2.out).mono ?_
  rintro e w1 ⟨rfl, h⟩
  have H1 := hid h
  clear h H0
  go_wp2_with fail
  have H1b := hid (H1.out.new2 0 0)
  clear H1
  generalize (w1.alloc (.cells (cls 0) 24)).alloc (.cells (cls 0) 24) = w1b at *
  generalize w1.heap.size + 1 = g5s at *
  generalize w1.heap.size = g5 at *
  refine (bits_at 0 0 H1b.out (by decide) (by decide)).mono ?_
  rintro e w2 ⟨rfl, h⟩
  have H2 := hid h
  clear h H1b
  go_wp2_with fail
  have hD := H2.out.drew
  go_region_held3 (fun w' => (w'.cell? ⟨g5s, 0, none⟩ = some (.int .u64 (wd 0 0 : Int)) ∧ w'.cell? ⟨g5s, 1, none⟩ = some (.int .u64 (wd 0 1 : Int)) ∧ w'.cell? ⟨g5s, 2, none⟩ = some (.int .u64 (wd 0 2 : Int)) ∧ w'.cell? ⟨g5s, 3, none⟩ = some (.int .u64 (wd 0 3 : Int)))) (exact Env.cell (by assumption) _ _ (by simp)) (first | ((go_at_call 28); (with_reducible refine (none_at (by assumption)).mono ?_); rintro e wn ⟨rfl, hs⟩))
  have H3 := hid hs
  clear hs hD H2
  go_wp2_with fail
  have w1 : IntKind.i64.wrap (X + 0) = X + 0 := IntWalk.i64_in _ (by omega)
  have w2 : IntKind.i64.wrap (0 + X) = 0 + X := IntWalk.i64_in _ (by omega)
  have w3 : IntKind.i64.wrap X = X := IntWalk.i64_in _ (by omega)
  have hD := H3.out.drew
  go_region_held3 (fun w' => (w'.cell? ⟨ga, 0, none⟩ = some (.int .u64 (wd a 0 : Int)) ∧ w'.cell? ⟨ga, 1, none⟩ = some (.int .u64 (wd a 1 : Int)) ∧ w'.cell? ⟨ga, 2, none⟩ = some (.int .u64 (wd a 2 : Int)) ∧ w'.cell? ⟨ga, 3, none⟩ = some (.int .u64 (wd a 3 : Int))) ∧ (w'.cell? ⟨gb, 0, none⟩ = some (.int .u64 (wd 0 0 : Int)) ∧ w'.cell? ⟨gb, 1, none⟩ = some (.int .u64 (wd 0 1 : Int)) ∧ w'.cell? ⟨gb, 2, none⟩ = some (.int .u64 (wd 0 2 : Int)) ∧ w'.cell? ⟨gb, 3, none⟩ = some (.int .u64 (wd 0 3 : Int)))) (exact ⟨Env.cell (by assumption) _ _ (by simp), Env.cell (by assumption) _ _ (by simp)⟩) (first | ((go_at_call 20); (with_reducible refine (bits_at a X (by assumption) HA.out e7.out).mono ?_); rintro e wn ⟨rfl, hs⟩) | ((go_at_call 20); (with_reducible refine (bits_at 0 0 (by assumption) (by decide) (by decide)).mono ?_); rintro e wn ⟨rfl, hs⟩))
  have H4 := hid hs
  clear hs hD H3
  clear w1 w2 w3
  go_wp2_with fail
  have hD := H4.out.drew
  go_region_held3 (fun w' => (w'.cell? ⟨ga, 0, none⟩ = some (.int .u64 (wd a 0 : Int)) ∧ w'.cell? ⟨ga, 1, none⟩ = some (.int .u64 (wd a 1 : Int)) ∧ w'.cell? ⟨ga, 2, none⟩ = some (.int .u64 (wd a 2 : Int)) ∧ w'.cell? ⟨ga, 3, none⟩ = some (.int .u64 (wd a 3 : Int))) ∧ (w'.cell? ⟨gb, 0, none⟩ = some (.int .u64 (wd 0 0 : Int)) ∧ w'.cell? ⟨gb, 1, none⟩ = some (.int .u64 (wd 0 1 : Int)) ∧ w'.cell? ⟨gb, 2, none⟩ = some (.int .u64 (wd 0 2 : Int)) ∧ w'.cell? ⟨gb, 3, none⟩ = some (.int .u64 (wd 0 3 : Int)))) (exact ⟨Env.cell (by assumption) _ _ (by simp), Env.cell (by assumption) _ _ (by simp)⟩) (first | ((go_at_call 28); (with_reducible refine (none_at (by assumption)).mono ?_); rintro e wn ⟨rfl, hs⟩))
  have H5 := hid hs
  clear hs hD H4
  go_wp2_with fail
  refine (alive_at H5.out).mono ?_
  rintro e w6 ⟨rfl, h⟩
  have H6 := hid h
  clear h H5
  go_wp2
  go_ret
  exact ⟨rfl, H6.out.1⟩

set_option maxRecDepth 100000 in
set_option maxHeartbeats 1600000 in
theorem top_low_in (a b : Nat) (w : World) (ha : a < 2 ^ 256) (hb : b < 2 ^ 256) (ha0 : a ≠ 0) (hb0 : b ≠ 0) (hh : a * b / 2 ^ 256 = 0) (hz : a + b < 2 ^ 256) : Calls Try.prog 8 #[num a, num b] w fun e w' => e = .returned (.bool true) ∧ Below w.heap.size w w' := by
  have HA := hid ha
  have HB := hid hb
  have q1 := eq_no a 0 ha (by decide) (by omega)
  have q2 := eq_no b 0 hb (by decide) (by omega)
  obtain ⟨lo, e1, n1⟩ : ∃ y, Hid (a * b % 2 ^ 256 = y) ∧ Hid (y < 2 ^ 256) := ⟨_, hid rfl, hid (Nat.mod_lt _ (Nat.two_pow_pos 256))⟩
  have e2 := hid hh
  have q3 := eq_yes 0 0 rfl
  obtain ⟨nl, e3⟩ : ∃ y : Int, Hid ((nbits lo : Int) = y) := ⟨_, hid rfl⟩
  have e6 : Hid (((nbits (a * b) : Nat) : Int) = nl) := hid (by rw [← e3.out, ← e1.out, nbits_lo a b hh])
  obtain ⟨A, e7⟩ : ∃ y : Int, Hid ((nbits a : Int) = y) := ⟨_, hid rfl⟩
  obtain ⟨B, e8⟩ : ∃ y : Int, Hid ((nbits b : Int) = y) := ⟨_, hid rfl⟩
  have hAB : 0 ≤ A ∧ A ≤ 256 ∧ 0 ≤ B ∧ B ≤ 256 := by have := nbits_256 a ha; have := nbits_256 b hb; have := e7.out; have := e8.out; omega
  obtain ⟨hA0, hA1, hB0, hB1⟩ := hAB
  obtain ⟨s, e9, n9⟩ : ∃ y, Hid ((a + b) % 2 ^ 256 = y) ∧ Hid (y < 2 ^ 256) := ⟨_, hid rfl, hid (Nat.mod_lt _ (Nat.two_pow_pos 256))⟩
  obtain ⟨ks, e11⟩ : ∃ y : Int, Hid ((nbits s : Int) = y) := ⟨_, hid rfl⟩
  have e10 : Hid ((((a + b) / 2 ^ 256 : Nat) : Int) = 0) := hid (by rw [Nat.div_eq_of_lt hz]; rfl)
  have e12 : Hid (((nbits (a + b) : Nat) : Int) = ks) := hid (by rw [← e11.out, ← e9.out, Nat.mod_eq_of_lt hz])
  have m1 : nl = A + B ∨ nl = A + B - 1 := by have := nbits_mul a b (by omega) (by omega); have := e6.out; have := e7.out; have := e8.out; omega
  have m2 : ks = max A B ∨ ks = max A B + 1 := by have := nbits_add a b; have := e12.out; have := e7.out; have := e8.out; omega
  have M1 := hid m1
  have M2 := hid m2
  clear ha hb ha0 hb0 hh hz m1 m2
  have H0 := hid ((Env.refl w).new2 a b)
  go_enter Try.func8, Try.ntmps8
  go_wp2_with fail
  generalize (w.alloc (.cells (cls a) 24)).alloc (.cells (cls b) 24) = w0 at *
  generalize w.heap.size + 1 = gb at *
  generalize w.heap.size = ga at *
  refine (mul_at a b lo 0 H0.out HA.out HB.out e1.out e2.out).mono ?_
  rintro e w1 ⟨rfl, h⟩
  have H1 := hid h
  clear h H0
  go_wp2_with fail
  have H1b := hid (H1.out.new2 lo 0)
  clear H1
  generalize (w1.alloc (.cells (cls lo) 24)).alloc (.cells (cls 0) 24) = w1b at *
  generalize w1.heap.size + 1 = g5s at *
  generalize w1.heap.size = g5 at *
  refine (bits_at lo nl H1b.out n1.out e3.out).mono ?_
  rintro e w2 ⟨rfl, h⟩
  have H2 := hid h
  clear h H1b
  go_wp2_with fail
  have hD := H2.out.drew
  go_region_held3 (fun w' => (w'.cell? ⟨g5s, 0, none⟩ = some (.int .u64 (wd 0 0 : Int)) ∧ w'.cell? ⟨g5s, 1, none⟩ = some (.int .u64 (wd 0 1 : Int)) ∧ w'.cell? ⟨g5s, 2, none⟩ = some (.int .u64 (wd 0 2 : Int)) ∧ w'.cell? ⟨g5s, 3, none⟩ = some (.int .u64 (wd 0 3 : Int)))) (exact Env.cell (by assumption) _ _ (by simp)) (first | ((go_at_call 28); (with_reducible refine (none_at (by assumption)).mono ?_); rintro e wn ⟨rfl, hs⟩))
  have H3 := hid hs
  clear hs hD H2
  clear q3
  go_wp2_with fail
  have w1 : IntKind.i64.wrap (A + B) = A + B := IntWalk.i64_in _ (by omega)
  have hD := H3.out.drew
  go_region_held3 (fun w' => (w'.cell? ⟨ga, 0, none⟩ = some (.int .u64 (wd a 0 : Int)) ∧ w'.cell? ⟨ga, 1, none⟩ = some (.int .u64 (wd a 1 : Int)) ∧ w'.cell? ⟨ga, 2, none⟩ = some (.int .u64 (wd a 2 : Int)) ∧ w'.cell? ⟨ga, 3, none⟩ = some (.int .u64 (wd a 3 : Int))) ∧ (w'.cell? ⟨gb, 0, none⟩ = some (.int .u64 (wd b 0 : Int)) ∧ w'.cell? ⟨gb, 1, none⟩ = some (.int .u64 (wd b 1 : Int)) ∧ w'.cell? ⟨gb, 2, none⟩ = some (.int .u64 (wd b 2 : Int)) ∧ w'.cell? ⟨gb, 3, none⟩ = some (.int .u64 (wd b 3 : Int)))) (exact ⟨Env.cell (by assumption) _ _ (by simp), Env.cell (by assumption) _ _ (by simp)⟩) (first | ((go_at_call 20); (with_reducible refine (bits_at a A (by assumption) HA.out e7.out).mono ?_); rintro e wn ⟨rfl, hs⟩) | ((go_at_call 20); (with_reducible refine (bits_at b B (by assumption) HB.out e8.out).mono ?_); rintro e wn ⟨rfl, hs⟩))
  have H4 := hid hs
  clear hs hD H3
  clear w1
  go_wp2_with fail
  have hD := H4.out.drew
  go_region_held3 (fun w' => (w'.cell? ⟨ga, 0, none⟩ = some (.int .u64 (wd a 0 : Int)) ∧ w'.cell? ⟨ga, 1, none⟩ = some (.int .u64 (wd a 1 : Int)) ∧ w'.cell? ⟨ga, 2, none⟩ = some (.int .u64 (wd a 2 : Int)) ∧ w'.cell? ⟨ga, 3, none⟩ = some (.int .u64 (wd a 3 : Int))) ∧ (w'.cell? ⟨gb, 0, none⟩ = some (.int .u64 (wd b 0 : Int)) ∧ w'.cell? ⟨gb, 1, none⟩ = some (.int .u64 (wd b 1 : Int)) ∧ w'.cell? ⟨gb, 2, none⟩ = some (.int .u64 (wd b 2 : Int)) ∧ w'.cell? ⟨gb, 3, none⟩ = some (.int .u64 (wd b 3 : Int)))) (exact ⟨Env.cell (by assumption) _ _ (by simp), Env.cell (by assumption) _ _ (by simp)⟩) (first | ((go_at_call 28); (with_reducible refine (none_at (by assumption)).mono ?_); rintro e wn ⟨rfl, hs⟩))
  have H5 := hid hs
  clear hs hD H4
  clear q1 q2
  obtain ⟨c0x5a, c0x5b, c0x5c, c0x5d⟩ := H5.out.cell (ga) (a) (by simp)
  have c0x5l := H5.out.lt (ga) (a) (by simp)
  have c0x5m := Nat.le_of_lt c0x5l
  obtain ⟨c6x5a, c6x5b, c6x5c, c6x5d⟩ := H5.out.cell (gb) (b) (by simp)
  have c6x5l := H5.out.lt (gb) (b) (by simp)
  have c6x5m := Nat.le_of_lt c6x5l
  go_wp2_with fail
  clear c0x5a c0x5b c0x5c c0x5d c0x5l c0x5m c6x5a c6x5b c6x5c c6x5d c6x5l c6x5m
  refine (add_at a b s 0 H5.out HA.out HB.out e9.out e10.out).mono ?_
  rintro e w6 ⟨rfl, h⟩
  have H6 := hid h
  clear h H5
  go_wp2_with fail
  have H6b := hid (H6.out.new s)
  clear H6
  generalize w6.alloc (.cells (cls s) 24) = w6b at *
  generalize w6.heap.size = g9 at *
  refine (bits_at s ks H6b.out n9.out e11.out).mono ?_
  rintro e w7 ⟨rfl, h⟩
  have H7 := hid h
  clear h H6b
  go_wp2_with fail
  have hD := H7.out.drew
  go_region_held3 (fun w' => (w'.cell? ⟨ga, 0, none⟩ = some (.int .u64 (wd a 0 : Int)) ∧ w'.cell? ⟨ga, 1, none⟩ = some (.int .u64 (wd a 1 : Int)) ∧ w'.cell? ⟨ga, 2, none⟩ = some (.int .u64 (wd a 2 : Int)) ∧ w'.cell? ⟨ga, 3, none⟩ = some (.int .u64 (wd a 3 : Int))) ∧ (w'.cell? ⟨gb, 0, none⟩ = some (.int .u64 (wd b 0 : Int)) ∧ w'.cell? ⟨gb, 1, none⟩ = some (.int .u64 (wd b 1 : Int)) ∧ w'.cell? ⟨gb, 2, none⟩ = some (.int .u64 (wd b 2 : Int)) ∧ w'.cell? ⟨gb, 3, none⟩ = some (.int .u64 (wd b 3 : Int)))) (exact ⟨Env.cell (by assumption) _ _ (by simp), Env.cell (by assumption) _ _ (by simp)⟩) (first | ((go_at_call 20); (with_reducible refine (bits_at a A (by assumption) HA.out e7.out).mono ?_); rintro e wn ⟨rfl, hs⟩) | ((go_at_call 20); (with_reducible refine (bits_at b B (by assumption) HB.out e8.out).mono ?_); rintro e wn ⟨rfl, hs⟩))
  have H8 := hid hs
  clear hs hD H7
  go_wp2_with fail
  refine (alive_at H8.out).mono ?_
  rintro e w9 ⟨rfl, h⟩
  have H9 := hid h
  clear h H8
  have hk := H9.out.1
  rcases M1.out with h1 | h1
  · rcases M2.out with h2 | h2
    · have b1 : (nl == A + B) = true := by rw [h1]; simp
      have b3 : (ks == max A B) = true := by rw [h2]; simp
      clear h1 h2
      go_wp2
      go_ret
      exact ⟨rfl, hk⟩
    · have b1 : (nl == A + B) = true := by rw [h1]; simp
      have b3 : (ks == max A B) = false := by rw [h2]; simp; try omega
      have b4 : (ks == max A B + 1) = true := by rw [h2]; simp
      clear h1 h2
      go_wp2
      go_ret
      exact ⟨rfl, hk⟩
  · rcases M2.out with h2 | h2
    · have b1 : (nl == A + B) = false := by rw [h1]; simp; try omega
      have b2 : (nl == A + B - 1) = true := by rw [h1]; simp
      have b3 : (ks == max A B) = true := by rw [h2]; simp
      clear h1 h2
      go_wp2
      go_ret
      exact ⟨rfl, hk⟩
    · have b1 : (nl == A + B) = false := by rw [h1]; simp; try omega
      have b2 : (nl == A + B - 1) = true := by rw [h1]; simp
      have b3 : (ks == max A B) = false := by rw [h2]; simp; try omega
      have b4 : (ks == max A B + 1) = true := by rw [h2]; simp
      clear h1 h2
      go_wp2
      go_ret
      exact ⟨rfl, hk⟩

set_option maxRecDepth 100000 in
set_option maxHeartbeats 1600000 in
theorem top_low_over (a b : Nat) (w : World) (ha : a < 2 ^ 256) (hb : b < 2 ^ 256) (ha0 : a ≠ 0) (hb0 : b ≠ 0) (hh : a * b / 2 ^ 256 = 0) (hz : 2 ^ 256 ≤ a + b) : Calls Try.prog 8 #[num a, num b] w fun e w' => e = .returned (.bool true) ∧ Below w.heap.size w w' := by
  have HA := hid ha
  have HB := hid hb
  have q1 := eq_no a 0 ha (by decide) (by omega)
  have q2 := eq_no b 0 hb (by decide) (by omega)
  obtain ⟨lo, e1, n1⟩ : ∃ y, Hid (a * b % 2 ^ 256 = y) ∧ Hid (y < 2 ^ 256) := ⟨_, hid rfl, hid (Nat.mod_lt _ (Nat.two_pow_pos 256))⟩
  have e2 := hid hh
  have q3 := eq_yes 0 0 rfl
  obtain ⟨nl, e3⟩ : ∃ y : Int, Hid ((nbits lo : Int) = y) := ⟨_, hid rfl⟩
  have e6 : Hid (((nbits (a * b) : Nat) : Int) = nl) := hid (by rw [← e3.out, ← e1.out, nbits_lo a b hh])
  obtain ⟨A, e7⟩ : ∃ y : Int, Hid ((nbits a : Int) = y) := ⟨_, hid rfl⟩
  obtain ⟨B, e8⟩ : ∃ y : Int, Hid ((nbits b : Int) = y) := ⟨_, hid rfl⟩
  have hAB : 0 ≤ A ∧ A ≤ 256 ∧ 0 ≤ B ∧ B ≤ 256 := by have := nbits_256 a ha; have := nbits_256 b hb; have := e7.out; have := e8.out; omega
  obtain ⟨hA0, hA1, hB0, hB1⟩ := hAB
  obtain ⟨s, e9, n9⟩ : ∃ y, Hid ((a + b) % 2 ^ 256 = y) ∧ Hid (y < 2 ^ 256) := ⟨_, hid rfl, hid (Nat.mod_lt _ (Nat.two_pow_pos 256))⟩
  obtain ⟨ks, e11⟩ : ∃ y : Int, Hid ((nbits s : Int) = y) := ⟨_, hid rfl⟩
  have e10 : Hid ((((a + b) / 2 ^ 256 : Nat) : Int) = 1) := hid (by rw [p256] at *; omega)
  have e12 : Hid (((nbits (a + b) : Nat) : Int) = 257) := hid (by rw [nbits_two (a + b) 256 hz (by omega)]; rfl)
  have m1 : nl = A + B ∨ nl = A + B - 1 := by have := nbits_mul a b (by omega) (by omega); have := e6.out; have := e7.out; have := e8.out; omega
  have m2 : 257 = max A B ∨ 257 = max A B + 1 := by have := nbits_add a b; have := e12.out; have := e7.out; have := e8.out; omega
  have M1 := hid m1
  have M2 := hid m2
  clear ha hb ha0 hb0 hh hz m1 m2
  have H0 := hid ((Env.refl w).new2 a b)
  go_enter Try.func8, Try.ntmps8
  go_wp2_with fail
  generalize (w.alloc (.cells (cls a) 24)).alloc (.cells (cls b) 24) = w0 at *
  generalize w.heap.size + 1 = gb at *
  generalize w.heap.size = ga at *
  refine (mul_at a b lo 0 H0.out HA.out HB.out e1.out e2.out).mono ?_
  rintro e w1 ⟨rfl, h⟩
  have H1 := hid h
  clear h H0
  go_wp2_with fail
  have H1b := hid (H1.out.new2 lo 0)
  clear H1
  generalize (w1.alloc (.cells (cls lo) 24)).alloc (.cells (cls 0) 24) = w1b at *
  generalize w1.heap.size + 1 = g5s at *
  generalize w1.heap.size = g5 at *
  refine (bits_at lo nl H1b.out n1.out e3.out).mono ?_
  rintro e w2 ⟨rfl, h⟩
  have H2 := hid h
  clear h H1b
  go_wp2_with fail
  have hD := H2.out.drew
  go_region_held3 (fun w' => (w'.cell? ⟨g5s, 0, none⟩ = some (.int .u64 (wd 0 0 : Int)) ∧ w'.cell? ⟨g5s, 1, none⟩ = some (.int .u64 (wd 0 1 : Int)) ∧ w'.cell? ⟨g5s, 2, none⟩ = some (.int .u64 (wd 0 2 : Int)) ∧ w'.cell? ⟨g5s, 3, none⟩ = some (.int .u64 (wd 0 3 : Int)))) (exact Env.cell (by assumption) _ _ (by simp)) (first | ((go_at_call 28); (with_reducible refine (none_at (by assumption)).mono ?_); rintro e wn ⟨rfl, hs⟩))
  have H3 := hid hs
  clear hs hD H2
  clear q3
  go_wp2_with fail
  have w1 : IntKind.i64.wrap (A + B) = A + B := IntWalk.i64_in _ (by omega)
  have hD := H3.out.drew
  go_region_held3 (fun w' => (w'.cell? ⟨ga, 0, none⟩ = some (.int .u64 (wd a 0 : Int)) ∧ w'.cell? ⟨ga, 1, none⟩ = some (.int .u64 (wd a 1 : Int)) ∧ w'.cell? ⟨ga, 2, none⟩ = some (.int .u64 (wd a 2 : Int)) ∧ w'.cell? ⟨ga, 3, none⟩ = some (.int .u64 (wd a 3 : Int))) ∧ (w'.cell? ⟨gb, 0, none⟩ = some (.int .u64 (wd b 0 : Int)) ∧ w'.cell? ⟨gb, 1, none⟩ = some (.int .u64 (wd b 1 : Int)) ∧ w'.cell? ⟨gb, 2, none⟩ = some (.int .u64 (wd b 2 : Int)) ∧ w'.cell? ⟨gb, 3, none⟩ = some (.int .u64 (wd b 3 : Int)))) (exact ⟨Env.cell (by assumption) _ _ (by simp), Env.cell (by assumption) _ _ (by simp)⟩) (first | ((go_at_call 20); (with_reducible refine (bits_at a A (by assumption) HA.out e7.out).mono ?_); rintro e wn ⟨rfl, hs⟩) | ((go_at_call 20); (with_reducible refine (bits_at b B (by assumption) HB.out e8.out).mono ?_); rintro e wn ⟨rfl, hs⟩))
  have H4 := hid hs
  clear hs hD H3
  clear w1
  go_wp2_with fail
  have hD := H4.out.drew
  go_region_held3 (fun w' => (w'.cell? ⟨ga, 0, none⟩ = some (.int .u64 (wd a 0 : Int)) ∧ w'.cell? ⟨ga, 1, none⟩ = some (.int .u64 (wd a 1 : Int)) ∧ w'.cell? ⟨ga, 2, none⟩ = some (.int .u64 (wd a 2 : Int)) ∧ w'.cell? ⟨ga, 3, none⟩ = some (.int .u64 (wd a 3 : Int))) ∧ (w'.cell? ⟨gb, 0, none⟩ = some (.int .u64 (wd b 0 : Int)) ∧ w'.cell? ⟨gb, 1, none⟩ = some (.int .u64 (wd b 1 : Int)) ∧ w'.cell? ⟨gb, 2, none⟩ = some (.int .u64 (wd b 2 : Int)) ∧ w'.cell? ⟨gb, 3, none⟩ = some (.int .u64 (wd b 3 : Int)))) (exact ⟨Env.cell (by assumption) _ _ (by simp), Env.cell (by assumption) _ _ (by simp)⟩) (first | ((go_at_call 28); (with_reducible refine (none_at (by assumption)).mono ?_); rintro e wn ⟨rfl, hs⟩))
  have H5 := hid hs
  clear hs hD H4
  clear q1 q2
  obtain ⟨c0x5a, c0x5b, c0x5c, c0x5d⟩ := H5.out.cell (ga) (a) (by simp)
  have c0x5l := H5.out.lt (ga) (a) (by simp)
  have c0x5m := Nat.le_of_lt c0x5l
  obtain ⟨c6x5a, c6x5b, c6x5c, c6x5d⟩ := H5.out.cell (gb) (b) (by simp)
  have c6x5l := H5.out.lt (gb) (b) (by simp)
  have c6x5m := Nat.le_of_lt c6x5l
  go_wp2_with fail
  clear c0x5a c0x5b c0x5c c0x5d c0x5l c0x5m c6x5a c6x5b c6x5c c6x5d c6x5l c6x5m
  refine (add_at a b s 1 H5.out HA.out HB.out e9.out e10.out).mono ?_
  rintro e w6 ⟨rfl, h⟩
  have H6 := hid h
  clear h H5
  go_wp2_with fail
  have H6b := hid (H6.out.new s)
  clear H6
  generalize w6.alloc (.cells (cls s) 24) = w6b at *
  generalize w6.heap.size = g9 at *
  refine (bits_at s ks H6b.out n9.out e11.out).mono ?_
  rintro e w7 ⟨rfl, h⟩
  have H7 := hid h
  clear h H6b
  go_wp2_with fail
  have hD := H7.out.drew
  go_region_held3 (fun w' => (w'.cell? ⟨ga, 0, none⟩ = some (.int .u64 (wd a 0 : Int)) ∧ w'.cell? ⟨ga, 1, none⟩ = some (.int .u64 (wd a 1 : Int)) ∧ w'.cell? ⟨ga, 2, none⟩ = some (.int .u64 (wd a 2 : Int)) ∧ w'.cell? ⟨ga, 3, none⟩ = some (.int .u64 (wd a 3 : Int))) ∧ (w'.cell? ⟨gb, 0, none⟩ = some (.int .u64 (wd b 0 : Int)) ∧ w'.cell? ⟨gb, 1, none⟩ = some (.int .u64 (wd b 1 : Int)) ∧ w'.cell? ⟨gb, 2, none⟩ = some (.int .u64 (wd b 2 : Int)) ∧ w'.cell? ⟨gb, 3, none⟩ = some (.int .u64 (wd b 3 : Int)))) (exact ⟨Env.cell (by assumption) _ _ (by simp), Env.cell (by assumption) _ _ (by simp)⟩) (first | ((go_at_call 20); (with_reducible refine (bits_at a A (by assumption) HA.out e7.out).mono ?_); rintro e wn ⟨rfl, hs⟩) | ((go_at_call 20); (with_reducible refine (bits_at b B (by assumption) HB.out e8.out).mono ?_); rintro e wn ⟨rfl, hs⟩))
  have H8 := hid hs
  clear hs hD H7
  go_wp2_with fail
  refine (alive_at H8.out).mono ?_
  rintro e w9 ⟨rfl, h⟩
  have H9 := hid h
  clear h H8
  have hk := H9.out.1
  rcases M1.out with h1 | h1
  · rcases M2.out with h2 | h2
    · have b1 : (nl == A + B) = true := by rw [h1]; simp
      have b3 : (257 == max A B) = true := by rw [h2]; simp
      clear h1 h2
      go_wp2
      go_ret
      exact ⟨rfl, hk⟩
    · have b1 : (nl == A + B) = true := by rw [h1]; simp
      have b3 : (257 == max A B) = false := by rw [h2]; simp; try omega
      have b4 : (257 == max A B + 1) = true := by rw [h2]; simp
      clear h1 h2
      go_wp2
      go_ret
      exact ⟨rfl, hk⟩
  · rcases M2.out with h2 | h2
    · have b1 : (nl == A + B) = false := by rw [h1]; simp; try omega
      have b2 : (nl == A + B - 1) = true := by rw [h1]; simp
      have b3 : (257 == max A B) = true := by rw [h2]; simp
      clear h1 h2
      go_wp2
      go_ret
      exact ⟨rfl, hk⟩
    · have b1 : (nl == A + B) = false := by rw [h1]; simp; try omega
      have b2 : (nl == A + B - 1) = true := by rw [h1]; simp
      have b3 : (257 == max A B) = false := by rw [h2]; simp; try omega
      have b4 : (257 == max A B + 1) = true := by rw [h2]; simp
      clear h1 h2
      go_wp2
      go_ret
      exact ⟨rfl, hk⟩

set_option maxRecDepth 100000 in
set_option maxHeartbeats 1600000 in
theorem top_high_in (a b : Nat) (w : World) (ha : a < 2 ^ 256) (hb : b < 2 ^ 256) (ha0 : a ≠ 0) (hb0 : b ≠ 0) (hh : a * b / 2 ^ 256 ≠ 0) (hz : a + b < 2 ^ 256) : Calls Try.prog 8 #[num a, num b] w fun e w' => e = .returned (.bool true) ∧ Below w.heap.size w w' := by
  have HA := hid ha
  have HB := hid hb
  have q1 := eq_no a 0 ha (by decide) (by omega)
  have q2 := eq_no b 0 hb (by decide) (by omega)
  obtain ⟨lo, e1, n1⟩ : ∃ y, Hid (a * b % 2 ^ 256 = y) ∧ Hid (y < 2 ^ 256) := ⟨_, hid rfl, hid (Nat.mod_lt _ (Nat.two_pow_pos 256))⟩
  obtain ⟨hi, e2, n2⟩ : ∃ y, Hid (a * b / 2 ^ 256 = y) ∧ Hid (y < 2 ^ 256) := ⟨_, hid rfl, hid (Nat.div_lt_of_lt_mul (prod_lt ha hb))⟩
  have q3 := eq_no hi 0 n2.out (by decide) (by rw [← e2.out]; exact hh)
  have e4 : Hid (((nbits (a * b) : Nat) : Int) = 256 + (nbits hi : Int)) := hid (by rw [← e2.out, nbits_hi a b hh]; omega)
  obtain ⟨nl, e3⟩ : ∃ y : Int, Hid ((nbits lo : Int) = y) := ⟨_, hid rfl⟩
  obtain ⟨nh, e5⟩ : ∃ y : Int, Hid ((nbits hi : Int) = y) := ⟨_, hid rfl⟩
  have hnh : 0 ≤ nh ∧ nh ≤ 256 := by have := nbits_256 hi n2.out; have := e5.out; omega
  obtain ⟨hnh0, hnh1⟩ := hnh
  have e6 : Hid (((nbits (a * b) : Nat) : Int) = 256 + nh) := hid (by rw [e4.out, e5.out])
  obtain ⟨A, e7⟩ : ∃ y : Int, Hid ((nbits a : Int) = y) := ⟨_, hid rfl⟩
  obtain ⟨B, e8⟩ : ∃ y : Int, Hid ((nbits b : Int) = y) := ⟨_, hid rfl⟩
  have hAB : 0 ≤ A ∧ A ≤ 256 ∧ 0 ≤ B ∧ B ≤ 256 := by have := nbits_256 a ha; have := nbits_256 b hb; have := e7.out; have := e8.out; omega
  obtain ⟨hA0, hA1, hB0, hB1⟩ := hAB
  obtain ⟨s, e9, n9⟩ : ∃ y, Hid ((a + b) % 2 ^ 256 = y) ∧ Hid (y < 2 ^ 256) := ⟨_, hid rfl, hid (Nat.mod_lt _ (Nat.two_pow_pos 256))⟩
  obtain ⟨ks, e11⟩ : ∃ y : Int, Hid ((nbits s : Int) = y) := ⟨_, hid rfl⟩
  have e10 : Hid ((((a + b) / 2 ^ 256 : Nat) : Int) = 0) := hid (by rw [Nat.div_eq_of_lt hz]; rfl)
  have e12 : Hid (((nbits (a + b) : Nat) : Int) = ks) := hid (by rw [← e11.out, ← e9.out, Nat.mod_eq_of_lt hz])
  have m1 : 256 + nh = A + B ∨ 256 + nh = A + B - 1 := by have := nbits_mul a b (by omega) (by omega); have := e6.out; have := e7.out; have := e8.out; omega
  have m2 : ks = max A B ∨ ks = max A B + 1 := by have := nbits_add a b; have := e12.out; have := e7.out; have := e8.out; omega
  have M1 := hid m1
  have M2 := hid m2
  clear ha hb ha0 hb0 hh hz m1 m2
  have H0 := hid ((Env.refl w).new2 a b)
  go_enter Try.func8, Try.ntmps8
  go_wp2_with fail
  generalize (w.alloc (.cells (cls a) 24)).alloc (.cells (cls b) 24) = w0 at *
  generalize w.heap.size + 1 = gb at *
  generalize w.heap.size = ga at *
  refine (mul_at a b lo hi H0.out HA.out HB.out e1.out e2.out).mono ?_
  rintro e w1 ⟨rfl, h⟩
  have H1 := hid h
  clear h H0
  go_wp2_with fail
  have H1b := hid (H1.out.new2 lo hi)
  clear H1
  generalize (w1.alloc (.cells (cls lo) 24)).alloc (.cells (cls hi) 24) = w1b at *
  generalize w1.heap.size + 1 = g5s at *
  generalize w1.heap.size = g5 at *
  refine (bits_at lo nl H1b.out n1.out e3.out).mono ?_
  rintro e w2 ⟨rfl, h⟩
  have H2 := hid h
  clear h H1b
  go_wp2_with fail
  have hD := H2.out.drew
  go_region_held3 (fun w' => (w'.cell? ⟨g5s, 0, none⟩ = some (.int .u64 (wd hi 0 : Int)) ∧ w'.cell? ⟨g5s, 1, none⟩ = some (.int .u64 (wd hi 1 : Int)) ∧ w'.cell? ⟨g5s, 2, none⟩ = some (.int .u64 (wd hi 2 : Int)) ∧ w'.cell? ⟨g5s, 3, none⟩ = some (.int .u64 (wd hi 3 : Int)))) (exact Env.cell (by assumption) _ _ (by simp)) (first | ((go_at_call 28); (with_reducible refine (none_at (by assumption)).mono ?_); rintro e wn ⟨rfl, hs⟩))
  have H3 := hid hs
  clear hs hD H2
  obtain ⟨c0x3a, c0x3b, c0x3c, c0x3d⟩ := H3.out.cell (g5s) (hi) (by simp)
  have c0x3l := H3.out.lt (g5s) (hi) (by simp)
  have c0x3m := Nat.le_of_lt c0x3l
  go_wp2_with fail
  clear c0x3a c0x3b c0x3c c0x3d c0x3l c0x3m
  refine (bits_at hi nh H3.out n2.out e5.out).mono ?_
  rintro e w4 ⟨rfl, h⟩
  have H4 := hid h
  clear h H3
  clear q3
  go_wp2_with fail
  have w1 : IntKind.i64.wrap (A + B) = A + B := IntWalk.i64_in _ (by omega)
  have hD := H4.out.drew
  go_region_held3 (fun w' => (w'.cell? ⟨ga, 0, none⟩ = some (.int .u64 (wd a 0 : Int)) ∧ w'.cell? ⟨ga, 1, none⟩ = some (.int .u64 (wd a 1 : Int)) ∧ w'.cell? ⟨ga, 2, none⟩ = some (.int .u64 (wd a 2 : Int)) ∧ w'.cell? ⟨ga, 3, none⟩ = some (.int .u64 (wd a 3 : Int))) ∧ (w'.cell? ⟨gb, 0, none⟩ = some (.int .u64 (wd b 0 : Int)) ∧ w'.cell? ⟨gb, 1, none⟩ = some (.int .u64 (wd b 1 : Int)) ∧ w'.cell? ⟨gb, 2, none⟩ = some (.int .u64 (wd b 2 : Int)) ∧ w'.cell? ⟨gb, 3, none⟩ = some (.int .u64 (wd b 3 : Int)))) (exact ⟨Env.cell (by assumption) _ _ (by simp), Env.cell (by assumption) _ _ (by simp)⟩) (first | ((go_at_call 20); (with_reducible refine (bits_at a A (by assumption) HA.out e7.out).mono ?_); rintro e wn ⟨rfl, hs⟩) | ((go_at_call 20); (with_reducible refine (bits_at b B (by assumption) HB.out e8.out).mono ?_); rintro e wn ⟨rfl, hs⟩))
  have H5 := hid hs
  clear hs hD H4
  clear w1
  go_wp2_with fail
  have hD := H5.out.drew
  go_region_held3 (fun w' => (w'.cell? ⟨ga, 0, none⟩ = some (.int .u64 (wd a 0 : Int)) ∧ w'.cell? ⟨ga, 1, none⟩ = some (.int .u64 (wd a 1 : Int)) ∧ w'.cell? ⟨ga, 2, none⟩ = some (.int .u64 (wd a 2 : Int)) ∧ w'.cell? ⟨ga, 3, none⟩ = some (.int .u64 (wd a 3 : Int))) ∧ (w'.cell? ⟨gb, 0, none⟩ = some (.int .u64 (wd b 0 : Int)) ∧ w'.cell? ⟨gb, 1, none⟩ = some (.int .u64 (wd b 1 : Int)) ∧ w'.cell? ⟨gb, 2, none⟩ = some (.int .u64 (wd b 2 : Int)) ∧ w'.cell? ⟨gb, 3, none⟩ = some (.int .u64 (wd b 3 : Int)))) (exact ⟨Env.cell (by assumption) _ _ (by simp), Env.cell (by assumption) _ _ (by simp)⟩) (first | ((go_at_call 28); (with_reducible refine (none_at (by assumption)).mono ?_); rintro e wn ⟨rfl, hs⟩))
  have H6 := hid hs
  clear hs hD H5
  clear q1 q2
  obtain ⟨c0x6a, c0x6b, c0x6c, c0x6d⟩ := H6.out.cell (ga) (a) (by simp)
  have c0x6l := H6.out.lt (ga) (a) (by simp)
  have c0x6m := Nat.le_of_lt c0x6l
  obtain ⟨c6x6a, c6x6b, c6x6c, c6x6d⟩ := H6.out.cell (gb) (b) (by simp)
  have c6x6l := H6.out.lt (gb) (b) (by simp)
  have c6x6m := Nat.le_of_lt c6x6l
  go_wp2_with fail
  clear c0x6a c0x6b c0x6c c0x6d c0x6l c0x6m c6x6a c6x6b c6x6c c6x6d c6x6l c6x6m
  refine (add_at a b s 0 H6.out HA.out HB.out e9.out e10.out).mono ?_
  rintro e w7 ⟨rfl, h⟩
  have H7 := hid h
  clear h H6
  go_wp2_with fail
  have H7b := hid (H7.out.new s)
  clear H7
  generalize w7.alloc (.cells (cls s) 24) = w7b at *
  generalize w7.heap.size = g9 at *
  refine (bits_at s ks H7b.out n9.out e11.out).mono ?_
  rintro e w8 ⟨rfl, h⟩
  have H8 := hid h
  clear h H7b
  go_wp2_with fail
  have hD := H8.out.drew
  go_region_held3 (fun w' => (w'.cell? ⟨ga, 0, none⟩ = some (.int .u64 (wd a 0 : Int)) ∧ w'.cell? ⟨ga, 1, none⟩ = some (.int .u64 (wd a 1 : Int)) ∧ w'.cell? ⟨ga, 2, none⟩ = some (.int .u64 (wd a 2 : Int)) ∧ w'.cell? ⟨ga, 3, none⟩ = some (.int .u64 (wd a 3 : Int))) ∧ (w'.cell? ⟨gb, 0, none⟩ = some (.int .u64 (wd b 0 : Int)) ∧ w'.cell? ⟨gb, 1, none⟩ = some (.int .u64 (wd b 1 : Int)) ∧ w'.cell? ⟨gb, 2, none⟩ = some (.int .u64 (wd b 2 : Int)) ∧ w'.cell? ⟨gb, 3, none⟩ = some (.int .u64 (wd b 3 : Int)))) (exact ⟨Env.cell (by assumption) _ _ (by simp), Env.cell (by assumption) _ _ (by simp)⟩) (first | ((go_at_call 20); (with_reducible refine (bits_at a A (by assumption) HA.out e7.out).mono ?_); rintro e wn ⟨rfl, hs⟩) | ((go_at_call 20); (with_reducible refine (bits_at b B (by assumption) HB.out e8.out).mono ?_); rintro e wn ⟨rfl, hs⟩))
  have H9 := hid hs
  clear hs hD H8
  go_wp2_with fail
  refine (alive_at H9.out).mono ?_
  rintro e w10 ⟨rfl, h⟩
  have H10 := hid h
  clear h H9
  have hk := H10.out.1
  rcases M1.out with h1 | h1
  · rcases M2.out with h2 | h2
    · have b1 : (256 + nh == A + B) = true := by rw [h1]; simp
      have b3 : (ks == max A B) = true := by rw [h2]; simp
      clear h1 h2
      go_wp2
      go_ret
      exact ⟨rfl, hk⟩
    · have b1 : (256 + nh == A + B) = true := by rw [h1]; simp
      have b3 : (ks == max A B) = false := by rw [h2]; simp; try omega
      have b4 : (ks == max A B + 1) = true := by rw [h2]; simp
      clear h1 h2
      go_wp2
      go_ret
      exact ⟨rfl, hk⟩
  · rcases M2.out with h2 | h2
    · have b1 : (256 + nh == A + B) = false := by rw [h1]; simp; try omega
      have b2 : (256 + nh == A + B - 1) = true := by rw [h1]; simp
      have b3 : (ks == max A B) = true := by rw [h2]; simp
      clear h1 h2
      go_wp2
      go_ret
      exact ⟨rfl, hk⟩
    · have b1 : (256 + nh == A + B) = false := by rw [h1]; simp; try omega
      have b2 : (256 + nh == A + B - 1) = true := by rw [h1]; simp
      have b3 : (ks == max A B) = false := by rw [h2]; simp; try omega
      have b4 : (ks == max A B + 1) = true := by rw [h2]; simp
      clear h1 h2
      go_wp2
      go_ret
      exact ⟨rfl, hk⟩

set_option maxRecDepth 100000 in
set_option maxHeartbeats 1600000 in
theorem top_high_over (a b : Nat) (w : World) (ha : a < 2 ^ 256) (hb : b < 2 ^ 256) (ha0 : a ≠ 0) (hb0 : b ≠ 0) (hh : a * b / 2 ^ 256 ≠ 0) (hz : 2 ^ 256 ≤ a + b) : Calls Try.prog 8 #[num a, num b] w fun e w' => e = .returned (.bool true) ∧ Below w.heap.size w w' := by
  have HA := hid ha
  have HB := hid hb
  have q1 := eq_no a 0 ha (by decide) (by omega)
  have q2 := eq_no b 0 hb (by decide) (by omega)
  obtain ⟨lo, e1, n1⟩ : ∃ y, Hid (a * b % 2 ^ 256 = y) ∧ Hid (y < 2 ^ 256) := ⟨_, hid rfl, hid (Nat.mod_lt _ (Nat.two_pow_pos 256))⟩
  obtain ⟨hi, e2, n2⟩ : ∃ y, Hid (a * b / 2 ^ 256 = y) ∧ Hid (y < 2 ^ 256) := ⟨_, hid rfl, hid (Nat.div_lt_of_lt_mul (prod_lt ha hb))⟩
  have q3 := eq_no hi 0 n2.out (by decide) (by rw [← e2.out]; exact hh)
  have e4 : Hid (((nbits (a * b) : Nat) : Int) = 256 + (nbits hi : Int)) := hid (by rw [← e2.out, nbits_hi a b hh]; omega)
  obtain ⟨nl, e3⟩ : ∃ y : Int, Hid ((nbits lo : Int) = y) := ⟨_, hid rfl⟩
  obtain ⟨nh, e5⟩ : ∃ y : Int, Hid ((nbits hi : Int) = y) := ⟨_, hid rfl⟩
  have hnh : 0 ≤ nh ∧ nh ≤ 256 := by have := nbits_256 hi n2.out; have := e5.out; omega
  obtain ⟨hnh0, hnh1⟩ := hnh
  have e6 : Hid (((nbits (a * b) : Nat) : Int) = 256 + nh) := hid (by rw [e4.out, e5.out])
  obtain ⟨A, e7⟩ : ∃ y : Int, Hid ((nbits a : Int) = y) := ⟨_, hid rfl⟩
  obtain ⟨B, e8⟩ : ∃ y : Int, Hid ((nbits b : Int) = y) := ⟨_, hid rfl⟩
  have hAB : 0 ≤ A ∧ A ≤ 256 ∧ 0 ≤ B ∧ B ≤ 256 := by have := nbits_256 a ha; have := nbits_256 b hb; have := e7.out; have := e8.out; omega
  obtain ⟨hA0, hA1, hB0, hB1⟩ := hAB
  obtain ⟨s, e9, n9⟩ : ∃ y, Hid ((a + b) % 2 ^ 256 = y) ∧ Hid (y < 2 ^ 256) := ⟨_, hid rfl, hid (Nat.mod_lt _ (Nat.two_pow_pos 256))⟩
  obtain ⟨ks, e11⟩ : ∃ y : Int, Hid ((nbits s : Int) = y) := ⟨_, hid rfl⟩
  have e10 : Hid ((((a + b) / 2 ^ 256 : Nat) : Int) = 1) := hid (by rw [p256] at *; omega)
  have e12 : Hid (((nbits (a + b) : Nat) : Int) = 257) := hid (by rw [nbits_two (a + b) 256 hz (by omega)]; rfl)
  have m1 : 256 + nh = A + B ∨ 256 + nh = A + B - 1 := by have := nbits_mul a b (by omega) (by omega); have := e6.out; have := e7.out; have := e8.out; omega
  have m2 : 257 = max A B ∨ 257 = max A B + 1 := by have := nbits_add a b; have := e12.out; have := e7.out; have := e8.out; omega
  have M1 := hid m1
  have M2 := hid m2
  clear ha hb ha0 hb0 hh hz m1 m2
  have H0 := hid ((Env.refl w).new2 a b)
  go_enter Try.func8, Try.ntmps8
  go_wp2_with fail
  generalize (w.alloc (.cells (cls a) 24)).alloc (.cells (cls b) 24) = w0 at *
  generalize w.heap.size + 1 = gb at *
  generalize w.heap.size = ga at *
  refine (mul_at a b lo hi H0.out HA.out HB.out e1.out e2.out).mono ?_
  rintro e w1 ⟨rfl, h⟩
  have H1 := hid h
  clear h H0
  go_wp2_with fail
  have H1b := hid (H1.out.new2 lo hi)
  clear H1
  generalize (w1.alloc (.cells (cls lo) 24)).alloc (.cells (cls hi) 24) = w1b at *
  generalize w1.heap.size + 1 = g5s at *
  generalize w1.heap.size = g5 at *
  refine (bits_at lo nl H1b.out n1.out e3.out).mono ?_
  rintro e w2 ⟨rfl, h⟩
  have H2 := hid h
  clear h H1b
  go_wp2_with fail
  have hD := H2.out.drew
  go_region_held3 (fun w' => (w'.cell? ⟨g5s, 0, none⟩ = some (.int .u64 (wd hi 0 : Int)) ∧ w'.cell? ⟨g5s, 1, none⟩ = some (.int .u64 (wd hi 1 : Int)) ∧ w'.cell? ⟨g5s, 2, none⟩ = some (.int .u64 (wd hi 2 : Int)) ∧ w'.cell? ⟨g5s, 3, none⟩ = some (.int .u64 (wd hi 3 : Int)))) (exact Env.cell (by assumption) _ _ (by simp)) (first | ((go_at_call 28); (with_reducible refine (none_at (by assumption)).mono ?_); rintro e wn ⟨rfl, hs⟩))
  have H3 := hid hs
  clear hs hD H2
  obtain ⟨c0x3a, c0x3b, c0x3c, c0x3d⟩ := H3.out.cell (g5s) (hi) (by simp)
  have c0x3l := H3.out.lt (g5s) (hi) (by simp)
  have c0x3m := Nat.le_of_lt c0x3l
  go_wp2_with fail
  clear c0x3a c0x3b c0x3c c0x3d c0x3l c0x3m
  refine (bits_at hi nh H3.out n2.out e5.out).mono ?_
  rintro e w4 ⟨rfl, h⟩
  have H4 := hid h
  clear h H3
  clear q3
  go_wp2_with fail
  have w1 : IntKind.i64.wrap (A + B) = A + B := IntWalk.i64_in _ (by omega)
  have hD := H4.out.drew
  go_region_held3 (fun w' => (w'.cell? ⟨ga, 0, none⟩ = some (.int .u64 (wd a 0 : Int)) ∧ w'.cell? ⟨ga, 1, none⟩ = some (.int .u64 (wd a 1 : Int)) ∧ w'.cell? ⟨ga, 2, none⟩ = some (.int .u64 (wd a 2 : Int)) ∧ w'.cell? ⟨ga, 3, none⟩ = some (.int .u64 (wd a 3 : Int))) ∧ (w'.cell? ⟨gb, 0, none⟩ = some (.int .u64 (wd b 0 : Int)) ∧ w'.cell? ⟨gb, 1, none⟩ = some (.int .u64 (wd b 1 : Int)) ∧ w'.cell? ⟨gb, 2, none⟩ = some (.int .u64 (wd b 2 : Int)) ∧ w'.cell? ⟨gb, 3, none⟩ = some (.int .u64 (wd b 3 : Int)))) (exact ⟨Env.cell (by assumption) _ _ (by simp), Env.cell (by assumption) _ _ (by simp)⟩) (first | ((go_at_call 20); (with_reducible refine (bits_at a A (by assumption) HA.out e7.out).mono ?_); rintro e wn ⟨rfl, hs⟩) | ((go_at_call 20); (with_reducible refine (bits_at b B (by assumption) HB.out e8.out).mono ?_); rintro e wn ⟨rfl, hs⟩))
  have H5 := hid hs
  clear hs hD H4
  clear w1
  go_wp2_with fail
  have hD := H5.out.drew
  go_region_held3 (fun w' => (w'.cell? ⟨ga, 0, none⟩ = some (.int .u64 (wd a 0 : Int)) ∧ w'.cell? ⟨ga, 1, none⟩ = some (.int .u64 (wd a 1 : Int)) ∧ w'.cell? ⟨ga, 2, none⟩ = some (.int .u64 (wd a 2 : Int)) ∧ w'.cell? ⟨ga, 3, none⟩ = some (.int .u64 (wd a 3 : Int))) ∧ (w'.cell? ⟨gb, 0, none⟩ = some (.int .u64 (wd b 0 : Int)) ∧ w'.cell? ⟨gb, 1, none⟩ = some (.int .u64 (wd b 1 : Int)) ∧ w'.cell? ⟨gb, 2, none⟩ = some (.int .u64 (wd b 2 : Int)) ∧ w'.cell? ⟨gb, 3, none⟩ = some (.int .u64 (wd b 3 : Int)))) (exact ⟨Env.cell (by assumption) _ _ (by simp), Env.cell (by assumption) _ _ (by simp)⟩) (first | ((go_at_call 28); (with_reducible refine (none_at (by assumption)).mono ?_); rintro e wn ⟨rfl, hs⟩))
  have H6 := hid hs
  clear hs hD H5
  clear q1 q2
  obtain ⟨c0x6a, c0x6b, c0x6c, c0x6d⟩ := H6.out.cell (ga) (a) (by simp)
  have c0x6l := H6.out.lt (ga) (a) (by simp)
  have c0x6m := Nat.le_of_lt c0x6l
  obtain ⟨c6x6a, c6x6b, c6x6c, c6x6d⟩ := H6.out.cell (gb) (b) (by simp)
  have c6x6l := H6.out.lt (gb) (b) (by simp)
  have c6x6m := Nat.le_of_lt c6x6l
  go_wp2_with fail
  clear c0x6a c0x6b c0x6c c0x6d c0x6l c0x6m c6x6a c6x6b c6x6c c6x6d c6x6l c6x6m
  refine (add_at a b s 1 H6.out HA.out HB.out e9.out e10.out).mono ?_
  rintro e w7 ⟨rfl, h⟩
  have H7 := hid h
  clear h H6
  go_wp2_with fail
  have H7b := hid (H7.out.new s)
  clear H7
  generalize w7.alloc (.cells (cls s) 24) = w7b at *
  generalize w7.heap.size = g9 at *
  refine (bits_at s ks H7b.out n9.out e11.out).mono ?_
  rintro e w8 ⟨rfl, h⟩
  have H8 := hid h
  clear h H7b
  go_wp2_with fail
  have hD := H8.out.drew
  go_region_held3 (fun w' => (w'.cell? ⟨ga, 0, none⟩ = some (.int .u64 (wd a 0 : Int)) ∧ w'.cell? ⟨ga, 1, none⟩ = some (.int .u64 (wd a 1 : Int)) ∧ w'.cell? ⟨ga, 2, none⟩ = some (.int .u64 (wd a 2 : Int)) ∧ w'.cell? ⟨ga, 3, none⟩ = some (.int .u64 (wd a 3 : Int))) ∧ (w'.cell? ⟨gb, 0, none⟩ = some (.int .u64 (wd b 0 : Int)) ∧ w'.cell? ⟨gb, 1, none⟩ = some (.int .u64 (wd b 1 : Int)) ∧ w'.cell? ⟨gb, 2, none⟩ = some (.int .u64 (wd b 2 : Int)) ∧ w'.cell? ⟨gb, 3, none⟩ = some (.int .u64 (wd b 3 : Int)))) (exact ⟨Env.cell (by assumption) _ _ (by simp), Env.cell (by assumption) _ _ (by simp)⟩) (first | ((go_at_call 20); (with_reducible refine (bits_at a A (by assumption) HA.out e7.out).mono ?_); rintro e wn ⟨rfl, hs⟩) | ((go_at_call 20); (with_reducible refine (bits_at b B (by assumption) HB.out e8.out).mono ?_); rintro e wn ⟨rfl, hs⟩))
  have H9 := hid hs
  clear hs hD H8
  go_wp2_with fail
  refine (alive_at H9.out).mono ?_
  rintro e w10 ⟨rfl, h⟩
  have H10 := hid h
  clear h H9
  have hk := H10.out.1
  rcases M1.out with h1 | h1
  · rcases M2.out with h2 | h2
    · have b1 : (256 + nh == A + B) = true := by rw [h1]; simp
      have b3 : (257 == max A B) = true := by rw [h2]; simp
      clear h1 h2
      go_wp2
      go_ret
      exact ⟨rfl, hk⟩
    · have b1 : (256 + nh == A + B) = true := by rw [h1]; simp
      have b3 : (257 == max A B) = false := by rw [h2]; simp; try omega
      have b4 : (257 == max A B + 1) = true := by rw [h2]; simp
      clear h1 h2
      go_wp2
      go_ret
      exact ⟨rfl, hk⟩
  · rcases M2.out with h2 | h2
    · have b1 : (256 + nh == A + B) = false := by rw [h1]; simp; try omega
      have b2 : (256 + nh == A + B - 1) = true := by rw [h1]; simp
      have b3 : (257 == max A B) = true := by rw [h2]; simp
      clear h1 h2
      go_wp2
      go_ret
      exact ⟨rfl, hk⟩
    · have b1 : (256 + nh == A + B) = false := by rw [h1]; simp; try omega
      have b2 : (256 + nh == A + B - 1) = true := by rw [h1]; simp
      have b3 : (257 == max A B) = false := by rw [h2]; simp; try omega
      have b4 : (257 == max A B + 1) = true := by rw [h2]; simp
      clear h1 h2
      go_wp2
      go_ret
      exact ⟨rfl, hk⟩

theorem topLaw_any (a b : Nat) (w : World) (ha : a < 2 ^ 256) (hb : b < 2 ^ 256) : Calls Try.prog 8 #[num a, num b] w fun e w' => e = .returned (.bool true) ∧ Below w.heap.size w w' := by
  by_cases ha0 : a = 0
  · subst ha0; exact top_first b w hb
  · by_cases hb0 : b = 0
    · subst hb0; exact top_second a w ha ha0
    · by_cases hh : a * b / 2 ^ 256 = 0
      · rcases Nat.lt_or_ge (a + b) (2 ^ 256) with hz | hz
        · exact top_low_in a b w ha hb ha0 hb0 hh hz
        · exact top_low_over a b w ha hb ha0 hb0 hh hz
      · rcases Nat.lt_or_ge (a + b) (2 ^ 256) with hz | hz
        · exact top_high_in a b w ha hb ha0 hb0 hh hz
        · exact top_high_over a b w ha hb ha0 hb0 hh hz
end Go.Proofs.Ytmhpeeicclbcmaa
