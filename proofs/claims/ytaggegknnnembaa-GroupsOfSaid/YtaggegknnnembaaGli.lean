/-
  burrowlaw06.lives, walked: the chapter's examples come out as they stand there. Conditions: none.
-/
import Derived.Test.YtaggegknnnembaaGfi
namespace Go.Proofs.Ytaggegknnnembaa
open Go.RowKit
set_option linter.unusedVariables false

theorem rmul_9 (w : World) : Calls Try.prog 9 #[gv 23 11 4, .agg #[.int .u64 9, .int .u64 0, .int .u64 0, .int .u64 0], .agg #[.int .u64 13, .int .u64 0, .int .u64 0, .int .u64 0]] w fun e w' => e = .returned (.tuple #[num 2, .int .i64 0]) ∧ Below w.heap.size w w' :=
  gmul_some 23 11 4 9 13 w (by decide) (by decide) (by decide) (by decide) (by decide)
theorem rinv_4 (w : World) : Calls Try.prog 11 #[gv 23 11 4, .agg #[.int .u64 4, .int .u64 0, .int .u64 0, .int .u64 0]] w fun e w' => e = .returned (.tuple #[num 6, .int .i64 0]) ∧ Below w.heap.size w w' :=
  ginv_some 23 11 4 4 6 w (by decide) (by decide) (by decide) ⟨by decide, by decide⟩
theorem rexp_4 (w : World) : Calls Try.prog 13 #[gv 23 11 4, .agg #[.int .u64 4, .int .u64 0, .int .u64 0, .int .u64 0], .agg #[.int .u64 11, .int .u64 0, .int .u64 0, .int .u64 0]] w fun e w' => e = .returned (.tuple #[num 1, .int .i64 0]) ∧ Below w.heap.size w w' :=
  gexp_any 23 11 4 4 11 1 w (by decide) (by decide) (by decide) (by decide)
theorem rexp_0 (w : World) : Calls Try.prog 13 #[gv 23 11 4, .agg #[.int .u64 0, .int .u64 0, .int .u64 0, .int .u64 0], .agg #[.int .u64 1, .int .u64 0, .int .u64 0, .int .u64 0]] w fun e w' => e = .returned (.tuple #[num 0, .int .i64 1]) ∧ Below w.heap.size w w' :=
  gexp_none 23 11 4 0 1 w (by decide) (by decide) (by decide)
theorem rin_4 (w : World) : Calls Try.prog 17 #[gv 23 11 4, .agg #[.int .u64 4, .int .u64 0, .int .u64 0, .int .u64 0]] w fun e w' => e = .returned (.bool true) ∧ Below w.heap.size w w' :=
  in_any 23 11 4 4 true w (by decide) (by decide) (by decide) (by decide)
theorem rin_5 (w : World) : Calls Try.prog 17 #[gv 23 11 4, .agg #[.int .u64 5, .int .u64 0, .int .u64 0, .int .u64 0]] w fun e w' => e = .returned (.bool false) ∧ Below w.heap.size w w' :=
  in_any 23 11 4 5 false w (by decide) (by decide) (by decide) (by decide)
theorem rfine (w : World) : Calls Try.prog 15 #[gv 23 11 4] w fun e w' => e = .returned (.bool true) ∧ Below w.heap.size w w' :=
  fine_any 23 11 4 true w (by decide) (by decide) (by decide) (by decide)
theorem rfine_0 (w : World) : Calls Try.prog 15 #[.agg #[.int .u64 0, .int .u64 0, .int .u64 0, .int .u64 0, .int .u64 0, .int .u64 0, .int .u64 0, .int .u64 0, .int .u64 0, .int .u64 0, .int .u64 0, .int .u64 0]] w fun e w' => e = .returned (.bool false) ∧ Below w.heap.size w w' :=
  fine_any 0 0 0 false w (by decide) (by decide) (by decide) (by decide)
set_option maxRecDepth 100000 in
set_option maxHeartbeats 4000000 in
theorem lives_any (w : World) : Calls Try.prog 19 #[] w fun e w' => e = .returned (.bool true) ∧ Below w.heap.size w w' := by
  have q2 := eq_yes 2 2 rfl
  have q6 := eq_yes 6 6 rfl
  have q1 := eq_yes 1 1 rfl
  have H0 := hid (Env.refl w)
  go_enter Try.func19, Try.ntmps19
  go_wp2_with fail
  refine (env_of (small_any _) H0.out).mono ?_
  rintro e w1 ⟨rfl, h⟩
  have H1 := hid h
  clear h H0
  go_upto_region 2 with fail
  have H1g := hid (Eg.of H1.out 23 11 4 26)
  clear H1
  generalize w1.alloc (.cells (gcs 23 11 4) 26) = w1g at *
  generalize w1.heap.size = g_p at *
  obtain ⟨ep1a, ep1b, ep1c, ep1d⟩ := H1g.out.gp
  obtain ⟨eq1a, eq1b, eq1c, eq1d⟩ := H1g.out.gq
  obtain ⟨eg1a, eg1b, eg1c, eg1d⟩ := H1g.out.gg
  have eg1l := H1g.out.gl
  have eg1m := Nat.le_of_lt eg1l
  go_wp2_with fail
  clear ep1a ep1b ep1c ep1d eq1a eq1b eq1c eq1d eg1a eg1b eg1c eg1d eg1l eg1m
  refine (eg_of (rmul_9 _) H1g.out).mono ?_
  rintro e w2 ⟨rfl, h⟩
  have H2 := hid h
  clear h H1g
  go_upto_region 3 with fail
  have H2b := hid (H2.out.new 2)
  clear H2
  generalize w2.alloc (.cells (cls 2) 24) = w2b at *
  generalize w2.heap.size = g2 at *
  obtain ⟨ep2a, ep2b, ep2c, ep2d⟩ := H2b.out.gp
  obtain ⟨eq2a, eq2b, eq2c, eq2d⟩ := H2b.out.gq
  obtain ⟨eg2a, eg2b, eg2c, eg2d⟩ := H2b.out.gg
  have eg2l := H2b.out.gl
  have eg2m := Nat.le_of_lt eg2l
  go_wp2_with fail
  clear ep2a ep2b ep2c ep2d eq2a eq2b eq2c eq2d eg2a eg2b eg2c eg2d eg2l eg2m
  refine (eg_of (rinv_4 _) H2b.out).mono ?_
  rintro e w3 ⟨rfl, h⟩
  have H3 := hid h
  clear h H2b
  go_upto_region 4 with fail
  have H3b := hid (H3.out.new 6)
  clear H3
  generalize w3.alloc (.cells (cls 6) 24) = w3b at *
  generalize w3.heap.size = g4 at *
  obtain ⟨ep3a, ep3b, ep3c, ep3d⟩ := H3b.out.gp
  obtain ⟨eq3a, eq3b, eq3c, eq3d⟩ := H3b.out.gq
  obtain ⟨eg3a, eg3b, eg3c, eg3d⟩ := H3b.out.gg
  have eg3l := H3b.out.gl
  have eg3m := Nat.le_of_lt eg3l
  go_wp2_with fail
  clear ep3a ep3b ep3c ep3d eq3a eq3b eq3c eq3d eg3a eg3b eg3c eg3d eg3l eg3m
  refine (eg_of (rexp_4 _) H3b.out).mono ?_
  rintro e w4 ⟨rfl, h⟩
  have H4 := hid h
  clear h H3b
  go_upto_region 5 with fail
  have H4b := hid (H4.out.new 1)
  clear H4
  generalize w4.alloc (.cells (cls 1) 24) = w4b at *
  generalize w4.heap.size = g6 at *
  obtain ⟨ep4a, ep4b, ep4c, ep4d⟩ := H4b.out.gp
  obtain ⟨eq4a, eq4b, eq4c, eq4d⟩ := H4b.out.gq
  obtain ⟨eg4a, eg4b, eg4c, eg4d⟩ := H4b.out.gg
  have eg4l := H4b.out.gl
  have eg4m := Nat.le_of_lt eg4l
  go_wp2_with fail
  clear ep4a ep4b ep4c ep4d eq4a eq4b eq4c eq4d eg4a eg4b eg4c eg4d eg4l eg4m
  refine (eg_of (rexp_0 _) H4b.out).mono ?_
  rintro e w5 ⟨rfl, h⟩
  have H5 := hid h
  clear h H4b
  go_upto_region 6 with fail
  have H5b := hid (H5.out.new 0)
  clear H5
  generalize w5.alloc (.cells (cls 0) 24) = w5b at *
  generalize w5.heap.size = g8 at *
  have hs := H5b.out.drew
  go_region_held3 (fun w' => (w'.cell? ⟨g2, 0, none⟩ = some (.int .u64 (wd (2) 0 : Int)) ∧ w'.cell? ⟨g2, 1, none⟩ = some (.int .u64 (wd (2) 1 : Int)) ∧ w'.cell? ⟨g2, 2, none⟩ = some (.int .u64 (wd (2) 2 : Int)) ∧ w'.cell? ⟨g2, 3, none⟩ = some (.int .u64 (wd (2) 3 : Int))) ∧ (w'.cell? ⟨g4, 0, none⟩ = some (.int .u64 (wd (6) 0 : Int)) ∧ w'.cell? ⟨g4, 1, none⟩ = some (.int .u64 (wd (6) 1 : Int)) ∧ w'.cell? ⟨g4, 2, none⟩ = some (.int .u64 (wd (6) 2 : Int)) ∧ w'.cell? ⟨g4, 3, none⟩ = some (.int .u64 (wd (6) 3 : Int))) ∧ (w'.cell? ⟨g6, 0, none⟩ = some (.int .u64 (wd (1) 0 : Int)) ∧ w'.cell? ⟨g6, 1, none⟩ = some (.int .u64 (wd (1) 1 : Int)) ∧ w'.cell? ⟨g6, 2, none⟩ = some (.int .u64 (wd (1) 2 : Int)) ∧ w'.cell? ⟨g6, 3, none⟩ = some (.int .u64 (wd (1) 3 : Int))) ∧ (w'.cell? ⟨g_p, 0, none⟩ = some (.int .u64 (wd 23 0 : Int)) ∧ w'.cell? ⟨g_p, 1, none⟩ = some (.int .u64 (wd 23 1 : Int)) ∧ w'.cell? ⟨g_p, 2, none⟩ = some (.int .u64 (wd 23 2 : Int)) ∧ w'.cell? ⟨g_p, 3, none⟩ = some (.int .u64 (wd 23 3 : Int))) ∧ (w'.cell? ⟨g_p, 4, none⟩ = some (.int .u64 (wd 11 0 : Int)) ∧ w'.cell? ⟨g_p, 5, none⟩ = some (.int .u64 (wd 11 1 : Int)) ∧ w'.cell? ⟨g_p, 6, none⟩ = some (.int .u64 (wd 11 2 : Int)) ∧ w'.cell? ⟨g_p, 7, none⟩ = some (.int .u64 (wd 11 3 : Int))) ∧ (w'.cell? ⟨g_p, 8, none⟩ = some (.int .u64 (wd 4 0 : Int)) ∧ w'.cell? ⟨g_p, 9, none⟩ = some (.int .u64 (wd 4 1 : Int)) ∧ w'.cell? ⟨g_p, 10, none⟩ = some (.int .u64 (wd 4 2 : Int)) ∧ w'.cell? ⟨g_p, 11, none⟩ = some (.int .u64 (wd 4 3 : Int)))) (exact ⟨Eg.cell (by assumption) _ _ (by simp), Eg.cell (by assumption) _ _ (by simp), Eg.cell (by assumption) _ _ (by simp), Eg.gp (by assumption), Eg.gq (by assumption), Eg.gg (by assumption)⟩) (first | ((go_at_call 15); (with_reducible refine ((eg_of (rfine _) (by assumption))).mono ?_); rintro e wn ⟨rfl, hs⟩) | ((go_at_call 15); (with_reducible refine ((eg_of (rfine_0 _) (by assumption))).mono ?_); rintro e wn ⟨rfl, hs⟩) | ((go_at_call 17); (with_reducible refine ((eg_of (rin_4 _) (by assumption))).mono ?_); rintro e wn ⟨rfl, hs⟩) | ((go_at_call 17); (with_reducible refine ((eg_of (rin_5 _) (by assumption))).mono ?_); rintro e wn ⟨rfl, hs⟩) | ((go_at_call 20); (with_reducible refine ((eg_at (of_at 2 2 (Env.refl _) (by decide) rfl) (by assumption))).mono ?_); rintro e wn ⟨rfl, hs⟩) | ((go_at_call 20); (with_reducible refine ((eg_at (of_at 6 6 (Env.refl _) (by decide) rfl) (by assumption))).mono ?_); rintro e wn ⟨rfl, hs⟩) | ((go_at_call 20); (with_reducible refine ((eg_at (of_at 1 1 (Env.refl _) (by decide) rfl) (by assumption))).mono ?_); rintro e wn ⟨rfl, hs⟩))
  go_wp2
  go_ret
  exact ⟨rfl, hs.1.1⟩
theorem lives_at {w w' : World} {l : List (Nat × Nat)} (h : Env w l w') : Calls Try.prog 19 #[] w' fun e w2 => e = .returned (.bool true) ∧ Env w l w2 :=
  env_of (lives_any w') h
end Go.Proofs.Ytaggegknnnembaa
