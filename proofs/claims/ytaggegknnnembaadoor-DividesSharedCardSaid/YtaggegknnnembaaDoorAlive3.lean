/-
  burrowlaw03.alive, walked: the chapter's examples come out as they stand there. Conditions: the library's table holds what its text lays.
-/
import Derived.Test.YtaggegknnnembaaDoorWide
import Derived.Test.YtaggegknnnembaaDoorCommon
import Derived.Test.YtaggegknnnembaaDoorOfl3
import Derived.Deep.DeepCutAuto
namespace Go.Proofs.YtaggegknnnembaaDoor
open Go.RowKit
set_option linter.unusedVariables false

def p200 : Nat := 2 ^ 200
def p100 : Nat := 2 ^ 100
def p255 : Nat := 2 ^ 255
set_option maxRecDepth 100000 in
set_option maxHeartbeats 3200000 in
theorem alive3_any (w : World) (hT : Tab w) : Calls Tryd.prog 21 #[] w fun e w' => e = .returned (.bool true) ∧ Below w.heap.size w w' := by
  have H0 := hid (Env.refl w)
  have HT := hid hT
  clear hT
  go_enter Tryd.func21, Tryd.ntmps21
  go_wp2_with fail
  refine (ofl3_at 17 17 H0.out (by decide) (by decide)).mono ?_
  rintro e w1 ⟨rfl, h⟩
  have H1 := hid h
  clear h H0
  go_wp2_with fail
  refine (ofl3_at 5 5 H1.out (by decide) (by decide)).mono ?_
  rintro e w2 ⟨rfl, h⟩
  have H2 := hid h
  clear h H1
  go_wp2_with fail
  refine (div_at 17 5 3 2 H2.out (by decide) (by decide) (by decide) (by decide) (by decide)).mono ?_
  rintro e w3 ⟨rfl, h⟩
  have H3 := hid h
  clear h H2
  go_wp2_with fail
  have H3b := hid (H3.out.new2 3 2)
  clear H3
  generalize (w3.alloc (.cells (cls 3) 24)).alloc (.cells (cls 2) 24) = w3b at *
  generalize w3.heap.size + 1 = g1s at *
  generalize w3.heap.size = g1 at *
  refine (ofl3_at 1 1 H3b.out (by decide) (by decide)).mono ?_
  rintro e w4 ⟨rfl, h⟩
  have H4 := hid h
  clear h H3b
  go_wp2_with fail
  refine (shift_at 1 p200 200 H4.out (by decide) (by decide) (by decide) (by decide)).mono ?_
  rintro e w5 ⟨rfl, h⟩
  have H5 := hid h
  clear h H4
  go_wp2_with fail
  refine (ofl3_at 1 1 H5.out (by decide) (by decide)).mono ?_
  rintro e w6 ⟨rfl, h⟩
  have H6 := hid h
  clear h H5
  go_wp2_with fail
  refine (shift_at 1 p100 100 H6.out (by decide) (by decide) (by decide) (by decide)).mono ?_
  rintro e w7 ⟨rfl, h⟩
  have H7 := hid h
  clear h H6
  go_wp2_with fail
  refine (div_at p200 p100 p100 0 H7.out (by decide) (by decide) (by decide) (by decide) (by decide)).mono ?_
  rintro e w8 ⟨rfl, h⟩
  have H8 := hid h
  clear h H7
  go_wp2_with fail
  have H8b := hid (H8.out.new2 p100 0)
  clear H8
  generalize (w8.alloc (.cells (cls p100) 24)).alloc (.cells (cls 0) 24) = w8b at *
  generalize w8.heap.size + 1 = g4s at *
  generalize w8.heap.size = g4 at *
  refine (ofl3_at 1 1 H8b.out (by decide) (by decide)).mono ?_
  rintro e w9 ⟨rfl, h⟩
  have H9 := hid h
  clear h H8b
  go_wp2_with fail
  refine (none3_at H9.out).mono ?_
  rintro e w10 ⟨rfl, h⟩
  have H10 := hid h
  clear h H9
  go_wp2_with fail
  refine (div_none_at 1 H10.out).mono ?_
  rintro e w11 ⟨rfl, h⟩
  have H11 := hid h
  clear h H10
  go_wp2_with fail
  have H11b := hid (H11.out.new2 0 0)
  clear H11
  generalize (w11.alloc (.cells (cls 0) 24)).alloc (.cells (cls 0) 24) = w11b at *
  generalize w11.heap.size + 1 = g7s at *
  generalize w11.heap.size = g7 at *
  refine (ofl3_at 5 5 H11b.out (by decide) (by decide)).mono ?_
  rintro e w12 ⟨rfl, h⟩
  have H12 := hid h
  clear h H11b
  go_wp2_with fail
  refine (ofl3_at 1 1 H12.out (by decide) (by decide)).mono ?_
  rintro e w13 ⟨rfl, h⟩
  have H13 := hid h
  clear h H12
  go_wp2_with fail
  refine (ofl3_at 1 1 H13.out (by decide) (by decide)).mono ?_
  rintro e w14 ⟨rfl, h⟩
  have H14 := hid h
  clear h H13
  go_wp2_with fail
  refine (shift_at 1 p255 255 H14.out (by decide) (by decide) (by decide) (by decide)).mono ?_
  rintro e w15 ⟨rfl, h⟩
  have H15 := hid h
  clear h H14
  go_wp2_with fail
  refine (wide_at 5 1 p255 5 H15.out (by decide) (by decide) (by decide) (by decide) (by decide)).mono ?_
  rintro e w16 ⟨rfl, h⟩
  have H16 := hid h
  clear h H15
  go_wp2_with fail
  have H16b := hid (H16.out.new 5)
  clear H16
  generalize w16.alloc (.cells (cls 5) 24) = w16b at *
  generalize w16.heap.size = g10 at *
  refine (ofl3_at 1 1 H16b.out (by decide) (by decide)).mono ?_
  rintro e w17 ⟨rfl, h⟩
  have H17 := hid h
  clear h H16b
  go_wp2_with fail
  refine (ofl3_at 3 3 H17.out (by decide) (by decide)).mono ?_
  rintro e w18 ⟨rfl, h⟩
  have H18 := hid h
  clear h H17
  go_wp2_with fail
  refine (ofl3_at 7 7 H18.out (by decide) (by decide)).mono ?_
  rintro e w19 ⟨rfl, h⟩
  have H19 := hid h
  clear h H18
  go_wp2_with fail
  refine (wide_at 1 3 7 0 H19.out (by decide) (by decide) (by decide) (by decide) (by decide)).mono ?_
  rintro e w20 ⟨rfl, h⟩
  have H20 := hid h
  clear h H19
  go_wp2_with fail
  have H20b := hid (H20.out.new 0)
  clear H20
  generalize w20.alloc (.cells (cls 0) 24) = w20b at *
  generalize w20.heap.size = g12 at *
  refine (ofl3_at 1 1 H20b.out (by decide) (by decide)).mono ?_
  rintro e w21 ⟨rfl, h⟩
  have H21 := hid h
  clear h H20b
  go_wp2_with fail
  refine (ofl3_at 3 3 H21.out (by decide) (by decide)).mono ?_
  rintro e w22 ⟨rfl, h⟩
  have H22 := hid h
  clear h H21
  go_wp2_with fail
  refine (none3_at H22.out).mono ?_
  rintro e w23 ⟨rfl, h⟩
  have H23 := hid h
  clear h H22
  go_wp2_with fail
  refine (wide_none_at 1 3 H23.out).mono ?_
  rintro e w24 ⟨rfl, h⟩
  have H24 := hid h
  clear h H23
  go_wp2_with fail
  have H24b := hid (H24.out.new 0)
  clear H24
  generalize w24.alloc (.cells (cls 0) 24) = w24b at *
  generalize w24.heap.size = g14 at *
  have q3 := eq_yes 3 3 rfl
  have q2 := eq_yes 2 2 rfl
  have qp100 := eq_yes p100 p100 rfl
  have q0 := eq_yes 0 0 rfl
  have q5 := eq_yes 5 5 rfl
  have q6 := eq_yes 6 6 rfl
  have hs := H24b.out.drew
  simp only [List.append_eq, List.cons_append, List.nil_append]
  go_region_held3 (fun w' => (w'.cell? ⟨g1, 0, none⟩ = some (.int .u64 (wd (3) 0 : Int)) ∧ w'.cell? ⟨g1, 1, none⟩ = some (.int .u64 (wd (3) 1 : Int)) ∧ w'.cell? ⟨g1, 2, none⟩ = some (.int .u64 (wd (3) 2 : Int)) ∧ w'.cell? ⟨g1, 3, none⟩ = some (.int .u64 (wd (3) 3 : Int))) ∧ (w'.cell? ⟨g1s, 0, none⟩ = some (.int .u64 (wd (2) 0 : Int)) ∧ w'.cell? ⟨g1s, 1, none⟩ = some (.int .u64 (wd (2) 1 : Int)) ∧ w'.cell? ⟨g1s, 2, none⟩ = some (.int .u64 (wd (2) 2 : Int)) ∧ w'.cell? ⟨g1s, 3, none⟩ = some (.int .u64 (wd (2) 3 : Int))) ∧ (w'.cell? ⟨g4, 0, none⟩ = some (.int .u64 (wd (p100) 0 : Int)) ∧ w'.cell? ⟨g4, 1, none⟩ = some (.int .u64 (wd (p100) 1 : Int)) ∧ w'.cell? ⟨g4, 2, none⟩ = some (.int .u64 (wd (p100) 2 : Int)) ∧ w'.cell? ⟨g4, 3, none⟩ = some (.int .u64 (wd (p100) 3 : Int))) ∧ (w'.cell? ⟨g4s, 0, none⟩ = some (.int .u64 (wd (0) 0 : Int)) ∧ w'.cell? ⟨g4s, 1, none⟩ = some (.int .u64 (wd (0) 1 : Int)) ∧ w'.cell? ⟨g4s, 2, none⟩ = some (.int .u64 (wd (0) 2 : Int)) ∧ w'.cell? ⟨g4s, 3, none⟩ = some (.int .u64 (wd (0) 3 : Int))) ∧ (w'.cell? ⟨g10, 0, none⟩ = some (.int .u64 (wd (5) 0 : Int)) ∧ w'.cell? ⟨g10, 1, none⟩ = some (.int .u64 (wd (5) 1 : Int)) ∧ w'.cell? ⟨g10, 2, none⟩ = some (.int .u64 (wd (5) 2 : Int)) ∧ w'.cell? ⟨g10, 3, none⟩ = some (.int .u64 (wd (5) 3 : Int))) ∧ (w'.cell? ⟨g12, 0, none⟩ = some (.int .u64 (wd (0) 0 : Int)) ∧ w'.cell? ⟨g12, 1, none⟩ = some (.int .u64 (wd (0) 1 : Int)) ∧ w'.cell? ⟨g12, 2, none⟩ = some (.int .u64 (wd (0) 2 : Int)) ∧ w'.cell? ⟨g12, 3, none⟩ = some (.int .u64 (wd (0) 3 : Int)))) (exact ⟨Env.cell (by assumption) _ _ (by simp), Env.cell (by assumption) _ _ (by simp), Env.cell (by assumption) _ _ (by simp), Env.cell (by assumption) _ _ (by simp), Env.cell (by assumption) _ _ (by simp), Env.cell (by assumption) _ _ (by simp)⟩) (first | ((go_at_call 22); (with_reducible refine (ofl3_at 3 3 (by assumption) (by decide) (by decide)).mono ?_); rintro e wn ⟨rfl, hs⟩) | ((go_at_call 22); (with_reducible refine (ofl3_at 2 2 (by assumption) (by decide) (by decide)).mono ?_); rintro e wn ⟨rfl, hs⟩) | ((go_at_call 22); (with_reducible refine (ofl3_at 1 1 (by assumption) (by decide) (by decide)).mono ?_); rintro e wn ⟨rfl, hs⟩) | ((go_at_call 22); (with_reducible refine (ofl3_at 5 5 (by assumption) (by decide) (by decide)).mono ?_); rintro e wn ⟨rfl, hs⟩) | ((go_at_call 22); (with_reducible refine (ofl3_at 0 0 (by assumption) (by decide) (by decide)).mono ?_); rintro e wn ⟨rfl, hs⟩) | ((go_at_call 22); (with_reducible refine (ofl3_at 12 12 (by assumption) (by decide) (by decide)).mono ?_); rintro e wn ⟨rfl, hs⟩) | ((go_at_call 22); (with_reducible refine (ofl3_at 18 18 (by assumption) (by decide) (by decide)).mono ?_); rintro e wn ⟨rfl, hs⟩) | ((go_at_call 22); (with_reducible refine (ofl3_at 6 6 (by assumption) (by decide) (by decide)).mono ?_); rintro e wn ⟨rfl, hs⟩) | ((go_at_call 20); (with_reducible refine (none3_at (by assumption)).mono ?_); rintro e wn ⟨rfl, hs⟩) | ((go_at_call 33); (with_reducible refine (shift_at 1 p100 100 (by assumption) (by decide) (by decide) (by decide) (by decide)).mono ?_); rintro e wn ⟨rfl, hs⟩) | ((go_at_call 12); (with_reducible refine (common_at 12 18 6 (by assumption) (by decide) (by decide) HT.out (by decide)).mono ?_); rintro e wn ⟨rfl, hs⟩) | ((go_at_call 12); (with_reducible refine (common_at 0 5 5 (by assumption) (by decide) (by decide) HT.out (by decide)).mono ?_); rintro e wn ⟨rfl, hs⟩) | ((go_at_call 12); (with_reducible refine (common_at 0 0 0 (by assumption) (by decide) (by decide) HT.out (by decide)).mono ?_); rintro e wn ⟨rfl, hs⟩))
  go_wp2
  go_ret
  exact ⟨rfl, hs.1⟩
theorem alive3_at {w w' : World} {l : List (Nat × Nat)} (h : Env w l w') (hT : Tab w) : Calls Tryd.prog 21 #[] w' fun e w2 => e = .returned (.bool true) ∧ Env w l w2 :=
  env_of (alive3_any w' (hT.on h.1)) h
end Go.Proofs.YtaggegknnnembaaDoor
