/-
  burrowlaw02.alive, walked: the chapter's examples come out as they stand there. Conditions: none.
-/
import Derived.Test.YtmhpeeicclbcmaaAt
namespace Go.Proofs.Ytmhpeeicclbcmaa
open Go.RowKit
set_option linter.unusedVariables false

theorem num_256 (n a b c d : Nat) (h0 : a < 18446744073709551616) (h1 : b < 18446744073709551616) (h2 : c < 18446744073709551616) (h3 : d < 18446744073709551616) (h : v4 a b c d = n) :
    (.agg #[.int .u64 (a : Int), .int .u64 (b : Int), .int .u64 (c : Int), .int .u64 (d : Int)] : Value) = num n := by rw [← h]; exact num_of h0 h1 h2 h3
def two128 : Nat := 2 ^ 128
def two255 : Nat := 2 ^ 255
def two64 : Nat := 2 ^ 64
def five64 : Nat := 5 * 2 ^ 64
theorem n128 : (.agg #[.int .u64 0, .int .u64 0, .int .u64 1, .int .u64 0] : Value) = num two128 := num_256 two128 0 0 1 0 (by decide) (by decide) (by decide) (by decide) (by decide)
theorem n255 : (.agg #[.int .u64 0, .int .u64 0, .int .u64 0, .int .u64 9223372036854775808] : Value) = num two255 := num_256 two255 0 0 0 9223372036854775808 (by decide) (by decide) (by decide) (by decide) (by decide)
theorem n65 : (.agg #[.int .u64 0, .int .u64 1, .int .u64 0, .int .u64 0] : Value) = num two64 := num_256 two64 0 1 0 0 (by decide) (by decide) (by decide) (by decide) (by decide)
theorem n64 : (.agg #[.int .u64 0, .int .u64 5, .int .u64 0, .int .u64 0] : Value) = num five64 := num_256 five64 0 5 0 0 (by decide) (by decide) (by decide) (by decide) (by decide)

theorem shift_lit {w w' : World} {l : List (Nat × Nat)} (h : Env w l w') : Calls Try.prog 16 #[.agg #[.int .u64 0, .int .u64 0, .int .u64 0, .int .u64 9223372036854775808], .int .i64 (-255)] w' fun e w2 => e = .returned (num 1) ∧ Env w l w2 := by
  rw [n255]; exact shift_at two255 1 (-255) h (by decide) (by decide) (by decide) (by decide)
theorem bits_lit {w w' : World} {l : List (Nat × Nat)} (h : Env w l w') : Calls Try.prog 20 #[.agg #[.int .u64 0, .int .u64 1, .int .u64 0, .int .u64 0]] w' fun e w2 => e = .returned (.int .i64 65) ∧ Env w l w2 := by
  rw [n65]; exact bits_at two64 65 h (by decide) (by decide)

set_option maxRecDepth 100000 in
set_option maxHeartbeats 3200000 in
theorem alive_any (w : World) : Calls Try.prog 29 #[] w fun e w' => e = .returned (.bool true) ∧ Below w.heap.size w w' := by
  have H0 := hid (Env.refl w)
  go_enter Try.func29, Try.ntmps29
  go_wp2_with fail
  refine (all_at H0.out).mono ?_
  rintro e w1 ⟨rfl, h⟩
  have H1 := hid h
  clear h H0
  go_wp2_with fail
  refine (of_at 1 1 H1.out (by decide) (by decide)).mono ?_
  rintro e w2 ⟨rfl, h⟩
  have H2 := hid h
  clear h H1
  go_wp2_with fail
  refine (add_at top 1 0 1 H2.out top_lt (by decide) (by decide) (by decide)).mono ?_
  rintro e w3 ⟨rfl, h⟩
  have H3 := hid h
  clear h H2
  go_wp2_with fail
  have H3b := hid (H3.out.new 0)
  clear H3
  change Calls _ _ _ (w3.alloc (.cells (cls 0) 24)) _
  generalize w3.alloc (.cells (cls 0) 24) = w3b at *
  generalize w3.heap.size = g1 at *
  refine (none_at H3b.out).mono ?_
  rintro e w4 ⟨rfl, h⟩
  have H4 := hid h
  clear h H3b
  go_wp2_with fail
  refine (of_at 1 1 H4.out (by decide) (by decide)).mono ?_
  rintro e w5 ⟨rfl, h⟩
  have H5 := hid h
  clear h H4
  go_wp2_with fail
  refine (sub_at 0 1 top 1 H5.out (by decide) (by decide) (by decide) (by decide)).mono ?_
  rintro e w6 ⟨rfl, h⟩
  have H6 := hid h
  clear h H5
  go_wp2_with fail
  have H6b := hid (H6.out.new top)
  clear H6
  change Calls _ _ _ (w6.alloc (.cells (cls top) 24)) _
  generalize w6.alloc (.cells (cls top) 24) = w6b at *
  generalize w6.heap.size = g3 at *
  rw [n128]
  refine (mul_at two128 two128 0 1 H6b.out (by decide) (by decide) (by decide) (by decide)).mono ?_
  rintro e w7 ⟨rfl, h⟩
  have H7 := hid h
  clear h H6b
  go_wp2_with fail
  have hE := H7.out.new2 0 1
  clear H7
  generalize hw8 : (w7.alloc (.cells (cls 0) 24)).alloc (.cells (cls 1) 24) = w8 at *
  clear hw8
  generalize w7.heap.size = g5 at *
  have hD := hE.drew
  have q0 := eq_yes 0 0 rfl
  have q1 := eq_yes 1 1 rfl
  have qt := eq_yes top top rfl
  have q5 : ∀ w : World, (Op.equalIn 10000 24 (num five64) (.agg #[.int .u64 0, .int .u64 5, .int .u64 0, .int .u64 0])).run Try.prog w = .ok true w := by rw [n64]; exact eq_yes five64 five64 rfl
  simp only [List.append_eq, List.cons_append, List.nil_append]
  go_region_held3 (fun w' => (w'.cell? ⟨g1, 0, none⟩ = some (.int .u64 (wd 0 0 : Int)) ∧ w'.cell? ⟨g1, 1, none⟩ = some (.int .u64 (wd 0 1 : Int)) ∧ w'.cell? ⟨g1, 2, none⟩ = some (.int .u64 (wd 0 2 : Int)) ∧ w'.cell? ⟨g1, 3, none⟩ = some (.int .u64 (wd 0 3 : Int))) ∧ (w'.cell? ⟨g3, 0, none⟩ = some (.int .u64 (wd top 0 : Int)) ∧ w'.cell? ⟨g3, 1, none⟩ = some (.int .u64 (wd top 1 : Int)) ∧ w'.cell? ⟨g3, 2, none⟩ = some (.int .u64 (wd top 2 : Int)) ∧ w'.cell? ⟨g3, 3, none⟩ = some (.int .u64 (wd top 3 : Int))) ∧ (w'.cell? ⟨g5, 0, none⟩ = some (.int .u64 (wd 0 0 : Int)) ∧ w'.cell? ⟨g5, 1, none⟩ = some (.int .u64 (wd 0 1 : Int)) ∧ w'.cell? ⟨g5, 2, none⟩ = some (.int .u64 (wd 0 2 : Int)) ∧ w'.cell? ⟨g5, 3, none⟩ = some (.int .u64 (wd 0 3 : Int))) ∧ (w'.cell? ⟨g5 + 1, 0, none⟩ = some (.int .u64 (wd 1 0 : Int)) ∧ w'.cell? ⟨g5 + 1, 1, none⟩ = some (.int .u64 (wd 1 1 : Int)) ∧ w'.cell? ⟨g5 + 1, 2, none⟩ = some (.int .u64 (wd 1 2 : Int)) ∧ w'.cell? ⟨g5 + 1, 3, none⟩ = some (.int .u64 (wd 1 3 : Int))))
    (exact ⟨Env.cell (by assumption) _ _ (by simp), Env.cell (by assumption) _ _ (by simp), Env.cell (by assumption) _ _ (by simp), Env.cell (by assumption) _ _ (by simp)⟩)
    (first | ((go_at_call 28); (with_reducible refine (none_at (by assumption)).mono ?_); rintro e wn ⟨rfl, hs⟩) | ((go_at_call 27); (with_reducible refine (all_at (by assumption)).mono ?_); rintro e wn ⟨rfl, hs⟩) | ((go_at_call 24); (with_reducible refine (of_at 1 1 (by assumption) (by decide) (by decide)).mono ?_); rintro e wn ⟨rfl, hs⟩) | ((go_at_call 24); (with_reducible refine (of_at 5 5 (by assumption) (by decide) (by decide)).mono ?_); rintro e wn ⟨rfl, hs⟩) | ((go_at_call 24); (with_reducible refine (of_at 4 4 (by assumption) (by decide) (by decide)).mono ?_); rintro e wn ⟨rfl, hs⟩) | ((go_at_call 24); (with_reducible refine (of_at 3 3 (by assumption) (by decide) (by decide)).mono ?_); rintro e wn ⟨rfl, hs⟩) | ((go_at_call 16); (with_reducible refine (shift_at 5 five64 64 (by assumption) (by decide) (by decide) (by decide) (by decide)).mono ?_); rintro e wn ⟨rfl, hs⟩) | ((go_at_call 16); (with_reducible refine (shift_lit (by assumption)).mono ?_); rintro e wn ⟨rfl, hs⟩) | ((go_at_call 20); (with_reducible refine (bits_at 0 0 (by assumption) (by decide) (by decide)).mono ?_); rintro e wn ⟨rfl, hs⟩) | ((go_at_call 20); (with_reducible refine (bits_lit (by assumption)).mono ?_); rintro e wn ⟨rfl, hs⟩) | ((go_at_call 18); (with_reducible refine (bit_at 4 2 1 (by assumption) (by decide) (by decide) (by decide) (by decide)).mono ?_); rintro e wn ⟨rfl, hs⟩) | ((go_at_call 18); (with_reducible refine (bit_at 4 256 0 (by assumption) (by decide) (by decide) (by decide) (by decide)).mono ?_); rintro e wn ⟨rfl, hs⟩) | ((go_at_call 22); (with_reducible refine (cmp_at 3 5 (-1) (by assumption) (by decide) (by decide) (by decide)).mono ?_); rintro e wn ⟨rfl, hs⟩))
  go_wp2
  go_ret
  exact ⟨rfl, hs.1⟩
theorem alive_at {w w' : World} {l : List (Nat × Nat)} (h : Env w l w') : Calls Try.prog 29 #[] w' fun e w2 => e = .returned (.bool true) ∧ Env w l w2 :=
  (alive_any w').mono fun e w2 ⟨he, hb⟩ => ⟨he, h.on hb⟩
end Go.Proofs.Ytmhpeeicclbcmaa
