/-
  burrowlaw02.LimbsApart, walked: it answers true at any two long numbers. Conditions: none.
-/
import Derived.Test.YtmhpeeicclbcmaaAlive
import Derived.Test.YtmhpeeicclbcmaaFacts
namespace Go.Proofs.Ytmhpeeicclbcmaa
open Go.RowKit
set_option linter.unusedVariables false

theorem dif_both {a b : Nat} (ha : a < 2 ^ 256) (hb : b < 2 ^ 256) : (dif a b + dif b a) % 2 ^ 256 = 0 := by
  unfold dif
  rw [p256] at *
  split <;> split <;> omega

set_option maxRecDepth 100000 in
set_option maxHeartbeats 1600000 in
theorem apart_same (a : Nat) (w : World) (ha : a < 2 ^ 256) : Calls Try.prog 6 #[num a, num a] w fun e w' => e = .returned (.bool true) ∧ Below w.heap.size w w' := by
  have HA := hid ha
  have e1 := hid (dif_self a)
  have e2 : Hid ((lent a a : Int) = 0) := hid (by rw [lent_self]; rfl)
  have e3 : Hid (cmpN a a = 0) := hid (by unfold cmpN; simp)
  clear ha
  have q := eq_yes a a rfl
  have H0 := hid ((Env.refl w).new2 a a)
  go_enter Try.func6, Try.ntmps6
  go_wp2_with fail
  generalize (w.alloc (.cells (cls a) 24)).alloc (.cells (cls a) 24) = w0 at *
  generalize w.heap.size + 1 = gb at *
  generalize w.heap.size = ga at *
  refine (sub_at a a 0 0 H0.out HA.out HA.out e1.out e2.out).mono ?_
  rintro e w1 ⟨rfl, h⟩
  have H1 := hid h
  clear h H0
  obtain ⟨c0x1a, c0x1b, c0x1c, c0x1d⟩ := H1.out.cell (ga) (a) (by simp)
  have c0x1l := H1.out.lt (ga) (a) (by simp)
  have c0x1m := Nat.le_of_lt c0x1l
  obtain ⟨c6x1a, c6x1b, c6x1c, c6x1d⟩ := H1.out.cell (gb) (a) (by simp)
  have c6x1l := H1.out.lt (gb) (a) (by simp)
  have c6x1m := Nat.le_of_lt c6x1l
  go_wp2_with fail
  clear c0x1a c0x1b c0x1c c0x1d c0x1l c0x1m c6x1a c6x1b c6x1c c6x1d c6x1l c6x1m
  have H1b := hid (H1.out.new 0)
  clear H1
  generalize w1.alloc (.cells (cls 0) 24) = w1b at *
  generalize w1.heap.size = g1 at *
  refine (sub_at a a 0 0 H1b.out HA.out HA.out e1.out e2.out).mono ?_
  rintro e w2 ⟨rfl, h⟩
  have H2 := hid h
  clear h H1b
  obtain ⟨c0x2a, c0x2b, c0x2c, c0x2d⟩ := H2.out.cell (g1) (0) (by simp)
  have c0x2l := H2.out.lt (g1) (0) (by simp)
  have c0x2m := Nat.le_of_lt c0x2l
  go_wp2_with fail
  clear c0x2a c0x2b c0x2c c0x2d c0x2l c0x2m
  have H2b := hid (H2.out.new 0)
  clear H2
  generalize w2.alloc (.cells (cls 0) 24) = w2b at *
  generalize w2.heap.size = g2 at *
  refine (add_at 0 0 0 0 H2b.out (by decide) (by decide) (by decide) (by decide)).mono ?_
  rintro e w3 ⟨rfl, h⟩
  have H3 := hid h
  clear h H2b
  obtain ⟨c0x3a, c0x3b, c0x3c, c0x3d⟩ := H3.out.cell (ga) (a) (by simp)
  have c0x3l := H3.out.lt (ga) (a) (by simp)
  have c0x3m := Nat.le_of_lt c0x3l
  obtain ⟨c6x3a, c6x3b, c6x3c, c6x3d⟩ := H3.out.cell (gb) (a) (by simp)
  have c6x3l := H3.out.lt (gb) (a) (by simp)
  have c6x3m := Nat.le_of_lt c6x3l
  go_wp2_with fail
  clear c0x3a c0x3b c0x3c c0x3d c0x3l c0x3m c6x3a c6x3b c6x3c c6x3d c6x3l c6x3m
  have H3b := hid (H3.out.new 0)
  clear H3
  generalize w3.alloc (.cells (cls 0) 24) = w3b at *
  generalize w3.heap.size = g3 at *
  refine (cmp_at a a 0 H3b.out HA.out HA.out e3.out).mono ?_
  rintro e w4 ⟨rfl, h⟩
  have H4 := hid h
  clear h H3b
  obtain ⟨c0x4a, c0x4b, c0x4c, c0x4d⟩ := H4.out.cell (ga) (a) (by simp)
  have c0x4l := H4.out.lt (ga) (a) (by simp)
  have c0x4m := Nat.le_of_lt c0x4l
  obtain ⟨c6x4a, c6x4b, c6x4c, c6x4d⟩ := H4.out.cell (gb) (a) (by simp)
  have c6x4l := H4.out.lt (gb) (a) (by simp)
  have c6x4m := Nat.le_of_lt c6x4l
  go_wp2_with fail
  clear c0x4a c0x4b c0x4c c0x4d c0x4l c0x4m c6x4a c6x4b c6x4c c6x4d c6x4l c6x4m
  clear q
  have q0 := eq_yes 0 0 rfl
  have hD := H4.out.drew
  go_region_held3 (fun w' => (w'.cell? ⟨g1, 0, none⟩ = some (.int .u64 (wd 0 0 : Int)) ∧ w'.cell? ⟨g1, 1, none⟩ = some (.int .u64 (wd 0 1 : Int)) ∧ w'.cell? ⟨g1, 2, none⟩ = some (.int .u64 (wd 0 2 : Int)) ∧ w'.cell? ⟨g1, 3, none⟩ = some (.int .u64 (wd 0 3 : Int)))) (exact Env.cell (by assumption) _ _ (by simp)) (first | ((go_at_call 29); (with_reducible refine (alive_at (by assumption)).mono ?_); rintro e wn ⟨rfl, hs⟩) | ((go_at_call 28); (with_reducible refine (none_at (by assumption)).mono ?_); rintro e wn ⟨rfl, hs⟩))
  go_wp2
  go_ret
  exact ⟨rfl, hs.1⟩

set_option maxRecDepth 100000 in
set_option maxHeartbeats 1600000 in
theorem apart_less (a b : Nat) (w : World) (ha : a < 2 ^ 256) (hb : b < 2 ^ 256) (hlt : a < b) : Calls Try.prog 6 #[num a, num b] w fun e w' => e = .returned (.bool true) ∧ Below w.heap.size w w' := by
  have HA := hid ha
  have HB := hid hb
  obtain ⟨d, e1, n1⟩ : ∃ d, Hid (dif a b = d) ∧ Hid (d < 2 ^ 256) := ⟨_, hid rfl, hid (dif_lt ha hb)⟩
  obtain ⟨e, e4, n4⟩ : ∃ e, Hid (dif b a = e) ∧ Hid (e < 2 ^ 256) := ⟨_, hid rfl, hid (dif_lt hb ha)⟩
  obtain ⟨z, e7⟩ : ∃ z : Int, Hid ((((d + e) / 2 ^ 256 : Nat) : Int) = z) := ⟨_, hid rfl⟩
  have e6 : Hid ((d + e) % 2 ^ 256 = 0) := hid (by rw [← e1.out, ← e4.out]; exact dif_both ha hb)
  have e2 : Hid ((lent a b : Int) = 1) := hid (by unfold lent; rw [if_pos hlt]; rfl)
  have e5 : Hid ((lent b a : Int) = 0) := hid (by unfold lent; rw [if_neg (by omega)]; rfl)
  have e3 : Hid (cmpN a b = (-1)) := hid (by unfold cmpN; rw [if_pos hlt])
  have e8 : Hid (cmpN b a = 1) := hid (by unfold cmpN; rw [if_neg (by omega), if_pos hlt])
  have q := eq_no a b ha hb (by omega)
  clear ha hb hlt
  have H0 := hid ((Env.refl w).new2 a b)
  go_enter Try.func6, Try.ntmps6
  go_wp2_with fail
  generalize (w.alloc (.cells (cls a) 24)).alloc (.cells (cls b) 24) = w0 at *
  generalize w.heap.size + 1 = gb at *
  generalize w.heap.size = ga at *
  refine (sub_at a b d 1 H0.out HA.out HB.out e1.out e2.out).mono ?_
  rintro e w1 ⟨rfl, h⟩
  have H1 := hid h
  clear h H0
  obtain ⟨c0x1a, c0x1b, c0x1c, c0x1d⟩ := H1.out.cell (ga) (a) (by simp)
  have c0x1l := H1.out.lt (ga) (a) (by simp)
  have c0x1m := Nat.le_of_lt c0x1l
  obtain ⟨c6x1a, c6x1b, c6x1c, c6x1d⟩ := H1.out.cell (gb) (b) (by simp)
  have c6x1l := H1.out.lt (gb) (b) (by simp)
  have c6x1m := Nat.le_of_lt c6x1l
  go_wp2_with fail
  clear c0x1a c0x1b c0x1c c0x1d c0x1l c0x1m c6x1a c6x1b c6x1c c6x1d c6x1l c6x1m
  have H1b := hid (H1.out.new d)
  clear H1
  generalize w1.alloc (.cells (cls d) 24) = w1b at *
  generalize w1.heap.size = g1 at *
  refine (sub_at b a e 0 H1b.out HB.out HA.out e4.out e5.out).mono ?_
  rintro e w2 ⟨rfl, h⟩
  have H2 := hid h
  clear h H1b
  obtain ⟨c0x2a, c0x2b, c0x2c, c0x2d⟩ := H2.out.cell (g1) (d) (by simp)
  have c0x2l := H2.out.lt (g1) (d) (by simp)
  have c0x2m := Nat.le_of_lt c0x2l
  go_wp2_with fail
  clear c0x2a c0x2b c0x2c c0x2d c0x2l c0x2m
  have H2b := hid (H2.out.new e)
  clear H2
  generalize w2.alloc (.cells (cls e) 24) = w2b at *
  generalize w2.heap.size = g2 at *
  refine (add_at d e 0 z H2b.out n1.out n4.out e6.out e7.out).mono ?_
  rintro e w3 ⟨rfl, h⟩
  have H3 := hid h
  clear h H2b
  obtain ⟨c0x3a, c0x3b, c0x3c, c0x3d⟩ := H3.out.cell (ga) (a) (by simp)
  have c0x3l := H3.out.lt (ga) (a) (by simp)
  have c0x3m := Nat.le_of_lt c0x3l
  obtain ⟨c6x3a, c6x3b, c6x3c, c6x3d⟩ := H3.out.cell (gb) (b) (by simp)
  have c6x3l := H3.out.lt (gb) (b) (by simp)
  have c6x3m := Nat.le_of_lt c6x3l
  go_wp2_with fail
  clear c0x3a c0x3b c0x3c c0x3d c0x3l c0x3m c6x3a c6x3b c6x3c c6x3d c6x3l c6x3m
  have H3b := hid (H3.out.new 0)
  clear H3
  generalize w3.alloc (.cells (cls 0) 24) = w3b at *
  generalize w3.heap.size = g3 at *
  refine (cmp_at a b (-1) H3b.out HA.out HB.out e3.out).mono ?_
  rintro e w4 ⟨rfl, h⟩
  have H4 := hid h
  clear h H3b
  obtain ⟨c0x4a, c0x4b, c0x4c, c0x4d⟩ := H4.out.cell (ga) (a) (by simp)
  have c0x4l := H4.out.lt (ga) (a) (by simp)
  have c0x4m := Nat.le_of_lt c0x4l
  obtain ⟨c6x4a, c6x4b, c6x4c, c6x4d⟩ := H4.out.cell (gb) (b) (by simp)
  have c6x4l := H4.out.lt (gb) (b) (by simp)
  have c6x4m := Nat.le_of_lt c6x4l
  go_wp2_with fail
  clear c0x4a c0x4b c0x4c c0x4d c0x4l c0x4m c6x4a c6x4b c6x4c c6x4d c6x4l c6x4m
  clear q
  have q0 := eq_yes 0 0 rfl
  have hD := H4.out.drew
  go_region_held3 (fun w' => (w'.cell? ⟨g3, 0, none⟩ = some (.int .u64 (wd 0 0 : Int)) ∧ w'.cell? ⟨g3, 1, none⟩ = some (.int .u64 (wd 0 1 : Int)) ∧ w'.cell? ⟨g3, 2, none⟩ = some (.int .u64 (wd 0 2 : Int)) ∧ w'.cell? ⟨g3, 3, none⟩ = some (.int .u64 (wd 0 3 : Int))) ∧ (w'.cell? ⟨gb, 0, none⟩ = some (.int .u64 (wd b 0 : Int)) ∧ w'.cell? ⟨gb, 1, none⟩ = some (.int .u64 (wd b 1 : Int)) ∧ w'.cell? ⟨gb, 2, none⟩ = some (.int .u64 (wd b 2 : Int)) ∧ w'.cell? ⟨gb, 3, none⟩ = some (.int .u64 (wd b 3 : Int))) ∧ (w'.cell? ⟨ga, 0, none⟩ = some (.int .u64 (wd a 0 : Int)) ∧ w'.cell? ⟨ga, 1, none⟩ = some (.int .u64 (wd a 1 : Int)) ∧ w'.cell? ⟨ga, 2, none⟩ = some (.int .u64 (wd a 2 : Int)) ∧ w'.cell? ⟨ga, 3, none⟩ = some (.int .u64 (wd a 3 : Int)))) (exact ⟨Env.cell (by assumption) _ _ (by simp), Env.cell (by assumption) _ _ (by simp), Env.cell (by assumption) _ _ (by simp)⟩) (first | ((go_at_call 29); (with_reducible refine (alive_at (by assumption)).mono ?_); rintro e wn ⟨rfl, hs⟩) | ((go_at_call 28); (with_reducible refine (none_at (by assumption)).mono ?_); rintro e wn ⟨rfl, hs⟩) | ((go_at_call 22); (with_reducible refine (cmp_at b a 1 (by assumption) HB.out HA.out e8.out).mono ?_); rintro e wn ⟨rfl, hs⟩))
  go_wp2
  go_ret
  exact ⟨rfl, hs.1⟩

set_option maxRecDepth 100000 in
set_option maxHeartbeats 1600000 in
theorem apart_more (a b : Nat) (w : World) (ha : a < 2 ^ 256) (hb : b < 2 ^ 256) (hlt : b < a) : Calls Try.prog 6 #[num a, num b] w fun e w' => e = .returned (.bool true) ∧ Below w.heap.size w w' := by
  have HA := hid ha
  have HB := hid hb
  obtain ⟨d, e1, n1⟩ : ∃ d, Hid (dif a b = d) ∧ Hid (d < 2 ^ 256) := ⟨_, hid rfl, hid (dif_lt ha hb)⟩
  obtain ⟨e, e4, n4⟩ : ∃ e, Hid (dif b a = e) ∧ Hid (e < 2 ^ 256) := ⟨_, hid rfl, hid (dif_lt hb ha)⟩
  obtain ⟨z, e7⟩ : ∃ z : Int, Hid ((((d + e) / 2 ^ 256 : Nat) : Int) = z) := ⟨_, hid rfl⟩
  have e6 : Hid ((d + e) % 2 ^ 256 = 0) := hid (by rw [← e1.out, ← e4.out]; exact dif_both ha hb)
  have e2 : Hid ((lent a b : Int) = 0) := hid (by unfold lent; rw [if_neg (by omega)]; rfl)
  have e5 : Hid ((lent b a : Int) = 1) := hid (by unfold lent; rw [if_pos hlt]; rfl)
  have e3 : Hid (cmpN a b = 1) := hid (by unfold cmpN; rw [if_neg (by omega), if_pos hlt])
  have e8 : Hid (cmpN b a = (-1)) := hid (by unfold cmpN; rw [if_pos hlt])
  have q := eq_no a b ha hb (by omega)
  clear ha hb hlt
  have H0 := hid ((Env.refl w).new2 a b)
  go_enter Try.func6, Try.ntmps6
  go_wp2_with fail
  generalize (w.alloc (.cells (cls a) 24)).alloc (.cells (cls b) 24) = w0 at *
  generalize w.heap.size + 1 = gb at *
  generalize w.heap.size = ga at *
  refine (sub_at a b d 0 H0.out HA.out HB.out e1.out e2.out).mono ?_
  rintro e w1 ⟨rfl, h⟩
  have H1 := hid h
  clear h H0
  obtain ⟨c0x1a, c0x1b, c0x1c, c0x1d⟩ := H1.out.cell (ga) (a) (by simp)
  have c0x1l := H1.out.lt (ga) (a) (by simp)
  have c0x1m := Nat.le_of_lt c0x1l
  obtain ⟨c6x1a, c6x1b, c6x1c, c6x1d⟩ := H1.out.cell (gb) (b) (by simp)
  have c6x1l := H1.out.lt (gb) (b) (by simp)
  have c6x1m := Nat.le_of_lt c6x1l
  go_wp2_with fail
  clear c0x1a c0x1b c0x1c c0x1d c0x1l c0x1m c6x1a c6x1b c6x1c c6x1d c6x1l c6x1m
  have H1b := hid (H1.out.new d)
  clear H1
  generalize w1.alloc (.cells (cls d) 24) = w1b at *
  generalize w1.heap.size = g1 at *
  refine (sub_at b a e 1 H1b.out HB.out HA.out e4.out e5.out).mono ?_
  rintro e w2 ⟨rfl, h⟩
  have H2 := hid h
  clear h H1b
  obtain ⟨c0x2a, c0x2b, c0x2c, c0x2d⟩ := H2.out.cell (g1) (d) (by simp)
  have c0x2l := H2.out.lt (g1) (d) (by simp)
  have c0x2m := Nat.le_of_lt c0x2l
  go_wp2_with fail
  clear c0x2a c0x2b c0x2c c0x2d c0x2l c0x2m
  have H2b := hid (H2.out.new e)
  clear H2
  generalize w2.alloc (.cells (cls e) 24) = w2b at *
  generalize w2.heap.size = g2 at *
  refine (add_at d e 0 z H2b.out n1.out n4.out e6.out e7.out).mono ?_
  rintro e w3 ⟨rfl, h⟩
  have H3 := hid h
  clear h H2b
  obtain ⟨c0x3a, c0x3b, c0x3c, c0x3d⟩ := H3.out.cell (ga) (a) (by simp)
  have c0x3l := H3.out.lt (ga) (a) (by simp)
  have c0x3m := Nat.le_of_lt c0x3l
  obtain ⟨c6x3a, c6x3b, c6x3c, c6x3d⟩ := H3.out.cell (gb) (b) (by simp)
  have c6x3l := H3.out.lt (gb) (b) (by simp)
  have c6x3m := Nat.le_of_lt c6x3l
  go_wp2_with fail
  clear c0x3a c0x3b c0x3c c0x3d c0x3l c0x3m c6x3a c6x3b c6x3c c6x3d c6x3l c6x3m
  have H3b := hid (H3.out.new 0)
  clear H3
  generalize w3.alloc (.cells (cls 0) 24) = w3b at *
  generalize w3.heap.size = g3 at *
  refine (cmp_at a b 1 H3b.out HA.out HB.out e3.out).mono ?_
  rintro e w4 ⟨rfl, h⟩
  have H4 := hid h
  clear h H3b
  obtain ⟨c0x4a, c0x4b, c0x4c, c0x4d⟩ := H4.out.cell (ga) (a) (by simp)
  have c0x4l := H4.out.lt (ga) (a) (by simp)
  have c0x4m := Nat.le_of_lt c0x4l
  obtain ⟨c6x4a, c6x4b, c6x4c, c6x4d⟩ := H4.out.cell (gb) (b) (by simp)
  have c6x4l := H4.out.lt (gb) (b) (by simp)
  have c6x4m := Nat.le_of_lt c6x4l
  go_wp2_with fail
  clear c0x4a c0x4b c0x4c c0x4d c0x4l c0x4m c6x4a c6x4b c6x4c c6x4d c6x4l c6x4m
  clear q
  have q0 := eq_yes 0 0 rfl
  have hD := H4.out.drew
  go_region_held3 (fun w' => (w'.cell? ⟨g3, 0, none⟩ = some (.int .u64 (wd 0 0 : Int)) ∧ w'.cell? ⟨g3, 1, none⟩ = some (.int .u64 (wd 0 1 : Int)) ∧ w'.cell? ⟨g3, 2, none⟩ = some (.int .u64 (wd 0 2 : Int)) ∧ w'.cell? ⟨g3, 3, none⟩ = some (.int .u64 (wd 0 3 : Int))) ∧ (w'.cell? ⟨gb, 0, none⟩ = some (.int .u64 (wd b 0 : Int)) ∧ w'.cell? ⟨gb, 1, none⟩ = some (.int .u64 (wd b 1 : Int)) ∧ w'.cell? ⟨gb, 2, none⟩ = some (.int .u64 (wd b 2 : Int)) ∧ w'.cell? ⟨gb, 3, none⟩ = some (.int .u64 (wd b 3 : Int))) ∧ (w'.cell? ⟨ga, 0, none⟩ = some (.int .u64 (wd a 0 : Int)) ∧ w'.cell? ⟨ga, 1, none⟩ = some (.int .u64 (wd a 1 : Int)) ∧ w'.cell? ⟨ga, 2, none⟩ = some (.int .u64 (wd a 2 : Int)) ∧ w'.cell? ⟨ga, 3, none⟩ = some (.int .u64 (wd a 3 : Int)))) (exact ⟨Env.cell (by assumption) _ _ (by simp), Env.cell (by assumption) _ _ (by simp), Env.cell (by assumption) _ _ (by simp)⟩) (first | ((go_at_call 29); (with_reducible refine (alive_at (by assumption)).mono ?_); rintro e wn ⟨rfl, hs⟩) | ((go_at_call 28); (with_reducible refine (none_at (by assumption)).mono ?_); rintro e wn ⟨rfl, hs⟩) | ((go_at_call 22); (with_reducible refine (cmp_at b a (-1) (by assumption) HB.out HA.out e8.out).mono ?_); rintro e wn ⟨rfl, hs⟩))
  go_wp2
  go_ret
  exact ⟨rfl, hs.1⟩

theorem apartLaw_any (a b : Nat) (w : World) (ha : a < 2 ^ 256) (hb : b < 2 ^ 256) : Calls Try.prog 6 #[num a, num b] w fun e w' => e = .returned (.bool true) ∧ Below w.heap.size w w' := by
  rcases Nat.lt_trichotomy a b with h | h | h
  · exact apart_less a b w ha hb h
  · subst h; exact apart_same a w ha
  · exact apart_more a b w ha hb h
end Go.Proofs.Ytmhpeeicclbcmaa
