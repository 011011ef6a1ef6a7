/-
  burrowlaw03.DividesBetween, walked: it answers true at any two long numbers. Conditions: the library's table holds what its text lays.
-/
import Derived.Test.YtdjabenccjeooaaDoorAlive
namespace Go.Proofs.YtdjabenccjeooaaDoor
open Go.RowKit
set_option linter.unusedVariables false

set_option maxRecDepth 100000 in
set_option maxHeartbeats 3200000 in
theorem between_zero (a : Nat) (w : World) (hT : Tab w) : Calls Tryd.prog 4 #[num a, num 0] w fun e w' => e = .returned (.bool true) ∧ Below w.heap.size w w' := by
  have HT := hid hT
  clear hT
  have q0 := eq_yes 0 0 rfl
  have H0 := hid ((((Env.refl w).new a).new 0).perm (l' := [(w.heap.size + 1, 0), (w.heap.size, a)]) (by simp))
  go_enter Tryd.func4, Tryd.ntmps4
  go_wp2_with fail
  generalize (w.alloc (.cells (cls a) 24)).alloc (.cells (cls 0) 24) = w0 at *
  generalize w.heap.size + 1 = g_b at *
  generalize w.heap.size = g_a at *
  refine (div_none_at a H0.out).mono ?_
  rintro e w1 ⟨rfl, h⟩
  have H1 := hid h
  clear h H0
  obtain ⟨c0x1a, c0x1b, c0x1c, c0x1d⟩ := H1.out.cell (g_b) (0) (by simp)
  have c0x1l := H1.out.lt (g_b) (0) (by simp)
  have c0x1m := Nat.le_of_lt c0x1l
  go_wp2_with fail
  clear c0x1a c0x1b c0x1c c0x1d c0x1l c0x1m
  have H1b := hid (H1.out.new2 0 0)
  clear H1
  generalize (w1.alloc (.cells (cls 0) 24)).alloc (.cells (cls 0) 24) = w1b at *
  generalize w1.heap.size + 1 = g5s at *
  generalize w1.heap.size = g5 at *
  obtain ⟨c0x1a, c0x1b, c0x1c, c0x1d⟩ := H1b.out.cell (g_b) (0) (by simp)
  have c0x1l := H1b.out.lt (g_b) (0) (by simp)
  have c0x1m := Nat.le_of_lt c0x1l
  have hs := H1b.out.drew
  go_region_held3 (fun w' => (w'.cell? ⟨g_b, 0, none⟩ = some (.int .u64 (wd (0) 0 : Int)) ∧ w'.cell? ⟨g_b, 1, none⟩ = some (.int .u64 (wd (0) 1 : Int)) ∧ w'.cell? ⟨g_b, 2, none⟩ = some (.int .u64 (wd (0) 2 : Int)) ∧ w'.cell? ⟨g_b, 3, none⟩ = some (.int .u64 (wd (0) 3 : Int)))) (exact Env.cell (by assumption) _ _ (by simp)) (first | ((go_at_call 16); (with_reducible refine (none_at (by assumption)).mono ?_); rintro e wn ⟨rfl, hs⟩))
  have H2 := hid hs
  clear hs H1b
  clear c0x1a c0x1b c0x1c c0x1d c0x1l c0x1m
  go_wp2_with fail
  have hs := H2.out.drew
  go_region_held3 (fun w' => (w'.cell? ⟨g5, 0, none⟩ = some (.int .u64 (wd (0) 0 : Int)) ∧ w'.cell? ⟨g5, 1, none⟩ = some (.int .u64 (wd (0) 1 : Int)) ∧ w'.cell? ⟨g5, 2, none⟩ = some (.int .u64 (wd (0) 2 : Int)) ∧ w'.cell? ⟨g5, 3, none⟩ = some (.int .u64 (wd (0) 3 : Int))) ∧ (w'.cell? ⟨g5s, 0, none⟩ = some (.int .u64 (wd (0) 0 : Int)) ∧ w'.cell? ⟨g5s, 1, none⟩ = some (.int .u64 (wd (0) 1 : Int)) ∧ w'.cell? ⟨g5s, 2, none⟩ = some (.int .u64 (wd (0) 2 : Int)) ∧ w'.cell? ⟨g5s, 3, none⟩ = some (.int .u64 (wd (0) 3 : Int)))) (exact ⟨Env.cell (by assumption) _ _ (by simp), Env.cell (by assumption) _ _ (by simp)⟩) (first | ((go_at_call 16); (with_reducible refine (none_at (by assumption)).mono ?_); rintro e wn ⟨rfl, hs⟩) | ((go_at_call 17); (with_reducible refine (alive_at (by assumption) HT.out).mono ?_); rintro e wn ⟨rfl, hs⟩))
  go_wp2
  go_ret
  exact ⟨rfl, hs.1⟩

set_option maxRecDepth 100000 in
set_option maxHeartbeats 3200000 in
theorem between_0 (a b : Nat) (w : World) (ha : a < 2 ^ 256) (hb : b < 2 ^ 256) (h0 : b ≠ 0) (hk : a / b * b + b < 2 ^ 256) (hT : Tab w) : Calls Tryd.prog 4 #[num a, num b] w fun e w' => e = .returned (.bool true) ∧ Below w.heap.size w w' := by
  have HT := hid hT
  have HA := hid ha
  have HB := hid hb
  have B0 := hid h0
  have qb := eq_no b 0 hb (by decide) h0
  have q0 := eq_yes 0 0 rfl
  obtain ⟨h1, h2, h3⟩ := div_between a b (by omega)
  have hrl : a % b < 2 ^ 256 := Nat.lt_of_le_of_lt (Nat.mod_le _ _) ha
  have hql : a / b < 2 ^ 256 := Nat.lt_of_le_of_lt (Nat.div_le_self _ _) ha
  obtain ⟨q, eq⟩ : ∃ q, a / b = q := ⟨_, rfl⟩
  obtain ⟨r, er⟩ : ∃ r, a % b = r := ⟨_, rfl⟩
  have EQ := hid eq
  have ER := hid er
  rw [eq] at h1 h2 h3 hk hql
  rw [er] at h3 hrl
  have QL := hid hql
  obtain ⟨p, ep⟩ : ∃ p, q * b = p := ⟨_, rfl⟩
  rw [ep] at h1 h2 h3 hk
  have hp : p < 2 ^ 256 := by omega
  have HP := hid hp
  have E1 : Hid (q * b % 2 ^ 256 = p) := hid (by rw [ep]; exact Nat.mod_eq_of_lt hp)
  have E2 : Hid (q * b / 2 ^ 256 = 0) := hid (by rw [ep]; exact Nat.div_eq_of_lt hp)
  have E3 : Hid (dif a p = r) := hid (by unfold dif; rw [if_neg (by omega)]; exact h3)
  have E4 : Hid (((lent a p : Nat) : Int) = 0) := hid (by unfold lent; rw [if_neg (by omega)]; rfl)
  obtain ⟨nx, en⟩ : ∃ x, (p + b) % 2 ^ 256 = x := ⟨_, rfl⟩
  have EN := hid en
  have E5 : Hid ((((p + b) / 2 ^ 256 : Nat) : Int) = 0) := hid (by rw [p256] at *; omega)
  have qr := eq_yes r r rfl
  have NX : Hid (nx < 2 ^ 256) := hid (by rw [← en]; exact Nat.mod_lt _ (by decide))
  have E6 : Hid (cmpN nx a = 1) := hid (by unfold cmpN; rw [if_neg (by rw [p256] at *; omega), if_pos (by rw [p256] at *; omega)])
  clear hT ha hb h0 h1 h2 h3 hrl hql eq er ep hp en hk
  have H0 := hid ((((Env.refl w).new a).new b).perm (l' := [(w.heap.size + 1, b), (w.heap.size, a)]) (by simp))
  go_enter Tryd.func4, Tryd.ntmps4
  go_wp2_with fail
  generalize (w.alloc (.cells (cls a) 24)).alloc (.cells (cls b) 24) = w0 at *
  generalize w.heap.size + 1 = g_b at *
  generalize w.heap.size = g_a at *
  refine (div_at a b q r H0.out HA.out HB.out B0.out EQ.out ER.out).mono ?_
  rintro e w1 ⟨rfl, h⟩
  have H1 := hid h
  clear h H0
  obtain ⟨c0x1a, c0x1b, c0x1c, c0x1d⟩ := H1.out.cell (g_b) (b) (by simp)
  have c0x1l := H1.out.lt (g_b) (b) (by simp)
  have c0x1m := Nat.le_of_lt c0x1l
  go_wp2_with fail
  clear c0x1a c0x1b c0x1c c0x1d c0x1l c0x1m
  have H1b := hid (H1.out.new2 q r)
  clear H1
  generalize (w1.alloc (.cells (cls q) 24)).alloc (.cells (cls r) 24) = w1b at *
  generalize w1.heap.size + 1 = g5s at *
  generalize w1.heap.size = g5 at *
  obtain ⟨c0x1a, c0x1b, c0x1c, c0x1d⟩ := H1b.out.cell (g_b) (b) (by simp)
  have c0x1l := H1b.out.lt (g_b) (b) (by simp)
  have c0x1m := Nat.le_of_lt c0x1l
  have hs := H1b.out.drew
  go_region_held3 (fun w' => (w'.cell? ⟨g_b, 0, none⟩ = some (.int .u64 (wd (b) 0 : Int)) ∧ w'.cell? ⟨g_b, 1, none⟩ = some (.int .u64 (wd (b) 1 : Int)) ∧ w'.cell? ⟨g_b, 2, none⟩ = some (.int .u64 (wd (b) 2 : Int)) ∧ w'.cell? ⟨g_b, 3, none⟩ = some (.int .u64 (wd (b) 3 : Int)))) (exact Env.cell (by assumption) _ _ (by simp)) (first | ((go_at_call 16); (with_reducible refine (none_at (by assumption)).mono ?_); rintro e wn ⟨rfl, hs⟩))
  have H2 := hid hs
  clear hs H1b
  clear c0x1a c0x1b c0x1c c0x1d c0x1l c0x1m
  obtain ⟨c0x2a, c0x2b, c0x2c, c0x2d⟩ := H2.out.cell (g_b) (b) (by simp)
  have c0x2l := H2.out.lt (g_b) (b) (by simp)
  have c0x2m := Nat.le_of_lt c0x2l
  obtain ⟨c6x2a, c6x2b, c6x2c, c6x2d⟩ := H2.out.cell (g5) (q) (by simp)
  have c6x2l := H2.out.lt (g5) (q) (by simp)
  have c6x2m := Nat.le_of_lt c6x2l
  go_wp2_with fail
  clear c0x2a c0x2b c0x2c c0x2d c0x2l c0x2m c6x2a c6x2b c6x2c c6x2d c6x2l c6x2m
  refine (mul_at q b p 0 H2.out QL.out HB.out E1.out E2.out).mono ?_
  rintro e w3 ⟨rfl, h⟩
  have H3 := hid h
  clear h H2
  obtain ⟨c0x3a, c0x3b, c0x3c, c0x3d⟩ := H3.out.cell (g_a) (a) (by simp)
  have c0x3l := H3.out.lt (g_a) (a) (by simp)
  have c0x3m := Nat.le_of_lt c0x3l
  go_wp2_with fail
  clear c0x3a c0x3b c0x3c c0x3d c0x3l c0x3m
  have H3b := hid (H3.out.new2 p 0)
  clear H3
  generalize (w3.alloc (.cells (cls p) 24)).alloc (.cells (cls 0) 24) = w3b at *
  generalize w3.heap.size + 1 = g8s at *
  generalize w3.heap.size = g8 at *
  refine (sub_at a p r 0 H3b.out HA.out HP.out E3.out E4.out).mono ?_
  rintro e w4 ⟨rfl, h⟩
  have H4 := hid h
  clear h H3b
  obtain ⟨c0x4a, c0x4b, c0x4c, c0x4d⟩ := H4.out.cell (g_b) (b) (by simp)
  have c0x4l := H4.out.lt (g_b) (b) (by simp)
  have c0x4m := Nat.le_of_lt c0x4l
  obtain ⟨c6x4a, c6x4b, c6x4c, c6x4d⟩ := H4.out.cell (g8) (p) (by simp)
  have c6x4l := H4.out.lt (g8) (p) (by simp)
  have c6x4m := Nat.le_of_lt c6x4l
  go_wp2_with fail
  clear c0x4a c0x4b c0x4c c0x4d c0x4l c0x4m c6x4a c6x4b c6x4c c6x4d c6x4l c6x4m
  have H4b := hid (H4.out.new r)
  clear H4
  generalize w4.alloc (.cells (cls r) 24) = w4b at *
  generalize w4.heap.size = g10 at *
  refine (add_at p b nx 0 H4b.out HP.out HB.out EN.out E5.out).mono ?_
  rintro e w5 ⟨rfl, h⟩
  have H5 := hid h
  clear h H4b
  go_wp2_with fail
  have H5b := hid (H5.out.new nx)
  clear H5
  generalize w5.alloc (.cells (cls nx) 24) = w5b at *
  generalize w5.heap.size = g12 at *
  have hs := H5b.out.drew
  go_region_held3 (fun w' => (w'.cell? ⟨g8s, 0, none⟩ = some (.int .u64 (wd (0) 0 : Int)) ∧ w'.cell? ⟨g8s, 1, none⟩ = some (.int .u64 (wd (0) 1 : Int)) ∧ w'.cell? ⟨g8s, 2, none⟩ = some (.int .u64 (wd (0) 2 : Int)) ∧ w'.cell? ⟨g8s, 3, none⟩ = some (.int .u64 (wd (0) 3 : Int))) ∧ (w'.cell? ⟨g10, 0, none⟩ = some (.int .u64 (wd (r) 0 : Int)) ∧ w'.cell? ⟨g10, 1, none⟩ = some (.int .u64 (wd (r) 1 : Int)) ∧ w'.cell? ⟨g10, 2, none⟩ = some (.int .u64 (wd (r) 2 : Int)) ∧ w'.cell? ⟨g10, 3, none⟩ = some (.int .u64 (wd (r) 3 : Int))) ∧ (w'.cell? ⟨g5s, 0, none⟩ = some (.int .u64 (wd (r) 0 : Int)) ∧ w'.cell? ⟨g5s, 1, none⟩ = some (.int .u64 (wd (r) 1 : Int)) ∧ w'.cell? ⟨g5s, 2, none⟩ = some (.int .u64 (wd (r) 2 : Int)) ∧ w'.cell? ⟨g5s, 3, none⟩ = some (.int .u64 (wd (r) 3 : Int))) ∧ (w'.cell? ⟨g12, 0, none⟩ = some (.int .u64 (wd (nx) 0 : Int)) ∧ w'.cell? ⟨g12, 1, none⟩ = some (.int .u64 (wd (nx) 1 : Int)) ∧ w'.cell? ⟨g12, 2, none⟩ = some (.int .u64 (wd (nx) 2 : Int)) ∧ w'.cell? ⟨g12, 3, none⟩ = some (.int .u64 (wd (nx) 3 : Int))) ∧ (w'.cell? ⟨g_a, 0, none⟩ = some (.int .u64 (wd (a) 0 : Int)) ∧ w'.cell? ⟨g_a, 1, none⟩ = some (.int .u64 (wd (a) 1 : Int)) ∧ w'.cell? ⟨g_a, 2, none⟩ = some (.int .u64 (wd (a) 2 : Int)) ∧ w'.cell? ⟨g_a, 3, none⟩ = some (.int .u64 (wd (a) 3 : Int)))) (exact ⟨Env.cell (by assumption) _ _ (by simp), Env.cell (by assumption) _ _ (by simp), Env.cell (by assumption) _ _ (by simp), Env.cell (by assumption) _ _ (by simp), Env.cell (by assumption) _ _ (by simp)⟩) (first | ((go_at_call 17); (with_reducible refine (alive_at (by assumption) HT.out).mono ?_); rintro e wn ⟨rfl, hs⟩) | ((go_at_call 16); (with_reducible refine (none_at (by assumption)).mono ?_); rintro e wn ⟨rfl, hs⟩) | ((go_at_call 21); (with_reducible refine (cmp_at nx a 1 (by assumption) NX.out HA.out E6.out).mono ?_); rintro e wn ⟨rfl, hs⟩))
  go_wp2
  go_ret
  exact ⟨rfl, hs.1⟩

set_option maxRecDepth 100000 in
set_option maxHeartbeats 3200000 in
theorem between_1 (a b : Nat) (w : World) (ha : a < 2 ^ 256) (hb : b < 2 ^ 256) (h0 : b ≠ 0) (hk : 2 ^ 256 ≤ a / b * b + b) (hT : Tab w) : Calls Tryd.prog 4 #[num a, num b] w fun e w' => e = .returned (.bool true) ∧ Below w.heap.size w w' := by
  have HT := hid hT
  have HA := hid ha
  have HB := hid hb
  have B0 := hid h0
  have qb := eq_no b 0 hb (by decide) h0
  have q0 := eq_yes 0 0 rfl
  obtain ⟨h1, h2, h3⟩ := div_between a b (by omega)
  have hrl : a % b < 2 ^ 256 := Nat.lt_of_le_of_lt (Nat.mod_le _ _) ha
  have hql : a / b < 2 ^ 256 := Nat.lt_of_le_of_lt (Nat.div_le_self _ _) ha
  obtain ⟨q, eq⟩ : ∃ q, a / b = q := ⟨_, rfl⟩
  obtain ⟨r, er⟩ : ∃ r, a % b = r := ⟨_, rfl⟩
  have EQ := hid eq
  have ER := hid er
  rw [eq] at h1 h2 h3 hk hql
  rw [er] at h3 hrl
  have QL := hid hql
  obtain ⟨p, ep⟩ : ∃ p, q * b = p := ⟨_, rfl⟩
  rw [ep] at h1 h2 h3 hk
  have hp : p < 2 ^ 256 := by omega
  have HP := hid hp
  have E1 : Hid (q * b % 2 ^ 256 = p) := hid (by rw [ep]; exact Nat.mod_eq_of_lt hp)
  have E2 : Hid (q * b / 2 ^ 256 = 0) := hid (by rw [ep]; exact Nat.div_eq_of_lt hp)
  have E3 : Hid (dif a p = r) := hid (by unfold dif; rw [if_neg (by omega)]; exact h3)
  have E4 : Hid (((lent a p : Nat) : Int) = 0) := hid (by unfold lent; rw [if_neg (by omega)]; rfl)
  obtain ⟨nx, en⟩ : ∃ x, (p + b) % 2 ^ 256 = x := ⟨_, rfl⟩
  have EN := hid en
  have E5 : Hid ((((p + b) / 2 ^ 256 : Nat) : Int) = 1) := hid (by rw [p256] at *; omega)
  have qr := eq_yes r r rfl
  clear hT ha hb h0 h1 h2 h3 hrl hql eq er ep hp en hk
  have H0 := hid ((((Env.refl w).new a).new b).perm (l' := [(w.heap.size + 1, b), (w.heap.size, a)]) (by simp))
  go_enter Tryd.func4, Tryd.ntmps4
  go_wp2_with fail
  generalize (w.alloc (.cells (cls a) 24)).alloc (.cells (cls b) 24) = w0 at *
  generalize w.heap.size + 1 = g_b at *
  generalize w.heap.size = g_a at *
  refine (div_at a b q r H0.out HA.out HB.out B0.out EQ.out ER.out).mono ?_
  rintro e w1 ⟨rfl, h⟩
  have H1 := hid h
  clear h H0
  obtain ⟨c0x1a, c0x1b, c0x1c, c0x1d⟩ := H1.out.cell (g_b) (b) (by simp)
  have c0x1l := H1.out.lt (g_b) (b) (by simp)
  have c0x1m := Nat.le_of_lt c0x1l
  go_wp2_with fail
  clear c0x1a c0x1b c0x1c c0x1d c0x1l c0x1m
  have H1b := hid (H1.out.new2 q r)
  clear H1
  generalize (w1.alloc (.cells (cls q) 24)).alloc (.cells (cls r) 24) = w1b at *
  generalize w1.heap.size + 1 = g5s at *
  generalize w1.heap.size = g5 at *
  obtain ⟨c0x1a, c0x1b, c0x1c, c0x1d⟩ := H1b.out.cell (g_b) (b) (by simp)
  have c0x1l := H1b.out.lt (g_b) (b) (by simp)
  have c0x1m := Nat.le_of_lt c0x1l
  have hs := H1b.out.drew
  go_region_held3 (fun w' => (w'.cell? ⟨g_b, 0, none⟩ = some (.int .u64 (wd (b) 0 : Int)) ∧ w'.cell? ⟨g_b, 1, none⟩ = some (.int .u64 (wd (b) 1 : Int)) ∧ w'.cell? ⟨g_b, 2, none⟩ = some (.int .u64 (wd (b) 2 : Int)) ∧ w'.cell? ⟨g_b, 3, none⟩ = some (.int .u64 (wd (b) 3 : Int)))) (exact Env.cell (by assumption) _ _ (by simp)) (first | ((go_at_call 16); (with_reducible refine (none_at (by assumption)).mono ?_); rintro e wn ⟨rfl, hs⟩))
  have H2 := hid hs
  clear hs H1b
  clear c0x1a c0x1b c0x1c c0x1d c0x1l c0x1m
  obtain ⟨c0x2a, c0x2b, c0x2c, c0x2d⟩ := H2.out.cell (g_b) (b) (by simp)
  have c0x2l := H2.out.lt (g_b) (b) (by simp)
  have c0x2m := Nat.le_of_lt c0x2l
  obtain ⟨c6x2a, c6x2b, c6x2c, c6x2d⟩ := H2.out.cell (g5) (q) (by simp)
  have c6x2l := H2.out.lt (g5) (q) (by simp)
  have c6x2m := Nat.le_of_lt c6x2l
  go_wp2_with fail
  clear c0x2a c0x2b c0x2c c0x2d c0x2l c0x2m c6x2a c6x2b c6x2c c6x2d c6x2l c6x2m
  refine (mul_at q b p 0 H2.out QL.out HB.out E1.out E2.out).mono ?_
  rintro e w3 ⟨rfl, h⟩
  have H3 := hid h
  clear h H2
  obtain ⟨c0x3a, c0x3b, c0x3c, c0x3d⟩ := H3.out.cell (g_a) (a) (by simp)
  have c0x3l := H3.out.lt (g_a) (a) (by simp)
  have c0x3m := Nat.le_of_lt c0x3l
  go_wp2_with fail
  clear c0x3a c0x3b c0x3c c0x3d c0x3l c0x3m
  have H3b := hid (H3.out.new2 p 0)
  clear H3
  generalize (w3.alloc (.cells (cls p) 24)).alloc (.cells (cls 0) 24) = w3b at *
  generalize w3.heap.size + 1 = g8s at *
  generalize w3.heap.size = g8 at *
  refine (sub_at a p r 0 H3b.out HA.out HP.out E3.out E4.out).mono ?_
  rintro e w4 ⟨rfl, h⟩
  have H4 := hid h
  clear h H3b
  obtain ⟨c0x4a, c0x4b, c0x4c, c0x4d⟩ := H4.out.cell (g_b) (b) (by simp)
  have c0x4l := H4.out.lt (g_b) (b) (by simp)
  have c0x4m := Nat.le_of_lt c0x4l
  obtain ⟨c6x4a, c6x4b, c6x4c, c6x4d⟩ := H4.out.cell (g8) (p) (by simp)
  have c6x4l := H4.out.lt (g8) (p) (by simp)
  have c6x4m := Nat.le_of_lt c6x4l
  go_wp2_with fail
  clear c0x4a c0x4b c0x4c c0x4d c0x4l c0x4m c6x4a c6x4b c6x4c c6x4d c6x4l c6x4m
  have H4b := hid (H4.out.new r)
  clear H4
  generalize w4.alloc (.cells (cls r) 24) = w4b at *
  generalize w4.heap.size = g10 at *
  refine (add_at p b nx 1 H4b.out HP.out HB.out EN.out E5.out).mono ?_
  rintro e w5 ⟨rfl, h⟩
  have H5 := hid h
  clear h H4b
  go_wp2_with fail
  have H5b := hid (H5.out.new nx)
  clear H5
  generalize w5.alloc (.cells (cls nx) 24) = w5b at *
  generalize w5.heap.size = g12 at *
  have hs := H5b.out.drew
  obtain ⟨c0a, c0b, c0c, c0d⟩ := hs.cell (g8s) (0) (by simp); have c0l := hs.lt (g8s) (0) (by simp); obtain ⟨c1a, c1b, c1c, c1d⟩ := hs.cell (g10) (r) (by simp); have c1l := hs.lt (g10) (r) (by simp); obtain ⟨c2a, c2b, c2c, c2d⟩ := hs.cell (g5s) (r) (by simp); have c2l := hs.lt (g5s) (r) (by simp)
  first | go_region_with (first | ((go_at_call 17); (with_reducible refine (alive_at (by assumption) HT.out).mono ?_); rintro e wn ⟨rfl, hs⟩; obtain ⟨c0a, c0b, c0c, c0d⟩ := hs.cell (g8s) (0) (by simp); have c0l := hs.lt (g8s) (0) (by simp); obtain ⟨c1a, c1b, c1c, c1d⟩ := hs.cell (g10) (r) (by simp); have c1l := hs.lt (g10) (r) (by simp); obtain ⟨c2a, c2b, c2c, c2d⟩ := hs.cell (g5s) (r) (by simp); have c2l := hs.lt (g5s) (r) (by simp)) | ((go_at_call 16); (with_reducible refine (none_at (by assumption)).mono ?_); rintro e wn ⟨rfl, hs⟩; obtain ⟨c0a, c0b, c0c, c0d⟩ := hs.cell (g8s) (0) (by simp); have c0l := hs.lt (g8s) (0) (by simp); obtain ⟨c1a, c1b, c1c, c1d⟩ := hs.cell (g10) (r) (by simp); have c1l := hs.lt (g10) (r) (by simp); obtain ⟨c2a, c2b, c2c, c2d⟩ := hs.cell (g5s) (r) (by simp); have c2l := hs.lt (g5s) (r) (by simp))) | fail
  all_goals
    go_wp2
    go_ret
    exact ⟨rfl, hs.1⟩

theorem betweenLaw_any (a b : Nat) (w : World) (ha : a < 2 ^ 256) (hb : b < 2 ^ 256) (hT : Tab w) : Calls Tryd.prog 4 #[num a, num b] w fun e w' => e = .returned (.bool true) ∧ Below w.heap.size w w' := by
  by_cases h0 : b = 0
  · subst h0; exact between_zero a w hT
  · rcases Nat.lt_or_ge (a / b * b + b) (2 ^ 256) with h | h
    · exact between_0 a b w ha hb h0 h hT
    · exact between_1 a b w ha hb h0 h hT
end Go.Proofs.YtdjabenccjeooaaDoor
