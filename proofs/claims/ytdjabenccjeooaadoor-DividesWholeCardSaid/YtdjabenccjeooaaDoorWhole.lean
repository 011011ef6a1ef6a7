/-
  burrowlaw03.DividesWhole, walked: it answers true at any three long numbers. Conditions: the library's table holds what its text lays.
-/
import Derived.Test.YtdjabenccjeooaaDoorAlive
import Derived.Test.YtdjabenccjeooaaDoorHd
namespace Go.Proofs.YtdjabenccjeooaaDoor
open Go.RowKit
set_option linter.unusedVariables false

set_option maxRecDepth 100000 in
set_option maxHeartbeats 3200000 in
theorem whole_zero (lo hi : Nat) (w : World) (hT : Tab w) : Calls Tryd.prog 7 #[num lo, num hi, num 0] w fun e w' => e = .returned (.bool true) ∧ Below w.heap.size w w' := by
  have HT := hid hT
  clear hT
  have q0 := eq_yes 0 0 rfl
  have H0 := hid (((((Env.refl w).new lo).new hi).new 0).perm (l' := [(w.heap.size + 1 + 1, 0), (w.heap.size + 1, hi), (w.heap.size, lo)]) (by simp))
  go_enter Tryd.func7, Tryd.ntmps7
  go_wp2_with fail
  generalize ((w.alloc (.cells (cls lo) 24)).alloc (.cells (cls hi) 24)).alloc (.cells (cls 0) 24) = w0 at *
  generalize w.heap.size + 1 + 1 = g_c at *
  generalize w.heap.size + 1 = g_b at *
  generalize w.heap.size = g_a at *
  refine (wide_none_at lo hi H0.out).mono ?_
  rintro e w1 ⟨rfl, h⟩
  have H1 := hid h
  clear h H0
  obtain ⟨c0x1a, c0x1b, c0x1c, c0x1d⟩ := H1.out.cell (g_c) (0) (by simp)
  have c0x1l := H1.out.lt (g_c) (0) (by simp)
  have c0x1m := Nat.le_of_lt c0x1l
  go_wp2_with fail
  clear c0x1a c0x1b c0x1c c0x1d c0x1l c0x1m
  have H1b := hid (H1.out.new 0)
  clear H1
  generalize w1.alloc (.cells (cls 0) 24) = w1b at *
  generalize w1.heap.size = g7 at *
  obtain ⟨c0x1a, c0x1b, c0x1c, c0x1d⟩ := H1b.out.cell (g_c) (0) (by simp)
  have c0x1l := H1b.out.lt (g_c) (0) (by simp)
  have c0x1m := Nat.le_of_lt c0x1l
  have hs := H1b.out.drew
  go_region_held3 (fun w' => (w'.cell? ⟨g_c, 0, none⟩ = some (.int .u64 (wd (0) 0 : Int)) ∧ w'.cell? ⟨g_c, 1, none⟩ = some (.int .u64 (wd (0) 1 : Int)) ∧ w'.cell? ⟨g_c, 2, none⟩ = some (.int .u64 (wd (0) 2 : Int)) ∧ w'.cell? ⟨g_c, 3, none⟩ = some (.int .u64 (wd (0) 3 : Int)))) (exact Env.cell (by assumption) _ _ (by simp)) (first | ((go_at_call 16); (with_reducible refine (none_at (by assumption)).mono ?_); rintro e wn ⟨rfl, hs⟩))
  have H2 := hid hs
  clear hs H1b
  clear c0x1a c0x1b c0x1c c0x1d c0x1l c0x1m
  go_wp2_with fail
  have hs := H2.out.drew
  go_region_held3 (fun w' => (w'.cell? ⟨g7, 0, none⟩ = some (.int .u64 (wd (0) 0 : Int)) ∧ w'.cell? ⟨g7, 1, none⟩ = some (.int .u64 (wd (0) 1 : Int)) ∧ w'.cell? ⟨g7, 2, none⟩ = some (.int .u64 (wd (0) 2 : Int)) ∧ w'.cell? ⟨g7, 3, none⟩ = some (.int .u64 (wd (0) 3 : Int)))) (exact Env.cell (by assumption) _ _ (by simp)) (first | ((go_at_call 16); (with_reducible refine (none_at (by assumption)).mono ?_); rintro e wn ⟨rfl, hs⟩) | ((go_at_call 17); (with_reducible refine (alive_at (by assumption) HT.out).mono ?_); rintro e wn ⟨rfl, hs⟩))
  go_wp2
  go_ret
  exact ⟨rfl, hs.1⟩

set_option maxRecDepth 100000 in
set_option maxHeartbeats 3200000 in
theorem whole_some (lo hi m : Nat) (w : World) (hlo : lo < 2 ^ 256) (hhi : hi < 2 ^ 256) (hm : m < 2 ^ 256) (h0 : m ≠ 0) (hT : Tab w) : Calls Tryd.prog 7 #[num lo, num hi, num m] w fun e w' => e = .returned (.bool true) ∧ Below w.heap.size w w' := by
  have HT := hid hT
  have LO := hid hlo
  have HI := hid hhi
  have HM := hid hm
  have M0 := hid h0
  have qm := eq_no m 0 hm (by decide) h0
  have hw : wid (lo % m) (hi % m) m = wid lo hi m := (wide_halves (2 ^ 256) lo hi m).symm
  have hal : lo % m < 2 ^ 256 := Nat.lt_of_le_of_lt (Nat.mod_le _ _) hlo
  have hbl : hi % m < 2 ^ 256 := Nat.lt_of_le_of_lt (Nat.mod_le _ _) hhi
  have hrm : wid lo hi m < m := Nat.mod_lt _ (by omega)
  obtain ⟨r, er⟩ : ∃ x, wid lo hi m = x := ⟨_, rfl⟩
  have Er := hid er
  obtain ⟨a, ea⟩ : ∃ x, lo % m = x := ⟨_, rfl⟩
  have Ea := hid ea
  obtain ⟨b, eb⟩ : ∃ x, hi % m = x := ⟨_, rfl⟩
  have Eb := hid eb
  obtain ⟨q, eq⟩ : ∃ x, lo / m = x := ⟨_, rfl⟩
  have Eq := hid eq
  obtain ⟨s, es⟩ : ∃ x, hi / m = x := ⟨_, rfl⟩
  have Es := hid es
  rw [ea, eb, er] at hw
  rw [ea] at hal
  rw [eb] at hbl
  rw [er] at hrm
  have EW := hid hw
  have AL := hid hal
  have BL := hid hbl
  have RL : Hid (r < 2 ^ 256) := hid (Nat.lt_trans hrm hm)
  have EC : Hid (cmpN r m = -1) := hid (by unfold cmpN; rw [if_pos hrm])
  have qr := eq_yes r r rfl
  clear hT hlo hhi hm h0 hw hal hbl hrm er ea eb eq es
  have H0 := hid (((((Env.refl w).new lo).new hi).new m).perm (l' := [(w.heap.size + 1 + 1, m), (w.heap.size + 1, hi), (w.heap.size, lo)]) (by simp))
  go_enter Tryd.func7, Tryd.ntmps7
  go_wp2_with fail
  generalize ((w.alloc (.cells (cls lo) 24)).alloc (.cells (cls hi) 24)).alloc (.cells (cls m) 24) = w0 at *
  generalize w.heap.size + 1 + 1 = g_c at *
  generalize w.heap.size + 1 = g_b at *
  generalize w.heap.size = g_a at *
  refine (wide_at lo hi m r H0.out LO.out HI.out HM.out M0.out Er.out).mono ?_
  rintro e w1 ⟨rfl, h⟩
  have H1 := hid h
  clear h H0
  obtain ⟨c0x1a, c0x1b, c0x1c, c0x1d⟩ := H1.out.cell (g_c) (m) (by simp)
  have c0x1l := H1.out.lt (g_c) (m) (by simp)
  have c0x1m := Nat.le_of_lt c0x1l
  go_wp2_with fail
  clear c0x1a c0x1b c0x1c c0x1d c0x1l c0x1m
  have H1b := hid (H1.out.new r)
  clear H1
  generalize w1.alloc (.cells (cls r) 24) = w1b at *
  generalize w1.heap.size = g7 at *
  obtain ⟨c0x1a, c0x1b, c0x1c, c0x1d⟩ := H1b.out.cell (g_c) (m) (by simp)
  have c0x1l := H1b.out.lt (g_c) (m) (by simp)
  have c0x1m := Nat.le_of_lt c0x1l
  have hs := H1b.out.drew
  go_region_held3 (fun w' => (w'.cell? ⟨g_c, 0, none⟩ = some (.int .u64 (wd (m) 0 : Int)) ∧ w'.cell? ⟨g_c, 1, none⟩ = some (.int .u64 (wd (m) 1 : Int)) ∧ w'.cell? ⟨g_c, 2, none⟩ = some (.int .u64 (wd (m) 2 : Int)) ∧ w'.cell? ⟨g_c, 3, none⟩ = some (.int .u64 (wd (m) 3 : Int)))) (exact Env.cell (by assumption) _ _ (by simp)) (first | ((go_at_call 16); (with_reducible refine (none_at (by assumption)).mono ?_); rintro e wn ⟨rfl, hs⟩))
  have H2 := hid hs
  clear hs H1b
  clear c0x1a c0x1b c0x1c c0x1d c0x1l c0x1m
  obtain ⟨c0x2a, c0x2b, c0x2c, c0x2d⟩ := H2.out.cell (g_a) (lo) (by simp)
  have c0x2l := H2.out.lt (g_a) (lo) (by simp)
  have c0x2m := Nat.le_of_lt c0x2l
  obtain ⟨c6x2a, c6x2b, c6x2c, c6x2d⟩ := H2.out.cell (g_c) (m) (by simp)
  have c6x2l := H2.out.lt (g_c) (m) (by simp)
  have c6x2m := Nat.le_of_lt c6x2l
  go_wp2_with fail
  clear c0x2a c0x2b c0x2c c0x2d c0x2l c0x2m c6x2a c6x2b c6x2c c6x2d c6x2l c6x2m
  clear qm
  refine (div_at lo m q a H2.out LO.out HM.out M0.out Eq.out Ea.out).mono ?_
  rintro e w3 ⟨rfl, h⟩
  have H3 := hid h
  clear h H2
  obtain ⟨c0x3a, c0x3b, c0x3c, c0x3d⟩ := H3.out.cell (g_b) (hi) (by simp)
  have c0x3l := H3.out.lt (g_b) (hi) (by simp)
  have c0x3m := Nat.le_of_lt c0x3l
  obtain ⟨c6x3a, c6x3b, c6x3c, c6x3d⟩ := H3.out.cell (g_c) (m) (by simp)
  have c6x3l := H3.out.lt (g_c) (m) (by simp)
  have c6x3m := Nat.le_of_lt c6x3l
  go_wp2_with fail
  clear c0x3a c0x3b c0x3c c0x3d c0x3l c0x3m c6x3a c6x3b c6x3c c6x3d c6x3l c6x3m
  have H3b := hid (H3.out.new2 q a)
  clear H3
  generalize (w3.alloc (.cells (cls q) 24)).alloc (.cells (cls a) 24) = w3b at *
  generalize w3.heap.size + 1 = g9s at *
  generalize w3.heap.size = g9 at *
  refine (div_at hi m s b H3b.out HI.out HM.out M0.out Es.out Eb.out).mono ?_
  rintro e w4 ⟨rfl, h⟩
  have H4 := hid h
  clear h H3b
  obtain ⟨c0x4a, c0x4b, c0x4c, c0x4d⟩ := H4.out.cell (g9s) (a) (by simp)
  have c0x4l := H4.out.lt (g9s) (a) (by simp)
  have c0x4m := Nat.le_of_lt c0x4l
  obtain ⟨c6x4a, c6x4b, c6x4c, c6x4d⟩ := H4.out.cell (g_c) (m) (by simp)
  have c6x4l := H4.out.lt (g_c) (m) (by simp)
  have c6x4m := Nat.le_of_lt c6x4l
  go_wp2_with fail
  clear c0x4a c0x4b c0x4c c0x4d c0x4l c0x4m c6x4a c6x4b c6x4c c6x4d c6x4l c6x4m
  have H4b := hid (H4.out.new2 s b)
  clear H4
  generalize (w4.alloc (.cells (cls s) 24)).alloc (.cells (cls b) 24) = w4b at *
  generalize w4.heap.size + 1 = g12s at *
  generalize w4.heap.size = g12 at *
  refine (wide_at a b m r H4b.out AL.out BL.out HM.out M0.out EW.out).mono ?_
  rintro e w5 ⟨rfl, h⟩
  have H5 := hid h
  clear h H4b
  go_wp2_with fail
  have H5b := hid (H5.out.new r)
  clear H5
  generalize w5.alloc (.cells (cls r) 24) = w5b at *
  generalize w5.heap.size = g15 at *
  refine (alive_at H5b.out HT.out).mono ?_
  rintro e w6 ⟨rfl, h⟩
  have H6 := hid h
  clear h H5b
  obtain ⟨c0x6a, c0x6b, c0x6c, c0x6d⟩ := H6.out.cell (g7) (r) (by simp)
  have c0x6l := H6.out.lt (g7) (r) (by simp)
  have c0x6m := Nat.le_of_lt c0x6l
  obtain ⟨c6x6a, c6x6b, c6x6c, c6x6d⟩ := H6.out.cell (g15) (r) (by simp)
  have c6x6l := H6.out.lt (g15) (r) (by simp)
  have c6x6m := Nat.le_of_lt c6x6l
  obtain ⟨c12x6a, c12x6b, c12x6c, c12x6d⟩ := H6.out.cell (g_c) (m) (by simp)
  have c12x6l := H6.out.lt (g_c) (m) (by simp)
  have c12x6m := Nat.le_of_lt c12x6l
  go_wp2_with fail
  clear c0x6a c0x6b c0x6c c0x6d c0x6l c0x6m c6x6a c6x6b c6x6c c6x6d c6x6l c6x6m c12x6a c12x6b c12x6c c12x6d c12x6l c12x6m
  refine (cmp_at r m (-1) H6.out RL.out HM.out EC.out).mono ?_
  rintro e w7 ⟨rfl, h⟩
  have H7 := hid h
  clear h H6
  go_wp2
  go_ret
  exact ⟨rfl, H7.out.1⟩

theorem wholeLaw_any (lo hi m : Nat) (w : World) (hlo : lo < 2 ^ 256) (hhi : hi < 2 ^ 256) (hm : m < 2 ^ 256) (hT : Tab w) : Calls Tryd.prog 7 #[num lo, num hi, num m] w fun e w' => e = .returned (.bool true) ∧ Below w.heap.size w w' := by
  by_cases h0 : m = 0
  · subst h0; exact whole_zero lo hi w hT
  · exact whole_some lo hi m w hlo hhi hm h0 hT
end Go.Proofs.YtdjabenccjeooaaDoor
