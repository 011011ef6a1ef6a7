/-
  burrowlaw03.DividesNext, walked: it answers true at any two long numbers. Conditions: the library's table holds what its text lays.
-/
import Derived.Test.YtdjabenccjeooaaDoorAlive
import Derived.Test.YtdjabenccjeooaaDoorHd
namespace Go.Proofs.YtdjabenccjeooaaDoor
open Go.RowKit
set_option linter.unusedVariables false

set_option maxRecDepth 100000 in
set_option maxHeartbeats 3200000 in
theorem next_zero0 (a : Nat) (w : World) (ha : a < 2 ^ 256) (ho : a + 1 < 2 ^ 256) (hT : Tab w) : Calls Tryd.prog 5 #[num a, num 0] w fun e w' => e = .returned (.bool true) ∧ Below w.heap.size w w' := by
  have HT := hid hT
  have HA := hid ha
  obtain ⟨m1, em⟩ : ∃ x, (a + 1) % 2 ^ 256 = x := ⟨_, rfl⟩
  have EM := hid em
  have EK : Hid ((((a + 1) / 2 ^ 256 : Nat) : Int) = 0) := hid (by rw [p256] at *; omega)
  have q0 := eq_yes 0 0 rfl
  clear hT ha em ho
  have H0 := hid ((((Env.refl w).new a).new 0).perm (l' := [(w.heap.size + 1, 0), (w.heap.size, a)]) (by simp))
  go_enter Tryd.func5, Tryd.ntmps5
  go_upto_region 1 with fail
  generalize (w.alloc (.cells (cls a) 24)).alloc (.cells (cls 0) 24) = w0 at *
  generalize w.heap.size + 1 = g_b at *
  generalize w.heap.size = g_a at *
  go_upto_region 1 with fail
  have HE := H0
  go_cut [5, 6] (fun s5 s6 wx => ∃ g5 : Nat, s5 = .pointer (some ⟨g5, 0, none⟩) ∧ s6 = .int .u64 0 ∧ Hid (Env w ((g5, m1) :: [(g_b, 0), (g_a, a)]) wx))
  case first =>
    have hs := HE.out.drew
    have hE0 := HE.out
    go_region_held3 (fun w' => (w'.cell? ⟨g_a, 0, none⟩ = some (.int .u64 (wd (a) 0 : Int)) ∧ w'.cell? ⟨g_a, 1, none⟩ = some (.int .u64 (wd (a) 1 : Int)) ∧ w'.cell? ⟨g_a, 2, none⟩ = some (.int .u64 (wd (a) 2 : Int)) ∧ w'.cell? ⟨g_a, 3, none⟩ = some (.int .u64 (wd (a) 3 : Int)))) (first | (with_reducible exact hs.cell _ _ (by simp)) | (with_reducible exact hs.zero.cell _ _ (by simp)) | (with_reducible exact hE0.zero.drew.cell _ _ (by simp)) | (with_reducible exact (hs.new (m1)).cell _ _ (by simp)) | (with_reducible exact (hs.setHd hfr.out (m1)).cell _ _ (by simp))) (first | ((go_at_call 22); (with_reducible refine (ofl_at 1 1 hs (by decide) (by decide)).mono ?_); rintro e wn ⟨rfl, hs⟩; obtain ⟨⟨zc0, zc1, zc2, zc3⟩, zcf, zcl, zcn⟩ := hs.hd) | ((go_at_call 22); (first | (have hfr2 := hfr; have hfr := hid hs.fresh) | have hfr := hid hs.fresh); (with_reducible refine (ofl_at 1 1 hs.zero (by decide) (by decide)).mono ?_); rintro e wn ⟨rfl, hs⟩; obtain ⟨⟨zc0, zc1, zc2, zc3⟩, zcf, zcl, zcn⟩ := hs.hd) | ((go_at_call 22); have hfr := hid hE0.fresh; (with_reducible refine (ofl_at 1 1 hE0.zero.drew (by decide) (by decide)).mono ?_); rintro e wn ⟨rfl, hs⟩; obtain ⟨⟨zc0, zc1, zc2, zc3⟩, zcf, zcl, zcn⟩ := hs.hd) | ((go_at_call 20); (with_reducible refine (add_at a 1 m1 0 hs HA.out (by decide) EM.out EK.out).mono ?_); rintro e wn ⟨rfl, hs⟩; obtain ⟨⟨zc0, zc1, zc2, zc3⟩, zcf, zcl, zcn⟩ := hs.hd) | ((go_at_call 20); (first | (have hfr2 := hfr; have hfr := hid hs.fresh) | have hfr := hid hs.fresh); (with_reducible refine (add_at a 1 m1 0 hs.zero HA.out (by decide) EM.out EK.out).mono ?_); rintro e wn ⟨rfl, hs⟩; obtain ⟨⟨zc0, zc1, zc2, zc3⟩, zcf, zcl, zcn⟩ := hs.hd) | ((go_at_call 20); have hfr := hid hE0.fresh; (with_reducible refine (add_at a 1 m1 0 hE0.zero.drew HA.out (by decide) EM.out EK.out).mono ?_); rintro e wn ⟨rfl, hs⟩; obtain ⟨⟨zc0, zc1, zc2, zc3⟩, zcf, zcl, zcn⟩ := hs.hd))
    all_goals
      go_wp2_with fail
      go_meet
      first | (with_reducible exact ⟨_, rfl, rfl, hid (hs.new (m1))⟩) | (with_reducible exact ⟨_, rfl, rfl, hid (hs.setHd hfr.out (m1))⟩)
  case rest =>
    obtain ⟨g5, rfl, rfl, H1⟩ := hcut
    clear HE H0
    obtain ⟨c0x1a, c0x1b, c0x1c, c0x1d⟩ := H1.out.cell (g_b) (0) (by simp)
    have c0x1l := H1.out.lt (g_b) (0) (by simp)
    have c0x1m := Nat.le_of_lt c0x1l
    go_upto_region 2 with fail
    have HE := H1
    go_cut [27] (fun s27 wx => s27 = .bool true ∧ Hid (Env w [(g5, m1), (g_b, 0), (g_a, a)] wx))
    case first =>
      have hs := HE.out.drew
      obtain ⟨c0a, c0b, c0c, c0d⟩ := hs.cell (g_b) (0) (by simp); have c0l := hs.lt (g_b) (0) (by simp)
      first | go_region_with (first | ((go_at_call 16); (with_reducible refine (none_at (by assumption)).mono ?_); rintro e wn ⟨rfl, hs⟩; obtain ⟨c0a, c0b, c0c, c0d⟩ := hs.cell (g_b) (0) (by simp); have c0l := hs.lt (g_b) (0) (by simp))) | fail
      all_goals
        go_wp2_with fail
        go_meet
        exact ⟨rfl, hid hs⟩
    case rest =>
      obtain ⟨rfl, H2⟩ := hcut
      clear HE H1
      clear c0x1a c0x1b c0x1c c0x1d c0x1l c0x1m
      go_wp2_with fail
      refine (alive_at H2.out HT.out).mono ?_
      rintro e w3 ⟨rfl, h⟩
      have H3 := hid h
      clear h H2
      go_wp2
      go_ret
      exact ⟨rfl, H3.out.1⟩

set_option maxRecDepth 100000 in
set_option maxHeartbeats 3200000 in
theorem next_zero1 (a : Nat) (w : World) (ha : a < 2 ^ 256) (ho : a + 1 = 2 ^ 256) (hT : Tab w) : Calls Tryd.prog 5 #[num a, num 0] w fun e w' => e = .returned (.bool true) ∧ Below w.heap.size w w' := by
  have HT := hid hT
  have HA := hid ha
  obtain ⟨m1, em⟩ : ∃ x, (a + 1) % 2 ^ 256 = x := ⟨_, rfl⟩
  have EM := hid em
  have EK : Hid ((((a + 1) / 2 ^ 256 : Nat) : Int) = 1) := hid (by rw [p256] at *; omega)
  have q0 := eq_yes 0 0 rfl
  clear hT ha em ho
  have H0 := hid ((((Env.refl w).new a).new 0).perm (l' := [(w.heap.size + 1, 0), (w.heap.size, a)]) (by simp))
  go_enter Tryd.func5, Tryd.ntmps5
  go_upto_region 1 with fail
  generalize (w.alloc (.cells (cls a) 24)).alloc (.cells (cls 0) 24) = w0 at *
  generalize w.heap.size + 1 = g_b at *
  generalize w.heap.size = g_a at *
  go_upto_region 1 with fail
  have HE := H0
  go_cut [5, 6] (fun s5 s6 wx => ∃ g5 : Nat, s5 = .pointer (some ⟨g5, 0, none⟩) ∧ s6 = .int .u64 1 ∧ Hid (Env w ((g5, m1) :: [(g_b, 0), (g_a, a)]) wx))
  case first =>
    have hs := HE.out.drew
    have hE0 := HE.out
    go_region_held3 (fun w' => (w'.cell? ⟨g_a, 0, none⟩ = some (.int .u64 (wd (a) 0 : Int)) ∧ w'.cell? ⟨g_a, 1, none⟩ = some (.int .u64 (wd (a) 1 : Int)) ∧ w'.cell? ⟨g_a, 2, none⟩ = some (.int .u64 (wd (a) 2 : Int)) ∧ w'.cell? ⟨g_a, 3, none⟩ = some (.int .u64 (wd (a) 3 : Int)))) (first | (with_reducible exact hs.cell _ _ (by simp)) | (with_reducible exact hs.zero.cell _ _ (by simp)) | (with_reducible exact hE0.zero.drew.cell _ _ (by simp)) | (with_reducible exact (hs.new (m1)).cell _ _ (by simp)) | (with_reducible exact (hs.setHd hfr.out (m1)).cell _ _ (by simp))) (first | ((go_at_call 22); (with_reducible refine (ofl_at 1 1 hs (by decide) (by decide)).mono ?_); rintro e wn ⟨rfl, hs⟩; obtain ⟨⟨zc0, zc1, zc2, zc3⟩, zcf, zcl, zcn⟩ := hs.hd) | ((go_at_call 22); (first | (have hfr2 := hfr; have hfr := hid hs.fresh) | have hfr := hid hs.fresh); (with_reducible refine (ofl_at 1 1 hs.zero (by decide) (by decide)).mono ?_); rintro e wn ⟨rfl, hs⟩; obtain ⟨⟨zc0, zc1, zc2, zc3⟩, zcf, zcl, zcn⟩ := hs.hd) | ((go_at_call 22); have hfr := hid hE0.fresh; (with_reducible refine (ofl_at 1 1 hE0.zero.drew (by decide) (by decide)).mono ?_); rintro e wn ⟨rfl, hs⟩; obtain ⟨⟨zc0, zc1, zc2, zc3⟩, zcf, zcl, zcn⟩ := hs.hd) | ((go_at_call 20); (with_reducible refine (add_at a 1 m1 1 hs HA.out (by decide) EM.out EK.out).mono ?_); rintro e wn ⟨rfl, hs⟩; obtain ⟨⟨zc0, zc1, zc2, zc3⟩, zcf, zcl, zcn⟩ := hs.hd) | ((go_at_call 20); (first | (have hfr2 := hfr; have hfr := hid hs.fresh) | have hfr := hid hs.fresh); (with_reducible refine (add_at a 1 m1 1 hs.zero HA.out (by decide) EM.out EK.out).mono ?_); rintro e wn ⟨rfl, hs⟩; obtain ⟨⟨zc0, zc1, zc2, zc3⟩, zcf, zcl, zcn⟩ := hs.hd) | ((go_at_call 20); have hfr := hid hE0.fresh; (with_reducible refine (add_at a 1 m1 1 hE0.zero.drew HA.out (by decide) EM.out EK.out).mono ?_); rintro e wn ⟨rfl, hs⟩; obtain ⟨⟨zc0, zc1, zc2, zc3⟩, zcf, zcl, zcn⟩ := hs.hd))
    all_goals
      go_wp2_with fail
      go_meet
      first | (with_reducible exact ⟨_, rfl, rfl, hid (hs.new (m1))⟩) | (with_reducible exact ⟨_, rfl, rfl, hid (hs.setHd hfr.out (m1))⟩)
  case rest =>
    obtain ⟨g5, rfl, rfl, H1⟩ := hcut
    clear HE H0
    obtain ⟨c0x1a, c0x1b, c0x1c, c0x1d⟩ := H1.out.cell (g_b) (0) (by simp)
    have c0x1l := H1.out.lt (g_b) (0) (by simp)
    have c0x1m := Nat.le_of_lt c0x1l
    go_upto_region 2 with fail
    have HE := H1
    go_cut [27] (fun s27 wx => s27 = .bool true ∧ Hid (Env w [(g5, m1), (g_b, 0), (g_a, a)] wx))
    case first =>
      have hs := HE.out.drew
      obtain ⟨c0a, c0b, c0c, c0d⟩ := hs.cell (g_b) (0) (by simp); have c0l := hs.lt (g_b) (0) (by simp)
      first | go_region_with (first | ((go_at_call 16); (with_reducible refine (none_at (by assumption)).mono ?_); rintro e wn ⟨rfl, hs⟩; obtain ⟨c0a, c0b, c0c, c0d⟩ := hs.cell (g_b) (0) (by simp); have c0l := hs.lt (g_b) (0) (by simp))) | fail
      all_goals
        go_wp2_with fail
        go_meet
        exact ⟨rfl, hid hs⟩
    case rest =>
      obtain ⟨rfl, H2⟩ := hcut
      clear HE H1
      clear c0x1a c0x1b c0x1c c0x1d c0x1l c0x1m
      go_wp2_with fail
      refine (alive_at H2.out HT.out).mono ?_
      rintro e w3 ⟨rfl, h⟩
      have H3 := hid h
      clear h H2
      go_wp2
      go_ret
      exact ⟨rfl, H3.out.1⟩

set_option maxRecDepth 100000 in
set_option maxHeartbeats 3200000 in
theorem next_over (a : Nat) (b : Nat) (w : World) (ha : a < 2 ^ 256) (hb : b < 2 ^ 256) (h0 : b ≠ 0) (ho : a + 1 = 2 ^ 256) (hT : Tab w) : Calls Tryd.prog 5 #[num a, num b] w fun e w' => e = .returned (.bool true) ∧ Below w.heap.size w w' := by
  have HT := hid hT
  have HA := hid ha
  obtain ⟨m1, em⟩ : ∃ x, (a + 1) % 2 ^ 256 = x := ⟨_, rfl⟩
  have EM := hid em
  have EK : Hid ((((a + 1) / 2 ^ 256 : Nat) : Int) = 1) := hid (by rw [p256] at *; omega)
  have HB := hid hb
  have qb := eq_no b 0 hb (by decide) h0
  clear hT ha hb h0 em ho
  have H0 := hid ((((Env.refl w).new a).new b).perm (l' := [(w.heap.size + 1, b), (w.heap.size, a)]) (by simp))
  go_enter Tryd.func5, Tryd.ntmps5
  go_upto_region 1 with fail
  generalize (w.alloc (.cells (cls a) 24)).alloc (.cells (cls b) 24) = w0 at *
  generalize w.heap.size + 1 = g_b at *
  generalize w.heap.size = g_a at *
  go_upto_region 1 with fail
  have HE := H0
  go_cut [5, 6] (fun s5 s6 wx => ∃ g5 : Nat, s5 = .pointer (some ⟨g5, 0, none⟩) ∧ s6 = .int .u64 1 ∧ Hid (Env w ((g5, m1) :: [(g_b, b), (g_a, a)]) wx))
  case first =>
    have hs := HE.out.drew
    have hE0 := HE.out
    go_region_held3 (fun w' => (w'.cell? ⟨g_a, 0, none⟩ = some (.int .u64 (wd (a) 0 : Int)) ∧ w'.cell? ⟨g_a, 1, none⟩ = some (.int .u64 (wd (a) 1 : Int)) ∧ w'.cell? ⟨g_a, 2, none⟩ = some (.int .u64 (wd (a) 2 : Int)) ∧ w'.cell? ⟨g_a, 3, none⟩ = some (.int .u64 (wd (a) 3 : Int)))) (first | (with_reducible exact hs.cell _ _ (by simp)) | (with_reducible exact hs.zero.cell _ _ (by simp)) | (with_reducible exact hE0.zero.drew.cell _ _ (by simp)) | (with_reducible exact (hs.new (m1)).cell _ _ (by simp)) | (with_reducible exact (hs.setHd hfr.out (m1)).cell _ _ (by simp))) (first | ((go_at_call 22); (with_reducible refine (ofl_at 1 1 hs (by decide) (by decide)).mono ?_); rintro e wn ⟨rfl, hs⟩; obtain ⟨⟨zc0, zc1, zc2, zc3⟩, zcf, zcl, zcn⟩ := hs.hd) | ((go_at_call 22); (first | (have hfr2 := hfr; have hfr := hid hs.fresh) | have hfr := hid hs.fresh); (with_reducible refine (ofl_at 1 1 hs.zero (by decide) (by decide)).mono ?_); rintro e wn ⟨rfl, hs⟩; obtain ⟨⟨zc0, zc1, zc2, zc3⟩, zcf, zcl, zcn⟩ := hs.hd) | ((go_at_call 22); have hfr := hid hE0.fresh; (with_reducible refine (ofl_at 1 1 hE0.zero.drew (by decide) (by decide)).mono ?_); rintro e wn ⟨rfl, hs⟩; obtain ⟨⟨zc0, zc1, zc2, zc3⟩, zcf, zcl, zcn⟩ := hs.hd) | ((go_at_call 20); (with_reducible refine (add_at a 1 m1 1 hs HA.out (by decide) EM.out EK.out).mono ?_); rintro e wn ⟨rfl, hs⟩; obtain ⟨⟨zc0, zc1, zc2, zc3⟩, zcf, zcl, zcn⟩ := hs.hd) | ((go_at_call 20); (first | (have hfr2 := hfr; have hfr := hid hs.fresh) | have hfr := hid hs.fresh); (with_reducible refine (add_at a 1 m1 1 hs.zero HA.out (by decide) EM.out EK.out).mono ?_); rintro e wn ⟨rfl, hs⟩; obtain ⟨⟨zc0, zc1, zc2, zc3⟩, zcf, zcl, zcn⟩ := hs.hd) | ((go_at_call 20); have hfr := hid hE0.fresh; (with_reducible refine (add_at a 1 m1 1 hE0.zero.drew HA.out (by decide) EM.out EK.out).mono ?_); rintro e wn ⟨rfl, hs⟩; obtain ⟨⟨zc0, zc1, zc2, zc3⟩, zcf, zcl, zcn⟩ := hs.hd))
    all_goals
      go_wp2_with fail
      go_meet
      first | (with_reducible exact ⟨_, rfl, rfl, hid (hs.new (m1))⟩) | (with_reducible exact ⟨_, rfl, rfl, hid (hs.setHd hfr.out (m1))⟩)
  case rest =>
    obtain ⟨g5, rfl, rfl, H1⟩ := hcut
    clear HE H0
    obtain ⟨c0x1a, c0x1b, c0x1c, c0x1d⟩ := H1.out.cell (g_b) (b) (by simp)
    have c0x1l := H1.out.lt (g_b) (b) (by simp)
    have c0x1m := Nat.le_of_lt c0x1l
    go_wp2_with fail
    have hs := H1.out.drew
    go_region_held3 (fun w' => (w'.cell? ⟨g_b, 0, none⟩ = some (.int .u64 (wd (b) 0 : Int)) ∧ w'.cell? ⟨g_b, 1, none⟩ = some (.int .u64 (wd (b) 1 : Int)) ∧ w'.cell? ⟨g_b, 2, none⟩ = some (.int .u64 (wd (b) 2 : Int)) ∧ w'.cell? ⟨g_b, 3, none⟩ = some (.int .u64 (wd (b) 3 : Int)))) (exact Env.cell (by assumption) _ _ (by simp)) (first | ((go_at_call 16); (with_reducible refine (none_at (by assumption)).mono ?_); rintro e wn ⟨rfl, hs⟩))
    have H2 := hid hs
    clear hs H1
    clear c0x1a c0x1b c0x1c c0x1d c0x1l c0x1m
    go_wp2_with fail
    refine (alive_at H2.out HT.out).mono ?_
    rintro e w3 ⟨rfl, h⟩
    have H3 := hid h
    clear h H2
    go_wp2
    go_ret
    exact ⟨rfl, H3.out.1⟩

set_option maxRecDepth 100000 in
set_option maxHeartbeats 3200000 in
theorem next_up (a b : Nat) (w : World) (ha : a < 2 ^ 256) (hb : b < 2 ^ 256) (h0 : b ≠ 0) (ho : a + 1 < 2 ^ 256) (hu : a % b + 1 = b) (hT : Tab w) : Calls Tryd.prog 5 #[num a, num b] w fun e w' => e = .returned (.bool true) ∧ Below w.heap.size w w' := by
  have HT := hid hT
  have HA := hid ha
  obtain ⟨m1, em⟩ : ∃ x, (a + 1) % 2 ^ 256 = x := ⟨_, rfl⟩
  have EM := hid em
  have EK : Hid ((((a + 1) / 2 ^ 256 : Nat) : Int) = 0) := hid (by rw [p256] at *; omega)
  have em1 : (a + 1) % 2 ^ 256 = a + 1 := Nat.mod_eq_of_lt ho
  rw [em1] at em
  have HB := hid hb
  have B0 := hid h0
  have qb := eq_no b 0 hb (by decide) h0
  have q0 := eq_yes 0 0 rfl
  have ML : Hid (m1 < 2 ^ 256) := hid (by rw [← em]; exact ho)
  obtain ⟨n1, n2⟩ := div_next a b (by omega)
  have hrl : a % b < b := Nat.mod_lt _ (by omega)
  have hql : a / b < 2 ^ 256 := Nat.lt_of_le_of_lt (Nat.div_le_self _ _) ha
  obtain ⟨n1, n2⟩ := n1 hu
  rw [em] at n1 n2
  obtain ⟨q, eq⟩ : ∃ q, a / b = q := ⟨_, rfl⟩
  obtain ⟨r, er⟩ : ∃ r, a % b = r := ⟨_, rfl⟩
  have EQ := hid eq
  have ER := hid er
  rw [eq] at n1 hql
  rw [er] at hrl hu
  have QL := hid hql
  have RL : Hid (r < 2 ^ 256) := hid (by omega)
  obtain ⟨u, eu⟩ : ∃ x, (r + 1) % 2 ^ 256 = x := ⟨_, rfl⟩
  have EU := hid eu
  have eu2 : u = r + 1 := by rw [← eu]; exact Nat.mod_eq_of_lt (by omega)
  obtain ⟨ku, eku⟩ : ∃ x : Int, (((r + 1) / 2 ^ 256 : Nat) : Int) = x := ⟨_, rfl⟩
  have EKU := hid eku
  have ub : u = b := by omega
  have qu := eq_yes u b ub
  obtain ⟨s, es⟩ : ∃ x, q + 1 = x := ⟨_, rfl⟩
  rw [es] at n1
  have sl : s < 2 ^ 256 := by rw [← n1, ← em]; exact Nat.lt_of_le_of_lt (Nat.div_le_self _ _) ho
  have ES : Hid ((q + 1) % 2 ^ 256 = s) := hid (by rw [es]; exact Nat.mod_eq_of_lt sl)
  obtain ⟨ks, eks⟩ : ∃ x : Int, (((q + 1) / 2 ^ 256 : Nat) : Int) = x := ⟨_, rfl⟩
  have EKS := hid eks
  have EQ2 := hid n1
  have ER2 := hid n2
  have qs := eq_yes s s rfl
  clear hT ha hb h0 em ho em1 n1 n2 hrl hql eq er hu eu eu2 eku ub es sl eks
  have H0 := hid ((((Env.refl w).new a).new b).perm (l' := [(w.heap.size + 1, b), (w.heap.size, a)]) (by simp))
  go_enter Tryd.func5, Tryd.ntmps5
  go_upto_region 1 with fail
  generalize (w.alloc (.cells (cls a) 24)).alloc (.cells (cls b) 24) = w0 at *
  generalize w.heap.size + 1 = g_b at *
  generalize w.heap.size = g_a at *
  go_upto_region 1 with fail
  have HE := H0
  go_cut [5, 6] (fun s5 s6 wx => ∃ g5 : Nat, s5 = .pointer (some ⟨g5, 0, none⟩) ∧ s6 = .int .u64 0 ∧ Hid (Env w ((g5, m1) :: [(g_b, b), (g_a, a)]) wx))
  case first =>
    have hs := HE.out.drew
    have hE0 := HE.out
    go_region_held3 (fun w' => (w'.cell? ⟨g_a, 0, none⟩ = some (.int .u64 (wd (a) 0 : Int)) ∧ w'.cell? ⟨g_a, 1, none⟩ = some (.int .u64 (wd (a) 1 : Int)) ∧ w'.cell? ⟨g_a, 2, none⟩ = some (.int .u64 (wd (a) 2 : Int)) ∧ w'.cell? ⟨g_a, 3, none⟩ = some (.int .u64 (wd (a) 3 : Int)))) (first | (with_reducible exact hs.cell _ _ (by simp)) | (with_reducible exact hs.zero.cell _ _ (by simp)) | (with_reducible exact hE0.zero.drew.cell _ _ (by simp)) | (with_reducible exact (hs.new (m1)).cell _ _ (by simp)) | (with_reducible exact (hs.setHd hfr.out (m1)).cell _ _ (by simp))) (first | ((go_at_call 22); (with_reducible refine (ofl_at 1 1 hs (by decide) (by decide)).mono ?_); rintro e wn ⟨rfl, hs⟩; obtain ⟨⟨zc0, zc1, zc2, zc3⟩, zcf, zcl, zcn⟩ := hs.hd) | ((go_at_call 22); (first | (have hfr2 := hfr; have hfr := hid hs.fresh) | have hfr := hid hs.fresh); (with_reducible refine (ofl_at 1 1 hs.zero (by decide) (by decide)).mono ?_); rintro e wn ⟨rfl, hs⟩; obtain ⟨⟨zc0, zc1, zc2, zc3⟩, zcf, zcl, zcn⟩ := hs.hd) | ((go_at_call 22); have hfr := hid hE0.fresh; (with_reducible refine (ofl_at 1 1 hE0.zero.drew (by decide) (by decide)).mono ?_); rintro e wn ⟨rfl, hs⟩; obtain ⟨⟨zc0, zc1, zc2, zc3⟩, zcf, zcl, zcn⟩ := hs.hd) | ((go_at_call 20); (with_reducible refine (add_at a 1 m1 0 hs HA.out (by decide) EM.out EK.out).mono ?_); rintro e wn ⟨rfl, hs⟩; obtain ⟨⟨zc0, zc1, zc2, zc3⟩, zcf, zcl, zcn⟩ := hs.hd) | ((go_at_call 20); (first | (have hfr2 := hfr; have hfr := hid hs.fresh) | have hfr := hid hs.fresh); (with_reducible refine (add_at a 1 m1 0 hs.zero HA.out (by decide) EM.out EK.out).mono ?_); rintro e wn ⟨rfl, hs⟩; obtain ⟨⟨zc0, zc1, zc2, zc3⟩, zcf, zcl, zcn⟩ := hs.hd) | ((go_at_call 20); have hfr := hid hE0.fresh; (with_reducible refine (add_at a 1 m1 0 hE0.zero.drew HA.out (by decide) EM.out EK.out).mono ?_); rintro e wn ⟨rfl, hs⟩; obtain ⟨⟨zc0, zc1, zc2, zc3⟩, zcf, zcl, zcn⟩ := hs.hd))
    all_goals
      go_wp2_with fail
      go_meet
      first | (with_reducible exact ⟨_, rfl, rfl, hid (hs.new (m1))⟩) | (with_reducible exact ⟨_, rfl, rfl, hid (hs.setHd hfr.out (m1))⟩)
  case rest =>
    obtain ⟨g5, rfl, rfl, H1⟩ := hcut
    clear HE H0
    obtain ⟨c0x1a, c0x1b, c0x1c, c0x1d⟩ := H1.out.cell (g_b) (b) (by simp)
    have c0x1l := H1.out.lt (g_b) (b) (by simp)
    have c0x1m := Nat.le_of_lt c0x1l
    go_wp2_with fail
    have hs := H1.out.drew
    go_region_held3 (fun w' => (w'.cell? ⟨g_b, 0, none⟩ = some (.int .u64 (wd (b) 0 : Int)) ∧ w'.cell? ⟨g_b, 1, none⟩ = some (.int .u64 (wd (b) 1 : Int)) ∧ w'.cell? ⟨g_b, 2, none⟩ = some (.int .u64 (wd (b) 2 : Int)) ∧ w'.cell? ⟨g_b, 3, none⟩ = some (.int .u64 (wd (b) 3 : Int)))) (exact Env.cell (by assumption) _ _ (by simp)) (first | ((go_at_call 16); (with_reducible refine (none_at (by assumption)).mono ?_); rintro e wn ⟨rfl, hs⟩))
    have H2 := hid hs
    clear hs H1
    clear c0x1a c0x1b c0x1c c0x1d c0x1l c0x1m
    obtain ⟨c0x2a, c0x2b, c0x2c, c0x2d⟩ := H2.out.cell (g_a) (a) (by simp)
    have c0x2l := H2.out.lt (g_a) (a) (by simp)
    have c0x2m := Nat.le_of_lt c0x2l
    obtain ⟨c6x2a, c6x2b, c6x2c, c6x2d⟩ := H2.out.cell (g_b) (b) (by simp)
    have c6x2l := H2.out.lt (g_b) (b) (by simp)
    have c6x2m := Nat.le_of_lt c6x2l
    go_wp2_with fail
    clear c0x2a c0x2b c0x2c c0x2d c0x2l c0x2m c6x2a c6x2b c6x2c c6x2d c6x2l c6x2m
    refine (div_at a b q r H2.out HA.out HB.out B0.out EQ.out ER.out).mono ?_
    rintro e w3 ⟨rfl, h⟩
    have H3 := hid h
    clear h H2
    have F7 := hid H3.out.fresh
    obtain ⟨c0x3a, c0x3b, c0x3c, c0x3d⟩ := H3.out.cell (g5) (m1) (by simp)
    have c0x3l := H3.out.lt (g5) (m1) (by simp)
    have c0x3m := Nat.le_of_lt c0x3l
    obtain ⟨c6x3a, c6x3b, c6x3c, c6x3d⟩ := H3.out.cell (g_b) (b) (by simp)
    have c6x3l := H3.out.lt (g_b) (b) (by simp)
    have c6x3m := Nat.le_of_lt c6x3l
    go_wp2_with fail
    clear c0x3a c0x3b c0x3c c0x3d c0x3l c0x3m c6x3a c6x3b c6x3c c6x3d c6x3l c6x3m
    have H3b := hid (H3.out.new2 q r)
    clear H3
    generalize (w3.alloc (.cells (cls q) 24)).alloc (.cells (cls r) 24) = w3b at *
    generalize w3.heap.size + 1 = g7s at *
    generalize w3.heap.size = g7 at *
    refine (div_at m1 b s 0 H3b.out ML.out HB.out B0.out EQ2.out ER2.out).mono ?_
    rintro e w4 ⟨rfl, h⟩
    have H4 := hid h
    clear h H3b
    have F10 := hid H4.out.fresh
    have F11 := hid (H4.out.fresh2 (s))
    obtain ⟨c0x4a, c0x4b, c0x4c, c0x4d⟩ := H4.out.cell (g7s) (r) (by simp)
    have c0x4l := H4.out.lt (g7s) (r) (by simp)
    have c0x4m := Nat.le_of_lt c0x4l
    go_upto_region 6 with fail
    clear c0x4a c0x4b c0x4c c0x4d c0x4l c0x4m
    have H4b := hid (H4.out.new2 s 0)
    clear H4
    generalize (w4.alloc (.cells (cls s) 24)).alloc (.cells (cls 0) 24) = w4b at *
    generalize w4.heap.size + 1 = g10s at *
    generalize w4.heap.size = g10 at *
    go_upto_region 6 with fail
    have HE := H4b
    go_cut [13, 14] (fun s13 s14 wx => ∃ g13 : Nat, s13 = .pointer (some ⟨g13, 0, none⟩) ∧ s14 = .int .u64 ku ∧ Hid (Env w ((g13, u) :: [(g10s, 0), (g10, s), (g7s, r), (g7, q), (g5, m1), (g_b, b), (g_a, a)]) wx) ∧ Hid (Fsh w [(g10s, 0), (g10, s), (g7s, r), (g7, q), (g5, m1), (g_b, b), (g_a, a)] g13))
    case first =>
      have hs := HE.out.drew
      have hE0 := HE.out
      go_region_held3 (fun w' => (w'.cell? ⟨g7s, 0, none⟩ = some (.int .u64 (wd (r) 0 : Int)) ∧ w'.cell? ⟨g7s, 1, none⟩ = some (.int .u64 (wd (r) 1 : Int)) ∧ w'.cell? ⟨g7s, 2, none⟩ = some (.int .u64 (wd (r) 2 : Int)) ∧ w'.cell? ⟨g7s, 3, none⟩ = some (.int .u64 (wd (r) 3 : Int)))) (first | (with_reducible exact hs.cell _ _ (by simp)) | (with_reducible exact hs.zero.cell _ _ (by simp)) | (with_reducible exact hE0.zero.drew.cell _ _ (by simp)) | (with_reducible exact (hs.new (u)).cell _ _ (by simp)) | (with_reducible exact (hs.setHd hfr.out (u)).cell _ _ (by simp))) (first | ((go_at_call 22); (with_reducible refine (ofl_at 1 1 hs (by decide) (by decide)).mono ?_); rintro e wn ⟨rfl, hs⟩; obtain ⟨⟨zc0, zc1, zc2, zc3⟩, zcf, zcl, zcn⟩ := hs.hd) | ((go_at_call 22); (first | (have hfr2 := hfr; have hfr := hid hs.fresh) | have hfr := hid hs.fresh); (with_reducible refine (ofl_at 1 1 hs.zero (by decide) (by decide)).mono ?_); rintro e wn ⟨rfl, hs⟩; obtain ⟨⟨zc0, zc1, zc2, zc3⟩, zcf, zcl, zcn⟩ := hs.hd) | ((go_at_call 22); have hfr := hid hE0.fresh; (with_reducible refine (ofl_at 1 1 hE0.zero.drew (by decide) (by decide)).mono ?_); rintro e wn ⟨rfl, hs⟩; obtain ⟨⟨zc0, zc1, zc2, zc3⟩, zcf, zcl, zcn⟩ := hs.hd) | ((go_at_call 20); (with_reducible refine (add_at r 1 u ku hs RL.out (by decide) EU.out EKU.out).mono ?_); rintro e wn ⟨rfl, hs⟩; obtain ⟨⟨zc0, zc1, zc2, zc3⟩, zcf, zcl, zcn⟩ := hs.hd) | ((go_at_call 20); (first | (have hfr2 := hfr; have hfr := hid hs.fresh) | have hfr := hid hs.fresh); (with_reducible refine (add_at r 1 u ku hs.zero RL.out (by decide) EU.out EKU.out).mono ?_); rintro e wn ⟨rfl, hs⟩; obtain ⟨⟨zc0, zc1, zc2, zc3⟩, zcf, zcl, zcn⟩ := hs.hd) | ((go_at_call 20); have hfr := hid hE0.fresh; (with_reducible refine (add_at r 1 u ku hE0.zero.drew RL.out (by decide) EU.out EKU.out).mono ?_); rintro e wn ⟨rfl, hs⟩; obtain ⟨⟨zc0, zc1, zc2, zc3⟩, zcf, zcl, zcn⟩ := hs.hd))
      all_goals
        go_wp2_with fail
        go_meet
        first | (with_reducible exact ⟨_, rfl, rfl, hid (hs.new (u)), hid hs.fresh⟩) | (with_reducible exact ⟨_, rfl, rfl, hid (hs.setHd hfr.out (u)), hfr⟩)
    case rest =>
      obtain ⟨g13, rfl, rfl, H5, F13⟩ := hcut
      clear HE H4b
      obtain ⟨c0x5a, c0x5b, c0x5c, c0x5d⟩ := H5.out.cell (g13) (u) (by simp)
      have c0x5l := H5.out.lt (g13) (u) (by simp)
      have c0x5m := Nat.le_of_lt c0x5l
      obtain ⟨c6x5a, c6x5b, c6x5c, c6x5d⟩ := H5.out.cell (g_b) (b) (by simp)
      have c6x5l := H5.out.lt (g_b) (b) (by simp)
      have c6x5m := Nat.le_of_lt c6x5l
      go_upto_region 8 with fail
      have HE := H5
      go_cut [7] (fun s7 wx => s7 = .pointer (some ⟨g7, 0, none⟩) ∧ Hid (Env w ((g7, s) :: [(g13, u), (g10, s), (g10s, 0)]) wx))
      case first =>
        have hs := HE.out.drew
        obtain ⟨c0a, c0b, c0c, c0d⟩ := hs.cell (g7) (q) (by simp); have c0l := hs.lt (g7) (q) (by simp); have c0f := hs.frozen (g7) (q) (by simp)
        first | go_region_with (first | ((go_at_call 22); (with_reducible refine (ofl_at 1 1 (by assumption) (by decide) (by decide)).mono ?_); rintro e wn ⟨rfl, hs⟩; obtain ⟨c0a, c0b, c0c, c0d⟩ := hs.cell (g7) (q) (by simp); have c0l := hs.lt (g7) (q) (by simp); have c0f := hs.frozen (g7) (q) (by simp)) | ((go_at_call 20); (with_reducible refine (add_at q 1 s ks (by assumption) QL.out (by decide) ES.out EKS.out).mono ?_); rintro e wn ⟨rfl, hs⟩; obtain ⟨c0a, c0b, c0c, c0d⟩ := hs.cell (g7) (q) (by simp); have c0l := hs.lt (g7) (q) (by simp); have c0f := hs.frozen (g7) (q) (by simp))) | fail
        all_goals
          go_wp2_with fail
          go_meet
          exact ⟨rfl, hid (hs.set (g7) (q) (s) [(g13, u), (g10, s), (g10s, 0)] (by simp) (by have f7x := F7.out; have f10x := F10.out; have f11x := F11.out; have f13x := F13.out; simp [Fsh] at f7x f10x f11x f13x; omega) (by have f7x := F7.out; have f10x := F10.out; have f11x := F11.out; have f13x := F13.out; simp [Fsh] at f7x f10x f11x f13x; simp; omega))⟩
      case rest =>
        obtain ⟨rfl, H6⟩ := hcut
        clear HE H5
        clear c0x5a c0x5b c0x5c c0x5d c0x5l c0x5m c6x5a c6x5b c6x5c c6x5d c6x5l c6x5m
        go_wp2_with fail
        refine (none_at H6.out).mono ?_
        rintro e w7 ⟨rfl, h⟩
        have H7 := hid h
        clear h H6
        obtain ⟨x0, x1, x2, x3⟩ := H7.out.cell g13 u (by simp)
        have xl := H7.out.lt g13 u (by simp)
        have xf := H7.out.frozen g13 u (by simp)
        have HZ := hid (H7.out.set g13 u 0 [(g7, s), (g10, s), (g10s, 0)] (by simp) F13.out.1 (by have fx := F13.out; simp [Fsh] at fx; simp; omega))
        go_wp2_with fail
        clear x0 x1 x2 x3 xl xf qu
        clear H7
        change Calls _ _ _ (fil w7 g13 0) _
        generalize fil w7 g13 0 = wz at *
        refine (alive_at HZ.out HT.out).mono ?_
        rintro e w8 ⟨rfl, h⟩
        have H8 := hid h
        clear h HZ
        obtain ⟨c0x8a, c0x8b, c0x8c, c0x8d⟩ := H8.out.cell (g10) (s) (by simp)
        have c0x8l := H8.out.lt (g10) (s) (by simp)
        have c0x8m := Nat.le_of_lt c0x8l
        obtain ⟨c6x8a, c6x8b, c6x8c, c6x8d⟩ := H8.out.cell (g7) (s) (by simp)
        have c6x8l := H8.out.lt (g7) (s) (by simp)
        have c6x8m := Nat.le_of_lt c6x8l
        obtain ⟨c12x8a, c12x8b, c12x8c, c12x8d⟩ := H8.out.cell (g10s) (0) (by simp)
        have c12x8l := H8.out.lt (g10s) (0) (by simp)
        have c12x8m := Nat.le_of_lt c12x8l
        obtain ⟨c18x8a, c18x8b, c18x8c, c18x8d⟩ := H8.out.cell (g13) (0) (by simp)
        have c18x8l := H8.out.lt (g13) (0) (by simp)
        have c18x8m := Nat.le_of_lt c18x8l
        go_wp2
        go_ret
        exact ⟨rfl, H8.out.1⟩

set_option maxRecDepth 100000 in
set_option maxHeartbeats 3200000 in
theorem next_same (a b : Nat) (w : World) (ha : a < 2 ^ 256) (hb : b < 2 ^ 256) (h0 : b ≠ 0) (ho : a + 1 < 2 ^ 256) (hu : a % b + 1 ≠ b) (hT : Tab w) : Calls Tryd.prog 5 #[num a, num b] w fun e w' => e = .returned (.bool true) ∧ Below w.heap.size w w' := by
  have HT := hid hT
  have HA := hid ha
  obtain ⟨m1, em⟩ : ∃ x, (a + 1) % 2 ^ 256 = x := ⟨_, rfl⟩
  have EM := hid em
  have EK : Hid ((((a + 1) / 2 ^ 256 : Nat) : Int) = 0) := hid (by rw [p256] at *; omega)
  have em1 : (a + 1) % 2 ^ 256 = a + 1 := Nat.mod_eq_of_lt ho
  rw [em1] at em
  have HB := hid hb
  have B0 := hid h0
  have qb := eq_no b 0 hb (by decide) h0
  have ML : Hid (m1 < 2 ^ 256) := hid (by rw [← em]; exact ho)
  obtain ⟨n1, n2⟩ := div_next a b (by omega)
  have hrl : a % b < b := Nat.mod_lt _ (by omega)
  have hql : a / b < 2 ^ 256 := Nat.lt_of_le_of_lt (Nat.div_le_self _ _) ha
  obtain ⟨n1, n2⟩ := n2 hu
  rw [em] at n1 n2
  obtain ⟨q, eq⟩ : ∃ q, a / b = q := ⟨_, rfl⟩
  obtain ⟨r, er⟩ : ∃ r, a % b = r := ⟨_, rfl⟩
  have EQ := hid eq
  have ER := hid er
  rw [eq] at n1 hql
  rw [er] at hrl hu
  rw [er] at n2
  have QL := hid hql
  have RL : Hid (r < 2 ^ 256) := hid (by omega)
  obtain ⟨u, eu⟩ : ∃ x, (r + 1) % 2 ^ 256 = x := ⟨_, rfl⟩
  have EU := hid eu
  have eu2 : u = r + 1 := by rw [← eu]; exact Nat.mod_eq_of_lt (by omega)
  obtain ⟨ku, eku⟩ : ∃ x : Int, (((r + 1) / 2 ^ 256 : Nat) : Int) = x := ⟨_, rfl⟩
  have EKU := hid eku
  have UL : u < 2 ^ 256 := by omega
  have qu := eq_no u b UL hb (by omega)
  have EQ2 : Hid (m1 / b = q) := hid n1
  have ER2 : Hid (m1 % b = u) := hid (by rw [n2, eu2])
  have qs := eq_yes q q rfl
  have qt := eq_yes u u rfl
  clear hT ha hb h0 em ho em1 n1 n2 hrl hql eq er hu eu eu2 eku UL
  have H0 := hid ((((Env.refl w).new a).new b).perm (l' := [(w.heap.size + 1, b), (w.heap.size, a)]) (by simp))
  go_enter Tryd.func5, Tryd.ntmps5
  go_upto_region 1 with fail
  generalize (w.alloc (.cells (cls a) 24)).alloc (.cells (cls b) 24) = w0 at *
  generalize w.heap.size + 1 = g_b at *
  generalize w.heap.size = g_a at *
  go_upto_region 1 with fail
  have HE := H0
  go_cut [5, 6] (fun s5 s6 wx => ∃ g5 : Nat, s5 = .pointer (some ⟨g5, 0, none⟩) ∧ s6 = .int .u64 0 ∧ Hid (Env w ((g5, m1) :: [(g_b, b), (g_a, a)]) wx))
  case first =>
    have hs := HE.out.drew
    have hE0 := HE.out
    go_region_held3 (fun w' => (w'.cell? ⟨g_a, 0, none⟩ = some (.int .u64 (wd (a) 0 : Int)) ∧ w'.cell? ⟨g_a, 1, none⟩ = some (.int .u64 (wd (a) 1 : Int)) ∧ w'.cell? ⟨g_a, 2, none⟩ = some (.int .u64 (wd (a) 2 : Int)) ∧ w'.cell? ⟨g_a, 3, none⟩ = some (.int .u64 (wd (a) 3 : Int)))) (first | (with_reducible exact hs.cell _ _ (by simp)) | (with_reducible exact hs.zero.cell _ _ (by simp)) | (with_reducible exact hE0.zero.drew.cell _ _ (by simp)) | (with_reducible exact (hs.new (m1)).cell _ _ (by simp)) | (with_reducible exact (hs.setHd hfr.out (m1)).cell _ _ (by simp))) (first | ((go_at_call 22); (with_reducible refine (ofl_at 1 1 hs (by decide) (by decide)).mono ?_); rintro e wn ⟨rfl, hs⟩; obtain ⟨⟨zc0, zc1, zc2, zc3⟩, zcf, zcl, zcn⟩ := hs.hd) | ((go_at_call 22); (first | (have hfr2 := hfr; have hfr := hid hs.fresh) | have hfr := hid hs.fresh); (with_reducible refine (ofl_at 1 1 hs.zero (by decide) (by decide)).mono ?_); rintro e wn ⟨rfl, hs⟩; obtain ⟨⟨zc0, zc1, zc2, zc3⟩, zcf, zcl, zcn⟩ := hs.hd) | ((go_at_call 22); have hfr := hid hE0.fresh; (with_reducible refine (ofl_at 1 1 hE0.zero.drew (by decide) (by decide)).mono ?_); rintro e wn ⟨rfl, hs⟩; obtain ⟨⟨zc0, zc1, zc2, zc3⟩, zcf, zcl, zcn⟩ := hs.hd) | ((go_at_call 20); (with_reducible refine (add_at a 1 m1 0 hs HA.out (by decide) EM.out EK.out).mono ?_); rintro e wn ⟨rfl, hs⟩; obtain ⟨⟨zc0, zc1, zc2, zc3⟩, zcf, zcl, zcn⟩ := hs.hd) | ((go_at_call 20); (first | (have hfr2 := hfr; have hfr := hid hs.fresh) | have hfr := hid hs.fresh); (with_reducible refine (add_at a 1 m1 0 hs.zero HA.out (by decide) EM.out EK.out).mono ?_); rintro e wn ⟨rfl, hs⟩; obtain ⟨⟨zc0, zc1, zc2, zc3⟩, zcf, zcl, zcn⟩ := hs.hd) | ((go_at_call 20); have hfr := hid hE0.fresh; (with_reducible refine (add_at a 1 m1 0 hE0.zero.drew HA.out (by decide) EM.out EK.out).mono ?_); rintro e wn ⟨rfl, hs⟩; obtain ⟨⟨zc0, zc1, zc2, zc3⟩, zcf, zcl, zcn⟩ := hs.hd))
    all_goals
      go_wp2_with fail
      go_meet
      first | (with_reducible exact ⟨_, rfl, rfl, hid (hs.new (m1))⟩) | (with_reducible exact ⟨_, rfl, rfl, hid (hs.setHd hfr.out (m1))⟩)
  case rest =>
    obtain ⟨g5, rfl, rfl, H1⟩ := hcut
    clear HE H0
    obtain ⟨c0x1a, c0x1b, c0x1c, c0x1d⟩ := H1.out.cell (g_b) (b) (by simp)
    have c0x1l := H1.out.lt (g_b) (b) (by simp)
    have c0x1m := Nat.le_of_lt c0x1l
    go_wp2_with fail
    have hs := H1.out.drew
    go_region_held3 (fun w' => (w'.cell? ⟨g_b, 0, none⟩ = some (.int .u64 (wd (b) 0 : Int)) ∧ w'.cell? ⟨g_b, 1, none⟩ = some (.int .u64 (wd (b) 1 : Int)) ∧ w'.cell? ⟨g_b, 2, none⟩ = some (.int .u64 (wd (b) 2 : Int)) ∧ w'.cell? ⟨g_b, 3, none⟩ = some (.int .u64 (wd (b) 3 : Int)))) (exact Env.cell (by assumption) _ _ (by simp)) (first | ((go_at_call 16); (with_reducible refine (none_at (by assumption)).mono ?_); rintro e wn ⟨rfl, hs⟩))
    have H2 := hid hs
    clear hs H1
    clear c0x1a c0x1b c0x1c c0x1d c0x1l c0x1m
    obtain ⟨c0x2a, c0x2b, c0x2c, c0x2d⟩ := H2.out.cell (g_a) (a) (by simp)
    have c0x2l := H2.out.lt (g_a) (a) (by simp)
    have c0x2m := Nat.le_of_lt c0x2l
    obtain ⟨c6x2a, c6x2b, c6x2c, c6x2d⟩ := H2.out.cell (g_b) (b) (by simp)
    have c6x2l := H2.out.lt (g_b) (b) (by simp)
    have c6x2m := Nat.le_of_lt c6x2l
    go_wp2_with fail
    clear c0x2a c0x2b c0x2c c0x2d c0x2l c0x2m c6x2a c6x2b c6x2c c6x2d c6x2l c6x2m
    refine (div_at a b q r H2.out HA.out HB.out B0.out EQ.out ER.out).mono ?_
    rintro e w3 ⟨rfl, h⟩
    have H3 := hid h
    clear h H2
    have F7 := hid H3.out.fresh
    obtain ⟨c0x3a, c0x3b, c0x3c, c0x3d⟩ := H3.out.cell (g5) (m1) (by simp)
    have c0x3l := H3.out.lt (g5) (m1) (by simp)
    have c0x3m := Nat.le_of_lt c0x3l
    obtain ⟨c6x3a, c6x3b, c6x3c, c6x3d⟩ := H3.out.cell (g_b) (b) (by simp)
    have c6x3l := H3.out.lt (g_b) (b) (by simp)
    have c6x3m := Nat.le_of_lt c6x3l
    go_wp2_with fail
    clear c0x3a c0x3b c0x3c c0x3d c0x3l c0x3m c6x3a c6x3b c6x3c c6x3d c6x3l c6x3m
    have H3b := hid (H3.out.new2 q r)
    clear H3
    generalize (w3.alloc (.cells (cls q) 24)).alloc (.cells (cls r) 24) = w3b at *
    generalize w3.heap.size + 1 = g7s at *
    generalize w3.heap.size = g7 at *
    refine (div_at m1 b q u H3b.out ML.out HB.out B0.out EQ2.out ER2.out).mono ?_
    rintro e w4 ⟨rfl, h⟩
    have H4 := hid h
    clear h H3b
    have F10 := hid H4.out.fresh
    have F11 := hid (H4.out.fresh2 (q))
    obtain ⟨c0x4a, c0x4b, c0x4c, c0x4d⟩ := H4.out.cell (g7s) (r) (by simp)
    have c0x4l := H4.out.lt (g7s) (r) (by simp)
    have c0x4m := Nat.le_of_lt c0x4l
    go_upto_region 6 with fail
    clear c0x4a c0x4b c0x4c c0x4d c0x4l c0x4m
    have H4b := hid (H4.out.new2 q u)
    clear H4
    generalize (w4.alloc (.cells (cls q) 24)).alloc (.cells (cls u) 24) = w4b at *
    generalize w4.heap.size + 1 = g10s at *
    generalize w4.heap.size = g10 at *
    go_upto_region 6 with fail
    have HE := H4b
    go_cut [13, 14] (fun s13 s14 wx => ∃ g13 : Nat, s13 = .pointer (some ⟨g13, 0, none⟩) ∧ s14 = .int .u64 ku ∧ Hid (Env w ((g13, u) :: [(g10s, u), (g10, q), (g7s, r), (g7, q), (g5, m1), (g_b, b), (g_a, a)]) wx) ∧ Hid (Fsh w [(g10s, u), (g10, q), (g7s, r), (g7, q), (g5, m1), (g_b, b), (g_a, a)] g13))
    case first =>
      have hs := HE.out.drew
      have hE0 := HE.out
      go_region_held3 (fun w' => (w'.cell? ⟨g7s, 0, none⟩ = some (.int .u64 (wd (r) 0 : Int)) ∧ w'.cell? ⟨g7s, 1, none⟩ = some (.int .u64 (wd (r) 1 : Int)) ∧ w'.cell? ⟨g7s, 2, none⟩ = some (.int .u64 (wd (r) 2 : Int)) ∧ w'.cell? ⟨g7s, 3, none⟩ = some (.int .u64 (wd (r) 3 : Int)))) (first | (with_reducible exact hs.cell _ _ (by simp)) | (with_reducible exact hs.zero.cell _ _ (by simp)) | (with_reducible exact hE0.zero.drew.cell _ _ (by simp)) | (with_reducible exact (hs.new (u)).cell _ _ (by simp)) | (with_reducible exact (hs.setHd hfr.out (u)).cell _ _ (by simp))) (first | ((go_at_call 22); (with_reducible refine (ofl_at 1 1 hs (by decide) (by decide)).mono ?_); rintro e wn ⟨rfl, hs⟩; obtain ⟨⟨zc0, zc1, zc2, zc3⟩, zcf, zcl, zcn⟩ := hs.hd) | ((go_at_call 22); (first | (have hfr2 := hfr; have hfr := hid hs.fresh) | have hfr := hid hs.fresh); (with_reducible refine (ofl_at 1 1 hs.zero (by decide) (by decide)).mono ?_); rintro e wn ⟨rfl, hs⟩; obtain ⟨⟨zc0, zc1, zc2, zc3⟩, zcf, zcl, zcn⟩ := hs.hd) | ((go_at_call 22); have hfr := hid hE0.fresh; (with_reducible refine (ofl_at 1 1 hE0.zero.drew (by decide) (by decide)).mono ?_); rintro e wn ⟨rfl, hs⟩; obtain ⟨⟨zc0, zc1, zc2, zc3⟩, zcf, zcl, zcn⟩ := hs.hd) | ((go_at_call 20); (with_reducible refine (add_at r 1 u ku hs RL.out (by decide) EU.out EKU.out).mono ?_); rintro e wn ⟨rfl, hs⟩; obtain ⟨⟨zc0, zc1, zc2, zc3⟩, zcf, zcl, zcn⟩ := hs.hd) | ((go_at_call 20); (first | (have hfr2 := hfr; have hfr := hid hs.fresh) | have hfr := hid hs.fresh); (with_reducible refine (add_at r 1 u ku hs.zero RL.out (by decide) EU.out EKU.out).mono ?_); rintro e wn ⟨rfl, hs⟩; obtain ⟨⟨zc0, zc1, zc2, zc3⟩, zcf, zcl, zcn⟩ := hs.hd) | ((go_at_call 20); have hfr := hid hE0.fresh; (with_reducible refine (add_at r 1 u ku hE0.zero.drew RL.out (by decide) EU.out EKU.out).mono ?_); rintro e wn ⟨rfl, hs⟩; obtain ⟨⟨zc0, zc1, zc2, zc3⟩, zcf, zcl, zcn⟩ := hs.hd))
      all_goals
        go_wp2_with fail
        go_meet
        first | (with_reducible exact ⟨_, rfl, rfl, hid (hs.new (u)), hid hs.fresh⟩) | (with_reducible exact ⟨_, rfl, rfl, hid (hs.setHd hfr.out (u)), hfr⟩)
    case rest =>
      obtain ⟨g13, rfl, rfl, H5, F13⟩ := hcut
      clear HE H4b
      obtain ⟨c0x5a, c0x5b, c0x5c, c0x5d⟩ := H5.out.cell (g13) (u) (by simp)
      have c0x5l := H5.out.lt (g13) (u) (by simp)
      have c0x5m := Nat.le_of_lt c0x5l
      obtain ⟨c6x5a, c6x5b, c6x5c, c6x5d⟩ := H5.out.cell (g_b) (b) (by simp)
      have c6x5l := H5.out.lt (g_b) (b) (by simp)
      have c6x5m := Nat.le_of_lt c6x5l
      go_wp2_with fail
      clear c0x5a c0x5b c0x5c c0x5d c0x5l c0x5m c6x5a c6x5b c6x5c c6x5d c6x5l c6x5m
      clear qu
      refine (alive_at H5.out HT.out).mono ?_
      rintro e w6 ⟨rfl, h⟩
      have H6 := hid h
      clear h H5
      obtain ⟨c0x6a, c0x6b, c0x6c, c0x6d⟩ := H6.out.cell (g10) (q) (by simp)
      have c0x6l := H6.out.lt (g10) (q) (by simp)
      have c0x6m := Nat.le_of_lt c0x6l
      obtain ⟨c6x6a, c6x6b, c6x6c, c6x6d⟩ := H6.out.cell (g7) (q) (by simp)
      have c6x6l := H6.out.lt (g7) (q) (by simp)
      have c6x6m := Nat.le_of_lt c6x6l
      obtain ⟨c12x6a, c12x6b, c12x6c, c12x6d⟩ := H6.out.cell (g10s) (u) (by simp)
      have c12x6l := H6.out.lt (g10s) (u) (by simp)
      have c12x6m := Nat.le_of_lt c12x6l
      obtain ⟨c18x6a, c18x6b, c18x6c, c18x6d⟩ := H6.out.cell (g13) (u) (by simp)
      have c18x6l := H6.out.lt (g13) (u) (by simp)
      have c18x6m := Nat.le_of_lt c18x6l
      go_wp2
      go_ret
      exact ⟨rfl, H6.out.1⟩

theorem nextLaw_any (a b : Nat) (w : World) (ha : a < 2 ^ 256) (hb : b < 2 ^ 256) (hT : Tab w) : Calls Tryd.prog 5 #[num a, num b] w fun e w' => e = .returned (.bool true) ∧ Below w.heap.size w w' := by
  rcases Nat.lt_or_ge (a + 1) (2 ^ 256) with h | h
  · by_cases h0 : b = 0
    · subst h0; exact next_zero0 a w ha h hT
    · by_cases hu : a % b + 1 = b
      · exact next_up a b w ha hb h0 h hu hT
      · exact next_same a b w ha hb h0 h hu hT
  · by_cases h0 : b = 0
    · subst h0; exact next_zero1 a w ha (by omega) hT
    · exact next_over a b w ha hb h0 (by omega) hT
end Go.Proofs.YtdjabenccjeooaaDoor
