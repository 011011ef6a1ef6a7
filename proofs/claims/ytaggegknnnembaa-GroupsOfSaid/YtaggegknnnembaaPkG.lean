/-
  burrowref04.Inv, walked, where it refuses. Conditions: none of its own.
  burrowref04.Inv, walked, where there is an inverse. Conditions: none of its own.
  burrowlaw04.ModsReckoned, walked: it answers true at any three numbers. Conditions: none.
-/
import Derived.Test.YtaggegknnnembaaPkF
import Derived.Test.YtaggegknnnembaaInv
import Derived.Deep.CutRange
import Derived.Test.YtaggegknnnembaaAsm
import Derived.Test.YtaggegknnnembaaExf
namespace Go.Proofs.Ytaggegknnnembaa
open Go.RowKit
set_option linter.unusedVariables false

set_option maxRecDepth 100000 in
set_option maxHeartbeats 6400000 in
theorem rminv_arg (a m : Nat) (w : World) (ha : a < 2 ^ 256) (hm : m < 2 ^ 256) (hv : ¬ (1 < m ∧ a < m)) : Calls Try.prog 31 #[num a, num m] w fun e w' => e = .returned (.tuple #[num 0, .int .i64 1]) ∧ Below w.heap.size w w' := by
  have HA := hid ha
  have HM := hid hm
  have HV := hid (show decide (1 < m ∧ a < m ∧ a < m) = false from decide_eq_false (fun h => hv ⟨h.1, h.2.1⟩))
  clear ha hm hv
  have H0 := hid (((((Env.refl w).new a).new m).zero).perm (l' := [(w.heap.size + 1 + 1, 0), (w.heap.size + 1, m), (w.heap.size, a)]) (by simp))
  have DZ := hid (show w.heap.size ≤ w.heap.size + 1 + 1 by omega)
  have DN := hid (show ∀ p ∈ [(w.heap.size, a), (w.heap.size + 1, m)], p.1 ≠ w.heap.size + 1 + 1 by simp; try omega)
  go_enter Try.func31, Try.ntmps31
  go_upto_region 1 with fail
  generalize ((w.alloc (.cells (cls a) 24)).alloc (.cells (cls m) 24)).alloc (.cells #[.int .u64 0, .int .u64 0, .int .u64 0, .int .u64 0] 24) = w0 at *
  generalize w.heap.size + 1 + 1 = g_z at *
  generalize w.heap.size + 1 = g_b at *
  generalize hzg_a : w.heap.size = g_a at *
  obtain ⟨c0x0a, c0x0b, c0x0c, c0x0d⟩ := H0.out.cell (g_a) (a) (by simp)
  have c0x0l := H0.out.lt (g_a) (a) (by simp)
  have c0x0m := Nat.le_of_lt c0x0l
  obtain ⟨c6x0a, c6x0b, c6x0c, c6x0d⟩ := H0.out.cell (g_b) (m) (by simp)
  have c6x0l := H0.out.lt (g_b) (m) (by simp)
  have c6x0m := Nat.le_of_lt c6x0l
  go_wp2_with fail
  clear c0x0a c0x0b c0x0c c0x0d c0x0l c0x0m c6x0a c6x0b c6x0c c6x0d c6x0l c6x0m
  refine (env_of (rmay_any a a m false _ HA.out HA.out HM.out HV.out) H0.out).mono ?_
  rintro e w1 ⟨rfl, h⟩
  have H1 := hid h
  clear h H0
  obtain ⟨z0, z1, z2, z3⟩ := H1.out.cell g_z 0 (by simp)
  have zl := H1.out.lt g_z 0 (by simp)
  have zf := H1.out.frozen g_z 0 (by simp)
  have HZ := hid (H1.out.set g_z 0 (0) [] (by simp) (by rw [hzg_a]; exact DZ.out) (by simp))
  go_wp2
  clear z0 z1 z2 z3 zl zf
  try rw [Exit.noGoto_ret]
  change bodyPost _ _ _ _ _ (fil w1 g_z (0))
  generalize fil w1 g_z (0) = wz at *
  obtain ⟨k0, k1, k2, k3⟩ := HZ.out.cell g_z (0) (by simp)
  exact bodyPost_ret (v := .tuple #[num (0), .int .i64 1]) (by simp [results, Try.results31, go_sem, k0, k1, k2, k3]) rfl ⟨rfl, HZ.out.1⟩
set_option maxRecDepth 100000 in
set_option maxHeartbeats 6400000 in
theorem rminv_no (a m : Nat) (w : World) (ha : a < 2 ^ 256) (hm : m < 2 ^ 256) (hv : 1 < m ∧ a < m) (hg : Nat.gcd a m ≠ 1) : Calls Try.prog 31 #[num a, num m] w fun e w' => e = .returned (.tuple #[num 0, .int .i64 7]) ∧ Below w.heap.size w w' := by
  have HA := hid ha
  have HM := hid hm
  have HV := hid (show decide (1 < m ∧ a < m ∧ a < m) = true from decide_eq_true ⟨hv.1, hv.2, hv.2⟩)
  have M1 := hid hv.1
  have AM := hid hv.2
  have MP := hid (show m ≠ 0 by omega)
  obtain ⟨G, eG⟩ : ∃ z, Nat.gcd a m = z := ⟨_, rfl⟩
  rw [eG] at hg
  have q1 := eq_no G 1 (by rw [← eG]; exact Nat.lt_of_le_of_lt (Nat.gcd_le_right a (by omega)) hm) (by decide) hg
  have EG := hid eG
  clear eG hg
  clear ha hm hv
  have H0 := hid (((((Env.refl w).new a).new m).zero).perm (l' := [(w.heap.size + 1 + 1, 0), (w.heap.size + 1, m), (w.heap.size, a)]) (by simp))
  have DZ := hid (show w.heap.size ≤ w.heap.size + 1 + 1 by omega)
  have DN := hid (show ∀ p ∈ [(w.heap.size, a), (w.heap.size + 1, m)], p.1 ≠ w.heap.size + 1 + 1 by simp; try omega)
  go_enter Try.func31, Try.ntmps31
  go_upto_region 1 with fail
  generalize ((w.alloc (.cells (cls a) 24)).alloc (.cells (cls m) 24)).alloc (.cells #[.int .u64 0, .int .u64 0, .int .u64 0, .int .u64 0] 24) = w0 at *
  generalize w.heap.size + 1 + 1 = g_z at *
  generalize w.heap.size + 1 = g_b at *
  generalize hzg_a : w.heap.size = g_a at *
  obtain ⟨c0x0a, c0x0b, c0x0c, c0x0d⟩ := H0.out.cell (g_a) (a) (by simp)
  have c0x0l := H0.out.lt (g_a) (a) (by simp)
  have c0x0m := Nat.le_of_lt c0x0l
  obtain ⟨c6x0a, c6x0b, c6x0c, c6x0d⟩ := H0.out.cell (g_b) (m) (by simp)
  have c6x0l := H0.out.lt (g_b) (m) (by simp)
  have c6x0m := Nat.le_of_lt c6x0l
  go_wp2_with fail
  clear c0x0a c0x0b c0x0c c0x0d c0x0l c0x0m c6x0a c6x0b c6x0c c6x0d c6x0l c6x0m
  refine (env_of (rmay_any a a m true _ HA.out HA.out HM.out HV.out) H0.out).mono ?_
  rintro e w1 ⟨rfl, h⟩
  have H1 := hid h
  clear h H0
  obtain ⟨c0x1a, c0x1b, c0x1c, c0x1d⟩ := H1.out.cell (g_a) (a) (by simp)
  have c0x1l := H1.out.lt (g_a) (a) (by simp)
  have c0x1m := Nat.le_of_lt c0x1l
  obtain ⟨c6x1a, c6x1b, c6x1c, c6x1d⟩ := H1.out.cell (g_b) (m) (by simp)
  have c6x1l := H1.out.lt (g_b) (m) (by simp)
  have c6x1m := Nat.le_of_lt c6x1l
  go_wp2_with fail
  clear c0x1a c0x1b c0x1c c0x1d c0x1l c0x1m c6x1a c6x1b c6x1c c6x1d c6x1l c6x1m
  refine (env_of (rcommon_any a m G _ HA.out HM.out EG.out) H1.out).mono ?_
  rintro e w2 ⟨rfl, h⟩
  have H2 := hid h
  clear h H1
  go_wp2_with fail
  refine (env_of (rof_b 1 1 _ (by decide) rfl) H2.out).mono ?_
  rintro e w3 ⟨rfl, h⟩
  have H3 := hid h
  clear h H2
  obtain ⟨z0, z1, z2, z3⟩ := H3.out.cell g_z 0 (by simp)
  have zl := H3.out.lt g_z 0 (by simp)
  have zf := H3.out.frozen g_z 0 (by simp)
  have HZ := hid (H3.out.set g_z 0 (0) [] (by simp) (by rw [hzg_a]; exact DZ.out) (by simp))
  go_wp2
  clear z0 z1 z2 z3 zl zf
  try rw [Exit.noGoto_ret]
  change bodyPost _ _ _ _ _ (fil w3 g_z (0))
  generalize fil w3 g_z (0) = wz at *
  obtain ⟨k0, k1, k2, k3⟩ := HZ.out.cell g_z (0) (by simp)
  exact bodyPost_ret (v := .tuple #[num (0), .int .i64 7]) (by simp [results, Try.results31, go_sem, k0, k1, k2, k3]) rfl ⟨rfl, HZ.out.1⟩
end Go.Proofs.Ytaggegknnnembaa
namespace Go.Proofs.Ytaggegknnnembaa
open Go.RowKit
set_option linter.unusedVariables false

set_option maxRecDepth 100000 in
set_option maxHeartbeats 6400000 in
theorem rminv_yes (a m : Nat) (w : World) (ha : a < 2 ^ 256) (hm : m < 2 ^ 256) (hv : 1 < m ∧ a < m) (hg : Nat.gcd a m = 1) : Calls Try.prog 31 #[num a, num m] w fun e w' => (∃ v, Ivs a m v ∧ e = .returned (.tuple #[num v, .int .i64 0])) ∧ Below w.heap.size w w' := by
  have HA := hid ha
  have HM := hid hm
  have HV := hid (show decide (1 < m ∧ a < m ∧ a < m) = true from decide_eq_true ⟨hv.1, hv.2, hv.2⟩)
  have M1 := hid hv.1
  have AM := hid hv.2
  have MP := hid (show m ≠ 0 by omega)
  have q1 := eq_yes 1 1 rfl
  have EG := hid hg
  clear hg
  have HP0 := hid (InvP.start hv.1 hv.2)
  clear ha hm hv
  have H0 := hid (((((Env.refl w).new a).new m).zero).perm (l' := [(w.heap.size + 1 + 1, 0), (w.heap.size + 1, m), (w.heap.size, a)]) (by simp))
  have DZ := hid (show w.heap.size ≤ w.heap.size + 1 + 1 by omega)
  have DN := hid (show ∀ p ∈ [(w.heap.size, a), (w.heap.size + 1, m)], p.1 ≠ w.heap.size + 1 + 1 by simp; try omega)
  go_enter Try.func31, Try.ntmps31
  go_upto_region 1 with fail
  generalize ((w.alloc (.cells (cls a) 24)).alloc (.cells (cls m) 24)).alloc (.cells #[.int .u64 0, .int .u64 0, .int .u64 0, .int .u64 0] 24) = w0 at *
  generalize w.heap.size + 1 + 1 = g_z at *
  generalize w.heap.size + 1 = g_b at *
  generalize hzg_a : w.heap.size = g_a at *
  obtain ⟨c0x0a, c0x0b, c0x0c, c0x0d⟩ := H0.out.cell (g_a) (a) (by simp)
  have c0x0l := H0.out.lt (g_a) (a) (by simp)
  have c0x0m := Nat.le_of_lt c0x0l
  obtain ⟨c6x0a, c6x0b, c6x0c, c6x0d⟩ := H0.out.cell (g_b) (m) (by simp)
  have c6x0l := H0.out.lt (g_b) (m) (by simp)
  have c6x0m := Nat.le_of_lt c6x0l
  go_wp2_with fail
  clear c0x0a c0x0b c0x0c c0x0d c0x0l c0x0m c6x0a c6x0b c6x0c c6x0d c6x0l c6x0m
  refine (env_of (rmay_any a a m true _ HA.out HA.out HM.out HV.out) H0.out).mono ?_
  rintro e w1 ⟨rfl, h⟩
  have H1 := hid h
  clear h H0
  obtain ⟨c0x1a, c0x1b, c0x1c, c0x1d⟩ := H1.out.cell (g_a) (a) (by simp)
  have c0x1l := H1.out.lt (g_a) (a) (by simp)
  have c0x1m := Nat.le_of_lt c0x1l
  obtain ⟨c6x1a, c6x1b, c6x1c, c6x1d⟩ := H1.out.cell (g_b) (m) (by simp)
  have c6x1l := H1.out.lt (g_b) (m) (by simp)
  have c6x1m := Nat.le_of_lt c6x1l
  go_wp2_with fail
  clear c0x1a c0x1b c0x1c c0x1d c0x1l c0x1m c6x1a c6x1b c6x1c c6x1d c6x1l c6x1m
  refine (env_of (rcommon_any a m 1 _ HA.out HM.out EG.out) H1.out).mono ?_
  rintro e w2 ⟨rfl, h⟩
  have H2 := hid h
  clear h H1
  go_wp2_with fail
  refine (env_of (rof_b 1 1 _ (by decide) rfl) H2.out).mono ?_
  rintro e w3 ⟨rfl, h⟩
  have H3 := hid h
  clear h H2
  obtain ⟨c0x3a, c0x3b, c0x3c, c0x3d⟩ := H3.out.cell (g_b) (m) (by simp)
  have c0x3l := H3.out.lt (g_b) (m) (by simp)
  have c0x3m := Nat.le_of_lt c0x3l
  go_upto_region 6 with fail
  clear c0x3a c0x3b c0x3c c0x3d c0x3l c0x3m
  have F6 := hid H3.out.fresh
  have H3b := hid (H3.out.new m)
  clear H3
  generalize w3.alloc (.cells (cls m) 24) = w3b at *
  generalize w3.heap.size = g6 at *
  obtain ⟨c0x3a, c0x3b, c0x3c, c0x3d⟩ := H3b.out.cell (g_a) (a) (by simp)
  have c0x3l := H3b.out.lt (g_a) (a) (by simp)
  have c0x3m := Nat.le_of_lt c0x3l
  go_upto_region 7 with fail
  clear c0x3a c0x3b c0x3c c0x3d c0x3l c0x3m
  have F7 := hid H3b.out.fresh
  have H101b := hid (H3b.out.new a)
  clear H3b
  generalize w3b.alloc (.cells (cls a) 24) = w101b at *
  generalize w3b.heap.size = g7 at *
  go_upto_region 8 with fail
  have F8 := hid H101b.out.fresh
  have HZ8 := hid H101b.out.zero
  clear H101b
  generalize w101b.alloc (.cells #[.int .u64 0, .int .u64 0, .int .u64 0, .int .u64 0] 24) = wz8 at *
  generalize w101b.heap.size = g8 at *
  go_wp2_with fail
  refine (env_of (rof_b 1 1 _ (by decide) rfl) HZ8.out).mono ?_
  rintro e w103 ⟨rfl, h⟩
  have H103 := hid h
  clear h HZ8
  go_wp2_with fail
  have F9 := hid H103.out.fresh
  have H103b := hid (H103.out.new 1)
  clear H103
  generalize w103.alloc (.cells (cls 1) 24) = w103b at *
  generalize w103.heap.size = g9 at *
  have D := hid (show g6 ≠ g7 ∧ g6 ≠ g8 ∧ g6 ≠ g9 ∧ g7 ≠ g8 ∧ g7 ≠ g9 ∧ g8 ≠ g9 ∧ g_z ≠ g6 ∧ g_z ≠ g7 ∧ g_z ≠ g8 ∧ g_z ≠ g9 ∧ g_b ≠ g6 ∧ g_b ≠ g7 ∧ g_b ≠ g8 ∧ g_b ≠ g9 ∧ g_a ≠ g6 ∧ g_a ≠ g7 ∧ g_a ≠ g8 ∧ g_a ≠ g9 from ⟨F7.out.2 (g6, m) (by simp), F8.out.2 (g6, m) (by simp), F9.out.2 (g6, m) (by simp), F8.out.2 (g7, a) (by simp), F9.out.2 (g7, a) (by simp), F9.out.2 (g8, 0) (by simp), F6.out.2 (g_z, 0) (by simp), F7.out.2 (g_z, 0) (by simp), F8.out.2 (g_z, 0) (by simp), F9.out.2 (g_z, 0) (by simp), F6.out.2 (g_b, m) (by simp), F7.out.2 (g_b, m) (by simp), F8.out.2 (g_b, m) (by simp), F9.out.2 (g_b, m) (by simp), F6.out.2 (g_a, a) (by simp), F7.out.2 (g_a, a) (by simp), F8.out.2 (g_a, a) (by simp), F9.out.2 (g_a, a) (by simp)⟩)
  have B6 := hid (show w.heap.size ≤ g6 ∧ w.heap.size ≤ g7 ∧ w.heap.size ≤ g8 ∧ w.heap.size ≤ g9 from ⟨F6.out.1, F7.out.1, F8.out.1, F9.out.1⟩)
  clear F6 F7 F8 F9
  go_loopg [] a (fun k wr => ∃ r s x y : Nat, s = k ∧ Hid (InvP a m r s x y) ∧ Hid (Env w [(g6, r), (g7, s), (g8, x), (g9, y), (g_z, 0), (g_b, m), (g_a, a)] wr))
  case atStart => exact ⟨m, a, 0, 1, rfl, HP0, hid (H103b.out.perm (by simp))⟩
  case round =>
    obtain ⟨r, s, x, y, hk, PX, H⟩ := hrel
    clear H103b HP0
    have RL := hid (show r < 2 ^ 256 from Nat.lt_of_le_of_lt PX.out.2.1 HM.out)
    have SL := hid (show s < 2 ^ 256 from Nat.lt_trans PX.out.1 RL.out)
    have XM := hid PX.out.2.2.1
    have YM := hid PX.out.2.2.2.1
    have S0 := hid (show s ≠ 0 from fun e => by have h := PX.out; rw [e] at h; exact h.no EG.out)
    by_cases h1 : s = 1
    · subst h1
      clear hk
      have qs := eq_yes 1 1 rfl
      have HI := hid (PX.out.yes M1.out)
      go_upto_region 9 with fail
      have hs := H.out.drew
      refine wp_region_noPanic ?_
      refine Goes.region (fun (L : Array Bool) (w' : World) => w'.cell? ⟨g7, 0, none⟩ = some (.int .u64 (wd (1) 0 : Int)) ∧ w'.cell? ⟨g7, 1, none⟩ = some (.int .u64 (wd (1) 1 : Int)) ∧ w'.cell? ⟨g7, 2, none⟩ = some (.int .u64 (wd (1) 2 : Int)) ∧ w'.cell? ⟨g7, 3, none⟩ = some (.int .u64 (wd (1) 3 : Int))) (by kernel_rfl) ?_
      generalize wr.drew = wdr at *
      refine Goes.tk (i := 0) (o := ⟨some 30, _, _, _, _, _⟩) (v := ?_) [] (y := Or.inl ⟨by rfl, ?_⟩) (s := ⟨(Env.cell hs g7 (1) (by simp)).1, (Env.cell hs g7 (1) (by simp)).2.1, (Env.cell hs g7 (1) (by simp)).2.2.1, (Env.cell hs g7 (1) (by simp)).2.2.2⟩) (H := ?_)
      rotate_left
      · rintro w ⟨up, -, hX⟩; (try dsimp only at hX); obtain ⟨x0, x1, x2, x3⟩ := hX; go_simp; try with_reducible rfl
      try simp only [putz]
      refine Goes.one (i := 1) (o := ⟨some 31, _, _, _, _, _⟩) (by kernel_rfl) rfl (fun K hK => ?_)
      go_simp
      with_reducible refine (env_of (rof_b 1 1 _ (by decide) rfl) hs).mono ?_
      rintro e wn1 ⟨rfl, hs1⟩
      go_wp2_with fail
      refine hK.out _ _ (⟨(Env.cell hs1 g7 (1) (by simp)).1, (Env.cell hs1 g7 (1) (by simp)).2.1, (Env.cell hs1 g7 (1) (by simp)).2.2.1, (Env.cell hs1 g7 (1) (by simp)).2.2.2⟩) ?_
      clear hK K
      try simp only [putz]
      clear hs
      have hs := hs1
      clear hs1
      refine Goes.tk (i := 2) (o := ⟨some 32, _, _, _, _, _⟩) (v := ?_) [] (y := Or.inl ⟨by rfl, ?_⟩) (s := ⟨(Env.cell hs g7 (1) (by simp)).1, (Env.cell hs g7 (1) (by simp)).2.1, (Env.cell hs g7 (1) (by simp)).2.2.1, (Env.cell hs g7 (1) (by simp)).2.2.2⟩) (H := ?_)
      rotate_left
      · intro w hY; go_simp; try with_reducible rfl
      try simp only [putz]
      refine Goes.done (by kernel_rfl) ?_ _
      refine NoPanic.normal ?_
      have HK := hid hs
      clear hs
      obtain ⟨c0x210a, c0x210b, c0x210c, c0x210d⟩ := HK.out.cell (g9) (y) (by simp)
      have c0x210l := HK.out.lt (g9) (y) (by simp)
      have c0x210m := Nat.le_of_lt c0x210l
      obtain ⟨z0, z1, z2, z3⟩ := HK.out.cell g_z 0 (by simp)
      have zl := HK.out.lt g_z 0 (by simp)
      have zf := HK.out.frozen g_z 0 (by simp)
      have HZ := hid (HK.out.set g_z 0 (y) [] (by simp) (by rw [hzg_a]; exact DZ.out) (by simp))
      go_wp2
      clear z0 z1 z2 z3 zl zf
      try rw [Exit.noGoto_ret]
      change bodyPost _ _ _ _ _ (fil wn1 g_z (y))
      generalize fil wn1 g_z (y) = wz at *
      obtain ⟨k0, k1, k2, k3⟩ := HZ.out.cell g_z (y) (by simp)
      exact bodyPost_ret (v := .tuple #[num (y), .int .i64 0]) (by simp [results, Try.results31, go_sem, k0, k1, k2, k3]) rfl ⟨⟨y, HI.out, rfl⟩, HZ.out.1⟩
    · have qs := eq_no s 1 SL.out (by decide) h1
      have H1 := hid h1
      clear h1
      obtain ⟨q, eq⟩ : ∃ z, r / s = z := ⟨_, rfl⟩
      obtain ⟨d, ed⟩ : ∃ z, r % s = z := ⟨_, rfl⟩
      obtain ⟨q2, eq2⟩ : ∃ z, q % m = z := ⟨_, rfl⟩
      obtain ⟨t, et⟩ : ∃ z, q2 * y % m = z := ⟨_, rfl⟩
      obtain ⟨z, ez⟩ : ∃ u, (x + (m - t)) % m = u := ⟨_, rfl⟩
      have ht : r / s * y % m = t := by rw [← et, ← eq2, ← eq, Nat.mod_mul_mod]
      have PN := hid (show InvP a m s d y z by have := PX.out.step S0.out H1.out ht ez; rwa [ed] at this)
      have QL := hid (show q < 2 ^ 256 by rw [← eq]; exact Nat.lt_of_le_of_lt (Nat.div_le_self r s) RL.out)
      have Q2M := hid (show q2 < m by rw [← eq2]; exact Nat.mod_lt _ (Nat.pos_of_ne_zero MP.out))
      have TM := hid (show t < m by rw [← et]; exact Nat.mod_lt _ (Nat.pos_of_ne_zero MP.out))
      have DK := hid (show d < gk by rw [← ed, ← hk]; exact Nat.mod_lt _ (Nat.pos_of_ne_zero S0.out))
      have EQ := hid eq
      have ED := hid ed
      have EQ2 := hid eq2
      have ET := hid et
      have EZ := hid ez
      clear eq ed eq2 et ez ht hk
      go_upto_region 9 with fail
      have hs := H.out.drew
      refine wp_region_noPanic ?_
      refine Goes.region (fun (L : Array Bool) (w' : World) => w'.cell? ⟨g7, 0, none⟩ = some (.int .u64 (wd (s) 0 : Int)) ∧ w'.cell? ⟨g7, 1, none⟩ = some (.int .u64 (wd (s) 1 : Int)) ∧ w'.cell? ⟨g7, 2, none⟩ = some (.int .u64 (wd (s) 2 : Int)) ∧ w'.cell? ⟨g7, 3, none⟩ = some (.int .u64 (wd (s) 3 : Int))) (by kernel_rfl) ?_
      generalize wr.drew = wdr at *
      refine Goes.tk (i := 0) (o := ⟨some 30, _, _, _, _, _⟩) (v := ?_) [] (y := Or.inl ⟨by rfl, ?_⟩) (s := ⟨(Env.cell hs g7 (s) (by simp)).1, (Env.cell hs g7 (s) (by simp)).2.1, (Env.cell hs g7 (s) (by simp)).2.2.1, (Env.cell hs g7 (s) (by simp)).2.2.2⟩) (H := ?_)
      rotate_left
      · rintro w ⟨up, -, hX⟩; (try dsimp only at hX); obtain ⟨x0, x1, x2, x3⟩ := hX; go_simp; try with_reducible rfl
      try simp only [putz]
      refine Goes.one (i := 1) (o := ⟨some 31, _, _, _, _, _⟩) (by kernel_rfl) rfl (fun K hK => ?_)
      go_simp
      with_reducible refine (env_of (rof_b 1 1 _ (by decide) rfl) hs).mono ?_
      rintro e wn1 ⟨rfl, hs1⟩
      go_wp2_with fail
      refine hK.out _ _ (⟨(Env.cell hs1 g7 (s) (by simp)).1, (Env.cell hs1 g7 (s) (by simp)).2.1, (Env.cell hs1 g7 (s) (by simp)).2.2.1, (Env.cell hs1 g7 (s) (by simp)).2.2.2⟩) ?_
      clear hK K
      try simp only [putz]
      clear hs
      have hs := hs1
      clear hs1
      refine Goes.tk (i := 2) (o := ⟨some 32, _, _, _, _, _⟩) (v := ?_) [] (y := Or.inl ⟨by rfl, ?_⟩) (s := ⟨(Env.cell hs g7 (s) (by simp)).1, (Env.cell hs g7 (s) (by simp)).2.1, (Env.cell hs g7 (s) (by simp)).2.2.1, (Env.cell hs g7 (s) (by simp)).2.2.2⟩) (H := ?_)
      rotate_left
      · intro w hY; go_simp; try with_reducible rfl
      try simp only [putz]
      refine Goes.done (by kernel_rfl) ?_ _
      refine NoPanic.normal ?_
      have HK := hid hs
      clear hs
      obtain ⟨c0x310a, c0x310b, c0x310c, c0x310d⟩ := HK.out.cell (g6) (r) (by simp)
      have c0x310l := HK.out.lt (g6) (r) (by simp)
      have c0x310m := Nat.le_of_lt c0x310l
      obtain ⟨c6x310a, c6x310b, c6x310c, c6x310d⟩ := HK.out.cell (g7) (s) (by simp)
      have c6x310l := HK.out.lt (g7) (s) (by simp)
      have c6x310m := Nat.le_of_lt c6x310l
      go_wp2_with fail
      clear c0x310a c0x310b c0x310c c0x310d c0x310l c0x310m c6x310a c6x310b c6x310c c6x310d c6x310l c6x310m
      refine (env_of (rdiv_any r s q d _ RL.out SL.out S0.out EQ.out ED.out) HK.out).mono ?_
      rintro e w311 ⟨rfl, h⟩
      have H311 := hid h
      clear h HK
      go_upto_region 11 with fail
      have F10 := hid H311.out.fresh
      have F11 := hid (H311.out.fresh2 q)
      have H311b := hid (H311.out.new2 q d)
      clear H311
      generalize (w311.alloc (.cells (cls q) 24)).alloc (.cells (cls d) 24) = w311b at *
      generalize w311.heap.size + 1 = g10s at *
      generalize w311.heap.size = g10 at *
      obtain ⟨c0x311a, c0x311b, c0x311c, c0x311d⟩ := H311b.out.cell (g10) (q) (by simp)
      have c0x311l := H311b.out.lt (g10) (q) (by simp)
      have c0x311m := Nat.le_of_lt c0x311l
      obtain ⟨c6x311a, c6x311b, c6x311c, c6x311d⟩ := H311b.out.cell (g_b) (m) (by simp)
      have c6x311l := H311b.out.lt (g_b) (m) (by simp)
      have c6x311m := Nat.le_of_lt c6x311l
      go_wp2_with fail
      clear c0x311a c0x311b c0x311c c0x311d c0x311l c0x311m c6x311a c6x311b c6x311c c6x311d c6x311l c6x311m
      refine (env_of (rdiv_any q m _ q2 _ QL.out HM.out MP.out rfl EQ2.out) H311b.out).mono ?_
      rintro e w312 ⟨rfl, h⟩
      have H312 := hid h
      clear h H311b
      obtain ⟨c0x312a, c0x312b, c0x312c, c0x312d⟩ := H312.out.cell (g10) (q) (by simp)
      have c0x312l := H312.out.lt (g10) (q) (by simp)
      have c0x312m := Nat.le_of_lt c0x312l
      have f6x312 := H312.out.frozen g10 (q) (by simp)
      have HS10 := hid (H312.out.set g10 (q) (q2) [(g10s, d), (g6, r), (g7, s), (g8, x), (g9, y), (g_z, 0), (g_b, m), (g_a, a)] (by simp) F10.out.1 (fun p hp => by have y1 := F11.out.2 (g10, q) (by simp); have u0 := F10.out.2 (g6, r) (by simp); have u1 := F10.out.2 (g7, s) (by simp); have u2 := F10.out.2 (g8, x) (by simp); have u3 := F10.out.2 (g9, y) (by simp); have u4 := F10.out.2 (g_z, 0) (by simp); have u5 := F10.out.2 (g_b, m) (by simp); have u6 := F10.out.2 (g_a, a) (by simp); simp only [List.mem_cons, List.not_mem_nil, or_false] at hp; rcases hp with rfl | rfl | rfl | rfl | rfl | rfl | rfl | rfl <;> exact ⟨by simp, by omega⟩))
      go_upto_region 12 with fail
      clear c0x312a c0x312b c0x312c c0x312d c0x312l c0x312m f6x312
      clear H312
      change Code.wp _ _ _ _ (fil w312 g10 (q2))
      generalize fil w312 g10 (q2) = ws10 at *
      go_cut [13] (fun s13 wx => ∃ g13 : Nat, s13 = .pointer (some ⟨g13, 0, none⟩) ∧ Hid (Fsh w [(g10, q2), (g10s, d), (g6, r), (g7, s), (g8, x), (g9, y), (g_z, 0), (g_b, m), (g_a, a)] g13) ∧ Hid (Env w [(g13, z), (g10, q2), (g10s, d), (g6, r), (g7, s), (g8, x), (g9, y), (g_z, 0), (g_b, m), (g_a, a)] wx))
      case first =>
        have hs := HS10.out.drew
        refine wp_region_noPanic ?_
        refine Goes.region (fun (L : Array Bool) (w' : World) => w'.cell? ⟨g8, 0, none⟩ = some (.int .u64 (wd (x) 0 : Int)) ∧ w'.cell? ⟨g8, 1, none⟩ = some (.int .u64 (wd (x) 1 : Int)) ∧ w'.cell? ⟨g8, 2, none⟩ = some (.int .u64 (wd (x) 2 : Int)) ∧ w'.cell? ⟨g8, 3, none⟩ = some (.int .u64 (wd (x) 3 : Int)) ∧ w'.cell? ⟨g10, 0, none⟩ = some (.int .u64 (wd (q2) 0 : Int)) ∧ w'.cell? ⟨g10, 1, none⟩ = some (.int .u64 (wd (q2) 1 : Int)) ∧ w'.cell? ⟨g10, 2, none⟩ = some (.int .u64 (wd (q2) 2 : Int)) ∧ w'.cell? ⟨g10, 3, none⟩ = some (.int .u64 (wd (q2) 3 : Int)) ∧ w'.cell? ⟨g9, 0, none⟩ = some (.int .u64 (wd (y) 0 : Int)) ∧ w'.cell? ⟨g9, 1, none⟩ = some (.int .u64 (wd (y) 1 : Int)) ∧ w'.cell? ⟨g9, 2, none⟩ = some (.int .u64 (wd (y) 2 : Int)) ∧ w'.cell? ⟨g9, 3, none⟩ = some (.int .u64 (wd (y) 3 : Int)) ∧ w'.cell? ⟨g_b, 0, none⟩ = some (.int .u64 (wd (m) 0 : Int)) ∧ w'.cell? ⟨g_b, 1, none⟩ = some (.int .u64 (wd (m) 1 : Int)) ∧ w'.cell? ⟨g_b, 2, none⟩ = some (.int .u64 (wd (m) 2 : Int)) ∧ w'.cell? ⟨g_b, 3, none⟩ = some (.int .u64 (wd (m) 3 : Int))) (by kernel_rfl) ?_
        generalize ws10.drew = wdr at *
        have hJJ := hid (And.intro (Env.cell hs g8 (x) (by simp)).1 (And.intro (Env.cell hs g8 (x) (by simp)).2.1 (And.intro (Env.cell hs g8 (x) (by simp)).2.2.1 (And.intro (Env.cell hs g8 (x) (by simp)).2.2.2 (And.intro (Env.cell hs g10 (q2) (by simp)).1 (And.intro (Env.cell hs g10 (q2) (by simp)).2.1 (And.intro (Env.cell hs g10 (q2) (by simp)).2.2.1 (And.intro (Env.cell hs g10 (q2) (by simp)).2.2.2 (And.intro (Env.cell hs g9 (y) (by simp)).1 (And.intro (Env.cell hs g9 (y) (by simp)).2.1 (And.intro (Env.cell hs g9 (y) (by simp)).2.2.1 (And.intro (Env.cell hs g9 (y) (by simp)).2.2.2 (And.intro (Env.cell hs g_b (m) (by simp)).1 (And.intro (Env.cell hs g_b (m) (by simp)).2.1 (And.intro (Env.cell hs g_b (m) (by simp)).2.2.1 (Env.cell hs g_b (m) (by simp)).2.2.2)))))))))))))))
        refine Goes.tk (i := 0) (o := ⟨some 48, _, _, _, _, _⟩) (v := ?_) [] (y := Or.inl ⟨by rfl, ?_⟩) (s := hJJ.out) (H := ?_)
        rotate_left
        · rintro w ⟨up, -, hX⟩; (try dsimp only at hX); obtain ⟨x0, x1, x2, x3, x4, x5, x6, x7, x8, x9, x10, x11, x12, x13, x14, x15⟩ := hX; go_simp; try with_reducible rfl
        try simp only [putz]
        refine Goes.tk (i := 1) (o := ⟨some 49, _, _, _, _, _⟩) (v := ?_) [] (y := Or.inl ⟨by rfl, ?_⟩) (s := hJJ.out) (H := ?_)
        rotate_left
        · rintro w ⟨up, -, hX⟩; (try dsimp only at hX); obtain ⟨x0, x1, x2, x3, x4, x5, x6, x7, x8, x9, x10, x11, x12, x13, x14, x15⟩ := hX; go_simp; try with_reducible rfl
        try simp only [putz]
        refine Goes.tk (i := 2) (o := ⟨some 50, _, _, _, _, _⟩) (v := ?_) [] (y := Or.inl ⟨by rfl, ?_⟩) (s := hJJ.out) (H := ?_)
        rotate_left
        · rintro w ⟨up, -, hX⟩; (try dsimp only at hX); obtain ⟨x0, x1, x2, x3, x4, x5, x6, x7, x8, x9, x10, x11, x12, x13, x14, x15⟩ := hX; go_simp; try with_reducible rfl
        try simp only [putz]
        refine Goes.tk (i := 3) (o := ⟨some 51, _, _, _, _, _⟩) (v := ?_) [] (y := Or.inl ⟨by rfl, ?_⟩) (s := hJJ.out) (H := ?_)
        rotate_left
        · rintro w ⟨up, -, hX⟩; (try dsimp only at hX); obtain ⟨x0, x1, x2, x3, x4, x5, x6, x7, x8, x9, x10, x11, x12, x13, x14, x15⟩ := hX; go_simp; try with_reducible rfl
        try simp only [putz]
        refine Goes.tk (i := 5) (o := ⟨some 53, _, _, _, _, _⟩) (v := ?_) [] (y := Or.inl ⟨by rfl, ?_⟩) (s := hJJ.out) (H := ?_)
        rotate_left
        · rintro w ⟨up, -, hX⟩; (try dsimp only at hX); obtain ⟨x0, x1, x2, x3, x4, x5, x6, x7, x8, x9, x10, x11, x12, x13, x14, x15⟩ := hX; go_simp; try with_reducible rfl
        try simp only [putz]
        clear hJJ
        refine Goes.two (i := 4) (j := 10) (o := ⟨some 52, _, _, _, _, _⟩) (p := ⟨some 13, _, _, _, _, _⟩) (by kernel_rfl) rfl rfl (fun K hK => ?_) (fun K hK => ?_)
        · skip
          go_simp
          with_reducible refine (env_of (rtimes_any q2 y m t _ Q2M.out YM.out HM.out ET.out) hs).mono ?_
          rintro e wn1 ⟨rfl, hs1⟩
          go_wp2_with fail
          refine hK.out _ _ (⟨(Env.cell hs1 g8 (x) (by simp)).1, (Env.cell hs1 g8 (x) (by simp)).2.1, (Env.cell hs1 g8 (x) (by simp)).2.2.1, (Env.cell hs1 g8 (x) (by simp)).2.2.2, (Env.cell hs1 g10 (q2) (by simp)).1, (Env.cell hs1 g10 (q2) (by simp)).2.1, (Env.cell hs1 g10 (q2) (by simp)).2.2.1, (Env.cell hs1 g10 (q2) (by simp)).2.2.2, (Env.cell hs1 g9 (y) (by simp)).1, (Env.cell hs1 g9 (y) (by simp)).2.1, (Env.cell hs1 g9 (y) (by simp)).2.2.1, (Env.cell hs1 g9 (y) (by simp)).2.2.2, (Env.cell hs1 g_b (m) (by simp)).1, (Env.cell hs1 g_b (m) (by simp)).2.1, (Env.cell hs1 g_b (m) (by simp)).2.2.1, (Env.cell hs1 g_b (m) (by simp)).2.2.2⟩) ?_
          clear hK K
          try simp only [putz]
          clear hs
          have hs := hs1
          clear hs1
          refine Goes.two (i := 6) (j := 10) (o := ⟨some 54, _, _, _, _, _⟩) (p := ⟨some 13, _, _, _, _, _⟩) (by kernel_rfl) rfl rfl (fun K hK => ?_) (fun K hK => ?_)
          · skip
            go_simp
            with_reducible refine (env_of (rmsub_some x t m z _ (Nat.lt_trans XM.out HM.out) (Nat.lt_trans TM.out HM.out) HM.out ⟨M1.out, XM.out, TM.out⟩ EZ.out) hs).mono ?_
            rintro e wn2 ⟨rfl, hs2⟩
            go_wp2_with fail
            refine hK.out _ _ (⟨(Env.cell hs2 g8 (x) (by simp)).1, (Env.cell hs2 g8 (x) (by simp)).2.1, (Env.cell hs2 g8 (x) (by simp)).2.2.1, (Env.cell hs2 g8 (x) (by simp)).2.2.2, (Env.cell hs2 g10 (q2) (by simp)).1, (Env.cell hs2 g10 (q2) (by simp)).2.1, (Env.cell hs2 g10 (q2) (by simp)).2.2.1, (Env.cell hs2 g10 (q2) (by simp)).2.2.2, (Env.cell hs2 g9 (y) (by simp)).1, (Env.cell hs2 g9 (y) (by simp)).2.1, (Env.cell hs2 g9 (y) (by simp)).2.2.1, (Env.cell hs2 g9 (y) (by simp)).2.2.2, (Env.cell hs2 g_b (m) (by simp)).1, (Env.cell hs2 g_b (m) (by simp)).2.1, (Env.cell hs2 g_b (m) (by simp)).2.2.1, (Env.cell hs2 g_b (m) (by simp)).2.2.2⟩) ?_
            clear hK K
            try simp only [putz]
            clear hs
            have hs := hs2
            clear hs2
            have hJJ := hid (And.intro (Env.cell hs g8 (x) (by simp)).1 (And.intro (Env.cell hs g8 (x) (by simp)).2.1 (And.intro (Env.cell hs g8 (x) (by simp)).2.2.1 (And.intro (Env.cell hs g8 (x) (by simp)).2.2.2 (And.intro (Env.cell hs g10 (q2) (by simp)).1 (And.intro (Env.cell hs g10 (q2) (by simp)).2.1 (And.intro (Env.cell hs g10 (q2) (by simp)).2.2.1 (And.intro (Env.cell hs g10 (q2) (by simp)).2.2.2 (And.intro (Env.cell hs g9 (y) (by simp)).1 (And.intro (Env.cell hs g9 (y) (by simp)).2.1 (And.intro (Env.cell hs g9 (y) (by simp)).2.2.1 (And.intro (Env.cell hs g9 (y) (by simp)).2.2.2 (And.intro (Env.cell hs g_b (m) (by simp)).1 (And.intro (Env.cell hs g_b (m) (by simp)).2.1 (And.intro (Env.cell hs g_b (m) (by simp)).2.2.1 (Env.cell hs g_b (m) (by simp)).2.2.2)))))))))))))))
            refine Goes.tk (i := 7) (o := ⟨some 47, _, _, _, _, _⟩) (v := ?_) [] (y := Or.inl ⟨by rfl, ?_⟩) (s := hJJ.out) (H := ?_)
            rotate_left
            · intro w hY; go_simp; try with_reducible rfl
            try simp only [putz]
            refine Goes.tk (i := 8) (o := ⟨some 55, _, _, _, _, _⟩) (v := ?_) [] (y := Or.inl ⟨by rfl, ?_⟩) (s := hJJ.out) (H := ?_)
            rotate_left
            · intro w hY; go_simp; try with_reducible rfl
            try simp only [putz]
            refine Goes.tk (i := 9) (o := ⟨some 56, _, _, _, _, _⟩) (v := ?_) [] (y := Or.inl ⟨by rfl, ?_⟩) (s := hJJ.out) (H := ?_)
            rotate_left
            · intro w hY; go_simp; try with_reducible rfl
            try simp only [putz]
            clear hJJ
            refine Goes.one (i := 10) (o := ⟨some 13, _, _, _, _, _⟩) (by kernel_rfl) rfl (fun K hK => ?_)
            go_simp
            refine hK.out _ _ (⟨(Env.cell hs.zero g8 (x) (by simp)).1, (Env.cell hs.zero g8 (x) (by simp)).2.1, (Env.cell hs.zero g8 (x) (by simp)).2.2.1, (Env.cell hs.zero g8 (x) (by simp)).2.2.2, (Env.cell hs.zero g10 (q2) (by simp)).1, (Env.cell hs.zero g10 (q2) (by simp)).2.1, (Env.cell hs.zero g10 (q2) (by simp)).2.2.1, (Env.cell hs.zero g10 (q2) (by simp)).2.2.2, (Env.cell hs.zero g9 (y) (by simp)).1, (Env.cell hs.zero g9 (y) (by simp)).2.1, (Env.cell hs.zero g9 (y) (by simp)).2.2.1, (Env.cell hs.zero g9 (y) (by simp)).2.2.2, (Env.cell hs.zero g_b (m) (by simp)).1, (Env.cell hs.zero g_b (m) (by simp)).2.1, (Env.cell hs.zero g_b (m) (by simp)).2.2.1, (Env.cell hs.zero g_b (m) (by simp)).2.2.2⟩) ?_
            clear hK K
            try simp only [putz]
            have Fg13 := hid hs.fresh
            have hs3 := hs.zero
            clear hs
            generalize wn2.alloc (.cells #[.int .u64 0, .int .u64 0, .int .u64 0, .int .u64 0] 24) = wn3 at *
            generalize wn2.heap.size = g13 at *
            have hs := hs3
            clear hs3
            refine Goes.one (i := 11) (o := ⟨none, _, _, _, _, _⟩) (by kernel_rfl) rfl (fun K hK => ?_)
            obtain ⟨z0, z1, z2, z3⟩ := hs.cell g13 (0) (by simp)
            have zl := hs.lt g13 (0) (by simp)
            have zf := hs.frozen g13 (0) (by simp)
            have hs4 := hs.set g13 (0) (z) [(g10, q2), (g10s, d), (g6, r), (g7, s), (g8, x), (g9, y), (g_z, 0), (g_b, m), (g_a, a)] (by simp) Fg13.out.1 (fun p hp => by simp only [List.mem_cons, List.not_mem_nil, or_false] at hp; rcases hp with rfl | rfl | rfl | rfl | rfl | rfl | rfl | rfl | rfl <;> first | exact ⟨by simp, Fg13.out.2 (g10, q2) (by simp)⟩ | exact ⟨by simp, Fg13.out.2 (g10s, d) (by simp)⟩ | exact ⟨by simp, Fg13.out.2 (g6, r) (by simp)⟩ | exact ⟨by simp, Fg13.out.2 (g7, s) (by simp)⟩ | exact ⟨by simp, Fg13.out.2 (g8, x) (by simp)⟩ | exact ⟨by simp, Fg13.out.2 (g9, y) (by simp)⟩ | exact ⟨by simp, Fg13.out.2 (g_z, 0) (by simp)⟩ | exact ⟨by simp, Fg13.out.2 (g_b, m) (by simp)⟩ | exact ⟨by simp, Fg13.out.2 (g_a, a) (by simp)⟩)
            go_simp
            refine hK.out _ _ (⟨(Env.cell hs4 g8 (x) (by simp)).1, (Env.cell hs4 g8 (x) (by simp)).2.1, (Env.cell hs4 g8 (x) (by simp)).2.2.1, (Env.cell hs4 g8 (x) (by simp)).2.2.2, (Env.cell hs4 g10 (q2) (by simp)).1, (Env.cell hs4 g10 (q2) (by simp)).2.1, (Env.cell hs4 g10 (q2) (by simp)).2.2.1, (Env.cell hs4 g10 (q2) (by simp)).2.2.2, (Env.cell hs4 g9 (y) (by simp)).1, (Env.cell hs4 g9 (y) (by simp)).2.1, (Env.cell hs4 g9 (y) (by simp)).2.2.1, (Env.cell hs4 g9 (y) (by simp)).2.2.2, (Env.cell hs4 g_b (m) (by simp)).1, (Env.cell hs4 g_b (m) (by simp)).2.1, (Env.cell hs4 g_b (m) (by simp)).2.2.1, (Env.cell hs4 g_b (m) (by simp)).2.2.2⟩) ?_
            clear hK K
            try simp only [putz]
            clear hs z0 z1 z2 z3 zl zf
            change Goes _ _ _ _ _ _ _ _ (fil wn3 g13 (z))
            generalize fil wn3 g13 (z) = wn4 at *
            have hs := hs4
            clear hs4
            refine Goes.tk (i := 12) (o := ⟨some 14, _, _, _, _, _⟩) (v := ?_) [] (y := Or.inl ⟨by rfl, ?_⟩) (s := ⟨(Env.cell hs g8 (x) (by simp)).1, (Env.cell hs g8 (x) (by simp)).2.1, (Env.cell hs g8 (x) (by simp)).2.2.1, (Env.cell hs g8 (x) (by simp)).2.2.2, (Env.cell hs g10 (q2) (by simp)).1, (Env.cell hs g10 (q2) (by simp)).2.1, (Env.cell hs g10 (q2) (by simp)).2.2.1, (Env.cell hs g10 (q2) (by simp)).2.2.2, (Env.cell hs g9 (y) (by simp)).1, (Env.cell hs g9 (y) (by simp)).2.1, (Env.cell hs g9 (y) (by simp)).2.2.1, (Env.cell hs g9 (y) (by simp)).2.2.2, (Env.cell hs g_b (m) (by simp)).1, (Env.cell hs g_b (m) (by simp)).2.1, (Env.cell hs g_b (m) (by simp)).2.2.1, (Env.cell hs g_b (m) (by simp)).2.2.2⟩) (H := ?_)
            rotate_left
            · intro w hY; go_simp; try with_reducible rfl
            try simp only [putz]
            refine Goes.done (by kernel_rfl) ?_ _
            refine NoPanic.normal ?_
            go_wp2_with fail
            go_meet
            exact ⟨_, rfl, Fg13, hid (hs.perm (by simp))⟩
          · skip
            go_simp
            refine hK.out _ _ (⟨(Env.cell hs.zero g8 (x) (by simp)).1, (Env.cell hs.zero g8 (x) (by simp)).2.1, (Env.cell hs.zero g8 (x) (by simp)).2.2.1, (Env.cell hs.zero g8 (x) (by simp)).2.2.2, (Env.cell hs.zero g10 (q2) (by simp)).1, (Env.cell hs.zero g10 (q2) (by simp)).2.1, (Env.cell hs.zero g10 (q2) (by simp)).2.2.1, (Env.cell hs.zero g10 (q2) (by simp)).2.2.2, (Env.cell hs.zero g9 (y) (by simp)).1, (Env.cell hs.zero g9 (y) (by simp)).2.1, (Env.cell hs.zero g9 (y) (by simp)).2.2.1, (Env.cell hs.zero g9 (y) (by simp)).2.2.2, (Env.cell hs.zero g_b (m) (by simp)).1, (Env.cell hs.zero g_b (m) (by simp)).2.1, (Env.cell hs.zero g_b (m) (by simp)).2.2.1, (Env.cell hs.zero g_b (m) (by simp)).2.2.2⟩) ?_
            clear hK K
            try simp only [putz]
            have Fg13 := hid hs.fresh
            have hs5 := hs.zero
            clear hs
            generalize wn1.alloc (.cells #[.int .u64 0, .int .u64 0, .int .u64 0, .int .u64 0] 24) = wn5 at *
            generalize wn1.heap.size = g13 at *
            have hs := hs5
            clear hs5
            refine Goes.one (i := 6) (o := ⟨some 54, _, _, _, _, _⟩) (by kernel_rfl) rfl (fun K hK => ?_)
            go_simp
            with_reducible refine (env_of (rmsub_some x t m z _ (Nat.lt_trans XM.out HM.out) (Nat.lt_trans TM.out HM.out) HM.out ⟨M1.out, XM.out, TM.out⟩ EZ.out) hs).mono ?_
            rintro e wn6 ⟨rfl, hs6⟩
            go_wp2_with fail
            refine hK.out _ _ (⟨(Env.cell hs6 g8 (x) (by simp)).1, (Env.cell hs6 g8 (x) (by simp)).2.1, (Env.cell hs6 g8 (x) (by simp)).2.2.1, (Env.cell hs6 g8 (x) (by simp)).2.2.2, (Env.cell hs6 g10 (q2) (by simp)).1, (Env.cell hs6 g10 (q2) (by simp)).2.1, (Env.cell hs6 g10 (q2) (by simp)).2.2.1, (Env.cell hs6 g10 (q2) (by simp)).2.2.2, (Env.cell hs6 g9 (y) (by simp)).1, (Env.cell hs6 g9 (y) (by simp)).2.1, (Env.cell hs6 g9 (y) (by simp)).2.2.1, (Env.cell hs6 g9 (y) (by simp)).2.2.2, (Env.cell hs6 g_b (m) (by simp)).1, (Env.cell hs6 g_b (m) (by simp)).2.1, (Env.cell hs6 g_b (m) (by simp)).2.2.1, (Env.cell hs6 g_b (m) (by simp)).2.2.2⟩) ?_
            clear hK K
            try simp only [putz]
            clear hs
            have hs := hs6
            clear hs6
            have hJJ := hid (And.intro (Env.cell hs g8 (x) (by simp)).1 (And.intro (Env.cell hs g8 (x) (by simp)).2.1 (And.intro (Env.cell hs g8 (x) (by simp)).2.2.1 (And.intro (Env.cell hs g8 (x) (by simp)).2.2.2 (And.intro (Env.cell hs g10 (q2) (by simp)).1 (And.intro (Env.cell hs g10 (q2) (by simp)).2.1 (And.intro (Env.cell hs g10 (q2) (by simp)).2.2.1 (And.intro (Env.cell hs g10 (q2) (by simp)).2.2.2 (And.intro (Env.cell hs g9 (y) (by simp)).1 (And.intro (Env.cell hs g9 (y) (by simp)).2.1 (And.intro (Env.cell hs g9 (y) (by simp)).2.2.1 (And.intro (Env.cell hs g9 (y) (by simp)).2.2.2 (And.intro (Env.cell hs g_b (m) (by simp)).1 (And.intro (Env.cell hs g_b (m) (by simp)).2.1 (And.intro (Env.cell hs g_b (m) (by simp)).2.2.1 (Env.cell hs g_b (m) (by simp)).2.2.2)))))))))))))))
            refine Goes.tk (i := 7) (o := ⟨some 47, _, _, _, _, _⟩) (v := ?_) [] (y := Or.inl ⟨by rfl, ?_⟩) (s := hJJ.out) (H := ?_)
            rotate_left
            · intro w hY; go_simp; try with_reducible rfl
            try simp only [putz]
            refine Goes.tk (i := 8) (o := ⟨some 55, _, _, _, _, _⟩) (v := ?_) [] (y := Or.inl ⟨by rfl, ?_⟩) (s := hJJ.out) (H := ?_)
            rotate_left
            · intro w hY; go_simp; try with_reducible rfl
            try simp only [putz]
            refine Goes.tk (i := 9) (o := ⟨some 56, _, _, _, _, _⟩) (v := ?_) [] (y := Or.inl ⟨by rfl, ?_⟩) (s := hJJ.out) (H := ?_)
            rotate_left
            · intro w hY; go_simp; try with_reducible rfl
            try simp only [putz]
            clear hJJ
            refine Goes.one (i := 11) (o := ⟨none, _, _, _, _, _⟩) (by kernel_rfl) rfl (fun K hK => ?_)
            obtain ⟨z0, z1, z2, z3⟩ := hs.cell g13 (0) (by simp)
            have zl := hs.lt g13 (0) (by simp)
            have zf := hs.frozen g13 (0) (by simp)
            have hs7 := hs.set g13 (0) (z) [(g10, q2), (g10s, d), (g6, r), (g7, s), (g8, x), (g9, y), (g_z, 0), (g_b, m), (g_a, a)] (by simp) Fg13.out.1 (fun p hp => by simp only [List.mem_cons, List.not_mem_nil, or_false] at hp; rcases hp with rfl | rfl | rfl | rfl | rfl | rfl | rfl | rfl | rfl <;> first | exact ⟨by simp, Fg13.out.2 (g10, q2) (by simp)⟩ | exact ⟨by simp, Fg13.out.2 (g10s, d) (by simp)⟩ | exact ⟨by simp, Fg13.out.2 (g6, r) (by simp)⟩ | exact ⟨by simp, Fg13.out.2 (g7, s) (by simp)⟩ | exact ⟨by simp, Fg13.out.2 (g8, x) (by simp)⟩ | exact ⟨by simp, Fg13.out.2 (g9, y) (by simp)⟩ | exact ⟨by simp, Fg13.out.2 (g_z, 0) (by simp)⟩ | exact ⟨by simp, Fg13.out.2 (g_b, m) (by simp)⟩ | exact ⟨by simp, Fg13.out.2 (g_a, a) (by simp)⟩)
            go_simp
            refine hK.out _ _ (⟨(Env.cell hs7 g8 (x) (by simp)).1, (Env.cell hs7 g8 (x) (by simp)).2.1, (Env.cell hs7 g8 (x) (by simp)).2.2.1, (Env.cell hs7 g8 (x) (by simp)).2.2.2, (Env.cell hs7 g10 (q2) (by simp)).1, (Env.cell hs7 g10 (q2) (by simp)).2.1, (Env.cell hs7 g10 (q2) (by simp)).2.2.1, (Env.cell hs7 g10 (q2) (by simp)).2.2.2, (Env.cell hs7 g9 (y) (by simp)).1, (Env.cell hs7 g9 (y) (by simp)).2.1, (Env.cell hs7 g9 (y) (by simp)).2.2.1, (Env.cell hs7 g9 (y) (by simp)).2.2.2, (Env.cell hs7 g_b (m) (by simp)).1, (Env.cell hs7 g_b (m) (by simp)).2.1, (Env.cell hs7 g_b (m) (by simp)).2.2.1, (Env.cell hs7 g_b (m) (by simp)).2.2.2⟩) ?_
            clear hK K
            try simp only [putz]
            clear hs z0 z1 z2 z3 zl zf
            change Goes _ _ _ _ _ _ _ _ (fil wn6 g13 (z))
            generalize fil wn6 g13 (z) = wn7 at *
            have hs := hs7
            clear hs7
            refine Goes.tk (i := 12) (o := ⟨some 14, _, _, _, _, _⟩) (v := ?_) [] (y := Or.inl ⟨by rfl, ?_⟩) (s := ⟨(Env.cell hs g8 (x) (by simp)).1, (Env.cell hs g8 (x) (by simp)).2.1, (Env.cell hs g8 (x) (by simp)).2.2.1, (Env.cell hs g8 (x) (by simp)).2.2.2, (Env.cell hs g10 (q2) (by simp)).1, (Env.cell hs g10 (q2) (by simp)).2.1, (Env.cell hs g10 (q2) (by simp)).2.2.1, (Env.cell hs g10 (q2) (by simp)).2.2.2, (Env.cell hs g9 (y) (by simp)).1, (Env.cell hs g9 (y) (by simp)).2.1, (Env.cell hs g9 (y) (by simp)).2.2.1, (Env.cell hs g9 (y) (by simp)).2.2.2, (Env.cell hs g_b (m) (by simp)).1, (Env.cell hs g_b (m) (by simp)).2.1, (Env.cell hs g_b (m) (by simp)).2.2.1, (Env.cell hs g_b (m) (by simp)).2.2.2⟩) (H := ?_)
            rotate_left
            · intro w hY; go_simp; try with_reducible rfl
            try simp only [putz]
            refine Goes.done (by kernel_rfl) ?_ _
            refine NoPanic.normal ?_
            go_wp2_with fail
            go_meet
            exact ⟨_, rfl, Fg13, hid (hs.perm (by simp))⟩
        · skip
          go_simp
          refine hK.out _ _ (⟨(Env.cell hs.zero g8 (x) (by simp)).1, (Env.cell hs.zero g8 (x) (by simp)).2.1, (Env.cell hs.zero g8 (x) (by simp)).2.2.1, (Env.cell hs.zero g8 (x) (by simp)).2.2.2, (Env.cell hs.zero g10 (q2) (by simp)).1, (Env.cell hs.zero g10 (q2) (by simp)).2.1, (Env.cell hs.zero g10 (q2) (by simp)).2.2.1, (Env.cell hs.zero g10 (q2) (by simp)).2.2.2, (Env.cell hs.zero g9 (y) (by simp)).1, (Env.cell hs.zero g9 (y) (by simp)).2.1, (Env.cell hs.zero g9 (y) (by simp)).2.2.1, (Env.cell hs.zero g9 (y) (by simp)).2.2.2, (Env.cell hs.zero g_b (m) (by simp)).1, (Env.cell hs.zero g_b (m) (by simp)).2.1, (Env.cell hs.zero g_b (m) (by simp)).2.2.1, (Env.cell hs.zero g_b (m) (by simp)).2.2.2⟩) ?_
          clear hK K
          try simp only [putz]
          have Fg13 := hid hs.fresh
          have hs8 := hs.zero
          clear hs
          generalize wdr.alloc (.cells #[.int .u64 0, .int .u64 0, .int .u64 0, .int .u64 0] 24) = wn8 at *
          generalize wdr.heap.size = g13 at *
          have hs := hs8
          clear hs8
          refine Goes.one (i := 4) (o := ⟨some 52, _, _, _, _, _⟩) (by kernel_rfl) rfl (fun K hK => ?_)
          go_simp
          with_reducible refine (env_of (rtimes_any q2 y m t _ Q2M.out YM.out HM.out ET.out) hs).mono ?_
          rintro e wn9 ⟨rfl, hs9⟩
          go_wp2_with fail
          refine hK.out _ _ (⟨(Env.cell hs9 g8 (x) (by simp)).1, (Env.cell hs9 g8 (x) (by simp)).2.1, (Env.cell hs9 g8 (x) (by simp)).2.2.1, (Env.cell hs9 g8 (x) (by simp)).2.2.2, (Env.cell hs9 g10 (q2) (by simp)).1, (Env.cell hs9 g10 (q2) (by simp)).2.1, (Env.cell hs9 g10 (q2) (by simp)).2.2.1, (Env.cell hs9 g10 (q2) (by simp)).2.2.2, (Env.cell hs9 g9 (y) (by simp)).1, (Env.cell hs9 g9 (y) (by simp)).2.1, (Env.cell hs9 g9 (y) (by simp)).2.2.1, (Env.cell hs9 g9 (y) (by simp)).2.2.2, (Env.cell hs9 g_b (m) (by simp)).1, (Env.cell hs9 g_b (m) (by simp)).2.1, (Env.cell hs9 g_b (m) (by simp)).2.2.1, (Env.cell hs9 g_b (m) (by simp)).2.2.2⟩) ?_
          clear hK K
          try simp only [putz]
          clear hs
          have hs := hs9
          clear hs9
          refine Goes.one (i := 6) (o := ⟨some 54, _, _, _, _, _⟩) (by kernel_rfl) rfl (fun K hK => ?_)
          go_simp
          with_reducible refine (env_of (rmsub_some x t m z _ (Nat.lt_trans XM.out HM.out) (Nat.lt_trans TM.out HM.out) HM.out ⟨M1.out, XM.out, TM.out⟩ EZ.out) hs).mono ?_
          rintro e wn10 ⟨rfl, hs10⟩
          go_wp2_with fail
          refine hK.out _ _ (⟨(Env.cell hs10 g8 (x) (by simp)).1, (Env.cell hs10 g8 (x) (by simp)).2.1, (Env.cell hs10 g8 (x) (by simp)).2.2.1, (Env.cell hs10 g8 (x) (by simp)).2.2.2, (Env.cell hs10 g10 (q2) (by simp)).1, (Env.cell hs10 g10 (q2) (by simp)).2.1, (Env.cell hs10 g10 (q2) (by simp)).2.2.1, (Env.cell hs10 g10 (q2) (by simp)).2.2.2, (Env.cell hs10 g9 (y) (by simp)).1, (Env.cell hs10 g9 (y) (by simp)).2.1, (Env.cell hs10 g9 (y) (by simp)).2.2.1, (Env.cell hs10 g9 (y) (by simp)).2.2.2, (Env.cell hs10 g_b (m) (by simp)).1, (Env.cell hs10 g_b (m) (by simp)).2.1, (Env.cell hs10 g_b (m) (by simp)).2.2.1, (Env.cell hs10 g_b (m) (by simp)).2.2.2⟩) ?_
          clear hK K
          try simp only [putz]
          clear hs
          have hs := hs10
          clear hs10
          have hJJ := hid (And.intro (Env.cell hs g8 (x) (by simp)).1 (And.intro (Env.cell hs g8 (x) (by simp)).2.1 (And.intro (Env.cell hs g8 (x) (by simp)).2.2.1 (And.intro (Env.cell hs g8 (x) (by simp)).2.2.2 (And.intro (Env.cell hs g10 (q2) (by simp)).1 (And.intro (Env.cell hs g10 (q2) (by simp)).2.1 (And.intro (Env.cell hs g10 (q2) (by simp)).2.2.1 (And.intro (Env.cell hs g10 (q2) (by simp)).2.2.2 (And.intro (Env.cell hs g9 (y) (by simp)).1 (And.intro (Env.cell hs g9 (y) (by simp)).2.1 (And.intro (Env.cell hs g9 (y) (by simp)).2.2.1 (And.intro (Env.cell hs g9 (y) (by simp)).2.2.2 (And.intro (Env.cell hs g_b (m) (by simp)).1 (And.intro (Env.cell hs g_b (m) (by simp)).2.1 (And.intro (Env.cell hs g_b (m) (by simp)).2.2.1 (Env.cell hs g_b (m) (by simp)).2.2.2)))))))))))))))
          refine Goes.tk (i := 7) (o := ⟨some 47, _, _, _, _, _⟩) (v := ?_) [] (y := Or.inl ⟨by rfl, ?_⟩) (s := hJJ.out) (H := ?_)
          rotate_left
          · intro w hY; go_simp; try with_reducible rfl
          try simp only [putz]
          refine Goes.tk (i := 8) (o := ⟨some 55, _, _, _, _, _⟩) (v := ?_) [] (y := Or.inl ⟨by rfl, ?_⟩) (s := hJJ.out) (H := ?_)
          rotate_left
          · intro w hY; go_simp; try with_reducible rfl
          try simp only [putz]
          refine Goes.tk (i := 9) (o := ⟨some 56, _, _, _, _, _⟩) (v := ?_) [] (y := Or.inl ⟨by rfl, ?_⟩) (s := hJJ.out) (H := ?_)
          rotate_left
          · intro w hY; go_simp; try with_reducible rfl
          try simp only [putz]
          clear hJJ
          refine Goes.one (i := 11) (o := ⟨none, _, _, _, _, _⟩) (by kernel_rfl) rfl (fun K hK => ?_)
          obtain ⟨z0, z1, z2, z3⟩ := hs.cell g13 (0) (by simp)
          have zl := hs.lt g13 (0) (by simp)
          have zf := hs.frozen g13 (0) (by simp)
          have hs11 := hs.set g13 (0) (z) [(g10, q2), (g10s, d), (g6, r), (g7, s), (g8, x), (g9, y), (g_z, 0), (g_b, m), (g_a, a)] (by simp) Fg13.out.1 (fun p hp => by simp only [List.mem_cons, List.not_mem_nil, or_false] at hp; rcases hp with rfl | rfl | rfl | rfl | rfl | rfl | rfl | rfl | rfl <;> first | exact ⟨by simp, Fg13.out.2 (g10, q2) (by simp)⟩ | exact ⟨by simp, Fg13.out.2 (g10s, d) (by simp)⟩ | exact ⟨by simp, Fg13.out.2 (g6, r) (by simp)⟩ | exact ⟨by simp, Fg13.out.2 (g7, s) (by simp)⟩ | exact ⟨by simp, Fg13.out.2 (g8, x) (by simp)⟩ | exact ⟨by simp, Fg13.out.2 (g9, y) (by simp)⟩ | exact ⟨by simp, Fg13.out.2 (g_z, 0) (by simp)⟩ | exact ⟨by simp, Fg13.out.2 (g_b, m) (by simp)⟩ | exact ⟨by simp, Fg13.out.2 (g_a, a) (by simp)⟩)
          go_simp
          refine hK.out _ _ (⟨(Env.cell hs11 g8 (x) (by simp)).1, (Env.cell hs11 g8 (x) (by simp)).2.1, (Env.cell hs11 g8 (x) (by simp)).2.2.1, (Env.cell hs11 g8 (x) (by simp)).2.2.2, (Env.cell hs11 g10 (q2) (by simp)).1, (Env.cell hs11 g10 (q2) (by simp)).2.1, (Env.cell hs11 g10 (q2) (by simp)).2.2.1, (Env.cell hs11 g10 (q2) (by simp)).2.2.2, (Env.cell hs11 g9 (y) (by simp)).1, (Env.cell hs11 g9 (y) (by simp)).2.1, (Env.cell hs11 g9 (y) (by simp)).2.2.1, (Env.cell hs11 g9 (y) (by simp)).2.2.2, (Env.cell hs11 g_b (m) (by simp)).1, (Env.cell hs11 g_b (m) (by simp)).2.1, (Env.cell hs11 g_b (m) (by simp)).2.2.1, (Env.cell hs11 g_b (m) (by simp)).2.2.2⟩) ?_
          clear hK K
          try simp only [putz]
          clear hs z0 z1 z2 z3 zl zf
          change Goes _ _ _ _ _ _ _ _ (fil wn10 g13 (z))
          generalize fil wn10 g13 (z) = wn11 at *
          have hs := hs11
          clear hs11
          refine Goes.tk (i := 12) (o := ⟨some 14, _, _, _, _, _⟩) (v := ?_) [] (y := Or.inl ⟨by rfl, ?_⟩) (s := ⟨(Env.cell hs g8 (x) (by simp)).1, (Env.cell hs g8 (x) (by simp)).2.1, (Env.cell hs g8 (x) (by simp)).2.2.1, (Env.cell hs g8 (x) (by simp)).2.2.2, (Env.cell hs g10 (q2) (by simp)).1, (Env.cell hs g10 (q2) (by simp)).2.1, (Env.cell hs g10 (q2) (by simp)).2.2.1, (Env.cell hs g10 (q2) (by simp)).2.2.2, (Env.cell hs g9 (y) (by simp)).1, (Env.cell hs g9 (y) (by simp)).2.1, (Env.cell hs g9 (y) (by simp)).2.2.1, (Env.cell hs g9 (y) (by simp)).2.2.2, (Env.cell hs g_b (m) (by simp)).1, (Env.cell hs g_b (m) (by simp)).2.1, (Env.cell hs g_b (m) (by simp)).2.2.1, (Env.cell hs g_b (m) (by simp)).2.2.2⟩) (H := ?_)
          rotate_left
          · intro w hY; go_simp; try with_reducible rfl
          try simp only [putz]
          refine Goes.done (by kernel_rfl) ?_ _
          refine NoPanic.normal ?_
          go_wp2_with fail
          go_meet
          exact ⟨_, rfl, Fg13, hid (hs.perm (by simp))⟩
      case rest =>
        obtain ⟨g13, rfl, Fg13, HC⟩ := hcut
        clear HS10
        have HP := hid (HC.out.perm (l' := [(g13, z), (g10s, d), (g6, r), (g7, s), (g8, x), (g9, y), (g_z, 0), (g_b, m), (g_a, a)]) (by simp))
        clear HC
        obtain ⟨c0x330a, c0x330b, c0x330c, c0x330d⟩ := HP.out.cell (g7) (s) (by simp)
        have c0x330l := HP.out.lt (g7) (s) (by simp)
        have c0x330m := Nat.le_of_lt c0x330l
        obtain ⟨c6x330a, c6x330b, c6x330c, c6x330d⟩ := HP.out.cell (g6) (r) (by simp)
        have c6x330l := HP.out.lt (g6) (r) (by simp)
        have c6x330m := Nat.le_of_lt c6x330l
        have f12x330 := HP.out.frozen g6 (r) (by simp)
        have HSa := hid (HP.out.set g6 (r) (s) [(g13, z), (g10s, d), (g7, s), (g8, x), (g9, y), (g_z, 0), (g_b, m), (g_a, a)] (by simp) B6.out.1 (fun p hp => by have D1 := D.out; have y1 := F11.out.2 (g6, r) (by simp); have y2 := Fg13.out.2 (g6, r) (by simp); simp only [List.mem_cons, List.not_mem_nil, or_false] at hp; rcases hp with rfl | rfl | rfl | rfl | rfl | rfl | rfl | rfl <;> exact ⟨by simp, by omega⟩))
        go_upto_region 14 with fail
        clear c0x330a c0x330b c0x330c c0x330d c0x330l c0x330m c6x330a c6x330b c6x330c c6x330d c6x330l c6x330m f12x330
        clear HP
        change Code.wp _ _ _ _ (fil wc g6 (s))
        generalize fil wc g6 (s) = wsa at *
        obtain ⟨c0x330a, c0x330b, c0x330c, c0x330d⟩ := HSa.out.cell (g10s) (d) (by simp)
        have c0x330l := HSa.out.lt (g10s) (d) (by simp)
        have c0x330m := Nat.le_of_lt c0x330l
        obtain ⟨c6x330a, c6x330b, c6x330c, c6x330d⟩ := HSa.out.cell (g7) (s) (by simp)
        have c6x330l := HSa.out.lt (g7) (s) (by simp)
        have c6x330m := Nat.le_of_lt c6x330l
        have f12x330 := HSa.out.frozen g7 (s) (by simp)
        have HSb := hid (HSa.out.set g7 (s) (d) [(g6, s), (g13, z), (g10s, d), (g8, x), (g9, y), (g_z, 0), (g_b, m), (g_a, a)] (by simp) B6.out.2.1 (fun p hp => by have D1 := D.out; have y1 := F11.out.2 (g7, s) (by simp); have y2 := Fg13.out.2 (g7, s) (by simp); simp only [List.mem_cons, List.not_mem_nil, or_false] at hp; rcases hp with rfl | rfl | rfl | rfl | rfl | rfl | rfl | rfl <;> exact ⟨by simp, by omega⟩))
        go_upto_region 15 with fail
        clear c0x330a c0x330b c0x330c c0x330d c0x330l c0x330m c6x330a c6x330b c6x330c c6x330d c6x330l c6x330m f12x330
        clear HSa
        change Code.wp _ _ _ _ (fil wsa g7 (d))
        generalize fil wsa g7 (d) = wsb at *
        obtain ⟨c0x330a, c0x330b, c0x330c, c0x330d⟩ := HSb.out.cell (g9) (y) (by simp)
        have c0x330l := HSb.out.lt (g9) (y) (by simp)
        have c0x330m := Nat.le_of_lt c0x330l
        obtain ⟨c6x330a, c6x330b, c6x330c, c6x330d⟩ := HSb.out.cell (g8) (x) (by simp)
        have c6x330l := HSb.out.lt (g8) (x) (by simp)
        have c6x330m := Nat.le_of_lt c6x330l
        have f12x330 := HSb.out.frozen g8 (x) (by simp)
        have HSc := hid (HSb.out.set g8 (x) (y) [(g7, d), (g6, s), (g13, z), (g10s, d), (g9, y), (g_z, 0), (g_b, m), (g_a, a)] (by simp) B6.out.2.2.1 (fun p hp => by have D1 := D.out; have y1 := F11.out.2 (g8, x) (by simp); have y2 := Fg13.out.2 (g8, x) (by simp); simp only [List.mem_cons, List.not_mem_nil, or_false] at hp; rcases hp with rfl | rfl | rfl | rfl | rfl | rfl | rfl | rfl <;> exact ⟨by simp, by omega⟩))
        go_upto_region 16 with fail
        clear c0x330a c0x330b c0x330c c0x330d c0x330l c0x330m c6x330a c6x330b c6x330c c6x330d c6x330l c6x330m f12x330
        clear HSb
        change Code.wp _ _ _ _ (fil wsb g8 (y))
        generalize fil wsb g8 (y) = wsc at *
        obtain ⟨c0x330a, c0x330b, c0x330c, c0x330d⟩ := HSc.out.cell (g13) (z) (by simp)
        have c0x330l := HSc.out.lt (g13) (z) (by simp)
        have c0x330m := Nat.le_of_lt c0x330l
        obtain ⟨c6x330a, c6x330b, c6x330c, c6x330d⟩ := HSc.out.cell (g9) (y) (by simp)
        have c6x330l := HSc.out.lt (g9) (y) (by simp)
        have c6x330m := Nat.le_of_lt c6x330l
        have f12x330 := HSc.out.frozen g9 (y) (by simp)
        have HSd := hid (HSc.out.set g9 (y) (z) [(g8, y), (g7, d), (g6, s), (g13, z), (g10s, d), (g_z, 0), (g_b, m), (g_a, a)] (by simp) B6.out.2.2.2 (fun p hp => by have D1 := D.out; have y1 := F11.out.2 (g9, y) (by simp); have y2 := Fg13.out.2 (g9, y) (by simp); simp only [List.mem_cons, List.not_mem_nil, or_false] at hp; rcases hp with rfl | rfl | rfl | rfl | rfl | rfl | rfl | rfl <;> exact ⟨by simp, by omega⟩))
        go_wp2_with fail
        clear c0x330a c0x330b c0x330c c0x330d c0x330l c0x330m c6x330a c6x330b c6x330c c6x330d c6x330l c6x330m f12x330
        clear HSc
        go_roundg d
        case measure => exact DK.out
        case rel => exact ⟨s, d, y, z, rfl, PN, hid (HSd.out.perm (by simp))⟩
/-- the same with a given inverse -/
theorem rminv_is (a m v : Nat) (w : World) (ha : a < 2 ^ 256) (hm : m < 2 ^ 256) (hv : 1 < m ∧ a < m) (hi : Ivs a m v) : Calls Try.prog 31 #[num a, num m] w fun e w' => e = .returned (.tuple #[num v, .int .i64 0]) ∧ Below w.heap.size w w' :=
  (rminv_yes a m w ha hm hv hi.gcd).mono fun e w' ⟨⟨u, hu, he⟩, hb⟩ => ⟨by rw [he, hi.unique hu], hb⟩
/-- what has nothing in common with m has an inverse -/
theorem ivs_exists {a m : Nat} (h1 : 1 < m) (ha : a < m) (hg : Nat.gcd a m = 1) : ∃ v, Ivs a m v := by
  have key : ∀ re wh la ne, InvP a m wh re la ne → ∃ v, Ivs a m v := by
    intro re
    induction re using Nat.strongRecOn with
    | ind re ih =>
      intro wh la ne h
      by_cases h2 : re = 1
      · subst h2; exact ⟨ne, h.yes h1⟩
      · by_cases h0 : re = 0
        · subst h0; exact absurd hg h.no
        · exact ih (wh % re) (Nat.mod_lt _ (by omega)) re ne _ (h.step h0 h2 rfl rfl)
  exact key a m 0 1 (InvP.start h1 ha)
end Go.Proofs.Ytaggegknnnembaa
namespace Go.Proofs.Ytaggegknnnembaa
open Go.RowKit
set_option linter.unusedVariables false

/-- two functions that answer alike: a number, and how it went -/
def Both (f g : FuncId) (args : Array Value) (r : Nat) (e : Int) : Prop := (∀ w, Calls Try.prog f args w fun x w' => x = .returned (.tuple #[num r, .int .i64 e]) ∧ Below w.heap.size w w') ∧ ∀ w, Calls Try.prog g args w fun x w' => x = .returned (.tuple #[num r, .int .i64 e]) ∧ Below w.heap.size w w'
theorem add_both (a b m : Nat) (ha : a < 2 ^ 256) (hb : b < 2 ^ 256) (hm : m < 2 ^ 256) : ∃ r e, Both 23 27 #[num a, num b, num m] r e := by
  by_cases h : 1 < m ∧ a < m ∧ b < m
  · exact ⟨(a + b) % m, 0, fun w => madd_some a b m w ha hb hm h, fun w => rmadd_some a b m _ w ha hb hm h rfl⟩
  · exact ⟨0, 1, fun w => madd_none a b m w ha hb hm h, fun w => rmadd_none a b m w ha hb hm h⟩
theorem sub_both (a b m : Nat) (ha : a < 2 ^ 256) (hb : b < 2 ^ 256) (hm : m < 2 ^ 256) : ∃ r e, Both 24 28 #[num a, num b, num m] r e := by
  by_cases h : 1 < m ∧ a < m ∧ b < m
  · exact ⟨(a + (m - b)) % m, 0, fun w => msub_some a b m w ha hb hm h, fun w => rmsub_some a b m _ w ha hb hm h rfl⟩
  · exact ⟨0, 1, fun w => msub_none a b m w ha hb hm h, fun w => rmsub_none a b m w ha hb hm h⟩
theorem mul_both (a b m : Nat) (ha : a < 2 ^ 256) (hb : b < 2 ^ 256) (hm : m < 2 ^ 256) : ∃ r e, Both 22 29 #[num a, num b, num m] r e := by
  by_cases h : 1 < m ∧ a < m ∧ b < m
  · exact ⟨a * b % m, 0, fun w => mmul_some a b m w ha hb hm h, fun w => rmmul_some a b m _ w ha hb hm h rfl⟩
  · exact ⟨0, 1, fun w => mmul_none a b m w ha hb hm h, fun w => rmmul_none a b m w ha hb hm h⟩
theorem exp_both (a b m : Nat) (ha : a < 2 ^ 256) (hb : b < 2 ^ 256) (hm : m < 2 ^ 256) : ∃ r e, Both 25 30 #[num a, num b, num m] r e := by
  by_cases h : 1 < m ∧ a < m
  · exact ⟨a ^ b % m, 0, fun w => (mexp_full_at a b m _ (Env.refl w) hb hm h.1 h.2 rfl).mono fun e w2 ⟨he, hb⟩ => ⟨he, hb.1⟩, fun w => rmexp_some a b m _ w ha hb hm h rfl⟩
  · exact ⟨0, 1, fun w => (mexp_arg_at a b m (Env.refl w) ha hb hm h).mono fun e w2 ⟨he, hb⟩ => ⟨he, hb.1⟩, fun w => rmexp_none a b m w ha hb hm h⟩
theorem inv_both (a m : Nat) (ha : a < 2 ^ 256) (hm : m < 2 ^ 256) : ∃ r e, Both 26 31 #[num a, num m] r e := by
  by_cases h : 1 < m ∧ a < m
  · by_cases hg : Nat.gcd a m = 1
    · obtain ⟨v, hv⟩ := ivs_exists h.1 h.2 hg
      exact ⟨v, 0, fun w => (minv_yes_at a m v (Env.refl w) hm h.1 h.2 hv).mono fun e w2 ⟨he, hb⟩ => ⟨he, hb.1⟩, fun w => rminv_is a m v w ha hm h hv⟩
    · exact ⟨0, 7, fun w => (minv_no_at a m (Env.refl w) hm h.1 h.2 hg).mono fun e w2 ⟨he, hb⟩ => ⟨he, hb.1⟩, fun w => rminv_no a m w ha hm h hg⟩
  · exact ⟨0, 1, fun w => minv_arg a m w ha hm h, fun w => rminv_arg a m w ha hm h⟩
set_option maxRecDepth 100000 in
set_option maxHeartbeats 12000000 in
theorem modsReckoned_any (a b m : Nat) (w : World) (ha : a < 2 ^ 256) (hb : b < 2 ^ 256) (hm : m < 2 ^ 256) : Calls Try.prog 8 #[num a, num b, num m] w fun e w' => e = .returned (.bool true) ∧ Below w.heap.size w w' := by
  obtain ⟨r0, e0, B0⟩ := add_both a b m ha hb hm
  have B0 := hid B0
  have q0 := eq_yes r0 r0 rfl
  obtain ⟨r1, e1, B1⟩ := sub_both a b m ha hb hm
  have B1 := hid B1
  have q1 := eq_yes r1 r1 rfl
  obtain ⟨r2, e2, B2⟩ := mul_both a b m ha hb hm
  have B2 := hid B2
  have q2 := eq_yes r2 r2 rfl
  obtain ⟨r3, e3, B3⟩ := exp_both a b m ha hb hm
  have B3 := hid B3
  have q3 := eq_yes r3 r3 rfl
  obtain ⟨r4, e4, B4⟩ := inv_both a m ha hm
  have B4 := hid B4
  have q4 := eq_yes r4 r4 rfl
  clear ha hb hm
  have H0 := hid (((((Env.refl w).new a).new b).new m).perm (l' := [(w.heap.size + 1 + 1, m), (w.heap.size + 1, b), (w.heap.size, a)]) (by simp))
  go_enter Try.func8, Try.ntmps8
  go_upto_region 1 with fail
  generalize ((w.alloc (.cells (cls a) 24)).alloc (.cells (cls b) 24)).alloc (.cells (cls m) 24) = w0 at *
  generalize w.heap.size + 1 + 1 = g_c at *
  generalize w.heap.size + 1 = g_b at *
  generalize hzg_a : w.heap.size = g_a at *
  obtain ⟨c0x0a, c0x0b, c0x0c, c0x0d⟩ := H0.out.cell (g_a) (a) (by simp)
  have c0x0l := H0.out.lt (g_a) (a) (by simp)
  have c0x0m := Nat.le_of_lt c0x0l
  obtain ⟨c6x0a, c6x0b, c6x0c, c6x0d⟩ := H0.out.cell (g_b) (b) (by simp)
  have c6x0l := H0.out.lt (g_b) (b) (by simp)
  have c6x0m := Nat.le_of_lt c6x0l
  obtain ⟨c12x0a, c12x0b, c12x0c, c12x0d⟩ := H0.out.cell (g_c) (m) (by simp)
  have c12x0l := H0.out.lt (g_c) (m) (by simp)
  have c12x0m := Nat.le_of_lt c12x0l
  go_wp2_with fail
  clear c0x0a c0x0b c0x0c c0x0d c0x0l c0x0m c6x0a c6x0b c6x0c c6x0d c6x0l c6x0m c12x0a c12x0b c12x0c c12x0d c12x0l c12x0m
  refine (env_of (B0.out.1 _) H0.out).mono ?_
  rintro e w1 ⟨rfl, h⟩
  have H1 := hid h
  clear h H0
  go_upto_region 2 with fail
  have H1b := hid (H1.out.new r0)
  clear H1
  generalize w1.alloc (.cells (cls r0) 24) = w1b at *
  generalize w1.heap.size = g7 at *
  obtain ⟨c0x1a, c0x1b, c0x1c, c0x1d⟩ := H1b.out.cell (g_a) (a) (by simp)
  have c0x1l := H1b.out.lt (g_a) (a) (by simp)
  have c0x1m := Nat.le_of_lt c0x1l
  obtain ⟨c6x1a, c6x1b, c6x1c, c6x1d⟩ := H1b.out.cell (g_b) (b) (by simp)
  have c6x1l := H1b.out.lt (g_b) (b) (by simp)
  have c6x1m := Nat.le_of_lt c6x1l
  obtain ⟨c12x1a, c12x1b, c12x1c, c12x1d⟩ := H1b.out.cell (g_c) (m) (by simp)
  have c12x1l := H1b.out.lt (g_c) (m) (by simp)
  have c12x1m := Nat.le_of_lt c12x1l
  go_wp2_with fail
  clear c0x1a c0x1b c0x1c c0x1d c0x1l c0x1m c6x1a c6x1b c6x1c c6x1d c6x1l c6x1m c12x1a c12x1b c12x1c c12x1d c12x1l c12x1m
  refine (env_of (B1.out.1 _) H1b.out).mono ?_
  rintro e w2 ⟨rfl, h⟩
  have H2 := hid h
  clear h H1b
  go_upto_region 3 with fail
  have H2b := hid (H2.out.new r1)
  clear H2
  generalize w2.alloc (.cells (cls r1) 24) = w2b at *
  generalize w2.heap.size = g9 at *
  obtain ⟨c0x2a, c0x2b, c0x2c, c0x2d⟩ := H2b.out.cell (g_a) (a) (by simp)
  have c0x2l := H2b.out.lt (g_a) (a) (by simp)
  have c0x2m := Nat.le_of_lt c0x2l
  obtain ⟨c6x2a, c6x2b, c6x2c, c6x2d⟩ := H2b.out.cell (g_b) (b) (by simp)
  have c6x2l := H2b.out.lt (g_b) (b) (by simp)
  have c6x2m := Nat.le_of_lt c6x2l
  obtain ⟨c12x2a, c12x2b, c12x2c, c12x2d⟩ := H2b.out.cell (g_c) (m) (by simp)
  have c12x2l := H2b.out.lt (g_c) (m) (by simp)
  have c12x2m := Nat.le_of_lt c12x2l
  go_wp2_with fail
  clear c0x2a c0x2b c0x2c c0x2d c0x2l c0x2m c6x2a c6x2b c6x2c c6x2d c6x2l c6x2m c12x2a c12x2b c12x2c c12x2d c12x2l c12x2m
  refine (env_of (B2.out.1 _) H2b.out).mono ?_
  rintro e w3 ⟨rfl, h⟩
  have H3 := hid h
  clear h H2b
  go_upto_region 4 with fail
  have H3b := hid (H3.out.new r2)
  clear H3
  generalize w3.alloc (.cells (cls r2) 24) = w3b at *
  generalize w3.heap.size = g11 at *
  obtain ⟨c0x3a, c0x3b, c0x3c, c0x3d⟩ := H3b.out.cell (g_a) (a) (by simp)
  have c0x3l := H3b.out.lt (g_a) (a) (by simp)
  have c0x3m := Nat.le_of_lt c0x3l
  obtain ⟨c6x3a, c6x3b, c6x3c, c6x3d⟩ := H3b.out.cell (g_b) (b) (by simp)
  have c6x3l := H3b.out.lt (g_b) (b) (by simp)
  have c6x3m := Nat.le_of_lt c6x3l
  obtain ⟨c12x3a, c12x3b, c12x3c, c12x3d⟩ := H3b.out.cell (g_c) (m) (by simp)
  have c12x3l := H3b.out.lt (g_c) (m) (by simp)
  have c12x3m := Nat.le_of_lt c12x3l
  go_wp2_with fail
  clear c0x3a c0x3b c0x3c c0x3d c0x3l c0x3m c6x3a c6x3b c6x3c c6x3d c6x3l c6x3m c12x3a c12x3b c12x3c c12x3d c12x3l c12x3m
  refine (env_of (B3.out.1 _) H3b.out).mono ?_
  rintro e w4 ⟨rfl, h⟩
  have H4 := hid h
  clear h H3b
  go_upto_region 5 with fail
  have H4b := hid (H4.out.new r3)
  clear H4
  generalize w4.alloc (.cells (cls r3) 24) = w4b at *
  generalize w4.heap.size = g13 at *
  obtain ⟨c0x4a, c0x4b, c0x4c, c0x4d⟩ := H4b.out.cell (g_a) (a) (by simp)
  have c0x4l := H4b.out.lt (g_a) (a) (by simp)
  have c0x4m := Nat.le_of_lt c0x4l
  obtain ⟨c6x4a, c6x4b, c6x4c, c6x4d⟩ := H4b.out.cell (g_c) (m) (by simp)
  have c6x4l := H4b.out.lt (g_c) (m) (by simp)
  have c6x4m := Nat.le_of_lt c6x4l
  go_wp2_with fail
  clear c0x4a c0x4b c0x4c c0x4d c0x4l c0x4m c6x4a c6x4b c6x4c c6x4d c6x4l c6x4m
  refine (env_of (B4.out.1 _) H4b.out).mono ?_
  rintro e w5 ⟨rfl, h⟩
  have H5 := hid h
  clear h H4b
  go_upto_region 6 with fail
  have H5b := hid (H5.out.new r4)
  clear H5
  generalize w5.alloc (.cells (cls r4) 24) = w5b at *
  generalize w5.heap.size = g15 at *
  obtain ⟨c0x5a, c0x5b, c0x5c, c0x5d⟩ := H5b.out.cell (g_a) (a) (by simp)
  have c0x5l := H5b.out.lt (g_a) (a) (by simp)
  have c0x5m := Nat.le_of_lt c0x5l
  obtain ⟨c6x5a, c6x5b, c6x5c, c6x5d⟩ := H5b.out.cell (g_b) (b) (by simp)
  have c6x5l := H5b.out.lt (g_b) (b) (by simp)
  have c6x5m := Nat.le_of_lt c6x5l
  obtain ⟨c12x5a, c12x5b, c12x5c, c12x5d⟩ := H5b.out.cell (g_c) (m) (by simp)
  have c12x5l := H5b.out.lt (g_c) (m) (by simp)
  have c12x5m := Nat.le_of_lt c12x5l
  go_wp2_with fail
  clear c0x5a c0x5b c0x5c c0x5d c0x5l c0x5m c6x5a c6x5b c6x5c c6x5d c6x5l c6x5m c12x5a c12x5b c12x5c c12x5d c12x5l c12x5m
  refine (env_of (B0.out.2 _) H5b.out).mono ?_
  rintro e w6 ⟨rfl, h⟩
  have H6 := hid h
  clear h H5b
  go_upto_region 7 with fail
  have H6b := hid (H6.out.new r0)
  clear H6
  generalize w6.alloc (.cells (cls r0) 24) = w6b at *
  generalize w6.heap.size = g17 at *
  obtain ⟨c0x6a, c0x6b, c0x6c, c0x6d⟩ := H6b.out.cell (g_a) (a) (by simp)
  have c0x6l := H6b.out.lt (g_a) (a) (by simp)
  have c0x6m := Nat.le_of_lt c0x6l
  obtain ⟨c6x6a, c6x6b, c6x6c, c6x6d⟩ := H6b.out.cell (g_b) (b) (by simp)
  have c6x6l := H6b.out.lt (g_b) (b) (by simp)
  have c6x6m := Nat.le_of_lt c6x6l
  obtain ⟨c12x6a, c12x6b, c12x6c, c12x6d⟩ := H6b.out.cell (g_c) (m) (by simp)
  have c12x6l := H6b.out.lt (g_c) (m) (by simp)
  have c12x6m := Nat.le_of_lt c12x6l
  go_wp2_with fail
  clear c0x6a c0x6b c0x6c c0x6d c0x6l c0x6m c6x6a c6x6b c6x6c c6x6d c6x6l c6x6m c12x6a c12x6b c12x6c c12x6d c12x6l c12x6m
  refine (env_of (B1.out.2 _) H6b.out).mono ?_
  rintro e w7 ⟨rfl, h⟩
  have H7 := hid h
  clear h H6b
  go_upto_region 8 with fail
  have H7b := hid (H7.out.new r1)
  clear H7
  generalize w7.alloc (.cells (cls r1) 24) = w7b at *
  generalize w7.heap.size = g19 at *
  obtain ⟨c0x7a, c0x7b, c0x7c, c0x7d⟩ := H7b.out.cell (g_a) (a) (by simp)
  have c0x7l := H7b.out.lt (g_a) (a) (by simp)
  have c0x7m := Nat.le_of_lt c0x7l
  obtain ⟨c6x7a, c6x7b, c6x7c, c6x7d⟩ := H7b.out.cell (g_b) (b) (by simp)
  have c6x7l := H7b.out.lt (g_b) (b) (by simp)
  have c6x7m := Nat.le_of_lt c6x7l
  obtain ⟨c12x7a, c12x7b, c12x7c, c12x7d⟩ := H7b.out.cell (g_c) (m) (by simp)
  have c12x7l := H7b.out.lt (g_c) (m) (by simp)
  have c12x7m := Nat.le_of_lt c12x7l
  go_wp2_with fail
  clear c0x7a c0x7b c0x7c c0x7d c0x7l c0x7m c6x7a c6x7b c6x7c c6x7d c6x7l c6x7m c12x7a c12x7b c12x7c c12x7d c12x7l c12x7m
  refine (env_of (B2.out.2 _) H7b.out).mono ?_
  rintro e w8 ⟨rfl, h⟩
  have H8 := hid h
  clear h H7b
  go_upto_region 9 with fail
  have H8b := hid (H8.out.new r2)
  clear H8
  generalize w8.alloc (.cells (cls r2) 24) = w8b at *
  generalize w8.heap.size = g21 at *
  obtain ⟨c0x8a, c0x8b, c0x8c, c0x8d⟩ := H8b.out.cell (g_a) (a) (by simp)
  have c0x8l := H8b.out.lt (g_a) (a) (by simp)
  have c0x8m := Nat.le_of_lt c0x8l
  obtain ⟨c6x8a, c6x8b, c6x8c, c6x8d⟩ := H8b.out.cell (g_b) (b) (by simp)
  have c6x8l := H8b.out.lt (g_b) (b) (by simp)
  have c6x8m := Nat.le_of_lt c6x8l
  obtain ⟨c12x8a, c12x8b, c12x8c, c12x8d⟩ := H8b.out.cell (g_c) (m) (by simp)
  have c12x8l := H8b.out.lt (g_c) (m) (by simp)
  have c12x8m := Nat.le_of_lt c12x8l
  go_wp2_with fail
  clear c0x8a c0x8b c0x8c c0x8d c0x8l c0x8m c6x8a c6x8b c6x8c c6x8d c6x8l c6x8m c12x8a c12x8b c12x8c c12x8d c12x8l c12x8m
  refine (env_of (B3.out.2 _) H8b.out).mono ?_
  rintro e w9 ⟨rfl, h⟩
  have H9 := hid h
  clear h H8b
  go_upto_region 10 with fail
  have H9b := hid (H9.out.new r3)
  clear H9
  generalize w9.alloc (.cells (cls r3) 24) = w9b at *
  generalize w9.heap.size = g23 at *
  obtain ⟨c0x9a, c0x9b, c0x9c, c0x9d⟩ := H9b.out.cell (g_a) (a) (by simp)
  have c0x9l := H9b.out.lt (g_a) (a) (by simp)
  have c0x9m := Nat.le_of_lt c0x9l
  obtain ⟨c6x9a, c6x9b, c6x9c, c6x9d⟩ := H9b.out.cell (g_c) (m) (by simp)
  have c6x9l := H9b.out.lt (g_c) (m) (by simp)
  have c6x9m := Nat.le_of_lt c6x9l
  go_wp2_with fail
  clear c0x9a c0x9b c0x9c c0x9d c0x9l c0x9m c6x9a c6x9b c6x9c c6x9d c6x9l c6x9m
  refine (env_of (B4.out.2 _) H9b.out).mono ?_
  rintro e w10 ⟨rfl, h⟩
  have H10 := hid h
  clear h H9b
  go_upto_region 11 with fail
  have H10b := hid (H10.out.new r4)
  clear H10
  generalize w10.alloc (.cells (cls r4) 24) = w10b at *
  generalize w10.heap.size = g25 at *
  obtain ⟨c0x10a, c0x10b, c0x10c, c0x10d⟩ := H10b.out.cell (g7) (r0) (by simp)
  have c0x10l := H10b.out.lt (g7) (r0) (by simp)
  have c0x10m := Nat.le_of_lt c0x10l
  obtain ⟨c6x10a, c6x10b, c6x10c, c6x10d⟩ := H10b.out.cell (g9) (r1) (by simp)
  have c6x10l := H10b.out.lt (g9) (r1) (by simp)
  have c6x10m := Nat.le_of_lt c6x10l
  obtain ⟨c12x10a, c12x10b, c12x10c, c12x10d⟩ := H10b.out.cell (g11) (r2) (by simp)
  have c12x10l := H10b.out.lt (g11) (r2) (by simp)
  have c12x10m := Nat.le_of_lt c12x10l
  obtain ⟨c18x10a, c18x10b, c18x10c, c18x10d⟩ := H10b.out.cell (g13) (r3) (by simp)
  have c18x10l := H10b.out.lt (g13) (r3) (by simp)
  have c18x10m := Nat.le_of_lt c18x10l
  obtain ⟨c24x10a, c24x10b, c24x10c, c24x10d⟩ := H10b.out.cell (g15) (r4) (by simp)
  have c24x10l := H10b.out.lt (g15) (r4) (by simp)
  have c24x10m := Nat.le_of_lt c24x10l
  obtain ⟨c30x10a, c30x10b, c30x10c, c30x10d⟩ := H10b.out.cell (g17) (r0) (by simp)
  have c30x10l := H10b.out.lt (g17) (r0) (by simp)
  have c30x10m := Nat.le_of_lt c30x10l
  obtain ⟨c36x10a, c36x10b, c36x10c, c36x10d⟩ := H10b.out.cell (g19) (r1) (by simp)
  have c36x10l := H10b.out.lt (g19) (r1) (by simp)
  have c36x10m := Nat.le_of_lt c36x10l
  obtain ⟨c42x10a, c42x10b, c42x10c, c42x10d⟩ := H10b.out.cell (g21) (r2) (by simp)
  have c42x10l := H10b.out.lt (g21) (r2) (by simp)
  have c42x10m := Nat.le_of_lt c42x10l
  obtain ⟨c48x10a, c48x10b, c48x10c, c48x10d⟩ := H10b.out.cell (g23) (r3) (by simp)
  have c48x10l := H10b.out.lt (g23) (r3) (by simp)
  have c48x10m := Nat.le_of_lt c48x10l
  obtain ⟨c54x10a, c54x10b, c54x10c, c54x10d⟩ := H10b.out.cell (g25) (r4) (by simp)
  have c54x10l := H10b.out.lt (g25) (r4) (by simp)
  have c54x10m := Nat.le_of_lt c54x10l
  go_wp2
  go_ret
  exact ⟨rfl, H10b.out.1⟩
end Go.Proofs.Ytaggegknnnembaa
