/-
  burrowlaw07.SigsKeys, walked: it answers true. Conditions: none.
-/
import Derived.Test.YtioebjbjpjbodaaSgP
namespace Go.Proofs.Ytioebjbjpjbodaa
open Go.RowKit
set_option linter.unusedVariables false
set_option linter.unusedSimpArgs false

set_option maxRecDepth 100000 in
set_option maxHeartbeats 4000000 in
theorem keys_na (p q g a b : Nat) (w : World) (hp : p < 2 ^ 256) (hq : q < 2 ^ 256) (hg : g < 2 ^ 256) (ha : a < 2 ^ 256) (hb : b < 2 ^ 256) (hv : ¬ Sec p q g a) : Calls Try.prog 3 #[gv p q g, num a, num b] w fun e w' => e = .returned (.bool true) ∧ Below w.heap.size w w' := by
  have VA := hid hv
  obtain ⟨rb, eb, KB⟩ := key_ex p q g b hp hq hg hb
  have KB := hid KB
  clear hv
  have PL := hid hp
  have QL := hid hq
  have GL := hid hg
  have ALL := hid ha
  have BLL := hid hb
  clear hp hq hg ha hb
  obtain ⟨hB0, hs0, f0, f1, f2⟩ := boxes3 w (gcs p q g) (cls a) (cls b) 26 24 24 _ rfl
  have HFIN : Hid (∀ u, Below (((w.alloc (.cells (gcs p q g) 26)).alloc (.cells (cls a) 24)).alloc (.cells (cls b) 24)).heap.size (((w.alloc (.cells (gcs p q g) 26)).alloc (.cells (cls a) 24)).alloc (.cells (cls b) 24)) u → Below w.heap.size w u) := hid (fun u hu => hB0.trans (hu.mono hB0.size))
  go_enter Try.func3, Try.ntmps3
  go_upto_region 1 with fail
  generalize ((w.alloc (.cells (gcs p q g) 26)).alloc (.cells (cls a) 24)).alloc (.cells (cls b) 24) = W0 at *
  have hb1 := Below.refl W0.heap.size W0
  have HB := hid hb1
  have HZ0 : Hid (W0.heap.size = w.heap.size + 1 + 1 + 1) := hid hs0
  have FG := hid ((ldG p q g 0 f0 (all_at _)).on hb1)
  have FGp := hid ((ldN p 0 f0 (four_at p _ 0 rfl rfl rfl rfl)).on hb1)
  have FGq := hid ((ldN q 4 f0 (four_at q _ 4 rfl rfl rfl rfl)).on hb1)
  have FGg := hid ((ldN g 8 f0 (four_at g _ 8 rfl rfl rfl rfl)).on hb1)
  have Fbp := hid ((on_blk f0).on hb1)
  have FNa := hid ((ldN a 0 f1 (all_at _)).on hb1)
  have Fba := hid ((on_blk f1).on hb1)
  have FNb := hid ((ldN b 0 f2 (all_at _)).on hb1)
  have Fbb := hid ((on_blk f2).on hb1)
  clear hB0 hs0 hb1 f0 f1 f2
  generalize w.heap.size + 1 + 1 = g_b at *
  generalize w.heap.size + 1 = g_a at *
  generalize hgp : w.heap.size = g_p at *
  have l1 := FG.out.here
  have l2 := FNa.out.here
  go_wp2_with (first | (refine wp_ldw (by rfl) _ _ rfl _ rfl _ (by first | exact l1 | exact l2) ?_))
  clear l1 l2
  refine (key_none p q g a _ PL.out QL.out GL.out ALL.out VA.out).mono ?_
  rintro e w1 ⟨rfl, hb⟩
  have HB := hid (HB.out.trans (hb.mono HB.out.size))
  have FG := hid (FG.out.on hb)
  have FGp := hid (FGp.out.on hb)
  have FGq := hid (FGq.out.on hb)
  have FGg := hid (FGg.out.on hb)
  have Fbp := hid (Fbp.out.on hb)
  have FNa := hid (FNa.out.on hb)
  have Fba := hid (Fba.out.on hb)
  have FNb := hid (FNb.out.on hb)
  have Fbb := hid (Fbb.out.on hb)
  clear hb
  go_upto_region 2 with fail
  have hb := (Below.refl w1.heap.size w1).alloc (Nat.le_refl _) (.cells (cls 0) 24)
  have hn := heap_alloc_new w1 (.cells (cls 0) 24)
  have HB := hid (HB.out.trans (hb.mono HB.out.size))
  have FG := hid (FG.out.on hb)
  have FGp := hid (FGp.out.on hb)
  have FGq := hid (FGq.out.on hb)
  have FGg := hid (FGg.out.on hb)
  have Fbp := hid (Fbp.out.on hb)
  have FNa := hid (FNa.out.on hb)
  have Fba := hid (Fba.out.on hb)
  have FNb := hid (FNb.out.on hb)
  have Fbb := hid (Fbb.out.on hb)
  have FN7 := hid (ldN 0 0 hn (all_at _))
  have FbN7 := hid (on_blk hn)
  clear hb hn
  generalize w1.alloc (.cells (cls 0) 24) = w2 at *
  generalize w1.heap.size = gN7 at *
  have l3 := FG.out.here
  have l4 := FNb.out.here
  go_wp2_with (first | (refine wp_ldw (by rfl) _ _ rfl _ rfl _ (by first | exact l3 | exact l4) ?_))
  clear l3 l4
  refine (KB.out _).mono ?_
  rintro e w3 ⟨rfl, hb⟩
  have HB := hid (HB.out.trans (hb.mono HB.out.size))
  have FG := hid (FG.out.on hb)
  have FGp := hid (FGp.out.on hb)
  have FGq := hid (FGq.out.on hb)
  have FGg := hid (FGg.out.on hb)
  have Fbp := hid (Fbp.out.on hb)
  have FNa := hid (FNa.out.on hb)
  have Fba := hid (Fba.out.on hb)
  have FNb := hid (FNb.out.on hb)
  have Fbb := hid (Fbb.out.on hb)
  have FN7 := hid (FN7.out.on hb)
  have FbN7 := hid (FbN7.out.on hb)
  clear hb
  go_upto_region 3 with fail
  have hb := (Below.refl w3.heap.size w3).alloc (Nat.le_refl _) (.cells (cls rb) 24)
  have hn := heap_alloc_new w3 (.cells (cls rb) 24)
  have HB := hid (HB.out.trans (hb.mono HB.out.size))
  have FG := hid (FG.out.on hb)
  have FGp := hid (FGp.out.on hb)
  have FGq := hid (FGq.out.on hb)
  have FGg := hid (FGg.out.on hb)
  have Fbp := hid (Fbp.out.on hb)
  have FNa := hid (FNa.out.on hb)
  have Fba := hid (Fba.out.on hb)
  have FNb := hid (FNb.out.on hb)
  have Fbb := hid (Fbb.out.on hb)
  have FN7 := hid (FN7.out.on hb)
  have FbN7 := hid (FbN7.out.on hb)
  have FN9 := hid (ldN rb 0 hn (all_at _))
  have FbN9 := hid (on_blk hn)
  clear hb hn
  generalize w3.alloc (.cells (cls rb) 24) = w4 at *
  generalize w3.heap.size = gN9 at *
  go_wp2_with fail
  refine (lives_any _).mono ?_
  rintro e w5 ⟨rfl, hb⟩
  have HB := hid (HB.out.trans (hb.mono HB.out.size))
  have FG := hid (FG.out.on hb)
  have FGp := hid (FGp.out.on hb)
  have FGq := hid (FGq.out.on hb)
  have FGg := hid (FGg.out.on hb)
  have Fbp := hid (Fbp.out.on hb)
  have FNa := hid (FNa.out.on hb)
  have Fba := hid (Fba.out.on hb)
  have FNb := hid (FNb.out.on hb)
  have Fbb := hid (Fbb.out.on hb)
  have FN7 := hid (FN7.out.on hb)
  have FbN7 := hid (FbN7.out.on hb)
  have FN9 := hid (FN9.out.on hb)
  have FbN9 := hid (FbN9.out.on hb)
  clear hb
  go_wp2_with fail
  try go_ret
  try rw [Exit.noGoto_ret]
  first | exact ⟨rfl, by first | exact HFIN.out _ HB.out | (rw [hgp]; exact HFIN.out _ HB.out)⟩ | exact bodyPost_ret (v := .bool (true)) (by simp [results, Try.results3, go_sem]) rfl ⟨rfl, by first | exact HFIN.out _ HB.out | (rw [hgp]; exact HFIN.out _ HB.out)⟩
set_option maxRecDepth 100000 in
set_option maxHeartbeats 4000000 in
theorem keys_nb (p q g a b : Nat) (w : World) (hp : p < 2 ^ 256) (hq : q < 2 ^ 256) (hg : g < 2 ^ 256) (ha : a < 2 ^ 256) (hb : b < 2 ^ 256) (hv : Sec p q g a ∧ ¬ Sec p q g b) : Calls Try.prog 3 #[gv p q g, num a, num b] w fun e w' => e = .returned (.bool true) ∧ Below w.heap.size w w' := by
  have VA := hid hv.1
  have VB := hid hv.2
  obtain ⟨x, ex⟩ : ∃ z, g ^ a % p = z := ⟨_, rfl⟩
  have EX := hid ex
  clear ex hv
  have PL := hid hp
  have QL := hid hq
  have GL := hid hg
  have ALL := hid ha
  have BLL := hid hb
  clear hp hq hg ha hb
  obtain ⟨hB0, hs0, f0, f1, f2⟩ := boxes3 w (gcs p q g) (cls a) (cls b) 26 24 24 _ rfl
  have HFIN : Hid (∀ u, Below (((w.alloc (.cells (gcs p q g) 26)).alloc (.cells (cls a) 24)).alloc (.cells (cls b) 24)).heap.size (((w.alloc (.cells (gcs p q g) 26)).alloc (.cells (cls a) 24)).alloc (.cells (cls b) 24)) u → Below w.heap.size w u) := hid (fun u hu => hB0.trans (hu.mono hB0.size))
  go_enter Try.func3, Try.ntmps3
  go_upto_region 1 with fail
  generalize ((w.alloc (.cells (gcs p q g) 26)).alloc (.cells (cls a) 24)).alloc (.cells (cls b) 24) = W0 at *
  have hb1 := Below.refl W0.heap.size W0
  have HB := hid hb1
  have HZ0 : Hid (W0.heap.size = w.heap.size + 1 + 1 + 1) := hid hs0
  have FG := hid ((ldG p q g 0 f0 (all_at _)).on hb1)
  have FGp := hid ((ldN p 0 f0 (four_at p _ 0 rfl rfl rfl rfl)).on hb1)
  have FGq := hid ((ldN q 4 f0 (four_at q _ 4 rfl rfl rfl rfl)).on hb1)
  have FGg := hid ((ldN g 8 f0 (four_at g _ 8 rfl rfl rfl rfl)).on hb1)
  have Fbp := hid ((on_blk f0).on hb1)
  have FNa := hid ((ldN a 0 f1 (all_at _)).on hb1)
  have Fba := hid ((on_blk f1).on hb1)
  have FNb := hid ((ldN b 0 f2 (all_at _)).on hb1)
  have Fbb := hid ((on_blk f2).on hb1)
  clear hB0 hs0 hb1 f0 f1 f2
  generalize w.heap.size + 1 + 1 = g_b at *
  generalize w.heap.size + 1 = g_a at *
  generalize hgp : w.heap.size = g_p at *
  have l1 := FG.out.here
  have l2 := FNa.out.here
  go_wp2_with (first | (refine wp_ldw (by rfl) _ _ rfl _ rfl _ (by first | exact l1 | exact l2) ?_))
  clear l1 l2
  refine (key_ok p q g a x _ PL.out QL.out GL.out ALL.out VA.out EX.out).mono ?_
  rintro e w1 ⟨rfl, hb⟩
  have HB := hid (HB.out.trans (hb.mono HB.out.size))
  have FG := hid (FG.out.on hb)
  have FGp := hid (FGp.out.on hb)
  have FGq := hid (FGq.out.on hb)
  have FGg := hid (FGg.out.on hb)
  have Fbp := hid (Fbp.out.on hb)
  have FNa := hid (FNa.out.on hb)
  have Fba := hid (Fba.out.on hb)
  have FNb := hid (FNb.out.on hb)
  have Fbb := hid (Fbb.out.on hb)
  clear hb
  go_upto_region 2 with fail
  have hb := (Below.refl w1.heap.size w1).alloc (Nat.le_refl _) (.cells (cls x) 24)
  have hn := heap_alloc_new w1 (.cells (cls x) 24)
  have HB := hid (HB.out.trans (hb.mono HB.out.size))
  have FG := hid (FG.out.on hb)
  have FGp := hid (FGp.out.on hb)
  have FGq := hid (FGq.out.on hb)
  have FGg := hid (FGg.out.on hb)
  have Fbp := hid (Fbp.out.on hb)
  have FNa := hid (FNa.out.on hb)
  have Fba := hid (Fba.out.on hb)
  have FNb := hid (FNb.out.on hb)
  have Fbb := hid (Fbb.out.on hb)
  have FN7 := hid (ldN x 0 hn (all_at _))
  have FbN7 := hid (on_blk hn)
  clear hb hn
  generalize w1.alloc (.cells (cls x) 24) = w2 at *
  generalize w1.heap.size = gN7 at *
  have l3 := FG.out.here
  have l4 := FNb.out.here
  go_wp2_with (first | (refine wp_ldw (by rfl) _ _ rfl _ rfl _ (by first | exact l3 | exact l4) ?_))
  clear l3 l4
  refine (key_none p q g b _ PL.out QL.out GL.out BLL.out VB.out).mono ?_
  rintro e w3 ⟨rfl, hb⟩
  have HB := hid (HB.out.trans (hb.mono HB.out.size))
  have FG := hid (FG.out.on hb)
  have FGp := hid (FGp.out.on hb)
  have FGq := hid (FGq.out.on hb)
  have FGg := hid (FGg.out.on hb)
  have Fbp := hid (Fbp.out.on hb)
  have FNa := hid (FNa.out.on hb)
  have Fba := hid (Fba.out.on hb)
  have FNb := hid (FNb.out.on hb)
  have Fbb := hid (Fbb.out.on hb)
  have FN7 := hid (FN7.out.on hb)
  have FbN7 := hid (FbN7.out.on hb)
  clear hb
  go_upto_region 3 with fail
  have hb := (Below.refl w3.heap.size w3).alloc (Nat.le_refl _) (.cells (cls 0) 24)
  have hn := heap_alloc_new w3 (.cells (cls 0) 24)
  have HB := hid (HB.out.trans (hb.mono HB.out.size))
  have FG := hid (FG.out.on hb)
  have FGp := hid (FGp.out.on hb)
  have FGq := hid (FGq.out.on hb)
  have FGg := hid (FGg.out.on hb)
  have Fbp := hid (Fbp.out.on hb)
  have FNa := hid (FNa.out.on hb)
  have Fba := hid (Fba.out.on hb)
  have FNb := hid (FNb.out.on hb)
  have Fbb := hid (Fbb.out.on hb)
  have FN7 := hid (FN7.out.on hb)
  have FbN7 := hid (FbN7.out.on hb)
  have FN9 := hid (ldN 0 0 hn (all_at _))
  have FbN9 := hid (on_blk hn)
  clear hb hn
  generalize w3.alloc (.cells (cls 0) 24) = w4 at *
  generalize w3.heap.size = gN9 at *
  go_wp2_with fail
  refine (lives_any _).mono ?_
  rintro e w5 ⟨rfl, hb⟩
  have HB := hid (HB.out.trans (hb.mono HB.out.size))
  have FG := hid (FG.out.on hb)
  have FGp := hid (FGp.out.on hb)
  have FGq := hid (FGq.out.on hb)
  have FGg := hid (FGg.out.on hb)
  have Fbp := hid (Fbp.out.on hb)
  have FNa := hid (FNa.out.on hb)
  have Fba := hid (Fba.out.on hb)
  have FNb := hid (FNb.out.on hb)
  have Fbb := hid (Fbb.out.on hb)
  have FN7 := hid (FN7.out.on hb)
  have FbN7 := hid (FbN7.out.on hb)
  have FN9 := hid (FN9.out.on hb)
  have FbN9 := hid (FbN9.out.on hb)
  clear hb
  go_wp2_with fail
  try go_ret
  try rw [Exit.noGoto_ret]
  first | exact ⟨rfl, by first | exact HFIN.out _ HB.out | (rw [hgp]; exact HFIN.out _ HB.out)⟩ | exact bodyPost_ret (v := .bool (true)) (by simp [results, Try.results3, go_sem]) rfl ⟨rfl, by first | exact HFIN.out _ HB.out | (rw [hgp]; exact HFIN.out _ HB.out)⟩
set_option maxRecDepth 100000 in
set_option maxHeartbeats 4000000 in
theorem keys_over (p q g a b : Nat) (w : World) (hp : p < 2 ^ 256) (hq : q < 2 ^ 256) (hg : g < 2 ^ 256) (ha : a < 2 ^ 256) (hb : b < 2 ^ 256) (hv : Sec p q g a ∧ Sec p q g b) (hsum : ¬ a + b < 2 ^ 256) : Calls Try.prog 3 #[gv p q g, num a, num b] w fun e w' => e = .returned (.bool true) ∧ Below w.heap.size w w' := by
  have VA := hid hv.1
  have VB := hid hv.2
  have va := hv.1.2.2.2.2.1
  have hgq := hv.1.2.2.2.2.2
  have hq0 : q ≠ 0 := by have := hv.1.2.2.1; omega
  have hp1 : 1 < p := by omega
  obtain ⟨x, ex⟩ : ∃ z, g ^ a % p = z := ⟨_, rfl⟩
  obtain ⟨y, ey⟩ : ∃ z, g ^ b % p = z := ⟨_, rfl⟩
  obtain ⟨s, es⟩ : ∃ z, (a + b) % 2 ^ 256 = z := ⟨_, rfl⟩
  obtain ⟨o, eo⟩ : ∃ z : Int, (((a + b) / 2 ^ 256 : Nat) : Int) = z := ⟨_, rfl⟩
  have ls : s < 2 ^ 256 := es ▸ Nat.mod_lt _ (by decide)
  have ho : o = 1 := by omega
  subst ho
  have EX := hid ex
  have EY := hid ey
  have ES := hid es
  have EO := hid eo
  have SL := hid ls
  clear ex ey es eo ls hv va hgq hq0 hp1 hsum
  have PL := hid hp
  have QL := hid hq
  have GL := hid hg
  have ALL := hid ha
  have BLL := hid hb
  clear hp hq hg ha hb
  obtain ⟨hB0, hs0, f0, f1, f2⟩ := boxes3 w (gcs p q g) (cls a) (cls b) 26 24 24 _ rfl
  have HFIN : Hid (∀ u, Below (((w.alloc (.cells (gcs p q g) 26)).alloc (.cells (cls a) 24)).alloc (.cells (cls b) 24)).heap.size (((w.alloc (.cells (gcs p q g) 26)).alloc (.cells (cls a) 24)).alloc (.cells (cls b) 24)) u → Below w.heap.size w u) := hid (fun u hu => hB0.trans (hu.mono hB0.size))
  go_enter Try.func3, Try.ntmps3
  go_upto_region 1 with fail
  generalize ((w.alloc (.cells (gcs p q g) 26)).alloc (.cells (cls a) 24)).alloc (.cells (cls b) 24) = W0 at *
  have hb1 := Below.refl W0.heap.size W0
  have HB := hid hb1
  have HZ0 : Hid (W0.heap.size = w.heap.size + 1 + 1 + 1) := hid hs0
  have FG := hid ((ldG p q g 0 f0 (all_at _)).on hb1)
  have FGp := hid ((ldN p 0 f0 (four_at p _ 0 rfl rfl rfl rfl)).on hb1)
  have FGq := hid ((ldN q 4 f0 (four_at q _ 4 rfl rfl rfl rfl)).on hb1)
  have FGg := hid ((ldN g 8 f0 (four_at g _ 8 rfl rfl rfl rfl)).on hb1)
  have Fbp := hid ((on_blk f0).on hb1)
  have FNa := hid ((ldN a 0 f1 (all_at _)).on hb1)
  have Fba := hid ((on_blk f1).on hb1)
  have FNb := hid ((ldN b 0 f2 (all_at _)).on hb1)
  have Fbb := hid ((on_blk f2).on hb1)
  clear hB0 hs0 hb1 f0 f1 f2
  generalize w.heap.size + 1 + 1 = g_b at *
  generalize w.heap.size + 1 = g_a at *
  generalize hgp : w.heap.size = g_p at *
  have l1 := FG.out.here
  have l2 := FNa.out.here
  go_wp2_with (first | (refine wp_ldw (by rfl) _ _ rfl _ rfl _ (by first | exact l1 | exact l2) ?_))
  clear l1 l2
  refine (key_ok p q g a x _ PL.out QL.out GL.out ALL.out VA.out EX.out).mono ?_
  rintro e w1 ⟨rfl, hb⟩
  have HB := hid (HB.out.trans (hb.mono HB.out.size))
  have FG := hid (FG.out.on hb)
  have FGp := hid (FGp.out.on hb)
  have FGq := hid (FGq.out.on hb)
  have FGg := hid (FGg.out.on hb)
  have Fbp := hid (Fbp.out.on hb)
  have FNa := hid (FNa.out.on hb)
  have Fba := hid (Fba.out.on hb)
  have FNb := hid (FNb.out.on hb)
  have Fbb := hid (Fbb.out.on hb)
  clear hb
  go_upto_region 2 with fail
  have hb := (Below.refl w1.heap.size w1).alloc (Nat.le_refl _) (.cells (cls x) 24)
  have hn := heap_alloc_new w1 (.cells (cls x) 24)
  have HB := hid (HB.out.trans (hb.mono HB.out.size))
  have FG := hid (FG.out.on hb)
  have FGp := hid (FGp.out.on hb)
  have FGq := hid (FGq.out.on hb)
  have FGg := hid (FGg.out.on hb)
  have Fbp := hid (Fbp.out.on hb)
  have FNa := hid (FNa.out.on hb)
  have Fba := hid (Fba.out.on hb)
  have FNb := hid (FNb.out.on hb)
  have Fbb := hid (Fbb.out.on hb)
  have FN7 := hid (ldN x 0 hn (all_at _))
  have FbN7 := hid (on_blk hn)
  clear hb hn
  generalize w1.alloc (.cells (cls x) 24) = w2 at *
  generalize w1.heap.size = gN7 at *
  have l3 := FG.out.here
  have l4 := FNb.out.here
  go_wp2_with (first | (refine wp_ldw (by rfl) _ _ rfl _ rfl _ (by first | exact l3 | exact l4) ?_))
  clear l3 l4
  refine (key_ok p q g b y _ PL.out QL.out GL.out BLL.out VB.out EY.out).mono ?_
  rintro e w3 ⟨rfl, hb⟩
  have HB := hid (HB.out.trans (hb.mono HB.out.size))
  have FG := hid (FG.out.on hb)
  have FGp := hid (FGp.out.on hb)
  have FGq := hid (FGq.out.on hb)
  have FGg := hid (FGg.out.on hb)
  have Fbp := hid (Fbp.out.on hb)
  have FNa := hid (FNa.out.on hb)
  have Fba := hid (Fba.out.on hb)
  have FNb := hid (FNb.out.on hb)
  have Fbb := hid (Fbb.out.on hb)
  have FN7 := hid (FN7.out.on hb)
  have FbN7 := hid (FbN7.out.on hb)
  clear hb
  go_upto_region 3 with fail
  have hb := (Below.refl w3.heap.size w3).alloc (Nat.le_refl _) (.cells (cls y) 24)
  have hn := heap_alloc_new w3 (.cells (cls y) 24)
  have HB := hid (HB.out.trans (hb.mono HB.out.size))
  have FG := hid (FG.out.on hb)
  have FGp := hid (FGp.out.on hb)
  have FGq := hid (FGq.out.on hb)
  have FGg := hid (FGg.out.on hb)
  have Fbp := hid (Fbp.out.on hb)
  have FNa := hid (FNa.out.on hb)
  have Fba := hid (Fba.out.on hb)
  have FNb := hid (FNb.out.on hb)
  have Fbb := hid (Fbb.out.on hb)
  have FN7 := hid (FN7.out.on hb)
  have FbN7 := hid (FbN7.out.on hb)
  have FN9 := hid (ldN y 0 hn (all_at _))
  have FbN9 := hid (on_blk hn)
  clear hb hn
  generalize w3.alloc (.cells (cls y) 24) = w4 at *
  generalize w3.heap.size = gN9 at *
  have l5 := FNa.out.here
  have l6 := FNb.out.here
  go_wp2_with (first | (refine wp_ldw (by rfl) _ _ rfl _ rfl _ (by first | exact l5 | exact l6) ?_))
  clear l5 l6
  refine (add_at a b s 1 (Env.refl _) ALL.out BLL.out ES.out EO.out).mono ?_
  rintro e w5 ⟨rfl, hb⟩
  have hb := hb.1
  have HB := hid (HB.out.trans (hb.mono HB.out.size))
  have FG := hid (FG.out.on hb)
  have FGp := hid (FGp.out.on hb)
  have FGq := hid (FGq.out.on hb)
  have FGg := hid (FGg.out.on hb)
  have Fbp := hid (Fbp.out.on hb)
  have FNa := hid (FNa.out.on hb)
  have Fba := hid (Fba.out.on hb)
  have FNb := hid (FNb.out.on hb)
  have Fbb := hid (Fbb.out.on hb)
  have FN7 := hid (FN7.out.on hb)
  have FbN7 := hid (FbN7.out.on hb)
  have FN9 := hid (FN9.out.on hb)
  have FbN9 := hid (FbN9.out.on hb)
  clear hb
  go_upto_region 6 with fail
  have hb := (Below.refl w5.heap.size w5).alloc (Nat.le_refl _) (.cells (cls s) 24)
  have hn := heap_alloc_new w5 (.cells (cls s) 24)
  have HB := hid (HB.out.trans (hb.mono HB.out.size))
  have FG := hid (FG.out.on hb)
  have FGp := hid (FGp.out.on hb)
  have FGq := hid (FGq.out.on hb)
  have FGg := hid (FGg.out.on hb)
  have Fbp := hid (Fbp.out.on hb)
  have FNa := hid (FNa.out.on hb)
  have Fba := hid (Fba.out.on hb)
  have FNb := hid (FNb.out.on hb)
  have Fbb := hid (Fbb.out.on hb)
  have FN7 := hid (FN7.out.on hb)
  have FbN7 := hid (FbN7.out.on hb)
  have FN9 := hid (FN9.out.on hb)
  have FbN9 := hid (FbN9.out.on hb)
  have FN11 := hid (ldN s 0 hn (all_at _))
  have FbN11 := hid (on_blk hn)
  clear hb hn
  generalize w5.alloc (.cells (cls s) 24) = w6 at *
  generalize w5.heap.size = gN11 at *
  go_wp2_with fail
  refine (lives_any _).mono ?_
  rintro e w7 ⟨rfl, hb⟩
  have HB := hid (HB.out.trans (hb.mono HB.out.size))
  have FG := hid (FG.out.on hb)
  have FGp := hid (FGp.out.on hb)
  have FGq := hid (FGq.out.on hb)
  have FGg := hid (FGg.out.on hb)
  have Fbp := hid (Fbp.out.on hb)
  have FNa := hid (FNa.out.on hb)
  have Fba := hid (Fba.out.on hb)
  have FNb := hid (FNb.out.on hb)
  have Fbb := hid (Fbb.out.on hb)
  have FN7 := hid (FN7.out.on hb)
  have FbN7 := hid (FbN7.out.on hb)
  have FN9 := hid (FN9.out.on hb)
  have FbN9 := hid (FbN9.out.on hb)
  have FN11 := hid (FN11.out.on hb)
  have FbN11 := hid (FbN11.out.on hb)
  clear hb
  go_wp2_with fail
  try go_ret
  try rw [Exit.noGoto_ret]
  first | exact ⟨rfl, by first | exact HFIN.out _ HB.out | (rw [hgp]; exact HFIN.out _ HB.out)⟩ | exact bodyPost_ret (v := .bool (true)) (by simp [results, Try.results3, go_sem]) rfl ⟨rfl, by first | exact HFIN.out _ HB.out | (rw [hgp]; exact HFIN.out _ HB.out)⟩
set_option maxRecDepth 100000 in
set_option maxHeartbeats 4000000 in
theorem keys_above (p q g a b : Nat) (w : World) (hp : p < 2 ^ 256) (hq : q < 2 ^ 256) (hg : g < 2 ^ 256) (ha : a < 2 ^ 256) (hb : b < 2 ^ 256) (hv : Sec p q g a ∧ Sec p q g b) (hsum : a + b < 2 ^ 256 ∧ q < a + b) : Calls Try.prog 3 #[gv p q g, num a, num b] w fun e w' => e = .returned (.bool true) ∧ Below w.heap.size w w' := by
  have VA := hid hv.1
  have VB := hid hv.2
  have va := hv.1.2.2.2.2.1
  have hgq := hv.1.2.2.2.2.2
  have hq0 : q ≠ 0 := by have := hv.1.2.2.1; omega
  have hp1 : 1 < p := by omega
  obtain ⟨x, ex⟩ : ∃ z, g ^ a % p = z := ⟨_, rfl⟩
  obtain ⟨y, ey⟩ : ∃ z, g ^ b % p = z := ⟨_, rfl⟩
  obtain ⟨s, es⟩ : ∃ z, (a + b) % 2 ^ 256 = z := ⟨_, rfl⟩
  obtain ⟨o, eo⟩ : ∃ z : Int, (((a + b) / 2 ^ 256 : Nat) : Int) = z := ⟨_, rfl⟩
  have ls : s < 2 ^ 256 := es ▸ Nat.mod_lt _ (by decide)
  have ho : o = 0 := by omega
  subst ho
  have hs : s = a + b := by omega
  obtain ⟨c, ec⟩ : ∃ c, cmpN s q = c := ⟨_, rfl⟩
  have hc : c > 0 := by rw [← ec]; unfold cmpN; split <;> (try split) <;> omega
  have c2 : 0 < c := hc
  have cb : decide (0 < c) = true := decide_eq_true hc
  have EC := hid ec
  clear ec hs hc
  have EX := hid ex
  have EY := hid ey
  have ES := hid es
  have EO := hid eo
  have SL := hid ls
  clear ex ey es eo ls hv va hgq hq0 hp1 hsum
  have PL := hid hp
  have QL := hid hq
  have GL := hid hg
  have ALL := hid ha
  have BLL := hid hb
  clear hp hq hg ha hb
  obtain ⟨hB0, hs0, f0, f1, f2⟩ := boxes3 w (gcs p q g) (cls a) (cls b) 26 24 24 _ rfl
  have HFIN : Hid (∀ u, Below (((w.alloc (.cells (gcs p q g) 26)).alloc (.cells (cls a) 24)).alloc (.cells (cls b) 24)).heap.size (((w.alloc (.cells (gcs p q g) 26)).alloc (.cells (cls a) 24)).alloc (.cells (cls b) 24)) u → Below w.heap.size w u) := hid (fun u hu => hB0.trans (hu.mono hB0.size))
  go_enter Try.func3, Try.ntmps3
  go_upto_region 1 with fail
  generalize ((w.alloc (.cells (gcs p q g) 26)).alloc (.cells (cls a) 24)).alloc (.cells (cls b) 24) = W0 at *
  have hb1 := Below.refl W0.heap.size W0
  have HB := hid hb1
  have HZ0 : Hid (W0.heap.size = w.heap.size + 1 + 1 + 1) := hid hs0
  have FG := hid ((ldG p q g 0 f0 (all_at _)).on hb1)
  have FGp := hid ((ldN p 0 f0 (four_at p _ 0 rfl rfl rfl rfl)).on hb1)
  have FGq := hid ((ldN q 4 f0 (four_at q _ 4 rfl rfl rfl rfl)).on hb1)
  have FGg := hid ((ldN g 8 f0 (four_at g _ 8 rfl rfl rfl rfl)).on hb1)
  have Fbp := hid ((on_blk f0).on hb1)
  have FNa := hid ((ldN a 0 f1 (all_at _)).on hb1)
  have Fba := hid ((on_blk f1).on hb1)
  have FNb := hid ((ldN b 0 f2 (all_at _)).on hb1)
  have Fbb := hid ((on_blk f2).on hb1)
  clear hB0 hs0 hb1 f0 f1 f2
  generalize w.heap.size + 1 + 1 = g_b at *
  generalize w.heap.size + 1 = g_a at *
  generalize hgp : w.heap.size = g_p at *
  have l1 := FG.out.here
  have l2 := FNa.out.here
  go_wp2_with (first | (refine wp_ldw (by rfl) _ _ rfl _ rfl _ (by first | exact l1 | exact l2) ?_))
  clear l1 l2
  refine (key_ok p q g a x _ PL.out QL.out GL.out ALL.out VA.out EX.out).mono ?_
  rintro e w1 ⟨rfl, hb⟩
  have HB := hid (HB.out.trans (hb.mono HB.out.size))
  have FG := hid (FG.out.on hb)
  have FGp := hid (FGp.out.on hb)
  have FGq := hid (FGq.out.on hb)
  have FGg := hid (FGg.out.on hb)
  have Fbp := hid (Fbp.out.on hb)
  have FNa := hid (FNa.out.on hb)
  have Fba := hid (Fba.out.on hb)
  have FNb := hid (FNb.out.on hb)
  have Fbb := hid (Fbb.out.on hb)
  clear hb
  go_upto_region 2 with fail
  have hb := (Below.refl w1.heap.size w1).alloc (Nat.le_refl _) (.cells (cls x) 24)
  have hn := heap_alloc_new w1 (.cells (cls x) 24)
  have HB := hid (HB.out.trans (hb.mono HB.out.size))
  have FG := hid (FG.out.on hb)
  have FGp := hid (FGp.out.on hb)
  have FGq := hid (FGq.out.on hb)
  have FGg := hid (FGg.out.on hb)
  have Fbp := hid (Fbp.out.on hb)
  have FNa := hid (FNa.out.on hb)
  have Fba := hid (Fba.out.on hb)
  have FNb := hid (FNb.out.on hb)
  have Fbb := hid (Fbb.out.on hb)
  have FN7 := hid (ldN x 0 hn (all_at _))
  have FbN7 := hid (on_blk hn)
  clear hb hn
  generalize w1.alloc (.cells (cls x) 24) = w2 at *
  generalize w1.heap.size = gN7 at *
  have l3 := FG.out.here
  have l4 := FNb.out.here
  go_wp2_with (first | (refine wp_ldw (by rfl) _ _ rfl _ rfl _ (by first | exact l3 | exact l4) ?_))
  clear l3 l4
  refine (key_ok p q g b y _ PL.out QL.out GL.out BLL.out VB.out EY.out).mono ?_
  rintro e w3 ⟨rfl, hb⟩
  have HB := hid (HB.out.trans (hb.mono HB.out.size))
  have FG := hid (FG.out.on hb)
  have FGp := hid (FGp.out.on hb)
  have FGq := hid (FGq.out.on hb)
  have FGg := hid (FGg.out.on hb)
  have Fbp := hid (Fbp.out.on hb)
  have FNa := hid (FNa.out.on hb)
  have Fba := hid (Fba.out.on hb)
  have FNb := hid (FNb.out.on hb)
  have Fbb := hid (Fbb.out.on hb)
  have FN7 := hid (FN7.out.on hb)
  have FbN7 := hid (FbN7.out.on hb)
  clear hb
  go_upto_region 3 with fail
  have hb := (Below.refl w3.heap.size w3).alloc (Nat.le_refl _) (.cells (cls y) 24)
  have hn := heap_alloc_new w3 (.cells (cls y) 24)
  have HB := hid (HB.out.trans (hb.mono HB.out.size))
  have FG := hid (FG.out.on hb)
  have FGp := hid (FGp.out.on hb)
  have FGq := hid (FGq.out.on hb)
  have FGg := hid (FGg.out.on hb)
  have Fbp := hid (Fbp.out.on hb)
  have FNa := hid (FNa.out.on hb)
  have Fba := hid (Fba.out.on hb)
  have FNb := hid (FNb.out.on hb)
  have Fbb := hid (Fbb.out.on hb)
  have FN7 := hid (FN7.out.on hb)
  have FbN7 := hid (FbN7.out.on hb)
  have FN9 := hid (ldN y 0 hn (all_at _))
  have FbN9 := hid (on_blk hn)
  clear hb hn
  generalize w3.alloc (.cells (cls y) 24) = w4 at *
  generalize w3.heap.size = gN9 at *
  have l5 := FNa.out.here
  have l6 := FNb.out.here
  go_wp2_with (first | (refine wp_ldw (by rfl) _ _ rfl _ rfl _ (by first | exact l5 | exact l6) ?_))
  clear l5 l6
  refine (add_at a b s 0 (Env.refl _) ALL.out BLL.out ES.out EO.out).mono ?_
  rintro e w5 ⟨rfl, hb⟩
  have hb := hb.1
  have HB := hid (HB.out.trans (hb.mono HB.out.size))
  have FG := hid (FG.out.on hb)
  have FGp := hid (FGp.out.on hb)
  have FGq := hid (FGq.out.on hb)
  have FGg := hid (FGg.out.on hb)
  have Fbp := hid (Fbp.out.on hb)
  have FNa := hid (FNa.out.on hb)
  have Fba := hid (Fba.out.on hb)
  have FNb := hid (FNb.out.on hb)
  have Fbb := hid (Fbb.out.on hb)
  have FN7 := hid (FN7.out.on hb)
  have FbN7 := hid (FbN7.out.on hb)
  have FN9 := hid (FN9.out.on hb)
  have FbN9 := hid (FbN9.out.on hb)
  clear hb
  go_upto_region 6 with fail
  have hb := (Below.refl w5.heap.size w5).alloc (Nat.le_refl _) (.cells (cls s) 24)
  have hn := heap_alloc_new w5 (.cells (cls s) 24)
  have HB := hid (HB.out.trans (hb.mono HB.out.size))
  have FG := hid (FG.out.on hb)
  have FGp := hid (FGp.out.on hb)
  have FGq := hid (FGq.out.on hb)
  have FGg := hid (FGg.out.on hb)
  have Fbp := hid (Fbp.out.on hb)
  have FNa := hid (FNa.out.on hb)
  have Fba := hid (Fba.out.on hb)
  have FNb := hid (FNb.out.on hb)
  have Fbb := hid (Fbb.out.on hb)
  have FN7 := hid (FN7.out.on hb)
  have FbN7 := hid (FbN7.out.on hb)
  have FN9 := hid (FN9.out.on hb)
  have FbN9 := hid (FbN9.out.on hb)
  have FN11 := hid (ldN s 0 hn (all_at _))
  have FbN11 := hid (on_blk hn)
  clear hb hn
  generalize w5.alloc (.cells (cls s) 24) = w6 at *
  generalize w5.heap.size = gN11 at *
  have l7 := FN11.out.here
  have l8 := FGq.out.here
  go_wp2_with (first | (refine wp_ldw (by rfl) _ _ rfl _ rfl _ (by first | exact l7 | exact l8) ?_))
  clear l7 l8
  refine (cmp_at s q c (Env.refl _) SL.out QL.out EC.out).mono ?_
  rintro e w7 ⟨rfl, hb⟩
  have hb := hb.1
  have HB := hid (HB.out.trans (hb.mono HB.out.size))
  have FG := hid (FG.out.on hb)
  have FGp := hid (FGp.out.on hb)
  have FGq := hid (FGq.out.on hb)
  have FGg := hid (FGg.out.on hb)
  have Fbp := hid (Fbp.out.on hb)
  have FNa := hid (FNa.out.on hb)
  have Fba := hid (Fba.out.on hb)
  have FNb := hid (FNb.out.on hb)
  have Fbb := hid (Fbb.out.on hb)
  have FN7 := hid (FN7.out.on hb)
  have FbN7 := hid (FbN7.out.on hb)
  have FN9 := hid (FN9.out.on hb)
  have FbN9 := hid (FbN9.out.on hb)
  have FN11 := hid (FN11.out.on hb)
  have FbN11 := hid (FbN11.out.on hb)
  clear hb
  go_wp2_with fail
  refine (lives_any _).mono ?_
  rintro e w8 ⟨rfl, hb⟩
  have HB := hid (HB.out.trans (hb.mono HB.out.size))
  have FG := hid (FG.out.on hb)
  have FGp := hid (FGp.out.on hb)
  have FGq := hid (FGq.out.on hb)
  have FGg := hid (FGg.out.on hb)
  have Fbp := hid (Fbp.out.on hb)
  have FNa := hid (FNa.out.on hb)
  have Fba := hid (Fba.out.on hb)
  have FNb := hid (FNb.out.on hb)
  have Fbb := hid (Fbb.out.on hb)
  have FN7 := hid (FN7.out.on hb)
  have FbN7 := hid (FbN7.out.on hb)
  have FN9 := hid (FN9.out.on hb)
  have FbN9 := hid (FbN9.out.on hb)
  have FN11 := hid (FN11.out.on hb)
  have FbN11 := hid (FbN11.out.on hb)
  clear hb
  go_wp2_with fail
  try go_ret
  try rw [Exit.noGoto_ret]
  first | exact ⟨rfl, by first | exact HFIN.out _ HB.out | (rw [hgp]; exact HFIN.out _ HB.out)⟩ | exact bodyPost_ret (v := .bool (true)) (by simp [results, Try.results3, go_sem]) rfl ⟨rfl, by first | exact HFIN.out _ HB.out | (rw [hgp]; exact HFIN.out _ HB.out)⟩
set_option maxRecDepth 100000 in
set_option maxHeartbeats 4000000 in
theorem keys_ok (p q g a b : Nat) (w : World) (hp : p < 2 ^ 256) (hq : q < 2 ^ 256) (hg : g < 2 ^ 256) (ha : a < 2 ^ 256) (hb : b < 2 ^ 256) (hv : Sec p q g a ∧ Sec p q g b) (hsum : a + b < 2 ^ 256 ∧ ¬ q < a + b) : Calls Try.prog 3 #[gv p q g, num a, num b] w fun e w' => e = .returned (.bool true) ∧ Below w.heap.size w w' := by
  have VA := hid hv.1
  have VB := hid hv.2
  have va := hv.1.2.2.2.2.1
  have hgq := hv.1.2.2.2.2.2
  have hq0 : q ≠ 0 := by have := hv.1.2.2.1; omega
  have hp1 : 1 < p := by omega
  obtain ⟨x, ex⟩ : ∃ z, g ^ a % p = z := ⟨_, rfl⟩
  obtain ⟨y, ey⟩ : ∃ z, g ^ b % p = z := ⟨_, rfl⟩
  obtain ⟨s, es⟩ : ∃ z, (a + b) % 2 ^ 256 = z := ⟨_, rfl⟩
  obtain ⟨o, eo⟩ : ∃ z : Int, (((a + b) / 2 ^ 256 : Nat) : Int) = z := ⟨_, rfl⟩
  have ls : s < 2 ^ 256 := es ▸ Nat.mod_lt _ (by decide)
  have ho : o = 0 := by omega
  subst ho
  have hs : s = a + b := by omega
  obtain ⟨c, ec⟩ : ∃ c, cmpN s q = c := ⟨_, rfl⟩
  have hc : ¬ c > 0 := by rw [← ec]; unfold cmpN; split <;> (try split) <;> omega
  have c2 : ¬ 0 < c := hc
  have c3 : c ≤ 0 := by omega
  have cb : decide (0 < c) = false := decide_eq_false hc
  have EC := hid ec
  have vx : 0 < x ∧ x < p := ex ▸ grp_pos hp1 hq0 (grp_pow (n := a) hp1 hgq) (Nat.mod_lt _ (by omega))
  have vy : 0 < y ∧ y < p := ey ▸ grp_pos hp1 hq0 (grp_pow (n := b) hp1 hgq) (Nat.mod_lt _ (by omega))
  obtain ⟨r, er⟩ : ∃ z, x * y % p = z := ⟨_, rfl⟩
  have er2 : g ^ s % p = r := by rw [← er, ← ex, ← ey, hs]; exact grp_add.symm
  have q1 := eq_yes r r rfl
  have VX := hid vx
  have VY := hid vy
  have ER := hid er
  have ER2 := hid er2
  have VG := hid va
  clear vx vy er er2
  clear ec hs hc
  have EX := hid ex
  have EY := hid ey
  have ES := hid es
  have EO := hid eo
  have SL := hid ls
  clear ex ey es eo ls hv va hgq hq0 hp1 hsum
  have PL := hid hp
  have QL := hid hq
  have GL := hid hg
  have ALL := hid ha
  have BLL := hid hb
  clear hp hq hg ha hb
  obtain ⟨hB0, hs0, f0, f1, f2⟩ := boxes3 w (gcs p q g) (cls a) (cls b) 26 24 24 _ rfl
  have HFIN : Hid (∀ u, Below (((w.alloc (.cells (gcs p q g) 26)).alloc (.cells (cls a) 24)).alloc (.cells (cls b) 24)).heap.size (((w.alloc (.cells (gcs p q g) 26)).alloc (.cells (cls a) 24)).alloc (.cells (cls b) 24)) u → Below w.heap.size w u) := hid (fun u hu => hB0.trans (hu.mono hB0.size))
  go_enter Try.func3, Try.ntmps3
  go_upto_region 1 with fail
  generalize ((w.alloc (.cells (gcs p q g) 26)).alloc (.cells (cls a) 24)).alloc (.cells (cls b) 24) = W0 at *
  have hb1 := Below.refl W0.heap.size W0
  have HB := hid hb1
  have HZ0 : Hid (W0.heap.size = w.heap.size + 1 + 1 + 1) := hid hs0
  have FG := hid ((ldG p q g 0 f0 (all_at _)).on hb1)
  have FGp := hid ((ldN p 0 f0 (four_at p _ 0 rfl rfl rfl rfl)).on hb1)
  have FGq := hid ((ldN q 4 f0 (four_at q _ 4 rfl rfl rfl rfl)).on hb1)
  have FGg := hid ((ldN g 8 f0 (four_at g _ 8 rfl rfl rfl rfl)).on hb1)
  have Fbp := hid ((on_blk f0).on hb1)
  have FNa := hid ((ldN a 0 f1 (all_at _)).on hb1)
  have Fba := hid ((on_blk f1).on hb1)
  have FNb := hid ((ldN b 0 f2 (all_at _)).on hb1)
  have Fbb := hid ((on_blk f2).on hb1)
  clear hB0 hs0 hb1 f0 f1 f2
  generalize w.heap.size + 1 + 1 = g_b at *
  generalize w.heap.size + 1 = g_a at *
  generalize hgp : w.heap.size = g_p at *
  have l1 := FG.out.here
  have l2 := FNa.out.here
  go_wp2_with (first | (refine wp_ldw (by rfl) _ _ rfl _ rfl _ (by first | exact l1 | exact l2) ?_))
  clear l1 l2
  refine (key_ok p q g a x _ PL.out QL.out GL.out ALL.out VA.out EX.out).mono ?_
  rintro e w1 ⟨rfl, hb⟩
  have HB := hid (HB.out.trans (hb.mono HB.out.size))
  have FG := hid (FG.out.on hb)
  have FGp := hid (FGp.out.on hb)
  have FGq := hid (FGq.out.on hb)
  have FGg := hid (FGg.out.on hb)
  have Fbp := hid (Fbp.out.on hb)
  have FNa := hid (FNa.out.on hb)
  have Fba := hid (Fba.out.on hb)
  have FNb := hid (FNb.out.on hb)
  have Fbb := hid (Fbb.out.on hb)
  clear hb
  go_upto_region 2 with fail
  have hb := (Below.refl w1.heap.size w1).alloc (Nat.le_refl _) (.cells (cls x) 24)
  have hn := heap_alloc_new w1 (.cells (cls x) 24)
  have HB := hid (HB.out.trans (hb.mono HB.out.size))
  have FG := hid (FG.out.on hb)
  have FGp := hid (FGp.out.on hb)
  have FGq := hid (FGq.out.on hb)
  have FGg := hid (FGg.out.on hb)
  have Fbp := hid (Fbp.out.on hb)
  have FNa := hid (FNa.out.on hb)
  have Fba := hid (Fba.out.on hb)
  have FNb := hid (FNb.out.on hb)
  have Fbb := hid (Fbb.out.on hb)
  have FN7 := hid (ldN x 0 hn (all_at _))
  have FbN7 := hid (on_blk hn)
  clear hb hn
  generalize w1.alloc (.cells (cls x) 24) = w2 at *
  generalize w1.heap.size = gN7 at *
  have l3 := FG.out.here
  have l4 := FNb.out.here
  go_wp2_with (first | (refine wp_ldw (by rfl) _ _ rfl _ rfl _ (by first | exact l3 | exact l4) ?_))
  clear l3 l4
  refine (key_ok p q g b y _ PL.out QL.out GL.out BLL.out VB.out EY.out).mono ?_
  rintro e w3 ⟨rfl, hb⟩
  have HB := hid (HB.out.trans (hb.mono HB.out.size))
  have FG := hid (FG.out.on hb)
  have FGp := hid (FGp.out.on hb)
  have FGq := hid (FGq.out.on hb)
  have FGg := hid (FGg.out.on hb)
  have Fbp := hid (Fbp.out.on hb)
  have FNa := hid (FNa.out.on hb)
  have Fba := hid (Fba.out.on hb)
  have FNb := hid (FNb.out.on hb)
  have Fbb := hid (Fbb.out.on hb)
  have FN7 := hid (FN7.out.on hb)
  have FbN7 := hid (FbN7.out.on hb)
  clear hb
  go_upto_region 3 with fail
  have hb := (Below.refl w3.heap.size w3).alloc (Nat.le_refl _) (.cells (cls y) 24)
  have hn := heap_alloc_new w3 (.cells (cls y) 24)
  have HB := hid (HB.out.trans (hb.mono HB.out.size))
  have FG := hid (FG.out.on hb)
  have FGp := hid (FGp.out.on hb)
  have FGq := hid (FGq.out.on hb)
  have FGg := hid (FGg.out.on hb)
  have Fbp := hid (Fbp.out.on hb)
  have FNa := hid (FNa.out.on hb)
  have Fba := hid (Fba.out.on hb)
  have FNb := hid (FNb.out.on hb)
  have Fbb := hid (Fbb.out.on hb)
  have FN7 := hid (FN7.out.on hb)
  have FbN7 := hid (FbN7.out.on hb)
  have FN9 := hid (ldN y 0 hn (all_at _))
  have FbN9 := hid (on_blk hn)
  clear hb hn
  generalize w3.alloc (.cells (cls y) 24) = w4 at *
  generalize w3.heap.size = gN9 at *
  have l5 := FNa.out.here
  have l6 := FNb.out.here
  go_wp2_with (first | (refine wp_ldw (by rfl) _ _ rfl _ rfl _ (by first | exact l5 | exact l6) ?_))
  clear l5 l6
  refine (add_at a b s 0 (Env.refl _) ALL.out BLL.out ES.out EO.out).mono ?_
  rintro e w5 ⟨rfl, hb⟩
  have hb := hb.1
  have HB := hid (HB.out.trans (hb.mono HB.out.size))
  have FG := hid (FG.out.on hb)
  have FGp := hid (FGp.out.on hb)
  have FGq := hid (FGq.out.on hb)
  have FGg := hid (FGg.out.on hb)
  have Fbp := hid (Fbp.out.on hb)
  have FNa := hid (FNa.out.on hb)
  have Fba := hid (Fba.out.on hb)
  have FNb := hid (FNb.out.on hb)
  have Fbb := hid (Fbb.out.on hb)
  have FN7 := hid (FN7.out.on hb)
  have FbN7 := hid (FbN7.out.on hb)
  have FN9 := hid (FN9.out.on hb)
  have FbN9 := hid (FbN9.out.on hb)
  clear hb
  go_upto_region 6 with fail
  have hb := (Below.refl w5.heap.size w5).alloc (Nat.le_refl _) (.cells (cls s) 24)
  have hn := heap_alloc_new w5 (.cells (cls s) 24)
  have HB := hid (HB.out.trans (hb.mono HB.out.size))
  have FG := hid (FG.out.on hb)
  have FGp := hid (FGp.out.on hb)
  have FGq := hid (FGq.out.on hb)
  have FGg := hid (FGg.out.on hb)
  have Fbp := hid (Fbp.out.on hb)
  have FNa := hid (FNa.out.on hb)
  have Fba := hid (Fba.out.on hb)
  have FNb := hid (FNb.out.on hb)
  have Fbb := hid (Fbb.out.on hb)
  have FN7 := hid (FN7.out.on hb)
  have FbN7 := hid (FbN7.out.on hb)
  have FN9 := hid (FN9.out.on hb)
  have FbN9 := hid (FbN9.out.on hb)
  have FN11 := hid (ldN s 0 hn (all_at _))
  have FbN11 := hid (on_blk hn)
  clear hb hn
  generalize w5.alloc (.cells (cls s) 24) = w6 at *
  generalize w5.heap.size = gN11 at *
  have l7 := FN11.out.here
  have l8 := FGq.out.here
  go_wp2_with (first | (refine wp_ldw (by rfl) _ _ rfl _ rfl _ (by first | exact l7 | exact l8) ?_))
  clear l7 l8
  refine (cmp_at s q c (Env.refl _) SL.out QL.out EC.out).mono ?_
  rintro e w7 ⟨rfl, hb⟩
  have hb := hb.1
  have HB := hid (HB.out.trans (hb.mono HB.out.size))
  have FG := hid (FG.out.on hb)
  have FGp := hid (FGp.out.on hb)
  have FGq := hid (FGq.out.on hb)
  have FGg := hid (FGg.out.on hb)
  have Fbp := hid (Fbp.out.on hb)
  have FNa := hid (FNa.out.on hb)
  have Fba := hid (Fba.out.on hb)
  have FNb := hid (FNb.out.on hb)
  have Fbb := hid (Fbb.out.on hb)
  have FN7 := hid (FN7.out.on hb)
  have FbN7 := hid (FbN7.out.on hb)
  have FN9 := hid (FN9.out.on hb)
  have FbN9 := hid (FbN9.out.on hb)
  have FN11 := hid (FN11.out.on hb)
  have FbN11 := hid (FbN11.out.on hb)
  clear hb
  have l9 := FG.out.here
  have l10 := FN7.out.here
  have l11 := FN9.out.here
  go_wp2_with (first | (refine wp_ldw (by rfl) _ _ rfl _ rfl _ (by first | exact l9 | exact l10 | exact l11) ?_))
  clear l9 l10 l11
  refine (gmul_at p q g x y r _ PL.out VX.out VY.out ER.out).mono ?_
  rintro e w8 ⟨rfl, hb⟩
  have HB := hid (HB.out.trans (hb.mono HB.out.size))
  have FG := hid (FG.out.on hb)
  have FGp := hid (FGp.out.on hb)
  have FGq := hid (FGq.out.on hb)
  have FGg := hid (FGg.out.on hb)
  have Fbp := hid (Fbp.out.on hb)
  have FNa := hid (FNa.out.on hb)
  have Fba := hid (Fba.out.on hb)
  have FNb := hid (FNb.out.on hb)
  have Fbb := hid (Fbb.out.on hb)
  have FN7 := hid (FN7.out.on hb)
  have FbN7 := hid (FbN7.out.on hb)
  have FN9 := hid (FN9.out.on hb)
  have FbN9 := hid (FbN9.out.on hb)
  have FN11 := hid (FN11.out.on hb)
  have FbN11 := hid (FbN11.out.on hb)
  clear hb
  go_upto_region 9 with fail
  have hb := (Below.refl w8.heap.size w8).alloc (Nat.le_refl _) (.cells (cls r) 24)
  have hn := heap_alloc_new w8 (.cells (cls r) 24)
  have HB := hid (HB.out.trans (hb.mono HB.out.size))
  have FG := hid (FG.out.on hb)
  have FGp := hid (FGp.out.on hb)
  have FGq := hid (FGq.out.on hb)
  have FGg := hid (FGg.out.on hb)
  have Fbp := hid (Fbp.out.on hb)
  have FNa := hid (FNa.out.on hb)
  have Fba := hid (Fba.out.on hb)
  have FNb := hid (FNb.out.on hb)
  have Fbb := hid (Fbb.out.on hb)
  have FN7 := hid (FN7.out.on hb)
  have FbN7 := hid (FbN7.out.on hb)
  have FN9 := hid (FN9.out.on hb)
  have FbN9 := hid (FbN9.out.on hb)
  have FN11 := hid (FN11.out.on hb)
  have FbN11 := hid (FbN11.out.on hb)
  have FN13 := hid (ldN r 0 hn (all_at _))
  have FbN13 := hid (on_blk hn)
  clear hb hn
  generalize w8.alloc (.cells (cls r) 24) = w9 at *
  generalize w8.heap.size = gN13 at *
  have l12 := FG.out.here
  have l13 := FGg.out.here
  have l14 := FN11.out.here
  go_wp2_with (first | (refine wp_ldw (by rfl) _ _ rfl _ rfl _ (by first | exact l12 | exact l13 | exact l14) ?_))
  clear l12 l13 l14
  refine (gexp_any p q g g s r _ PL.out SL.out VG.out ER2.out).mono ?_
  rintro e w10 ⟨rfl, hb⟩
  have HB := hid (HB.out.trans (hb.mono HB.out.size))
  have FG := hid (FG.out.on hb)
  have FGp := hid (FGp.out.on hb)
  have FGq := hid (FGq.out.on hb)
  have FGg := hid (FGg.out.on hb)
  have Fbp := hid (Fbp.out.on hb)
  have FNa := hid (FNa.out.on hb)
  have Fba := hid (Fba.out.on hb)
  have FNb := hid (FNb.out.on hb)
  have Fbb := hid (Fbb.out.on hb)
  have FN7 := hid (FN7.out.on hb)
  have FbN7 := hid (FbN7.out.on hb)
  have FN9 := hid (FN9.out.on hb)
  have FbN9 := hid (FbN9.out.on hb)
  have FN11 := hid (FN11.out.on hb)
  have FbN11 := hid (FbN11.out.on hb)
  have FN13 := hid (FN13.out.on hb)
  have FbN13 := hid (FbN13.out.on hb)
  clear hb
  go_upto_region 10 with fail
  have hb := (Below.refl w10.heap.size w10).alloc (Nat.le_refl _) (.cells (cls r) 24)
  have hn := heap_alloc_new w10 (.cells (cls r) 24)
  have HB := hid (HB.out.trans (hb.mono HB.out.size))
  have FG := hid (FG.out.on hb)
  have FGp := hid (FGp.out.on hb)
  have FGq := hid (FGq.out.on hb)
  have FGg := hid (FGg.out.on hb)
  have Fbp := hid (Fbp.out.on hb)
  have FNa := hid (FNa.out.on hb)
  have Fba := hid (Fba.out.on hb)
  have FNb := hid (FNb.out.on hb)
  have Fbb := hid (Fbb.out.on hb)
  have FN7 := hid (FN7.out.on hb)
  have FbN7 := hid (FbN7.out.on hb)
  have FN9 := hid (FN9.out.on hb)
  have FbN9 := hid (FbN9.out.on hb)
  have FN11 := hid (FN11.out.on hb)
  have FbN11 := hid (FbN11.out.on hb)
  have FN13 := hid (FN13.out.on hb)
  have FbN13 := hid (FbN13.out.on hb)
  have FN15 := hid (ldN r 0 hn (all_at _))
  have FbN15 := hid (on_blk hn)
  clear hb hn
  generalize w10.alloc (.cells (cls r) 24) = w11 at *
  generalize w10.heap.size = gN15 at *
  have l15 := FN13.out.here
  have l16 := FN15.out.here
  go_wp2_with (first | (refine wp_ldw (by rfl) _ _ rfl _ rfl _ (by first | exact l15 | exact l16) ?_))
  clear l15 l16
  refine (lives_any _).mono ?_
  rintro e w12 ⟨rfl, hb⟩
  have HB := hid (HB.out.trans (hb.mono HB.out.size))
  have FG := hid (FG.out.on hb)
  have FGp := hid (FGp.out.on hb)
  have FGq := hid (FGq.out.on hb)
  have FGg := hid (FGg.out.on hb)
  have Fbp := hid (Fbp.out.on hb)
  have FNa := hid (FNa.out.on hb)
  have Fba := hid (Fba.out.on hb)
  have FNb := hid (FNb.out.on hb)
  have Fbb := hid (Fbb.out.on hb)
  have FN7 := hid (FN7.out.on hb)
  have FbN7 := hid (FbN7.out.on hb)
  have FN9 := hid (FN9.out.on hb)
  have FbN9 := hid (FbN9.out.on hb)
  have FN11 := hid (FN11.out.on hb)
  have FbN11 := hid (FbN11.out.on hb)
  have FN13 := hid (FN13.out.on hb)
  have FbN13 := hid (FbN13.out.on hb)
  have FN15 := hid (FN15.out.on hb)
  have FbN15 := hid (FbN15.out.on hb)
  clear hb
  go_wp2_with fail
  try go_ret
  try rw [Exit.noGoto_ret]
  first | exact ⟨rfl, by first | exact HFIN.out _ HB.out | (rw [hgp]; exact HFIN.out _ HB.out)⟩ | exact bodyPost_ret (v := .bool (true)) (by simp [results, Try.results3, go_sem]) rfl ⟨rfl, by first | exact HFIN.out _ HB.out | (rw [hgp]; exact HFIN.out _ HB.out)⟩
theorem keysLaw_any (p q g a b : Nat) (w : World) (hp : p < 2 ^ 256) (hq : q < 2 ^ 256) (hg : g < 2 ^ 256) (ha : a < 2 ^ 256) (hb : b < 2 ^ 256) : Calls Try.prog 3 #[gv p q g, num a, num b] w fun e w' => e = .returned (.bool true) ∧ Below w.heap.size w w' := by
  by_cases h1 : Sec p q g a
  · by_cases h2 : Sec p q g b
    · by_cases h3 : a + b < 2 ^ 256
      · by_cases h4 : q < a + b
        · exact keys_above p q g a b w hp hq hg ha hb ⟨h1, h2⟩ ⟨h3, h4⟩
        · exact keys_ok p q g a b w hp hq hg ha hb ⟨h1, h2⟩ ⟨h3, h4⟩
      · exact keys_over p q g a b w hp hq hg ha hb ⟨h1, h2⟩ h3
    · exact keys_nb p q g a b w hp hq hg ha hb ⟨h1, h2⟩
  · exact keys_na p q g a b w hp hq hg ha hb h1
end Go.Proofs.Ytioebjbjpjbodaa
