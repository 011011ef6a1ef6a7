/-
  sigs.Check, walked. Condition: the library's table K lies there.
-/
import Derived.Test.YtioebjbjpjbodaaDoorPkSge
namespace Go.Proofs.YtioebjbjpjbodaaDoor
open Go.RowKit
set_option linter.unusedVariables false
set_option linter.unusedSimpArgs false

set_option maxRecDepth 100000 in
set_option maxHeartbeats 4000000 in
theorem check_c (p q g k c s : Nat) (bs : List UInt8) (w : World) (hp : p < 2 ^ 256) (hq : q < 2 ^ 256) (hg : g < 2 ^ 256) (hk : k < 2 ^ 256) (hc : c < 2 ^ 256) (hs : s < 2 ^ 256) (hbs : bs.length = 32) (hv : ¬ (c < q)) : Calls Tryd.prog 9 #[gv p q g, num k, .agg (bvs bs).toArray, sgv c s] w fun e w' => e = .returned (.bool false) ∧ Below w.heap.size w w' := by
  have v0 := hv
  have VC : Hid (decide (c < q) = false) := hid (decide_eq_false v0)
  clear hv v0
  have PL := hid hp
  have QL := hid hq
  have GL := hid hg
  have KL := hid hk
  have CL := hid hc
  have SL := hid hs
  clear hp hq hg hk hc hs
  obtain ⟨hB0, hs0, f0, f1, f2, f3⟩ := boxes4 w (gcs p q g) (cls k) ((bvs bs).toArray) (sgc c s) 26 24 28 33 _ rfl
  have HFIN : Hid (∀ u, Below ((((w.alloc (.cells (gcs p q g) 26)).alloc (.cells (cls k) 24)).alloc (.cells ((bvs bs).toArray) 28)).alloc (.cells (sgc c s) 33)).heap.size ((((w.alloc (.cells (gcs p q g) 26)).alloc (.cells (cls k) 24)).alloc (.cells ((bvs bs).toArray) 28)).alloc (.cells (sgc c s) 33)) u → Below w.heap.size w u) := hid (fun u hu => hB0.trans (hu.mono hB0.size))
  go_enter Tryd.func9, Tryd.ntmps9
  go_upto_region 1 with fail
  generalize (((w.alloc (.cells (gcs p q g) 26)).alloc (.cells (cls k) 24)).alloc (.cells ((bvs bs).toArray) 28)).alloc (.cells (sgc c s) 33) = W0 at *
  have hb1 := Below.refl W0.heap.size W0
  have HB := hid hb1
  have HZ0 : Hid (W0.heap.size = w.heap.size + 1 + 1 + 1 + 1) := hid hs0
  have FG := hid ((ldG p q g 0 f0 (all_at _)).on hb1)
  have FGq := hid ((ldN q 4 f0 (four_at q _ 4 rfl rfl rfl rfl)).on hb1)
  have FGg := hid ((ldN g 8 f0 (four_at g _ 8 rfl rfl rfl rfl)).on hb1)
  have Fbp := hid ((on_blk f0).on hb1)
  have FNk := hid ((ldN k 0 f1 (all_at _)).on hb1)
  have Fba := hid ((on_blk f1).on hb1)
  have Fs := hid ((ldS bs hbs 0 f2 (fun j v h => by rw [Nat.zero_add]; simpa using h)).on hb1)
  have FX := hid ((ldX c s 0 f3 (all_at _)).on hb1)
  have FXc := hid ((ldN c 0 f3 (four_at c _ 0 rfl rfl rfl rfl)).on hb1)
  have FXs := hid ((ldN s 4 f3 (four_at s _ 4 rfl rfl rfl rfl)).on hb1)
  have Fbx := hid ((on_blk f3).on hb1)
  clear hB0 hs0 hb1 f0 f1 f2 f3
  generalize w.heap.size + 1 + 1 + 1 = g_x at *
  generalize w.heap.size + 1 + 1 = g_s at *
  generalize w.heap.size + 1 = g_a at *
  generalize hgp : w.heap.size = g_p at *
  clear hbs
  have l1 := FG.out.here
  go_wp2_with (first | (refine wp_ld rfl _ _ rfl _ rfl _ (by first | exact l1) ?_))
  clear l1
  refine (expoOf_any p q g _).mono ?_
  rintro e w1 ⟨gx, rfl, hb, hgx⟩
  have HB := hid (HB.out.trans (hb.mono HB.out.size))
  have FG := hid (FG.out.on hb)
  have FGq := hid (FGq.out.on hb)
  have FGg := hid (FGg.out.on hb)
  have Fbp := hid (Fbp.out.on hb)
  have FNk := hid (FNk.out.on hb)
  have Fba := hid (Fba.out.on hb)
  have Fs := hid (Fs.out.on hb)
  have FX := hid (FX.out.on hb)
  have FXc := hid (FXc.out.on hb)
  have FXs := hid (FXs.out.on hb)
  have Fbx := hid (Fbx.out.on hb)
  have FbX := hid (on_blk hgx)
  clear hb hgx
  obtain ⟨y2a, y2b, y2c, y2d, y2e, y2f, y2g, y2h⟩ := sg_cells Fbx.out.here
  go_wp2_with fail
  clear y2a y2b y2c y2d y2e y2f y2g y2h
  refine (expo_any p q g c gx false _ QL.out CL.out FbX.out.here VC.out).mono ?_
  rintro e w2 ⟨rfl, hb⟩
  have HB := hid (HB.out.trans (hb.mono HB.out.size))
  have FG := hid (FG.out.on hb)
  have FGq := hid (FGq.out.on hb)
  have FGg := hid (FGg.out.on hb)
  have Fbp := hid (Fbp.out.on hb)
  have FNk := hid (FNk.out.on hb)
  have Fba := hid (Fba.out.on hb)
  have Fs := hid (Fs.out.on hb)
  have FX := hid (FX.out.on hb)
  have FXc := hid (FXc.out.on hb)
  have FXs := hid (FXs.out.on hb)
  have Fbx := hid (Fbx.out.on hb)
  have FbX := hid (FbX.out.on hb)
  clear hb
  go_wp2_with fail
  try rw [Exit.noGoto_ret]
  first | exact bodyPost_ret (v := .bool (false)) (by simp [results, Tryd.results9, go_sem]) rfl ⟨rfl, by first | exact HFIN.out _ HB.out | (rw [hgp]; exact HFIN.out _ HB.out)⟩ | (go_ret; exact ⟨rfl, by rw [hgp]; exact HFIN.out _ HB.out⟩)
set_option maxRecDepth 100000 in
set_option maxHeartbeats 4000000 in
theorem check_s (p q g k c s : Nat) (bs : List UInt8) (w : World) (hp : p < 2 ^ 256) (hq : q < 2 ^ 256) (hg : g < 2 ^ 256) (hk : k < 2 ^ 256) (hc : c < 2 ^ 256) (hs : s < 2 ^ 256) (hbs : bs.length = 32) (hv : (c < q) ∧ ¬ (s < q)) : Calls Tryd.prog 9 #[gv p q g, num k, .agg (bvs bs).toArray, sgv c s] w fun e w' => e = .returned (.bool false) ∧ Below w.heap.size w w' := by
  obtain ⟨v0, v1⟩ := hv
  have VC : Hid (decide (c < q) = true) := hid (decide_eq_true v0)
  have VS : Hid (decide (s < q) = false) := hid (decide_eq_false v1)
  clear v0 v1
  have PL := hid hp
  have QL := hid hq
  have GL := hid hg
  have KL := hid hk
  have CL := hid hc
  have SL := hid hs
  clear hp hq hg hk hc hs
  obtain ⟨hB0, hs0, f0, f1, f2, f3⟩ := boxes4 w (gcs p q g) (cls k) ((bvs bs).toArray) (sgc c s) 26 24 28 33 _ rfl
  have HFIN : Hid (∀ u, Below ((((w.alloc (.cells (gcs p q g) 26)).alloc (.cells (cls k) 24)).alloc (.cells ((bvs bs).toArray) 28)).alloc (.cells (sgc c s) 33)).heap.size ((((w.alloc (.cells (gcs p q g) 26)).alloc (.cells (cls k) 24)).alloc (.cells ((bvs bs).toArray) 28)).alloc (.cells (sgc c s) 33)) u → Below w.heap.size w u) := hid (fun u hu => hB0.trans (hu.mono hB0.size))
  go_enter Tryd.func9, Tryd.ntmps9
  go_upto_region 1 with fail
  generalize (((w.alloc (.cells (gcs p q g) 26)).alloc (.cells (cls k) 24)).alloc (.cells ((bvs bs).toArray) 28)).alloc (.cells (sgc c s) 33) = W0 at *
  have hb1 := Below.refl W0.heap.size W0
  have HB := hid hb1
  have HZ0 : Hid (W0.heap.size = w.heap.size + 1 + 1 + 1 + 1) := hid hs0
  have FG := hid ((ldG p q g 0 f0 (all_at _)).on hb1)
  have FGq := hid ((ldN q 4 f0 (four_at q _ 4 rfl rfl rfl rfl)).on hb1)
  have FGg := hid ((ldN g 8 f0 (four_at g _ 8 rfl rfl rfl rfl)).on hb1)
  have Fbp := hid ((on_blk f0).on hb1)
  have FNk := hid ((ldN k 0 f1 (all_at _)).on hb1)
  have Fba := hid ((on_blk f1).on hb1)
  have Fs := hid ((ldS bs hbs 0 f2 (fun j v h => by rw [Nat.zero_add]; simpa using h)).on hb1)
  have FX := hid ((ldX c s 0 f3 (all_at _)).on hb1)
  have FXc := hid ((ldN c 0 f3 (four_at c _ 0 rfl rfl rfl rfl)).on hb1)
  have FXs := hid ((ldN s 4 f3 (four_at s _ 4 rfl rfl rfl rfl)).on hb1)
  have Fbx := hid ((on_blk f3).on hb1)
  clear hB0 hs0 hb1 f0 f1 f2 f3
  generalize w.heap.size + 1 + 1 + 1 = g_x at *
  generalize w.heap.size + 1 + 1 = g_s at *
  generalize w.heap.size + 1 = g_a at *
  generalize hgp : w.heap.size = g_p at *
  clear hbs
  have l1 := FG.out.here
  go_wp2_with (first | (refine wp_ld rfl _ _ rfl _ rfl _ (by first | exact l1) ?_))
  clear l1
  refine (expoOf_any p q g _).mono ?_
  rintro e w1 ⟨gx, rfl, hb, hgx⟩
  have HB := hid (HB.out.trans (hb.mono HB.out.size))
  have FG := hid (FG.out.on hb)
  have FGq := hid (FGq.out.on hb)
  have FGg := hid (FGg.out.on hb)
  have Fbp := hid (Fbp.out.on hb)
  have FNk := hid (FNk.out.on hb)
  have Fba := hid (Fba.out.on hb)
  have Fs := hid (Fs.out.on hb)
  have FX := hid (FX.out.on hb)
  have FXc := hid (FXc.out.on hb)
  have FXs := hid (FXs.out.on hb)
  have Fbx := hid (Fbx.out.on hb)
  have FbX := hid (on_blk hgx)
  clear hb hgx
  obtain ⟨y2a, y2b, y2c, y2d, y2e, y2f, y2g, y2h⟩ := sg_cells Fbx.out.here
  go_wp2_with fail
  clear y2a y2b y2c y2d y2e y2f y2g y2h
  refine (expo_any p q g c gx true _ QL.out CL.out FbX.out.here VC.out).mono ?_
  rintro e w2 ⟨rfl, hb⟩
  have HB := hid (HB.out.trans (hb.mono HB.out.size))
  have FG := hid (FG.out.on hb)
  have FGq := hid (FGq.out.on hb)
  have FGg := hid (FGg.out.on hb)
  have Fbp := hid (Fbp.out.on hb)
  have FNk := hid (FNk.out.on hb)
  have Fba := hid (Fba.out.on hb)
  have Fs := hid (Fs.out.on hb)
  have FX := hid (FX.out.on hb)
  have FXc := hid (FXc.out.on hb)
  have FXs := hid (FXs.out.on hb)
  have Fbx := hid (Fbx.out.on hb)
  have FbX := hid (FbX.out.on hb)
  clear hb
  obtain ⟨y3a, y3b, y3c, y3d, y3e, y3f, y3g, y3h⟩ := sg_cells Fbx.out.here
  go_wp2_with fail
  clear y3a y3b y3c y3d y3e y3f y3g y3h
  refine (expo_any p q g s gx false _ QL.out SL.out FbX.out.here VS.out).mono ?_
  rintro e w3 ⟨rfl, hb⟩
  have HB := hid (HB.out.trans (hb.mono HB.out.size))
  have FG := hid (FG.out.on hb)
  have FGq := hid (FGq.out.on hb)
  have FGg := hid (FGg.out.on hb)
  have Fbp := hid (Fbp.out.on hb)
  have FNk := hid (FNk.out.on hb)
  have Fba := hid (Fba.out.on hb)
  have Fs := hid (Fs.out.on hb)
  have FX := hid (FX.out.on hb)
  have FXc := hid (FXc.out.on hb)
  have FXs := hid (FXs.out.on hb)
  have Fbx := hid (Fbx.out.on hb)
  have FbX := hid (FbX.out.on hb)
  clear hb
  go_wp2_with fail
  try rw [Exit.noGoto_ret]
  first | exact bodyPost_ret (v := .bool (false)) (by simp [results, Tryd.results9, go_sem]) rfl ⟨rfl, by first | exact HFIN.out _ HB.out | (rw [hgp]; exact HFIN.out _ HB.out)⟩ | (go_ret; exact ⟨rfl, by rw [hgp]; exact HFIN.out _ HB.out⟩)
set_option maxRecDepth 100000 in
set_option maxHeartbeats 4000000 in
theorem check_f (p q g k c s : Nat) (bs : List UInt8) (w : World) (hp : p < 2 ^ 256) (hq : q < 2 ^ 256) (hg : g < 2 ^ 256) (hk : k < 2 ^ 256) (hc : c < 2 ^ 256) (hs : s < 2 ^ 256) (hbs : bs.length = 32) (hv : (c < q) ∧ (s < q) ∧ ¬ (1 < q ∧ g ≠ 1 ∧ (0 < g ∧ g < p) ∧ g ^ q % p = 1)) : Calls Tryd.prog 9 #[gv p q g, num k, .agg (bvs bs).toArray, sgv c s] w fun e w' => e = .returned (.bool false) ∧ Below w.heap.size w w' := by
  obtain ⟨v0, v1, v2⟩ := hv
  have VC : Hid (decide (c < q) = true) := hid (decide_eq_true v0)
  have VS : Hid (decide (s < q) = true) := hid (decide_eq_true v1)
  have VF : Hid (decide (1 < q ∧ g ≠ 1 ∧ (0 < g ∧ g < p) ∧ g ^ q % p = 1) = false) := hid (decide_eq_false v2)
  clear v0 v1 v2
  have PL := hid hp
  have QL := hid hq
  have GL := hid hg
  have KL := hid hk
  have CL := hid hc
  have SL := hid hs
  clear hp hq hg hk hc hs
  obtain ⟨hB0, hs0, f0, f1, f2, f3⟩ := boxes4 w (gcs p q g) (cls k) ((bvs bs).toArray) (sgc c s) 26 24 28 33 _ rfl
  have HFIN : Hid (∀ u, Below ((((w.alloc (.cells (gcs p q g) 26)).alloc (.cells (cls k) 24)).alloc (.cells ((bvs bs).toArray) 28)).alloc (.cells (sgc c s) 33)).heap.size ((((w.alloc (.cells (gcs p q g) 26)).alloc (.cells (cls k) 24)).alloc (.cells ((bvs bs).toArray) 28)).alloc (.cells (sgc c s) 33)) u → Below w.heap.size w u) := hid (fun u hu => hB0.trans (hu.mono hB0.size))
  go_enter Tryd.func9, Tryd.ntmps9
  go_upto_region 1 with fail
  generalize (((w.alloc (.cells (gcs p q g) 26)).alloc (.cells (cls k) 24)).alloc (.cells ((bvs bs).toArray) 28)).alloc (.cells (sgc c s) 33) = W0 at *
  have hb1 := Below.refl W0.heap.size W0
  have HB := hid hb1
  have HZ0 : Hid (W0.heap.size = w.heap.size + 1 + 1 + 1 + 1) := hid hs0
  have FG := hid ((ldG p q g 0 f0 (all_at _)).on hb1)
  have FGq := hid ((ldN q 4 f0 (four_at q _ 4 rfl rfl rfl rfl)).on hb1)
  have FGg := hid ((ldN g 8 f0 (four_at g _ 8 rfl rfl rfl rfl)).on hb1)
  have Fbp := hid ((on_blk f0).on hb1)
  have FNk := hid ((ldN k 0 f1 (all_at _)).on hb1)
  have Fba := hid ((on_blk f1).on hb1)
  have Fs := hid ((ldS bs hbs 0 f2 (fun j v h => by rw [Nat.zero_add]; simpa using h)).on hb1)
  have FX := hid ((ldX c s 0 f3 (all_at _)).on hb1)
  have FXc := hid ((ldN c 0 f3 (four_at c _ 0 rfl rfl rfl rfl)).on hb1)
  have FXs := hid ((ldN s 4 f3 (four_at s _ 4 rfl rfl rfl rfl)).on hb1)
  have Fbx := hid ((on_blk f3).on hb1)
  clear hB0 hs0 hb1 f0 f1 f2 f3
  generalize w.heap.size + 1 + 1 + 1 = g_x at *
  generalize w.heap.size + 1 + 1 = g_s at *
  generalize w.heap.size + 1 = g_a at *
  generalize hgp : w.heap.size = g_p at *
  clear hbs
  have l1 := FG.out.here
  go_wp2_with (first | (refine wp_ld rfl _ _ rfl _ rfl _ (by first | exact l1) ?_))
  clear l1
  refine (expoOf_any p q g _).mono ?_
  rintro e w1 ⟨gx, rfl, hb, hgx⟩
  have HB := hid (HB.out.trans (hb.mono HB.out.size))
  have FG := hid (FG.out.on hb)
  have FGq := hid (FGq.out.on hb)
  have FGg := hid (FGg.out.on hb)
  have Fbp := hid (Fbp.out.on hb)
  have FNk := hid (FNk.out.on hb)
  have Fba := hid (Fba.out.on hb)
  have Fs := hid (Fs.out.on hb)
  have FX := hid (FX.out.on hb)
  have FXc := hid (FXc.out.on hb)
  have FXs := hid (FXs.out.on hb)
  have Fbx := hid (Fbx.out.on hb)
  have FbX := hid (on_blk hgx)
  clear hb hgx
  obtain ⟨y2a, y2b, y2c, y2d, y2e, y2f, y2g, y2h⟩ := sg_cells Fbx.out.here
  go_wp2_with fail
  clear y2a y2b y2c y2d y2e y2f y2g y2h
  refine (expo_any p q g c gx true _ QL.out CL.out FbX.out.here VC.out).mono ?_
  rintro e w2 ⟨rfl, hb⟩
  have HB := hid (HB.out.trans (hb.mono HB.out.size))
  have FG := hid (FG.out.on hb)
  have FGq := hid (FGq.out.on hb)
  have FGg := hid (FGg.out.on hb)
  have Fbp := hid (Fbp.out.on hb)
  have FNk := hid (FNk.out.on hb)
  have Fba := hid (Fba.out.on hb)
  have Fs := hid (Fs.out.on hb)
  have FX := hid (FX.out.on hb)
  have FXc := hid (FXc.out.on hb)
  have FXs := hid (FXs.out.on hb)
  have Fbx := hid (Fbx.out.on hb)
  have FbX := hid (FbX.out.on hb)
  clear hb
  obtain ⟨y3a, y3b, y3c, y3d, y3e, y3f, y3g, y3h⟩ := sg_cells Fbx.out.here
  go_wp2_with fail
  clear y3a y3b y3c y3d y3e y3f y3g y3h
  refine (expo_any p q g s gx true _ QL.out SL.out FbX.out.here VS.out).mono ?_
  rintro e w3 ⟨rfl, hb⟩
  have HB := hid (HB.out.trans (hb.mono HB.out.size))
  have FG := hid (FG.out.on hb)
  have FGq := hid (FGq.out.on hb)
  have FGg := hid (FGg.out.on hb)
  have Fbp := hid (Fbp.out.on hb)
  have FNk := hid (FNk.out.on hb)
  have Fba := hid (Fba.out.on hb)
  have Fs := hid (Fs.out.on hb)
  have FX := hid (FX.out.on hb)
  have FXc := hid (FXc.out.on hb)
  have FXs := hid (FXs.out.on hb)
  have Fbx := hid (Fbx.out.on hb)
  have FbX := hid (FbX.out.on hb)
  clear hb
  obtain ⟨y4a, y4b, y4c, y4d⟩ := (show Gm _ _ 26 p q g from Fbp.out.here).p
  obtain ⟨y5a, y5b, y5c, y5d⟩ := (show Gm _ _ 26 p q g from Fbp.out.here).q
  obtain ⟨y6a, y6b, y6c, y6d⟩ := (show Gm _ _ 26 p q g from Fbp.out.here).g
  go_wp2_with fail
  clear y4a y4b y4c y4d y5a y5b y5c y5d y6a y6b y6c y6d
  refine (fine_any p q g false _ PL.out QL.out GL.out VF.out).mono ?_
  rintro e w4 ⟨rfl, hb⟩
  have HB := hid (HB.out.trans (hb.mono HB.out.size))
  have FG := hid (FG.out.on hb)
  have FGq := hid (FGq.out.on hb)
  have FGg := hid (FGg.out.on hb)
  have Fbp := hid (Fbp.out.on hb)
  have FNk := hid (FNk.out.on hb)
  have Fba := hid (Fba.out.on hb)
  have Fs := hid (Fs.out.on hb)
  have FX := hid (FX.out.on hb)
  have FXc := hid (FXc.out.on hb)
  have FXs := hid (FXs.out.on hb)
  have Fbx := hid (Fbx.out.on hb)
  have FbX := hid (FbX.out.on hb)
  clear hb
  go_wp2_with fail
  try rw [Exit.noGoto_ret]
  first | exact bodyPost_ret (v := .bool (false)) (by simp [results, Tryd.results9, go_sem]) rfl ⟨rfl, by first | exact HFIN.out _ HB.out | (rw [hgp]; exact HFIN.out _ HB.out)⟩ | (go_ret; exact ⟨rfl, by rw [hgp]; exact HFIN.out _ HB.out⟩)
set_option maxRecDepth 100000 in
set_option maxHeartbeats 4000000 in
theorem check_k (p q g k c s : Nat) (bs : List UInt8) (w : World) (hp : p < 2 ^ 256) (hq : q < 2 ^ 256) (hg : g < 2 ^ 256) (hk : k < 2 ^ 256) (hc : c < 2 ^ 256) (hs : s < 2 ^ 256) (hbs : bs.length = 32) (hv : (c < q) ∧ (s < q) ∧ (1 < q ∧ g ≠ 1 ∧ (0 < g ∧ g < p) ∧ g ^ q % p = 1) ∧ ¬ (k ≠ 1 ∧ (0 < k ∧ k < p) ∧ k ^ q % p = 1)) : Calls Tryd.prog 9 #[gv p q g, num k, .agg (bvs bs).toArray, sgv c s] w fun e w' => e = .returned (.bool false) ∧ Below w.heap.size w w' := by
  obtain ⟨v0, v1, v2, v3⟩ := hv
  have VC : Hid (decide (c < q) = true) := hid (decide_eq_true v0)
  have VS : Hid (decide (s < q) = true) := hid (decide_eq_true v1)
  have VF : Hid (decide (1 < q ∧ g ≠ 1 ∧ (0 < g ∧ g < p) ∧ g ^ q % p = 1) = true) := hid (decide_eq_true v2)
  have VK : Hid (decide (k ≠ 1 ∧ (0 < k ∧ k < p) ∧ k ^ q % p = 1) = false) := hid (decide_eq_false v3)
  clear v0 v1 v2 v3
  have PL := hid hp
  have QL := hid hq
  have GL := hid hg
  have KL := hid hk
  have CL := hid hc
  have SL := hid hs
  clear hp hq hg hk hc hs
  obtain ⟨hB0, hs0, f0, f1, f2, f3⟩ := boxes4 w (gcs p q g) (cls k) ((bvs bs).toArray) (sgc c s) 26 24 28 33 _ rfl
  have HFIN : Hid (∀ u, Below ((((w.alloc (.cells (gcs p q g) 26)).alloc (.cells (cls k) 24)).alloc (.cells ((bvs bs).toArray) 28)).alloc (.cells (sgc c s) 33)).heap.size ((((w.alloc (.cells (gcs p q g) 26)).alloc (.cells (cls k) 24)).alloc (.cells ((bvs bs).toArray) 28)).alloc (.cells (sgc c s) 33)) u → Below w.heap.size w u) := hid (fun u hu => hB0.trans (hu.mono hB0.size))
  go_enter Tryd.func9, Tryd.ntmps9
  go_upto_region 1 with fail
  generalize (((w.alloc (.cells (gcs p q g) 26)).alloc (.cells (cls k) 24)).alloc (.cells ((bvs bs).toArray) 28)).alloc (.cells (sgc c s) 33) = W0 at *
  have hb1 := Below.refl W0.heap.size W0
  have HB := hid hb1
  have HZ0 : Hid (W0.heap.size = w.heap.size + 1 + 1 + 1 + 1) := hid hs0
  have FG := hid ((ldG p q g 0 f0 (all_at _)).on hb1)
  have FGq := hid ((ldN q 4 f0 (four_at q _ 4 rfl rfl rfl rfl)).on hb1)
  have FGg := hid ((ldN g 8 f0 (four_at g _ 8 rfl rfl rfl rfl)).on hb1)
  have Fbp := hid ((on_blk f0).on hb1)
  have FNk := hid ((ldN k 0 f1 (all_at _)).on hb1)
  have Fba := hid ((on_blk f1).on hb1)
  have Fs := hid ((ldS bs hbs 0 f2 (fun j v h => by rw [Nat.zero_add]; simpa using h)).on hb1)
  have FX := hid ((ldX c s 0 f3 (all_at _)).on hb1)
  have FXc := hid ((ldN c 0 f3 (four_at c _ 0 rfl rfl rfl rfl)).on hb1)
  have FXs := hid ((ldN s 4 f3 (four_at s _ 4 rfl rfl rfl rfl)).on hb1)
  have Fbx := hid ((on_blk f3).on hb1)
  clear hB0 hs0 hb1 f0 f1 f2 f3
  generalize w.heap.size + 1 + 1 + 1 = g_x at *
  generalize w.heap.size + 1 + 1 = g_s at *
  generalize w.heap.size + 1 = g_a at *
  generalize hgp : w.heap.size = g_p at *
  clear hbs
  have l1 := FG.out.here
  go_wp2_with (first | (refine wp_ld rfl _ _ rfl _ rfl _ (by first | exact l1) ?_))
  clear l1
  refine (expoOf_any p q g _).mono ?_
  rintro e w1 ⟨gx, rfl, hb, hgx⟩
  have HB := hid (HB.out.trans (hb.mono HB.out.size))
  have FG := hid (FG.out.on hb)
  have FGq := hid (FGq.out.on hb)
  have FGg := hid (FGg.out.on hb)
  have Fbp := hid (Fbp.out.on hb)
  have FNk := hid (FNk.out.on hb)
  have Fba := hid (Fba.out.on hb)
  have Fs := hid (Fs.out.on hb)
  have FX := hid (FX.out.on hb)
  have FXc := hid (FXc.out.on hb)
  have FXs := hid (FXs.out.on hb)
  have Fbx := hid (Fbx.out.on hb)
  have FbX := hid (on_blk hgx)
  clear hb hgx
  obtain ⟨y2a, y2b, y2c, y2d, y2e, y2f, y2g, y2h⟩ := sg_cells Fbx.out.here
  go_wp2_with fail
  clear y2a y2b y2c y2d y2e y2f y2g y2h
  refine (expo_any p q g c gx true _ QL.out CL.out FbX.out.here VC.out).mono ?_
  rintro e w2 ⟨rfl, hb⟩
  have HB := hid (HB.out.trans (hb.mono HB.out.size))
  have FG := hid (FG.out.on hb)
  have FGq := hid (FGq.out.on hb)
  have FGg := hid (FGg.out.on hb)
  have Fbp := hid (Fbp.out.on hb)
  have FNk := hid (FNk.out.on hb)
  have Fba := hid (Fba.out.on hb)
  have Fs := hid (Fs.out.on hb)
  have FX := hid (FX.out.on hb)
  have FXc := hid (FXc.out.on hb)
  have FXs := hid (FXs.out.on hb)
  have Fbx := hid (Fbx.out.on hb)
  have FbX := hid (FbX.out.on hb)
  clear hb
  obtain ⟨y3a, y3b, y3c, y3d, y3e, y3f, y3g, y3h⟩ := sg_cells Fbx.out.here
  go_wp2_with fail
  clear y3a y3b y3c y3d y3e y3f y3g y3h
  refine (expo_any p q g s gx true _ QL.out SL.out FbX.out.here VS.out).mono ?_
  rintro e w3 ⟨rfl, hb⟩
  have HB := hid (HB.out.trans (hb.mono HB.out.size))
  have FG := hid (FG.out.on hb)
  have FGq := hid (FGq.out.on hb)
  have FGg := hid (FGg.out.on hb)
  have Fbp := hid (Fbp.out.on hb)
  have FNk := hid (FNk.out.on hb)
  have Fba := hid (Fba.out.on hb)
  have Fs := hid (Fs.out.on hb)
  have FX := hid (FX.out.on hb)
  have FXc := hid (FXc.out.on hb)
  have FXs := hid (FXs.out.on hb)
  have Fbx := hid (Fbx.out.on hb)
  have FbX := hid (FbX.out.on hb)
  clear hb
  obtain ⟨y4a, y4b, y4c, y4d⟩ := (show Gm _ _ 26 p q g from Fbp.out.here).p
  obtain ⟨y5a, y5b, y5c, y5d⟩ := (show Gm _ _ 26 p q g from Fbp.out.here).q
  obtain ⟨y6a, y6b, y6c, y6d⟩ := (show Gm _ _ 26 p q g from Fbp.out.here).g
  go_wp2_with fail
  clear y4a y4b y4c y4d y5a y5b y5c y5d y6a y6b y6c y6d
  refine (fine_any p q g true _ PL.out QL.out GL.out VF.out).mono ?_
  rintro e w4 ⟨rfl, hb⟩
  have HB := hid (HB.out.trans (hb.mono HB.out.size))
  have FG := hid (FG.out.on hb)
  have FGq := hid (FGq.out.on hb)
  have FGg := hid (FGg.out.on hb)
  have Fbp := hid (Fbp.out.on hb)
  have FNk := hid (FNk.out.on hb)
  have Fba := hid (Fba.out.on hb)
  have Fs := hid (Fs.out.on hb)
  have FX := hid (FX.out.on hb)
  have FXc := hid (FXc.out.on hb)
  have FXs := hid (FXs.out.on hb)
  have Fbx := hid (Fbx.out.on hb)
  have FbX := hid (FbX.out.on hb)
  clear hb
  obtain ⟨y7a, y7b, y7c, y7d⟩ := (show Gm _ _ 26 p q g from Fbp.out.here).p
  obtain ⟨y8a, y8b, y8c, y8d⟩ := (show Gm _ _ 26 p q g from Fbp.out.here).q
  obtain ⟨y9a, y9b, y9c, y9d⟩ := (show Gm _ _ 26 p q g from Fbp.out.here).g
  obtain ⟨y10a, y10b, y10c, y10d⟩ := Env.cell (env_one (Below.refl _ _) (show Nm _ g_a k from Fba.out.here)) g_a k (by simp)
  go_wp2_with fail
  clear y7a y7b y7c y7d y8a y8b y8c y8d y9a y9b y9c y9d y10a y10b y10c y10d
  refine (isKey_any p q g k false _ PL.out QL.out KL.out VK.out).mono ?_
  rintro e w5 ⟨rfl, hb⟩
  have HB := hid (HB.out.trans (hb.mono HB.out.size))
  have FG := hid (FG.out.on hb)
  have FGq := hid (FGq.out.on hb)
  have FGg := hid (FGg.out.on hb)
  have Fbp := hid (Fbp.out.on hb)
  have FNk := hid (FNk.out.on hb)
  have Fba := hid (Fba.out.on hb)
  have Fs := hid (Fs.out.on hb)
  have FX := hid (FX.out.on hb)
  have FXc := hid (FXc.out.on hb)
  have FXs := hid (FXs.out.on hb)
  have Fbx := hid (Fbx.out.on hb)
  have FbX := hid (FbX.out.on hb)
  clear hb
  go_wp2_with fail
  try rw [Exit.noGoto_ret]
  first | exact bodyPost_ret (v := .bool (false)) (by simp [results, Tryd.results9, go_sem]) rfl ⟨rfl, by first | exact HFIN.out _ HB.out | (rw [hgp]; exact HFIN.out _ HB.out)⟩ | (go_ret; exact ⟨rfl, by rw [hgp]; exact HFIN.out _ HB.out⟩)
set_option maxRecDepth 100000 in
set_option maxHeartbeats 4000000 in
theorem check_ok (p q g k c s : Nat) (bs : List UInt8) (v : Bool) (w : World) (hp : p < 2 ^ 256) (hq : q < 2 ^ 256) (hg : g < 2 ^ 256) (hk : k < 2 ^ 256) (hc : c < 2 ^ 256) (hs : s < 2 ^ 256) (hbs : bs.length = 32) (hK : Kt w) (hr : decide (c = chl q k (g ^ s % p * (k ^ (q - c) % p) % p) bs) = v) (hv : (c < q) ∧ (s < q) ∧ (1 < q ∧ g ≠ 1 ∧ (0 < g ∧ g < p) ∧ g ^ q % p = 1) ∧ (k ≠ 1 ∧ (0 < k ∧ k < p) ∧ k ^ q % p = 1)) : Calls Tryd.prog 9 #[gv p q g, num k, .agg (bvs bs).toArray, sgv c s] w fun e w' => e = .returned (.bool v) ∧ Below w.heap.size w w' := by
  obtain ⟨v0, v1, v2, v3⟩ := hv
  have VC : Hid (decide (c < q) = true) := hid (decide_eq_true v0)
  have VS : Hid (decide (s < q) = true) := hid (decide_eq_true v1)
  have VF : Hid (decide (1 < q ∧ g ≠ 1 ∧ (0 < g ∧ g < p) ∧ g ^ q % p = 1) = true) := hid (decide_eq_true v2)
  have VK : Hid (decide (k ≠ 1 ∧ (0 < k ∧ k < p) ∧ k ^ q % p = 1) = true) := hid (decide_eq_true v3)
  obtain ⟨r, er⟩ : ∃ r, g ^ s % p * (k ^ (q - c) % p) % p = r := ⟨_, rfl⟩
  obtain ⟨b, eb⟩ : ∃ b, chl q k r bs = b := ⟨_, rfl⟩
  rw [er, eb] at hr
  have hp1 : 1 < p := by have := v2.2.2.1; omega
  have hb : b < 2 ^ 256 := by have := chl_lt q k r bs (by omega); omega
  have hr2 : r < 2 ^ 256 := Nat.lt_trans (er ▸ Nat.mod_lt _ (by omega)) hp
  have qe : ∀ w, (Op.equalIn 10000 24 (num c) (num b)).run Tryd.prog w = .ok v w := by
    intro w; rw [← hr]; by_cases h : c = b
    · rw [decide_eq_true h]; exact eq_yes c b h w
    · rw [decide_eq_false h]; exact eq_no c b hc hb h w
  unfold chl at eb
  have ER := hid er
  have EB := hid eb
  have VG := hid v2.2.2
  have VKI := hid v3.2
  have CQ := hid v0
  have BBL := hid hb
  have RL := hid hr2
  have HBS := hid hbs
  have Q0 := hid (show q ≠ 0 by omega)
  clear er eb hp1 hb hr2 hr
  clear v0 v1 v2 v3
  have PL := hid hp
  have QL := hid hq
  have GL := hid hg
  have KL := hid hk
  have CL := hid hc
  have SL := hid hs
  clear hp hq hg hk hc hs
  obtain ⟨hB0, hs0, f0, f1, f2, f3⟩ := boxes4 w (gcs p q g) (cls k) ((bvs bs).toArray) (sgc c s) 26 24 28 33 _ rfl
  have HFIN : Hid (∀ u, Below ((((w.alloc (.cells (gcs p q g) 26)).alloc (.cells (cls k) 24)).alloc (.cells ((bvs bs).toArray) 28)).alloc (.cells (sgc c s) 33)).heap.size ((((w.alloc (.cells (gcs p q g) 26)).alloc (.cells (cls k) 24)).alloc (.cells ((bvs bs).toArray) 28)).alloc (.cells (sgc c s) 33)) u → Below w.heap.size w u) := hid (fun u hu => hB0.trans (hu.mono hB0.size))
  have HKT := hid (hK.on hB0)
  clear hK
  go_enter Tryd.func9, Tryd.ntmps9
  go_upto_region 1 with fail
  generalize (((w.alloc (.cells (gcs p q g) 26)).alloc (.cells (cls k) 24)).alloc (.cells ((bvs bs).toArray) 28)).alloc (.cells (sgc c s) 33) = W0 at *
  have hb1 := Below.refl W0.heap.size W0
  have HB := hid hb1
  have HZ0 : Hid (W0.heap.size = w.heap.size + 1 + 1 + 1 + 1) := hid hs0
  have FG := hid ((ldG p q g 0 f0 (all_at _)).on hb1)
  have FGq := hid ((ldN q 4 f0 (four_at q _ 4 rfl rfl rfl rfl)).on hb1)
  have FGg := hid ((ldN g 8 f0 (four_at g _ 8 rfl rfl rfl rfl)).on hb1)
  have Fbp := hid ((on_blk f0).on hb1)
  have FNk := hid ((ldN k 0 f1 (all_at _)).on hb1)
  have Fba := hid ((on_blk f1).on hb1)
  have Fs := hid ((ldS bs hbs 0 f2 (fun j v h => by rw [Nat.zero_add]; simpa using h)).on hb1)
  have FX := hid ((ldX c s 0 f3 (all_at _)).on hb1)
  have FXc := hid ((ldN c 0 f3 (four_at c _ 0 rfl rfl rfl rfl)).on hb1)
  have FXs := hid ((ldN s 4 f3 (four_at s _ 4 rfl rfl rfl rfl)).on hb1)
  have Fbx := hid ((on_blk f3).on hb1)
  have FK := hid (HKT.out.on hb1)
  clear HKT
  clear hB0 hs0 hb1 f0 f1 f2 f3
  generalize w.heap.size + 1 + 1 + 1 = g_x at *
  generalize w.heap.size + 1 + 1 = g_s at *
  generalize w.heap.size + 1 = g_a at *
  generalize hgp : w.heap.size = g_p at *
  clear hbs
  have l1 := FG.out.here
  go_wp2_with (first | (refine wp_ld rfl _ _ rfl _ rfl _ (by first | exact l1) ?_))
  clear l1
  refine (expoOf_any p q g _).mono ?_
  rintro e w1 ⟨gx, rfl, hb, hgx⟩
  have HB := hid (HB.out.trans (hb.mono HB.out.size))
  have FG := hid (FG.out.on hb)
  have FGq := hid (FGq.out.on hb)
  have FGg := hid (FGg.out.on hb)
  have Fbp := hid (Fbp.out.on hb)
  have FNk := hid (FNk.out.on hb)
  have Fba := hid (Fba.out.on hb)
  have Fs := hid (Fs.out.on hb)
  have FX := hid (FX.out.on hb)
  have FXc := hid (FXc.out.on hb)
  have FXs := hid (FXs.out.on hb)
  have Fbx := hid (Fbx.out.on hb)
  have FK := hid (FK.out.on hb)
  have FbX := hid (on_blk hgx)
  clear hb hgx
  obtain ⟨y2a, y2b, y2c, y2d, y2e, y2f, y2g, y2h⟩ := sg_cells Fbx.out.here
  go_wp2_with fail
  clear y2a y2b y2c y2d y2e y2f y2g y2h
  refine (expo_any p q g c gx true _ QL.out CL.out FbX.out.here VC.out).mono ?_
  rintro e w2 ⟨rfl, hb⟩
  have HB := hid (HB.out.trans (hb.mono HB.out.size))
  have FG := hid (FG.out.on hb)
  have FGq := hid (FGq.out.on hb)
  have FGg := hid (FGg.out.on hb)
  have Fbp := hid (Fbp.out.on hb)
  have FNk := hid (FNk.out.on hb)
  have Fba := hid (Fba.out.on hb)
  have Fs := hid (Fs.out.on hb)
  have FX := hid (FX.out.on hb)
  have FXc := hid (FXc.out.on hb)
  have FXs := hid (FXs.out.on hb)
  have Fbx := hid (Fbx.out.on hb)
  have FbX := hid (FbX.out.on hb)
  have FK := hid (FK.out.on hb)
  clear hb
  obtain ⟨y3a, y3b, y3c, y3d, y3e, y3f, y3g, y3h⟩ := sg_cells Fbx.out.here
  go_wp2_with fail
  clear y3a y3b y3c y3d y3e y3f y3g y3h
  refine (expo_any p q g s gx true _ QL.out SL.out FbX.out.here VS.out).mono ?_
  rintro e w3 ⟨rfl, hb⟩
  have HB := hid (HB.out.trans (hb.mono HB.out.size))
  have FG := hid (FG.out.on hb)
  have FGq := hid (FGq.out.on hb)
  have FGg := hid (FGg.out.on hb)
  have Fbp := hid (Fbp.out.on hb)
  have FNk := hid (FNk.out.on hb)
  have Fba := hid (Fba.out.on hb)
  have Fs := hid (Fs.out.on hb)
  have FX := hid (FX.out.on hb)
  have FXc := hid (FXc.out.on hb)
  have FXs := hid (FXs.out.on hb)
  have Fbx := hid (Fbx.out.on hb)
  have FbX := hid (FbX.out.on hb)
  have FK := hid (FK.out.on hb)
  clear hb
  obtain ⟨y4a, y4b, y4c, y4d⟩ := (show Gm _ _ 26 p q g from Fbp.out.here).p
  obtain ⟨y5a, y5b, y5c, y5d⟩ := (show Gm _ _ 26 p q g from Fbp.out.here).q
  obtain ⟨y6a, y6b, y6c, y6d⟩ := (show Gm _ _ 26 p q g from Fbp.out.here).g
  go_wp2_with fail
  clear y4a y4b y4c y4d y5a y5b y5c y5d y6a y6b y6c y6d
  refine (fine_any p q g true _ PL.out QL.out GL.out VF.out).mono ?_
  rintro e w4 ⟨rfl, hb⟩
  have HB := hid (HB.out.trans (hb.mono HB.out.size))
  have FG := hid (FG.out.on hb)
  have FGq := hid (FGq.out.on hb)
  have FGg := hid (FGg.out.on hb)
  have Fbp := hid (Fbp.out.on hb)
  have FNk := hid (FNk.out.on hb)
  have Fba := hid (Fba.out.on hb)
  have Fs := hid (Fs.out.on hb)
  have FX := hid (FX.out.on hb)
  have FXc := hid (FXc.out.on hb)
  have FXs := hid (FXs.out.on hb)
  have Fbx := hid (Fbx.out.on hb)
  have FbX := hid (FbX.out.on hb)
  have FK := hid (FK.out.on hb)
  clear hb
  obtain ⟨y7a, y7b, y7c, y7d⟩ := (show Gm _ _ 26 p q g from Fbp.out.here).p
  obtain ⟨y8a, y8b, y8c, y8d⟩ := (show Gm _ _ 26 p q g from Fbp.out.here).q
  obtain ⟨y9a, y9b, y9c, y9d⟩ := (show Gm _ _ 26 p q g from Fbp.out.here).g
  obtain ⟨y10a, y10b, y10c, y10d⟩ := Env.cell (env_one (Below.refl _ _) (show Nm _ g_a k from Fba.out.here)) g_a k (by simp)
  go_wp2_with fail
  clear y7a y7b y7c y7d y8a y8b y8c y8d y9a y9b y9c y9d y10a y10b y10c y10d
  refine (isKey_any p q g k true _ PL.out QL.out KL.out VK.out).mono ?_
  rintro e w5 ⟨rfl, hb⟩
  have HB := hid (HB.out.trans (hb.mono HB.out.size))
  have FG := hid (FG.out.on hb)
  have FGq := hid (FGq.out.on hb)
  have FGg := hid (FGg.out.on hb)
  have Fbp := hid (Fbp.out.on hb)
  have FNk := hid (FNk.out.on hb)
  have Fba := hid (Fba.out.on hb)
  have Fs := hid (Fs.out.on hb)
  have FX := hid (FX.out.on hb)
  have FXc := hid (FXc.out.on hb)
  have FXs := hid (FXs.out.on hb)
  have Fbx := hid (Fbx.out.on hb)
  have FbX := hid (FbX.out.on hb)
  have FK := hid (FK.out.on hb)
  clear hb
  go_upto_region 4 with fail
  refine wp_region_noPanic ?_
  refine Goes.region (fun (L : Array Bool) (u : World) => (Instr.loadAt 26 (.pointer (some ⟨g_p, 0, none⟩))).run Tryd.prog u = .ok (gv p q g) u ∧ (Instr.loadAt 24 (.pointer (some ⟨g_a, 0, none⟩))).run Tryd.prog u = .ok (num k) u ∧ (Instr.loadAt 33 (.pointer (some ⟨g_x, 0, none⟩))).run Tryd.prog u = .ok (sgv c s) u ∧ (Instr.loadAt 28 (.pointer (some ⟨g_s, 0, none⟩))).run Tryd.prog u = .ok (.agg (bvs bs).toArray) u ∧ (Instr.loadAt 24 (.pointer (some ⟨g_x, 0, none⟩))).run Tryd.prog u = .ok (num c) u) (by kernel_rfl) ?_
  have hb := (Below.refl w5.heap.size w5).drew
  have HB := hid (HB.out.trans (hb.mono HB.out.size))
  have FG := hid (FG.out.on hb)
  have FGq := hid (FGq.out.on hb)
  have FGg := hid (FGg.out.on hb)
  have Fbp := hid (Fbp.out.on hb)
  have FNk := hid (FNk.out.on hb)
  have Fba := hid (Fba.out.on hb)
  have Fs := hid (Fs.out.on hb)
  have FX := hid (FX.out.on hb)
  have FXc := hid (FXc.out.on hb)
  have FXs := hid (FXs.out.on hb)
  have Fbx := hid (Fbx.out.on hb)
  have FbX := hid (FbX.out.on hb)
  have FK := hid (FK.out.on hb)
  clear hb
  generalize w5.drew = w6 at *
  refine Goes.tk (i := 0) (o := ⟨some 35, _, _, _, _, _⟩) (v := ?_) [] (y := Or.inl ⟨by rfl, ?_⟩) (s := ⟨FG.out.here, FNk.out.here, FX.out.here, Fs.out.here, FXc.out.here⟩) (H := ?_)
  rotate_left
  · intro u hY; go_simp; try with_reducible rfl
  try simp only [putz]
  refine Goes.tk (i := 1) (o := ⟨some 36, _, _, _, _, _⟩) (v := num c) [] (y := Or.inl ⟨by rfl, ?_⟩) (s := ⟨FG.out.here, FNk.out.here, FX.out.here, Fs.out.here, FXc.out.here⟩) (H := ?_)
  · rintro u ⟨up, -, hX⟩; obtain ⟨x0, x1, x2, x3, x4⟩ := hX; exact y_ld _ _ rfl _ _ rfl x4
  try simp only [putz]
  refine Goes.tk (i := 2) (o := ⟨some 37, _, _, _, _, _⟩) (v := gv p q g) [] (y := Or.inl ⟨by rfl, ?_⟩) (s := ⟨FG.out.here, FNk.out.here, FX.out.here, Fs.out.here, FXc.out.here⟩) (H := ?_)
  · rintro u ⟨up, -, hX⟩; obtain ⟨x0, x1, x2, x3, x4⟩ := hX; exact y_ld _ _ rfl _ _ rfl x0
  try simp only [putz]
  refine Goes.tk (i := 3) (o := ⟨some 38, _, _, _, _, _⟩) (v := num k) [] (y := Or.inl ⟨by rfl, ?_⟩) (s := ⟨FG.out.here, FNk.out.here, FX.out.here, Fs.out.here, FXc.out.here⟩) (H := ?_)
  · rintro u ⟨up, -, hX⟩; obtain ⟨x0, x1, x2, x3, x4⟩ := hX; exact y_ld _ _ rfl _ _ rfl x1
  try simp only [putz]
  refine Goes.tk (i := 4) (o := ⟨some 39, _, _, _, _, _⟩) (v := gv p q g) [] (y := Or.inl ⟨by rfl, ?_⟩) (s := ⟨FG.out.here, FNk.out.here, FX.out.here, Fs.out.here, FXc.out.here⟩) (H := ?_)
  · rintro u ⟨up, -, hX⟩; obtain ⟨x0, x1, x2, x3, x4⟩ := hX; exact y_ld _ _ rfl _ _ rfl x0
  try simp only [putz]
  refine Goes.tk (i := 5) (o := ⟨some 40, _, _, _, _, _⟩) (v := num k) [] (y := Or.inl ⟨by rfl, ?_⟩) (s := ⟨FG.out.here, FNk.out.here, FX.out.here, Fs.out.here, FXc.out.here⟩) (H := ?_)
  · rintro u ⟨up, -, hX⟩; obtain ⟨x0, x1, x2, x3, x4⟩ := hX; exact y_ld _ _ rfl _ _ rfl x1
  try simp only [putz]
  refine Goes.tk (i := 6) (o := ⟨some 41, _, _, _, _, _⟩) (v := sgv c s) [] (y := Or.inl ⟨by rfl, ?_⟩) (s := ⟨FG.out.here, FNk.out.here, FX.out.here, Fs.out.here, FXc.out.here⟩) (H := ?_)
  · rintro u ⟨up, -, hX⟩; obtain ⟨x0, x1, x2, x3, x4⟩ := hX; exact y_ld _ _ rfl _ _ rfl x2
  try simp only [putz]
  refine Goes.tk (i := 8) (o := ⟨some 43, _, _, _, _, _⟩) (v := .agg (bvs bs).toArray) [] (y := Or.inl ⟨by rfl, ?_⟩) (s := ⟨FG.out.here, FNk.out.here, FX.out.here, Fs.out.here, FXc.out.here⟩) (H := ?_)
  · rintro u ⟨up, -, hX⟩; obtain ⟨x0, x1, x2, x3, x4⟩ := hX; exact y_ld _ _ rfl _ _ rfl x3
  try simp only [putz]
  refine Goes.one (i := 7) (o := ⟨some 42, _, _, _, _, _⟩) (by kernel_rfl) rfl (fun K hK => ?_)
  go_simp
  with_reducible refine (shownBy_any p q g k c s r _ PL.out QL.out Q0.out SL.out CQ.out VG.out VKI.out ER.out).mono ?_
  rintro e w7 ⟨rfl, hb⟩
  go_wp2_with fail
  have HB := hid (HB.out.trans (hb.mono HB.out.size))
  have FG := hid (FG.out.on hb)
  have FGq := hid (FGq.out.on hb)
  have FGg := hid (FGg.out.on hb)
  have Fbp := hid (Fbp.out.on hb)
  have FNk := hid (FNk.out.on hb)
  have Fba := hid (Fba.out.on hb)
  have Fs := hid (Fs.out.on hb)
  have FX := hid (FX.out.on hb)
  have FXc := hid (FXc.out.on hb)
  have FXs := hid (FXs.out.on hb)
  have Fbx := hid (Fbx.out.on hb)
  have FbX := hid (FbX.out.on hb)
  have FK := hid (FK.out.on hb)
  clear hb
  refine hK.out _ _ ⟨FG.out.here, FNk.out.here, FX.out.here, Fs.out.here, FXc.out.here⟩ ?_
  clear hK K
  try simp only [putz]
  refine Goes.one (i := 9) (o := ⟨some 44, _, _, _, _, _⟩) (by kernel_rfl) rfl (fun K hK => ?_)
  go_simp
  with_reducible refine (chal_any p q g k r bs b _ QL.out KL.out RL.out HBS.out FK.out EB.out).mono ?_
  rintro e w8 ⟨rfl, hb⟩
  go_wp2_with fail
  have HB := hid (HB.out.trans (hb.mono HB.out.size))
  have FG := hid (FG.out.on hb)
  have FGq := hid (FGq.out.on hb)
  have FGg := hid (FGg.out.on hb)
  have Fbp := hid (Fbp.out.on hb)
  have FNk := hid (FNk.out.on hb)
  have Fba := hid (Fba.out.on hb)
  have Fs := hid (Fs.out.on hb)
  have FX := hid (FX.out.on hb)
  have FXc := hid (FXc.out.on hb)
  have FXs := hid (FXs.out.on hb)
  have Fbx := hid (Fbx.out.on hb)
  have FbX := hid (FbX.out.on hb)
  have FK := hid (FK.out.on hb)
  clear hb
  refine hK.out _ _ ⟨FG.out.here, FNk.out.here, FX.out.here, Fs.out.here, FXc.out.here⟩ ?_
  clear hK K
  try simp only [putz]
  refine Goes.tk (i := 10) (o := ⟨some 45, _, _, _, _, _⟩) (v := ?_) [] (y := Or.inl ⟨by rfl, ?_⟩) (s := ⟨FG.out.here, FNk.out.here, FX.out.here, Fs.out.here, FXc.out.here⟩) (H := ?_)
  rotate_left
  · intro u hY; go_simp; try with_reducible rfl
  try simp only [putz]
  refine Goes.tk (i := 11) (o := ⟨some 8, _, _, _, _, _⟩) (v := ?_) [] (y := Or.inl ⟨by rfl, ?_⟩) (s := ⟨FG.out.here, FNk.out.here, FX.out.here, Fs.out.here, FXc.out.here⟩) (H := ?_)
  rotate_left
  · intro u hY; go_simp; try with_reducible rfl
  try simp only [putz]
  refine Goes.done (by kernel_rfl) ?_ _
  refine NoPanic.normal ?_
  go_wp2_with fail
  try rw [Exit.noGoto_ret]
  first | exact bodyPost_ret (v := .bool (v)) (by simp [results, Tryd.results9, go_sem]) rfl ⟨rfl, by first | exact HFIN.out _ HB.out | (rw [hgp]; exact HFIN.out _ HB.out)⟩ | (go_ret; exact ⟨rfl, by rw [hgp]; exact HFIN.out _ HB.out⟩)
/-- does this signature pass, by this key, for this sum? -/
def Chk (p q g k c s : Nat) (bs : List UInt8) : Prop := (1 < q ∧ g ≠ 1 ∧ (0 < g ∧ g < p) ∧ g ^ q % p = 1) ∧ (k ≠ 1 ∧ (0 < k ∧ k < p) ∧ k ^ q % p = 1) ∧ c < q ∧ s < q ∧ c = chl q k (g ^ s % p * (k ^ (q - c) % p) % p) bs
instance (p q g k c s : Nat) (bs : List UInt8) : Decidable (Chk p q g k c s bs) := by unfold Chk; infer_instance
theorem check_any (p q g k c s : Nat) (bs : List UInt8) (v : Bool) (w : World) (hp : p < 2 ^ 256) (hq : q < 2 ^ 256) (hg : g < 2 ^ 256) (hk : k < 2 ^ 256) (hc : c < 2 ^ 256) (hs : s < 2 ^ 256) (hbs : bs.length = 32) (hK : Kt w) (hv : decide (Chk p q g k c s bs) = v) : Calls Tryd.prog 9 #[gv p q g, num k, .agg (bvs bs).toArray, sgv c s] w fun e w' => e = .returned (.bool v) ∧ Below w.heap.size w w' := by
  subst hv
  by_cases h1 : c < q
  · by_cases h2 : s < q
    · by_cases h3 : 1 < q ∧ g ≠ 1 ∧ (0 < g ∧ g < p) ∧ g ^ q % p = 1
      · by_cases h4 : k ≠ 1 ∧ (0 < k ∧ k < p) ∧ k ^ q % p = 1
        · exact check_ok p q g k c s bs _ w hp hq hg hk hc hs hbs hK (decide_eq_decide.2 ⟨fun h => ⟨h3, h4, h1, h2, h⟩, fun h => h.2.2.2.2⟩) ⟨h1, h2, h3, h4⟩
        · rw [decide_eq_false (fun h => h4 h.2.1)]; exact check_k p q g k c s bs w hp hq hg hk hc hs hbs ⟨h1, h2, h3, h4⟩
      · rw [decide_eq_false (fun h => h3 h.1)]; exact check_f p q g k c s bs w hp hq hg hk hc hs hbs ⟨h1, h2, h3⟩
    · rw [decide_eq_false (fun h => h2 h.2.2.2.1)]; exact check_s p q g k c s bs w hp hq hg hk hc hs hbs ⟨h1, h2⟩
  · rw [decide_eq_false (fun h => h1 h.2.2.1)]; exact check_c p q g k c s bs w hp hq hg hk hc hs hbs h1
end Go.Proofs.YtioebjbjpjbodaaDoor
