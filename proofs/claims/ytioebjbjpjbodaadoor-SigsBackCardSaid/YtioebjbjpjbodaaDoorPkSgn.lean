/-
  burrowlaw07.SigsBack, walked: it answers true. Condition: the library's table K lies there.
-/
import Derived.Test.YtioebjbjpjbodaaDoorPkAs
namespace Go.Proofs.YtioebjbjpjbodaaDoor
open Go.RowKit
set_option linter.unusedVariables false
set_option linter.unusedSimpArgs false

set_option maxRecDepth 100000 in
set_option maxHeartbeats 4000000 in
theorem back_none (p q g x : Nat) (bs : List UInt8) (w : World) (hp : p < 2 ^ 256) (hq : q < 2 ^ 256) (hg : g < 2 ^ 256) (hx : x < 2 ^ 256) (hbs : bs.length = 32) (hv : ¬ Sec p q g x) : Calls Tryd.prog 3 #[gv p q g, num x, .agg (bvs bs).toArray] w fun e w' => e = .returned (.bool true) ∧ Below w.heap.size w w' := by
  have VV := hid hv
  have qs := fun w => eq_sig 0 0 w
  have qz : ∀ w, (Op.equalIn 10000 33 (sgv 0 0) (.agg #[.int .u64 0, .int .u64 0, .int .u64 0, .int .u64 0, .int .u64 0, .int .u64 0, .int .u64 0, .int .u64 0])).run Tryd.prog w = .ok true w := fun w => eq_sig 0 0 w
  clear hv
  have PL := hid hp
  have QL := hid hq
  have GL := hid hg
  have XL := hid hx
  have BL := hid hbs
  clear hp hq hg hx
  obtain ⟨hB0, hs0, f0, f1, f2⟩ := boxes3 w (gcs p q g) (cls x) ((bvs bs).toArray) 26 24 28 _ rfl
  have HFIN : Hid (∀ u, Below (((w.alloc (.cells (gcs p q g) 26)).alloc (.cells (cls x) 24)).alloc (.cells ((bvs bs).toArray) 28)).heap.size (((w.alloc (.cells (gcs p q g) 26)).alloc (.cells (cls x) 24)).alloc (.cells ((bvs bs).toArray) 28)) u → Below w.heap.size w u) := hid (fun u hu => hB0.trans (hu.mono hB0.size))
  go_enter Tryd.func3, Tryd.ntmps3
  go_upto_region 1 with fail
  generalize ((w.alloc (.cells (gcs p q g) 26)).alloc (.cells (cls x) 24)).alloc (.cells ((bvs bs).toArray) 28) = W0 at *
  have hb1 := Below.refl W0.heap.size W0
  have HB := hid hb1
  have HZ0 : Hid (W0.heap.size = w.heap.size + 1 + 1 + 1) := hid hs0
  have FG := hid ((ldG p q g 0 f0 (all_at _)).on hb1)
  have FGq := hid ((ldN q 4 f0 (four_at q _ 4 rfl rfl rfl rfl)).on hb1)
  have FGg := hid ((ldN g 8 f0 (four_at g _ 8 rfl rfl rfl rfl)).on hb1)
  have Fbp := hid ((on_blk f0).on hb1)
  have FNx := hid ((ldN x 0 f1 (all_at _)).on hb1)
  have Fba := hid ((on_blk f1).on hb1)
  have Fs := hid ((ldS bs hbs 0 f2 (fun j v h => by rw [Nat.zero_add]; simpa using h)).on hb1)
  clear hB0 hs0 hb1 f0 f1 f2
  generalize w.heap.size + 1 + 1 = g_s at *
  generalize w.heap.size + 1 = g_a at *
  generalize hgp : w.heap.size = g_p at *
  clear hbs
  have l1 := FG.out.here
  have l2 := FNx.out.here
  go_wp2_with (first | (refine wp_ldw (by rfl) _ _ rfl _ rfl _ (by first | exact l1 | exact l2) ?_))
  clear l1 l2
  refine (key_none p q g x _ PL.out QL.out GL.out XL.out VV.out).mono ?_
  rintro e w1 ⟨rfl, hb⟩
  have HB := hid (HB.out.trans (hb.mono HB.out.size))
  have FG := hid (FG.out.on hb)
  have FGq := hid (FGq.out.on hb)
  have FGg := hid (FGg.out.on hb)
  have Fbp := hid (Fbp.out.on hb)
  have FNx := hid (FNx.out.on hb)
  have Fba := hid (Fba.out.on hb)
  have Fs := hid (Fs.out.on hb)
  clear hb
  go_upto_region 2 with fail
  have hb := (Below.refl w1.heap.size w1).alloc (Nat.le_refl _) (.cells (cls 0) 24)
  have hn := heap_alloc_new w1 (.cells (cls 0) 24)
  have HB := hid (HB.out.trans (hb.mono HB.out.size))
  have FG := hid (FG.out.on hb)
  have FGq := hid (FGq.out.on hb)
  have FGg := hid (FGg.out.on hb)
  have Fbp := hid (Fbp.out.on hb)
  have FNx := hid (FNx.out.on hb)
  have Fba := hid (Fba.out.on hb)
  have Fs := hid (Fs.out.on hb)
  have FN7 := hid (ldN 0 0 hn (all_at _))
  have FbN7 := hid (on_blk hn)
  clear hb hn
  generalize w1.alloc (.cells (cls 0) 24) = w2 at *
  generalize w1.heap.size = gN7 at *
  have l3 := FG.out.here
  have l4 := FNx.out.here
  have l5 := Fs.out.here
  go_wp2_with (first | (refine wp_ldw (by rfl) _ _ rfl _ rfl _ (by first | exact l3 | exact l4 | exact l5) ?_))
  clear l3 l4 l5
  refine (sign_none p q g x bs _ PL.out QL.out GL.out XL.out BL.out VV.out).mono ?_
  rintro e w3 ⟨rfl, hb⟩
  have HB := hid (HB.out.trans (hb.mono HB.out.size))
  have FG := hid (FG.out.on hb)
  have FGq := hid (FGq.out.on hb)
  have FGg := hid (FGg.out.on hb)
  have Fbp := hid (Fbp.out.on hb)
  have FNx := hid (FNx.out.on hb)
  have Fba := hid (Fba.out.on hb)
  have Fs := hid (Fs.out.on hb)
  have FN7 := hid (FN7.out.on hb)
  have FbN7 := hid (FbN7.out.on hb)
  clear hb
  go_upto_region 3 with fail
  have hb := (Below.refl w3.heap.size w3).alloc (Nat.le_refl _) (.cells (sgc 0 0) 33)
  have hn := heap_alloc_new w3 (.cells (sgc 0 0) 33)
  have HB := hid (HB.out.trans (hb.mono HB.out.size))
  have FG := hid (FG.out.on hb)
  have FGq := hid (FGq.out.on hb)
  have FGg := hid (FGg.out.on hb)
  have Fbp := hid (Fbp.out.on hb)
  have FNx := hid (FNx.out.on hb)
  have Fba := hid (Fba.out.on hb)
  have Fs := hid (Fs.out.on hb)
  have FN7 := hid (FN7.out.on hb)
  have FbN7 := hid (FbN7.out.on hb)
  have FN9 := hid (ldX 0 0 0 hn (all_at _))
  have FN9c := hid (ldN 0 0 hn (four_at 0 _ 0 rfl rfl rfl rfl))
  have FN9s := hid (ldN 0 4 hn (four_at 0 _ 4 rfl rfl rfl rfl))
  have FbN9 := hid (on_blk hn)
  clear hb hn
  generalize w3.alloc (.cells (sgc 0 0) 33) = w4 at *
  generalize w3.heap.size = gN9 at *
  have l6 := FG.out.here
  have l7 := FNx.out.here
  have l8 := Fs.out.here
  go_wp2_with (first | (refine wp_ldw (by rfl) _ _ rfl _ rfl _ (by first | exact l6 | exact l7 | exact l8) ?_))
  clear l6 l7 l8
  refine (sign_none p q g x bs _ PL.out QL.out GL.out XL.out BL.out VV.out).mono ?_
  rintro e w5 ⟨rfl, hb⟩
  have HB := hid (HB.out.trans (hb.mono HB.out.size))
  have FG := hid (FG.out.on hb)
  have FGq := hid (FGq.out.on hb)
  have FGg := hid (FGg.out.on hb)
  have Fbp := hid (Fbp.out.on hb)
  have FNx := hid (FNx.out.on hb)
  have Fba := hid (Fba.out.on hb)
  have Fs := hid (Fs.out.on hb)
  have FN7 := hid (FN7.out.on hb)
  have FbN7 := hid (FbN7.out.on hb)
  have FN9 := hid (FN9.out.on hb)
  have FN9c := hid (FN9c.out.on hb)
  have FN9s := hid (FN9s.out.on hb)
  have FbN9 := hid (FbN9.out.on hb)
  clear hb
  go_upto_region 4 with fail
  have hb := (Below.refl w5.heap.size w5).alloc (Nat.le_refl _) (.cells (sgc 0 0) 33)
  have hn := heap_alloc_new w5 (.cells (sgc 0 0) 33)
  have HB := hid (HB.out.trans (hb.mono HB.out.size))
  have FG := hid (FG.out.on hb)
  have FGq := hid (FGq.out.on hb)
  have FGg := hid (FGg.out.on hb)
  have Fbp := hid (Fbp.out.on hb)
  have FNx := hid (FNx.out.on hb)
  have Fba := hid (Fba.out.on hb)
  have Fs := hid (Fs.out.on hb)
  have FN7 := hid (FN7.out.on hb)
  have FbN7 := hid (FbN7.out.on hb)
  have FN9 := hid (FN9.out.on hb)
  have FN9c := hid (FN9c.out.on hb)
  have FN9s := hid (FN9s.out.on hb)
  have FbN9 := hid (FbN9.out.on hb)
  have FN11 := hid (ldX 0 0 0 hn (all_at _))
  have FN11c := hid (ldN 0 0 hn (four_at 0 _ 0 rfl rfl rfl rfl))
  have FN11s := hid (ldN 0 4 hn (four_at 0 _ 4 rfl rfl rfl rfl))
  have FbN11 := hid (on_blk hn)
  clear hb hn
  generalize w5.alloc (.cells (sgc 0 0) 33) = w6 at *
  generalize w5.heap.size = gN11 at *
  have l9 := FN9.out.here
  have l10 := FN11.out.here
  go_wp2_with (first | (refine wp_ldw (by rfl) _ _ rfl _ rfl _ (by first | exact l9 | exact l10) ?_))
  clear l9 l10
  refine (lives_any _).mono ?_
  rintro e w7 ⟨rfl, hb⟩
  have HB := hid (HB.out.trans (hb.mono HB.out.size))
  have FG := hid (FG.out.on hb)
  have FGq := hid (FGq.out.on hb)
  have FGg := hid (FGg.out.on hb)
  have Fbp := hid (Fbp.out.on hb)
  have FNx := hid (FNx.out.on hb)
  have Fba := hid (Fba.out.on hb)
  have Fs := hid (Fs.out.on hb)
  have FN7 := hid (FN7.out.on hb)
  have FbN7 := hid (FbN7.out.on hb)
  have FN9 := hid (FN9.out.on hb)
  have FN9c := hid (FN9c.out.on hb)
  have FN9s := hid (FN9s.out.on hb)
  have FbN9 := hid (FbN9.out.on hb)
  have FN11 := hid (FN11.out.on hb)
  have FN11c := hid (FN11c.out.on hb)
  have FN11s := hid (FN11s.out.on hb)
  have FbN11 := hid (FbN11.out.on hb)
  clear hb
  go_wp2_with fail
  try go_ret
  try rw [Exit.noGoto_ret]
  first | exact ⟨rfl, by first | exact HFIN.out _ HB.out | (rw [hgp]; exact HFIN.out _ HB.out)⟩ | exact bodyPost_ret (v := .bool (true)) (by simp [results, Tryd.results3, go_sem]) rfl ⟨rfl, by first | exact HFIN.out _ HB.out | (rw [hgp]; exact HFIN.out _ HB.out)⟩
set_option maxRecDepth 100000 in
set_option maxHeartbeats 4000000 in
theorem back_one (p q g x : Nat) (bs : List UInt8) (w : World) (hp : p < 2 ^ 256) (hq : q < 2 ^ 256) (hg : g < 2 ^ 256) (hx : x < 2 ^ 256) (hbs : bs.length = 32) (hK : Kt w) (hv : Sec p q g x) (h1 : g ^ x % p = 1) : Calls Tryd.prog 3 #[gv p q g, num x, .agg (bvs bs).toArray] w fun e w' => e = .returned (.bool true) ∧ Below w.heap.size w w' := by
  have VV := hid hv
  obtain ⟨k, ek⟩ : ∃ k, g ^ x % p = k := ⟨_, rfl⟩
  obtain ⟨c, ec⟩ : ∃ c, sigC p q g x bs = c := ⟨_, rfl⟩
  obtain ⟨t, et⟩ : ∃ t, sigS p q g x bs = t := ⟨_, rfl⟩
  have hk : k < 2 ^ 256 := Nat.lt_trans (ek ▸ Nat.mod_lt _ (by have := hv.2.2.2.2.1; omega)) hp
  have qn := eq_none q hq (by have := hv.2.2.1; omega)
  rw [ek] at h1
  have q1 := eq_yes k 1 h1
  have qs := fun w => eq_sig c t w
  have EK := hid ek
  have EC := hid ec
  have ET := hid et
  have KL := hid hk
  clear hv h1 ek ec et hk
  have PL := hid hp
  have QL := hid hq
  have GL := hid hg
  have XL := hid hx
  have BL := hid hbs
  clear hp hq hg hx
  obtain ⟨hB0, hs0, f0, f1, f2⟩ := boxes3 w (gcs p q g) (cls x) ((bvs bs).toArray) 26 24 28 _ rfl
  have HFIN : Hid (∀ u, Below (((w.alloc (.cells (gcs p q g) 26)).alloc (.cells (cls x) 24)).alloc (.cells ((bvs bs).toArray) 28)).heap.size (((w.alloc (.cells (gcs p q g) 26)).alloc (.cells (cls x) 24)).alloc (.cells ((bvs bs).toArray) 28)) u → Below w.heap.size w u) := hid (fun u hu => hB0.trans (hu.mono hB0.size))
  have HKT := hid (hK.on hB0)
  clear hK
  go_enter Tryd.func3, Tryd.ntmps3
  go_upto_region 1 with fail
  generalize ((w.alloc (.cells (gcs p q g) 26)).alloc (.cells (cls x) 24)).alloc (.cells ((bvs bs).toArray) 28) = W0 at *
  have hb1 := Below.refl W0.heap.size W0
  have HB := hid hb1
  have HZ0 : Hid (W0.heap.size = w.heap.size + 1 + 1 + 1) := hid hs0
  have FG := hid ((ldG p q g 0 f0 (all_at _)).on hb1)
  have FGq := hid ((ldN q 4 f0 (four_at q _ 4 rfl rfl rfl rfl)).on hb1)
  have FGg := hid ((ldN g 8 f0 (four_at g _ 8 rfl rfl rfl rfl)).on hb1)
  have Fbp := hid ((on_blk f0).on hb1)
  have FNx := hid ((ldN x 0 f1 (all_at _)).on hb1)
  have Fba := hid ((on_blk f1).on hb1)
  have Fs := hid ((ldS bs hbs 0 f2 (fun j v h => by rw [Nat.zero_add]; simpa using h)).on hb1)
  have FK := hid (HKT.out.on hb1)
  clear HKT
  clear hB0 hs0 hb1 f0 f1 f2
  generalize w.heap.size + 1 + 1 = g_s at *
  generalize w.heap.size + 1 = g_a at *
  generalize hgp : w.heap.size = g_p at *
  clear hbs
  have l1 := FG.out.here
  have l2 := FNx.out.here
  go_wp2_with (first | (refine wp_ldw (by rfl) _ _ rfl _ rfl _ (by first | exact l1 | exact l2) ?_))
  clear l1 l2
  refine (key_ok p q g x k _ PL.out QL.out GL.out XL.out VV.out EK.out).mono ?_
  rintro e w1 ⟨rfl, hb⟩
  have HB := hid (HB.out.trans (hb.mono HB.out.size))
  have FG := hid (FG.out.on hb)
  have FGq := hid (FGq.out.on hb)
  have FGg := hid (FGg.out.on hb)
  have Fbp := hid (Fbp.out.on hb)
  have FNx := hid (FNx.out.on hb)
  have Fba := hid (Fba.out.on hb)
  have Fs := hid (Fs.out.on hb)
  have FK := hid (FK.out.on hb)
  clear hb
  go_upto_region 2 with fail
  have hb := (Below.refl w1.heap.size w1).alloc (Nat.le_refl _) (.cells (cls k) 24)
  have hn := heap_alloc_new w1 (.cells (cls k) 24)
  have HB := hid (HB.out.trans (hb.mono HB.out.size))
  have FG := hid (FG.out.on hb)
  have FGq := hid (FGq.out.on hb)
  have FGg := hid (FGg.out.on hb)
  have Fbp := hid (Fbp.out.on hb)
  have FNx := hid (FNx.out.on hb)
  have Fba := hid (Fba.out.on hb)
  have Fs := hid (Fs.out.on hb)
  have FK := hid (FK.out.on hb)
  have FN7 := hid (ldN k 0 hn (all_at _))
  have FbN7 := hid (on_blk hn)
  clear hb hn
  generalize w1.alloc (.cells (cls k) 24) = w2 at *
  generalize w1.heap.size = gN7 at *
  have l3 := FG.out.here
  have l4 := FNx.out.here
  have l5 := Fs.out.here
  go_wp2_with (first | (refine wp_ldw (by rfl) _ _ rfl _ rfl _ (by first | exact l3 | exact l4 | exact l5) ?_))
  clear l3 l4 l5
  refine (sign_ok p q g x c t bs _ PL.out QL.out GL.out XL.out BL.out FK.out VV.out EC.out ET.out).mono ?_
  rintro e w3 ⟨rfl, hb⟩
  have HB := hid (HB.out.trans (hb.mono HB.out.size))
  have FG := hid (FG.out.on hb)
  have FGq := hid (FGq.out.on hb)
  have FGg := hid (FGg.out.on hb)
  have Fbp := hid (Fbp.out.on hb)
  have FNx := hid (FNx.out.on hb)
  have Fba := hid (Fba.out.on hb)
  have Fs := hid (Fs.out.on hb)
  have FN7 := hid (FN7.out.on hb)
  have FbN7 := hid (FbN7.out.on hb)
  have FK := hid (FK.out.on hb)
  clear hb
  go_upto_region 3 with fail
  have hb := (Below.refl w3.heap.size w3).alloc (Nat.le_refl _) (.cells (sgc c t) 33)
  have hn := heap_alloc_new w3 (.cells (sgc c t) 33)
  have HB := hid (HB.out.trans (hb.mono HB.out.size))
  have FG := hid (FG.out.on hb)
  have FGq := hid (FGq.out.on hb)
  have FGg := hid (FGg.out.on hb)
  have Fbp := hid (Fbp.out.on hb)
  have FNx := hid (FNx.out.on hb)
  have Fba := hid (Fba.out.on hb)
  have Fs := hid (Fs.out.on hb)
  have FN7 := hid (FN7.out.on hb)
  have FbN7 := hid (FbN7.out.on hb)
  have FK := hid (FK.out.on hb)
  have FN9 := hid (ldX c t 0 hn (all_at _))
  have FN9c := hid (ldN c 0 hn (four_at c _ 0 rfl rfl rfl rfl))
  have FN9s := hid (ldN t 4 hn (four_at t _ 4 rfl rfl rfl rfl))
  have FbN9 := hid (on_blk hn)
  clear hb hn
  generalize w3.alloc (.cells (sgc c t) 33) = w4 at *
  generalize w3.heap.size = gN9 at *
  have l6 := FG.out.here
  have l7 := FNx.out.here
  have l8 := Fs.out.here
  go_wp2_with (first | (refine wp_ldw (by rfl) _ _ rfl _ rfl _ (by first | exact l6 | exact l7 | exact l8) ?_))
  clear l6 l7 l8
  refine (sign_ok p q g x c t bs _ PL.out QL.out GL.out XL.out BL.out FK.out VV.out EC.out ET.out).mono ?_
  rintro e w5 ⟨rfl, hb⟩
  have HB := hid (HB.out.trans (hb.mono HB.out.size))
  have FG := hid (FG.out.on hb)
  have FGq := hid (FGq.out.on hb)
  have FGg := hid (FGg.out.on hb)
  have Fbp := hid (Fbp.out.on hb)
  have FNx := hid (FNx.out.on hb)
  have Fba := hid (Fba.out.on hb)
  have Fs := hid (Fs.out.on hb)
  have FN7 := hid (FN7.out.on hb)
  have FbN7 := hid (FbN7.out.on hb)
  have FN9 := hid (FN9.out.on hb)
  have FN9c := hid (FN9c.out.on hb)
  have FN9s := hid (FN9s.out.on hb)
  have FbN9 := hid (FbN9.out.on hb)
  have FK := hid (FK.out.on hb)
  clear hb
  go_upto_region 4 with fail
  have hb := (Below.refl w5.heap.size w5).alloc (Nat.le_refl _) (.cells (sgc c t) 33)
  have hn := heap_alloc_new w5 (.cells (sgc c t) 33)
  have HB := hid (HB.out.trans (hb.mono HB.out.size))
  have FG := hid (FG.out.on hb)
  have FGq := hid (FGq.out.on hb)
  have FGg := hid (FGg.out.on hb)
  have Fbp := hid (Fbp.out.on hb)
  have FNx := hid (FNx.out.on hb)
  have Fba := hid (Fba.out.on hb)
  have Fs := hid (Fs.out.on hb)
  have FN7 := hid (FN7.out.on hb)
  have FbN7 := hid (FbN7.out.on hb)
  have FN9 := hid (FN9.out.on hb)
  have FN9c := hid (FN9c.out.on hb)
  have FN9s := hid (FN9s.out.on hb)
  have FbN9 := hid (FbN9.out.on hb)
  have FK := hid (FK.out.on hb)
  have FN11 := hid (ldX c t 0 hn (all_at _))
  have FN11c := hid (ldN c 0 hn (four_at c _ 0 rfl rfl rfl rfl))
  have FN11s := hid (ldN t 4 hn (four_at t _ 4 rfl rfl rfl rfl))
  have FbN11 := hid (on_blk hn)
  clear hb hn
  generalize w5.alloc (.cells (sgc c t) 33) = w6 at *
  generalize w5.heap.size = gN11 at *
  have l9 := FN9.out.here
  have l10 := FN11.out.here
  go_upto_region 8 with (first | (refine wp_ldw (by rfl) _ _ rfl _ rfl _ (by first | exact l9 | exact l10) ?_))
  clear l9 l10
  refine wp_region_noPanic ?_
  refine Goes.region (fun (L : Array Bool) (u : World) => (Instr.loadAt 24 (.pointer (some ⟨g_p, 4, none⟩))).run Tryd.prog u = .ok (num q) u ∧ (Instr.loadAt 24 (.pointer (some ⟨gN7, 0, none⟩))).run Tryd.prog u = .ok (num k) u) (by kernel_rfl) ?_
  have hb := (Below.refl w6.heap.size w6).drew
  have HB := hid (HB.out.trans (hb.mono HB.out.size))
  have FG := hid (FG.out.on hb)
  have FGq := hid (FGq.out.on hb)
  have FGg := hid (FGg.out.on hb)
  have Fbp := hid (Fbp.out.on hb)
  have FNx := hid (FNx.out.on hb)
  have Fba := hid (Fba.out.on hb)
  have Fs := hid (Fs.out.on hb)
  have FN7 := hid (FN7.out.on hb)
  have FbN7 := hid (FbN7.out.on hb)
  have FN9 := hid (FN9.out.on hb)
  have FN9c := hid (FN9c.out.on hb)
  have FN9s := hid (FN9s.out.on hb)
  have FbN9 := hid (FbN9.out.on hb)
  have FN11 := hid (FN11.out.on hb)
  have FN11c := hid (FN11c.out.on hb)
  have FN11s := hid (FN11s.out.on hb)
  have FbN11 := hid (FbN11.out.on hb)
  have FK := hid (FK.out.on hb)
  clear hb
  generalize w6.drew = w7 at *
  refine Goes.tk (i := 0) (o := ⟨some 58, _, _, _, _, _⟩) (v := ?_) [] (y := Or.inl ⟨by rfl, ?_⟩) (s := ⟨FGq.out.here, FN7.out.here⟩) (H := ?_)
  rotate_left
  · intro u hY; go_simp; try with_reducible rfl
  try simp only [putz]
  refine Goes.tk (i := 1) (o := ⟨some 59, _, _, _, _, _⟩) (v := num q) [] (y := Or.inl ⟨by rfl, ?_⟩) (s := ⟨FGq.out.here, FN7.out.here⟩) (H := ?_)
  · rintro u ⟨up, -, hX⟩; obtain ⟨x0, x1⟩ := hX; exact y_ld _ _ rfl _ _ rfl x0
  try simp only [putz]
  refine Goes.tk (i := 2) (o := ⟨some 60, _, _, _, _, _⟩) (v := ?_) [] (y := Or.inl ⟨by rfl, ?_⟩) (s := ⟨FGq.out.here, FN7.out.here⟩) (H := ?_)
  rotate_left
  · intro u hY; go_simp; try with_reducible rfl
  try simp only [putz]
  refine Goes.tk (i := 3) (o := ⟨some 61, _, _, _, _, _⟩) (v := ?_) [] (y := Or.inl ⟨by rfl, ?_⟩) (s := ⟨FGq.out.here, FN7.out.here⟩) (H := ?_)
  rotate_left
  · intro u hY; go_simp; try with_reducible rfl
  try simp only [putz]
  refine Goes.tk (i := 4) (o := ⟨some 62, _, _, _, _, _⟩) (v := ?_) [] (y := Or.inl ⟨by rfl, ?_⟩) (s := ⟨FGq.out.here, FN7.out.here⟩) (H := ?_)
  rotate_left
  · intro u hY; go_simp; try with_reducible rfl
  try simp only [putz]
  refine Goes.tk (i := 5) (o := ⟨some 63, _, _, _, _, _⟩) (v := num k) [] (y := Or.inl ⟨by rfl, ?_⟩) (s := ⟨FGq.out.here, FN7.out.here⟩) (H := ?_)
  · rintro u ⟨up, -, hX⟩; obtain ⟨x0, x1⟩ := hX; exact y_ld _ _ rfl _ _ rfl x1
  try simp only [putz]
  refine Goes.one (i := 6) (o := ⟨some 64, _, _, _, _, _⟩) (by kernel_rfl) rfl (fun K hK => ?_)
  go_simp
  with_reducible refine (lofb 1 1 _ (by decide) rfl).mono ?_
  rintro e w8 ⟨rfl, hb⟩
  go_wp2_with fail
  have HB := hid (HB.out.trans (hb.mono HB.out.size))
  have FG := hid (FG.out.on hb)
  have FGq := hid (FGq.out.on hb)
  have FGg := hid (FGg.out.on hb)
  have Fbp := hid (Fbp.out.on hb)
  have FNx := hid (FNx.out.on hb)
  have Fba := hid (Fba.out.on hb)
  have Fs := hid (Fs.out.on hb)
  have FN7 := hid (FN7.out.on hb)
  have FbN7 := hid (FbN7.out.on hb)
  have FN9 := hid (FN9.out.on hb)
  have FN9c := hid (FN9c.out.on hb)
  have FN9s := hid (FN9s.out.on hb)
  have FbN9 := hid (FbN9.out.on hb)
  have FN11 := hid (FN11.out.on hb)
  have FN11c := hid (FN11c.out.on hb)
  have FN11s := hid (FN11s.out.on hb)
  have FbN11 := hid (FbN11.out.on hb)
  have FK := hid (FK.out.on hb)
  clear hb
  refine hK.out _ _ ⟨FGq.out.here, FN7.out.here⟩ ?_
  clear hK K
  try simp only [putz]
  refine Goes.tk (i := 7) (o := ⟨some 65, _, _, _, _, _⟩) (v := ?_) [] (y := Or.inl ⟨by rfl, ?_⟩) (s := ⟨FGq.out.here, FN7.out.here⟩) (H := ?_)
  rotate_left
  · intro u hY; go_simp; try with_reducible rfl
  try simp only [putz]
  refine Goes.tk (i := 8) (o := ⟨some 66, _, _, _, _, _⟩) (v := ?_) [] (y := Or.inl ⟨by rfl, ?_⟩) (s := ⟨FGq.out.here, FN7.out.here⟩) (H := ?_)
  rotate_left
  · intro u hY; go_simp; try with_reducible rfl
  try simp only [putz]
  refine Goes.done (by kernel_rfl) ?_ _
  refine NoPanic.normal ?_
  go_wp2_with fail
  refine (lives_any _).mono ?_
  rintro e w9 ⟨rfl, hb⟩
  have HB := hid (HB.out.trans (hb.mono HB.out.size))
  have FG := hid (FG.out.on hb)
  have FGq := hid (FGq.out.on hb)
  have FGg := hid (FGg.out.on hb)
  have Fbp := hid (Fbp.out.on hb)
  have FNx := hid (FNx.out.on hb)
  have Fba := hid (Fba.out.on hb)
  have Fs := hid (Fs.out.on hb)
  have FN7 := hid (FN7.out.on hb)
  have FbN7 := hid (FbN7.out.on hb)
  have FN9 := hid (FN9.out.on hb)
  have FN9c := hid (FN9c.out.on hb)
  have FN9s := hid (FN9s.out.on hb)
  have FbN9 := hid (FbN9.out.on hb)
  have FN11 := hid (FN11.out.on hb)
  have FN11c := hid (FN11c.out.on hb)
  have FN11s := hid (FN11s.out.on hb)
  have FbN11 := hid (FbN11.out.on hb)
  have FK := hid (FK.out.on hb)
  clear hb
  go_wp2_with fail
  try go_ret
  try rw [Exit.noGoto_ret]
  first | exact ⟨rfl, by first | exact HFIN.out _ HB.out | (rw [hgp]; exact HFIN.out _ HB.out)⟩ | exact bodyPost_ret (v := .bool (true)) (by simp [results, Tryd.results3, go_sem]) rfl ⟨rfl, by first | exact HFIN.out _ HB.out | (rw [hgp]; exact HFIN.out _ HB.out)⟩
set_option maxRecDepth 100000 in
set_option maxHeartbeats 4000000 in
theorem back_ok (p q g x : Nat) (bs : List UInt8) (w : World) (hp : p < 2 ^ 256) (hq : q < 2 ^ 256) (hg : g < 2 ^ 256) (hx : x < 2 ^ 256) (hbs : bs.length = 32) (hK : Kt w) (hv : Sec p q g x) (h1 : g ^ x % p ≠ 1) : Calls Tryd.prog 3 #[gv p q g, num x, .agg (bvs bs).toArray] w fun e w' => e = .returned (.bool true) ∧ Below w.heap.size w w' := by
  have VV := hid hv
  obtain ⟨k, ek⟩ : ∃ k, g ^ x % p = k := ⟨_, rfl⟩
  obtain ⟨c, ec⟩ : ∃ c, sigC p q g x bs = c := ⟨_, rfl⟩
  obtain ⟨t, et⟩ : ∃ t, sigS p q g x bs = t := ⟨_, rfl⟩
  have hk : k < 2 ^ 256 := Nat.lt_trans (ek ▸ Nat.mod_lt _ (by have := hv.2.2.2.2.1; omega)) hp
  have qn := eq_none q hq (by have := hv.2.2.1; omega)
  have hck := back_chk p q g x bs hv h1
  rw [ek, ec, et] at hck
  rw [ek] at h1
  have q1 := eq_no k 1 hk (by decide) h1
  have VC : Hid (decide (Chk p q g k c t bs) = true) := hid (decide_eq_true hck)
  have CL := hid (show c < 2 ^ 256 from Nat.lt_trans hck.2.2.1 hq)
  have TL := hid (show t < 2 ^ 256 from Nat.lt_trans hck.2.2.2.1 hq)
  clear hck
  have qs := fun w => eq_sig c t w
  have EK := hid ek
  have EC := hid ec
  have ET := hid et
  have KL := hid hk
  clear hv h1 ek ec et hk
  have PL := hid hp
  have QL := hid hq
  have GL := hid hg
  have XL := hid hx
  have BL := hid hbs
  clear hp hq hg hx
  obtain ⟨hB0, hs0, f0, f1, f2⟩ := boxes3 w (gcs p q g) (cls x) ((bvs bs).toArray) 26 24 28 _ rfl
  have HFIN : Hid (∀ u, Below (((w.alloc (.cells (gcs p q g) 26)).alloc (.cells (cls x) 24)).alloc (.cells ((bvs bs).toArray) 28)).heap.size (((w.alloc (.cells (gcs p q g) 26)).alloc (.cells (cls x) 24)).alloc (.cells ((bvs bs).toArray) 28)) u → Below w.heap.size w u) := hid (fun u hu => hB0.trans (hu.mono hB0.size))
  have HKT := hid (hK.on hB0)
  clear hK
  go_enter Tryd.func3, Tryd.ntmps3
  go_upto_region 1 with fail
  generalize ((w.alloc (.cells (gcs p q g) 26)).alloc (.cells (cls x) 24)).alloc (.cells ((bvs bs).toArray) 28) = W0 at *
  have hb1 := Below.refl W0.heap.size W0
  have HB := hid hb1
  have HZ0 : Hid (W0.heap.size = w.heap.size + 1 + 1 + 1) := hid hs0
  have FG := hid ((ldG p q g 0 f0 (all_at _)).on hb1)
  have FGq := hid ((ldN q 4 f0 (four_at q _ 4 rfl rfl rfl rfl)).on hb1)
  have FGg := hid ((ldN g 8 f0 (four_at g _ 8 rfl rfl rfl rfl)).on hb1)
  have Fbp := hid ((on_blk f0).on hb1)
  have FNx := hid ((ldN x 0 f1 (all_at _)).on hb1)
  have Fba := hid ((on_blk f1).on hb1)
  have Fs := hid ((ldS bs hbs 0 f2 (fun j v h => by rw [Nat.zero_add]; simpa using h)).on hb1)
  have FK := hid (HKT.out.on hb1)
  clear HKT
  clear hB0 hs0 hb1 f0 f1 f2
  generalize w.heap.size + 1 + 1 = g_s at *
  generalize w.heap.size + 1 = g_a at *
  generalize hgp : w.heap.size = g_p at *
  clear hbs
  have l1 := FG.out.here
  have l2 := FNx.out.here
  go_wp2_with (first | (refine wp_ldw (by rfl) _ _ rfl _ rfl _ (by first | exact l1 | exact l2) ?_))
  clear l1 l2
  refine (key_ok p q g x k _ PL.out QL.out GL.out XL.out VV.out EK.out).mono ?_
  rintro e w1 ⟨rfl, hb⟩
  have HB := hid (HB.out.trans (hb.mono HB.out.size))
  have FG := hid (FG.out.on hb)
  have FGq := hid (FGq.out.on hb)
  have FGg := hid (FGg.out.on hb)
  have Fbp := hid (Fbp.out.on hb)
  have FNx := hid (FNx.out.on hb)
  have Fba := hid (Fba.out.on hb)
  have Fs := hid (Fs.out.on hb)
  have FK := hid (FK.out.on hb)
  clear hb
  go_upto_region 2 with fail
  have hb := (Below.refl w1.heap.size w1).alloc (Nat.le_refl _) (.cells (cls k) 24)
  have hn := heap_alloc_new w1 (.cells (cls k) 24)
  have HB := hid (HB.out.trans (hb.mono HB.out.size))
  have FG := hid (FG.out.on hb)
  have FGq := hid (FGq.out.on hb)
  have FGg := hid (FGg.out.on hb)
  have Fbp := hid (Fbp.out.on hb)
  have FNx := hid (FNx.out.on hb)
  have Fba := hid (Fba.out.on hb)
  have Fs := hid (Fs.out.on hb)
  have FK := hid (FK.out.on hb)
  have FN7 := hid (ldN k 0 hn (all_at _))
  have FbN7 := hid (on_blk hn)
  clear hb hn
  generalize w1.alloc (.cells (cls k) 24) = w2 at *
  generalize w1.heap.size = gN7 at *
  have l3 := FG.out.here
  have l4 := FNx.out.here
  have l5 := Fs.out.here
  go_wp2_with (first | (refine wp_ldw (by rfl) _ _ rfl _ rfl _ (by first | exact l3 | exact l4 | exact l5) ?_))
  clear l3 l4 l5
  refine (sign_ok p q g x c t bs _ PL.out QL.out GL.out XL.out BL.out FK.out VV.out EC.out ET.out).mono ?_
  rintro e w3 ⟨rfl, hb⟩
  have HB := hid (HB.out.trans (hb.mono HB.out.size))
  have FG := hid (FG.out.on hb)
  have FGq := hid (FGq.out.on hb)
  have FGg := hid (FGg.out.on hb)
  have Fbp := hid (Fbp.out.on hb)
  have FNx := hid (FNx.out.on hb)
  have Fba := hid (Fba.out.on hb)
  have Fs := hid (Fs.out.on hb)
  have FN7 := hid (FN7.out.on hb)
  have FbN7 := hid (FbN7.out.on hb)
  have FK := hid (FK.out.on hb)
  clear hb
  go_upto_region 3 with fail
  have hb := (Below.refl w3.heap.size w3).alloc (Nat.le_refl _) (.cells (sgc c t) 33)
  have hn := heap_alloc_new w3 (.cells (sgc c t) 33)
  have HB := hid (HB.out.trans (hb.mono HB.out.size))
  have FG := hid (FG.out.on hb)
  have FGq := hid (FGq.out.on hb)
  have FGg := hid (FGg.out.on hb)
  have Fbp := hid (Fbp.out.on hb)
  have FNx := hid (FNx.out.on hb)
  have Fba := hid (Fba.out.on hb)
  have Fs := hid (Fs.out.on hb)
  have FN7 := hid (FN7.out.on hb)
  have FbN7 := hid (FbN7.out.on hb)
  have FK := hid (FK.out.on hb)
  have FN9 := hid (ldX c t 0 hn (all_at _))
  have FN9c := hid (ldN c 0 hn (four_at c _ 0 rfl rfl rfl rfl))
  have FN9s := hid (ldN t 4 hn (four_at t _ 4 rfl rfl rfl rfl))
  have FbN9 := hid (on_blk hn)
  clear hb hn
  generalize w3.alloc (.cells (sgc c t) 33) = w4 at *
  generalize w3.heap.size = gN9 at *
  have l6 := FG.out.here
  have l7 := FNx.out.here
  have l8 := Fs.out.here
  go_wp2_with (first | (refine wp_ldw (by rfl) _ _ rfl _ rfl _ (by first | exact l6 | exact l7 | exact l8) ?_))
  clear l6 l7 l8
  refine (sign_ok p q g x c t bs _ PL.out QL.out GL.out XL.out BL.out FK.out VV.out EC.out ET.out).mono ?_
  rintro e w5 ⟨rfl, hb⟩
  have HB := hid (HB.out.trans (hb.mono HB.out.size))
  have FG := hid (FG.out.on hb)
  have FGq := hid (FGq.out.on hb)
  have FGg := hid (FGg.out.on hb)
  have Fbp := hid (Fbp.out.on hb)
  have FNx := hid (FNx.out.on hb)
  have Fba := hid (Fba.out.on hb)
  have Fs := hid (Fs.out.on hb)
  have FN7 := hid (FN7.out.on hb)
  have FbN7 := hid (FbN7.out.on hb)
  have FN9 := hid (FN9.out.on hb)
  have FN9c := hid (FN9c.out.on hb)
  have FN9s := hid (FN9s.out.on hb)
  have FbN9 := hid (FbN9.out.on hb)
  have FK := hid (FK.out.on hb)
  clear hb
  go_upto_region 4 with fail
  have hb := (Below.refl w5.heap.size w5).alloc (Nat.le_refl _) (.cells (sgc c t) 33)
  have hn := heap_alloc_new w5 (.cells (sgc c t) 33)
  have HB := hid (HB.out.trans (hb.mono HB.out.size))
  have FG := hid (FG.out.on hb)
  have FGq := hid (FGq.out.on hb)
  have FGg := hid (FGg.out.on hb)
  have Fbp := hid (Fbp.out.on hb)
  have FNx := hid (FNx.out.on hb)
  have Fba := hid (Fba.out.on hb)
  have Fs := hid (Fs.out.on hb)
  have FN7 := hid (FN7.out.on hb)
  have FbN7 := hid (FbN7.out.on hb)
  have FN9 := hid (FN9.out.on hb)
  have FN9c := hid (FN9c.out.on hb)
  have FN9s := hid (FN9s.out.on hb)
  have FbN9 := hid (FbN9.out.on hb)
  have FK := hid (FK.out.on hb)
  have FN11 := hid (ldX c t 0 hn (all_at _))
  have FN11c := hid (ldN c 0 hn (four_at c _ 0 rfl rfl rfl rfl))
  have FN11s := hid (ldN t 4 hn (four_at t _ 4 rfl rfl rfl rfl))
  have FbN11 := hid (on_blk hn)
  clear hb hn
  generalize w5.alloc (.cells (sgc c t) 33) = w6 at *
  generalize w5.heap.size = gN11 at *
  have l9 := FN9.out.here
  have l10 := FN11.out.here
  go_upto_region 8 with (first | (refine wp_ldw (by rfl) _ _ rfl _ rfl _ (by first | exact l9 | exact l10) ?_))
  clear l9 l10
  refine wp_region_noPanic ?_
  refine Goes.region (fun (L : Array Bool) (u : World) => (Instr.loadAt 24 (.pointer (some ⟨g_p, 4, none⟩))).run Tryd.prog u = .ok (num q) u ∧ (Instr.loadAt 24 (.pointer (some ⟨gN7, 0, none⟩))).run Tryd.prog u = .ok (num k) u) (by kernel_rfl) ?_
  have hb := (Below.refl w6.heap.size w6).drew
  have HB := hid (HB.out.trans (hb.mono HB.out.size))
  have FG := hid (FG.out.on hb)
  have FGq := hid (FGq.out.on hb)
  have FGg := hid (FGg.out.on hb)
  have Fbp := hid (Fbp.out.on hb)
  have FNx := hid (FNx.out.on hb)
  have Fba := hid (Fba.out.on hb)
  have Fs := hid (Fs.out.on hb)
  have FN7 := hid (FN7.out.on hb)
  have FbN7 := hid (FbN7.out.on hb)
  have FN9 := hid (FN9.out.on hb)
  have FN9c := hid (FN9c.out.on hb)
  have FN9s := hid (FN9s.out.on hb)
  have FbN9 := hid (FbN9.out.on hb)
  have FN11 := hid (FN11.out.on hb)
  have FN11c := hid (FN11c.out.on hb)
  have FN11s := hid (FN11s.out.on hb)
  have FbN11 := hid (FbN11.out.on hb)
  have FK := hid (FK.out.on hb)
  clear hb
  generalize w6.drew = w7 at *
  refine Goes.tk (i := 0) (o := ⟨some 58, _, _, _, _, _⟩) (v := ?_) [] (y := Or.inl ⟨by rfl, ?_⟩) (s := ⟨FGq.out.here, FN7.out.here⟩) (H := ?_)
  rotate_left
  · intro u hY; go_simp; try with_reducible rfl
  try simp only [putz]
  refine Goes.tk (i := 1) (o := ⟨some 59, _, _, _, _, _⟩) (v := num q) [] (y := Or.inl ⟨by rfl, ?_⟩) (s := ⟨FGq.out.here, FN7.out.here⟩) (H := ?_)
  · rintro u ⟨up, -, hX⟩; obtain ⟨x0, x1⟩ := hX; exact y_ld _ _ rfl _ _ rfl x0
  try simp only [putz]
  refine Goes.tk (i := 2) (o := ⟨some 60, _, _, _, _, _⟩) (v := ?_) [] (y := Or.inl ⟨by rfl, ?_⟩) (s := ⟨FGq.out.here, FN7.out.here⟩) (H := ?_)
  rotate_left
  · intro u hY; go_simp; try with_reducible rfl
  try simp only [putz]
  refine Goes.tk (i := 3) (o := ⟨some 61, _, _, _, _, _⟩) (v := ?_) [] (y := Or.inl ⟨by rfl, ?_⟩) (s := ⟨FGq.out.here, FN7.out.here⟩) (H := ?_)
  rotate_left
  · intro u hY; go_simp; try with_reducible rfl
  try simp only [putz]
  refine Goes.tk (i := 4) (o := ⟨some 62, _, _, _, _, _⟩) (v := ?_) [] (y := Or.inl ⟨by rfl, ?_⟩) (s := ⟨FGq.out.here, FN7.out.here⟩) (H := ?_)
  rotate_left
  · intro u hY; go_simp; try with_reducible rfl
  try simp only [putz]
  refine Goes.tk (i := 5) (o := ⟨some 63, _, _, _, _, _⟩) (v := num k) [] (y := Or.inl ⟨by rfl, ?_⟩) (s := ⟨FGq.out.here, FN7.out.here⟩) (H := ?_)
  · rintro u ⟨up, -, hX⟩; obtain ⟨x0, x1⟩ := hX; exact y_ld _ _ rfl _ _ rfl x1
  try simp only [putz]
  refine Goes.one (i := 6) (o := ⟨some 64, _, _, _, _, _⟩) (by kernel_rfl) rfl (fun K hK => ?_)
  go_simp
  with_reducible refine (lofb 1 1 _ (by decide) rfl).mono ?_
  rintro e w8 ⟨rfl, hb⟩
  go_wp2_with fail
  have HB := hid (HB.out.trans (hb.mono HB.out.size))
  have FG := hid (FG.out.on hb)
  have FGq := hid (FGq.out.on hb)
  have FGg := hid (FGg.out.on hb)
  have Fbp := hid (Fbp.out.on hb)
  have FNx := hid (FNx.out.on hb)
  have Fba := hid (Fba.out.on hb)
  have Fs := hid (Fs.out.on hb)
  have FN7 := hid (FN7.out.on hb)
  have FbN7 := hid (FbN7.out.on hb)
  have FN9 := hid (FN9.out.on hb)
  have FN9c := hid (FN9c.out.on hb)
  have FN9s := hid (FN9s.out.on hb)
  have FbN9 := hid (FbN9.out.on hb)
  have FN11 := hid (FN11.out.on hb)
  have FN11c := hid (FN11c.out.on hb)
  have FN11s := hid (FN11s.out.on hb)
  have FbN11 := hid (FbN11.out.on hb)
  have FK := hid (FK.out.on hb)
  clear hb
  refine hK.out _ _ ⟨FGq.out.here, FN7.out.here⟩ ?_
  clear hK K
  try simp only [putz]
  refine Goes.tk (i := 7) (o := ⟨some 65, _, _, _, _, _⟩) (v := ?_) [] (y := Or.inl ⟨by rfl, ?_⟩) (s := ⟨FGq.out.here, FN7.out.here⟩) (H := ?_)
  rotate_left
  · intro u hY; go_simp; try with_reducible rfl
  try simp only [putz]
  refine Goes.tk (i := 8) (o := ⟨some 66, _, _, _, _, _⟩) (v := ?_) [] (y := Or.inl ⟨by rfl, ?_⟩) (s := ⟨FGq.out.here, FN7.out.here⟩) (H := ?_)
  rotate_left
  · intro u hY; go_simp; try with_reducible rfl
  try simp only [putz]
  refine Goes.done (by kernel_rfl) ?_ _
  refine NoPanic.normal ?_
  have l11 := FG.out.here
  have l12 := FN7.out.here
  have l13 := Fs.out.here
  have l14 := FN9.out.here
  go_wp2_with (first | (refine wp_ldw (by rfl) _ _ rfl _ rfl _ (by first | exact l11 | exact l12 | exact l13 | exact l14) ?_))
  clear l11 l12 l13 l14
  refine (check_any p q g k c t bs true _ PL.out QL.out GL.out KL.out CL.out TL.out BL.out FK.out VC.out).mono ?_
  rintro e w9 ⟨rfl, hb⟩
  have HB := hid (HB.out.trans (hb.mono HB.out.size))
  have FG := hid (FG.out.on hb)
  have FGq := hid (FGq.out.on hb)
  have FGg := hid (FGg.out.on hb)
  have Fbp := hid (Fbp.out.on hb)
  have FNx := hid (FNx.out.on hb)
  have Fba := hid (Fba.out.on hb)
  have Fs := hid (Fs.out.on hb)
  have FN7 := hid (FN7.out.on hb)
  have FbN7 := hid (FbN7.out.on hb)
  have FN9 := hid (FN9.out.on hb)
  have FN9c := hid (FN9c.out.on hb)
  have FN9s := hid (FN9s.out.on hb)
  have FbN9 := hid (FbN9.out.on hb)
  have FN11 := hid (FN11.out.on hb)
  have FN11c := hid (FN11c.out.on hb)
  have FN11s := hid (FN11s.out.on hb)
  have FbN11 := hid (FbN11.out.on hb)
  have FK := hid (FK.out.on hb)
  clear hb
  go_wp2_with fail
  refine (lives_any _).mono ?_
  rintro e w10 ⟨rfl, hb⟩
  have HB := hid (HB.out.trans (hb.mono HB.out.size))
  have FG := hid (FG.out.on hb)
  have FGq := hid (FGq.out.on hb)
  have FGg := hid (FGg.out.on hb)
  have Fbp := hid (Fbp.out.on hb)
  have FNx := hid (FNx.out.on hb)
  have Fba := hid (Fba.out.on hb)
  have Fs := hid (Fs.out.on hb)
  have FN7 := hid (FN7.out.on hb)
  have FbN7 := hid (FbN7.out.on hb)
  have FN9 := hid (FN9.out.on hb)
  have FN9c := hid (FN9c.out.on hb)
  have FN9s := hid (FN9s.out.on hb)
  have FbN9 := hid (FbN9.out.on hb)
  have FN11 := hid (FN11.out.on hb)
  have FN11c := hid (FN11c.out.on hb)
  have FN11s := hid (FN11s.out.on hb)
  have FbN11 := hid (FbN11.out.on hb)
  have FK := hid (FK.out.on hb)
  clear hb
  go_wp2_with fail
  try go_ret
  try rw [Exit.noGoto_ret]
  first | exact ⟨rfl, by first | exact HFIN.out _ HB.out | (rw [hgp]; exact HFIN.out _ HB.out)⟩ | exact bodyPost_ret (v := .bool (true)) (by simp [results, Tryd.results3, go_sem]) rfl ⟨rfl, by first | exact HFIN.out _ HB.out | (rw [hgp]; exact HFIN.out _ HB.out)⟩
theorem backLaw_any (p q g x : Nat) (bs : List UInt8) (w : World) (hp : p < 2 ^ 256) (hq : q < 2 ^ 256) (hg : g < 2 ^ 256) (hx : x < 2 ^ 256) (hbs : bs.length = 32) (hK : Kt w) : Calls Tryd.prog 3 #[gv p q g, num x, .agg (bvs bs).toArray] w fun e w' => e = .returned (.bool true) ∧ Below w.heap.size w w' := by
  by_cases h : Sec p q g x
  · by_cases h1 : g ^ x % p = 1
    · exact back_one p q g x bs w hp hq hg hx hbs hK h h1
    · exact back_ok p q g x bs w hp hq hg hx hbs hK h h1
  · exact back_none p q g x bs w hp hq hg hx hbs h
end Go.Proofs.YtioebjbjpjbodaaDoor
