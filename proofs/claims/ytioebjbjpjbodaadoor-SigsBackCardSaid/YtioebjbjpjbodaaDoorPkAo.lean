/-
  sigs.challenge and sigs.drawn, walked. Condition: the library's table K lies there.
-/
import Derived.Test.YtioebjbjpjbodaaDoorPkSgb
namespace Go.Proofs.YtioebjbjpjbodaaDoor
open Go.RowKit
set_option linter.unusedVariables false
set_option linter.unusedSimpArgs false

set_option maxRecDepth 100000 in
set_option maxHeartbeats 4000000 in
theorem chal_any (p q g a b : Nat) (bs : List UInt8) (r : Nat) (w : World) (hq : q < 2 ^ 256) (ha : a < 2 ^ 256) (hb : b < 2 ^ 256) (hbs : bs.length = 32) (hK : Kt w) (hv : nop ⟨#[115, 105, 103, 110]⟩ [be a 32, be b 32] bs q = r) :
    Calls Tryd.prog 16 #[gv p q g, num a, num b, .agg (bvs bs).toArray] w fun e w' => e = .returned (num r) ∧ Below w.heap.size w w' := by
  have QL := hid hq
  have AL := hid ha
  have BL := hid hb
  have HL := hid hbs
  have HV := hid hv
  clear hq ha hb hv
  obtain ⟨hB0, hs0, f0, f1, f2, f3⟩ := boxes4 w (gcs p q g) (cls a) (cls b) ((bvs bs).toArray) 26 24 24 28 _ rfl
  have HFIN : Hid (∀ u, Below ((((w.alloc (.cells (gcs p q g) 26)).alloc (.cells (cls a) 24)).alloc (.cells (cls b) 24)).alloc (.cells ((bvs bs).toArray) 28)).heap.size ((((w.alloc (.cells (gcs p q g) 26)).alloc (.cells (cls a) 24)).alloc (.cells (cls b) 24)).alloc (.cells ((bvs bs).toArray) 28)) u → Below w.heap.size w u) := hid (fun u hu => hB0.trans (hu.mono hB0.size))
  have HKT := hid (hK.on hB0)
  clear hK
  go_enter Tryd.func16, Tryd.ntmps16
  go_upto_region 1 with fail
  generalize (((w.alloc (.cells (gcs p q g) 26)).alloc (.cells (cls a) 24)).alloc (.cells (cls b) 24)).alloc (.cells ((bvs bs).toArray) 28) = W0 at *
  have hb1 := (Below.refl W0.heap.size W0).alloc (Nat.le_refl _) (.cells #[.int .u64 0, .int .u64 0, .int .u64 0, .int .u64 0] 24)
  have hz1 := heap_alloc_new W0 (.cells #[.int .u64 0, .int .u64 0, .int .u64 0, .int .u64 0] 24)
  rw [hs0] at hz1
  have HB := hid hb1
  have HZ0 : Hid (W0.heap.size = w.heap.size + 1 + 1 + 1 + 1) := hid hs0
  have FG := hid ((ldG p q g 0 f0 (all_at _)).on hb1)
  have FGq := hid ((ldN q 4 f0 (four_at q _ 4 rfl rfl rfl rfl)).on hb1)
  have FGg := hid ((ldN g 8 f0 (four_at g _ 8 rfl rfl rfl rfl)).on hb1)
  have FNa := hid ((ldN a 0 f1 (all_at _)).on hb1)
  have FNb := hid ((ldN b 0 f2 (all_at _)).on hb1)
  have Fs := hid ((ldS bs hbs 0 f3 (fun j v h => by rw [Nat.zero_add]; simpa using h)).on hb1)
  have FK := hid (HKT.out.on hb1)
  clear HKT
  have FZ : Hid (On (W0.alloc (.cells #[.int .u64 0, .int .u64 0, .int .u64 0, .int .u64 0] 24)) fun u => Nm u (w.heap.size + 1 + 1 + 1 + 1) 0) := hid (onNm (nm_zero hz1))
  clear hz1
  generalize W0.alloc (.cells #[.int .u64 0, .int .u64 0, .int .u64 0, .int .u64 0] 24) = w0 at *
  clear hB0 hs0 hb1 f0 f1 f2 f3
  generalize w.heap.size + 1 + 1 + 1 + 1 = g_z at *
  generalize w.heap.size + 1 + 1 + 1 = g_s at *
  generalize w.heap.size + 1 + 1 = g_b at *
  generalize w.heap.size + 1 = g_a at *
  generalize hgp : w.heap.size = g_p at *
  clear hbs
  have l1 := FG.out.here
  have l2 := Fs.out.here
  have l3 := FNa.out.here
  have l4 := FNb.out.here
  go_wp2_with (first | (refine wp_ld rfl _ _ rfl _ rfl _ (by first | exact l1 | exact l2 | exact l3 | exact l4) ?_))
  clear l1 l2 l3 l4
  have hb := (Below.refl w0.heap.size w0).alloc (Nat.le_refl _) (.cells #[.int .u64 (wd a 0 : Int), .int .u64 (wd a 1 : Int), .int .u64 (wd a 2 : Int), .int .u64 (wd a 3 : Int), .int .u64 (wd b 0 : Int), .int .u64 (wd b 1 : Int), .int .u64 (wd b 2 : Int), .int .u64 (wd b 3 : Int)] 24)
  have hn : Sl2 _ _ a b := heap_alloc_new w0 (.cells #[.int .u64 (wd a 0 : Int), .int .u64 (wd a 1 : Int), .int .u64 (wd a 2 : Int), .int .u64 (wd a 3 : Int), .int .u64 (wd b 0 : Int), .int .u64 (wd b 1 : Int), .int .u64 (wd b 2 : Int), .int .u64 (wd b 3 : Int)] 24)
  have HB := hid (HB.out.trans (hb.mono HB.out.size))
  have FG := hid (FG.out.on hb)
  have FGq := hid (FGq.out.on hb)
  have FGg := hid (FGg.out.on hb)
  have FNa := hid (FNa.out.on hb)
  have FNb := hid (FNb.out.on hb)
  have Fs := hid (Fs.out.on hb)
  have FK := hid (FK.out.on hb)
  have FZ := hid (FZ.out.on hb)
  clear hb
  have HSL := hid hn
  clear hn
  generalize w0.alloc (.cells #[.int .u64 (wd a 0 : Int), .int .u64 (wd a 1 : Int), .int .u64 (wd a 2 : Int), .int .u64 (wd a 3 : Int), .int .u64 (wd b 0 : Int), .int .u64 (wd b 1 : Int), .int .u64 (wd b 2 : Int), .int .u64 (wd b 3 : Int)] 24) = w1 at *
  generalize w0.heap.size = g_l at *
  refine (summed2_any p q g a b ⟨#[115, 105, 103, 110]⟩ bs g_l r _ QL.out AL.out BL.out HL.out FK.out (by decide) HSL.out HV.out).mono ?_
  rintro e w2 ⟨rfl, hb⟩
  have HB := hid (HB.out.trans (hb.mono HB.out.size))
  have FG := hid (FG.out.on hb)
  have FGq := hid (FGq.out.on hb)
  have FGg := hid (FGg.out.on hb)
  have FNa := hid (FNa.out.on hb)
  have FNb := hid (FNb.out.on hb)
  have Fs := hid (Fs.out.on hb)
  have FK := hid (FK.out.on hb)
  have FZ := hid (FZ.out.on hb)
  clear hb
  have hE := env_one HB.out FZ.out.here
  obtain ⟨z0, z1, z2, z3⟩ := hE.cell g_z 0 (by simp)
  have zl := hE.lt g_z 0 (by simp)
  have zf := hE.frozen g_z 0 (by simp)
  have HZ := hid (hE.set g_z 0 (r) [] (by simp) (Nat.le_of_eq HZ0.out) (by simp))
  go_wp2
  clear hE z0 z1 z2 z3 zl zf 
  try rw [Exit.noGoto_ret]
  change bodyPost _ _ _ _ _ (fil w2 g_z (r))
  generalize fil w2 g_z (r) = wz at *
  obtain ⟨k0, k1, k2, k3⟩ := HZ.out.cell g_z (r) (by simp)
  exact bodyPost_ret (v := num (r)) (by simp [results, Tryd.results16, go_sem, k0, k1, k2, k3]) rfl ⟨rfl, by first | exact HFIN.out _ HZ.out.1 | (rw [hgp]; exact HFIN.out _ HZ.out.1)⟩
set_option maxRecDepth 100000 in
set_option maxHeartbeats 4000000 in
theorem drawn_zero (p q g x n : Nat) (bs : List UInt8) (w : World) (hq : q < 2 ^ 256) (hx : x < 2 ^ 256) (hbs : bs.length = 32) (hK : Kt w) (hv : nop ⟨#[100, 114, 97, 119]⟩ [be x 32] bs q = n) (h0 : n = 0) :
    Calls Tryd.prog 15 #[gv p q g, num x, .agg (bvs bs).toArray] w fun e w' => e = .returned (num 1) ∧ Below w.heap.size w w' := by
  have QL := hid hq
  have XL := hid hx
  have HL := hid hbs
  have HV := hid hv
  have EN : Hid ((nbits n : Int) = 0) := hid (by rw [h0]; rfl)
  have NL : Hid (n < 2 ^ 256) := hid (by rw [h0]; decide)
  clear hq hx hv h0
  obtain ⟨hB0, hs0, f0, f1, f2⟩ := boxes3 w (gcs p q g) (cls x) ((bvs bs).toArray) 26 24 28 _ rfl
  have HFIN : Hid (∀ u, Below (((w.alloc (.cells (gcs p q g) 26)).alloc (.cells (cls x) 24)).alloc (.cells ((bvs bs).toArray) 28)).heap.size (((w.alloc (.cells (gcs p q g) 26)).alloc (.cells (cls x) 24)).alloc (.cells ((bvs bs).toArray) 28)) u → Below w.heap.size w u) := hid (fun u hu => hB0.trans (hu.mono hB0.size))
  have HKT := hid (hK.on hB0)
  clear hK
  go_enter Tryd.func15, Tryd.ntmps15
  go_upto_region 1 with fail
  generalize ((w.alloc (.cells (gcs p q g) 26)).alloc (.cells (cls x) 24)).alloc (.cells ((bvs bs).toArray) 28) = W0 at *
  have hb1 := (Below.refl W0.heap.size W0).alloc (Nat.le_refl _) (.cells #[.int .u64 0, .int .u64 0, .int .u64 0, .int .u64 0] 24)
  have hz1 := heap_alloc_new W0 (.cells #[.int .u64 0, .int .u64 0, .int .u64 0, .int .u64 0] 24)
  rw [hs0] at hz1
  have HB := hid hb1
  have HZ0 : Hid (W0.heap.size = w.heap.size + 1 + 1 + 1) := hid hs0
  have FG := hid ((ldG p q g 0 f0 (all_at _)).on hb1)
  have FGq := hid ((ldN q 4 f0 (four_at q _ 4 rfl rfl rfl rfl)).on hb1)
  have FGg := hid ((ldN g 8 f0 (four_at g _ 8 rfl rfl rfl rfl)).on hb1)
  have FNx := hid ((ldN x 0 f1 (all_at _)).on hb1)
  have Fs := hid ((ldS bs hbs 0 f2 (fun j v h => by rw [Nat.zero_add]; simpa using h)).on hb1)
  have FK := hid (HKT.out.on hb1)
  clear HKT
  have FZ : Hid (On (W0.alloc (.cells #[.int .u64 0, .int .u64 0, .int .u64 0, .int .u64 0] 24)) fun u => Nm u (w.heap.size + 1 + 1 + 1) 0) := hid (onNm (nm_zero hz1))
  clear hz1
  generalize W0.alloc (.cells #[.int .u64 0, .int .u64 0, .int .u64 0, .int .u64 0] 24) = w0 at *
  clear hB0 hs0 hb1 f0 f1 f2
  generalize w.heap.size + 1 + 1 + 1 = g_z at *
  generalize w.heap.size + 1 + 1 = g_s at *
  generalize w.heap.size + 1 = g_a at *
  generalize hgp : w.heap.size = g_p at *
  clear hbs
  have l1 := FG.out.here
  have l2 := Fs.out.here
  have l3 := FNx.out.here
  go_wp2_with (first | (refine wp_ld rfl _ _ rfl _ rfl _ (by first | exact l1 | exact l2 | exact l3) ?_))
  clear l1 l2 l3
  have hb := (Below.refl w0.heap.size w0).alloc (Nat.le_refl _) (.cells #[.int .u64 (wd x 0 : Int), .int .u64 (wd x 1 : Int), .int .u64 (wd x 2 : Int), .int .u64 (wd x 3 : Int)] 24)
  have hn : Sl1 _ _ x := heap_alloc_new w0 (.cells #[.int .u64 (wd x 0 : Int), .int .u64 (wd x 1 : Int), .int .u64 (wd x 2 : Int), .int .u64 (wd x 3 : Int)] 24)
  have HB := hid (HB.out.trans (hb.mono HB.out.size))
  have FG := hid (FG.out.on hb)
  have FGq := hid (FGq.out.on hb)
  have FGg := hid (FGg.out.on hb)
  have FNx := hid (FNx.out.on hb)
  have Fs := hid (Fs.out.on hb)
  have FK := hid (FK.out.on hb)
  have FZ := hid (FZ.out.on hb)
  clear hb
  have HSL := hid hn
  clear hn
  generalize w0.alloc (.cells #[.int .u64 (wd x 0 : Int), .int .u64 (wd x 1 : Int), .int .u64 (wd x 2 : Int), .int .u64 (wd x 3 : Int)] 24) = w1 at *
  generalize w0.heap.size = g_l at *
  refine (summed1_any p q g x ⟨#[100, 114, 97, 119]⟩ bs g_l n _ QL.out XL.out HL.out FK.out (by decide) HSL.out HV.out).mono ?_
  rintro e w2 ⟨rfl, hb⟩
  have HB := hid (HB.out.trans (hb.mono HB.out.size))
  have FG := hid (FG.out.on hb)
  have FGq := hid (FGq.out.on hb)
  have FGg := hid (FGg.out.on hb)
  have FNx := hid (FNx.out.on hb)
  have Fs := hid (Fs.out.on hb)
  have FK := hid (FK.out.on hb)
  have FZ := hid (FZ.out.on hb)
  clear hb
  go_upto_region 2 with fail
  have hb := (Below.refl w2.heap.size w2).alloc (Nat.le_refl _) (.cells (cls n) 24)
  have hn := heap_alloc_new w2 (.cells (cls n) 24)
  have HB := hid (HB.out.trans (hb.mono HB.out.size))
  have FG := hid (FG.out.on hb)
  have FGq := hid (FGq.out.on hb)
  have FGg := hid (FGg.out.on hb)
  have FNx := hid (FNx.out.on hb)
  have Fs := hid (Fs.out.on hb)
  have FK := hid (FK.out.on hb)
  have FZ := hid (FZ.out.on hb)
  have FN7 := hid (ldN n 0 hn (all_at _))
  clear hb hn
  generalize w2.alloc (.cells (cls n) 24) = w3 at *
  generalize w2.heap.size = gN7 at *
  have l4 := FN7.out.here
  go_wp2_with (first | (refine wp_ld rfl _ _ rfl _ rfl _ (by first | exact l4) ?_))
  clear l4
  refine (bits_at n 0 (Env.refl _) NL.out EN.out).mono ?_
  rintro e w4 ⟨rfl, hb⟩
  have hb := hb.1
  have HB := hid (HB.out.trans (hb.mono HB.out.size))
  have FG := hid (FG.out.on hb)
  have FGq := hid (FGq.out.on hb)
  have FGg := hid (FGg.out.on hb)
  have FNx := hid (FNx.out.on hb)
  have Fs := hid (Fs.out.on hb)
  have FN7 := hid (FN7.out.on hb)
  have FK := hid (FK.out.on hb)
  have FZ := hid (FZ.out.on hb)
  clear hb
  go_wp2_with fail
  refine (lof_at 1 1 (Env.refl _) (by decide) rfl).mono ?_
  rintro e w5 ⟨rfl, hb⟩
  have hb := hb.1
  have HB := hid (HB.out.trans (hb.mono HB.out.size))
  have FG := hid (FG.out.on hb)
  have FGq := hid (FGq.out.on hb)
  have FGg := hid (FGg.out.on hb)
  have FNx := hid (FNx.out.on hb)
  have Fs := hid (Fs.out.on hb)
  have FN7 := hid (FN7.out.on hb)
  have FK := hid (FK.out.on hb)
  have FZ := hid (FZ.out.on hb)
  clear hb
  have hE := env_one HB.out FZ.out.here
  obtain ⟨z0, z1, z2, z3⟩ := hE.cell g_z 0 (by simp)
  have zl := hE.lt g_z 0 (by simp)
  have zf := hE.frozen g_z 0 (by simp)
  have HZ := hid (hE.set g_z 0 (1) [] (by simp) (Nat.le_of_eq HZ0.out) (by simp))
  go_wp2
  clear hE z0 z1 z2 z3 zl zf 
  try rw [Exit.noGoto_ret]
  change bodyPost _ _ _ _ _ (fil w5 g_z (1))
  generalize fil w5 g_z (1) = wz at *
  obtain ⟨k0, k1, k2, k3⟩ := HZ.out.cell g_z (1) (by simp)
  exact bodyPost_ret (v := num (1)) (by simp [results, Tryd.results15, go_sem, k0, k1, k2, k3]) rfl ⟨rfl, by first | exact HFIN.out _ HZ.out.1 | (rw [hgp]; exact HFIN.out _ HZ.out.1)⟩
set_option maxRecDepth 100000 in
set_option maxHeartbeats 4000000 in
theorem drawn_some (p q g x n : Nat) (bs : List UInt8) (w : World) (hq : q < 2 ^ 256) (hx : x < 2 ^ 256) (hn : n < 2 ^ 256) (hbs : bs.length = 32) (hK : Kt w) (hv : nop ⟨#[100, 114, 97, 119]⟩ [be x 32] bs q = n) (h0 : n ≠ 0) :
    Calls Tryd.prog 15 #[gv p q g, num x, .agg (bvs bs).toArray] w fun e w' => e = .returned (num n) ∧ Below w.heap.size w w' := by
  have QL := hid hq
  have XL := hid hx
  have HL := hid hbs
  have HV := hid hv
  have NL := hid hn
  obtain ⟨m, em⟩ : ∃ m, nbits n = m := ⟨_, rfl⟩
  have hm : 0 < m := by rw [← em]; exact nbits_pos n (by omega)
  have EN := hid (show (nbits n : Int) = (m : Int) by rw [em])
  have c1 : ¬ (m : Int) = 0 := by omega
  have c2 : ¬ m = 0 := by omega
  have cb : decide ((m : Int) = 0) = false := decide_eq_false c1
  clear em hm hn
  clear hq hx hv h0
  obtain ⟨hB0, hs0, f0, f1, f2⟩ := boxes3 w (gcs p q g) (cls x) ((bvs bs).toArray) 26 24 28 _ rfl
  have HFIN : Hid (∀ u, Below (((w.alloc (.cells (gcs p q g) 26)).alloc (.cells (cls x) 24)).alloc (.cells ((bvs bs).toArray) 28)).heap.size (((w.alloc (.cells (gcs p q g) 26)).alloc (.cells (cls x) 24)).alloc (.cells ((bvs bs).toArray) 28)) u → Below w.heap.size w u) := hid (fun u hu => hB0.trans (hu.mono hB0.size))
  have HKT := hid (hK.on hB0)
  clear hK
  go_enter Tryd.func15, Tryd.ntmps15
  go_upto_region 1 with fail
  generalize ((w.alloc (.cells (gcs p q g) 26)).alloc (.cells (cls x) 24)).alloc (.cells ((bvs bs).toArray) 28) = W0 at *
  have hb1 := (Below.refl W0.heap.size W0).alloc (Nat.le_refl _) (.cells #[.int .u64 0, .int .u64 0, .int .u64 0, .int .u64 0] 24)
  have hz1 := heap_alloc_new W0 (.cells #[.int .u64 0, .int .u64 0, .int .u64 0, .int .u64 0] 24)
  rw [hs0] at hz1
  have HB := hid hb1
  have HZ0 : Hid (W0.heap.size = w.heap.size + 1 + 1 + 1) := hid hs0
  have FG := hid ((ldG p q g 0 f0 (all_at _)).on hb1)
  have FGq := hid ((ldN q 4 f0 (four_at q _ 4 rfl rfl rfl rfl)).on hb1)
  have FGg := hid ((ldN g 8 f0 (four_at g _ 8 rfl rfl rfl rfl)).on hb1)
  have FNx := hid ((ldN x 0 f1 (all_at _)).on hb1)
  have Fs := hid ((ldS bs hbs 0 f2 (fun j v h => by rw [Nat.zero_add]; simpa using h)).on hb1)
  have FK := hid (HKT.out.on hb1)
  clear HKT
  have FZ : Hid (On (W0.alloc (.cells #[.int .u64 0, .int .u64 0, .int .u64 0, .int .u64 0] 24)) fun u => Nm u (w.heap.size + 1 + 1 + 1) 0) := hid (onNm (nm_zero hz1))
  clear hz1
  generalize W0.alloc (.cells #[.int .u64 0, .int .u64 0, .int .u64 0, .int .u64 0] 24) = w0 at *
  clear hB0 hs0 hb1 f0 f1 f2
  generalize w.heap.size + 1 + 1 + 1 = g_z at *
  generalize w.heap.size + 1 + 1 = g_s at *
  generalize w.heap.size + 1 = g_a at *
  generalize hgp : w.heap.size = g_p at *
  clear hbs
  have l1 := FG.out.here
  have l2 := Fs.out.here
  have l3 := FNx.out.here
  go_wp2_with (first | (refine wp_ld rfl _ _ rfl _ rfl _ (by first | exact l1 | exact l2 | exact l3) ?_))
  clear l1 l2 l3
  have hb := (Below.refl w0.heap.size w0).alloc (Nat.le_refl _) (.cells #[.int .u64 (wd x 0 : Int), .int .u64 (wd x 1 : Int), .int .u64 (wd x 2 : Int), .int .u64 (wd x 3 : Int)] 24)
  have hn : Sl1 _ _ x := heap_alloc_new w0 (.cells #[.int .u64 (wd x 0 : Int), .int .u64 (wd x 1 : Int), .int .u64 (wd x 2 : Int), .int .u64 (wd x 3 : Int)] 24)
  have HB := hid (HB.out.trans (hb.mono HB.out.size))
  have FG := hid (FG.out.on hb)
  have FGq := hid (FGq.out.on hb)
  have FGg := hid (FGg.out.on hb)
  have FNx := hid (FNx.out.on hb)
  have Fs := hid (Fs.out.on hb)
  have FK := hid (FK.out.on hb)
  have FZ := hid (FZ.out.on hb)
  clear hb
  have HSL := hid hn
  clear hn
  generalize w0.alloc (.cells #[.int .u64 (wd x 0 : Int), .int .u64 (wd x 1 : Int), .int .u64 (wd x 2 : Int), .int .u64 (wd x 3 : Int)] 24) = w1 at *
  generalize w0.heap.size = g_l at *
  refine (summed1_any p q g x ⟨#[100, 114, 97, 119]⟩ bs g_l n _ QL.out XL.out HL.out FK.out (by decide) HSL.out HV.out).mono ?_
  rintro e w2 ⟨rfl, hb⟩
  have HB := hid (HB.out.trans (hb.mono HB.out.size))
  have FG := hid (FG.out.on hb)
  have FGq := hid (FGq.out.on hb)
  have FGg := hid (FGg.out.on hb)
  have FNx := hid (FNx.out.on hb)
  have Fs := hid (Fs.out.on hb)
  have FK := hid (FK.out.on hb)
  have FZ := hid (FZ.out.on hb)
  clear hb
  go_upto_region 2 with fail
  have hb := (Below.refl w2.heap.size w2).alloc (Nat.le_refl _) (.cells (cls n) 24)
  have hn := heap_alloc_new w2 (.cells (cls n) 24)
  have HB := hid (HB.out.trans (hb.mono HB.out.size))
  have FG := hid (FG.out.on hb)
  have FGq := hid (FGq.out.on hb)
  have FGg := hid (FGg.out.on hb)
  have FNx := hid (FNx.out.on hb)
  have Fs := hid (Fs.out.on hb)
  have FK := hid (FK.out.on hb)
  have FZ := hid (FZ.out.on hb)
  have FN7 := hid (ldN n 0 hn (all_at _))
  clear hb hn
  generalize w2.alloc (.cells (cls n) 24) = w3 at *
  generalize w2.heap.size = gN7 at *
  have l4 := FN7.out.here
  go_wp2_with (first | (refine wp_ld rfl _ _ rfl _ rfl _ (by first | exact l4) ?_))
  clear l4
  refine (bits_at n (m : Int) (Env.refl _) NL.out EN.out).mono ?_
  rintro e w4 ⟨rfl, hb⟩
  have hb := hb.1
  have HB := hid (HB.out.trans (hb.mono HB.out.size))
  have FG := hid (FG.out.on hb)
  have FGq := hid (FGq.out.on hb)
  have FGg := hid (FGg.out.on hb)
  have FNx := hid (FNx.out.on hb)
  have Fs := hid (Fs.out.on hb)
  have FN7 := hid (FN7.out.on hb)
  have FK := hid (FK.out.on hb)
  have FZ := hid (FZ.out.on hb)
  clear hb
  have hE := env_one HB.out FZ.out.here
  obtain ⟨z0, z1, z2, z3⟩ := hE.cell g_z 0 (by simp)
  have zl := hE.lt g_z 0 (by simp)
  have zf := hE.frozen g_z 0 (by simp)
  have HZ := hid (hE.set g_z 0 (n) [] (by simp) (Nat.le_of_eq HZ0.out) (by simp))
  have l5 := FN7.out.here
  go_wp2_with (first | (refine wp_ld rfl _ _ rfl _ rfl _ (by first | exact l5) ?_))
  clear hE z0 z1 z2 z3 zl zf l5
  try rw [Exit.noGoto_ret]
  change bodyPost _ _ _ _ _ (fil w4 g_z (n))
  generalize fil w4 g_z (n) = wz at *
  obtain ⟨k0, k1, k2, k3⟩ := HZ.out.cell g_z (n) (by simp)
  exact bodyPost_ret (v := num (n)) (by simp [results, Tryd.results15, go_sem, k0, k1, k2, k3]) rfl ⟨rfl, by first | exact HFIN.out _ HZ.out.1 | (rw [hgp]; exact HFIN.out _ HZ.out.1)⟩
/-- the challenge of a key, a number and a sum -/
def chl (q a b : Nat) (bs : List UInt8) : Nat := nop ⟨#[115, 105, 103, 110]⟩ [be a 32, be b 32] bs q
/-- what is drawn by a secret for a sum -/
def drw (q x : Nat) (bs : List UInt8) : Nat := if nop ⟨#[100, 114, 97, 119]⟩ [be x 32] bs q = 0 then 1 else nop ⟨#[100, 114, 97, 119]⟩ [be x 32] bs q
theorem chl_lt (q a b : Nat) (bs : List UInt8) (hq : q ≠ 0) : chl q a b bs < q := nop_lt _ _ _ _ hq
theorem drw_lt (q x : Nat) (bs : List UInt8) (hq : 1 < q) : drw q x bs < q := by
  unfold drw
  split
  · exact hq
  · exact nop_lt _ _ _ _ (by omega)
theorem drawn_any (p q g x d : Nat) (bs : List UInt8) (w : World) (hq : q < 2 ^ 256) (h1 : 1 < q) (hx : x < 2 ^ 256) (hbs : bs.length = 32) (hK : Kt w) (hv : drw q x bs = d) :
    Calls Tryd.prog 15 #[gv p q g, num x, .agg (bvs bs).toArray] w fun e w' => e = .returned (num d) ∧ Below w.heap.size w w' := by
  subst hv
  unfold drw
  have hl := nop_lt ⟨#[100, 114, 97, 119]⟩ [be x 32] bs q (by omega)
  split
  · exact drawn_zero p q g x _ bs w hq hx hbs hK rfl ‹_›
  · exact drawn_some p q g x _ bs w hq hx (by omega) hbs hK rfl ‹_›
end Go.Proofs.YtioebjbjpjbodaaDoor
