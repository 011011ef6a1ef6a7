/-
  burrowlaw07.SigsBounds, walked where two sums overflow so. Condition: the library's table K lies there.
-/
import Derived.Test.YtioebjbjpjbodaaDoorPkSgoA
namespace Go.Proofs.YtioebjbjpjbodaaDoor
open Go.RowKit
set_option linter.unusedVariables false
set_option linter.unusedSimpArgs false

set_option maxRecDepth 100000 in
set_option maxHeartbeats 16000000 in
theorem bounds_ok10 (p q g x : Nat) (bs : List UInt8) (w : World) (hp : p < 2 ^ 256) (hq : q < 2 ^ 256) (hg : g < 2 ^ 256) (hx : x < 2 ^ 256) (hbs : bs.length = 32) (hK : Kt w) (hv : Sec p q g x) (h1 : (sigC p q g x bs + q) / 2 ^ 256 = 1) (h2 : (sigS p q g x bs + q) / 2 ^ 256 = 0) : Calls Tryd.prog 4 #[gv p q g, num x, .agg (bvs bs).toArray] w fun e w' => e = .returned (.bool true) ∧ Below w.heap.size w w' := by
  have VV := hid hv
  have hq1 := hv.2.2.1
  have hp1 : 1 < p := by have := hv.2.2.2.2.1; omega
  obtain ⟨k, ek⟩ : ∃ k, g ^ x % p = k := ⟨_, rfl⟩
  obtain ⟨c, ec⟩ : ∃ c, sigC p q g x bs = c := ⟨_, rfl⟩
  obtain ⟨t, et⟩ : ∃ t, sigS p q g x bs = t := ⟨_, rfl⟩
  have hk : k < p := ek ▸ Nat.mod_lt _ (by omega)
  have hc : c < q := ec ▸ sigC_lt p q g x bs (by omega)
  have ht : t < q := et ▸ sigS_lt p q g x bs (by omega)
  obtain ⟨c2, ec2⟩ : ∃ z, (c + q) % 2 ^ 256 = z := ⟨_, rfl⟩
  obtain ⟨k1, ek1⟩ : ∃ z : Int, (((c + q) / 2 ^ 256 : Nat) : Int) = z := ⟨_, rfl⟩
  rw [ec] at h1
  have hk1 : k1 = 0 ∨ k1 = 1 := by omega
  have lc2 : c2 < 2 ^ 256 := ec2 ▸ Nat.mod_lt _ (by decide)
  have gk1 : k1 = 0 → c2 = c + q := by intro h; omega
  obtain ⟨t2, et2⟩ : ∃ z, (t + q) % 2 ^ 256 = z := ⟨_, rfl⟩
  obtain ⟨k2, ek2⟩ : ∃ z : Int, (((t + q) / 2 ^ 256 : Nat) : Int) = z := ⟨_, rfl⟩
  rw [et] at h2
  have hk2 : k2 = 0 ∨ k2 = 1 := by omega
  have lt2 : t2 < 2 ^ 256 := et2 ▸ Nat.mod_lt _ (by decide)
  have gk2 : k2 = 0 → t2 = t + q := by intro h; omega
  obtain ⟨k3, ek3⟩ : ∃ z, (k + p) % 2 ^ 256 = z := ⟨_, rfl⟩
  obtain ⟨o3, eo3⟩ : ∃ z : Int, (((k + p) / 2 ^ 256 : Nat) : Int) = z := ⟨_, rfl⟩
  have ho3 : o3 = 0 ∨ o3 = 1 := by omega
  have lk3 : k3 < 2 ^ 256 := ek3 ▸ Nat.mod_lt _ (by decide)
  have go3 : o3 = 0 → k3 = k + p := by intro h; omega
  have N1 : k1 = 0 → decide (Chk p q g k c2 t bs) = false := fun h => decide_eq_false (fun h2 => by have := gk1 h; have := h2.2.2.1; omega)
  have N2 : k2 = 0 → decide (Chk p q g k c t2 bs) = false := fun h => decide_eq_false (fun h2 => by have := gk2 h; have := h2.2.2.2.1; omega)
  have N3 : o3 = 0 → decide (Chk p q g k3 c t bs) = false := fun h => decide_eq_false (fun h2 => by have := go3 h; have := h2.2.1.2.1.2; omega)
  have N4 : decide (Chk p q g 1 c t bs) = false := decide_eq_false (fun h2 => h2.2.1.1 rfl)
  have N5 : decide (Chk p q g 0 c t bs) = false := decide_eq_false (fun h2 => Nat.lt_irrefl 0 h2.2.1.2.1.1)
  have K0 : ∀ w, Kt w → Calls Tryd.prog 9 #[gv p q g, .agg #[.int .u64 0, .int .u64 0, .int .u64 0, .int .u64 0], .agg (bvs bs).toArray, sgv c t] w fun e w' => e = .returned (.bool false) ∧ Below w.heap.size w w' := fun w hK => by rw [num_zero]; exact check_any p q g 0 c t bs false w hp hq hg (by decide) (by omega) (by omega) hbs hK N5
  have EK := hid ek
  have EC := hid ec
  have ET := hid et
  have KL := hid (show k < 2 ^ 256 by omega)
  have CL := hid (show c < 2 ^ 256 by omega)
  have TL := hid (show t < 2 ^ 256 by omega)
  have S1 := hid ec2
  have S2 := hid et2
  have S3 := hid ek3
  have O1 := hid ek1
  have O2 := hid ek2
  have O3 := hid eo3
  have H1 := hid hk1
  have H2 := hid hk2
  have H3 := hid ho3
  have L1 := hid lc2
  have L2 := hid lt2
  have L3 := hid lk3
  have M1 := hid N1
  have M2 := hid N2
  have M3 := hid N3
  have M4 := hid N4
  skip
  have V2 := hid (M2.out (by omega))
  clear M1 M2 H1 H2
  have k1n : ¬ k1 = 0 := by omega
  have k1d : decide (k1 = 0) = false := decide_eq_false k1n
  have k1e : (k1 == 0) = false := by simpa using k1n
  obtain rfl : k2 = 0 := by omega
  clear h1 h2 hv hq1 hp1 ek ec et hk hc ht ec2 et2 ek3 ek1 ek2 eo3 hk1 hk2 ho3 lc2 lt2 lk3 gk1 gk2 go3 N1 N2 N3 N4 N5
  have PL := hid hp
  have QL := hid hq
  have GL := hid hg
  have XL := hid hx
  have BL := hid hbs
  clear hp hq hg hx
  obtain ⟨hB0, hs0, f0, f1, f2⟩ := boxes3 w (gcs p q g) (cls x) ((bvs bs).toArray) 26 24 28 _ rfl
  have HFIN : Hid (∀ u, Below (((w.alloc (.cells (gcs p q g) 26)).alloc (.cells (cls x) 24)).alloc (.cells ((bvs bs).toArray) 28)).heap.size (((w.alloc (.cells (gcs p q g) 26)).alloc (.cells (cls x) 24)).alloc (.cells ((bvs bs).toArray) 28)) u → Below w.heap.size w u) := hid (fun u hu => hB0.trans (hu.mono hB0.size))
  have HKT := hid (hK.on hB0)
  clear hK
  go_enter Tryd.func4, Tryd.ntmps4
  go_upto_region 1 with fail
  generalize ((w.alloc (.cells (gcs p q g) 26)).alloc (.cells (cls x) 24)).alloc (.cells ((bvs bs).toArray) 28) = W0 at *
  have hb1 := Below.refl W0.heap.size W0
  have HB := hid hb1
  have HZ0 : Hid (W0.heap.size = w.heap.size + 1 + 1 + 1) := hid hs0
  have FG := hid ((ldG p q g 0 f0 (all_at _)).on hb1)
  have FGp := hid ((ldN p 0 f0 (four_at p _ 0 rfl rfl rfl rfl)).on hb1)
  have FGq := hid ((ldN q 4 f0 (four_at q _ 4 rfl rfl rfl rfl)).on hb1)
  have FGg := hid ((ldN g 8 f0 (four_at g _ 8 rfl rfl rfl rfl)).on hb1)
  have FNx := hid ((ldN x 0 f1 (all_at _)).on hb1)
  have Fs := hid ((ldS bs hbs 0 f2 (fun j v h => by rw [Nat.zero_add]; simpa using h)).on hb1)
  have FK := hid (HKT.out.on hb1)
  clear HKT
  clear hB0 hs0 hb1 f0 f1 f2
  generalize w.heap.size + 1 + 1 = g_s at *
  generalize w.heap.size + 1 = g_a at *
  generalize hgp : w.heap.size = g_p at *
  clear hbs
  have l1 := FG.out.here
  have l2 := FNx.out.here
  go_wp2_with (first | (refine wp_ldw (by kernel_rfl) 26 _ rfl (.pointer (some ⟨g_p, 0, none⟩)) (by rfl) _ l1 ?_) | (refine wp_ldw (by kernel_rfl) 24 _ rfl (.pointer (some ⟨g_a, 0, none⟩)) (by rfl) _ l2 ?_))
  clear l1 l2
  refine (key_ok p q g x k _ PL.out QL.out GL.out XL.out VV.out EK.out).mono ?_
  rintro e w1 ⟨rfl, hb⟩
  have HB := hid (HB.out.trans (hb.mono HB.out.size))
  have FG := hid (FG.out.on hb)
  have FGp := hid (FGp.out.on hb)
  have FGq := hid (FGq.out.on hb)
  have FGg := hid (FGg.out.on hb)
  have FNx := hid (FNx.out.on hb)
  have Fs := hid (Fs.out.on hb)
  have FK := hid (FK.out.on hb)
  clear hb
  go_upto_region 2 with fail
  have hb := (Below.refl w1.heap.size w1).alloc (Nat.le_refl _) (.cells (cls k) 24)
  have hn := heap_alloc_new w1 (.cells (cls k) 24)
  have HB := hid (HB.out.trans (hb.mono HB.out.size))
  have FG := hid (FG.out.on hb)
  have FGp := hid (FGp.out.on hb)
  have FGq := hid (FGq.out.on hb)
  have FGg := hid (FGg.out.on hb)
  have FNx := hid (FNx.out.on hb)
  have Fs := hid (Fs.out.on hb)
  have FK := hid (FK.out.on hb)
  have FN7 := hid (ldN k 0 hn (all_at _))
  clear hb hn
  generalize w1.alloc (.cells (cls k) 24) = w2 at *
  generalize w1.heap.size = gN7 at *
  have l3 := FG.out.here
  have l4 := FNx.out.here
  have l5 := Fs.out.here
  go_wp2_with (first | (refine wp_ldw (by kernel_rfl) 26 _ rfl (.pointer (some ⟨g_p, 0, none⟩)) (by rfl) _ l3 ?_) | (refine wp_ldw (by kernel_rfl) 24 _ rfl (.pointer (some ⟨g_a, 0, none⟩)) (by rfl) _ l4 ?_) | (refine wp_ldw (by kernel_rfl) 28 _ rfl (.pointer (some ⟨g_s, 0, none⟩)) (by rfl) _ l5 ?_))
  clear l3 l4 l5
  refine (sign_ok p q g x c t bs _ PL.out QL.out GL.out XL.out BL.out FK.out VV.out EC.out ET.out).mono ?_
  rintro e w3 ⟨rfl, hb⟩
  have HB := hid (HB.out.trans (hb.mono HB.out.size))
  have FG := hid (FG.out.on hb)
  have FGp := hid (FGp.out.on hb)
  have FGq := hid (FGq.out.on hb)
  have FGg := hid (FGg.out.on hb)
  have FNx := hid (FNx.out.on hb)
  have Fs := hid (Fs.out.on hb)
  have FN7 := hid (FN7.out.on hb)
  have FK := hid (FK.out.on hb)
  clear hb
  go_upto_region 3 with fail
  have hb := (Below.refl w3.heap.size w3).alloc (Nat.le_refl _) (.cells (sgc c t) 33)
  have hn := heap_alloc_new w3 (.cells (sgc c t) 33)
  have HB := hid (HB.out.trans (hb.mono HB.out.size))
  have FG := hid (FG.out.on hb)
  have FGp := hid (FGp.out.on hb)
  have FGq := hid (FGq.out.on hb)
  have FGg := hid (FGg.out.on hb)
  have FNx := hid (FNx.out.on hb)
  have Fs := hid (Fs.out.on hb)
  have FN7 := hid (FN7.out.on hb)
  have FK := hid (FK.out.on hb)
  have FN9 := hid (ldX c t 0 hn (all_at _))
  have FN9c := hid (ldN c 0 hn (four_at c _ 0 rfl rfl rfl rfl))
  have FN9s := hid (ldN t 4 hn (four_at t _ 4 rfl rfl rfl rfl))
  clear hb hn
  generalize w3.alloc (.cells (sgc c t) 33) = w4 at *
  generalize w3.heap.size = gN9 at *
  have l6 := FN9c.out.here
  have l7 := FGq.out.here
  go_wp2_with (first | (refine wp_ldw (by kernel_rfl) 24 _ rfl (.pointer (some ⟨gN9, 0, none⟩)) (by rfl) _ l6 ?_) | (refine wp_ldw (by kernel_rfl) 24 _ rfl (.pointer (some ⟨g_p, 4, none⟩)) (by rfl) _ l7 ?_))
  clear l6 l7
  refine (add_at c q c2 k1 (Env.refl _) CL.out QL.out S1.out O1.out).mono ?_
  rintro e w5 ⟨rfl, hb⟩
  have hb := hb.1
  have HB := hid (HB.out.trans (hb.mono HB.out.size))
  have FG := hid (FG.out.on hb)
  have FGp := hid (FGp.out.on hb)
  have FGq := hid (FGq.out.on hb)
  have FGg := hid (FGg.out.on hb)
  have FNx := hid (FNx.out.on hb)
  have Fs := hid (Fs.out.on hb)
  have FN7 := hid (FN7.out.on hb)
  have FN9 := hid (FN9.out.on hb)
  have FN9c := hid (FN9c.out.on hb)
  have FN9s := hid (FN9s.out.on hb)
  have FK := hid (FK.out.on hb)
  clear hb
  go_upto_region 6 with fail
  have hb := (Below.refl w5.heap.size w5).alloc (Nat.le_refl _) (.cells (cls c2) 24)
  have hn := heap_alloc_new w5 (.cells (cls c2) 24)
  have HB := hid (HB.out.trans (hb.mono HB.out.size))
  have FG := hid (FG.out.on hb)
  have FGp := hid (FGp.out.on hb)
  have FGq := hid (FGq.out.on hb)
  have FGg := hid (FGg.out.on hb)
  have FNx := hid (FNx.out.on hb)
  have Fs := hid (Fs.out.on hb)
  have FN7 := hid (FN7.out.on hb)
  have FN9 := hid (FN9.out.on hb)
  have FN9c := hid (FN9c.out.on hb)
  have FN9s := hid (FN9s.out.on hb)
  have FK := hid (FK.out.on hb)
  have FN11 := hid (ldN c2 0 hn (all_at _))
  clear hb hn
  generalize w5.alloc (.cells (cls c2) 24) = w6 at *
  generalize w5.heap.size = gN11 at *
  have l8 := FN9s.out.here
  have l9 := FGq.out.here
  go_wp2_with (first | (refine wp_ldw (by kernel_rfl) 24 _ rfl (.pointer (some ⟨gN9, 4, none⟩)) (by rfl) _ l8 ?_) | (refine wp_ldw (by kernel_rfl) 24 _ rfl (.pointer (some ⟨g_p, 4, none⟩)) (by rfl) _ l9 ?_))
  clear l8 l9
  refine (add_at t q t2 0 (Env.refl _) TL.out QL.out S2.out O2.out).mono ?_
  rintro e w7 ⟨rfl, hb⟩
  have hb := hb.1
  have HB := hid (HB.out.trans (hb.mono HB.out.size))
  have FG := hid (FG.out.on hb)
  have FGp := hid (FGp.out.on hb)
  have FGq := hid (FGq.out.on hb)
  have FGg := hid (FGg.out.on hb)
  have FNx := hid (FNx.out.on hb)
  have Fs := hid (Fs.out.on hb)
  have FN7 := hid (FN7.out.on hb)
  have FN9 := hid (FN9.out.on hb)
  have FN9c := hid (FN9c.out.on hb)
  have FN9s := hid (FN9s.out.on hb)
  have FN11 := hid (FN11.out.on hb)
  have FK := hid (FK.out.on hb)
  clear hb
  go_upto_region 7 with fail
  have hb := (Below.refl w7.heap.size w7).alloc (Nat.le_refl _) (.cells (cls t2) 24)
  have hn := heap_alloc_new w7 (.cells (cls t2) 24)
  have HB := hid (HB.out.trans (hb.mono HB.out.size))
  have FG := hid (FG.out.on hb)
  have FGp := hid (FGp.out.on hb)
  have FGq := hid (FGq.out.on hb)
  have FGg := hid (FGg.out.on hb)
  have FNx := hid (FNx.out.on hb)
  have Fs := hid (Fs.out.on hb)
  have FN7 := hid (FN7.out.on hb)
  have FN9 := hid (FN9.out.on hb)
  have FN9c := hid (FN9c.out.on hb)
  have FN9s := hid (FN9s.out.on hb)
  have FN11 := hid (FN11.out.on hb)
  have FK := hid (FK.out.on hb)
  have FN13 := hid (ldN t2 0 hn (all_at _))
  clear hb hn
  generalize w7.alloc (.cells (cls t2) 24) = w8 at *
  generalize w7.heap.size = gN13 at *
  have l10 := FG.out.here
  have l11 := FN7.out.here
  have l12 := Fs.out.here
  have l13 := FN9c.out.here
  have l14 := FN13.out.here
  go_wp2_with (first | ((with_reducible refine isD 69 rfl ?_); refine wp_ldw (by kernel_rfl) 26 _ rfl (.pointer (some ⟨g_p, 0, none⟩)) (by rfl) _ l10 ?_) | ((with_reducible refine isD 70 rfl ?_); refine wp_ldw (by kernel_rfl) 24 _ rfl (.pointer (some ⟨gN7, 0, none⟩)) (by rfl) _ l11 ?_) | ((with_reducible refine isD 71 rfl ?_); refine wp_ldw (by kernel_rfl) 28 _ rfl (.pointer (some ⟨g_s, 0, none⟩)) (by rfl) _ l12 ?_) | ((with_reducible refine isD 73 rfl ?_); refine wp_ldw (by kernel_rfl) 24 _ rfl (.pointer (some ⟨gN9, 0, none⟩)) (by rfl) _ l13 ?_) | ((with_reducible refine isD 74 rfl ?_); refine wp_ldw (by kernel_rfl) 24 _ rfl (.pointer (some ⟨gN13, 0, none⟩)) (by rfl) _ l14 ?_))
  clear l10 l11 l12 l13 l14
  refine (check_any p q g k c t2 bs false _ PL.out QL.out GL.out KL.out CL.out L2.out BL.out FK.out V2.out).mono ?_
  rintro e w9 ⟨rfl, hb⟩
  have HB := hid (HB.out.trans (hb.mono HB.out.size))
  have FG := hid (FG.out.on hb)
  have FGp := hid (FGp.out.on hb)
  have FGq := hid (FGq.out.on hb)
  have FGg := hid (FGg.out.on hb)
  have FNx := hid (FNx.out.on hb)
  have Fs := hid (Fs.out.on hb)
  have FN7 := hid (FN7.out.on hb)
  have FN9 := hid (FN9.out.on hb)
  have FN9c := hid (FN9c.out.on hb)
  have FN9s := hid (FN9s.out.on hb)
  have FN11 := hid (FN11.out.on hb)
  have FN13 := hid (FN13.out.on hb)
  have FK := hid (FK.out.on hb)
  clear hb
  go_upto_region 9 with fail
  have l15 := FN7.out.here
  have l16 := FGp.out.here
  go_wp2_with (first | (refine wp_ldw (by kernel_rfl) 24 _ rfl (.pointer (some ⟨gN7, 0, none⟩)) (by rfl) _ l15 ?_) | (refine wp_ldw (by kernel_rfl) 24 _ rfl (.pointer (some ⟨g_p, 0, none⟩)) (by rfl) _ l16 ?_))
  clear l15 l16
  refine (add_at k p k3 o3 (Env.refl _) KL.out PL.out S3.out O3.out).mono ?_
  rintro e w10 ⟨rfl, hb⟩
  have hb := hb.1
  have HB := hid (HB.out.trans (hb.mono HB.out.size))
  have FG := hid (FG.out.on hb)
  have FGp := hid (FGp.out.on hb)
  have FGq := hid (FGq.out.on hb)
  have FGg := hid (FGg.out.on hb)
  have FNx := hid (FNx.out.on hb)
  have Fs := hid (Fs.out.on hb)
  have FN7 := hid (FN7.out.on hb)
  have FN9 := hid (FN9.out.on hb)
  have FN9c := hid (FN9c.out.on hb)
  have FN9s := hid (FN9s.out.on hb)
  have FN11 := hid (FN11.out.on hb)
  have FN13 := hid (FN13.out.on hb)
  have FK := hid (FK.out.on hb)
  clear hb
  go_upto_region 10 with fail
  have hb := (Below.refl w10.heap.size w10).alloc (Nat.le_refl _) (.cells (cls k3) 24)
  have hn := heap_alloc_new w10 (.cells (cls k3) 24)
  have HB := hid (HB.out.trans (hb.mono HB.out.size))
  have FG := hid (FG.out.on hb)
  have FGp := hid (FGp.out.on hb)
  have FGq := hid (FGq.out.on hb)
  have FGg := hid (FGg.out.on hb)
  have FNx := hid (FNx.out.on hb)
  have Fs := hid (Fs.out.on hb)
  have FN7 := hid (FN7.out.on hb)
  have FN9 := hid (FN9.out.on hb)
  have FN9c := hid (FN9c.out.on hb)
  have FN9s := hid (FN9s.out.on hb)
  have FN11 := hid (FN11.out.on hb)
  have FN13 := hid (FN13.out.on hb)
  have FK := hid (FK.out.on hb)
  have FN15 := hid (ldN k3 0 hn (all_at _))
  clear hb hn
  generalize w10.alloc (.cells (cls k3) 24) = w11 at *
  generalize w10.heap.size = gN15 at *
  rcases H3.out with h3 | h3
  · skip
    have V3 := hid (M3.out h3)
    clear M3
    subst h3
    refine wp_region_noPanic ?_
    refine Goes.region (fun (L : Array Bool) (u : World) => (Instr.loadAt 26 (.pointer (some ⟨g_p, 0, none⟩))).run Tryd.prog u = .ok (gv p q g) u ∧ (Instr.loadAt 24 (.pointer (some ⟨gN15, 0, none⟩))).run Tryd.prog u = .ok (num k3) u ∧ (Instr.loadAt 28 (.pointer (some ⟨g_s, 0, none⟩))).run Tryd.prog u = .ok (.agg (bvs bs).toArray) u ∧ (Instr.loadAt 33 (.pointer (some ⟨gN9, 0, none⟩))).run Tryd.prog u = .ok (sgv c t) u) (by kernel_rfl) ?_
    have hb := (Below.refl w11.heap.size w11).drew
    have HB := hid (HB.out.trans (hb.mono HB.out.size))
    have FG := hid (FG.out.on hb)
    have FGp := hid (FGp.out.on hb)
    have FGq := hid (FGq.out.on hb)
    have FGg := hid (FGg.out.on hb)
    have FNx := hid (FNx.out.on hb)
    have Fs := hid (Fs.out.on hb)
    have FN7 := hid (FN7.out.on hb)
    have FN9 := hid (FN9.out.on hb)
    have FN9c := hid (FN9c.out.on hb)
    have FN9s := hid (FN9s.out.on hb)
    have FN11 := hid (FN11.out.on hb)
    have FN13 := hid (FN13.out.on hb)
    have FN15 := hid (FN15.out.on hb)
    have FK := hid (FK.out.on hb)
    clear hb
    generalize w11.drew = w12 at *
    refine Goes.tk (i := 0) (o := ⟨some 86, _, _, _, _, _⟩) (v := ?_) [] (y := Or.inl ⟨by rfl, ?_⟩) (s := ⟨FG.out.here, FN15.out.here, Fs.out.here, FN9.out.here⟩) (H := ?_)
    rotate_left
    · intro u hY; go_simp; try with_reducible rfl
    try simp only [putz]
    refine Goes.tk (i := 1) (o := ⟨some 87, _, _, _, _, _⟩) (v := ?_) [] (y := Or.inl ⟨by rfl, ?_⟩) (s := ⟨FG.out.here, FN15.out.here, Fs.out.here, FN9.out.here⟩) (H := ?_)
    rotate_left
    · intro u hY; go_simp; try with_reducible rfl
    try simp only [putz]
    refine Goes.tk (i := 2) (o := ⟨some 88, _, _, _, _, _⟩) (v := ?_) [] (y := Or.inl ⟨by rfl, ?_⟩) (s := ⟨FG.out.here, FN15.out.here, Fs.out.here, FN9.out.here⟩) (H := ?_)
    rotate_left
    · intro u hY; go_simp; try with_reducible rfl
    try simp only [putz]
    refine Goes.tk (i := 3) (o := ⟨some 89, _, _, _, _, _⟩) (v := gv p q g) [] (y := Or.inl ⟨by rfl, ?_⟩) (s := ⟨FG.out.here, FN15.out.here, Fs.out.here, FN9.out.here⟩) (H := ?_)
    · rintro u ⟨up, -, hX⟩; obtain ⟨x0, x1, x2, x3⟩ := hX; exact y_ld _ _ rfl _ _ rfl x0
    try simp only [putz]
    refine Goes.tk (i := 4) (o := ⟨some 90, _, _, _, _, _⟩) (v := num k3) [] (y := Or.inl ⟨by rfl, ?_⟩) (s := ⟨FG.out.here, FN15.out.here, Fs.out.here, FN9.out.here⟩) (H := ?_)
    · rintro u ⟨up, -, hX⟩; obtain ⟨x0, x1, x2, x3⟩ := hX; exact y_ld _ _ rfl _ _ rfl x1
    try simp only [putz]
    refine Goes.tk (i := 5) (o := ⟨some 91, _, _, _, _, _⟩) (v := .agg (bvs bs).toArray) [] (y := Or.inl ⟨by rfl, ?_⟩) (s := ⟨FG.out.here, FN15.out.here, Fs.out.here, FN9.out.here⟩) (H := ?_)
    · rintro u ⟨up, -, hX⟩; obtain ⟨x0, x1, x2, x3⟩ := hX; exact y_ld _ _ rfl _ _ rfl x2
    try simp only [putz]
    refine Goes.tk (i := 6) (o := ⟨some 92, _, _, _, _, _⟩) (v := sgv c t) [] (y := Or.inl ⟨by rfl, ?_⟩) (s := ⟨FG.out.here, FN15.out.here, Fs.out.here, FN9.out.here⟩) (H := ?_)
    · rintro u ⟨up, -, hX⟩; obtain ⟨x0, x1, x2, x3⟩ := hX; exact y_ld _ _ rfl _ _ rfl x3
    try simp only [putz]
    refine Goes.one (i := 7) (o := ⟨some 93, _, _, _, _, _⟩) (by kernel_rfl) rfl (fun K hK => ?_)
    go_simp
    with_reducible refine (check_any p q g k3 c t bs false _ PL.out QL.out GL.out L3.out CL.out TL.out BL.out FK.out V3.out).mono ?_
    rintro e w13 ⟨rfl, hb⟩
    go_wp2_with fail
    have HB := hid (HB.out.trans (hb.mono HB.out.size))
    have FG := hid (FG.out.on hb)
    have FGp := hid (FGp.out.on hb)
    have FGq := hid (FGq.out.on hb)
    have FGg := hid (FGg.out.on hb)
    have FNx := hid (FNx.out.on hb)
    have Fs := hid (Fs.out.on hb)
    have FN7 := hid (FN7.out.on hb)
    have FN9 := hid (FN9.out.on hb)
    have FN9c := hid (FN9c.out.on hb)
    have FN9s := hid (FN9s.out.on hb)
    have FN11 := hid (FN11.out.on hb)
    have FN13 := hid (FN13.out.on hb)
    have FN15 := hid (FN15.out.on hb)
    have FK := hid (FK.out.on hb)
    clear hb
    refine hK.out _ _ ⟨FG.out.here, FN15.out.here, Fs.out.here, FN9.out.here⟩ ?_
    clear hK K
    try simp only [putz]
    refine Goes.tk (i := 8) (o := ⟨some 94, _, _, _, _, _⟩) (v := ?_) [] (y := Or.inl ⟨by rfl, ?_⟩) (s := ⟨FG.out.here, FN15.out.here, Fs.out.here, FN9.out.here⟩) (H := ?_)
    rotate_left
    · intro u hY; go_simp; try with_reducible rfl
    try simp only [putz]
    refine Goes.tk (i := 9) (o := ⟨some 95, _, _, _, _, _⟩) (v := ?_) [] (y := Or.inl ⟨by rfl, ?_⟩) (s := ⟨FG.out.here, FN15.out.here, Fs.out.here, FN9.out.here⟩) (H := ?_)
    rotate_left
    · intro u hY; go_simp; try with_reducible rfl
    try simp only [putz]
    refine Goes.tk (i := 10) (o := ⟨some 96, _, _, _, _, _⟩) (v := ?_) [] (y := Or.inl ⟨by rfl, ?_⟩) (s := ⟨FG.out.here, FN15.out.here, Fs.out.here, FN9.out.here⟩) (H := ?_)
    rotate_left
    · intro u hY; go_simp; try with_reducible rfl
    try simp only [putz]
    refine Goes.tk (i := 11) (o := ⟨some 97, _, _, _, _, _⟩) (v := gv p q g) [] (y := Or.inl ⟨by rfl, ?_⟩) (s := ⟨FG.out.here, FN15.out.here, Fs.out.here, FN9.out.here⟩) (H := ?_)
    · rintro u ⟨up, -, hX⟩; obtain ⟨x0, x1, x2, x3⟩ := hX; exact y_ld _ _ rfl _ _ rfl x0
    try simp only [putz]
    refine Goes.tk (i := 13) (o := ⟨some 99, _, _, _, _, _⟩) (v := .agg (bvs bs).toArray) [] (y := Or.inl ⟨by rfl, ?_⟩) (s := ⟨FG.out.here, FN15.out.here, Fs.out.here, FN9.out.here⟩) (H := ?_)
    · rintro u ⟨up, -, hX⟩; obtain ⟨x0, x1, x2, x3⟩ := hX; exact y_ld _ _ rfl _ _ rfl x2
    try simp only [putz]
    refine Goes.tk (i := 14) (o := ⟨some 100, _, _, _, _, _⟩) (v := sgv c t) [] (y := Or.inl ⟨by rfl, ?_⟩) (s := ⟨FG.out.here, FN15.out.here, Fs.out.here, FN9.out.here⟩) (H := ?_)
    · rintro u ⟨up, -, hX⟩; obtain ⟨x0, x1, x2, x3⟩ := hX; exact y_ld _ _ rfl _ _ rfl x3
    try simp only [putz]
    refine Goes.one (i := 12) (o := ⟨some 98, _, _, _, _, _⟩) (by kernel_rfl) rfl (fun K hK => ?_)
    go_simp
    with_reducible refine (lofb 1 1 _ (by decide) rfl).mono ?_
    rintro e w14 ⟨rfl, hb⟩
    go_wp2_with fail
    have HB := hid (HB.out.trans (hb.mono HB.out.size))
    have FG := hid (FG.out.on hb)
    have FGp := hid (FGp.out.on hb)
    have FGq := hid (FGq.out.on hb)
    have FGg := hid (FGg.out.on hb)
    have FNx := hid (FNx.out.on hb)
    have Fs := hid (Fs.out.on hb)
    have FN7 := hid (FN7.out.on hb)
    have FN9 := hid (FN9.out.on hb)
    have FN9c := hid (FN9c.out.on hb)
    have FN9s := hid (FN9s.out.on hb)
    have FN11 := hid (FN11.out.on hb)
    have FN13 := hid (FN13.out.on hb)
    have FN15 := hid (FN15.out.on hb)
    have FK := hid (FK.out.on hb)
    clear hb
    refine hK.out _ _ ⟨FG.out.here, FN15.out.here, Fs.out.here, FN9.out.here⟩ ?_
    clear hK K
    try simp only [putz]
    refine Goes.one (i := 15) (o := ⟨some 101, _, _, _, _, _⟩) (by kernel_rfl) rfl (fun K hK => ?_)
    go_simp
    with_reducible refine (check_any p q g 1 c t bs false _ PL.out QL.out GL.out (by decide) CL.out TL.out BL.out FK.out M4.out).mono ?_
    rintro e w15 ⟨rfl, hb⟩
    go_wp2_with fail
    have HB := hid (HB.out.trans (hb.mono HB.out.size))
    have FG := hid (FG.out.on hb)
    have FGp := hid (FGp.out.on hb)
    have FGq := hid (FGq.out.on hb)
    have FGg := hid (FGg.out.on hb)
    have FNx := hid (FNx.out.on hb)
    have Fs := hid (Fs.out.on hb)
    have FN7 := hid (FN7.out.on hb)
    have FN9 := hid (FN9.out.on hb)
    have FN9c := hid (FN9c.out.on hb)
    have FN9s := hid (FN9s.out.on hb)
    have FN11 := hid (FN11.out.on hb)
    have FN13 := hid (FN13.out.on hb)
    have FN15 := hid (FN15.out.on hb)
    have FK := hid (FK.out.on hb)
    clear hb
    refine hK.out _ _ ⟨FG.out.here, FN15.out.here, Fs.out.here, FN9.out.here⟩ ?_
    clear hK K
    try simp only [putz]
    refine Goes.tk (i := 16) (o := ⟨some 102, _, _, _, _, _⟩) (v := ?_) [] (y := Or.inl ⟨by rfl, ?_⟩) (s := ⟨FG.out.here, FN15.out.here, Fs.out.here, FN9.out.here⟩) (H := ?_)
    rotate_left
    · intro u hY; go_simp; try with_reducible rfl
    try simp only [putz]
    refine Goes.tk (i := 17) (o := ⟨some 103, _, _, _, _, _⟩) (v := ?_) [] (y := Or.inl ⟨by rfl, ?_⟩) (s := ⟨FG.out.here, FN15.out.here, Fs.out.here, FN9.out.here⟩) (H := ?_)
    rotate_left
    · intro u hY; go_simp; try with_reducible rfl
    try simp only [putz]
    refine Goes.tk (i := 18) (o := ⟨some 104, _, _, _, _, _⟩) (v := ?_) [] (y := Or.inl ⟨by rfl, ?_⟩) (s := ⟨FG.out.here, FN15.out.here, Fs.out.here, FN9.out.here⟩) (H := ?_)
    rotate_left
    · intro u hY; go_simp; try with_reducible rfl
    try simp only [putz]
    refine Goes.tk (i := 19) (o := ⟨some 105, _, _, _, _, _⟩) (v := gv p q g) [] (y := Or.inl ⟨by rfl, ?_⟩) (s := ⟨FG.out.here, FN15.out.here, Fs.out.here, FN9.out.here⟩) (H := ?_)
    · rintro u ⟨up, -, hX⟩; obtain ⟨x0, x1, x2, x3⟩ := hX; exact y_ld _ _ rfl _ _ rfl x0
    try simp only [putz]
    refine Goes.tk (i := 20) (o := ⟨some 106, _, _, _, _, _⟩) (v := ?_) [] (y := Or.inl ⟨by rfl, ?_⟩) (s := ⟨FG.out.here, FN15.out.here, Fs.out.here, FN9.out.here⟩) (H := ?_)
    rotate_left
    · intro u hY; go_simp; try with_reducible rfl
    try simp only [putz]
    refine Goes.tk (i := 21) (o := ⟨some 107, _, _, _, _, _⟩) (v := .agg (bvs bs).toArray) [] (y := Or.inl ⟨by rfl, ?_⟩) (s := ⟨FG.out.here, FN15.out.here, Fs.out.here, FN9.out.here⟩) (H := ?_)
    · rintro u ⟨up, -, hX⟩; obtain ⟨x0, x1, x2, x3⟩ := hX; exact y_ld _ _ rfl _ _ rfl x2
    try simp only [putz]
    refine Goes.tk (i := 22) (o := ⟨some 108, _, _, _, _, _⟩) (v := sgv c t) [] (y := Or.inl ⟨by rfl, ?_⟩) (s := ⟨FG.out.here, FN15.out.here, Fs.out.here, FN9.out.here⟩) (H := ?_)
    · rintro u ⟨up, -, hX⟩; obtain ⟨x0, x1, x2, x3⟩ := hX; exact y_ld _ _ rfl _ _ rfl x3
    try simp only [putz]
    refine Goes.one (i := 23) (o := ⟨some 109, _, _, _, _, _⟩) (by kernel_rfl) rfl (fun K hK => ?_)
    go_simp
    with_reducible refine (K0 _ FK.out).mono ?_
    rintro e w16 ⟨rfl, hb⟩
    go_wp2_with fail
    have HB := hid (HB.out.trans (hb.mono HB.out.size))
    have FG := hid (FG.out.on hb)
    have FGp := hid (FGp.out.on hb)
    have FGq := hid (FGq.out.on hb)
    have FGg := hid (FGg.out.on hb)
    have FNx := hid (FNx.out.on hb)
    have Fs := hid (Fs.out.on hb)
    have FN7 := hid (FN7.out.on hb)
    have FN9 := hid (FN9.out.on hb)
    have FN9c := hid (FN9c.out.on hb)
    have FN9s := hid (FN9s.out.on hb)
    have FN11 := hid (FN11.out.on hb)
    have FN13 := hid (FN13.out.on hb)
    have FN15 := hid (FN15.out.on hb)
    have FK := hid (FK.out.on hb)
    clear hb
    refine hK.out _ _ ⟨FG.out.here, FN15.out.here, Fs.out.here, FN9.out.here⟩ ?_
    clear hK K
    try simp only [putz]
    refine Goes.tk (i := 24) (o := ⟨some 110, _, _, _, _, _⟩) (v := ?_) [] (y := Or.inl ⟨by rfl, ?_⟩) (s := ⟨FG.out.here, FN15.out.here, Fs.out.here, FN9.out.here⟩) (H := ?_)
    rotate_left
    · intro u hY; go_simp; try with_reducible rfl
    try simp only [putz]
    refine Goes.tk (i := 25) (o := ⟨some 111, _, _, _, _, _⟩) (v := ?_) [] (y := Or.inl ⟨by rfl, ?_⟩) (s := ⟨FG.out.here, FN15.out.here, Fs.out.here, FN9.out.here⟩) (H := ?_)
    rotate_left
    · intro u hY; go_simp; try with_reducible rfl
    try simp only [putz]
    refine Goes.tk (i := 26) (o := ⟨some 112, _, _, _, _, _⟩) (v := ?_) [] (y := Or.inl ⟨by rfl, ?_⟩) (s := ⟨FG.out.here, FN15.out.here, Fs.out.here, FN9.out.here⟩) (H := ?_)
    rotate_left
    · intro u hY; go_simp; try with_reducible rfl
    try simp only [putz]
    refine Goes.one (i := 27) (o := ⟨some 113, _, _, _, _, _⟩) (by kernel_rfl) rfl (fun K hK => ?_)
    go_simp
    with_reducible refine (lives_any _).mono ?_
    rintro e w17 ⟨rfl, hb⟩
    go_wp2_with fail
    have HB := hid (HB.out.trans (hb.mono HB.out.size))
    have FG := hid (FG.out.on hb)
    have FGp := hid (FGp.out.on hb)
    have FGq := hid (FGq.out.on hb)
    have FGg := hid (FGg.out.on hb)
    have FNx := hid (FNx.out.on hb)
    have Fs := hid (Fs.out.on hb)
    have FN7 := hid (FN7.out.on hb)
    have FN9 := hid (FN9.out.on hb)
    have FN9c := hid (FN9c.out.on hb)
    have FN9s := hid (FN9s.out.on hb)
    have FN11 := hid (FN11.out.on hb)
    have FN13 := hid (FN13.out.on hb)
    have FN15 := hid (FN15.out.on hb)
    have FK := hid (FK.out.on hb)
    clear hb
    refine hK.out _ _ ⟨FG.out.here, FN15.out.here, Fs.out.here, FN9.out.here⟩ ?_
    clear hK K
    try simp only [putz]
    refine Goes.tk (i := 28) (o := ⟨some 114, _, _, _, _, _⟩) (v := ?_) [] (y := Or.inl ⟨by rfl, ?_⟩) (s := ⟨FG.out.here, FN15.out.here, Fs.out.here, FN9.out.here⟩) (H := ?_)
    rotate_left
    · intro u hY; go_simp; try with_reducible rfl
    try simp only [putz]
    refine Goes.tk (i := 29) (o := ⟨some 6, _, _, _, _, _⟩) (v := ?_) [] (y := Or.inl ⟨by rfl, ?_⟩) (s := ⟨FG.out.here, FN15.out.here, Fs.out.here, FN9.out.here⟩) (H := ?_)
    rotate_left
    · intro u hY; go_simp; try with_reducible rfl
    try simp only [putz]
    refine Goes.done (by kernel_rfl) ?_ _
    refine NoPanic.normal ?_
    go_wp2_with fail
    try go_ret
    try rw [Exit.noGoto_ret]
    first | exact ⟨rfl, by first | exact HFIN.out _ HB.out | (rw [hgp]; exact HFIN.out _ HB.out)⟩ | exact bodyPost_ret (v := .bool (true)) (by simp [results, Tryd.results4, go_sem]) rfl ⟨rfl, by first | exact HFIN.out _ HB.out | (rw [hgp]; exact HFIN.out _ HB.out)⟩
  · skip
    skip
    clear M3
    subst h3
    refine wp_region_noPanic ?_
    refine Goes.region (fun (L : Array Bool) (u : World) => (Instr.loadAt 26 (.pointer (some ⟨g_p, 0, none⟩))).run Tryd.prog u = .ok (gv p q g) u ∧ (Instr.loadAt 24 (.pointer (some ⟨gN15, 0, none⟩))).run Tryd.prog u = .ok (num k3) u ∧ (Instr.loadAt 28 (.pointer (some ⟨g_s, 0, none⟩))).run Tryd.prog u = .ok (.agg (bvs bs).toArray) u ∧ (Instr.loadAt 33 (.pointer (some ⟨gN9, 0, none⟩))).run Tryd.prog u = .ok (sgv c t) u) (by kernel_rfl) ?_
    have hb := (Below.refl w11.heap.size w11).drew
    have HB := hid (HB.out.trans (hb.mono HB.out.size))
    have FG := hid (FG.out.on hb)
    have FGp := hid (FGp.out.on hb)
    have FGq := hid (FGq.out.on hb)
    have FGg := hid (FGg.out.on hb)
    have FNx := hid (FNx.out.on hb)
    have Fs := hid (Fs.out.on hb)
    have FN7 := hid (FN7.out.on hb)
    have FN9 := hid (FN9.out.on hb)
    have FN9c := hid (FN9c.out.on hb)
    have FN9s := hid (FN9s.out.on hb)
    have FN11 := hid (FN11.out.on hb)
    have FN13 := hid (FN13.out.on hb)
    have FN15 := hid (FN15.out.on hb)
    have FK := hid (FK.out.on hb)
    clear hb
    generalize w11.drew = w18 at *
    refine Goes.tk (i := 0) (o := ⟨some 86, _, _, _, _, _⟩) (v := ?_) [] (y := Or.inl ⟨by rfl, ?_⟩) (s := ⟨FG.out.here, FN15.out.here, Fs.out.here, FN9.out.here⟩) (H := ?_)
    rotate_left
    · intro u hY; go_simp; try with_reducible rfl
    try simp only [putz]
    refine Goes.tk (i := 1) (o := ⟨some 87, _, _, _, _, _⟩) (v := ?_) [] (y := Or.inl ⟨by rfl, ?_⟩) (s := ⟨FG.out.here, FN15.out.here, Fs.out.here, FN9.out.here⟩) (H := ?_)
    rotate_left
    · intro u hY; go_simp; try with_reducible rfl
    try simp only [putz]
    refine Goes.tk (i := 2) (o := ⟨some 88, _, _, _, _, _⟩) (v := ?_) [] (y := Or.inl ⟨by rfl, ?_⟩) (s := ⟨FG.out.here, FN15.out.here, Fs.out.here, FN9.out.here⟩) (H := ?_)
    rotate_left
    · intro u hY; go_simp; try with_reducible rfl
    try simp only [putz]
    refine Goes.tk (i := 3) (o := ⟨some 89, _, _, _, _, _⟩) (v := undef) [] (y := Or.inr ⟨by rfl, rfl⟩) (s := ⟨FG.out.here, FN15.out.here, Fs.out.here, FN9.out.here⟩) (H := ?_)
    try simp only [putz]
    refine Goes.tk (i := 4) (o := ⟨some 90, _, _, _, _, _⟩) (v := undef) [] (y := Or.inr ⟨by rfl, rfl⟩) (s := ⟨FG.out.here, FN15.out.here, Fs.out.here, FN9.out.here⟩) (H := ?_)
    try simp only [putz]
    refine Goes.tk (i := 5) (o := ⟨some 91, _, _, _, _, _⟩) (v := undef) [] (y := Or.inr ⟨by rfl, rfl⟩) (s := ⟨FG.out.here, FN15.out.here, Fs.out.here, FN9.out.here⟩) (H := ?_)
    try simp only [putz]
    refine Goes.tk (i := 6) (o := ⟨some 92, _, _, _, _, _⟩) (v := undef) [] (y := Or.inr ⟨by rfl, rfl⟩) (s := ⟨FG.out.here, FN15.out.here, Fs.out.here, FN9.out.here⟩) (H := ?_)
    try simp only [putz]
    refine Goes.tk (i := 7) (o := ⟨some 93, _, _, _, _, _⟩) (v := undef) [] (y := Or.inr ⟨by rfl, rfl⟩) (s := ⟨FG.out.here, FN15.out.here, Fs.out.here, FN9.out.here⟩) (H := ?_)
    try simp only [putz]
    refine Goes.tk (i := 8) (o := ⟨some 94, _, _, _, _, _⟩) (v := undef) [] (y := Or.inr ⟨by rfl, rfl⟩) (s := ⟨FG.out.here, FN15.out.here, Fs.out.here, FN9.out.here⟩) (H := ?_)
    try simp only [putz]
    refine Goes.tk (i := 9) (o := ⟨some 95, _, _, _, _, _⟩) (v := ?_) [] (y := Or.inl ⟨by rfl, ?_⟩) (s := ⟨FG.out.here, FN15.out.here, Fs.out.here, FN9.out.here⟩) (H := ?_)
    rotate_left
    · intro u hY; go_simp; try with_reducible rfl
    try simp only [putz]
    refine Goes.tk (i := 10) (o := ⟨some 96, _, _, _, _, _⟩) (v := ?_) [] (y := Or.inl ⟨by rfl, ?_⟩) (s := ⟨FG.out.here, FN15.out.here, Fs.out.here, FN9.out.here⟩) (H := ?_)
    rotate_left
    · intro u hY; go_simp; try with_reducible rfl
    try simp only [putz]
    refine Goes.tk (i := 11) (o := ⟨some 97, _, _, _, _, _⟩) (v := gv p q g) [] (y := Or.inl ⟨by rfl, ?_⟩) (s := ⟨FG.out.here, FN15.out.here, Fs.out.here, FN9.out.here⟩) (H := ?_)
    · rintro u ⟨up, -, hX⟩; obtain ⟨x0, x1, x2, x3⟩ := hX; exact y_ld _ _ rfl _ _ rfl x0
    try simp only [putz]
    refine Goes.tk (i := 13) (o := ⟨some 99, _, _, _, _, _⟩) (v := .agg (bvs bs).toArray) [] (y := Or.inl ⟨by rfl, ?_⟩) (s := ⟨FG.out.here, FN15.out.here, Fs.out.here, FN9.out.here⟩) (H := ?_)
    · rintro u ⟨up, -, hX⟩; obtain ⟨x0, x1, x2, x3⟩ := hX; exact y_ld _ _ rfl _ _ rfl x2
    try simp only [putz]
    refine Goes.tk (i := 14) (o := ⟨some 100, _, _, _, _, _⟩) (v := sgv c t) [] (y := Or.inl ⟨by rfl, ?_⟩) (s := ⟨FG.out.here, FN15.out.here, Fs.out.here, FN9.out.here⟩) (H := ?_)
    · rintro u ⟨up, -, hX⟩; obtain ⟨x0, x1, x2, x3⟩ := hX; exact y_ld _ _ rfl _ _ rfl x3
    try simp only [putz]
    refine Goes.one (i := 12) (o := ⟨some 98, _, _, _, _, _⟩) (by kernel_rfl) rfl (fun K hK => ?_)
    go_simp
    with_reducible refine (lofb 1 1 _ (by decide) rfl).mono ?_
    rintro e w19 ⟨rfl, hb⟩
    go_wp2_with fail
    have HB := hid (HB.out.trans (hb.mono HB.out.size))
    have FG := hid (FG.out.on hb)
    have FGp := hid (FGp.out.on hb)
    have FGq := hid (FGq.out.on hb)
    have FGg := hid (FGg.out.on hb)
    have FNx := hid (FNx.out.on hb)
    have Fs := hid (Fs.out.on hb)
    have FN7 := hid (FN7.out.on hb)
    have FN9 := hid (FN9.out.on hb)
    have FN9c := hid (FN9c.out.on hb)
    have FN9s := hid (FN9s.out.on hb)
    have FN11 := hid (FN11.out.on hb)
    have FN13 := hid (FN13.out.on hb)
    have FN15 := hid (FN15.out.on hb)
    have FK := hid (FK.out.on hb)
    clear hb
    refine hK.out _ _ ⟨FG.out.here, FN15.out.here, Fs.out.here, FN9.out.here⟩ ?_
    clear hK K
    try simp only [putz]
    refine Goes.one (i := 15) (o := ⟨some 101, _, _, _, _, _⟩) (by kernel_rfl) rfl (fun K hK => ?_)
    go_simp
    with_reducible refine (check_any p q g 1 c t bs false _ PL.out QL.out GL.out (by decide) CL.out TL.out BL.out FK.out M4.out).mono ?_
    rintro e w20 ⟨rfl, hb⟩
    go_wp2_with fail
    have HB := hid (HB.out.trans (hb.mono HB.out.size))
    have FG := hid (FG.out.on hb)
    have FGp := hid (FGp.out.on hb)
    have FGq := hid (FGq.out.on hb)
    have FGg := hid (FGg.out.on hb)
    have FNx := hid (FNx.out.on hb)
    have Fs := hid (Fs.out.on hb)
    have FN7 := hid (FN7.out.on hb)
    have FN9 := hid (FN9.out.on hb)
    have FN9c := hid (FN9c.out.on hb)
    have FN9s := hid (FN9s.out.on hb)
    have FN11 := hid (FN11.out.on hb)
    have FN13 := hid (FN13.out.on hb)
    have FN15 := hid (FN15.out.on hb)
    have FK := hid (FK.out.on hb)
    clear hb
    refine hK.out _ _ ⟨FG.out.here, FN15.out.here, Fs.out.here, FN9.out.here⟩ ?_
    clear hK K
    try simp only [putz]
    refine Goes.tk (i := 16) (o := ⟨some 102, _, _, _, _, _⟩) (v := ?_) [] (y := Or.inl ⟨by rfl, ?_⟩) (s := ⟨FG.out.here, FN15.out.here, Fs.out.here, FN9.out.here⟩) (H := ?_)
    rotate_left
    · intro u hY; go_simp; try with_reducible rfl
    try simp only [putz]
    refine Goes.tk (i := 17) (o := ⟨some 103, _, _, _, _, _⟩) (v := ?_) [] (y := Or.inl ⟨by rfl, ?_⟩) (s := ⟨FG.out.here, FN15.out.here, Fs.out.here, FN9.out.here⟩) (H := ?_)
    rotate_left
    · intro u hY; go_simp; try with_reducible rfl
    try simp only [putz]
    refine Goes.tk (i := 18) (o := ⟨some 104, _, _, _, _, _⟩) (v := ?_) [] (y := Or.inl ⟨by rfl, ?_⟩) (s := ⟨FG.out.here, FN15.out.here, Fs.out.here, FN9.out.here⟩) (H := ?_)
    rotate_left
    · intro u hY; go_simp; try with_reducible rfl
    try simp only [putz]
    refine Goes.tk (i := 19) (o := ⟨some 105, _, _, _, _, _⟩) (v := gv p q g) [] (y := Or.inl ⟨by rfl, ?_⟩) (s := ⟨FG.out.here, FN15.out.here, Fs.out.here, FN9.out.here⟩) (H := ?_)
    · rintro u ⟨up, -, hX⟩; obtain ⟨x0, x1, x2, x3⟩ := hX; exact y_ld _ _ rfl _ _ rfl x0
    try simp only [putz]
    refine Goes.tk (i := 20) (o := ⟨some 106, _, _, _, _, _⟩) (v := ?_) [] (y := Or.inl ⟨by rfl, ?_⟩) (s := ⟨FG.out.here, FN15.out.here, Fs.out.here, FN9.out.here⟩) (H := ?_)
    rotate_left
    · intro u hY; go_simp; try with_reducible rfl
    try simp only [putz]
    refine Goes.tk (i := 21) (o := ⟨some 107, _, _, _, _, _⟩) (v := .agg (bvs bs).toArray) [] (y := Or.inl ⟨by rfl, ?_⟩) (s := ⟨FG.out.here, FN15.out.here, Fs.out.here, FN9.out.here⟩) (H := ?_)
    · rintro u ⟨up, -, hX⟩; obtain ⟨x0, x1, x2, x3⟩ := hX; exact y_ld _ _ rfl _ _ rfl x2
    try simp only [putz]
    refine Goes.tk (i := 22) (o := ⟨some 108, _, _, _, _, _⟩) (v := sgv c t) [] (y := Or.inl ⟨by rfl, ?_⟩) (s := ⟨FG.out.here, FN15.out.here, Fs.out.here, FN9.out.here⟩) (H := ?_)
    · rintro u ⟨up, -, hX⟩; obtain ⟨x0, x1, x2, x3⟩ := hX; exact y_ld _ _ rfl _ _ rfl x3
    try simp only [putz]
    refine Goes.one (i := 23) (o := ⟨some 109, _, _, _, _, _⟩) (by kernel_rfl) rfl (fun K hK => ?_)
    go_simp
    with_reducible refine (K0 _ FK.out).mono ?_
    rintro e w21 ⟨rfl, hb⟩
    go_wp2_with fail
    have HB := hid (HB.out.trans (hb.mono HB.out.size))
    have FG := hid (FG.out.on hb)
    have FGp := hid (FGp.out.on hb)
    have FGq := hid (FGq.out.on hb)
    have FGg := hid (FGg.out.on hb)
    have FNx := hid (FNx.out.on hb)
    have Fs := hid (Fs.out.on hb)
    have FN7 := hid (FN7.out.on hb)
    have FN9 := hid (FN9.out.on hb)
    have FN9c := hid (FN9c.out.on hb)
    have FN9s := hid (FN9s.out.on hb)
    have FN11 := hid (FN11.out.on hb)
    have FN13 := hid (FN13.out.on hb)
    have FN15 := hid (FN15.out.on hb)
    have FK := hid (FK.out.on hb)
    clear hb
    refine hK.out _ _ ⟨FG.out.here, FN15.out.here, Fs.out.here, FN9.out.here⟩ ?_
    clear hK K
    try simp only [putz]
    refine Goes.tk (i := 24) (o := ⟨some 110, _, _, _, _, _⟩) (v := ?_) [] (y := Or.inl ⟨by rfl, ?_⟩) (s := ⟨FG.out.here, FN15.out.here, Fs.out.here, FN9.out.here⟩) (H := ?_)
    rotate_left
    · intro u hY; go_simp; try with_reducible rfl
    try simp only [putz]
    refine Goes.tk (i := 25) (o := ⟨some 111, _, _, _, _, _⟩) (v := ?_) [] (y := Or.inl ⟨by rfl, ?_⟩) (s := ⟨FG.out.here, FN15.out.here, Fs.out.here, FN9.out.here⟩) (H := ?_)
    rotate_left
    · intro u hY; go_simp; try with_reducible rfl
    try simp only [putz]
    refine Goes.tk (i := 26) (o := ⟨some 112, _, _, _, _, _⟩) (v := ?_) [] (y := Or.inl ⟨by rfl, ?_⟩) (s := ⟨FG.out.here, FN15.out.here, Fs.out.here, FN9.out.here⟩) (H := ?_)
    rotate_left
    · intro u hY; go_simp; try with_reducible rfl
    try simp only [putz]
    refine Goes.one (i := 27) (o := ⟨some 113, _, _, _, _, _⟩) (by kernel_rfl) rfl (fun K hK => ?_)
    go_simp
    with_reducible refine (lives_any _).mono ?_
    rintro e w22 ⟨rfl, hb⟩
    go_wp2_with fail
    have HB := hid (HB.out.trans (hb.mono HB.out.size))
    have FG := hid (FG.out.on hb)
    have FGp := hid (FGp.out.on hb)
    have FGq := hid (FGq.out.on hb)
    have FGg := hid (FGg.out.on hb)
    have FNx := hid (FNx.out.on hb)
    have Fs := hid (Fs.out.on hb)
    have FN7 := hid (FN7.out.on hb)
    have FN9 := hid (FN9.out.on hb)
    have FN9c := hid (FN9c.out.on hb)
    have FN9s := hid (FN9s.out.on hb)
    have FN11 := hid (FN11.out.on hb)
    have FN13 := hid (FN13.out.on hb)
    have FN15 := hid (FN15.out.on hb)
    have FK := hid (FK.out.on hb)
    clear hb
    refine hK.out _ _ ⟨FG.out.here, FN15.out.here, Fs.out.here, FN9.out.here⟩ ?_
    clear hK K
    try simp only [putz]
    refine Goes.tk (i := 28) (o := ⟨some 114, _, _, _, _, _⟩) (v := ?_) [] (y := Or.inl ⟨by rfl, ?_⟩) (s := ⟨FG.out.here, FN15.out.here, Fs.out.here, FN9.out.here⟩) (H := ?_)
    rotate_left
    · intro u hY; go_simp; try with_reducible rfl
    try simp only [putz]
    refine Goes.tk (i := 29) (o := ⟨some 6, _, _, _, _, _⟩) (v := ?_) [] (y := Or.inl ⟨by rfl, ?_⟩) (s := ⟨FG.out.here, FN15.out.here, Fs.out.here, FN9.out.here⟩) (H := ?_)
    rotate_left
    · intro u hY; go_simp; try with_reducible rfl
    try simp only [putz]
    refine Goes.done (by kernel_rfl) ?_ _
    refine NoPanic.normal ?_
    go_wp2_with fail
    try go_ret
    try rw [Exit.noGoto_ret]
    first | exact ⟨rfl, by first | exact HFIN.out _ HB.out | (rw [hgp]; exact HFIN.out _ HB.out)⟩ | exact bodyPost_ret (v := .bool (true)) (by simp [results, Tryd.results4, go_sem]) rfl ⟨rfl, by first | exact HFIN.out _ HB.out | (rw [hgp]; exact HFIN.out _ HB.out)⟩
end Go.Proofs.YtioebjbjpjbodaaDoor
namespace Go.Proofs.YtioebjbjpjbodaaDoor
open Go.RowKit
set_option linter.unusedVariables false
set_option linter.unusedSimpArgs false

set_option maxRecDepth 100000 in
set_option maxHeartbeats 16000000 in
theorem bounds_ok11 (p q g x : Nat) (bs : List UInt8) (w : World) (hp : p < 2 ^ 256) (hq : q < 2 ^ 256) (hg : g < 2 ^ 256) (hx : x < 2 ^ 256) (hbs : bs.length = 32) (hK : Kt w) (hv : Sec p q g x) (h1 : (sigC p q g x bs + q) / 2 ^ 256 = 1) (h2 : (sigS p q g x bs + q) / 2 ^ 256 = 1) : Calls Tryd.prog 4 #[gv p q g, num x, .agg (bvs bs).toArray] w fun e w' => e = .returned (.bool true) ∧ Below w.heap.size w w' := by
  have VV := hid hv
  have hq1 := hv.2.2.1
  have hp1 : 1 < p := by have := hv.2.2.2.2.1; omega
  obtain ⟨k, ek⟩ : ∃ k, g ^ x % p = k := ⟨_, rfl⟩
  obtain ⟨c, ec⟩ : ∃ c, sigC p q g x bs = c := ⟨_, rfl⟩
  obtain ⟨t, et⟩ : ∃ t, sigS p q g x bs = t := ⟨_, rfl⟩
  have hk : k < p := ek ▸ Nat.mod_lt _ (by omega)
  have hc : c < q := ec ▸ sigC_lt p q g x bs (by omega)
  have ht : t < q := et ▸ sigS_lt p q g x bs (by omega)
  obtain ⟨c2, ec2⟩ : ∃ z, (c + q) % 2 ^ 256 = z := ⟨_, rfl⟩
  obtain ⟨k1, ek1⟩ : ∃ z : Int, (((c + q) / 2 ^ 256 : Nat) : Int) = z := ⟨_, rfl⟩
  rw [ec] at h1
  have hk1 : k1 = 0 ∨ k1 = 1 := by omega
  have lc2 : c2 < 2 ^ 256 := ec2 ▸ Nat.mod_lt _ (by decide)
  have gk1 : k1 = 0 → c2 = c + q := by intro h; omega
  obtain ⟨t2, et2⟩ : ∃ z, (t + q) % 2 ^ 256 = z := ⟨_, rfl⟩
  obtain ⟨k2, ek2⟩ : ∃ z : Int, (((t + q) / 2 ^ 256 : Nat) : Int) = z := ⟨_, rfl⟩
  rw [et] at h2
  have hk2 : k2 = 0 ∨ k2 = 1 := by omega
  have lt2 : t2 < 2 ^ 256 := et2 ▸ Nat.mod_lt _ (by decide)
  have gk2 : k2 = 0 → t2 = t + q := by intro h; omega
  obtain ⟨k3, ek3⟩ : ∃ z, (k + p) % 2 ^ 256 = z := ⟨_, rfl⟩
  obtain ⟨o3, eo3⟩ : ∃ z : Int, (((k + p) / 2 ^ 256 : Nat) : Int) = z := ⟨_, rfl⟩
  have ho3 : o3 = 0 ∨ o3 = 1 := by omega
  have lk3 : k3 < 2 ^ 256 := ek3 ▸ Nat.mod_lt _ (by decide)
  have go3 : o3 = 0 → k3 = k + p := by intro h; omega
  have N1 : k1 = 0 → decide (Chk p q g k c2 t bs) = false := fun h => decide_eq_false (fun h2 => by have := gk1 h; have := h2.2.2.1; omega)
  have N2 : k2 = 0 → decide (Chk p q g k c t2 bs) = false := fun h => decide_eq_false (fun h2 => by have := gk2 h; have := h2.2.2.2.1; omega)
  have N3 : o3 = 0 → decide (Chk p q g k3 c t bs) = false := fun h => decide_eq_false (fun h2 => by have := go3 h; have := h2.2.1.2.1.2; omega)
  have N4 : decide (Chk p q g 1 c t bs) = false := decide_eq_false (fun h2 => h2.2.1.1 rfl)
  have N5 : decide (Chk p q g 0 c t bs) = false := decide_eq_false (fun h2 => Nat.lt_irrefl 0 h2.2.1.2.1.1)
  have K0 : ∀ w, Kt w → Calls Tryd.prog 9 #[gv p q g, .agg #[.int .u64 0, .int .u64 0, .int .u64 0, .int .u64 0], .agg (bvs bs).toArray, sgv c t] w fun e w' => e = .returned (.bool false) ∧ Below w.heap.size w w' := fun w hK => by rw [num_zero]; exact check_any p q g 0 c t bs false w hp hq hg (by decide) (by omega) (by omega) hbs hK N5
  have EK := hid ek
  have EC := hid ec
  have ET := hid et
  have KL := hid (show k < 2 ^ 256 by omega)
  have CL := hid (show c < 2 ^ 256 by omega)
  have TL := hid (show t < 2 ^ 256 by omega)
  have S1 := hid ec2
  have S2 := hid et2
  have S3 := hid ek3
  have O1 := hid ek1
  have O2 := hid ek2
  have O3 := hid eo3
  have H1 := hid hk1
  have H2 := hid hk2
  have H3 := hid ho3
  have L1 := hid lc2
  have L2 := hid lt2
  have L3 := hid lk3
  have M1 := hid N1
  have M2 := hid N2
  have M3 := hid N3
  have M4 := hid N4
  skip
  skip
  clear M1 M2 H1 H2
  have k1n : ¬ k1 = 0 := by omega
  have k1d : decide (k1 = 0) = false := decide_eq_false k1n
  have k1e : (k1 == 0) = false := by simpa using k1n
  have k2n : ¬ k2 = 0 := by omega
  have k2d : decide (k2 = 0) = false := decide_eq_false k2n
  have k2e : (k2 == 0) = false := by simpa using k2n
  clear h1 h2 hv hq1 hp1 ek ec et hk hc ht ec2 et2 ek3 ek1 ek2 eo3 hk1 hk2 ho3 lc2 lt2 lk3 gk1 gk2 go3 N1 N2 N3 N4 N5
  have PL := hid hp
  have QL := hid hq
  have GL := hid hg
  have XL := hid hx
  have BL := hid hbs
  clear hp hq hg hx
  obtain ⟨hB0, hs0, f0, f1, f2⟩ := boxes3 w (gcs p q g) (cls x) ((bvs bs).toArray) 26 24 28 _ rfl
  have HFIN : Hid (∀ u, Below (((w.alloc (.cells (gcs p q g) 26)).alloc (.cells (cls x) 24)).alloc (.cells ((bvs bs).toArray) 28)).heap.size (((w.alloc (.cells (gcs p q g) 26)).alloc (.cells (cls x) 24)).alloc (.cells ((bvs bs).toArray) 28)) u → Below w.heap.size w u) := hid (fun u hu => hB0.trans (hu.mono hB0.size))
  have HKT := hid (hK.on hB0)
  clear hK
  go_enter Tryd.func4, Tryd.ntmps4
  go_upto_region 1 with fail
  generalize ((w.alloc (.cells (gcs p q g) 26)).alloc (.cells (cls x) 24)).alloc (.cells ((bvs bs).toArray) 28) = W0 at *
  have hb1 := Below.refl W0.heap.size W0
  have HB := hid hb1
  have HZ0 : Hid (W0.heap.size = w.heap.size + 1 + 1 + 1) := hid hs0
  have FG := hid ((ldG p q g 0 f0 (all_at _)).on hb1)
  have FGp := hid ((ldN p 0 f0 (four_at p _ 0 rfl rfl rfl rfl)).on hb1)
  have FGq := hid ((ldN q 4 f0 (four_at q _ 4 rfl rfl rfl rfl)).on hb1)
  have FGg := hid ((ldN g 8 f0 (four_at g _ 8 rfl rfl rfl rfl)).on hb1)
  have FNx := hid ((ldN x 0 f1 (all_at _)).on hb1)
  have Fs := hid ((ldS bs hbs 0 f2 (fun j v h => by rw [Nat.zero_add]; simpa using h)).on hb1)
  have FK := hid (HKT.out.on hb1)
  clear HKT
  clear hB0 hs0 hb1 f0 f1 f2
  generalize w.heap.size + 1 + 1 = g_s at *
  generalize w.heap.size + 1 = g_a at *
  generalize hgp : w.heap.size = g_p at *
  clear hbs
  have l1 := FG.out.here
  have l2 := FNx.out.here
  go_wp2_with (first | (refine wp_ldw (by kernel_rfl) 26 _ rfl (.pointer (some ⟨g_p, 0, none⟩)) (by rfl) _ l1 ?_) | (refine wp_ldw (by kernel_rfl) 24 _ rfl (.pointer (some ⟨g_a, 0, none⟩)) (by rfl) _ l2 ?_))
  clear l1 l2
  refine (key_ok p q g x k _ PL.out QL.out GL.out XL.out VV.out EK.out).mono ?_
  rintro e w1 ⟨rfl, hb⟩
  have HB := hid (HB.out.trans (hb.mono HB.out.size))
  have FG := hid (FG.out.on hb)
  have FGp := hid (FGp.out.on hb)
  have FGq := hid (FGq.out.on hb)
  have FGg := hid (FGg.out.on hb)
  have FNx := hid (FNx.out.on hb)
  have Fs := hid (Fs.out.on hb)
  have FK := hid (FK.out.on hb)
  clear hb
  go_upto_region 2 with fail
  have hb := (Below.refl w1.heap.size w1).alloc (Nat.le_refl _) (.cells (cls k) 24)
  have hn := heap_alloc_new w1 (.cells (cls k) 24)
  have HB := hid (HB.out.trans (hb.mono HB.out.size))
  have FG := hid (FG.out.on hb)
  have FGp := hid (FGp.out.on hb)
  have FGq := hid (FGq.out.on hb)
  have FGg := hid (FGg.out.on hb)
  have FNx := hid (FNx.out.on hb)
  have Fs := hid (Fs.out.on hb)
  have FK := hid (FK.out.on hb)
  have FN7 := hid (ldN k 0 hn (all_at _))
  clear hb hn
  generalize w1.alloc (.cells (cls k) 24) = w2 at *
  generalize w1.heap.size = gN7 at *
  have l3 := FG.out.here
  have l4 := FNx.out.here
  have l5 := Fs.out.here
  go_wp2_with (first | (refine wp_ldw (by kernel_rfl) 26 _ rfl (.pointer (some ⟨g_p, 0, none⟩)) (by rfl) _ l3 ?_) | (refine wp_ldw (by kernel_rfl) 24 _ rfl (.pointer (some ⟨g_a, 0, none⟩)) (by rfl) _ l4 ?_) | (refine wp_ldw (by kernel_rfl) 28 _ rfl (.pointer (some ⟨g_s, 0, none⟩)) (by rfl) _ l5 ?_))
  clear l3 l4 l5
  refine (sign_ok p q g x c t bs _ PL.out QL.out GL.out XL.out BL.out FK.out VV.out EC.out ET.out).mono ?_
  rintro e w3 ⟨rfl, hb⟩
  have HB := hid (HB.out.trans (hb.mono HB.out.size))
  have FG := hid (FG.out.on hb)
  have FGp := hid (FGp.out.on hb)
  have FGq := hid (FGq.out.on hb)
  have FGg := hid (FGg.out.on hb)
  have FNx := hid (FNx.out.on hb)
  have Fs := hid (Fs.out.on hb)
  have FN7 := hid (FN7.out.on hb)
  have FK := hid (FK.out.on hb)
  clear hb
  go_upto_region 3 with fail
  have hb := (Below.refl w3.heap.size w3).alloc (Nat.le_refl _) (.cells (sgc c t) 33)
  have hn := heap_alloc_new w3 (.cells (sgc c t) 33)
  have HB := hid (HB.out.trans (hb.mono HB.out.size))
  have FG := hid (FG.out.on hb)
  have FGp := hid (FGp.out.on hb)
  have FGq := hid (FGq.out.on hb)
  have FGg := hid (FGg.out.on hb)
  have FNx := hid (FNx.out.on hb)
  have Fs := hid (Fs.out.on hb)
  have FN7 := hid (FN7.out.on hb)
  have FK := hid (FK.out.on hb)
  have FN9 := hid (ldX c t 0 hn (all_at _))
  have FN9c := hid (ldN c 0 hn (four_at c _ 0 rfl rfl rfl rfl))
  have FN9s := hid (ldN t 4 hn (four_at t _ 4 rfl rfl rfl rfl))
  clear hb hn
  generalize w3.alloc (.cells (sgc c t) 33) = w4 at *
  generalize w3.heap.size = gN9 at *
  have l6 := FN9c.out.here
  have l7 := FGq.out.here
  go_wp2_with (first | (refine wp_ldw (by kernel_rfl) 24 _ rfl (.pointer (some ⟨gN9, 0, none⟩)) (by rfl) _ l6 ?_) | (refine wp_ldw (by kernel_rfl) 24 _ rfl (.pointer (some ⟨g_p, 4, none⟩)) (by rfl) _ l7 ?_))
  clear l6 l7
  refine (add_at c q c2 k1 (Env.refl _) CL.out QL.out S1.out O1.out).mono ?_
  rintro e w5 ⟨rfl, hb⟩
  have hb := hb.1
  have HB := hid (HB.out.trans (hb.mono HB.out.size))
  have FG := hid (FG.out.on hb)
  have FGp := hid (FGp.out.on hb)
  have FGq := hid (FGq.out.on hb)
  have FGg := hid (FGg.out.on hb)
  have FNx := hid (FNx.out.on hb)
  have Fs := hid (Fs.out.on hb)
  have FN7 := hid (FN7.out.on hb)
  have FN9 := hid (FN9.out.on hb)
  have FN9c := hid (FN9c.out.on hb)
  have FN9s := hid (FN9s.out.on hb)
  have FK := hid (FK.out.on hb)
  clear hb
  go_upto_region 6 with fail
  have hb := (Below.refl w5.heap.size w5).alloc (Nat.le_refl _) (.cells (cls c2) 24)
  have hn := heap_alloc_new w5 (.cells (cls c2) 24)
  have HB := hid (HB.out.trans (hb.mono HB.out.size))
  have FG := hid (FG.out.on hb)
  have FGp := hid (FGp.out.on hb)
  have FGq := hid (FGq.out.on hb)
  have FGg := hid (FGg.out.on hb)
  have FNx := hid (FNx.out.on hb)
  have Fs := hid (Fs.out.on hb)
  have FN7 := hid (FN7.out.on hb)
  have FN9 := hid (FN9.out.on hb)
  have FN9c := hid (FN9c.out.on hb)
  have FN9s := hid (FN9s.out.on hb)
  have FK := hid (FK.out.on hb)
  have FN11 := hid (ldN c2 0 hn (all_at _))
  clear hb hn
  generalize w5.alloc (.cells (cls c2) 24) = w6 at *
  generalize w5.heap.size = gN11 at *
  have l8 := FN9s.out.here
  have l9 := FGq.out.here
  go_wp2_with (first | (refine wp_ldw (by kernel_rfl) 24 _ rfl (.pointer (some ⟨gN9, 4, none⟩)) (by rfl) _ l8 ?_) | (refine wp_ldw (by kernel_rfl) 24 _ rfl (.pointer (some ⟨g_p, 4, none⟩)) (by rfl) _ l9 ?_))
  clear l8 l9
  refine (add_at t q t2 k2 (Env.refl _) TL.out QL.out S2.out O2.out).mono ?_
  rintro e w7 ⟨rfl, hb⟩
  have hb := hb.1
  have HB := hid (HB.out.trans (hb.mono HB.out.size))
  have FG := hid (FG.out.on hb)
  have FGp := hid (FGp.out.on hb)
  have FGq := hid (FGq.out.on hb)
  have FGg := hid (FGg.out.on hb)
  have FNx := hid (FNx.out.on hb)
  have Fs := hid (Fs.out.on hb)
  have FN7 := hid (FN7.out.on hb)
  have FN9 := hid (FN9.out.on hb)
  have FN9c := hid (FN9c.out.on hb)
  have FN9s := hid (FN9s.out.on hb)
  have FN11 := hid (FN11.out.on hb)
  have FK := hid (FK.out.on hb)
  clear hb
  go_upto_region 7 with fail
  have hb := (Below.refl w7.heap.size w7).alloc (Nat.le_refl _) (.cells (cls t2) 24)
  have hn := heap_alloc_new w7 (.cells (cls t2) 24)
  have HB := hid (HB.out.trans (hb.mono HB.out.size))
  have FG := hid (FG.out.on hb)
  have FGp := hid (FGp.out.on hb)
  have FGq := hid (FGq.out.on hb)
  have FGg := hid (FGg.out.on hb)
  have FNx := hid (FNx.out.on hb)
  have Fs := hid (Fs.out.on hb)
  have FN7 := hid (FN7.out.on hb)
  have FN9 := hid (FN9.out.on hb)
  have FN9c := hid (FN9c.out.on hb)
  have FN9s := hid (FN9s.out.on hb)
  have FN11 := hid (FN11.out.on hb)
  have FK := hid (FK.out.on hb)
  have FN13 := hid (ldN t2 0 hn (all_at _))
  clear hb hn
  generalize w7.alloc (.cells (cls t2) 24) = w8 at *
  generalize w7.heap.size = gN13 at *
  go_upto_region 9 with fail
  have l10 := FN7.out.here
  have l11 := FGp.out.here
  go_wp2_with (first | (refine wp_ldw (by kernel_rfl) 24 _ rfl (.pointer (some ⟨gN7, 0, none⟩)) (by rfl) _ l10 ?_) | (refine wp_ldw (by kernel_rfl) 24 _ rfl (.pointer (some ⟨g_p, 0, none⟩)) (by rfl) _ l11 ?_))
  clear l10 l11
  refine (add_at k p k3 o3 (Env.refl _) KL.out PL.out S3.out O3.out).mono ?_
  rintro e w9 ⟨rfl, hb⟩
  have hb := hb.1
  have HB := hid (HB.out.trans (hb.mono HB.out.size))
  have FG := hid (FG.out.on hb)
  have FGp := hid (FGp.out.on hb)
  have FGq := hid (FGq.out.on hb)
  have FGg := hid (FGg.out.on hb)
  have FNx := hid (FNx.out.on hb)
  have Fs := hid (Fs.out.on hb)
  have FN7 := hid (FN7.out.on hb)
  have FN9 := hid (FN9.out.on hb)
  have FN9c := hid (FN9c.out.on hb)
  have FN9s := hid (FN9s.out.on hb)
  have FN11 := hid (FN11.out.on hb)
  have FN13 := hid (FN13.out.on hb)
  have FK := hid (FK.out.on hb)
  clear hb
  go_upto_region 10 with fail
  have hb := (Below.refl w9.heap.size w9).alloc (Nat.le_refl _) (.cells (cls k3) 24)
  have hn := heap_alloc_new w9 (.cells (cls k3) 24)
  have HB := hid (HB.out.trans (hb.mono HB.out.size))
  have FG := hid (FG.out.on hb)
  have FGp := hid (FGp.out.on hb)
  have FGq := hid (FGq.out.on hb)
  have FGg := hid (FGg.out.on hb)
  have FNx := hid (FNx.out.on hb)
  have Fs := hid (Fs.out.on hb)
  have FN7 := hid (FN7.out.on hb)
  have FN9 := hid (FN9.out.on hb)
  have FN9c := hid (FN9c.out.on hb)
  have FN9s := hid (FN9s.out.on hb)
  have FN11 := hid (FN11.out.on hb)
  have FN13 := hid (FN13.out.on hb)
  have FK := hid (FK.out.on hb)
  have FN15 := hid (ldN k3 0 hn (all_at _))
  clear hb hn
  generalize w9.alloc (.cells (cls k3) 24) = w10 at *
  generalize w9.heap.size = gN15 at *
  rcases H3.out with h3 | h3
  · skip
    have V3 := hid (M3.out h3)
    clear M3
    subst h3
    refine wp_region_noPanic ?_
    refine Goes.region (fun (L : Array Bool) (u : World) => (Instr.loadAt 26 (.pointer (some ⟨g_p, 0, none⟩))).run Tryd.prog u = .ok (gv p q g) u ∧ (Instr.loadAt 24 (.pointer (some ⟨gN15, 0, none⟩))).run Tryd.prog u = .ok (num k3) u ∧ (Instr.loadAt 28 (.pointer (some ⟨g_s, 0, none⟩))).run Tryd.prog u = .ok (.agg (bvs bs).toArray) u ∧ (Instr.loadAt 33 (.pointer (some ⟨gN9, 0, none⟩))).run Tryd.prog u = .ok (sgv c t) u) (by kernel_rfl) ?_
    have hb := (Below.refl w10.heap.size w10).drew
    have HB := hid (HB.out.trans (hb.mono HB.out.size))
    have FG := hid (FG.out.on hb)
    have FGp := hid (FGp.out.on hb)
    have FGq := hid (FGq.out.on hb)
    have FGg := hid (FGg.out.on hb)
    have FNx := hid (FNx.out.on hb)
    have Fs := hid (Fs.out.on hb)
    have FN7 := hid (FN7.out.on hb)
    have FN9 := hid (FN9.out.on hb)
    have FN9c := hid (FN9c.out.on hb)
    have FN9s := hid (FN9s.out.on hb)
    have FN11 := hid (FN11.out.on hb)
    have FN13 := hid (FN13.out.on hb)
    have FN15 := hid (FN15.out.on hb)
    have FK := hid (FK.out.on hb)
    clear hb
    generalize w10.drew = w11 at *
    refine Goes.tk (i := 0) (o := ⟨some 86, _, _, _, _, _⟩) (v := ?_) [] (y := Or.inl ⟨by rfl, ?_⟩) (s := ⟨FG.out.here, FN15.out.here, Fs.out.here, FN9.out.here⟩) (H := ?_)
    rotate_left
    · intro u hY; go_simp; try with_reducible rfl
    try simp only [putz]
    refine Goes.tk (i := 1) (o := ⟨some 87, _, _, _, _, _⟩) (v := ?_) [] (y := Or.inl ⟨by rfl, ?_⟩) (s := ⟨FG.out.here, FN15.out.here, Fs.out.here, FN9.out.here⟩) (H := ?_)
    rotate_left
    · intro u hY; go_simp; try with_reducible rfl
    try simp only [putz]
    refine Goes.tk (i := 2) (o := ⟨some 88, _, _, _, _, _⟩) (v := ?_) [] (y := Or.inl ⟨by rfl, ?_⟩) (s := ⟨FG.out.here, FN15.out.here, Fs.out.here, FN9.out.here⟩) (H := ?_)
    rotate_left
    · intro u hY; go_simp; try with_reducible rfl
    try simp only [putz]
    refine Goes.tk (i := 3) (o := ⟨some 89, _, _, _, _, _⟩) (v := gv p q g) [] (y := Or.inl ⟨by rfl, ?_⟩) (s := ⟨FG.out.here, FN15.out.here, Fs.out.here, FN9.out.here⟩) (H := ?_)
    · rintro u ⟨up, -, hX⟩; obtain ⟨x0, x1, x2, x3⟩ := hX; exact y_ld _ _ rfl _ _ rfl x0
    try simp only [putz]
    refine Goes.tk (i := 4) (o := ⟨some 90, _, _, _, _, _⟩) (v := num k3) [] (y := Or.inl ⟨by rfl, ?_⟩) (s := ⟨FG.out.here, FN15.out.here, Fs.out.here, FN9.out.here⟩) (H := ?_)
    · rintro u ⟨up, -, hX⟩; obtain ⟨x0, x1, x2, x3⟩ := hX; exact y_ld _ _ rfl _ _ rfl x1
    try simp only [putz]
    refine Goes.tk (i := 5) (o := ⟨some 91, _, _, _, _, _⟩) (v := .agg (bvs bs).toArray) [] (y := Or.inl ⟨by rfl, ?_⟩) (s := ⟨FG.out.here, FN15.out.here, Fs.out.here, FN9.out.here⟩) (H := ?_)
    · rintro u ⟨up, -, hX⟩; obtain ⟨x0, x1, x2, x3⟩ := hX; exact y_ld _ _ rfl _ _ rfl x2
    try simp only [putz]
    refine Goes.tk (i := 6) (o := ⟨some 92, _, _, _, _, _⟩) (v := sgv c t) [] (y := Or.inl ⟨by rfl, ?_⟩) (s := ⟨FG.out.here, FN15.out.here, Fs.out.here, FN9.out.here⟩) (H := ?_)
    · rintro u ⟨up, -, hX⟩; obtain ⟨x0, x1, x2, x3⟩ := hX; exact y_ld _ _ rfl _ _ rfl x3
    try simp only [putz]
    refine Goes.one (i := 7) (o := ⟨some 93, _, _, _, _, _⟩) (by kernel_rfl) rfl (fun K hK => ?_)
    go_simp
    with_reducible refine (check_any p q g k3 c t bs false _ PL.out QL.out GL.out L3.out CL.out TL.out BL.out FK.out V3.out).mono ?_
    rintro e w12 ⟨rfl, hb⟩
    go_wp2_with fail
    have HB := hid (HB.out.trans (hb.mono HB.out.size))
    have FG := hid (FG.out.on hb)
    have FGp := hid (FGp.out.on hb)
    have FGq := hid (FGq.out.on hb)
    have FGg := hid (FGg.out.on hb)
    have FNx := hid (FNx.out.on hb)
    have Fs := hid (Fs.out.on hb)
    have FN7 := hid (FN7.out.on hb)
    have FN9 := hid (FN9.out.on hb)
    have FN9c := hid (FN9c.out.on hb)
    have FN9s := hid (FN9s.out.on hb)
    have FN11 := hid (FN11.out.on hb)
    have FN13 := hid (FN13.out.on hb)
    have FN15 := hid (FN15.out.on hb)
    have FK := hid (FK.out.on hb)
    clear hb
    refine hK.out _ _ ⟨FG.out.here, FN15.out.here, Fs.out.here, FN9.out.here⟩ ?_
    clear hK K
    try simp only [putz]
    refine Goes.tk (i := 8) (o := ⟨some 94, _, _, _, _, _⟩) (v := ?_) [] (y := Or.inl ⟨by rfl, ?_⟩) (s := ⟨FG.out.here, FN15.out.here, Fs.out.here, FN9.out.here⟩) (H := ?_)
    rotate_left
    · intro u hY; go_simp; try with_reducible rfl
    try simp only [putz]
    refine Goes.tk (i := 9) (o := ⟨some 95, _, _, _, _, _⟩) (v := ?_) [] (y := Or.inl ⟨by rfl, ?_⟩) (s := ⟨FG.out.here, FN15.out.here, Fs.out.here, FN9.out.here⟩) (H := ?_)
    rotate_left
    · intro u hY; go_simp; try with_reducible rfl
    try simp only [putz]
    refine Goes.tk (i := 10) (o := ⟨some 96, _, _, _, _, _⟩) (v := ?_) [] (y := Or.inl ⟨by rfl, ?_⟩) (s := ⟨FG.out.here, FN15.out.here, Fs.out.here, FN9.out.here⟩) (H := ?_)
    rotate_left
    · intro u hY; go_simp; try with_reducible rfl
    try simp only [putz]
    refine Goes.tk (i := 11) (o := ⟨some 97, _, _, _, _, _⟩) (v := gv p q g) [] (y := Or.inl ⟨by rfl, ?_⟩) (s := ⟨FG.out.here, FN15.out.here, Fs.out.here, FN9.out.here⟩) (H := ?_)
    · rintro u ⟨up, -, hX⟩; obtain ⟨x0, x1, x2, x3⟩ := hX; exact y_ld _ _ rfl _ _ rfl x0
    try simp only [putz]
    refine Goes.tk (i := 13) (o := ⟨some 99, _, _, _, _, _⟩) (v := .agg (bvs bs).toArray) [] (y := Or.inl ⟨by rfl, ?_⟩) (s := ⟨FG.out.here, FN15.out.here, Fs.out.here, FN9.out.here⟩) (H := ?_)
    · rintro u ⟨up, -, hX⟩; obtain ⟨x0, x1, x2, x3⟩ := hX; exact y_ld _ _ rfl _ _ rfl x2
    try simp only [putz]
    refine Goes.tk (i := 14) (o := ⟨some 100, _, _, _, _, _⟩) (v := sgv c t) [] (y := Or.inl ⟨by rfl, ?_⟩) (s := ⟨FG.out.here, FN15.out.here, Fs.out.here, FN9.out.here⟩) (H := ?_)
    · rintro u ⟨up, -, hX⟩; obtain ⟨x0, x1, x2, x3⟩ := hX; exact y_ld _ _ rfl _ _ rfl x3
    try simp only [putz]
    refine Goes.one (i := 12) (o := ⟨some 98, _, _, _, _, _⟩) (by kernel_rfl) rfl (fun K hK => ?_)
    go_simp
    with_reducible refine (lofb 1 1 _ (by decide) rfl).mono ?_
    rintro e w13 ⟨rfl, hb⟩
    go_wp2_with fail
    have HB := hid (HB.out.trans (hb.mono HB.out.size))
    have FG := hid (FG.out.on hb)
    have FGp := hid (FGp.out.on hb)
    have FGq := hid (FGq.out.on hb)
    have FGg := hid (FGg.out.on hb)
    have FNx := hid (FNx.out.on hb)
    have Fs := hid (Fs.out.on hb)
    have FN7 := hid (FN7.out.on hb)
    have FN9 := hid (FN9.out.on hb)
    have FN9c := hid (FN9c.out.on hb)
    have FN9s := hid (FN9s.out.on hb)
    have FN11 := hid (FN11.out.on hb)
    have FN13 := hid (FN13.out.on hb)
    have FN15 := hid (FN15.out.on hb)
    have FK := hid (FK.out.on hb)
    clear hb
    refine hK.out _ _ ⟨FG.out.here, FN15.out.here, Fs.out.here, FN9.out.here⟩ ?_
    clear hK K
    try simp only [putz]
    refine Goes.one (i := 15) (o := ⟨some 101, _, _, _, _, _⟩) (by kernel_rfl) rfl (fun K hK => ?_)
    go_simp
    with_reducible refine (check_any p q g 1 c t bs false _ PL.out QL.out GL.out (by decide) CL.out TL.out BL.out FK.out M4.out).mono ?_
    rintro e w14 ⟨rfl, hb⟩
    go_wp2_with fail
    have HB := hid (HB.out.trans (hb.mono HB.out.size))
    have FG := hid (FG.out.on hb)
    have FGp := hid (FGp.out.on hb)
    have FGq := hid (FGq.out.on hb)
    have FGg := hid (FGg.out.on hb)
    have FNx := hid (FNx.out.on hb)
    have Fs := hid (Fs.out.on hb)
    have FN7 := hid (FN7.out.on hb)
    have FN9 := hid (FN9.out.on hb)
    have FN9c := hid (FN9c.out.on hb)
    have FN9s := hid (FN9s.out.on hb)
    have FN11 := hid (FN11.out.on hb)
    have FN13 := hid (FN13.out.on hb)
    have FN15 := hid (FN15.out.on hb)
    have FK := hid (FK.out.on hb)
    clear hb
    refine hK.out _ _ ⟨FG.out.here, FN15.out.here, Fs.out.here, FN9.out.here⟩ ?_
    clear hK K
    try simp only [putz]
    refine Goes.tk (i := 16) (o := ⟨some 102, _, _, _, _, _⟩) (v := ?_) [] (y := Or.inl ⟨by rfl, ?_⟩) (s := ⟨FG.out.here, FN15.out.here, Fs.out.here, FN9.out.here⟩) (H := ?_)
    rotate_left
    · intro u hY; go_simp; try with_reducible rfl
    try simp only [putz]
    refine Goes.tk (i := 17) (o := ⟨some 103, _, _, _, _, _⟩) (v := ?_) [] (y := Or.inl ⟨by rfl, ?_⟩) (s := ⟨FG.out.here, FN15.out.here, Fs.out.here, FN9.out.here⟩) (H := ?_)
    rotate_left
    · intro u hY; go_simp; try with_reducible rfl
    try simp only [putz]
    refine Goes.tk (i := 18) (o := ⟨some 104, _, _, _, _, _⟩) (v := ?_) [] (y := Or.inl ⟨by rfl, ?_⟩) (s := ⟨FG.out.here, FN15.out.here, Fs.out.here, FN9.out.here⟩) (H := ?_)
    rotate_left
    · intro u hY; go_simp; try with_reducible rfl
    try simp only [putz]
    refine Goes.tk (i := 19) (o := ⟨some 105, _, _, _, _, _⟩) (v := gv p q g) [] (y := Or.inl ⟨by rfl, ?_⟩) (s := ⟨FG.out.here, FN15.out.here, Fs.out.here, FN9.out.here⟩) (H := ?_)
    · rintro u ⟨up, -, hX⟩; obtain ⟨x0, x1, x2, x3⟩ := hX; exact y_ld _ _ rfl _ _ rfl x0
    try simp only [putz]
    refine Goes.tk (i := 20) (o := ⟨some 106, _, _, _, _, _⟩) (v := ?_) [] (y := Or.inl ⟨by rfl, ?_⟩) (s := ⟨FG.out.here, FN15.out.here, Fs.out.here, FN9.out.here⟩) (H := ?_)
    rotate_left
    · intro u hY; go_simp; try with_reducible rfl
    try simp only [putz]
    refine Goes.tk (i := 21) (o := ⟨some 107, _, _, _, _, _⟩) (v := .agg (bvs bs).toArray) [] (y := Or.inl ⟨by rfl, ?_⟩) (s := ⟨FG.out.here, FN15.out.here, Fs.out.here, FN9.out.here⟩) (H := ?_)
    · rintro u ⟨up, -, hX⟩; obtain ⟨x0, x1, x2, x3⟩ := hX; exact y_ld _ _ rfl _ _ rfl x2
    try simp only [putz]
    refine Goes.tk (i := 22) (o := ⟨some 108, _, _, _, _, _⟩) (v := sgv c t) [] (y := Or.inl ⟨by rfl, ?_⟩) (s := ⟨FG.out.here, FN15.out.here, Fs.out.here, FN9.out.here⟩) (H := ?_)
    · rintro u ⟨up, -, hX⟩; obtain ⟨x0, x1, x2, x3⟩ := hX; exact y_ld _ _ rfl _ _ rfl x3
    try simp only [putz]
    refine Goes.one (i := 23) (o := ⟨some 109, _, _, _, _, _⟩) (by kernel_rfl) rfl (fun K hK => ?_)
    go_simp
    with_reducible refine (K0 _ FK.out).mono ?_
    rintro e w15 ⟨rfl, hb⟩
    go_wp2_with fail
    have HB := hid (HB.out.trans (hb.mono HB.out.size))
    have FG := hid (FG.out.on hb)
    have FGp := hid (FGp.out.on hb)
    have FGq := hid (FGq.out.on hb)
    have FGg := hid (FGg.out.on hb)
    have FNx := hid (FNx.out.on hb)
    have Fs := hid (Fs.out.on hb)
    have FN7 := hid (FN7.out.on hb)
    have FN9 := hid (FN9.out.on hb)
    have FN9c := hid (FN9c.out.on hb)
    have FN9s := hid (FN9s.out.on hb)
    have FN11 := hid (FN11.out.on hb)
    have FN13 := hid (FN13.out.on hb)
    have FN15 := hid (FN15.out.on hb)
    have FK := hid (FK.out.on hb)
    clear hb
    refine hK.out _ _ ⟨FG.out.here, FN15.out.here, Fs.out.here, FN9.out.here⟩ ?_
    clear hK K
    try simp only [putz]
    refine Goes.tk (i := 24) (o := ⟨some 110, _, _, _, _, _⟩) (v := ?_) [] (y := Or.inl ⟨by rfl, ?_⟩) (s := ⟨FG.out.here, FN15.out.here, Fs.out.here, FN9.out.here⟩) (H := ?_)
    rotate_left
    · intro u hY; go_simp; try with_reducible rfl
    try simp only [putz]
    refine Goes.tk (i := 25) (o := ⟨some 111, _, _, _, _, _⟩) (v := ?_) [] (y := Or.inl ⟨by rfl, ?_⟩) (s := ⟨FG.out.here, FN15.out.here, Fs.out.here, FN9.out.here⟩) (H := ?_)
    rotate_left
    · intro u hY; go_simp; try with_reducible rfl
    try simp only [putz]
    refine Goes.tk (i := 26) (o := ⟨some 112, _, _, _, _, _⟩) (v := ?_) [] (y := Or.inl ⟨by rfl, ?_⟩) (s := ⟨FG.out.here, FN15.out.here, Fs.out.here, FN9.out.here⟩) (H := ?_)
    rotate_left
    · intro u hY; go_simp; try with_reducible rfl
    try simp only [putz]
    refine Goes.one (i := 27) (o := ⟨some 113, _, _, _, _, _⟩) (by kernel_rfl) rfl (fun K hK => ?_)
    go_simp
    with_reducible refine (lives_any _).mono ?_
    rintro e w16 ⟨rfl, hb⟩
    go_wp2_with fail
    have HB := hid (HB.out.trans (hb.mono HB.out.size))
    have FG := hid (FG.out.on hb)
    have FGp := hid (FGp.out.on hb)
    have FGq := hid (FGq.out.on hb)
    have FGg := hid (FGg.out.on hb)
    have FNx := hid (FNx.out.on hb)
    have Fs := hid (Fs.out.on hb)
    have FN7 := hid (FN7.out.on hb)
    have FN9 := hid (FN9.out.on hb)
    have FN9c := hid (FN9c.out.on hb)
    have FN9s := hid (FN9s.out.on hb)
    have FN11 := hid (FN11.out.on hb)
    have FN13 := hid (FN13.out.on hb)
    have FN15 := hid (FN15.out.on hb)
    have FK := hid (FK.out.on hb)
    clear hb
    refine hK.out _ _ ⟨FG.out.here, FN15.out.here, Fs.out.here, FN9.out.here⟩ ?_
    clear hK K
    try simp only [putz]
    refine Goes.tk (i := 28) (o := ⟨some 114, _, _, _, _, _⟩) (v := ?_) [] (y := Or.inl ⟨by rfl, ?_⟩) (s := ⟨FG.out.here, FN15.out.here, Fs.out.here, FN9.out.here⟩) (H := ?_)
    rotate_left
    · intro u hY; go_simp; try with_reducible rfl
    try simp only [putz]
    refine Goes.tk (i := 29) (o := ⟨some 6, _, _, _, _, _⟩) (v := ?_) [] (y := Or.inl ⟨by rfl, ?_⟩) (s := ⟨FG.out.here, FN15.out.here, Fs.out.here, FN9.out.here⟩) (H := ?_)
    rotate_left
    · intro u hY; go_simp; try with_reducible rfl
    try simp only [putz]
    refine Goes.done (by kernel_rfl) ?_ _
    refine NoPanic.normal ?_
    go_wp2_with fail
    try go_ret
    try rw [Exit.noGoto_ret]
    first | exact ⟨rfl, by first | exact HFIN.out _ HB.out | (rw [hgp]; exact HFIN.out _ HB.out)⟩ | exact bodyPost_ret (v := .bool (true)) (by simp [results, Tryd.results4, go_sem]) rfl ⟨rfl, by first | exact HFIN.out _ HB.out | (rw [hgp]; exact HFIN.out _ HB.out)⟩
  · skip
    skip
    clear M3
    subst h3
    refine wp_region_noPanic ?_
    refine Goes.region (fun (L : Array Bool) (u : World) => (Instr.loadAt 26 (.pointer (some ⟨g_p, 0, none⟩))).run Tryd.prog u = .ok (gv p q g) u ∧ (Instr.loadAt 24 (.pointer (some ⟨gN15, 0, none⟩))).run Tryd.prog u = .ok (num k3) u ∧ (Instr.loadAt 28 (.pointer (some ⟨g_s, 0, none⟩))).run Tryd.prog u = .ok (.agg (bvs bs).toArray) u ∧ (Instr.loadAt 33 (.pointer (some ⟨gN9, 0, none⟩))).run Tryd.prog u = .ok (sgv c t) u) (by kernel_rfl) ?_
    have hb := (Below.refl w10.heap.size w10).drew
    have HB := hid (HB.out.trans (hb.mono HB.out.size))
    have FG := hid (FG.out.on hb)
    have FGp := hid (FGp.out.on hb)
    have FGq := hid (FGq.out.on hb)
    have FGg := hid (FGg.out.on hb)
    have FNx := hid (FNx.out.on hb)
    have Fs := hid (Fs.out.on hb)
    have FN7 := hid (FN7.out.on hb)
    have FN9 := hid (FN9.out.on hb)
    have FN9c := hid (FN9c.out.on hb)
    have FN9s := hid (FN9s.out.on hb)
    have FN11 := hid (FN11.out.on hb)
    have FN13 := hid (FN13.out.on hb)
    have FN15 := hid (FN15.out.on hb)
    have FK := hid (FK.out.on hb)
    clear hb
    generalize w10.drew = w17 at *
    refine Goes.tk (i := 0) (o := ⟨some 86, _, _, _, _, _⟩) (v := ?_) [] (y := Or.inl ⟨by rfl, ?_⟩) (s := ⟨FG.out.here, FN15.out.here, Fs.out.here, FN9.out.here⟩) (H := ?_)
    rotate_left
    · intro u hY; go_simp; try with_reducible rfl
    try simp only [putz]
    refine Goes.tk (i := 1) (o := ⟨some 87, _, _, _, _, _⟩) (v := ?_) [] (y := Or.inl ⟨by rfl, ?_⟩) (s := ⟨FG.out.here, FN15.out.here, Fs.out.here, FN9.out.here⟩) (H := ?_)
    rotate_left
    · intro u hY; go_simp; try with_reducible rfl
    try simp only [putz]
    refine Goes.tk (i := 2) (o := ⟨some 88, _, _, _, _, _⟩) (v := ?_) [] (y := Or.inl ⟨by rfl, ?_⟩) (s := ⟨FG.out.here, FN15.out.here, Fs.out.here, FN9.out.here⟩) (H := ?_)
    rotate_left
    · intro u hY; go_simp; try with_reducible rfl
    try simp only [putz]
    refine Goes.tk (i := 3) (o := ⟨some 89, _, _, _, _, _⟩) (v := undef) [] (y := Or.inr ⟨by rfl, rfl⟩) (s := ⟨FG.out.here, FN15.out.here, Fs.out.here, FN9.out.here⟩) (H := ?_)
    try simp only [putz]
    refine Goes.tk (i := 4) (o := ⟨some 90, _, _, _, _, _⟩) (v := undef) [] (y := Or.inr ⟨by rfl, rfl⟩) (s := ⟨FG.out.here, FN15.out.here, Fs.out.here, FN9.out.here⟩) (H := ?_)
    try simp only [putz]
    refine Goes.tk (i := 5) (o := ⟨some 91, _, _, _, _, _⟩) (v := undef) [] (y := Or.inr ⟨by rfl, rfl⟩) (s := ⟨FG.out.here, FN15.out.here, Fs.out.here, FN9.out.here⟩) (H := ?_)
    try simp only [putz]
    refine Goes.tk (i := 6) (o := ⟨some 92, _, _, _, _, _⟩) (v := undef) [] (y := Or.inr ⟨by rfl, rfl⟩) (s := ⟨FG.out.here, FN15.out.here, Fs.out.here, FN9.out.here⟩) (H := ?_)
    try simp only [putz]
    refine Goes.tk (i := 7) (o := ⟨some 93, _, _, _, _, _⟩) (v := undef) [] (y := Or.inr ⟨by rfl, rfl⟩) (s := ⟨FG.out.here, FN15.out.here, Fs.out.here, FN9.out.here⟩) (H := ?_)
    try simp only [putz]
    refine Goes.tk (i := 8) (o := ⟨some 94, _, _, _, _, _⟩) (v := undef) [] (y := Or.inr ⟨by rfl, rfl⟩) (s := ⟨FG.out.here, FN15.out.here, Fs.out.here, FN9.out.here⟩) (H := ?_)
    try simp only [putz]
    refine Goes.tk (i := 9) (o := ⟨some 95, _, _, _, _, _⟩) (v := ?_) [] (y := Or.inl ⟨by rfl, ?_⟩) (s := ⟨FG.out.here, FN15.out.here, Fs.out.here, FN9.out.here⟩) (H := ?_)
    rotate_left
    · intro u hY; go_simp; try with_reducible rfl
    try simp only [putz]
    refine Goes.tk (i := 10) (o := ⟨some 96, _, _, _, _, _⟩) (v := ?_) [] (y := Or.inl ⟨by rfl, ?_⟩) (s := ⟨FG.out.here, FN15.out.here, Fs.out.here, FN9.out.here⟩) (H := ?_)
    rotate_left
    · intro u hY; go_simp; try with_reducible rfl
    try simp only [putz]
    refine Goes.tk (i := 11) (o := ⟨some 97, _, _, _, _, _⟩) (v := gv p q g) [] (y := Or.inl ⟨by rfl, ?_⟩) (s := ⟨FG.out.here, FN15.out.here, Fs.out.here, FN9.out.here⟩) (H := ?_)
    · rintro u ⟨up, -, hX⟩; obtain ⟨x0, x1, x2, x3⟩ := hX; exact y_ld _ _ rfl _ _ rfl x0
    try simp only [putz]
    refine Goes.tk (i := 13) (o := ⟨some 99, _, _, _, _, _⟩) (v := .agg (bvs bs).toArray) [] (y := Or.inl ⟨by rfl, ?_⟩) (s := ⟨FG.out.here, FN15.out.here, Fs.out.here, FN9.out.here⟩) (H := ?_)
    · rintro u ⟨up, -, hX⟩; obtain ⟨x0, x1, x2, x3⟩ := hX; exact y_ld _ _ rfl _ _ rfl x2
    try simp only [putz]
    refine Goes.tk (i := 14) (o := ⟨some 100, _, _, _, _, _⟩) (v := sgv c t) [] (y := Or.inl ⟨by rfl, ?_⟩) (s := ⟨FG.out.here, FN15.out.here, Fs.out.here, FN9.out.here⟩) (H := ?_)
    · rintro u ⟨up, -, hX⟩; obtain ⟨x0, x1, x2, x3⟩ := hX; exact y_ld _ _ rfl _ _ rfl x3
    try simp only [putz]
    refine Goes.one (i := 12) (o := ⟨some 98, _, _, _, _, _⟩) (by kernel_rfl) rfl (fun K hK => ?_)
    go_simp
    with_reducible refine (lofb 1 1 _ (by decide) rfl).mono ?_
    rintro e w18 ⟨rfl, hb⟩
    go_wp2_with fail
    have HB := hid (HB.out.trans (hb.mono HB.out.size))
    have FG := hid (FG.out.on hb)
    have FGp := hid (FGp.out.on hb)
    have FGq := hid (FGq.out.on hb)
    have FGg := hid (FGg.out.on hb)
    have FNx := hid (FNx.out.on hb)
    have Fs := hid (Fs.out.on hb)
    have FN7 := hid (FN7.out.on hb)
    have FN9 := hid (FN9.out.on hb)
    have FN9c := hid (FN9c.out.on hb)
    have FN9s := hid (FN9s.out.on hb)
    have FN11 := hid (FN11.out.on hb)
    have FN13 := hid (FN13.out.on hb)
    have FN15 := hid (FN15.out.on hb)
    have FK := hid (FK.out.on hb)
    clear hb
    refine hK.out _ _ ⟨FG.out.here, FN15.out.here, Fs.out.here, FN9.out.here⟩ ?_
    clear hK K
    try simp only [putz]
    refine Goes.one (i := 15) (o := ⟨some 101, _, _, _, _, _⟩) (by kernel_rfl) rfl (fun K hK => ?_)
    go_simp
    with_reducible refine (check_any p q g 1 c t bs false _ PL.out QL.out GL.out (by decide) CL.out TL.out BL.out FK.out M4.out).mono ?_
    rintro e w19 ⟨rfl, hb⟩
    go_wp2_with fail
    have HB := hid (HB.out.trans (hb.mono HB.out.size))
    have FG := hid (FG.out.on hb)
    have FGp := hid (FGp.out.on hb)
    have FGq := hid (FGq.out.on hb)
    have FGg := hid (FGg.out.on hb)
    have FNx := hid (FNx.out.on hb)
    have Fs := hid (Fs.out.on hb)
    have FN7 := hid (FN7.out.on hb)
    have FN9 := hid (FN9.out.on hb)
    have FN9c := hid (FN9c.out.on hb)
    have FN9s := hid (FN9s.out.on hb)
    have FN11 := hid (FN11.out.on hb)
    have FN13 := hid (FN13.out.on hb)
    have FN15 := hid (FN15.out.on hb)
    have FK := hid (FK.out.on hb)
    clear hb
    refine hK.out _ _ ⟨FG.out.here, FN15.out.here, Fs.out.here, FN9.out.here⟩ ?_
    clear hK K
    try simp only [putz]
    refine Goes.tk (i := 16) (o := ⟨some 102, _, _, _, _, _⟩) (v := ?_) [] (y := Or.inl ⟨by rfl, ?_⟩) (s := ⟨FG.out.here, FN15.out.here, Fs.out.here, FN9.out.here⟩) (H := ?_)
    rotate_left
    · intro u hY; go_simp; try with_reducible rfl
    try simp only [putz]
    refine Goes.tk (i := 17) (o := ⟨some 103, _, _, _, _, _⟩) (v := ?_) [] (y := Or.inl ⟨by rfl, ?_⟩) (s := ⟨FG.out.here, FN15.out.here, Fs.out.here, FN9.out.here⟩) (H := ?_)
    rotate_left
    · intro u hY; go_simp; try with_reducible rfl
    try simp only [putz]
    refine Goes.tk (i := 18) (o := ⟨some 104, _, _, _, _, _⟩) (v := ?_) [] (y := Or.inl ⟨by rfl, ?_⟩) (s := ⟨FG.out.here, FN15.out.here, Fs.out.here, FN9.out.here⟩) (H := ?_)
    rotate_left
    · intro u hY; go_simp; try with_reducible rfl
    try simp only [putz]
    refine Goes.tk (i := 19) (o := ⟨some 105, _, _, _, _, _⟩) (v := gv p q g) [] (y := Or.inl ⟨by rfl, ?_⟩) (s := ⟨FG.out.here, FN15.out.here, Fs.out.here, FN9.out.here⟩) (H := ?_)
    · rintro u ⟨up, -, hX⟩; obtain ⟨x0, x1, x2, x3⟩ := hX; exact y_ld _ _ rfl _ _ rfl x0
    try simp only [putz]
    refine Goes.tk (i := 20) (o := ⟨some 106, _, _, _, _, _⟩) (v := ?_) [] (y := Or.inl ⟨by rfl, ?_⟩) (s := ⟨FG.out.here, FN15.out.here, Fs.out.here, FN9.out.here⟩) (H := ?_)
    rotate_left
    · intro u hY; go_simp; try with_reducible rfl
    try simp only [putz]
    refine Goes.tk (i := 21) (o := ⟨some 107, _, _, _, _, _⟩) (v := .agg (bvs bs).toArray) [] (y := Or.inl ⟨by rfl, ?_⟩) (s := ⟨FG.out.here, FN15.out.here, Fs.out.here, FN9.out.here⟩) (H := ?_)
    · rintro u ⟨up, -, hX⟩; obtain ⟨x0, x1, x2, x3⟩ := hX; exact y_ld _ _ rfl _ _ rfl x2
    try simp only [putz]
    refine Goes.tk (i := 22) (o := ⟨some 108, _, _, _, _, _⟩) (v := sgv c t) [] (y := Or.inl ⟨by rfl, ?_⟩) (s := ⟨FG.out.here, FN15.out.here, Fs.out.here, FN9.out.here⟩) (H := ?_)
    · rintro u ⟨up, -, hX⟩; obtain ⟨x0, x1, x2, x3⟩ := hX; exact y_ld _ _ rfl _ _ rfl x3
    try simp only [putz]
    refine Goes.one (i := 23) (o := ⟨some 109, _, _, _, _, _⟩) (by kernel_rfl) rfl (fun K hK => ?_)
    go_simp
    with_reducible refine (K0 _ FK.out).mono ?_
    rintro e w20 ⟨rfl, hb⟩
    go_wp2_with fail
    have HB := hid (HB.out.trans (hb.mono HB.out.size))
    have FG := hid (FG.out.on hb)
    have FGp := hid (FGp.out.on hb)
    have FGq := hid (FGq.out.on hb)
    have FGg := hid (FGg.out.on hb)
    have FNx := hid (FNx.out.on hb)
    have Fs := hid (Fs.out.on hb)
    have FN7 := hid (FN7.out.on hb)
    have FN9 := hid (FN9.out.on hb)
    have FN9c := hid (FN9c.out.on hb)
    have FN9s := hid (FN9s.out.on hb)
    have FN11 := hid (FN11.out.on hb)
    have FN13 := hid (FN13.out.on hb)
    have FN15 := hid (FN15.out.on hb)
    have FK := hid (FK.out.on hb)
    clear hb
    refine hK.out _ _ ⟨FG.out.here, FN15.out.here, Fs.out.here, FN9.out.here⟩ ?_
    clear hK K
    try simp only [putz]
    refine Goes.tk (i := 24) (o := ⟨some 110, _, _, _, _, _⟩) (v := ?_) [] (y := Or.inl ⟨by rfl, ?_⟩) (s := ⟨FG.out.here, FN15.out.here, Fs.out.here, FN9.out.here⟩) (H := ?_)
    rotate_left
    · intro u hY; go_simp; try with_reducible rfl
    try simp only [putz]
    refine Goes.tk (i := 25) (o := ⟨some 111, _, _, _, _, _⟩) (v := ?_) [] (y := Or.inl ⟨by rfl, ?_⟩) (s := ⟨FG.out.here, FN15.out.here, Fs.out.here, FN9.out.here⟩) (H := ?_)
    rotate_left
    · intro u hY; go_simp; try with_reducible rfl
    try simp only [putz]
    refine Goes.tk (i := 26) (o := ⟨some 112, _, _, _, _, _⟩) (v := ?_) [] (y := Or.inl ⟨by rfl, ?_⟩) (s := ⟨FG.out.here, FN15.out.here, Fs.out.here, FN9.out.here⟩) (H := ?_)
    rotate_left
    · intro u hY; go_simp; try with_reducible rfl
    try simp only [putz]
    refine Goes.one (i := 27) (o := ⟨some 113, _, _, _, _, _⟩) (by kernel_rfl) rfl (fun K hK => ?_)
    go_simp
    with_reducible refine (lives_any _).mono ?_
    rintro e w21 ⟨rfl, hb⟩
    go_wp2_with fail
    have HB := hid (HB.out.trans (hb.mono HB.out.size))
    have FG := hid (FG.out.on hb)
    have FGp := hid (FGp.out.on hb)
    have FGq := hid (FGq.out.on hb)
    have FGg := hid (FGg.out.on hb)
    have FNx := hid (FNx.out.on hb)
    have Fs := hid (Fs.out.on hb)
    have FN7 := hid (FN7.out.on hb)
    have FN9 := hid (FN9.out.on hb)
    have FN9c := hid (FN9c.out.on hb)
    have FN9s := hid (FN9s.out.on hb)
    have FN11 := hid (FN11.out.on hb)
    have FN13 := hid (FN13.out.on hb)
    have FN15 := hid (FN15.out.on hb)
    have FK := hid (FK.out.on hb)
    clear hb
    refine hK.out _ _ ⟨FG.out.here, FN15.out.here, Fs.out.here, FN9.out.here⟩ ?_
    clear hK K
    try simp only [putz]
    refine Goes.tk (i := 28) (o := ⟨some 114, _, _, _, _, _⟩) (v := ?_) [] (y := Or.inl ⟨by rfl, ?_⟩) (s := ⟨FG.out.here, FN15.out.here, Fs.out.here, FN9.out.here⟩) (H := ?_)
    rotate_left
    · intro u hY; go_simp; try with_reducible rfl
    try simp only [putz]
    refine Goes.tk (i := 29) (o := ⟨some 6, _, _, _, _, _⟩) (v := ?_) [] (y := Or.inl ⟨by rfl, ?_⟩) (s := ⟨FG.out.here, FN15.out.here, Fs.out.here, FN9.out.here⟩) (H := ?_)
    rotate_left
    · intro u hY; go_simp; try with_reducible rfl
    try simp only [putz]
    refine Goes.done (by kernel_rfl) ?_ _
    refine NoPanic.normal ?_
    go_wp2_with fail
    try go_ret
    try rw [Exit.noGoto_ret]
    first | exact ⟨rfl, by first | exact HFIN.out _ HB.out | (rw [hgp]; exact HFIN.out _ HB.out)⟩ | exact bodyPost_ret (v := .bool (true)) (by simp [results, Tryd.results4, go_sem]) rfl ⟨rfl, by first | exact HFIN.out _ HB.out | (rw [hgp]; exact HFIN.out _ HB.out)⟩
end Go.Proofs.YtioebjbjpjbodaaDoor
