/-
  sigs.Key, walked: G to the power of the secret, or refused. Conditions: none.
-/
import Derived.Test.YtioebjbjpjbodaaDoorPkAn
import Derived.Test.YtioebjbjpjbodaaDoorPkAr
namespace Go.Proofs.YtioebjbjpjbodaaDoor
open Go.RowKit
set_option linter.unusedVariables false
set_option linter.unusedSimpArgs false

/-- the closure that asks whether a number is an exponent of the group in this box -/
abbrev expo (gx : Nat) : Value := .func (.func 22) #[] #[.pointer (some ⟨gx, 0, none⟩)]
set_option maxRecDepth 100000 in
set_option maxHeartbeats 4000000 in
theorem expoOf_any (p q g : Nat) (w : World) : Calls Tryd.prog 11 #[gv p q g] w fun e w' => ∃ gx, e = .returned (expo gx) ∧ Below w.heap.size w w' ∧ Gm w' gx 26 p q g := by
  go_enter Tryd.func11, Tryd.ntmps11
  go_wp2
  have hg := Gm.new w 26 p q g
  have hb := (Below.refl w.heap.size w).alloc (Nat.le_refl _) (.cells (gcs p q g) 26)
  exact bodyPost_ret (v := expo w.heap.size) (by simp [results, Tryd.results11, go_sem]) rfl ⟨_, rfl, hb, hg⟩
set_option maxRecDepth 100000 in
set_option maxHeartbeats 4000000 in
theorem expo_any (p q g x gx : Nat) (v : Bool) (w : World) (hq : q < 2 ^ 256) (hx : x < 2 ^ 256) (hG : Gm w gx 26 p q g) (hv : decide (x < q) = v) : Calls Tryd.prog 22 #[num x, .pointer (some ⟨gx, 0, none⟩)] w fun e w' => e = .returned (.bool v) ∧ Below w.heap.size w w' := by
  obtain ⟨c, ec⟩ : ∃ c, cmpN x q = c := ⟨_, rfl⟩
  have hc : (c < 0) ↔ x < q := by rw [← ec]; unfold cmpN; split <;> (try split) <;> omega
  have EC := hid ec
  have HC := hid hc
  have XL := hid hx
  have QL := hid hq
  have HG := hid hG
  clear ec hc hx hq hG
  have H0 := hid (((Env.refl w).new x).perm (l' := [(w.heap.size, x)]) (by simp))
  go_enter Tryd.func22, Tryd.ntmps22
  go_upto_region 1 with fail
  generalize w.alloc (.cells (cls x) 24) = w0 at *
  generalize w.heap.size = g_a at *
  obtain ⟨c0a, c0b, c0c, c0d⟩ := H0.out.cell g_a x (by simp)
  have c0l := H0.out.lt g_a x (by simp)
  have c0m := Nat.le_of_lt c0l
  obtain ⟨eqa, eqb, eqc, eqd⟩ := (HG.out.on H0.out.1).q
  have egl := (HG.out.on H0.out.1).lt
  have egm := Nat.le_of_lt egl
  go_wp2_with fail
  clear c0a c0b c0c c0d c0l c0m eqa eqb eqc eqd egl egm
  refine (cmp_at x q c H0.out XL.out QL.out EC.out).mono ?_
  rintro e w1 ⟨rfl, h⟩
  have H1 := hid h
  clear h H0
  go_wp2
  exact bodyPost_ret (v := .bool (decide (c < 0))) (by simp [results, Tryd.results22, go_sem]) rfl ⟨by rw [← hv, show decide (c < 0) = decide (x < q) from decide_eq_decide.2 HC.out], H1.out.1⟩
set_option maxRecDepth 100000 in
set_option maxHeartbeats 4000000 in
theorem key_zero (p q g x : Nat) (w : World) (hp : p < 2 ^ 256) (hq : q < 2 ^ 256) (hg : g < 2 ^ 256) (hx : x < 2 ^ 256) (hv : x = 0) : Calls Tryd.prog 5 #[gv p q g, num x] w fun e w' => e = .returned (.tuple #[num 0, .int .i64 1]) ∧ Below w.heap.size w w' := by
  have EN : Hid ((nbits x : Int) = 0) := hid (by rw [hv]; rfl)
  clear hv
  have PL := hid hp
  have QL := hid hq
  have GL := hid hg
  have XL := hid hx
  clear hp hq hg hx
  have H0 := hid (((((Eg.of (Env.refl w) p q g 26)).new x).zero).perm (l' := [(w.heap.size + 1 + 1, 0), (w.heap.size + 1, x)]) (by simp))
  have DZ := hid (show w.heap.size ≤ w.heap.size + 1 + 1 ∧ w.heap.size ≠ w.heap.size + 1 + 1 by omega)
  go_enter Tryd.func5, Tryd.ntmps5
  go_upto_region 1 with fail
  generalize ((w.alloc (.cells (gcs p q g) 26)).alloc (.cells (cls x) 24)).alloc (.cells #[.int .u64 0, .int .u64 0, .int .u64 0, .int .u64 0] 24) = w0 at *
  generalize w.heap.size + 1 + 1 = g_z at *
  generalize w.heap.size + 1 = g_a at *
  generalize hzg_p : w.heap.size = g_p at *
  obtain ⟨ep0a, ep0b, ep0c, ep0d⟩ := H0.out.gp
  obtain ⟨eq0a, eq0b, eq0c, eq0d⟩ := H0.out.gq
  obtain ⟨eg0a, eg0b, eg0c, eg0d⟩ := H0.out.gg
  have eg0l := H0.out.gl
  have eg0m := Nat.le_of_lt eg0l
  go_wp2_with fail
  clear ep0a ep0b ep0c ep0d eq0a eq0b eq0c eq0d eg0a eg0b eg0c eg0d eg0l eg0m
  refine (expoOf_any p q g _).mono ?_
  rintro e w1 ⟨gx, rfl, hb, hgx⟩
  have HK := hid (H0.out.on hb)
  have HX := hid hgx
  have H1 := hid ((Eg.base HK.out.2).hav (HK.out.nm g_a x (by simp)))
  clear hb hgx H0
  obtain ⟨c0x1a, c0x1b, c0x1c, c0x1d⟩ := H1.out.cell (g_a) (x) (by simp)
  have c0x1l := H1.out.lt (g_a) (x) (by simp)
  have c0x1m := Nat.le_of_lt c0x1l
  go_wp2_with fail
  clear c0x1a c0x1b c0x1c c0x1d c0x1l c0x1m
  refine (eg_at (bits_at x 0 (Env.refl _) XL.out EN.out) H1.out).mono ?_
  rintro e w2 ⟨rfl, h⟩
  have H2 := hid h
  clear h H1
  have HE := hid (HK.out.on H2.out.old)
  obtain ⟨z0, z1, z2, z3⟩ := HE.out.cell g_z 0 (by simp)
  have zl := HE.out.lt g_z 0 (by simp)
  have zf := HE.out.frozen g_z 0 (by simp)
  have HZ := hid (HE.out.1.set g_z 0 (0) [] (by simp) (by rw [hzg_p]; exact DZ.out.1) (by simp))
  go_wp2
  clear z0 z1 z2 z3 zl zf
  try rw [Exit.noGoto_ret]
  change bodyPost _ _ _ _ _ (fil w2 g_z (0))
  generalize fil w2 g_z (0) = wz at *
  obtain ⟨k0, k1, k2, k3⟩ := HZ.out.cell g_z (0) (by simp)
  exact bodyPost_ret (v := .tuple #[num (0), .int .i64 1]) (by simp [results, Tryd.results5, go_sem, k0, k1, k2, k3]) rfl ⟨rfl, HZ.out.1⟩
set_option maxRecDepth 100000 in
set_option maxHeartbeats 4000000 in
theorem key_above (p q g x : Nat) (w : World) (hp : p < 2 ^ 256) (hq : q < 2 ^ 256) (hg : g < 2 ^ 256) (hx : x < 2 ^ 256) (hv : x ≠ 0 ∧ ¬ x < q) : Calls Tryd.prog 5 #[gv p q g, num x] w fun e w' => e = .returned (.tuple #[num 0, .int .i64 1]) ∧ Below w.heap.size w w' := by
  obtain ⟨n, en⟩ : ∃ n, nbits x = n := ⟨_, rfl⟩
  have hn : 0 < n := by rw [← en]; exact nbits_pos x (by omega)
  have EN := hid (show (nbits x : Int) = (n : Int) by rw [en])
  have c1 : ¬ (n : Int) = 0 := by omega
  have c2 : ¬ n = 0 := by omega
  have cb : decide ((n : Int) = 0) = false := decide_eq_false c1
  have cc : ((n : Int) == 0) = false := by simpa using c2
  clear hn en
  have VX : Hid (decide (x < q) = false) := hid (decide_eq_false hv.2)
  clear hv
  have PL := hid hp
  have QL := hid hq
  have GL := hid hg
  have XL := hid hx
  clear hp hq hg hx
  have H0 := hid (((((Eg.of (Env.refl w) p q g 26)).new x).zero).perm (l' := [(w.heap.size + 1 + 1, 0), (w.heap.size + 1, x)]) (by simp))
  have DZ := hid (show w.heap.size ≤ w.heap.size + 1 + 1 ∧ w.heap.size ≠ w.heap.size + 1 + 1 by omega)
  go_enter Tryd.func5, Tryd.ntmps5
  go_upto_region 1 with fail
  generalize ((w.alloc (.cells (gcs p q g) 26)).alloc (.cells (cls x) 24)).alloc (.cells #[.int .u64 0, .int .u64 0, .int .u64 0, .int .u64 0] 24) = w0 at *
  generalize w.heap.size + 1 + 1 = g_z at *
  generalize w.heap.size + 1 = g_a at *
  generalize hzg_p : w.heap.size = g_p at *
  obtain ⟨ep0a, ep0b, ep0c, ep0d⟩ := H0.out.gp
  obtain ⟨eq0a, eq0b, eq0c, eq0d⟩ := H0.out.gq
  obtain ⟨eg0a, eg0b, eg0c, eg0d⟩ := H0.out.gg
  have eg0l := H0.out.gl
  have eg0m := Nat.le_of_lt eg0l
  go_wp2_with fail
  clear ep0a ep0b ep0c ep0d eq0a eq0b eq0c eq0d eg0a eg0b eg0c eg0d eg0l eg0m
  refine (expoOf_any p q g _).mono ?_
  rintro e w1 ⟨gx, rfl, hb, hgx⟩
  have HK := hid (H0.out.on hb)
  have HX := hid hgx
  have H1 := hid ((Eg.base HK.out.2).hav (HK.out.nm g_a x (by simp)))
  clear hb hgx H0
  obtain ⟨c0x1a, c0x1b, c0x1c, c0x1d⟩ := H1.out.cell (g_a) (x) (by simp)
  have c0x1l := H1.out.lt (g_a) (x) (by simp)
  have c0x1m := Nat.le_of_lt c0x1l
  go_wp2_with fail
  clear c0x1a c0x1b c0x1c c0x1d c0x1l c0x1m
  refine (eg_at (bits_at x (n : Int) (Env.refl _) XL.out EN.out) H1.out).mono ?_
  rintro e w2 ⟨rfl, h⟩
  have H2 := hid h
  clear h H1
  obtain ⟨c0x2a, c0x2b, c0x2c, c0x2d⟩ := H2.out.cell (g_a) (x) (by simp)
  have c0x2l := H2.out.lt (g_a) (x) (by simp)
  have c0x2m := Nat.le_of_lt c0x2l
  go_wp2_with fail
  clear c0x2a c0x2b c0x2c c0x2d c0x2l c0x2m
  refine (eg_of (expo_any p q g x gx false _ QL.out XL.out (HX.out.on H2.out.old) VX.out) H2.out).mono ?_
  rintro e w3 ⟨rfl, h⟩
  have H3 := hid h
  clear h H2
  have HE := hid (HK.out.on H3.out.old)
  obtain ⟨z0, z1, z2, z3⟩ := HE.out.cell g_z 0 (by simp)
  have zl := HE.out.lt g_z 0 (by simp)
  have zf := HE.out.frozen g_z 0 (by simp)
  have HZ := hid (HE.out.1.set g_z 0 (0) [] (by simp) (by rw [hzg_p]; exact DZ.out.1) (by simp))
  go_wp2
  clear z0 z1 z2 z3 zl zf
  try rw [Exit.noGoto_ret]
  change bodyPost _ _ _ _ _ (fil w3 g_z (0))
  generalize fil w3 g_z (0) = wz at *
  obtain ⟨k0, k1, k2, k3⟩ := HZ.out.cell g_z (0) (by simp)
  exact bodyPost_ret (v := .tuple #[num (0), .int .i64 1]) (by simp [results, Tryd.results5, go_sem, k0, k1, k2, k3]) rfl ⟨rfl, HZ.out.1⟩
set_option maxRecDepth 100000 in
set_option maxHeartbeats 4000000 in
theorem key_unfine (p q g x : Nat) (w : World) (hp : p < 2 ^ 256) (hq : q < 2 ^ 256) (hg : g < 2 ^ 256) (hx : x < 2 ^ 256) (hv : x ≠ 0 ∧ x < q ∧ ¬ (1 < q ∧ g ≠ 1 ∧ (0 < g ∧ g < p) ∧ g ^ q % p = 1)) : Calls Tryd.prog 5 #[gv p q g, num x] w fun e w' => e = .returned (.tuple #[num 0, .int .i64 1]) ∧ Below w.heap.size w w' := by
  obtain ⟨n, en⟩ : ∃ n, nbits x = n := ⟨_, rfl⟩
  have hn : 0 < n := by rw [← en]; exact nbits_pos x (by omega)
  have EN := hid (show (nbits x : Int) = (n : Int) by rw [en])
  have c1 : ¬ (n : Int) = 0 := by omega
  have c2 : ¬ n = 0 := by omega
  have cb : decide ((n : Int) = 0) = false := decide_eq_false c1
  have cc : ((n : Int) == 0) = false := by simpa using c2
  clear hn en
  have VX : Hid (decide (x < q) = true) := hid (decide_eq_true hv.2.1)
  have VF : Hid (decide (1 < q ∧ g ≠ 1 ∧ (0 < g ∧ g < p) ∧ g ^ q % p = 1) = false) := hid (decide_eq_false hv.2.2)
  clear hv
  have PL := hid hp
  have QL := hid hq
  have GL := hid hg
  have XL := hid hx
  clear hp hq hg hx
  have H0 := hid (((((Eg.of (Env.refl w) p q g 26)).new x).zero).perm (l' := [(w.heap.size + 1 + 1, 0), (w.heap.size + 1, x)]) (by simp))
  have DZ := hid (show w.heap.size ≤ w.heap.size + 1 + 1 ∧ w.heap.size ≠ w.heap.size + 1 + 1 by omega)
  go_enter Tryd.func5, Tryd.ntmps5
  go_upto_region 1 with fail
  generalize ((w.alloc (.cells (gcs p q g) 26)).alloc (.cells (cls x) 24)).alloc (.cells #[.int .u64 0, .int .u64 0, .int .u64 0, .int .u64 0] 24) = w0 at *
  generalize w.heap.size + 1 + 1 = g_z at *
  generalize w.heap.size + 1 = g_a at *
  generalize hzg_p : w.heap.size = g_p at *
  obtain ⟨ep0a, ep0b, ep0c, ep0d⟩ := H0.out.gp
  obtain ⟨eq0a, eq0b, eq0c, eq0d⟩ := H0.out.gq
  obtain ⟨eg0a, eg0b, eg0c, eg0d⟩ := H0.out.gg
  have eg0l := H0.out.gl
  have eg0m := Nat.le_of_lt eg0l
  go_wp2_with fail
  clear ep0a ep0b ep0c ep0d eq0a eq0b eq0c eq0d eg0a eg0b eg0c eg0d eg0l eg0m
  refine (expoOf_any p q g _).mono ?_
  rintro e w1 ⟨gx, rfl, hb, hgx⟩
  have HK := hid (H0.out.on hb)
  have HX := hid hgx
  have H1 := hid ((Eg.base HK.out.2).hav (HK.out.nm g_a x (by simp)))
  clear hb hgx H0
  obtain ⟨c0x1a, c0x1b, c0x1c, c0x1d⟩ := H1.out.cell (g_a) (x) (by simp)
  have c0x1l := H1.out.lt (g_a) (x) (by simp)
  have c0x1m := Nat.le_of_lt c0x1l
  go_wp2_with fail
  clear c0x1a c0x1b c0x1c c0x1d c0x1l c0x1m
  refine (eg_at (bits_at x (n : Int) (Env.refl _) XL.out EN.out) H1.out).mono ?_
  rintro e w2 ⟨rfl, h⟩
  have H2 := hid h
  clear h H1
  obtain ⟨c0x2a, c0x2b, c0x2c, c0x2d⟩ := H2.out.cell (g_a) (x) (by simp)
  have c0x2l := H2.out.lt (g_a) (x) (by simp)
  have c0x2m := Nat.le_of_lt c0x2l
  go_wp2_with fail
  clear c0x2a c0x2b c0x2c c0x2d c0x2l c0x2m
  refine (eg_of (expo_any p q g x gx true _ QL.out XL.out (HX.out.on H2.out.old) VX.out) H2.out).mono ?_
  rintro e w3 ⟨rfl, h⟩
  have H3 := hid h
  clear h H2
  obtain ⟨ep3a, ep3b, ep3c, ep3d⟩ := H3.out.gp
  obtain ⟨eq3a, eq3b, eq3c, eq3d⟩ := H3.out.gq
  obtain ⟨eg3a, eg3b, eg3c, eg3d⟩ := H3.out.gg
  have eg3l := H3.out.gl
  have eg3m := Nat.le_of_lt eg3l
  go_wp2_with fail
  clear ep3a ep3b ep3c ep3d eq3a eq3b eq3c eq3d eg3a eg3b eg3c eg3d eg3l eg3m
  refine (eg_of (fine_any p q g false _ PL.out QL.out GL.out VF.out) H3.out).mono ?_
  rintro e w4 ⟨rfl, h⟩
  have H4 := hid h
  clear h H3
  have HE := hid (HK.out.on H4.out.old)
  obtain ⟨z0, z1, z2, z3⟩ := HE.out.cell g_z 0 (by simp)
  have zl := HE.out.lt g_z 0 (by simp)
  have zf := HE.out.frozen g_z 0 (by simp)
  have HZ := hid (HE.out.1.set g_z 0 (0) [] (by simp) (by rw [hzg_p]; exact DZ.out.1) (by simp))
  go_wp2
  clear z0 z1 z2 z3 zl zf
  try rw [Exit.noGoto_ret]
  change bodyPost _ _ _ _ _ (fil w4 g_z (0))
  generalize fil w4 g_z (0) = wz at *
  obtain ⟨k0, k1, k2, k3⟩ := HZ.out.cell g_z (0) (by simp)
  exact bodyPost_ret (v := .tuple #[num (0), .int .i64 1]) (by simp [results, Tryd.results5, go_sem, k0, k1, k2, k3]) rfl ⟨rfl, HZ.out.1⟩
set_option maxRecDepth 100000 in
set_option maxHeartbeats 4000000 in
theorem key_ok (p q g x r : Nat) (w : World) (hp : p < 2 ^ 256) (hq : q < 2 ^ 256) (hg : g < 2 ^ 256) (hx : x < 2 ^ 256) (hv : x ≠ 0 ∧ x < q ∧ 1 < q ∧ g ≠ 1 ∧ (0 < g ∧ g < p) ∧ g ^ q % p = 1) (hr : g ^ x % p = r) : Calls Tryd.prog 5 #[gv p q g, num x] w fun e w' => e = .returned (.tuple #[num r, .int .i64 0]) ∧ Below w.heap.size w w' := by
  obtain ⟨n, en⟩ : ∃ n, nbits x = n := ⟨_, rfl⟩
  have hn : 0 < n := by rw [← en]; exact nbits_pos x (by omega)
  have EN := hid (show (nbits x : Int) = (n : Int) by rw [en])
  have c1 : ¬ (n : Int) = 0 := by omega
  have c2 : ¬ n = 0 := by omega
  have cb : decide ((n : Int) = 0) = false := decide_eq_false c1
  have cc : ((n : Int) == 0) = false := by simpa using c2
  clear hn en
  have VX : Hid (decide (x < q) = true) := hid (decide_eq_true hv.2.1)
  have VF : Hid (decide (1 < q ∧ g ≠ 1 ∧ (0 < g ∧ g < p) ∧ g ^ q % p = 1) = true) := hid (decide_eq_true hv.2.2)
  have VA := hid hv.2.2.2.2.1
  have ER := hid hr
  clear hr
  clear hv
  have PL := hid hp
  have QL := hid hq
  have GL := hid hg
  have XL := hid hx
  clear hp hq hg hx
  have H0 := hid (((((Eg.of (Env.refl w) p q g 26)).new x).zero).perm (l' := [(w.heap.size + 1 + 1, 0), (w.heap.size + 1, x)]) (by simp))
  have DZ := hid (show w.heap.size ≤ w.heap.size + 1 + 1 ∧ w.heap.size ≠ w.heap.size + 1 + 1 by omega)
  go_enter Tryd.func5, Tryd.ntmps5
  go_upto_region 1 with fail
  generalize ((w.alloc (.cells (gcs p q g) 26)).alloc (.cells (cls x) 24)).alloc (.cells #[.int .u64 0, .int .u64 0, .int .u64 0, .int .u64 0] 24) = w0 at *
  generalize w.heap.size + 1 + 1 = g_z at *
  generalize w.heap.size + 1 = g_a at *
  generalize hzg_p : w.heap.size = g_p at *
  obtain ⟨ep0a, ep0b, ep0c, ep0d⟩ := H0.out.gp
  obtain ⟨eq0a, eq0b, eq0c, eq0d⟩ := H0.out.gq
  obtain ⟨eg0a, eg0b, eg0c, eg0d⟩ := H0.out.gg
  have eg0l := H0.out.gl
  have eg0m := Nat.le_of_lt eg0l
  go_wp2_with fail
  clear ep0a ep0b ep0c ep0d eq0a eq0b eq0c eq0d eg0a eg0b eg0c eg0d eg0l eg0m
  refine (expoOf_any p q g _).mono ?_
  rintro e w1 ⟨gx, rfl, hb, hgx⟩
  have HK := hid (H0.out.on hb)
  have HX := hid hgx
  have H1 := hid ((Eg.base HK.out.2).hav (HK.out.nm g_a x (by simp)))
  clear hb hgx H0
  obtain ⟨c0x1a, c0x1b, c0x1c, c0x1d⟩ := H1.out.cell (g_a) (x) (by simp)
  have c0x1l := H1.out.lt (g_a) (x) (by simp)
  have c0x1m := Nat.le_of_lt c0x1l
  go_wp2_with fail
  clear c0x1a c0x1b c0x1c c0x1d c0x1l c0x1m
  refine (eg_at (bits_at x (n : Int) (Env.refl _) XL.out EN.out) H1.out).mono ?_
  rintro e w2 ⟨rfl, h⟩
  have H2 := hid h
  clear h H1
  obtain ⟨c0x2a, c0x2b, c0x2c, c0x2d⟩ := H2.out.cell (g_a) (x) (by simp)
  have c0x2l := H2.out.lt (g_a) (x) (by simp)
  have c0x2m := Nat.le_of_lt c0x2l
  go_wp2_with fail
  clear c0x2a c0x2b c0x2c c0x2d c0x2l c0x2m
  refine (eg_of (expo_any p q g x gx true _ QL.out XL.out (HX.out.on H2.out.old) VX.out) H2.out).mono ?_
  rintro e w3 ⟨rfl, h⟩
  have H3 := hid h
  clear h H2
  obtain ⟨ep3a, ep3b, ep3c, ep3d⟩ := H3.out.gp
  obtain ⟨eq3a, eq3b, eq3c, eq3d⟩ := H3.out.gq
  obtain ⟨eg3a, eg3b, eg3c, eg3d⟩ := H3.out.gg
  have eg3l := H3.out.gl
  have eg3m := Nat.le_of_lt eg3l
  go_wp2_with fail
  clear ep3a ep3b ep3c ep3d eq3a eq3b eq3c eq3d eg3a eg3b eg3c eg3d eg3l eg3m
  refine (eg_of (fine_any p q g true _ PL.out QL.out GL.out VF.out) H3.out).mono ?_
  rintro e w4 ⟨rfl, h⟩
  have H4 := hid h
  clear h H3
  obtain ⟨ep4a, ep4b, ep4c, ep4d⟩ := H4.out.gp
  obtain ⟨eq4a, eq4b, eq4c, eq4d⟩ := H4.out.gq
  obtain ⟨eg4a, eg4b, eg4c, eg4d⟩ := H4.out.gg
  have eg4l := H4.out.gl
  have eg4m := Nat.le_of_lt eg4l
  obtain ⟨c14x4a, c14x4b, c14x4c, c14x4d⟩ := H4.out.cell (g_a) (x) (by simp)
  have c14x4l := H4.out.lt (g_a) (x) (by simp)
  have c14x4m := Nat.le_of_lt c14x4l
  go_wp2_with fail
  clear ep4a ep4b ep4c ep4d eq4a eq4b eq4c eq4d eg4a eg4b eg4c eg4d eg4l eg4m c14x4a c14x4b c14x4c c14x4d c14x4l c14x4m
  refine (eg_of (gexp_any p q g g x r _ PL.out XL.out VA.out ER.out) H4.out).mono ?_
  rintro e w5 ⟨rfl, h⟩
  have H5 := hid h
  clear h H4
  have HE := hid (HK.out.on H5.out.old)
  obtain ⟨z0, z1, z2, z3⟩ := HE.out.cell g_z 0 (by simp)
  have zl := HE.out.lt g_z 0 (by simp)
  have zf := HE.out.frozen g_z 0 (by simp)
  have HZ := hid (HE.out.1.set g_z 0 (r) [] (by simp) (by rw [hzg_p]; exact DZ.out.1) (by simp))
  go_wp2
  clear z0 z1 z2 z3 zl zf
  try rw [Exit.noGoto_ret]
  change bodyPost _ _ _ _ _ (fil w5 g_z (r))
  generalize fil w5 g_z (r) = wz at *
  obtain ⟨k0, k1, k2, k3⟩ := HZ.out.cell g_z (r) (by simp)
  exact bodyPost_ret (v := .tuple #[num (r), .int .i64 0]) (by simp [results, Tryd.results5, go_sem, k0, k1, k2, k3]) rfl ⟨rfl, HZ.out.1⟩
/-- the secret may be one, by a group that may be -/
def Sec (p q g x : Nat) : Prop := x ≠ 0 ∧ x < q ∧ 1 < q ∧ g ≠ 1 ∧ (0 < g ∧ g < p) ∧ g ^ q % p = 1
theorem key_none (p q g x : Nat) (w : World) (hp : p < 2 ^ 256) (hq : q < 2 ^ 256) (hg : g < 2 ^ 256) (hx : x < 2 ^ 256) (hv : ¬ Sec p q g x) : Calls Tryd.prog 5 #[gv p q g, num x] w fun e w' => e = .returned (.tuple #[num 0, .int .i64 1]) ∧ Below w.heap.size w w' := by
  by_cases h0 : x = 0
  · exact key_zero p q g x w hp hq hg hx h0
  by_cases h1 : x < q
  · exact key_unfine p q g x w hp hq hg hx ⟨h0, h1, fun h => hv ⟨h0, h1, h⟩⟩
  · exact key_above p q g x w hp hq hg hx ⟨h0, h1⟩
end Go.Proofs.YtioebjbjpjbodaaDoor
