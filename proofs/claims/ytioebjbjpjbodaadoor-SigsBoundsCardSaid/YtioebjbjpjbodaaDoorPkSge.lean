/-
  sigs.Sign, walked. Condition: the library's table K lies there.
-/
import Derived.Test.YtioebjbjpjbodaaDoorPkSgd
import Derived.Laws.CopyOwn
namespace Go.Proofs.YtioebjbjpjbodaaDoor
open Go.RowKit
set_option linter.unusedVariables false
set_option linter.unusedSimpArgs false

theorem sg_cells {w : World} {b c s : Nat} (h : w.heap[b]? = some (.cells (sgc c s) 33 (0, 0))) : w.cell? ⟨b, 0, none⟩ = some (.int .u64 (wd c 0 : Int)) ∧ w.cell? ⟨b, 1, none⟩ = some (.int .u64 (wd c 1 : Int)) ∧ w.cell? ⟨b, 2, none⟩ = some (.int .u64 (wd c 2 : Int)) ∧ w.cell? ⟨b, 3, none⟩ = some (.int .u64 (wd c 3 : Int)) ∧ w.cell? ⟨b, 4, none⟩ = some (.int .u64 (wd s 0 : Int)) ∧ w.cell? ⟨b, 5, none⟩ = some (.int .u64 (wd s 1 : Int)) ∧ w.cell? ⟨b, 6, none⟩ = some (.int .u64 (wd s 2 : Int)) ∧ w.cell? ⟨b, 7, none⟩ = some (.int .u64 (wd s 3 : Int)) := by
  refine ⟨?_, ?_, ?_, ?_, ?_, ?_, ?_, ?_⟩ <;> (rw [cell_of_row w b _ _ 33 (0, 0) h]; rfl)
theorem sg_zeros {w : World} {b : Nat} (h : w.heap[b]? = some (.cells #[.int .u64 0, .int .u64 0, .int .u64 0, .int .u64 0, .int .u64 0, .int .u64 0, .int .u64 0, .int .u64 0] 33 (0, 0))) : w.cell? ⟨b, 0, none⟩ = some (.int .u64 0) ∧ w.cell? ⟨b, 1, none⟩ = some (.int .u64 0) ∧ w.cell? ⟨b, 2, none⟩ = some (.int .u64 0) ∧ w.cell? ⟨b, 3, none⟩ = some (.int .u64 0) ∧ w.cell? ⟨b, 4, none⟩ = some (.int .u64 0) ∧ w.cell? ⟨b, 5, none⟩ = some (.int .u64 0) ∧ w.cell? ⟨b, 6, none⟩ = some (.int .u64 0) ∧ w.cell? ⟨b, 7, none⟩ = some (.int .u64 0) := by
  refine ⟨?_, ?_, ?_, ?_, ?_, ?_, ?_, ?_⟩ <;> (rw [cell_of_row w b _ _ 33 (0, 0) h]; rfl)
theorem y_ld {o : Oper} {a : Act} {u : World} (ty : TypeId) (x : Operand) (ho : o.op = .load ty x) (p v : Value) (hx : a.eval x = p) (hl : (Instr.loadAt ty p).run Tryd.prog u = .ok v u) : (execOp a.eval o).run Tryd.prog u = .ok (.value v) u := by
  unfold execOp
  simp only [ho, hx, Sem.run_bind, Sem.run_pure, Result.andThen_ok, hl]
/-- a signature's first number, by the secret, for the sum -/
def sigC (p q g x : Nat) (bs : List UInt8) : Nat := chl q (g ^ x % p) (g ^ drw q x bs % p) bs
/-- its second number -/
def sigS (p q g x : Nat) (bs : List UInt8) : Nat := (drw q x bs + x * sigC p q g x bs % q) % q
theorem sigC_lt (p q g x : Nat) (bs : List UInt8) (hq : q ≠ 0) : sigC p q g x bs < q := chl_lt _ _ _ _ hq
theorem sigS_lt (p q g x : Nat) (bs : List UInt8) (hq : q ≠ 0) : sigS p q g x bs < q := Nat.mod_lt _ (by omega)
set_option maxRecDepth 100000 in
set_option maxHeartbeats 4000000 in
theorem sign_none (p q g x : Nat) (bs : List UInt8) (w : World) (hp : p < 2 ^ 256) (hq : q < 2 ^ 256) (hg : g < 2 ^ 256) (hx : x < 2 ^ 256) (hbs : bs.length = 32) (hv : ¬ Sec p q g x) : Calls Tryd.prog 6 #[gv p q g, num x, .agg (bvs bs).toArray] w fun e w' => e = .returned (.tuple #[sgv 0 0, .int .i64 1]) ∧ Below w.heap.size w w' := by
  have VV := hid hv
  have PL := hid hp
  have QL := hid hq
  have GL := hid hg
  have XL := hid hx
  clear hv hp hq hg hx
  obtain ⟨hB0, hs0, f0, f1, f2⟩ := boxes3 w (gcs p q g) (cls x) ((bvs bs).toArray) 26 24 28 _ rfl
  have HFIN : Hid (∀ u, Below (((w.alloc (.cells (gcs p q g) 26)).alloc (.cells (cls x) 24)).alloc (.cells ((bvs bs).toArray) 28)).heap.size (((w.alloc (.cells (gcs p q g) 26)).alloc (.cells (cls x) 24)).alloc (.cells ((bvs bs).toArray) 28)) u → Below w.heap.size w u) := hid (fun u hu => hB0.trans (hu.mono hB0.size))
  go_enter Tryd.func6, Tryd.ntmps6
  go_upto_region 1 with fail
  generalize ((w.alloc (.cells (gcs p q g) 26)).alloc (.cells (cls x) 24)).alloc (.cells ((bvs bs).toArray) 28) = W0 at *
  have hb1 := (Below.refl W0.heap.size W0).alloc (Nat.le_refl _) (.cells #[.int .u64 0, .int .u64 0, .int .u64 0, .int .u64 0, .int .u64 0, .int .u64 0, .int .u64 0, .int .u64 0] 33)
  have hz1 := heap_alloc_new W0 (.cells #[.int .u64 0, .int .u64 0, .int .u64 0, .int .u64 0, .int .u64 0, .int .u64 0, .int .u64 0, .int .u64 0] 33)
  rw [hs0] at hz1
  have HB := hid hb1
  have HZ0 : Hid (W0.heap.size = w.heap.size + 1 + 1 + 1) := hid hs0
  have FG := hid ((ldG p q g 0 f0 (all_at _)).on hb1)
  have FGq := hid ((ldN q 4 f0 (four_at q _ 4 rfl rfl rfl rfl)).on hb1)
  have FGg := hid ((ldN g 8 f0 (four_at g _ 8 rfl rfl rfl rfl)).on hb1)
  have FNx := hid ((ldN x 0 f1 (all_at _)).on hb1)
  have Fs := hid ((ldS bs hbs 0 f2 (fun j v h => by rw [Nat.zero_add]; simpa using h)).on hb1)
  have FZ := hid (on_blk hz1)
  clear hz1
  generalize W0.alloc (.cells #[.int .u64 0, .int .u64 0, .int .u64 0, .int .u64 0, .int .u64 0, .int .u64 0, .int .u64 0, .int .u64 0] 33) = w0 at *
  clear hB0 hs0 hb1 f0 f1 f2
  generalize w.heap.size + 1 + 1 + 1 = g_z at *
  generalize w.heap.size + 1 + 1 = g_s at *
  generalize w.heap.size + 1 = g_a at *
  generalize hgp : w.heap.size = g_p at *
  clear hbs
  have l1 := FG.out.here
  have l2 := FNx.out.here
  go_wp2_with (first | (refine wp_ld rfl _ _ rfl _ rfl _ (by first | exact l1 | exact l2) ?_))
  clear l1 l2
  refine (key_none p q g x _ PL.out QL.out GL.out XL.out VV.out).mono ?_
  rintro e w1 ⟨rfl, hb⟩
  have HB := hid (HB.out.trans (hb.mono HB.out.size))
  have FG := hid (FG.out.on hb)
  have FGq := hid (FGq.out.on hb)
  have FGg := hid (FGg.out.on hb)
  have FNx := hid (FNx.out.on hb)
  have Fs := hid (Fs.out.on hb)
  have FZ := hid (FZ.out.on hb)
  clear hb
  go_upto_region 2 with fail
  have hb := (Below.refl w1.heap.size w1).alloc (Nat.le_refl _) (.cells (cls 0) 24)
  have hn := heap_alloc_new w1 (.cells (cls 0) 24)
  have HB := hid (HB.out.trans (hb.mono HB.out.size))
  have FG := hid (FG.out.on hb)
  have FGq := hid (FGq.out.on hb)
  have FGg := hid (FGg.out.on hb)
  have FNx := hid (FNx.out.on hb)
  have Fs := hid (Fs.out.on hb)
  have FZ := hid (FZ.out.on hb)
  have FN8 := hid (ldN 0 0 hn (all_at _))
  clear hb hn
  generalize w1.alloc (.cells (cls 0) 24) = w2 at *
  generalize w1.heap.size = gN8 at *
  have hz := FZ.out.here
  have HZ := hid (setRow_heap w2 g_z _ (#[.int .u64 0, .int .u64 0, .int .u64 0, .int .u64 0, .int .u64 0, .int .u64 0, .int .u64 0, .int .u64 0]) 33 _ hz)
  have HBZ := hid (below_setRow HB.out (Nat.le_of_eq HZ0.out) (#[.int .u64 0, .int .u64 0, .int .u64 0, .int .u64 0, .int .u64 0, .int .u64 0, .int .u64 0, .int .u64 0]))
  have HII : Hid ((Tryd.prog.info? 33).map (·.size) = some (#[.int .u64 0, .int .u64 0, .int .u64 0, .int .u64 0, .int .u64 0, .int .u64 0, .int .u64 0, .int .u64 0] : Array Value).size) := hid (by kernel_rfl)
  have HIO : Hid ((#[.int .u64 0, .int .u64 0, .int .u64 0, .int .u64 0, .int .u64 0, .int .u64 0, .int .u64 0, .int .u64 0] : Array Value).size = (#[.int .u64 0, .int .u64 0, .int .u64 0, .int .u64 0, .int .u64 0, .int .u64 0, .int .u64 0, .int .u64 0] : Array Value).size) := hid rfl
  have HIA : Hid ((#[.int .u64 0, .int .u64 0, .int .u64 0, .int .u64 0, .int .u64 0, .int .u64 0, .int .u64 0, .int .u64 0] : Array Value).all (·.oneCell') = true) := hid (by simp [Value.oneCell'])
  go_wp2_with (first | (refine wpList_store_row rfl 33 (.tmp 6) (.tmp 26) rfl g_z (#[.int .u64 0, .int .u64 0, .int .u64 0, .int .u64 0, .int .u64 0, .int .u64 0, .int .u64 0, .int .u64 0]) rfl rfl 33 _ hz HII.out HIO.out HIA.out ?_))
  clear hz 
  try rw [Exit.noGoto_ret]
  change bodyPost _ _ _ _ _ (w2.setRow g_z (#[.int .u64 0, .int .u64 0, .int .u64 0, .int .u64 0, .int .u64 0, .int .u64 0, .int .u64 0, .int .u64 0]))
  generalize w2.setRow g_z (#[.int .u64 0, .int .u64 0, .int .u64 0, .int .u64 0, .int .u64 0, .int .u64 0, .int .u64 0, .int .u64 0]) = wz at *
  obtain ⟨k0, k1, k2, k3, k4, k5, k6, k7⟩ := sg_zeros HZ.out
  exact bodyPost_ret (v := .tuple #[.agg (#[.int .u64 0, .int .u64 0, .int .u64 0, .int .u64 0, .int .u64 0, .int .u64 0, .int .u64 0, .int .u64 0]), .int .i64 1]) (by simp [results, Tryd.results6, go_sem, k0, k1, k2, k3, k4, k5, k6, k7]) rfl ⟨rfl, by first | exact HFIN.out _ HBZ.out | (rw [hgp]; exact HFIN.out _ HBZ.out)⟩
set_option maxRecDepth 100000 in
set_option maxHeartbeats 4000000 in
theorem sign_ok (p q g x c t : Nat) (bs : List UInt8) (w : World) (hp : p < 2 ^ 256) (hq : q < 2 ^ 256) (hg : g < 2 ^ 256) (hx : x < 2 ^ 256) (hbs : bs.length = 32) (hK : Kt w) (hv : Sec p q g x) (hc : sigC p q g x bs = c) (ht : sigS p q g x bs = t) : Calls Tryd.prog 6 #[gv p q g, num x, .agg (bvs bs).toArray] w fun e w' => e = .returned (.tuple #[sgv c t, .int .i64 0]) ∧ Below w.heap.size w w' := by
  obtain ⟨v1, v2, v3, v4, v5, v6⟩ := hv
  have hp1 : 1 < p := by omega
  have hq0 : q ≠ 0 := by omega
  obtain ⟨k, ek⟩ : ∃ k, g ^ x % p = k := ⟨_, rfl⟩
  obtain ⟨d, ed⟩ : ∃ d, drw q x bs = d := ⟨_, rfl⟩
  obtain ⟨r, er⟩ : ∃ r, g ^ d % p = r := ⟨_, rfl⟩
  obtain ⟨m, em⟩ : ∃ m, x * c % q = m := ⟨_, rfl⟩
  have lc : c < q := hc ▸ sigC_lt p q g x bs hq0
  have ld : d < q := ed ▸ drw_lt q x bs v3
  have lm : m < q := em ▸ Nat.mod_lt _ (by omega)
  unfold sigS at ht
  rw [hc, ed, em] at ht
  unfold sigC at hc
  rw [ek, ed, er] at hc
  unfold chl at hc
  have lk : k < 2 ^ 256 := Nat.lt_trans (ek ▸ Nat.mod_lt _ (by omega)) hp
  have lr : r < 2 ^ 256 := Nat.lt_trans (er ▸ Nat.mod_lt _ (by omega)) hp
  have VV := hid (show x ≠ 0 ∧ x < q ∧ 1 < q ∧ g ≠ 1 ∧ (0 < g ∧ g < p) ∧ g ^ q % p = 1 from ⟨v1, v2, v3, v4, v5, v6⟩)
  have VG := hid v5
  have PL := hid hp
  have QL := hid hq
  have GL := hid hg
  have XL := hid hx
  have BL := hid hbs
  have EK := hid ek
  have ED := hid ed
  have ER := hid er
  have EM := hid em
  have EC := hid hc
  have ET := hid ht
  have LC := hid lc
  have LD := hid ld
  have LM := hid lm
  have LK := hid lk
  have LR := hid lr
  have Q1 := hid v3
  have XQ := hid v2
  have DL := hid (show d < 2 ^ 256 by omega)
  clear v1 v2 v3 v4 v5 v6 hp1 hq0 ek ed er em hc ht lc ld lm lk lr hp hq hg hx
  obtain ⟨hB0, hs0, f0, f1, f2⟩ := boxes3 w (gcs p q g) (cls x) ((bvs bs).toArray) 26 24 28 _ rfl
  have HFIN : Hid (∀ u, Below (((w.alloc (.cells (gcs p q g) 26)).alloc (.cells (cls x) 24)).alloc (.cells ((bvs bs).toArray) 28)).heap.size (((w.alloc (.cells (gcs p q g) 26)).alloc (.cells (cls x) 24)).alloc (.cells ((bvs bs).toArray) 28)) u → Below w.heap.size w u) := hid (fun u hu => hB0.trans (hu.mono hB0.size))
  have HKT := hid (hK.on hB0)
  clear hK
  go_enter Tryd.func6, Tryd.ntmps6
  go_upto_region 1 with fail
  generalize ((w.alloc (.cells (gcs p q g) 26)).alloc (.cells (cls x) 24)).alloc (.cells ((bvs bs).toArray) 28) = W0 at *
  have hb1 := (Below.refl W0.heap.size W0).alloc (Nat.le_refl _) (.cells #[.int .u64 0, .int .u64 0, .int .u64 0, .int .u64 0, .int .u64 0, .int .u64 0, .int .u64 0, .int .u64 0] 33)
  have hz1 := heap_alloc_new W0 (.cells #[.int .u64 0, .int .u64 0, .int .u64 0, .int .u64 0, .int .u64 0, .int .u64 0, .int .u64 0, .int .u64 0] 33)
  rw [hs0] at hz1
  have HB := hid hb1
  have HZ0 : Hid (W0.heap.size = w.heap.size + 1 + 1 + 1) := hid hs0
  have FG := hid ((ldG p q g 0 f0 (all_at _)).on hb1)
  have FGq := hid ((ldN q 4 f0 (four_at q _ 4 rfl rfl rfl rfl)).on hb1)
  have FGg := hid ((ldN g 8 f0 (four_at g _ 8 rfl rfl rfl rfl)).on hb1)
  have FNx := hid ((ldN x 0 f1 (all_at _)).on hb1)
  have Fs := hid ((ldS bs hbs 0 f2 (fun j v h => by rw [Nat.zero_add]; simpa using h)).on hb1)
  have FK := hid (HKT.out.on hb1)
  clear HKT
  have FZ := hid (on_blk hz1)
  clear hz1
  generalize W0.alloc (.cells #[.int .u64 0, .int .u64 0, .int .u64 0, .int .u64 0, .int .u64 0, .int .u64 0, .int .u64 0, .int .u64 0] 33) = w0 at *
  clear hB0 hs0 hb1 f0 f1 f2
  generalize w.heap.size + 1 + 1 + 1 = g_z at *
  generalize w.heap.size + 1 + 1 = g_s at *
  generalize w.heap.size + 1 = g_a at *
  generalize hgp : w.heap.size = g_p at *
  clear hbs
  have l1 := FG.out.here
  have l2 := FNx.out.here
  go_wp2_with (first | (refine wp_ld rfl _ _ rfl _ rfl _ (by first | exact l1 | exact l2) ?_))
  clear l1 l2
  refine (key_ok p q g x k _ PL.out QL.out GL.out XL.out VV.out EK.out).mono ?_
  rintro e w1 ⟨rfl, hb⟩
  have HB := hid (HB.out.trans (hb.mono HB.out.size))
  have FG := hid (FG.out.on hb)
  have FGq := hid (FGq.out.on hb)
  have FGg := hid (FGg.out.on hb)
  have FNx := hid (FNx.out.on hb)
  have Fs := hid (Fs.out.on hb)
  have FK := hid (FK.out.on hb)
  have FZ := hid (FZ.out.on hb)
  clear hb
  go_upto_region 2 with fail
  have hb := (Below.refl w1.heap.size w1).alloc (Nat.le_refl _) (.cells (cls k) 24)
  have hn := heap_alloc_new w1 (.cells (cls k) 24)
  have HB := hid (HB.out.trans (hb.mono HB.out.size))
  have FG := hid (FG.out.on hb)
  have FGq := hid (FGq.out.on hb)
  have FGg := hid (FGg.out.on hb)
  have FNx := hid (FNx.out.on hb)
  have Fs := hid (Fs.out.on hb)
  have FK := hid (FK.out.on hb)
  have FZ := hid (FZ.out.on hb)
  have FN8 := hid (ldN k 0 hn (all_at _))
  clear hb hn
  generalize w1.alloc (.cells (cls k) 24) = w2 at *
  generalize w1.heap.size = gN8 at *
  have l3 := FG.out.here
  have l4 := FNx.out.here
  have l5 := Fs.out.here
  go_wp2_with (first | (refine wp_ld rfl _ _ rfl _ rfl _ (by first | exact l3 | exact l4 | exact l5) ?_))
  clear l3 l4 l5
  refine (drawn_any p q g x d bs _ QL.out Q1.out XL.out BL.out FK.out ED.out).mono ?_
  rintro e w3 ⟨rfl, hb⟩
  have HB := hid (HB.out.trans (hb.mono HB.out.size))
  have FG := hid (FG.out.on hb)
  have FGq := hid (FGq.out.on hb)
  have FGg := hid (FGg.out.on hb)
  have FNx := hid (FNx.out.on hb)
  have Fs := hid (Fs.out.on hb)
  have FN8 := hid (FN8.out.on hb)
  have FK := hid (FK.out.on hb)
  have FZ := hid (FZ.out.on hb)
  clear hb
  go_upto_region 5 with fail
  have hb := (Below.refl w3.heap.size w3).alloc (Nat.le_refl _) (.cells (cls d) 24)
  have hn := heap_alloc_new w3 (.cells (cls d) 24)
  have HB := hid (HB.out.trans (hb.mono HB.out.size))
  have FG := hid (FG.out.on hb)
  have FGq := hid (FGq.out.on hb)
  have FGg := hid (FGg.out.on hb)
  have FNx := hid (FNx.out.on hb)
  have Fs := hid (Fs.out.on hb)
  have FN8 := hid (FN8.out.on hb)
  have FK := hid (FK.out.on hb)
  have FZ := hid (FZ.out.on hb)
  have FN10 := hid (ldN d 0 hn (all_at _))
  clear hb hn
  generalize w3.alloc (.cells (cls d) 24) = w4 at *
  generalize w3.heap.size = gN10 at *
  have l6 := FG.out.here
  have l7 := FGg.out.here
  have l8 := FN10.out.here
  go_wp2_with (first | (refine wp_ld rfl _ _ rfl _ rfl _ (by first | exact l6 | exact l7 | exact l8) ?_))
  clear l6 l7 l8
  refine (gexp_any p q g g d r _ PL.out DL.out VG.out ER.out).mono ?_
  rintro e w5 ⟨rfl, hb⟩
  have HB := hid (HB.out.trans (hb.mono HB.out.size))
  have FG := hid (FG.out.on hb)
  have FGq := hid (FGq.out.on hb)
  have FGg := hid (FGg.out.on hb)
  have FNx := hid (FNx.out.on hb)
  have Fs := hid (Fs.out.on hb)
  have FN8 := hid (FN8.out.on hb)
  have FN10 := hid (FN10.out.on hb)
  have FK := hid (FK.out.on hb)
  have FZ := hid (FZ.out.on hb)
  clear hb
  go_upto_region 6 with fail
  have hb := (Below.refl w5.heap.size w5).alloc (Nat.le_refl _) (.cells (cls r) 24)
  have hn := heap_alloc_new w5 (.cells (cls r) 24)
  have HB := hid (HB.out.trans (hb.mono HB.out.size))
  have FG := hid (FG.out.on hb)
  have FGq := hid (FGq.out.on hb)
  have FGg := hid (FGg.out.on hb)
  have FNx := hid (FNx.out.on hb)
  have Fs := hid (Fs.out.on hb)
  have FN8 := hid (FN8.out.on hb)
  have FN10 := hid (FN10.out.on hb)
  have FK := hid (FK.out.on hb)
  have FZ := hid (FZ.out.on hb)
  have FN11 := hid (ldN r 0 hn (all_at _))
  clear hb hn
  generalize w5.alloc (.cells (cls r) 24) = w6 at *
  generalize w5.heap.size = gN11 at *
  have l9 := FG.out.here
  have l10 := FN8.out.here
  have l11 := FN11.out.here
  have l12 := Fs.out.here
  go_wp2_with (first | (refine wp_ld rfl _ _ rfl _ rfl _ (by first | exact l9 | exact l10 | exact l11 | exact l12) ?_))
  clear l9 l10 l11 l12
  refine (chal_any p q g k r bs c _ QL.out LK.out LR.out BL.out FK.out EC.out).mono ?_
  rintro e w7 ⟨rfl, hb⟩
  have HB := hid (HB.out.trans (hb.mono HB.out.size))
  have FG := hid (FG.out.on hb)
  have FGq := hid (FGq.out.on hb)
  have FGg := hid (FGg.out.on hb)
  have FNx := hid (FNx.out.on hb)
  have Fs := hid (Fs.out.on hb)
  have FN8 := hid (FN8.out.on hb)
  have FN10 := hid (FN10.out.on hb)
  have FN11 := hid (FN11.out.on hb)
  have FK := hid (FK.out.on hb)
  have FZ := hid (FZ.out.on hb)
  clear hb
  go_upto_region 7 with fail
  have hb := (Below.refl w7.heap.size w7).alloc (Nat.le_refl _) (.cells (cls c) 24)
  have hn := heap_alloc_new w7 (.cells (cls c) 24)
  have HB := hid (HB.out.trans (hb.mono HB.out.size))
  have FG := hid (FG.out.on hb)
  have FGq := hid (FGq.out.on hb)
  have FGg := hid (FGg.out.on hb)
  have FNx := hid (FNx.out.on hb)
  have Fs := hid (Fs.out.on hb)
  have FN8 := hid (FN8.out.on hb)
  have FN10 := hid (FN10.out.on hb)
  have FN11 := hid (FN11.out.on hb)
  have FK := hid (FK.out.on hb)
  have FZ := hid (FZ.out.on hb)
  have FN13 := hid (ldN c 0 hn (all_at _))
  clear hb hn
  generalize w7.alloc (.cells (cls c) 24) = w8 at *
  generalize w7.heap.size = gN13 at *
  have l13 := FNx.out.here
  have l14 := FN13.out.here
  have l15 := FGq.out.here
  go_wp2_with (first | (refine wp_ld rfl _ _ rfl _ rfl _ (by first | exact l13 | exact l14 | exact l15) ?_))
  clear l13 l14 l15
  refine (mmul_at x c q m (Env.refl _) QL.out Q1.out XQ.out LC.out EM.out).mono ?_
  rintro e w9 ⟨rfl, hb⟩
  have hb := hb.1
  have HB := hid (HB.out.trans (hb.mono HB.out.size))
  have FG := hid (FG.out.on hb)
  have FGq := hid (FGq.out.on hb)
  have FGg := hid (FGg.out.on hb)
  have FNx := hid (FNx.out.on hb)
  have Fs := hid (Fs.out.on hb)
  have FN8 := hid (FN8.out.on hb)
  have FN10 := hid (FN10.out.on hb)
  have FN11 := hid (FN11.out.on hb)
  have FN13 := hid (FN13.out.on hb)
  have FK := hid (FK.out.on hb)
  have FZ := hid (FZ.out.on hb)
  clear hb
  go_upto_region 8 with fail
  have hb := (Below.refl w9.heap.size w9).alloc (Nat.le_refl _) (.cells (cls m) 24)
  have hn := heap_alloc_new w9 (.cells (cls m) 24)
  have HB := hid (HB.out.trans (hb.mono HB.out.size))
  have FG := hid (FG.out.on hb)
  have FGq := hid (FGq.out.on hb)
  have FGg := hid (FGg.out.on hb)
  have FNx := hid (FNx.out.on hb)
  have Fs := hid (Fs.out.on hb)
  have FN8 := hid (FN8.out.on hb)
  have FN10 := hid (FN10.out.on hb)
  have FN11 := hid (FN11.out.on hb)
  have FN13 := hid (FN13.out.on hb)
  have FK := hid (FK.out.on hb)
  have FZ := hid (FZ.out.on hb)
  have FN14 := hid (ldN m 0 hn (all_at _))
  clear hb hn
  generalize w9.alloc (.cells (cls m) 24) = w10 at *
  generalize w9.heap.size = gN14 at *
  have l16 := FN10.out.here
  have l17 := FN14.out.here
  have l18 := FGq.out.here
  go_wp2_with (first | (refine wp_ld rfl _ _ rfl _ rfl _ (by first | exact l16 | exact l17 | exact l18) ?_))
  clear l16 l17 l18
  refine (madd_at d m q t (Env.refl _) QL.out Q1.out LD.out LM.out ET.out).mono ?_
  rintro e w11 ⟨rfl, hb⟩
  have hb := hb.1
  have HB := hid (HB.out.trans (hb.mono HB.out.size))
  have FG := hid (FG.out.on hb)
  have FGq := hid (FGq.out.on hb)
  have FGg := hid (FGg.out.on hb)
  have FNx := hid (FNx.out.on hb)
  have Fs := hid (Fs.out.on hb)
  have FN8 := hid (FN8.out.on hb)
  have FN10 := hid (FN10.out.on hb)
  have FN11 := hid (FN11.out.on hb)
  have FN13 := hid (FN13.out.on hb)
  have FN14 := hid (FN14.out.on hb)
  have FK := hid (FK.out.on hb)
  have FZ := hid (FZ.out.on hb)
  clear hb
  go_upto_region 9 with fail
  have hb := (Below.refl w11.heap.size w11).alloc (Nat.le_refl _) (.cells (cls t) 24)
  have hn := heap_alloc_new w11 (.cells (cls t) 24)
  have HB := hid (HB.out.trans (hb.mono HB.out.size))
  have FG := hid (FG.out.on hb)
  have FGq := hid (FGq.out.on hb)
  have FGg := hid (FGg.out.on hb)
  have FNx := hid (FNx.out.on hb)
  have Fs := hid (Fs.out.on hb)
  have FN8 := hid (FN8.out.on hb)
  have FN10 := hid (FN10.out.on hb)
  have FN11 := hid (FN11.out.on hb)
  have FN13 := hid (FN13.out.on hb)
  have FN14 := hid (FN14.out.on hb)
  have FK := hid (FK.out.on hb)
  have FZ := hid (FZ.out.on hb)
  have FN16 := hid (ldN t 0 hn (all_at _))
  clear hb hn
  generalize w11.alloc (.cells (cls t) 24) = w12 at *
  generalize w11.heap.size = gN16 at *
  have hz := FZ.out.here
  have HZ := hid (setRow_heap w12 g_z _ (sgc c t) 33 _ hz)
  have HBZ := hid (below_setRow HB.out (Nat.le_of_eq HZ0.out) (sgc c t))
  have HII : Hid ((Tryd.prog.info? 33).map (·.size) = some (sgc c t : Array Value).size) := hid (by kernel_rfl)
  have HIO : Hid ((#[.int .u64 0, .int .u64 0, .int .u64 0, .int .u64 0, .int .u64 0, .int .u64 0, .int .u64 0, .int .u64 0] : Array Value).size = (sgc c t : Array Value).size) := hid rfl
  have HIA : Hid ((sgc c t : Array Value).all (·.oneCell') = true) := hid (by simp [Value.oneCell'])
  have l19 := FN13.out.here
  have l20 := FN16.out.here
  go_wp2_with (first | (refine wp_ld rfl _ _ rfl _ rfl _ (by first | exact l19 | exact l20) ?_) | (refine wpList_store_row rfl 33 (.tmp 6) (.tmp 63) rfl g_z (sgc c t) rfl rfl 33 _ hz HII.out HIO.out HIA.out ?_))
  clear hz l19 l20
  try rw [Exit.noGoto_ret]
  change bodyPost _ _ _ _ _ (w12.setRow g_z (sgc c t))
  generalize w12.setRow g_z (sgc c t) = wz at *
  obtain ⟨k0, k1, k2, k3, k4, k5, k6, k7⟩ := sg_cells HZ.out
  exact bodyPost_ret (v := .tuple #[.agg (sgc c t), .int .i64 0]) (by simp [results, Tryd.results6, go_sem, k0, k1, k2, k3, k4, k5, k6, k7]) rfl ⟨rfl, by first | exact HFIN.out _ HBZ.out | (rw [hgp]; exact HFIN.out _ HBZ.out)⟩
end Go.Proofs.YtioebjbjpjbodaaDoor
