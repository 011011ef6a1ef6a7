/-
  burrowlaw10.KeymatsBegin, walked: it answers true. Condition: the library's table holds what its text lays.
-/
import Derived.Test.YtbloejlebikecaaDoorKmf
namespace Go.Proofs.YtbloejlebikecaaDoor
open Go.RowKit
set_option linter.unusedVariables false
set_option linter.unusedSimpArgs false

/-- a number's box, a sum's box -/
theorem boxes2 (n0 n1 n2 n3 : Nat) (id : List UInt8) (w : World) : Hid (Below w.heap.size w ((w.alloc (.cells #[.int .u64 (n0 : Int), .int .u64 (n1 : Int), .int .u64 (n2 : Int), .int .u64 (n3 : Int)] 24)).alloc (.cells (bvs id).toArray 26))) ∧ Hid (Nb ((w.alloc (.cells #[.int .u64 (n0 : Int), .int .u64 (n1 : Int), .int .u64 (n2 : Int), .int .u64 (n3 : Int)] 24)).alloc (.cells (bvs id).toArray 26)) w.heap.size n0 n1 n2 n3) ∧
    Hid (Bt ((w.alloc (.cells #[.int .u64 (n0 : Int), .int .u64 (n1 : Int), .int .u64 (n2 : Int), .int .u64 (n3 : Int)] 24)).alloc (.cells (bvs id).toArray 26)) (w.heap.size + 1) 26 id) ∧ Hid (((w.alloc (.cells #[.int .u64 (n0 : Int), .int .u64 (n1 : Int), .int .u64 (n2 : Int), .int .u64 (n3 : Int)] 24)).alloc (.cells (bvs id).toArray 26)).heap.size = w.heap.size + 1 + 1) := by
  have a1 := (Below.refl w.heap.size w).alloc (Nat.le_refl _) (.cells #[.int .u64 (n0 : Int), .int .u64 (n1 : Int), .int .u64 (n2 : Int), .int .u64 (n3 : Int)] 24)
  have x1 := heap_alloc_new w (.cells #[.int .u64 (n0 : Int), .int .u64 (n1 : Int), .int .u64 (n2 : Int), .int .u64 (n3 : Int)] 24)
  have s1 := al_size w (.cells #[.int .u64 (n0 : Int), .int .u64 (n1 : Int), .int .u64 (n2 : Int), .int .u64 (n3 : Int)] 24)
  generalize w.alloc (.cells #[.int .u64 (n0 : Int), .int .u64 (n1 : Int), .int .u64 (n2 : Int), .int .u64 (n3 : Int)] 24) = w1 at *
  have a2 := (Below.refl w1.heap.size w1).alloc (Nat.le_refl _) (.cells (bvs id).toArray 26)
  have x2 := heap_alloc_new w1 (.cells (bvs id).toArray 26)
  rw [s1] at x2
  exact ⟨hid (a1.trans (a2.mono (by omega))), hid (Nb.on (show Nb w1 w.heap.size n0 n1 n2 n3 from x1) a2), hid x2, hid (by rw [al_size, s1])⟩
theorem past_zero (g c : Nat) : past (some ⟨g, 0, none⟩) 0 c = some ⟨g, 0, none⟩ := by
  unfold past
  split
  · rfl
  · simp only [Option.map, add_plain, Nat.zero_add]
theorem ld2 {w : World} {g t : Nat} {a b : Int} (h : w.heap[g]? = some (.cells #[.int .u16 a, .int .u16 b] t (0, 0))) : w.cell? ⟨g, 0, none⟩ = some (.int .u16 a) ∧ w.cell? ⟨g, 1, none⟩ = some (.int .u16 b) := by
  constructor
  · rw [cell_of_row w g _ _ t (0, 0) h]; rfl
  · rw [cell_of_row w g _ _ t (0, 0) h]; rfl
set_option maxRecDepth 100000 in
set_option maxHeartbeats 4000000 in
theorem begin_law (n0 n1 n2 n3 : Nat) (id : List UInt8) (c0 c1 : Nat) (w : World) (h0 : n0 < 18446744073709551616) (h1 : n1 < 18446744073709551616) (h2 : n2 < 18446744073709551616) (h3 : n3 < 18446744073709551616) (hi : id.length = 32) (hc0 : c0 < 65536) (hc1 : c1 < 65536) (hK : Kt w) :
    Calls Tryd.prog 3 #[.agg #[.int .u64 (n0 : Int), .int .u64 (n1 : Int), .int .u64 (n2 : Int), .int .u64 (n3 : Int)], .agg (bvs id).toArray, .agg #[.int .u16 (c0 : Int), .int .u16 (c1 : Int)]] w fun e w' => e = .returned (.bool true) ∧ Below w.heap.size w w' := by
  have H0 := hid h0
  have H1 := hid h1
  have H2 := hid h2
  have H3 := hid h3
  have HI := hid hi
  have HK := hid hK
  obtain ⟨b2, x2, y2, s2⟩ := boxes2 n0 n1 n2 n3 id w
  have b3 := (Below.refl (((w.alloc (.cells #[.int .u64 (n0 : Int), .int .u64 (n1 : Int), .int .u64 (n2 : Int), .int .u64 (n3 : Int)] 24)).alloc (.cells (bvs id).toArray 26))).heap.size (((w.alloc (.cells #[.int .u64 (n0 : Int), .int .u64 (n1 : Int), .int .u64 (n2 : Int), .int .u64 (n3 : Int)] 24)).alloc (.cells (bvs id).toArray 26)))).alloc (Nat.le_refl _) (.cells #[.int .u16 (c0 : Int), .int .u16 (c1 : Int)] 28)
  have x3 := heap_alloc_new ((w.alloc (.cells #[.int .u64 (n0 : Int), .int .u64 (n1 : Int), .int .u64 (n2 : Int), .int .u64 (n3 : Int)] 24)).alloc (.cells (bvs id).toArray 26)) (.cells #[.int .u16 (c0 : Int), .int .u16 (c1 : Int)] 28)
  rw [s2.out] at x3
  have HB1 := hid (b2.out.trans (b3.mono (by rw [s2.out]; omega)))
  have FN := hid (on_nb (x2.out.on b3))
  have FI := hid (on_bt (y2.out.on b3))
  obtain ⟨m0, m1⟩ := ld2 x3
  obtain ⟨a, ha⟩ : ∃ a, a = c0 % 1000 := ⟨_, rfl⟩
  obtain ⟨d, hd⟩ : ∃ d, d = c1 % 1000 := ⟨_, rfl⟩
  obtain ⟨b, hb⟩ : ∃ b, b = a + d := ⟨_, rfl⟩
  have q1 : Int.tmod (c0 : Int) 1000 = (a : Int) := by rw [Int.tmod_eq_emod_of_nonneg (by omega)]; omega
  have q2 : (c0 : Int) % 1000 = (a : Int) := by omega
  have q3 : Int.tmod (c1 : Int) 1000 = (d : Int) := by rw [Int.tmod_eq_emod_of_nonneg (by omega)]; omega
  have q4 : (c1 : Int) % 1000 = (d : Int) := by omega
  have q5 : IntKind.i64.wrap ((a : Int) + (d : Int)) = (b : Int) := by rw [IntKind.wrap_i64]; omega
  have q6 : IntKind.i64.wrap (c0 : Int) = (c0 : Int) := by rw [IntKind.wrap_i64]; omega
  have q7 : IntKind.i64.wrap (c1 : Int) = (c1 : Int) := by rw [IntKind.wrap_i64]; omega
  have q8 : IntKind.i64.wrap (a : Int) = (a : Int) := by rw [IntKind.wrap_i64]; omega
  have q9 : IntKind.i64.wrap (d : Int) = (d : Int) := by rw [IntKind.wrap_i64]; omega
  have HAB := hid (p := a ≤ b ∧ b ≤ 2000) (by omega)
  clear b2 x2 y2 s2 b3 x3 h0 h1 h2 h3 hi hK ha hd hb hc0 hc1
  go_enter Tryd.func3, Tryd.ntmps3
  go_upto_region 1 with fail
  generalize (((w.alloc (.cells #[.int .u64 (n0 : Int), .int .u64 (n1 : Int), .int .u64 (n2 : Int), .int .u64 (n3 : Int)] 24)).alloc (.cells (bvs id).toArray 26)).alloc (.cells #[.int .u16 (c0 : Int), .int .u16 (c1 : Int)] 28)) = w1 at *
  go_upto_region 3 with fail
  clear m0 m1 q1 q2 q3 q4 q5 q6 q7 q8 q9
  have hn1 := ld_num FN.out.here
  have hs1 := ld_sum FI.out.here HI.out
  go_wp2_with (first | ((with_reducible refine isD 24 rfl ?_); refine wp_ld (by kernel_rfl) 24 (.tmp 3) rfl _ rfl _ hn1 ?_) | ((with_reducible refine isD 25 rfl ?_); refine wp_ld (by kernel_rfl) 26 (.tmp 4) rfl _ rfl _ hs1 ?_))
  refine (kmof_any n0 n1 n2 n3 id a w1 H0.out H1.out H2.out H3.out HI.out (by have := HAB.out; omega) (HK.out.on HB1.out)).mono ?_
  rintro e w2 ⟨g1, rfl, hq⟩
  have HB2 := hid (HB1.out.trans (hq.out.2.2.mono HB1.out.size))
  have HR2 := hid hq.out.1
  have hn2 := ld_num (FN.out _ hq.out.2.2)
  have hs2 := ld_sum (FI.out _ hq.out.2.2) HI.out
  clear hq hn1 hs1
  go_wp2_with (first | ((with_reducible refine isD 31 rfl ?_); refine wp_ld (by kernel_rfl) 24 (.tmp 3) rfl _ rfl _ hn2 ?_) | ((with_reducible refine isD 32 rfl ?_); refine wp_ld (by kernel_rfl) 26 (.tmp 4) rfl _ rfl _ hs2 ?_))
  refine (kmof_any n0 n1 n2 n3 id b w2 H0.out H1.out H2.out H3.out HI.out (by have := HAB.out; omega) (HK.out.on HB2.out)).mono ?_
  rintro e w3 ⟨g2, rfl, hq⟩
  have HB3 := hid (HB2.out.trans (hq.out.2.2.mono HB2.out.size))
  have HR3 := hid (HR2.out.below hq.out.2.2 HR2.out.lt)
  have HQ3 := hid hq.out.1
  have HH := hid (p := ∀ x, (hm (kky n0 n1 n2 n3 id) x).length = 32) (fun x => hm_length _ _)
  have HRD := hid (p := Rd w3 (some ⟨g2, 0, none⟩) (mat (hm (kky n0 n1 n2 n3 id)) a)) (by have := HQ3.out.rd0.take a; rwa [mat_take _ HH.out a b HAB.out.1] at this)
  have HLA := hid (mat_length _ HH.out a)
  generalize hm (kky n0 n1 n2 n3 id) = H at *
  clear hq hn2 hs2 HB1 HB2 FN FI HQ3 HR2
  have hsl := slice_head (some ⟨g2, 0, none⟩) b b a HAB.out.1
  rw [past_zero] at hsl
  go_wp2_with fail
  clear hsl
  refine (same_at (some ⟨g1, 0, none⟩) (some ⟨g2, 0, none⟩) a b a a (mat H a) w3 HLA.out HLA.out HR3.out.rd0 HRD.out (by have := HAB.out; omega)).mono ?_
  rintro e w4 ⟨rfl, k4, rfl⟩
  have HB4 := hid (below_dN HB3.out k4)
  clear HR3 HRD HB3
  go_wp2_with fail
  refine (lives10_any (w3.drewN k4) (HK.out.on HB4.out)).mono ?_
  rintro e w5 ⟨rfl, hb5⟩
  go_wp2
  go_ret
  exact ⟨rfl, HB4.out.trans (hb5.mono HB4.out.size)⟩
end Go.Proofs.YtbloejlebikecaaDoor
