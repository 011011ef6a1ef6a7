/-
  TagsBack, walked. Condition: the library's table holds what its text lays.
-/
import Derived.Test.YtgmnpkgnedngjaaDoorPkP
namespace Go.Proofs.YtgmnpkgnedngjaaDoor
open Go.RowKit
set_option linter.unusedVariables false
set_option linter.unusedSimpArgs false

theorem tcmp_val (a b : List UInt8) (c : Int) (hc : cmpT a b = c) (ha : a.length = 16) (hb : b.length = 16) (w : World) : Calls Tryd.prog 12 #[.agg (bvs a).toArray, .agg (bvs b).toArray] w fun e w' => e = .returned (.int .i64 c) ∧ Below w.heap.size w w' := by
  subst hc; exact tcmp_any a b w ha hb
theorem cmpT_cases (a b : List UInt8) : cmpT a b = -1 ∨ cmpT a b = 0 ∨ cmpT a b = 1 := by
  unfold cmpT
  by_cases h1 : Op.bytesLess a b = true
  · exact .inl (if_pos h1)
  · rw [if_neg h1]
    by_cases h2 : Op.bytesLess b a = true
    · exact .inr (.inr (if_pos h2))
    · exact .inr (.inl (if_neg h2))
theorem str_gtr (t : TypeId) (a b : ByteArray) : binOp .gtr t (.string a) (.string b) = pure (.bool (!Op.bytesLess a.toList b.toList && !(a.toList == b.toList))) := by simp [binOp, Op.stringOp]
set_option maxRecDepth 100000 in
set_option maxHeartbeats 4000000 in
theorem back_law (a b : List UInt8) (w : World) (ha : a.length = 16) (hb : b.length = 16) (hd : Dg w) :
    Calls Tryd.prog 4 #[.agg (bvs a).toArray, .agg (bvs b).toArray] w fun e w' => e = .returned (.bool true) ∧ Below w.heap.size w w' := by
  have HLa := hid ha
  have HLb := hid hb
  have HD := hid hd
  obtain ⟨HB, FA, FB, HS⟩ := box2 w 26 26 a b
  generalize hw1 : (w.alloc (.cells (bvs a).toArray 26)).alloc (.cells (bvs b).toArray 26) = w1 at *
  clear ha hb hd HS
  go_enter Tryd.func4, Tryd.ntmps4
  go_upto_region 1 with fail
  clear hw1
  generalize w.heap.size + 1 = gB at *
  generalize hgA : w.heap.size = gA at FA ⊢
  clear hgA
  have hla := ld_tag FA.out HLa.out
  go_wp2_with ((with_reducible refine isD 12 rfl ?_); refine wp_ld (by kernel_rfl) 26 (.tmp 2) rfl _ rfl _ hla ?_)
  clear hla
  refine (text_ok a w1 HLa.out (HD.out.on HB.out)).mono ?_
  rintro e w2 ⟨rfl, hb⟩
  have FA := hid (FA.out.on hb)
  have FB := hid (FB.out.on hb)
  have HB := hid (HB.out.trans (hb.mono HB.out.size))
  clear hb
  have hlb := ld_tag FB.out HLb.out
  go_wp2_with ((with_reducible refine isD 14 rfl ?_); refine wp_ld (by kernel_rfl) 26 (.tmp 3) rfl _ rfl _ hlb ?_)
  clear hlb
  refine (text_ok b w2 HLb.out (HD.out.on HB.out)).mono ?_
  rintro e w3 ⟨rfl, hb⟩
  have FA := hid (FA.out.on hb)
  have FB := hid (FB.out.on hb)
  have HB := hid (HB.out.trans (hb.mono HB.out.size))
  clear hb
  go_wp2_with fail
  refine (parse_hit a HLa.out w3 (HD.out.on HB.out)).mono ?_
  rintro e w4 ⟨rfl, hb⟩
  have FA := hid (FA.out.on hb)
  have FB := hid (FB.out.on hb)
  have HB := hid (HB.out.trans (hb.mono HB.out.size))
  clear hb
  have hb := below_new w4 (.cells (bvs a).toArray 26)
  have FX := hid (bt_new w4 26 a)
  have FA := hid (FA.out.on hb)
  have FB := hid (FB.out.on hb)
  have HB := hid (HB.out.trans (hb.mono HB.out.size))
  have hi := (hi16 a HLa.out).out
  have ho := (ho16 a HLa.out).out
  clear hb
  go_upto_region 4 with (refine wpList_store_row rfl 26 (.tmp 7) (.tmp 19) rfl w4.heap.size (bvs a).toArray rfl rfl 26 _ (heap_alloc_new _ _) hi ho (bvs_all a) ?_; rw [World.setRow_alloc_new])
  clear hi ho
  generalize w4.alloc (.cells (bvs a).toArray 26) = w5 at *
  generalize w4.heap.size = g_FX at *
  go_wp2_with fail
  refine (parse_hit b HLb.out w5 (HD.out.on HB.out)).mono ?_
  rintro e w6 ⟨rfl, hb⟩
  have FA := hid (FA.out.on hb)
  have FB := hid (FB.out.on hb)
  have FX := hid (FX.out.on hb)
  have HB := hid (HB.out.trans (hb.mono HB.out.size))
  clear hb
  have hb := below_new w6 (.cells (bvs b).toArray 26)
  have FY := hid (bt_new w6 26 b)
  have FA := hid (FA.out.on hb)
  have FB := hid (FB.out.on hb)
  have FX := hid (FX.out.on hb)
  have HB := hid (HB.out.trans (hb.mono HB.out.size))
  have hi := (hi16 b HLb.out).out
  have ho := (ho16 b HLb.out).out
  clear hb
  go_upto_region 5 with (refine wpList_store_row rfl 26 (.tmp 9) (.tmp 24) rfl w6.heap.size (bvs b).toArray rfl rfl 26 _ (heap_alloc_new _ _) hi ho (bvs_all b) ?_; rw [World.setRow_alloc_new])
  clear hi ho
  generalize w6.alloc (.cells (bvs b).toArray 26) = w7 at *
  generalize w6.heap.size = g_FY at *
  have hla := ld_tag FA.out HLa.out
  have hlb := ld_tag FB.out HLb.out
  have hlx := ld_tag FX.out HLa.out
  have hly := ld_tag FY.out HLb.out
  have heqa := eq_tag a a HLa.out HLa.out w7
  have heqb := eq_tag b b HLb.out HLb.out w7
  rw [decide_eq_true rfl] at heqa heqb
  go_upto_region 7 with (first | ((with_reducible refine isD 33 rfl ?_); refine wp_ld (by kernel_rfl) 26 (.tmp 7) rfl _ rfl _ hlx ?_) | ((with_reducible refine isD 34 rfl ?_); refine wp_ld (by kernel_rfl) 26 (.tmp 2) rfl _ rfl _ hla ?_) | ((with_reducible refine isD 38 rfl ?_); refine wp_ld (by kernel_rfl) 26 (.tmp 9) rfl _ rfl _ hly ?_) | ((with_reducible refine isD 39 rfl ?_); refine wp_ld (by kernel_rfl) 26 (.tmp 3) rfl _ rfl _ hlb ?_))
  clear hla hlb hlx hly heqa heqb FX FY
  rcases cmpT_cases a b with hc | hc | hc
  · skip
    have HC := hid hc
    have HC2 := hid (show cmpT b a = 1 by have h := cmpT_neg a b; rw [hc] at h; simpa using h)
    have e1 : Op.bytesLess (txt a) (txt b) = true := by rw [less_txt (HLa.out.trans HLb.out.symm), ← cmpT_lt, hc]; rfl
    have e2 : (txt a == txt b) = false := by exact beq_eq_false_iff_ne.2 (fun h => by have h2 := txt_inj (HLa.out.trans HLb.out.symm) h; rw [(cmpT_zero (HLa.out.trans HLb.out.symm)).2 h2] at hc; exact absurd hc (by decide))
    have HAB := hid (show decide (a = b) = false by exact decide_eq_false (fun h => by rw [(cmpT_zero (HLa.out.trans HLb.out.symm)).2 h] at hc; exact absurd hc (by decide)))
    have hg := str_gtr
    have hla := ld_tag FA.out HLa.out
    have hlb := ld_tag FB.out HLb.out
    clear hc
    go_wp2_with (first | ((with_reducible refine isD 42 rfl ?_); refine wp_ld (by kernel_rfl) 26 (.tmp 2) rfl _ rfl _ hla ?_) | ((with_reducible refine isD 43 rfl ?_); refine wp_ld (by kernel_rfl) 26 (.tmp 3) rfl _ rfl _ hlb ?_))
    refine (tcmp_val a b (-1) HC.out HLa.out HLb.out w7).mono ?_
    rintro e w8 ⟨rfl, hb⟩
    clear hla hlb
    have FA := hid (FA.out.on hb)
    have FB := hid (FB.out.on hb)
    have HB := hid (HB.out.trans (hb.mono HB.out.size))
    clear hb
    have hla := ld_tag FA.out HLa.out
    have hlb := ld_tag FB.out HLb.out
    go_wp2_with (first | ((with_reducible refine isD 61 rfl ?_); refine wp_ld (by kernel_rfl) 26 (.tmp 3) rfl _ rfl _ hlb ?_) | ((with_reducible refine isD 62 rfl ?_); refine wp_ld (by kernel_rfl) 26 (.tmp 2) rfl _ rfl _ hla ?_))
    refine (tcmp_val b a 1 HC2.out HLb.out HLa.out w8).mono ?_
    rintro e w9 ⟨rfl, hb⟩
    clear hla hlb
    have FA := hid (FA.out.on hb)
    have FB := hid (FB.out.on hb)
    have HB := hid (HB.out.trans (hb.mono HB.out.size))
    clear hb
    have hla := ld_tag FA.out HLa.out
    have hlb := ld_tag FB.out HLb.out
    have heq := eq_tag a b HLa.out HLb.out w9
    rw [HAB.out] at heq
    go_wp2_with (first | ((with_reducible refine isD 70 rfl ?_); refine wp_ld (by kernel_rfl) 26 (.tmp 2) rfl _ rfl _ hla ?_) | ((with_reducible refine isD 71 rfl ?_); refine wp_ld (by kernel_rfl) 26 (.tmp 3) rfl _ rfl _ hlb ?_))
    refine (lives_any w9 (HD.out.on HB.out)).mono ?_
    rintro e wz ⟨rfl, hb⟩
    clear hla hlb heq
    have FA := hid (FA.out.on hb)
    have FB := hid (FB.out.on hb)
    have HB := hid (HB.out.trans (hb.mono HB.out.size))
    clear hb
    go_wp2
    go_ret
    exact ⟨rfl, HB.out⟩
  · skip
    have HC := hid hc
    have HC2 := hid (show cmpT b a = 0 by have h := cmpT_neg a b; rw [hc] at h; simpa using h)
    have e1 : Op.bytesLess (txt a) (txt b) = false := by rw [less_txt (HLa.out.trans HLb.out.symm), ← cmpT_lt, hc]; rfl
    have e2 : (txt a == txt b) = true := by exact beq_iff_eq.2 (by rw [(cmpT_zero (HLa.out.trans HLb.out.symm)).1 hc])
    have HAB := hid (show decide (a = b) = true by exact decide_eq_true ((cmpT_zero (HLa.out.trans HLb.out.symm)).1 hc))
    have hg := str_gtr
    have hla := ld_tag FA.out HLa.out
    have hlb := ld_tag FB.out HLb.out
    clear hc
    go_wp2_with (first | ((with_reducible refine isD 42 rfl ?_); refine wp_ld (by kernel_rfl) 26 (.tmp 2) rfl _ rfl _ hla ?_) | ((with_reducible refine isD 43 rfl ?_); refine wp_ld (by kernel_rfl) 26 (.tmp 3) rfl _ rfl _ hlb ?_))
    refine (tcmp_val a b 0 HC.out HLa.out HLb.out w7).mono ?_
    rintro e w8 ⟨rfl, hb⟩
    clear hla hlb
    have FA := hid (FA.out.on hb)
    have FB := hid (FB.out.on hb)
    have HB := hid (HB.out.trans (hb.mono HB.out.size))
    clear hb
    have hla := ld_tag FA.out HLa.out
    have hlb := ld_tag FB.out HLb.out
    go_wp2_with (first | ((with_reducible refine isD 61 rfl ?_); refine wp_ld (by kernel_rfl) 26 (.tmp 3) rfl _ rfl _ hlb ?_) | ((with_reducible refine isD 62 rfl ?_); refine wp_ld (by kernel_rfl) 26 (.tmp 2) rfl _ rfl _ hla ?_))
    refine (tcmp_val b a 0 HC2.out HLb.out HLa.out w8).mono ?_
    rintro e w9 ⟨rfl, hb⟩
    clear hla hlb
    have FA := hid (FA.out.on hb)
    have FB := hid (FB.out.on hb)
    have HB := hid (HB.out.trans (hb.mono HB.out.size))
    clear hb
    have hla := ld_tag FA.out HLa.out
    have hlb := ld_tag FB.out HLb.out
    have heq := eq_tag a b HLa.out HLb.out w9
    rw [HAB.out] at heq
    go_wp2_with (first | ((with_reducible refine isD 70 rfl ?_); refine wp_ld (by kernel_rfl) 26 (.tmp 2) rfl _ rfl _ hla ?_) | ((with_reducible refine isD 71 rfl ?_); refine wp_ld (by kernel_rfl) 26 (.tmp 3) rfl _ rfl _ hlb ?_))
    refine (lives_any w9 (HD.out.on HB.out)).mono ?_
    rintro e wz ⟨rfl, hb⟩
    clear hla hlb heq
    have FA := hid (FA.out.on hb)
    have FB := hid (FB.out.on hb)
    have HB := hid (HB.out.trans (hb.mono HB.out.size))
    clear hb
    go_wp2
    go_ret
    exact ⟨rfl, HB.out⟩
  · skip
    have HC := hid hc
    have HC2 := hid (show cmpT b a = (-1) by have h := cmpT_neg a b; rw [hc] at h; simpa using h)
    have e1 : Op.bytesLess (txt a) (txt b) = false := by rw [less_txt (HLa.out.trans HLb.out.symm), ← cmpT_lt, hc]; rfl
    have e2 : (txt a == txt b) = false := by exact beq_eq_false_iff_ne.2 (fun h => by have h2 := txt_inj (HLa.out.trans HLb.out.symm) h; rw [(cmpT_zero (HLa.out.trans HLb.out.symm)).2 h2] at hc; exact absurd hc (by decide))
    have HAB := hid (show decide (a = b) = false by exact decide_eq_false (fun h => by rw [(cmpT_zero (HLa.out.trans HLb.out.symm)).2 h] at hc; exact absurd hc (by decide)))
    have hg := str_gtr
    have hla := ld_tag FA.out HLa.out
    have hlb := ld_tag FB.out HLb.out
    clear hc
    go_wp2_with (first | ((with_reducible refine isD 42 rfl ?_); refine wp_ld (by kernel_rfl) 26 (.tmp 2) rfl _ rfl _ hla ?_) | ((with_reducible refine isD 43 rfl ?_); refine wp_ld (by kernel_rfl) 26 (.tmp 3) rfl _ rfl _ hlb ?_))
    refine (tcmp_val a b 1 HC.out HLa.out HLb.out w7).mono ?_
    rintro e w8 ⟨rfl, hb⟩
    clear hla hlb
    have FA := hid (FA.out.on hb)
    have FB := hid (FB.out.on hb)
    have HB := hid (HB.out.trans (hb.mono HB.out.size))
    clear hb
    have hla := ld_tag FA.out HLa.out
    have hlb := ld_tag FB.out HLb.out
    go_wp2_with (first | ((with_reducible refine isD 61 rfl ?_); refine wp_ld (by kernel_rfl) 26 (.tmp 3) rfl _ rfl _ hlb ?_) | ((with_reducible refine isD 62 rfl ?_); refine wp_ld (by kernel_rfl) 26 (.tmp 2) rfl _ rfl _ hla ?_))
    refine (tcmp_val b a (-1) HC2.out HLb.out HLa.out w8).mono ?_
    rintro e w9 ⟨rfl, hb⟩
    clear hla hlb
    have FA := hid (FA.out.on hb)
    have FB := hid (FB.out.on hb)
    have HB := hid (HB.out.trans (hb.mono HB.out.size))
    clear hb
    have hla := ld_tag FA.out HLa.out
    have hlb := ld_tag FB.out HLb.out
    have heq := eq_tag a b HLa.out HLb.out w9
    rw [HAB.out] at heq
    go_wp2_with (first | ((with_reducible refine isD 70 rfl ?_); refine wp_ld (by kernel_rfl) 26 (.tmp 2) rfl _ rfl _ hla ?_) | ((with_reducible refine isD 71 rfl ?_); refine wp_ld (by kernel_rfl) 26 (.tmp 3) rfl _ rfl _ hlb ?_))
    refine (lives_any w9 (HD.out.on HB.out)).mono ?_
    rintro e wz ⟨rfl, hb⟩
    clear hla hlb heq
    have FA := hid (FA.out.on hb)
    have FB := hid (FB.out.on hb)
    have HB := hid (HB.out.trans (hb.mono HB.out.size))
    clear hb
    go_wp2
    go_ret
    exact ⟨rfl, HB.out⟩

end Go.Proofs.YtgmnpkgnedngjaaDoor
