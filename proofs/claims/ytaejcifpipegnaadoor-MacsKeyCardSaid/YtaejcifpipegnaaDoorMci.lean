/-
  burrowlaw08.MacsKey, walked: it answers true. Condition: the library's table holds what its text lays.
-/
import Derived.Test.YtaejcifpipegnaaDoorMch
namespace Go.Proofs.YtaejcifpipegnaaDoor
open Go.RowKit
set_option linter.unusedVariables false
set_option linter.unusedSimpArgs false

set_option maxRecDepth 100000 in
set_option maxHeartbeats 4000000 in
theorem key8_law (A0 : Option Addr) (c : Nat) (key : List UInt8) (n : Nat) (A1 : Option Addr) (c1 : Nat) (b : List UInt8) (m : Nat) (x : Nat) (w : World) (hn : key.length = n) (hr : Rd w A0 key) (hc : n ≤ c) (hA0 : A0 = none → c = 0) (hm : b.length = m) (hr1 : Rd w A1 b) (hc1 : m ≤ c1) (hcm : c1 ≤ 140737488351232) (hA1 : A1 = none → c1 = 0)
    (hx : x < 256) (hK : Kt w) :
    Calls Tryd.prog 5 #[.slice A0 n c, .slice A1 m c1, .int .u8 (x : Int)] w fun e w' => e = .returned (.bool true) ∧ Below w.heap.size w w' := by
  have HN := hid hn
  have HR := hid hr
  have HC := hid hc
  have HM := hid hm
  have HR1 := hid hr1
  have HC1 := hid hc1
  have HCM := hid hcm
  have HA1 := hid hA1
  have HA0 := hid hA0
  have HX := hid hx
  have HK := hid hK
  clear hn hr hc hm hr1 hc1 hcm hA1 hA0 hx hK
  by_cases hx1 : (10000 : Int) < (n : Int)
  · go_enter Tryd.func5, Tryd.ntmps5
    go_wp2_with fail
    refine (lives8_any w HK.out).mono ?_
    rintro e w1 ⟨rfl, hb1⟩
    go_wp2
    go_ret
    exact ⟨rfl, hb1⟩
  by_cases hx2 : (10000 : Int) < (m : Int)
  · go_enter Tryd.func5, Tryd.ntmps5
    go_wp2_with fail
    refine (lives8_any w HK.out).mono ?_
    rintro e w1 ⟨rfl, hb1⟩
    go_wp2
    go_ret
    exact ⟨rfl, hb1⟩
  have HX1 := hid (show m ≤ 1048576 by omega)
  have HX3 := hid (show n ≤ 70368744177664 by omega)
  have HNB := hid (show n ≤ 10000 by omega)
  have HC1B := hid (cat_one b)
  go_enter Tryd.func5, Tryd.ntmps5
  go_wp2_with fail
  clear hx1 hx2
  refine (of_any A0 c key w n HN.out HR.out HC.out HK.out HX3.out).mono ?_
  rintro e w2 ⟨rfl, hb2⟩
  have HB2 := hid hb2
  have HSL := hid (sha_length key)
  have HSM := hid (show 64 < n → hm (sha key) b = hm key b from fun h => hm_sum key b (by rw [HN.out]; exact h))
  clear hb2
  generalize sha key = sm at *
  have HO2 := ho32 sm HSL.out
  have HI2 := hi44 sm HSL.out
  obtain ⟨hB4, hX4, hs4⟩ := box1 w2 29 sm
  have HB4 := hid (HB2.out.trans (hB4.out.mono HB2.out.size))
  have HK4 := hid (HK.out.on HB4.out)
  have HA4 := hid (HR.out.below HB4.out (Nat.le_refl _))
  have HD4 := hid (HR1.out.below HB4.out (Nat.le_refl _))
  have HI4 := hid hX4.out
  clear hB4 hX4 hs4 HB2
  go_upto_region 4 with (refine wpList_store_row rfl 29 (.tmp 7) (.tmp 20) rfl w2.heap.size (bvs sm).toArray rfl rfl 29 _ (heap_alloc_new _ _) HI2.out HO2.out (bvs_all _) ?_; rw [World.setRow_alloc_new])
  generalize w2.alloc (.cells (bvs sm).toArray 29) = w4 at *
  generalize w2.heap.size = g7 at *
  by_cases h64 : (64 : Int) < (n : Int)
  · have HSM := hid (HSM.out (by omega))
    have hsl := sl32 g7
    go_upto_region 5 with fail
    refine wp_region_noPanic ?_
    refine Goes.region (fun (L : Array Bool) (u : World) => True) (by as_aux_lemma => kernel_rfl) ?_
    have HB := hid (on_below (HB4.out.drew))
    have FK := hid (on_kt (show Kt w4.drew from HK4.out))
    have FA := hid (on_rd (show Rd w4.drew A0 key from HA4.out))
    have FB := hid (on_rd (show Rd w4.drew A1 b from HD4.out))
    have FI := hid (on_bt (show Bt w4.drew g7 29 sm from HI4.out))
    clear HB4 HK4 HA4 HD4 HI4
    generalize w4.drew = wd at *
    refine Goes.take (i := 0) (o := ⟨some 24, _, _, _, _, _⟩) (v := ?_) [] rfl (by as_aux_lemma => kernel_rfl) (by as_aux_lemma => kernel_rfl) (by as_aux_lemma => kernel_rfl) (fun _ _ _ h => h) (by as_aux_lemma => kernel_rfl) (fun L u h => h) (Or.inl ⟨by rfl, ?_⟩) trivial ?_
    rotate_left
    · intro u hY; go_simp; try with_reducible rfl
    try simp only [putz]
    refine Goes.take (i := 1) (o := ⟨some 25, _, _, _, _, _⟩) (v := ?_) [] rfl (by as_aux_lemma => kernel_rfl) (by as_aux_lemma => kernel_rfl) (by as_aux_lemma => kernel_rfl) (fun _ _ _ h => h) (by as_aux_lemma => kernel_rfl) (fun L u h => h) (Or.inl ⟨by rfl, ?_⟩) trivial ?_
    rotate_left
    · intro u hY; go_simp; try with_reducible rfl
    try simp only [putz]
    refine Goes.take (i := 4) (o := ⟨some 28, _, _, _, _, _⟩) (v := ?_) [] rfl (by as_aux_lemma => kernel_rfl) (by as_aux_lemma => kernel_rfl) (by as_aux_lemma => kernel_rfl) (fun _ _ _ h => h) (by as_aux_lemma => kernel_rfl) (fun L u h => h) (Or.inl ⟨by rfl, ?_⟩) trivial ?_
    rotate_left
    · intro u hY; go_simp; try with_reducible rfl
    try simp only [putz]
    refine Goes.take (i := 5) (o := ⟨some 29, _, _, _, _, _⟩) (v := ?_) [] rfl (by as_aux_lemma => kernel_rfl) (by as_aux_lemma => kernel_rfl) (by as_aux_lemma => kernel_rfl) (fun _ _ _ h => h) (by as_aux_lemma => kernel_rfl) (fun L u h => h) (Or.inl ⟨by rfl, ?_⟩) trivial ?_
    rotate_left
    · intro u hY; go_simp; try with_reducible rfl
    try simp only [putz]
    refine Goes.two (i := 2) (j := 6) (o := ⟨some 26, _, _, _, _, _⟩) (p := ⟨some 30, _, _, _, _, _⟩) (by as_aux_lemma => kernel_rfl) rfl rfl (fun K hK => ?_) (fun K hK => ?_)
    · skip
      go_simp
      have hb := (Below.refl wd.heap.size wd).alloc (Nat.le_refl _) (.cells #[.slice A1 m c1] 22)
      have hh := heap_alloc_new wd (.cells #[.slice A1 m c1] 22)
      refine hK.out _ _ trivial ?_
      clear hK K
      try simp only [putz]
      have HB := hid (HB.out.on hb)
      have FK := hid (FK.out.on hb)
      have FA := hid (FA.out.on hb)
      have FB := hid (FB.out.on hb)
      have FI := hid (FI.out.on hb)
      generalize wd.alloc (.cells #[.slice A1 m c1] 22) = w5 at *
      generalize wd.heap.size = ga at *
      have FQ := hid (on_rws (rws_one hh FB.out.here HM.out HC1.out HCM.out HA1.out))
      clear hb hh
      refine Goes.two (i := 3) (j := 6) (o := ⟨some 27, _, _, _, _, _⟩) (p := ⟨some 30, _, _, _, _, _⟩) (by as_aux_lemma => kernel_rfl) rfl rfl (fun K hK => ?_) (fun K hK => ?_)
      · skip
        go_simp
        refine (macof_any A0 c key n (some ⟨ga, 0, none⟩) 1 1 _ _ _ _ w5 HN.out FA.out.here HC.out HX3.out FQ.out.here FK.out.here (by decide) (fun r hr => HX1.out)).mono ?_
        rintro e w6 ⟨rfl, hb⟩
        rw [HC1B.out]
        go_wp2_with fail
        refine hK.out _ _ trivial ?_
        clear hK K
        try simp only [putz]
        have HB := hid (HB.out.on hb)
        have FK := hid (FK.out.on hb)
        have FA := hid (FA.out.on hb)
        have FB := hid (FB.out.on hb)
        have FI := hid (FI.out.on hb)
        have FQ := hid (FQ.out.on hb)
        clear hb
        refine Goes.one (i := 6) (o := ⟨some 30, _, _, _, _, _⟩) (by as_aux_lemma => kernel_rfl) rfl (fun K hK => ?_)
        go_simp
        have hb := (Below.refl w6.heap.size w6).alloc (Nat.le_refl _) (.cells #[.slice A1 m c1] 22)
        have hh := heap_alloc_new w6 (.cells #[.slice A1 m c1] 22)
        refine hK.out _ _ trivial ?_
        clear hK K
        try simp only [putz]
        have HB := hid (HB.out.on hb)
        have FK := hid (FK.out.on hb)
        have FA := hid (FA.out.on hb)
        have FB := hid (FB.out.on hb)
        have FI := hid (FI.out.on hb)
        have FQ := hid (FQ.out.on hb)
        generalize w6.alloc (.cells #[.slice A1 m c1] 22) = w7 at *
        generalize w6.heap.size = gb at *
        have FT := hid (on_rws (rws_one hh FB.out.here HM.out HC1.out HCM.out HA1.out))
        clear hb hh
        refine Goes.one (i := 7) (o := ⟨some 31, _, _, _, _, _⟩) (by as_aux_lemma => kernel_rfl) rfl (fun K hK => ?_)
        go_simp
        refine (macof_any (some ⟨g7, 0, none⟩) 32 sm 32 (some ⟨gb, 0, none⟩) 1 1 _ _ _ _ w7 HSL.out (bt_rd FI.out.here) (by decide) (by decide) FT.out.here FK.out.here (by decide) (fun r hr => HX1.out)).mono ?_
        rintro e w8 ⟨rfl, hb⟩
        rw [HC1B.out]
        rw [HSM.out]
        go_wp2_with fail
        refine hK.out _ _ trivial ?_
        clear hK K
        try simp only [putz]
        have HB := hid (HB.out.on hb)
        have FK := hid (FK.out.on hb)
        have FA := hid (FA.out.on hb)
        have FB := hid (FB.out.on hb)
        have FI := hid (FI.out.on hb)
        clear hb
        have heq := fun W : World => eq_sum (hm key b) (hm key b) (hm_length _ _) (hm_length _ _) W
        simp only [decide_true] at heq
        refine Goes.one (i := 8) (o := ⟨some 32, _, _, _, _, _⟩) (by as_aux_lemma => kernel_rfl) rfl (fun K hK => ?_)
        go_simp
        refine hK.out _ _ trivial ?_
        clear hK K
        try simp only [putz]
        refine Goes.one (i := 9) (o := ⟨some 33, _, _, _, _, _⟩) (by as_aux_lemma => kernel_rfl) rfl (fun K hK => ?_)
        go_simp
        refine hK.out _ _ trivial ?_
        clear hK K
        try simp only [putz]
        refine Goes.one (i := 10) (o := ⟨some 34, _, _, _, _, _⟩) (by as_aux_lemma => kernel_rfl) rfl (fun K hK => ?_)
        rw [if_pos (by rfl)]
        go_simp
        refine (lives8_any w8 FK.out.here).mono ?_
        rintro e wl ⟨rfl, hb⟩
        go_wp2_with fail
        refine hK.out _ _ trivial ?_
        clear hK K
        try simp only [putz]
        have HB := hid (HB.out.on hb)
        clear hb
        refine Goes.one (i := 11) (o := ⟨some 35, _, _, _, _, _⟩) (by as_aux_lemma => kernel_rfl) rfl (fun K hK => ?_)
        go_simp
        refine hK.out _ _ trivial ?_
        clear hK K
        try simp only [putz]
        refine Goes.one (i := 12) (o := ⟨some 6, _, _, _, _, _⟩) (by as_aux_lemma => kernel_rfl) rfl (fun K hK => ?_)
        go_simp
        refine hK.out _ _ trivial ?_
        clear hK K
        try simp only [putz]
        refine Goes.done (by as_aux_lemma => kernel_rfl) ?_ _
        refine NoPanic.normal ?_
        go_wp2
        go_ret
        exact ⟨rfl, HB.out.here⟩
      · skip
        go_simp
        have hb := (Below.refl w5.heap.size w5).alloc (Nat.le_refl _) (.cells #[.slice A1 m c1] 22)
        have hh := heap_alloc_new w5 (.cells #[.slice A1 m c1] 22)
        refine hK.out _ _ trivial ?_
        clear hK K
        try simp only [putz]
        have HB := hid (HB.out.on hb)
        have FK := hid (FK.out.on hb)
        have FA := hid (FA.out.on hb)
        have FB := hid (FB.out.on hb)
        have FI := hid (FI.out.on hb)
        have FQ := hid (FQ.out.on hb)
        generalize w5.alloc (.cells #[.slice A1 m c1] 22) = w6 at *
        generalize w5.heap.size = gb at *
        have FT := hid (on_rws (rws_one hh FB.out.here HM.out HC1.out HCM.out HA1.out))
        clear hb hh
        refine Goes.one (i := 3) (o := ⟨some 27, _, _, _, _, _⟩) (by as_aux_lemma => kernel_rfl) rfl (fun K hK => ?_)
        go_simp
        refine (macof_any A0 c key n (some ⟨ga, 0, none⟩) 1 1 _ _ _ _ w6 HN.out FA.out.here HC.out HX3.out FQ.out.here FK.out.here (by decide) (fun r hr => HX1.out)).mono ?_
        rintro e w7 ⟨rfl, hb⟩
        rw [HC1B.out]
        go_wp2_with fail
        refine hK.out _ _ trivial ?_
        clear hK K
        try simp only [putz]
        have HB := hid (HB.out.on hb)
        have FK := hid (FK.out.on hb)
        have FA := hid (FA.out.on hb)
        have FB := hid (FB.out.on hb)
        have FI := hid (FI.out.on hb)
        have FT := hid (FT.out.on hb)
        clear hb
        refine Goes.one (i := 7) (o := ⟨some 31, _, _, _, _, _⟩) (by as_aux_lemma => kernel_rfl) rfl (fun K hK => ?_)
        go_simp
        refine (macof_any (some ⟨g7, 0, none⟩) 32 sm 32 (some ⟨gb, 0, none⟩) 1 1 _ _ _ _ w7 HSL.out (bt_rd FI.out.here) (by decide) (by decide) FT.out.here FK.out.here (by decide) (fun r hr => HX1.out)).mono ?_
        rintro e w8 ⟨rfl, hb⟩
        rw [HC1B.out]
        rw [HSM.out]
        go_wp2_with fail
        refine hK.out _ _ trivial ?_
        clear hK K
        try simp only [putz]
        have HB := hid (HB.out.on hb)
        have FK := hid (FK.out.on hb)
        have FA := hid (FA.out.on hb)
        have FB := hid (FB.out.on hb)
        have FI := hid (FI.out.on hb)
        clear hb
        have heq := fun W : World => eq_sum (hm key b) (hm key b) (hm_length _ _) (hm_length _ _) W
        simp only [decide_true] at heq
        refine Goes.one (i := 8) (o := ⟨some 32, _, _, _, _, _⟩) (by as_aux_lemma => kernel_rfl) rfl (fun K hK => ?_)
        go_simp
        refine hK.out _ _ trivial ?_
        clear hK K
        try simp only [putz]
        refine Goes.one (i := 9) (o := ⟨some 33, _, _, _, _, _⟩) (by as_aux_lemma => kernel_rfl) rfl (fun K hK => ?_)
        go_simp
        refine hK.out _ _ trivial ?_
        clear hK K
        try simp only [putz]
        refine Goes.one (i := 10) (o := ⟨some 34, _, _, _, _, _⟩) (by as_aux_lemma => kernel_rfl) rfl (fun K hK => ?_)
        rw [if_pos (by rfl)]
        go_simp
        refine (lives8_any w8 FK.out.here).mono ?_
        rintro e wl ⟨rfl, hb⟩
        go_wp2_with fail
        refine hK.out _ _ trivial ?_
        clear hK K
        try simp only [putz]
        have HB := hid (HB.out.on hb)
        clear hb
        refine Goes.one (i := 11) (o := ⟨some 35, _, _, _, _, _⟩) (by as_aux_lemma => kernel_rfl) rfl (fun K hK => ?_)
        go_simp
        refine hK.out _ _ trivial ?_
        clear hK K
        try simp only [putz]
        refine Goes.one (i := 12) (o := ⟨some 6, _, _, _, _, _⟩) (by as_aux_lemma => kernel_rfl) rfl (fun K hK => ?_)
        go_simp
        refine hK.out _ _ trivial ?_
        clear hK K
        try simp only [putz]
        refine Goes.done (by as_aux_lemma => kernel_rfl) ?_ _
        refine NoPanic.normal ?_
        go_wp2
        go_ret
        exact ⟨rfl, HB.out.here⟩
    · skip
      go_simp
      have hb := (Below.refl wd.heap.size wd).alloc (Nat.le_refl _) (.cells #[.slice A1 m c1] 22)
      have hh := heap_alloc_new wd (.cells #[.slice A1 m c1] 22)
      refine hK.out _ _ trivial ?_
      clear hK K
      try simp only [putz]
      have HB := hid (HB.out.on hb)
      have FK := hid (FK.out.on hb)
      have FA := hid (FA.out.on hb)
      have FB := hid (FB.out.on hb)
      have FI := hid (FI.out.on hb)
      generalize wd.alloc (.cells #[.slice A1 m c1] 22) = w5 at *
      generalize wd.heap.size = gb at *
      have FT := hid (on_rws (rws_one hh FB.out.here HM.out HC1.out HCM.out HA1.out))
      clear hb hh
      refine Goes.one (i := 2) (o := ⟨some 26, _, _, _, _, _⟩) (by as_aux_lemma => kernel_rfl) rfl (fun K hK => ?_)
      go_simp
      have hb := (Below.refl w5.heap.size w5).alloc (Nat.le_refl _) (.cells #[.slice A1 m c1] 22)
      have hh := heap_alloc_new w5 (.cells #[.slice A1 m c1] 22)
      refine hK.out _ _ trivial ?_
      clear hK K
      try simp only [putz]
      have HB := hid (HB.out.on hb)
      have FK := hid (FK.out.on hb)
      have FA := hid (FA.out.on hb)
      have FB := hid (FB.out.on hb)
      have FI := hid (FI.out.on hb)
      have FT := hid (FT.out.on hb)
      generalize w5.alloc (.cells #[.slice A1 m c1] 22) = w6 at *
      generalize w5.heap.size = ga at *
      have FQ := hid (on_rws (rws_one hh FB.out.here HM.out HC1.out HCM.out HA1.out))
      clear hb hh
      refine Goes.one (i := 3) (o := ⟨some 27, _, _, _, _, _⟩) (by as_aux_lemma => kernel_rfl) rfl (fun K hK => ?_)
      go_simp
      refine (macof_any A0 c key n (some ⟨ga, 0, none⟩) 1 1 _ _ _ _ w6 HN.out FA.out.here HC.out HX3.out FQ.out.here FK.out.here (by decide) (fun r hr => HX1.out)).mono ?_
      rintro e w7 ⟨rfl, hb⟩
      rw [HC1B.out]
      go_wp2_with fail
      refine hK.out _ _ trivial ?_
      clear hK K
      try simp only [putz]
      have HB := hid (HB.out.on hb)
      have FK := hid (FK.out.on hb)
      have FA := hid (FA.out.on hb)
      have FB := hid (FB.out.on hb)
      have FI := hid (FI.out.on hb)
      have FT := hid (FT.out.on hb)
      clear hb
      refine Goes.one (i := 7) (o := ⟨some 31, _, _, _, _, _⟩) (by as_aux_lemma => kernel_rfl) rfl (fun K hK => ?_)
      go_simp
      refine (macof_any (some ⟨g7, 0, none⟩) 32 sm 32 (some ⟨gb, 0, none⟩) 1 1 _ _ _ _ w7 HSL.out (bt_rd FI.out.here) (by decide) (by decide) FT.out.here FK.out.here (by decide) (fun r hr => HX1.out)).mono ?_
      rintro e w8 ⟨rfl, hb⟩
      rw [HC1B.out]
      rw [HSM.out]
      go_wp2_with fail
      refine hK.out _ _ trivial ?_
      clear hK K
      try simp only [putz]
      have HB := hid (HB.out.on hb)
      have FK := hid (FK.out.on hb)
      have FA := hid (FA.out.on hb)
      have FB := hid (FB.out.on hb)
      have FI := hid (FI.out.on hb)
      clear hb
      have heq := fun W : World => eq_sum (hm key b) (hm key b) (hm_length _ _) (hm_length _ _) W
      simp only [decide_true] at heq
      refine Goes.one (i := 8) (o := ⟨some 32, _, _, _, _, _⟩) (by as_aux_lemma => kernel_rfl) rfl (fun K hK => ?_)
      go_simp
      refine hK.out _ _ trivial ?_
      clear hK K
      try simp only [putz]
      refine Goes.one (i := 9) (o := ⟨some 33, _, _, _, _, _⟩) (by as_aux_lemma => kernel_rfl) rfl (fun K hK => ?_)
      go_simp
      refine hK.out _ _ trivial ?_
      clear hK K
      try simp only [putz]
      refine Goes.one (i := 10) (o := ⟨some 34, _, _, _, _, _⟩) (by as_aux_lemma => kernel_rfl) rfl (fun K hK => ?_)
      rw [if_pos (by rfl)]
      go_simp
      refine (lives8_any w8 FK.out.here).mono ?_
      rintro e wl ⟨rfl, hb⟩
      go_wp2_with fail
      refine hK.out _ _ trivial ?_
      clear hK K
      try simp only [putz]
      have HB := hid (HB.out.on hb)
      clear hb
      refine Goes.one (i := 11) (o := ⟨some 35, _, _, _, _, _⟩) (by as_aux_lemma => kernel_rfl) rfl (fun K hK => ?_)
      go_simp
      refine hK.out _ _ trivial ?_
      clear hK K
      try simp only [putz]
      refine Goes.one (i := 12) (o := ⟨some 6, _, _, _, _, _⟩) (by as_aux_lemma => kernel_rfl) rfl (fun K hK => ?_)
      go_simp
      refine hK.out _ _ trivial ?_
      clear hK K
      try simp only [putz]
      refine Goes.done (by as_aux_lemma => kernel_rfl) ?_ _
      refine NoPanic.normal ?_
      go_wp2
      go_ret
      exact ⟨rfl, HB.out.here⟩
  · obtain ⟨d, hd⟩ : ∃ d, d = 65 - n := ⟨_, rfl⟩
    obtain ⟨z, hz⟩ : ∃ z, z = x % d := ⟨_, rfl⟩
    have hzd : z < d := by rw [hz]; exact Nat.mod_lt _ (by omega)
    have HZ := hid (show n + z ≤ 64 by omega)
    have HXX := HX.out
    have hwc : IntKind.i64.wrap (x : Int) = (x : Int) := by rw [IntKind.wrap_i64]; omega
    have hw1 : IntKind.i64.wrap (65 - (n : Int)) = (d : Int) := by rw [IntKind.wrap_i64]; omega
    have hrem : (x : Int) % (d : Int) = (z : Int) := by rw [hz]; simp
    have hremt : (x : Int).tmod (d : Int) = (z : Int) := by rw [Int.tmod_eq_emod_of_nonneg (by omega)]; exact hrem
    have hwz : IntKind.i64.wrap (z : Int) = (z : Int) := by rw [IntKind.wrap_i64]; omega
    have hne : ((d : Int) == 0) = false := by simp; omega
    have hne2 : ¬ ((d : Int) = 0) := by omega
    have hne3 : ¬ (d = 0) := by omega
    obtain ⟨v5, w5, hrun5, hown5, hg5, _⟩ := append_bytes w4 w4.heap.size (.slice none 0 0) [] key A0 n c (Ow.nil _ _) HA4.out HN.out HA0.out (by have := HNB.out; simp; omega) (Nat.le_refl _)
    rw [List.nil_append] at hown5
    obtain ⟨v6, w6, hrun6, hown6, hg6⟩ := append_zeros w5 w4.heap.size v5 key z hown5 (by have := HN.out; have := HZ.out; omega) hg5.size
    obtain ⟨A6, c6, rfl, hc6, _, hrd6, _⟩ := hown6.form
    have HRUN5 := hid hrun5
    have HRUN6 := hid hrun6
    have hl6 : (key ++ List.replicate z (0 : UInt8)).length = n + z := by simp [HN.out]
    rw [hl6] at hc6
    have HL6 := hid hl6
    have HC6 := hid hc6
    have HRD6 := hid hrd6
    have hb5 : Below w4.heap.size w4 w5 := below_grown (Below.refl _ _) (hg5.but (some w4.heap.size)) (Nat.le_refl _) (Nat.le_refl _)
    have hb6 : Below w4.heap.size w4 w6 := by
      rcases hv : v5.ownBlock with _ | k5
      · rw [hv] at hg6; exact below_grown hb5 (hg6.but (some w4.heap.size)) (Nat.le_refl _) hb5.size
      · rw [hv] at hg6; exact below_grown hb5 hg6 (World.ownsRow.lt hown5 k5 hv).1 hb5.size
    have HB6 := hid (HB4.out.trans (hb6.mono HB4.out.size))
    clear hd hz hzd HXX hrun5 hown5 hg5 hrun6 hown6 hg6 hl6 hc6 hrd6 hb5 hb6 HK4 HA4 HD4 HI4
    go_wp2_with (first | (at_builtin; refine step_append rfl (.const (.slice none 0 0)) (.tmp 42) rfl rfl _ _ rfl rfl v5 w5 HRUN5.out ?_) | (at_builtin; refine Lib.wpList_append_run _ rfl (.tmp 43) (.tmp 44) 22 3 rfl _ _ rfl rfl _ _ HRUN6.out ?_))
    clear hwc hw1 hrem hremt hwz hne hne2 hne3
    have HPAD := hid (hm_pad key b z (by rw [HN.out]; exact HZ.out))
    have hb7 := (Below.refl w6.heap.size w6).alloc (Nat.le_refl _) (.cells #[.slice A1 m c1] 22)
    have hh7 := heap_alloc_new w6 (.cells #[.slice A1 m c1] 22)
    have HB7 := hid (HB6.out.trans (hb7.mono HB6.out.size))
    have HRD7 := hid (HRD6.out.below hb7 (Nat.le_refl _))
    have HRW := hid (rws_one hh7 (HR1.out.below HB7.out (Nat.le_refl _)) HM.out HC1.out HCM.out HA1.out)
    clear hb7 hh7 HB6
    generalize w6.alloc (.cells #[.slice A1 m c1] 22) = w7 at *
    generalize w6.heap.size = g7' at *
    refine (macof_any A6 c6 (key ++ List.replicate z 0) (key.length + z) (some ⟨g7', 0, none⟩) 1 1 _ _ _ _ w7 (by simp) HRD7.out (by rw [HN.out]; exact HC6.out) (by have := HN.out; have := HZ.out; omega) HRW.out (HK.out.on HB7.out) (by decide) (fun r hr => HX1.out)).mono ?_
    rintro e w8 ⟨rfl, hb8⟩
    rw [HC1B.out, HPAD.out]
    have HB8 := hid (HB7.out.trans (hb8.mono HB7.out.size))
    clear hb8 HB7 HRD7 HRW
    go_wp2_with fail
    have hb9 := (Below.refl w8.heap.size w8).alloc (Nat.le_refl _) (.cells #[.slice A1 m c1] 22)
    have hh9 := heap_alloc_new w8 (.cells #[.slice A1 m c1] 22)
    have HB9 := hid (HB8.out.trans (hb9.mono HB8.out.size))
    have HRW := hid (rws_one hh9 (HR1.out.below HB9.out (Nat.le_refl _)) HM.out HC1.out HCM.out HA1.out)
    clear hb9 hh9 HB8
    generalize w8.alloc (.cells #[.slice A1 m c1] 22) = w9 at *
    generalize w8.heap.size = g9 at *
    refine (macof_any A0 c key n (some ⟨g9, 0, none⟩) 1 1 _ _ _ _ w9 HN.out (HR.out.below HB9.out (Nat.le_refl _)) HC.out HX3.out HRW.out (HK.out.on HB9.out) (by decide) (fun r hr => HX1.out)).mono ?_
    rintro e w10 ⟨rfl, hb10⟩
    rw [HC1B.out]
    have HB10 := hid (HB9.out.trans (hb10.mono HB9.out.size))
    have heq := fun W : World => eq_sum (hm key b) (hm key b) (hm_length _ _) (hm_length _ _) W
    simp only [decide_true] at heq
    clear hb10 HB9 HRW
    go_wp2_with fail
    refine (lives8_any w10 (HK.out.on HB10.out)).mono ?_
    rintro e w11 ⟨rfl, hb11⟩
    go_wp2
    go_ret
    exact ⟨rfl, HB10.out.trans (hb11.mono HB10.out.size)⟩
end Go.Proofs.YtaejcifpipegnaaDoor
