/-
  burrowlaw10.KeymatsOf, walked: it answers true. Condition: the library's table holds what its text lays.
-/
import Derived.Test.YtbloejlebikecaaGreatDoorKmo
namespace Go.Proofs.YtbloejlebikecaaGreatDoor
open Go.RowKit
set_option linter.unusedVariables false
set_option linter.unusedSimpArgs false

theorem bks_drewN {w wk : World} {gb m : Nat} {xs : List Value} {L : List (Nat × List UInt8)} (h : Bks w gb m xs L wk) (n : Nat) : Bks w gb m xs L (wk.drewN n) := by
  have hb : Below wk.heap.size wk (wk.drewN n) := ⟨rfl, rfl, rfl, Nat.le_refl _, fun _ _ => rfl⟩
  obtain ⟨V, hV⟩ := h.book
  exact ⟨h.bel.trans (hb.mono h.bel.size), h.row.below hb, ⟨V, (hb.block gb (lt_of_block hV.blk)).trans hV.blk, World.ownsRow.kept hV.own (grown_of hb none) (by cases hv : V.ownBlock with | none => exact .inl rfl | some k => exact .inr (by simp))⟩, h.at_⟩
theorem bks_mono {w w8 wk : World} {gb m : Nat} {xs : List Value} {L : List (Nat × List UInt8)} (h : Bks w8 gb m xs L wk) (hb : Below w.heap.size w w8) : Bks w gb m xs L wk := by
  obtain ⟨V, hV⟩ := h.book
  refine ⟨hb.trans (h.bel.mono hb.size), h.row, ⟨V, hV.blk, hV.own.1, ?_⟩, Nat.le_trans hb.size h.at_⟩
  rcases hV.own.2 with h1 | ⟨g, cap, cur, h1, h2, h3⟩
  · exact .inl h1
  · exact .inr ⟨g, cap, cur, h1, Nat.le_trans hb.size h2, h3⟩
set_option maxRecDepth 100000 in
set_option maxHeartbeats 8000000 in
theorem kmo_law (n0 n1 n2 n3 : Nat) (id : List UInt8) (z1 z2 : Int) (A : Option Addr) (c n : Nat) (b : List UInt8) (w : World) (h0 : n0 < 18446744073709551616) (h1 : n1 < 18446744073709551616) (h2 : n2 < 18446744073709551616) (h3 : n3 < 18446744073709551616) (hi : id.length = 32) (hn : b.length = n) (hr : Rd w A b) (hc : n ≤ c) (hK : Kt w) :
    Calls Tryz.prog 3 #[.agg (gvc n0 n1 n2 n3 id z1 z2 A n c)] w fun e w' => e = .returned (.bool true) ∧ Below w.heap.size w w' := by
  have H0 := hid h0
  have H1 := hid h1
  have H2 := hid h2
  have H3 := hid h3
  have HI := hid hi
  have HN := hid hn
  have HR := hid hr
  have HK := hid hK
  have hb := (Below.refl w.heap.size w).alloc (Nat.le_refl _) (.cells (gvc n0 n1 n2 n3 id z1 z2 A n c) 29)
  have hx := heap_alloc_new w (.cells (gvc n0 n1 n2 n3 id z1 z2 A n c) 29)
  have HB1 := hid hb
  have HX1 := hid hx
  obtain ⟨m0, m1, m2⟩ := gv_rest hi hx
  clear h0 h1 h2 h3 hi hn hr hc hK hb hx
  go_enter Tryz.func3, Tryz.ntmps3
  go_upto_region 1 with fail
  generalize w.alloc (.cells (gvc n0 n1 n2 n3 id z1 z2 A n c) 29) = w1 at *
  generalize hgv : gvc n0 n1 n2 n3 id z1 z2 A n c = gv at *
  have HGV := hid hgv
  clear hgv
  by_cases hbig : (20000 : Int) < (n : Int)
  · go_wp2_with fail
    refine (lives10_any w1 (HK.out.on HB1.out)).mono ?_
    rintro e w2 ⟨rfl, hb2⟩
    go_wp2
    go_ret
    exact ⟨rfl, HB1.out.trans (hb2.mono HB1.out.size)⟩
  have HSM := hid (p := n ≤ 20000) (by omega)
  go_upto_region 3 with fail
  clear hbig
  have HX1 := hid (p := w1.heap[w.heap.size]? = some (.cells (gvc n0 n1 n2 n3 id z1 z2 A n c) 29 (0, 0))) (by rw [HGV.out]; exact HX1.out)
  have hn1 := gv_num HX1.out
  have hs1 := gv_id HI.out HX1.out
  go_wp2_with (first | ((with_reducible refine isD 20 rfl ?_); refine wp_ld (by kernel_rfl) 24 (.tmp 19) rfl _ rfl _ hn1 ?_) | ((with_reducible refine isD 22 rfl ?_); refine wp_ld (by kernel_rfl) 26 (.tmp 21) rfl _ rfl _ hs1 ?_))
  refine (ofx n0 n1 n2 n3 id z1 w1 H0.out H1.out H2.out H3.out HI.out (HK.out.on HB1.out)).mono ?_
  rintro e w2 ⟨go, l, rfl, HQ⟩
  have HB2 := hid (HB1.out.trans (HQ.out.2.2.2.2.mono HB1.out.size))
  have HX2 := hid ((HQ.out.2.2.2.2.block w.heap.size (lt_of_block HX1.out)).trans HX1.out)
  have HL1 := hid (HQ.out.1)
  have HL2 := hid (HQ.out.2.1)
  have HL3 := hid (HQ.out.2.2.1)
  have HRA := hid (p := ∀ ga, go = some ga → Row w2 ga (ofB (hm (kky n0 n1 n2 n3 id)) z1) ∧ w.heap.size ≤ ga) (fun ga h => ⟨(HQ.out.2.2.2.1 ga h).1, Nat.le_trans HB1.out.size (HQ.out.2.2.2.1 ga h).2⟩)
  clear HQ hn1 hs1 m0 m1 m2 HB1 HX1
  have hn1 := gv_num HX2.out
  have hs1 := gv_id HI.out HX2.out
  obtain ⟨m0, m1, m2⟩ := gv_rest HI.out HX2.out
  generalize hez : ofE z1 = ez at *
  have HEZ := hid hez
  clear hez
  go_wp2_with (first | ((with_reducible refine isD 30 rfl ?_); refine wp_ld (by kernel_rfl) 24 (.tmp 29) rfl _ rfl _ hn1 ?_) | ((with_reducible refine isD 32 rfl ?_); refine wp_ld (by kernel_rfl) 26 (.tmp 31) rfl _ rfl _ hs1 ?_))
  refine (rofx n0 n1 n2 n3 id z1 w2 H0.out H1.out H2.out H3.out HI.out).mono ?_
  rintro e w3 ⟨A3, l3, c3, rfl, HQ⟩
  rw [HEZ.out]
  have HB3 := hid (HB2.out.trans (HQ.out.2.2.mono HB2.out.size))
  have HX3 := hid ((HQ.out.2.2.block w.heap.size (lt_of_block HX2.out)).trans HX2.out)
  have HRA3 := hid (p := ∀ ga, go = some ga → Row w3 ga (ofB (hm (kky n0 n1 n2 n3 id)) z1) ∧ w.heap.size ≤ ga) (fun ga h => ⟨(HRA.out ga h).1.below HQ.out.2.2 (HRA.out ga h).1.lt, (HRA.out ga h).2⟩)
  have HM1 := hid HQ.out.1
  have HM2 := hid HQ.out.2.1
  clear HQ hn1 hs1 m0 m1 m2 HB2 HX2 HRA
  generalize ofB (hm (kky n0 n1 n2 n3 id)) z1 = bs at *
  obtain ⟨m0, m1, m2⟩ := gv_rest HI.out HX3.out
  go_wp2_with fail
  refine (twin_x A c n b w3 HN.out (HR.out.below HB3.out (Nat.le_refl _)) (by have := HSM.out; omega)).mono ?_
  rintro e w4 ⟨rfl, hrow, hb4⟩
  have HB4 := hid (HB3.out.trans (hb4.mono HB3.out.size))
  have HX4 := hid ((hb4.block w.heap.size (lt_of_block HX3.out)).trans HX3.out)
  have HRA4 := hid (p := ∀ ga, go = some ga → Row w4 ga bs ∧ w.heap.size ≤ ga ∧ ga < w3.heap.size) (fun ga h => ⟨(HRA3.out ga h).1.below hb4 (HRA3.out ga h).1.lt, (HRA3.out ga h).2, (HRA3.out ga h).1.lt⟩)
  have HD4 := hid (HM2.out.below hb4 (Nat.le_refl _))
  have HT4 := hid hrow
  have HG4 := hid (p := w.heap.size ≤ w3.heap.size) HB3.out.size
  clear hrow hb4 m0 m1 m2 HB3 HX3 HRA3 HM2
  generalize w3.heap.size = gt at *
  obtain ⟨m0, m1, m2⟩ := gv_rest HI.out HX4.out
  go_wp2_with fail
  refine (cutx (some ⟨gt, 0, none⟩) (n + 1) n b z2 w4 HN.out (by have := row_head' HT4.out; exact this) (Nat.le_succ _) (by have := HSM.out; omega)).mono ?_
  rintro e w5 ⟨rfl, hb5⟩
  have HKL := hid (cuB_length b n z2 HN.out)
  generalize hks : cuB b n z2 = ks at *
  generalize hke : cuE n z2 = ke at *
  have HKS := hid hks
  have HKE := hid hke
  clear hks hke
  have HI1 := hi48 ks HKL.out
  have HO1 := ho48 ks HKL.out
  have hb6 := (Below.refl w5.heap.size w5).alloc (Nat.le_refl _) (.cells (bvs ks).toArray 37)
  have hx6 := heap_alloc_new w5 (.cells (bvs ks).toArray 37)
  have hbb := hb5.trans (hb6.mono hb5.size)
  have HB6 := hid (HB4.out.trans (hbb.mono HB4.out.size))
  have HX6 := hid ((hbb.block w.heap.size (lt_of_block HX4.out)).trans HX4.out)
  have HRA6 := hid (p := ∀ ga, go = some ga → Row _ ga bs ∧ w.heap.size ≤ ga ∧ ga < gt) (fun ga h => ⟨(HRA4.out ga h).1.below hbb (HRA4.out ga h).1.lt, (HRA4.out ga h).2⟩)
  have HD6 := hid (HD4.out.below hbb (Nat.le_refl _))
  have HT6 := hid (HT4.out.below hbb HT4.out.lt)
  have HK6 := hid hx6
  clear hb5 hb6 hx6 hbb m0 m1 m2 HB4 HX4 HRA4 HD4 HT4
  go_upto_region 7 with (refine wpList_store_row rfl 37 (.tmp 8) (.tmp 46) rfl w5.heap.size (bvs ks).toArray rfl rfl 37 _ (heap_alloc_new _ _) HI1.out HO1.out (bvs_all _) ?_; rw [World.setRow_alloc_new])
  generalize w5.alloc (.cells (bvs ks).toArray 37) = w6 at *
  generalize w5.heap.size = g8 at *
  obtain ⟨m0, m1, m2⟩ := gv_rest HI.out HX6.out
  go_wp2_with fail
  refine (rcutx A c n b z2 w6 HN.out (HR.out.below HB6.out (Nat.le_refl _)) (by have := HSM.out; omega)).mono ?_
  rintro e w7 ⟨rfl, hb7⟩
  rw [HKS.out, HKE.out]
  have hb8 := (Below.refl w7.heap.size w7).alloc (Nat.le_refl _) (.cells (bvs ks).toArray 37)
  have hx8 := heap_alloc_new w7 (.cells (bvs ks).toArray 37)
  have hbb := hb7.trans (hb8.mono hb7.size)
  have HB8 := hid (HB6.out.trans (hbb.mono HB6.out.size))
  have HX8 := hid ((hbb.block w.heap.size (lt_of_block HX6.out)).trans HX6.out)
  have HRA8 := hid (p := ∀ ga, go = some ga → Row _ ga bs ∧ w.heap.size ≤ ga ∧ ga < gt) (fun ga h => ⟨(HRA6.out ga h).1.below hbb (HRA6.out ga h).1.lt, (HRA6.out ga h).2⟩)
  have HD8 := hid (HD6.out.below hbb (Nat.le_refl _))
  have HT8 := hid (HT6.out.below hbb HT6.out.lt)
  have HK8 := hid ((hbb.block g8 (lt_of_block HK6.out)).trans HK6.out)
  have HJ8 := hid hx8
  clear hb7 hb8 hx8 hbb m0 m1 m2 HB6 HX6 HRA6 HD6 HT6 HK6 HKS HKE
  go_upto_region 8 with (refine wpList_store_row rfl 37 (.tmp 10) (.tmp 54) rfl w7.heap.size (bvs ks).toArray rfl rfl 37 _ (heap_alloc_new _ _) HI1.out HO1.out (bvs_all _) ?_; rw [World.setRow_alloc_new])
  generalize w7.alloc (.cells (bvs ks).toArray 37) = w8 at *
  generalize w7.heap.size = g10 at *
  have K0 := hid (p := Bks w8 w8.heap.size 0 [] (go.toList.map (fun ga => (ga, bs)) ++ [(gt, b ++ [77])]) (w8.alloc (.cells (bookCells 0 nl) 56))) (Bks.new w8 _ w8 (Below.refl _ _) (by
      intro p hp
      rcases go with _ | ga
      · simp at hp; subst hp; exact HT8.out
      · simp at hp; rcases hp with rfl | rfl
        · exact (HRA8.out ga rfl).1
        · exact HT8.out))
  have FX := hid (p := On w8 fun u => u.heap[w.heap.size]? = some (.cells (gvc n0 n1 n2 n3 id z1 z2 A n c) 29 (0, 0))) (fun u hu => (hu.block _ (lt_of_block HX8.out)).trans HX8.out)
  have FK := hid (p := On w8 fun u => u.heap[g8]? = some (.cells (bvs ks).toArray 37 (0, 0))) (fun u hu => (hu.block _ (lt_of_block HK8.out)).trans HK8.out)
  have FJ := hid (p := On w8 fun u => u.heap[g10]? = some (.cells (bvs ks).toArray 37 (0, 0))) (fun u hu => (hu.block _ (lt_of_block HJ8.out)).trans HJ8.out)
  have FD := hid (on_rd HD8.out)
  have FT := hid (p := On w8 fun u => Row u gt (b ++ [77])) (fun u hu => HT8.out.below hu HT8.out.lt)
  have FA := hid (p := On w8 fun u => Rd u (go.map fun g => ⟨g, 0, none⟩) bs) (fun u hu => by
    rcases go with _ | ga
    · have := HL3.out rfl; intro hp; have := HL1.out; omega
    · exact ((HRA8.out ga rfl).1.below hu (HRA8.out ga rfl).1.lt).rd0)
  have HG8 := hid (p := gt < w8.heap.size) HT8.out.lt
  have HRG := hid (p := ∀ ga, go = some ga → w.heap.size ≤ ga ∧ ga < gt) (fun ga h => (HRA8.out ga h).2)
  clear HX8 HRA8 HD8 HT8 HK8 HJ8
  go_upto_region 9 with fail
  go_wp2_with fail
  change Calls _ _ _ (w8.alloc (.cells (bookCells 0 nl) 56)) _
  generalize w8.alloc (.cells (bookCells 0 nl) 56) = u0 at *
  generalize hgb : w8.heap.size = gb at *
  have HGB := hid hgb
  clear hgb
  refine (bytes_any (go.map fun g => ⟨g, 0, none⟩) l l gb 0 _ _ w8 u0 K0.out (by omega)).mono ?_
  rintro e u1 ⟨rfl, hB⟩
  have K1 := hid hB
  clear hB K0
  go_wp2_with fail
  refine (bytes_any (some ⟨gt, 0, none⟩) n (n + 1) gb 1 _ _ w8 u1 K1.out (by omega)).mono ?_
  rintro e u2 ⟨rfl, hB⟩
  have K2 := hid hB
  clear hB K1
  go_wp2_with fail
  refine (same_x (go.map fun g => ⟨g, 0, none⟩) A3 l c3 l l3 bs u2 HL1.out HM1.out (FA.out _ K2.out.bel) (FD.out _ K2.out.bel) (by have := HL2.out; omega)).mono ?_
  rintro e u3 ⟨rfl, p3, rfl⟩
  have K3 := hid (bks_drewN K2.out p3)
  clear K2
  generalize u2.drewN p3 = u3 at *
  have hx1 := ld_keys (FK.out _ K3.out.bel) HKL.out
  have hx2 := ld_keys (FJ.out _ K3.out.bel) HKL.out
  have heq := fun W : World => eq_keys ks ks HKL.out HKL.out W
  simp only [decide_true] at heq
  obtain ⟨m0, m1, m2⟩ := gv_rest HI.out (FX.out _ K3.out.bel)
  go_wp2_with (first | ((with_reducible refine isD 74 rfl ?_); refine wp_ld (by kernel_rfl) 37 (.tmp 8) rfl _ rfl _ hx1 ?_) | ((with_reducible refine isD 75 rfl ?_); refine wp_ld (by kernel_rfl) 37 (.tmp 10) rfl _ rfl _ hx2 ?_))
  clear hx1 hx2 heq m0 m1 m2
  refine (left_x A gt c n b u3 HN.out (FT.out _ K3.out.bel) (HR.out.below (HB8.out.trans (K3.out.bel.mono HB8.out.size)) (Nat.le_refl _)) (by have := HSM.out; omega)).mono ?_
  rintro e u4 ⟨rfl, p4, rfl⟩
  have K4 := hid (bks_drewN K3.out p4)
  clear K3
  generalize u3.drewN p4 = u4 at *
  go_wp2_with fail
  have BW := hid (bks_mono K4.out HB8.out)
  have HQ1 := HSM.out
  have HQ2 := HN.out
  have HQ3 := HL1.out
  have HQ4 := HL2.out
  have HQ5 := HG4.out
  have HAP : Hid (Calls Tryz.prog 13 #[.pointer (some ⟨gb, 0, none⟩)] u4 fun e w' => e = .returned (.bool true) ∧ Below w.heap.size w w') := by
    rcases go with _ | ga
    · have hl0 : l = 0 := HL3.out rfl
      subst hl0
      refine hid (apart_end w u4 gb [⟨none, 0, 0⟩, ⟨some gt, n, n + 1⟩] [(gt, b ++ [77])] (by simp) (by simp) BW.out ?_ ?_)
      · intro i g n' c' hi
        match i, hi with
        | 0, hi => simp at hi
        | 1, hi => simp at hi; obtain ⟨rfl, rfl, rfl⟩ := hi; exact ⟨b ++ [77], by simp, by simp [HQ2], by omega, by omega, by omega⟩
        | i + 2, hi => simp at hi
      · intro i j g n1 c1 n2 c2 hi hj
        have key : ∀ (i g n' c' : Nat), ([⟨none, 0, 0⟩, ⟨some gt, n, n + 1⟩] : List It)[i]? = some (It.mk (some g) n' c') → i = 1 := by
          intro i g n' c' hi
          match i, hi with
          | 0, hi => simp at hi
          | 1, hi => rfl
          | i + 2, hi => simp at hi
        exact (key i g n1 c1 hi).trans (key j g n2 c2 hj).symm
    · have HQ6 := (HRG.out ga rfl).1
      have HQ7 := (HRG.out ga rfl).2
      refine hid (apart_end w u4 gb [⟨some ga, l, l⟩, ⟨some gt, n, n + 1⟩] [(ga, bs), (gt, b ++ [77])] (by simp) (by simp) BW.out ?_ ?_)
      · intro i g n' c' hi
        match i, hi with
        | 0, hi => simp at hi; obtain ⟨rfl, rfl, rfl⟩ := hi; exact ⟨bs, by simp, HQ3, by omega, by omega, by omega⟩
        | 1, hi => simp at hi; obtain ⟨rfl, rfl, rfl⟩ := hi; exact ⟨b ++ [77], by simp, by simp [HQ2], by omega, by omega, by omega⟩
        | i + 2, hi => simp at hi
      · intro i j g n1 c1 n2 c2 hi hj
        have key : ∀ (i g n' c' : Nat), ([⟨some ga, l, l⟩, ⟨some gt, n, n + 1⟩] : List It)[i]? = some (It.mk (some g) n' c') → (i = 0 ∧ g = ga) ∨ (i = 1 ∧ g = gt) := by
          intro i g n' c' hi
          match i, hi with
          | 0, hi => simp at hi; simp [hi.1]
          | 1, hi => simp at hi; simp [hi.1]
          | i + 2, hi => simp at hi
        have h1 := key i g n1 c1 hi
        have h2 := key j g n2 c2 hj
        clear key hi hj
        omega
  clear HQ1 HQ2 HQ3 HQ4 HQ5 BW K4
  refine HAP.out.mono ?_
  rintro e u5 ⟨rfl, hb5⟩
  have H5 := hid hb5
  clear hb5 HAP
  go_wp2_with fail
  refine (lives10_any u5 (HK.out.on H5.out)).mono ?_
  rintro e u6 ⟨rfl, hb6⟩
  have H6 := hid (H5.out.trans (hb6.mono H5.out.size))
  clear hb6 H5
  go_wp2
  go_ret
  exact ⟨rfl, H6.out⟩
end Go.Proofs.YtbloejlebikecaaGreatDoor
