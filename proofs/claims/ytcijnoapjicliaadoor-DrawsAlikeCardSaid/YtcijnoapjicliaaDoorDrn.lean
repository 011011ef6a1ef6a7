/-
  burrowlaw11.DrawsAlike, walked: it answers true. Condition: the library's table holds what its text lays.
-/
import Derived.Test.YtcijnoapjicliaaDoorPkQ
namespace Go.Proofs.YtcijnoapjicliaaDoor
open Go.RowKit
set_option linter.unusedVariables false
set_option linter.unusedSimpArgs false

set_option maxRecDepth 100000 in
set_option maxHeartbeats 4000000 in
theorem alike11_law (bs cs : List UInt8) (A : Option Addr) (nn cc : Nat) (ts : List UInt8) (w : World) (hb : bs.length = 32) (hcs : cs.length = 32) (hr : Rd w A ts) (ht : ts.length = nn) (hk : Kt w) : Calls Tryd.prog 5 #[.agg (bvs bs).toArray, .agg (bvs cs).toArray, .slice A nn cc] w fun e w' => e = .returned (.bool true) ∧ Below w.heap.size w w' := by
  have HK := hid hk
  have HB := hid (Below.refl w.heap.size w)
  have HL := hid hb
  have HLC := hid hcs
  have HR := hid hr
  have HTL := hid ht
  clear hk hb hcs hr ht
  by_cases hlong : nn > 100
  · have hli : (nn : Int) > 100 := by omega
    go_enter Tryd.func5, Tryd.ntmps5
    go_upto_region 1 with fail
    have hb := (Below.refl w.heap.size w).alloc (Nat.le_refl _) (.cells (bvs bs).toArray 23)
    have hn := heap_alloc_new w (.cells (bvs bs).toArray 23)
    have HB := hid (HB.out.trans (hb.mono HB.out.size))
    have HK := hid (HK.out.on hb)
    have HXs := hid hn
    clear hb hn
    have hsz := sz1 w (.cells (bvs bs).toArray 23)
    generalize w.alloc (.cells (bvs bs).toArray 23) = w1 at *
    generalize hgs : w.heap.size = g_s at HXs hsz ⊢
    rw [← hsz]
    clear hsz
    have hb := (Below.refl w1.heap.size w1).alloc (Nat.le_refl _) (.cells (bvs cs).toArray 23)
    have hn := heap_alloc_new w1 (.cells (bvs cs).toArray 23)
    have HB := hid (HB.out.trans (hb.mono HB.out.size))
    have HK := hid (HK.out.on hb)
    have HXs := hid (onbk HXs.out _ hb)
    have HXo := hid hn
    clear hb hn
    generalize w1.alloc (.cells (bvs cs).toArray 23) = w2 at *
    generalize w1.heap.size = g_o at *
    go_wp2_with fail
    refine (lives11_any _ HK.out).mono ?_
    rintro e w3 ⟨rfl, hb⟩
    have HB := hid (HB.out.trans (hb.mono HB.out.size))
    have HK := hid (HK.out.on hb)
    have HXs := hid (onbk HXs.out _ hb)
    have HXo := hid (onbk HXo.out _ hb)
    clear hb
    go_wp2
    go_ret
    exact ⟨rfl, HB.out⟩
  · have hli : ¬ (nn : Int) > 100 := by omega
    have HNL := hid (show nn ≤ 100 by omega)
    clear hlong
    go_enter Tryd.func5, Tryd.ntmps5
    go_upto_region 1 with fail
    have hb := (Below.refl w.heap.size w).alloc (Nat.le_refl _) (.cells (bvs bs).toArray 23)
    have hn := heap_alloc_new w (.cells (bvs bs).toArray 23)
    have HB := hid (HB.out.trans (hb.mono HB.out.size))
    have HK := hid (HK.out.on hb)
    have HXs := hid hn
    clear hb hn
    have hsz := sz1 w (.cells (bvs bs).toArray 23)
    generalize w.alloc (.cells (bvs bs).toArray 23) = w4 at *
    generalize hgs : w.heap.size = g_s at HXs hsz ⊢
    rw [← hsz]
    clear hsz
    have hb := (Below.refl w4.heap.size w4).alloc (Nat.le_refl _) (.cells (bvs cs).toArray 23)
    have hn := heap_alloc_new w4 (.cells (bvs cs).toArray 23)
    have HB := hid (HB.out.trans (hb.mono HB.out.size))
    have HK := hid (HK.out.on hb)
    have HXs := hid (onbk HXs.out _ hb)
    have HXo := hid hn
    clear hb hn
    generalize w4.alloc (.cells (bvs cs).toArray 23) = w5 at *
    generalize w4.heap.size = g_o at *
    have l1 := (ldS bs HL.out 0 HXs.out (fun j v h => by rw [Nat.zero_add]; simpa using h)).here
    go_wp2_with (first | (refine wp_ld rfl _ _ rfl _ rfl _ (by first | exact l1) ?_))
    clear l1
    refine (new_st bs _ HL.out).mono ?_
    rintro e w6 ⟨g_a, rfl, hq⟩
    have hb := hq.out.2.2
    have HGa := hid (Nat.le_trans HB.out.size hq.out.1)
    have N2a := hid (show 2 ≠ g_a by have := HK.out.lt; have := hq.out.1; omega)
    have NXsa := hid (show g_s ≠ g_a by have := lt_of_block HXs.out; have := hq.out.1; omega)
    have NXoa := hid (show g_o ≠ g_a by have := lt_of_block HXo.out; have := hq.out.1; omega)
    have HB := hid (HB.out.trans (hb.mono HB.out.size))
    have HK := hid (HK.out.on hb)
    have HXs := hid (onbk HXs.out _ hb)
    have HXo := hid (onbk HXo.out _ hb)
    have HSa := hid hq.out.2.1
    clear hb hq
    have l2 := (ldS bs HL.out 0 HXs.out (fun j v h => by rw [Nat.zero_add]; simpa using h)).here
    go_wp2_with (first | (refine wp_ld rfl _ _ rfl _ rfl _ (by first | exact l2) ?_))
    clear l2
    refine (new_st bs _ HL.out).mono ?_
    rintro e w7 ⟨g_b, rfl, hq⟩
    have hb := hq.out.2.2
    have HGb := hid (Nat.le_trans HB.out.size hq.out.1)
    have N2b := hid (show 2 ≠ g_b by have := HK.out.lt; have := hq.out.1; omega)
    have NEab := hid (show g_a ≠ g_b by have := Sc.lt HSa.out; have := hq.out.1; omega)
    have NXsb := hid (show g_s ≠ g_b by have := lt_of_block HXs.out; have := hq.out.1; omega)
    have NXob := hid (show g_o ≠ g_b by have := lt_of_block HXo.out; have := hq.out.1; omega)
    have HB := hid (HB.out.trans (hb.mono HB.out.size))
    have HK := hid (HK.out.on hb)
    have HSa := hid (Sc.on HSa.out hb)
    have HXs := hid (onbk HXs.out _ hb)
    have HXo := hid (onbk HXo.out _ hb)
    have HSb := hid hq.out.2.1
    clear hb hq
    have l3 := (ldS cs HLC.out 0 HXo.out (fun j v h => by rw [Nat.zero_add]; simpa using h)).here
    go_wp2_with (first | (refine wp_ld rfl _ _ rfl _ rfl _ (by first | exact l3) ?_))
    clear l3
    refine (new_st cs _ HLC.out).mono ?_
    rintro e w8 ⟨g_c, rfl, hq⟩
    have hb := hq.out.2.2
    have HGc := hid (Nat.le_trans HB.out.size hq.out.1)
    have N2c := hid (show 2 ≠ g_c by have := HK.out.lt; have := hq.out.1; omega)
    have NEac := hid (show g_a ≠ g_c by have := Sc.lt HSa.out; have := hq.out.1; omega)
    have NEbc := hid (show g_b ≠ g_c by have := Sc.lt HSb.out; have := hq.out.1; omega)
    have NXsc := hid (show g_s ≠ g_c by have := lt_of_block HXs.out; have := hq.out.1; omega)
    have NXoc := hid (show g_o ≠ g_c by have := lt_of_block HXo.out; have := hq.out.1; omega)
    have HB := hid (HB.out.trans (hb.mono HB.out.size))
    have HK := hid (HK.out.on hb)
    have HSa := hid (Sc.on HSa.out hb)
    have HSb := hid (Sc.on HSb.out hb)
    have HXs := hid (onbk HXs.out _ hb)
    have HXo := hid (onbk HXo.out _ hb)
    have HSc := hid hq.out.2.1
    clear hb hq
    go_upto_region 7 with fail
    clear hli
    go_loopw [10] (fun i wr => ∃ k n : Nat, k ≤ nn ∧ n ≤ 3 * k ∧ i = .int .i64 k ∧ Hid ((Below w.heap.size w wr) ∧ (Kt wr) ∧ (St wr g_a bs k) ∧ (St wr g_b bs k) ∧ (St wr g_c cs n) ∧ (wr.heap[g_s]? = some (.cells (bvs bs).toArray 23 (0, 0))) ∧ (wr.heap[g_o]? = some (.cells (bvs cs).toArray 23 (0, 0))))) (fun i _ => nn - (intOf i).toNat)
    case atStart => exact ⟨0, 0, Nat.zero_le _, Nat.le_refl _, rfl, hid ⟨HB.out, HK.out, HSa.out, HSb.out, HSc.out, HXs.out, HXo.out⟩⟩
    case round =>
      clear HB HK HSa HSb HSc HXs HXo
      obtain ⟨k, n, hkm, hnk, rfl, HI⟩ := hrel
      have HB := hid HI.out.1
      have HK := hid HI.out.2.1
      have HSa := hid HI.out.2.2.1
      have HSb := hid HI.out.2.2.2.1
      have HSc := hid HI.out.2.2.2.2.1
      have HXs := hid HI.out.2.2.2.2.2.1
      have HXo := hid HI.out.2.2.2.2.2.2
      clear HI
      by_cases hlt : k < nn
      · have hki : (k : Int) < (nn : Int) := by omega
        have HLTK := hid hlt
        have HREL := hid hnk
        obtain ⟨gt, ot, hA, hgt, hcell⟩ := HR.out (by rw [HTL.out]; omega)
        subst hA
        obtain ⟨t, htt⟩ : ∃ t : Nat, ((ts[k]'(by rw [HTL.out]; exact hlt)).toNat) = t := ⟨_, rfl⟩
        have HTC := hid (show ∀ u, Below w.heap.size w u → u.cell? ⟨gt, ot + k, none⟩ = some (.int .u8 (t : Int)) from fun u hu => by rw [World.cell?_of_block (a := ⟨gt, ot + k, none⟩) (hu.block gt hgt), ← htt]; exact hcell k _)
        have HT2 := hid (show t < 256 by rw [← htt]; exact UInt8.toNat_lt _)
        obtain ⟨r, hr4⟩ : ∃ r, t % 4 = r := ⟨_, rfl⟩
        have HR4 := hid hr4
        have HRX := hid (show r < 4 by omega)
        clear hcell hgt htt hr4 hnk
        obtain ⟨kk, hkk⟩ : ∃ kk, dsum bs k = kk := ⟨_, rfl⟩
        have KE := hid hkk
        have KLkk : Hid (kk.length = 32) := hid (by rw [← hkk]; exact dsum_length _ _)
        clear hkk
        have HKB := hid (show k + 1 < 18446744073709551616 by have := HNL.out; omega)
        go_wp2_with fail
        refine (next_st g_a k bs _ HSa.out HL.out HKB.out HK.out N2a.out).mono ?_
        rintro e w9 ⟨rfl, hq⟩
        have hg := hq.out.1
        have HB := hid (below_gr HB.out hg HGa.out)
        have HK := hid (HK.out.grown hg N2a.out)
        have HSb := hid (Sc.grown HSb.out hg NEab.out.symm)
        have HSc := hid (Sc.grown HSc.out hg NEac.out.symm)
        have HXs := hid (bk_grown HXs.out hg NXsa.out)
        have HXo := hid (bk_grown HXo.out hg NXoa.out)
        have HSa := hid hq.out.2
        clear hg hq
        rw [KE.out]
        go_upto_region 10 with (refine wpList_store_row rfl 23 (.tmp 11) (.tmp 30) rfl w9.heap.size (bvs kk).toArray rfl rfl 23 _ (heap_alloc_new _ _) (hi44 kk KLkk.out).out (ho32 kk KLkk.out).out (bvs_all _) ?_; rw [World.setRow_alloc_new])
        have hb := (Below.refl w9.heap.size w9).alloc (Nat.le_refl _) (.cells (bvs kk).toArray 23)
        have hn := heap_alloc_new w9 (.cells (bvs kk).toArray 23)
        have NXxa := hid (show w9.heap.size ≠ g_a by have := Sc.lt HSa.out; omega)
        have NXxb := hid (show w9.heap.size ≠ g_b by have := Sc.lt HSb.out; omega)
        have NXxc := hid (show w9.heap.size ≠ g_c by have := Sc.lt HSc.out; omega)
        have HB := hid (HB.out.trans (hb.mono HB.out.size))
        have HK := hid (HK.out.on hb)
        have HSa := hid (Sc.on HSa.out hb)
        have HSb := hid (Sc.on HSb.out hb)
        have HSc := hid (Sc.on HSc.out hb)
        have HXs := hid (onbk HXs.out _ hb)
        have HXo := hid (onbk HXo.out _ hb)
        have HXx := hid hn
        clear hb hn
        generalize w9.alloc (.cells (bvs kk).toArray 23) = w10 at *
        generalize w9.heap.size = g_x at *
        go_upto_region 11 with fail
        go_loopw [12] (fun i wr => ∃ j : Nat, j ≤ r ∧ i = .int .i64 j ∧ Hid ((Below w.heap.size w wr) ∧ (Kt wr) ∧ (St wr g_a bs (k + 1)) ∧ (St wr g_b bs k) ∧ (St wr g_c cs (n + j)) ∧ (wr.heap[g_s]? = some (.cells (bvs bs).toArray 23 (0, 0))) ∧ (wr.heap[g_o]? = some (.cells (bvs cs).toArray 23 (0, 0))) ∧ (wr.heap[g_x]? = some (.cells (bvs kk).toArray 23 (0, 0))))) (fun i _ => r - (intOf i).toNat)
        case atStart => exact ⟨0, Nat.zero_le _, rfl, hid ⟨HB.out, HK.out, HSa.out, HSb.out, HSc.out, HXs.out, HXo.out, HXx.out⟩⟩
        case round =>
          clear HB HK HSa HSb HSc HXs HXo HXx
          obtain ⟨j, hjr, rfl, HI⟩ := hrel
          have HB := hid HI.out.1
          have HK := hid HI.out.2.1
          have HSa := hid HI.out.2.2.1
          have HSb := hid HI.out.2.2.2.1
          have HSc := hid HI.out.2.2.2.2.1
          have HXs := hid HI.out.2.2.2.2.2.1
          have HXo := hid HI.out.2.2.2.2.2.2.1
          have HXx := hid HI.out.2.2.2.2.2.2.2
          clear HI
          have hcell := HTC.out _ HB.out
          have hb2 : (0 : Int) ≤ (k : Int) ∧ (k : Int) < (nn : Int) := ⟨by omega, by have := HLTK.out; omega⟩
          have hx1 : IntKind.i64.wrap (t : Int) = (t : Int) := by have := HT2.out; rw [IntKind.wrap_i64]; omega
          have hx2 : (t : Int).tmod 4 = (r : Int) := by have := HR4.out; rw [Int.tmod_eq_emod_of_nonneg (by omega)]; omega
          have hx3 : (t : Int) % 4 = (r : Int) := by have := HR4.out; omega
          by_cases hjl : j < r
          · have hji : (j : Int) < (r : Int) := by omega
            have HJL := hid hjl
            have hw1 : IntKind.i64.wrap ((j : Int) + 1) = (j : Int) + 1 := by have := HRX.out; rw [IntKind.wrap_i64]; omega
            go_wp2_with fail
            refine (next_st g_c (n + j) cs _ HSc.out HLC.out (by have := HREL.out; have := HLTK.out; have := HNL.out; have := HRX.out; have := HJL.out; omega) HK.out N2c.out).mono ?_
            rintro e w11 ⟨rfl, hq⟩
            have hg := hq.out.1
            have HB := hid (below_gr HB.out hg HGc.out)
            have HK := hid (HK.out.grown hg N2c.out)
            have HSa := hid (Sc.grown HSa.out hg NEac.out)
            have HSb := hid (Sc.grown HSb.out hg NEbc.out)
            have HXs := hid (bk_grown HXs.out hg NXsc.out)
            have HXo := hid (bk_grown HXo.out hg NXoc.out)
            have HXx := hid (bk_grown HXx.out hg NXxc.out)
            have HSc := hid hq.out.2
            clear hg hq
            go_wp2
            go_roundw
            case rel => exact ⟨j + 1, HJL.out, by go_num, hid ⟨HB.out, HK.out, HSa.out, HSb.out, HSc.out, HXs.out, HXo.out, HXx.out⟩⟩
            case measure => simp [intOf]; omega
          · have hji : ¬ (j : Int) < (r : Int) := by omega
            have HJE := hid (show j = r by omega)
            clear hjl hjr
            go_upto_region 14 with fail
            clear hcell hb2 hx1 hx2 hx3 hji
            go_cut [61] (fun s1 wx => s1 = .bool false ∧ Hid ((Below w.heap.size w wx) ∧ (Kt wx) ∧ (St wx g_a bs (k + 1)) ∧ (St wx g_b bs (k + 1)) ∧ (St wx g_c cs (n + j)) ∧ (wx.heap[g_s]? = some (.cells (bvs bs).toArray 23 (0, 0))) ∧ (wx.heap[g_o]? = some (.cells (bvs cs).toArray 23 (0, 0))) ∧ (wx.heap[g_x]? = some (.cells (bvs kk).toArray 23 (0, 0)))))
            case first =>
              refine wp_region_noPanic ?_
              refine Goes.region (fun (_ : Array Bool) (u : World) => u.heap[g_x]? = some (.cells (bvs kk).toArray 23 (0, 0))) (by as_aux_lemma => kernel_rfl) ?_
              have hb := (Below.refl wr.heap.size wr).drew
              have HB := hid (HB.out.trans (hb.mono HB.out.size))
              have HK := hid (HK.out.on hb)
              have HSa := hid (Sc.on HSa.out hb)
              have HSb := hid (Sc.on HSb.out hb)
              have HSc := hid (Sc.on HSc.out hb)
              have HXs := hid (onbk HXs.out _ hb)
              have HXo := hid (onbk HXo.out _ hb)
              have HXx := hid (onbk HXx.out _ hb)
              clear hb
              generalize wr.drew = wrd at *
              refine Goes.tk (i := 0) (o := ⟨some 43, _, _, _, _, _⟩) (v := ?_) [] (y := Or.inl ⟨by rfl, ?_⟩) (s := HXx.out) (H := ?_)
              rotate_left
              · intro u hY; go_simp; try with_reducible rfl
              try simp only [putz]
              refine Goes.tk (i := 2) (o := ⟨some 45, _, _, _, _, _⟩) [] (y := Or.inl ⟨by rfl, fun u hY => y_ld _ _ rfl (.pointer (some ⟨g_x, 0, none⟩)) _ rfl ((ldS kk KLkk.out 0 (yet_of hY) (fun j v h => by rw [Nat.zero_add]; simpa using h)).here)⟩) (s := HXx.out) (H := ?_)
              try simp only [putz]
              refine Goes.one (i := 1) (o := ⟨some 44, _, _, _, _, _⟩) (by as_aux_lemma => kernel_rfl) rfl (fun K hK => ?_)
              go_simp
              refine (next_st g_b k bs _ HSb.out HL.out HKB.out HK.out N2b.out).mono ?_
              rintro e w12 ⟨rfl, hq⟩
              have hg := hq.out.1
              have HB := hid (below_gr HB.out hg HGb.out)
              have HK := hid (HK.out.grown hg N2b.out)
              have HSa := hid (Sc.grown HSa.out hg NEab.out)
              have HSc := hid (Sc.grown HSc.out hg NEbc.out.symm)
              have HXs := hid (bk_grown HXs.out hg NXsb.out)
              have HXo := hid (bk_grown HXo.out hg NXob.out)
              have HXx := hid (bk_grown HXx.out hg NXxb.out)
              have HSb := hid hq.out.2
              clear hg hq
              rw [KE.out]
              go_wp2_with fail
              refine hK.out _ _ HXx.out ?_
              clear hK K
              try simp only [putz]
              refine Goes.tk (i := 3) (o := ⟨some 46, _, _, _, _, _⟩) (v := ?_) [] (y := Or.inl ⟨by rfl, ?_⟩) (s := HXx.out) (H := ?_)
              rotate_left
              · intro u hY; have hq : ∀ W, (Op.equalIn 10000 23 (.agg (bvs kk).toArray) (.agg (bvs kk).toArray)).run Tryd.prog W = .ok true W := fun W => (by rw [eq_sum kk kk KLkk.out KLkk.out W]; simp); go_simp; try with_reducible rfl
              try simp only [putz]
              refine Goes.tk (i := 4) (o := ⟨some 47, _, _, _, _, _⟩) (v := ?_) [] (y := Or.inl ⟨by rfl, ?_⟩) (s := HXx.out) (H := ?_)
              rotate_left
              · intro u hY; go_simp; try with_reducible rfl
              try simp only [putz]
              refine Goes.tk (i := 5) (o := ⟨some 48, _, _, _, _, _⟩) (v := ?_) [] (y := Or.inl ⟨by rfl, ?_⟩) (s := HXx.out) (H := ?_)
              rotate_left
              · intro u hY; go_simp; try with_reducible rfl
              try simp only [putz]
              refine Goes.tk (i := 7) (o := ⟨some 50, _, _, _, _, _⟩) (v := ?_) [] (y := Or.inl ⟨by rfl, ?_⟩) (s := HXx.out) (H := ?_)
              rotate_left
              · intro u hY; go_simp; try with_reducible rfl
              try simp only [putz]
              refine Goes.tk (i := 8) (o := ⟨some 51, _, _, _, _, _⟩) (v := ?_) [] (y := Or.inl ⟨by rfl, ?_⟩) (s := HXx.out) (H := ?_)
              rotate_left
              · intro u hY; have hw2 : IntKind.u64.wrap (k : Int) = (k : Int) := (by have := HKB.out; rw [IntKind.wrap_u64]; omega); go_simp; try with_reducible rfl
              try simp only [putz]
              refine Goes.tk (i := 9) (o := ⟨some 52, _, _, _, _, _⟩) (v := ?_) [] (y := Or.inl ⟨by rfl, ?_⟩) (s := HXx.out) (H := ?_)
              rotate_left
              · intro u hY; have hw2 : IntKind.u64.wrap ((k : Int) + 1) = (k : Int) + 1 := (by have := HKB.out; rw [IntKind.wrap_u64]; omega); go_simp; try with_reducible rfl
              try simp only [putz]
              refine Goes.one (i := 6) (o := ⟨some 49, _, _, _, _, _⟩) (by as_aux_lemma => kernel_rfl) rfl (fun K hK => ?_)
              rw [if_pos (by kernel_rfl)]
              go_simp
              refine (drawn_ex g_a (k + 1) ((k : Int) + 1) bs _ HSa.out HL.out rfl).mono ?_
              rintro e wx ⟨rfl, rfl⟩
              go_wp2_with fail
              refine hK.out _ _ HXx.out ?_
              clear hK K
              try simp only [putz]
              refine Goes.tk (i := 10) (o := ⟨some 53, _, _, _, _, _⟩) (v := ?_) [] (y := Or.inl ⟨by rfl, ?_⟩) (s := HXx.out) (H := ?_)
              rotate_left
              · intro u hY; go_simp; try with_reducible rfl
              try simp only [putz]
              refine Goes.tk (i := 11) (o := ⟨some 54, _, _, _, _, _⟩) (v := ?_) [] (y := Or.inl ⟨by rfl, ?_⟩) (s := HXx.out) (H := ?_)
              rotate_left
              · intro u hY; go_simp; try with_reducible rfl
              try simp only [putz]
              refine Goes.tk (i := 12) (o := ⟨some 55, _, _, _, _, _⟩) (v := ?_) [] (y := Or.inl ⟨by rfl, ?_⟩) (s := HXx.out) (H := ?_)
              rotate_left
              · intro u hY; go_simp; try with_reducible rfl
              try simp only [putz]
              refine Goes.tk (i := 13) (o := ⟨some 56, _, _, _, _, _⟩) (v := ?_) [] (y := Or.inl ⟨by rfl, ?_⟩) (s := HXx.out) (H := ?_)
              rotate_left
              · intro u hY; go_simp; try with_reducible rfl
              try simp only [putz]
              refine Goes.tk (i := 15) (o := ⟨some 58, _, _, _, _, _⟩) (v := ?_) [] (y := Or.inl ⟨by rfl, ?_⟩) (s := HXx.out) (H := ?_)
              rotate_left
              · intro u hY; go_simp; try with_reducible rfl
              try simp only [putz]
              refine Goes.one (i := 14) (o := ⟨some 57, _, _, _, _, _⟩) (by as_aux_lemma => kernel_rfl) rfl (fun K hK => ?_)
              rw [if_pos (by kernel_rfl)]
              go_simp
              refine (drawn_ex g_b (k + 1) ((k : Int) + 1) bs _ HSb.out HL.out rfl).mono ?_
              rintro e wx ⟨rfl, rfl⟩
              go_wp2_with fail
              refine hK.out _ _ HXx.out ?_
              clear hK K
              try simp only [putz]
              refine Goes.one (i := 16) (o := ⟨some 59, _, _, _, _, _⟩) (by as_aux_lemma => kernel_rfl) rfl (fun K hK => ?_)
              rw [if_pos (by kernel_rfl)]
              go_simp
              refine (drawn_ex g_a (k + 1) ((k : Int) + 1) bs _ HSa.out HL.out rfl).mono ?_
              rintro e wx ⟨rfl, rfl⟩
              go_wp2_with fail
              refine hK.out _ _ HXx.out ?_
              clear hK K
              try simp only [putz]
              refine Goes.tk (i := 17) (o := ⟨some 60, _, _, _, _, _⟩) (v := ?_) [] (y := Or.inl ⟨by rfl, ?_⟩) (s := HXx.out) (H := ?_)
              rotate_left
              · intro u hY; go_simp; try with_reducible rfl
              try simp only [putz]
              refine Goes.tk (i := 18) (o := ⟨some 61, _, _, _, _, _⟩) (v := ?_) [] (y := Or.inl ⟨by rfl, ?_⟩) (s := HXx.out) (H := ?_)
              rotate_left
              · intro u hY; go_simp; try with_reducible rfl
              try simp only [putz]
              refine Goes.done (by as_aux_lemma => kernel_rfl) ?_ _
              refine NoPanic.normal ?_
              go_wp2
              go_meet
              exact ⟨by first | rfl | simp, hid ⟨HB.out, HK.out, HSa.out, HSb.out, HSc.out, HXs.out, HXo.out, HXx.out⟩⟩
            case rest =>
              obtain ⟨rfl, HI⟩ := hcut
              clear HB HK HSa HSb HSc HXs HXo HXx
              have HB := hid HI.out.1
              have HK := hid HI.out.2.1
              have HSa := hid HI.out.2.2.1
              have HSb := hid HI.out.2.2.2.1
              have HSc := hid HI.out.2.2.2.2.1
              have HXs := hid HI.out.2.2.2.2.2.1
              have HXo := hid HI.out.2.2.2.2.2.2.1
              have HXx := hid HI.out.2.2.2.2.2.2.2
              clear HI
              have hw1 : IntKind.i64.wrap ((k : Int) + 1) = (k : Int) + 1 := by have := HLTK.out; have := HNL.out; rw [IntKind.wrap_i64]; omega
              go_wp2
              go_roundw
              case rel => exact ⟨k + 1, n + j, HLTK.out, by have := HREL.out; have := HJE.out; have := HRX.out; omega, by go_num, hid ⟨HB.out, HK.out, HSa.out, HSb.out, HSc.out, HXs.out, HXo.out⟩⟩
              case measure => simp [intOf]; have := HLTK.out; omega
      · have hki : ¬ (k : Int) < (nn : Int) := by omega
        go_wp2_with fail
        refine (lives11_any _ HK.out).mono ?_
        rintro e w13 ⟨rfl, hb⟩
        have HB := hid (HB.out.trans (hb.mono HB.out.size))
        have HK := hid (HK.out.on hb)
        have HSa := hid (Sc.on HSa.out hb)
        have HSb := hid (Sc.on HSb.out hb)
        have HSc := hid (Sc.on HSc.out hb)
        have HXs := hid (onbk HXs.out _ hb)
        have HXo := hid (onbk HXo.out _ hb)
        clear hb
        go_wp2
        go_ret
        exact ⟨rfl, HB.out⟩
end Go.Proofs.YtcijnoapjicliaaDoor
