/-
  burrowlaw11.DrawsWithin, walked: it answers true. Condition: the library's table holds what its text lays.
-/
import Derived.Test.YtcijnoapjicliaaDoorPkQ
namespace Go.Proofs.YtcijnoapjicliaaDoor
open Go.RowKit
set_option linter.unusedVariables false
set_option linter.unusedSimpArgs false

set_option maxRecDepth 100000 in
set_option maxHeartbeats 4000000 in
theorem cmp_b1 (x y : Nat) (c : Int) (w : World) (hx : x < 2 ^ 256) (hy : y < 2 ^ 256) (hc : cmpN x y = c) : Calls Tryd.prog 17 #[num x, num y] w fun e w' => e = .returned (.int .i64 c) ∧ Below w.heap.size w w' := hc ▸ cmp_any x y w hx hy
set_option maxRecDepth 100000 in
set_option maxHeartbeats 4000000 in
theorem within11_law (bs : List UInt8) (p q g0 x : Nat) (w : World) (hb : bs.length = 32) (hq : q < 2 ^ 256) (hx : x < 256) (hk : Kt w) : Calls Tryd.prog 6 #[.agg (bvs bs).toArray, gv p q g0, .int .u8 (x : Int)] w fun e w' => e = .returned (.bool true) ∧ Below w.heap.size w w' := by
  have HK := hid hk
  have HB := hid (Below.refl w.heap.size w)
  have HL := hid hb
  have HQ := hid hq
  obtain ⟨c, hc⟩ : ∃ c, cmpN q 3 = c := ⟨_, rfl⟩
  have HC := hid hc
  have HCX := hid (cmp_three q)
  rw [hc] at HCX
  obtain ⟨m, hm⟩ : ∃ m, x % 20 = m := ⟨_, rfl⟩
  have HM := hid hm
  have HMX := hid (show m < 20 by omega)
  have HXI := hid hx
  clear hk hb hq hc hm hx
  go_enter Tryd.func6, Tryd.ntmps6
  go_upto_region 1 with fail
  have hb := (Below.refl w.heap.size w).alloc (Nat.le_refl _) (.cells (bvs bs).toArray 23)
  have hn := heap_alloc_new w (.cells (bvs bs).toArray 23)
  have HB := hid (HB.out.trans (hb.mono HB.out.size))
  have HK := hid (HK.out.on hb)
  have HXs := hid hn
  clear hb hn
  have hsz := sz1 w (.cells (bvs bs).toArray 23)
  generalize w.alloc (.cells (bvs bs).toArray 23) = w1 at *
  generalize hgs : w.heap.size = g_s at HXs hsz ⊢
  rw [← hsz]
  clear hsz
  have hb := (Below.refl w1.heap.size w1).alloc (Nat.le_refl _) (.cells (gcs p q g0) 28)
  have hn := heap_alloc_new w1 (.cells (gcs p q g0) 28)
  have HB := hid (HB.out.trans (hb.mono HB.out.size))
  have HK := hid (HK.out.on hb)
  have HXs := hid (onbk HXs.out _ hb)
  have HXp := hid hn
  clear hb hn
  generalize w1.alloc (.cells (gcs p q g0) 28) = w2 at *
  generalize w1.heap.size = g_p at *
  have l1 := (ldS bs HL.out 0 HXs.out (fun j v h => by rw [Nat.zero_add]; simpa using h)).here
  go_wp2_with (first | (refine wp_ld rfl _ _ rfl _ rfl _ (by first | exact l1) ?_))
  clear l1
  refine (new_st bs _ HL.out).mono ?_
  rintro e w3 ⟨g_a, rfl, hq⟩
  have hb := hq.out.2.2
  have HGa := hid (Nat.le_trans HB.out.size hq.out.1)
  have N2a := hid (show 2 ≠ g_a by have := HK.out.lt; have := hq.out.1; omega)
  have NXsa := hid (show g_s ≠ g_a by have := lt_of_block HXs.out; have := hq.out.1; omega)
  have NXpa := hid (show g_p ≠ g_a by have := lt_of_block HXp.out; have := hq.out.1; omega)
  have HB := hid (HB.out.trans (hb.mono HB.out.size))
  have HK := hid (HK.out.on hb)
  have HXs := hid (onbk HXs.out _ hb)
  have HXp := hid (onbk HXp.out _ hb)
  have HSa := hid hq.out.2.1
  clear hb hq
  go_upto_region 3 with fail
  go_loopw [8] (fun i wr => ∃ k n : Nat, k ≤ m ∧ n ≤ k ∧ i = .int .i64 k ∧ Hid ((Below w.heap.size w wr) ∧ (Kt wr) ∧ (St wr g_a bs n) ∧ (wr.heap[g_s]? = some (.cells (bvs bs).toArray 23 (0, 0))) ∧ (wr.heap[g_p]? = some (.cells (gcs p q g0) 28 (0, 0))))) (fun i _ => m - (intOf i).toNat)
  case atStart => exact ⟨0, 0, Nat.zero_le _, Nat.le_refl _, rfl, hid ⟨HB.out, HK.out, HSa.out, HXs.out, HXp.out⟩⟩
  case round =>
    clear HB HK HSa HXs HXp
    obtain ⟨k, n, hkm, hnk, rfl, HI⟩ := hrel
    have HB := hid HI.out.1
    have HK := hid HI.out.2.1
    have HSa := hid HI.out.2.2.1
    have HXs := hid HI.out.2.2.2.1
    have HXp := hid HI.out.2.2.2.2
    clear HI
    have HNN := hid (show n + 1 < 18446744073709551616 by have := HMX.out; omega)
    have hx1 : IntKind.i64.wrap (x : Int) = (x : Int) := by have := HXI.out; rw [IntKind.wrap_i64]; omega
    have hx2 : (x : Int).tmod 20 = (m : Int) := by have := HM.out; rw [Int.tmod_eq_emod_of_nonneg (by omega)]; omega
    have hx3 : (x : Int) % 20 = (m : Int) := by have := HM.out; omega
    by_cases hlt : k < m
    · have hki : (k : Int) < (m : Int) := by omega
      have HLTK := hid hlt
      go_wp2_with fail
      refine (drawn_ex g_a n (n : Int) bs _ HSa.out HL.out rfl).mono ?_
      rintro e wx ⟨rfl, rfl⟩
      have HREL := hid (And.intro hlt hnk)
      have hw1 : IntKind.i64.wrap ((k : Int) + 1) = (k : Int) + 1 := by have := HMX.out; rw [IntKind.wrap_i64]; omega
      rcases HCX.out with hcx | hcx
      · have HCD := hid (show decide (c < 0) = true by rw [hcx.1]; rfl)
        have H3 := hid hcx.2
        clear hcx
        have l2 := (ldG p q g0 0 HXp.out (all_at _)).here
        go_wp2_with (first | (refine wp_ld rfl _ _ rfl _ rfl _ (by first | exact l2) ?_))
        clear l2
        refine (expo_small g_a n p q g0 bs _ HSa.out HQ.out H3.out).mono ?_
        rintro e w4 ⟨rfl, hb⟩
        have HB := hid (HB.out.trans (hb.mono HB.out.size))
        have HK := hid (HK.out.on hb)
        have HSa := hid (Sc.on HSa.out hb)
        have HXs := hid (onbk HXs.out _ hb)
        have HXp := hid (onbk HXp.out _ hb)
        clear hb
        go_upto_region 7 with fail
        have hb := (Below.refl w4.heap.size w4).alloc (Nat.le_refl _) (.cells (cls 0) 26)
        have hn := heap_alloc_new w4 (.cells (cls 0) 26)
        have NXxa := hid (show w4.heap.size ≠ g_a by have := Sc.lt HSa.out; omega)
        have HB := hid (HB.out.trans (hb.mono HB.out.size))
        have HK := hid (HK.out.on hb)
        have HSa := hid (Sc.on HSa.out hb)
        have HXs := hid (onbk HXs.out _ hb)
        have HXp := hid (onbk HXp.out _ hb)
        have HXx := hid hn
        clear hb hn
        generalize w4.alloc (.cells (cls 0) 26) = w5 at *
        generalize w4.heap.size = g_x at *
        go_cut [33] (fun s1 wx => s1 = .bool true ∧ Hid (Below w5.heap.size w5 wx))
        case first =>
          refine wp_region_noPanic ?_
          refine Goes.region (fun (_ : Array Bool) (u : World) => u.heap[g_p]? = some (.cells (gcs p q g0) 28 (0, 0))) (by as_aux_lemma => kernel_rfl) ?_
          have HW := hid (p := Below w5.heap.size w5 w5.drew) (Below.refl _ _).drew
          have HB : Hid (w5.drew.heap[g_p]? = _) := hid HXp.out
          generalize w5.drew = w5d at *
          refine Goes.tk (i := 0) (o := ⟨some 29, _, _, _, _, _⟩) (v := ?_) [] (y := Or.inl ⟨by rfl, ?_⟩) (s := HB.out) (H := ?_)
          rotate_left
          · intro u hY; go_simp; try with_reducible rfl
          try simp only [putz]
          refine Goes.tk (i := 1) (o := ⟨some 30, _, _, _, _, _⟩) [] (y := Or.inl ⟨by rfl, fun u hY => y_ld _ _ rfl (.pointer (some ⟨g_p, 4, none⟩)) _ rfl ((ldN q 4 (yet_of hY) (four_at q _ 4 rfl rfl rfl rfl)).here)⟩) (s := HB.out) (H := ?_)
          try simp only [putz]
          refine Goes.one (i := 2) (o := ⟨some 31, _, _, _, _, _⟩) (by as_aux_lemma => kernel_rfl) rfl (fun K hK => ?_)
          go_simp
          refine (lof_at 3 3 (Env.refl w5d) (by decide) rfl).mono ?_
          rintro e w5_1 ⟨rfl, hb⟩
          have hb := hb.1
          go_wp2_with fail
          refine hK.out _ _ (onbk HB.out _ hb) ?_
          clear hK K
          try simp only [putz]
          have HB := hid (onbk HB.out _ hb)
          have HW := hid (HW.out.trans (hb.mono HW.out.size))
          clear hb
          refine Goes.one (i := 3) (o := ⟨some 32, _, _, _, _, _⟩) (by as_aux_lemma => kernel_rfl) rfl (fun K hK => ?_)
          go_simp
          refine (cmp_at q 3 c (Env.refl w5_1) HQ.out (by decide) HC.out).mono ?_
          rintro e w5_2 ⟨rfl, hb⟩
          have hb := hb.1
          go_wp2_with fail
          refine hK.out _ _ (onbk HB.out _ hb) ?_
          clear hK K
          try simp only [putz]
          have HB := hid (onbk HB.out _ hb)
          have HW := hid (HW.out.trans (hb.mono HW.out.size))
          clear hb
          refine Goes.tk (i := 4) (o := ⟨some 33, _, _, _, _, _⟩) (v := ?_) [] (y := Or.inl ⟨by rfl, ?_⟩) (s := HB.out) (H := ?_)
          rotate_left
          · intro u hY; have hcd := HCD.out; go_simp; try with_reducible rfl
          try simp only [putz]
          refine Goes.done (by as_aux_lemma => kernel_rfl) ?_ _
          refine NoPanic.normal ?_
          go_wp2
          go_meet
          exact ⟨by first | rfl | simp, hid HW.out⟩
        case rest =>
          obtain ⟨rfl, hcu⟩ := hcut
          have hb := hcu.out
          clear hcu
          generalize wc = w6 at *
          have HB := hid (HB.out.trans (hb.mono HB.out.size))
          have HK := hid (HK.out.on hb)
          have HSa := hid (Sc.on HSa.out hb)
          have HXs := hid (onbk HXs.out _ hb)
          have HXp := hid (onbk HXp.out _ hb)
          have HXx := hid (onbk HXx.out _ hb)
          clear hb
          go_wp2_with fail
          refine (drawn_ex g_a n (n : Int) bs _ HSa.out HL.out rfl).mono ?_
          rintro e wx ⟨rfl, rfl⟩
          go_wp2
          go_roundw
          case rel => exact ⟨k + 1, n, HREL.out.1, Nat.le_succ_of_le HREL.out.2, by go_num, hid ⟨HB.out, HK.out, HSa.out, HXs.out, HXp.out⟩⟩
          case measure => simp [intOf]; have := HREL.out.1; omega
      · have HCD := hid (show decide (c < 0) = false from decide_eq_false (by have := hcx.1; omega))
        have H3 := hid hcx.2
        clear hcx
        obtain ⟨d, hd⟩ : ∃ d, dexp q (dsum bs n) = d := ⟨_, rfl⟩
        have HDE := hid hd
        have HD0 := hid (show 0 < d by rw [← hd]; exact dexp_pos _ _)
        have HDQ := hid (show d < q by rw [← hd]; exact dexp_lt _ _ (by have := H3.out; omega))
        have HDB := hid (show d < 2 ^ 256 from Nat.lt_trans HDQ.out HQ.out)
        clear hd
        have l3 := (ldG p q g0 0 HXp.out (all_at _)).here
        go_wp2_with (first | (refine wp_ld rfl _ _ rfl _ rfl _ (by first | exact l3) ?_))
        clear l3
        refine (expo_st g_a n p q g0 bs _ HSa.out HL.out HNN.out HK.out N2a.out HQ.out H3.out).mono ?_
        rintro e w7 ⟨rfl, hq⟩
        have hg := hq.out.1
        have HB := hid (below_gr HB.out hg HGa.out)
        have HK := hid (HK.out.grown hg N2a.out)
        have HXs := hid (bk_grown HXs.out hg NXsa.out)
        have HXp := hid (bk_grown HXp.out hg NXpa.out)
        have HSa := hid hq.out.2
        clear hg hq
        rw [HDE.out]
        go_upto_region 7 with fail
        have hb := (Below.refl w7.heap.size w7).alloc (Nat.le_refl _) (.cells (cls d) 26)
        have hn := heap_alloc_new w7 (.cells (cls d) 26)
        have NXxa := hid (show w7.heap.size ≠ g_a by have := Sc.lt HSa.out; omega)
        have HB := hid (HB.out.trans (hb.mono HB.out.size))
        have HK := hid (HK.out.on hb)
        have HSa := hid (Sc.on HSa.out hb)
        have HXs := hid (onbk HXs.out _ hb)
        have HXp := hid (onbk HXp.out _ hb)
        have HXx := hid hn
        clear hb hn
        generalize w7.alloc (.cells (cls d) 26) = w8 at *
        generalize w7.heap.size = g_x at *
        go_cut [33] (fun s1 wx => s1 = .bool false ∧ Hid (Below w8.heap.size w8 wx))
        case first =>
          refine wp_region_noPanic ?_
          refine Goes.region (fun (_ : Array Bool) (u : World) => u.heap[g_p]? = some (.cells (gcs p q g0) 28 (0, 0))) (by as_aux_lemma => kernel_rfl) ?_
          have HW := hid (p := Below w8.heap.size w8 w8.drew) (Below.refl _ _).drew
          have HB : Hid (w8.drew.heap[g_p]? = _) := hid HXp.out
          generalize w8.drew = w8d at *
          refine Goes.tk (i := 0) (o := ⟨some 29, _, _, _, _, _⟩) (v := ?_) [] (y := Or.inl ⟨by rfl, ?_⟩) (s := HB.out) (H := ?_)
          rotate_left
          · intro u hY; go_simp; try with_reducible rfl
          try simp only [putz]
          refine Goes.tk (i := 1) (o := ⟨some 30, _, _, _, _, _⟩) [] (y := Or.inl ⟨by rfl, fun u hY => y_ld _ _ rfl (.pointer (some ⟨g_p, 4, none⟩)) _ rfl ((ldN q 4 (yet_of hY) (four_at q _ 4 rfl rfl rfl rfl)).here)⟩) (s := HB.out) (H := ?_)
          try simp only [putz]
          refine Goes.one (i := 2) (o := ⟨some 31, _, _, _, _, _⟩) (by as_aux_lemma => kernel_rfl) rfl (fun K hK => ?_)
          go_simp
          refine (lof_at 3 3 (Env.refl w8d) (by decide) rfl).mono ?_
          rintro e w8_1 ⟨rfl, hb⟩
          have hb := hb.1
          go_wp2_with fail
          refine hK.out _ _ (onbk HB.out _ hb) ?_
          clear hK K
          try simp only [putz]
          have HB := hid (onbk HB.out _ hb)
          have HW := hid (HW.out.trans (hb.mono HW.out.size))
          clear hb
          refine Goes.one (i := 3) (o := ⟨some 32, _, _, _, _, _⟩) (by as_aux_lemma => kernel_rfl) rfl (fun K hK => ?_)
          go_simp
          refine (cmp_at q 3 c (Env.refl w8_1) HQ.out (by decide) HC.out).mono ?_
          rintro e w8_2 ⟨rfl, hb⟩
          have hb := hb.1
          go_wp2_with fail
          refine hK.out _ _ (onbk HB.out _ hb) ?_
          clear hK K
          try simp only [putz]
          have HB := hid (onbk HB.out _ hb)
          have HW := hid (HW.out.trans (hb.mono HW.out.size))
          clear hb
          refine Goes.tk (i := 4) (o := ⟨some 33, _, _, _, _, _⟩) (v := ?_) [] (y := Or.inl ⟨by rfl, ?_⟩) (s := HB.out) (H := ?_)
          rotate_left
          · intro u hY; have hcd := HCD.out; go_simp; try with_reducible rfl
          try simp only [putz]
          refine Goes.done (by as_aux_lemma => kernel_rfl) ?_ _
          refine NoPanic.normal ?_
          go_wp2
          go_meet
          exact ⟨by first | rfl | simp, hid HW.out⟩
        case rest =>
          obtain ⟨rfl, hcu⟩ := hcut
          have hb := hcu.out
          clear hcu
          generalize wc = w9 at *
          have HB := hid (HB.out.trans (hb.mono HB.out.size))
          have HK := hid (HK.out.on hb)
          have HSa := hid (Sc.on HSa.out hb)
          have HXs := hid (onbk HXs.out _ hb)
          have HXp := hid (onbk HXp.out _ hb)
          have HXx := hid (onbk HXx.out _ hb)
          clear hb
          have hq1 : ∀ W, (Op.equalIn 10000 26 (num d) (.agg #[.int .u64 0, .int .u64 0, .int .u64 0, .int .u64 0])).run Tryd.prog W = .ok false W := fun W => by rw [num_zero]; exact eq_no d 0 HDB.out (by decide) (Nat.ne_of_gt HD0.out) W
          have l4 := (ldN d 0 HXx.out (all_at _)).here
          have l5 := (ldN q 4 HXp.out (four_at q _ 4 rfl rfl rfl rfl)).here
          go_wp2_with (first | (refine wp_ld rfl _ _ rfl _ rfl _ (by first | exact l4 | exact l5) ?_))
          clear l4 l5
          refine (cmp_b1 d q (-1) _ HDB.out HQ.out (show cmpN d q = -1 by unfold cmpN; rw [if_pos HDQ.out])).mono ?_
          rintro e w10 ⟨rfl, hb⟩
          have HB := hid (HB.out.trans (hb.mono HB.out.size))
          have HK := hid (HK.out.on hb)
          have HSa := hid (Sc.on HSa.out hb)
          have HXs := hid (onbk HXs.out _ hb)
          have HXp := hid (onbk HXp.out _ hb)
          have HXx := hid (onbk HXx.out _ hb)
          clear hb
          go_wp2_with fail
          refine (drawn_ex g_a (n + 1) ((n : Int) + 1) bs _ HSa.out HL.out rfl).mono ?_
          rintro e wx ⟨rfl, rfl⟩
          have hw2 : IntKind.u64.wrap ((n : Int) + 1) = (n : Int) + 1 := by have := HNN.out; rw [IntKind.wrap_u64]; omega
          go_wp2
          go_roundw
          case rel => exact ⟨k + 1, n + 1, HREL.out.1, Nat.succ_le_succ HREL.out.2, by go_num, hid ⟨HB.out, HK.out, HSa.out, HXs.out, HXp.out⟩⟩
          case measure => simp [intOf]; have := HREL.out.1; omega
    · obtain rfl : k = m := by omega
      go_wp2_with fail
      refine (lives11_any _ HK.out).mono ?_
      rintro e w11 ⟨rfl, hb⟩
      have HB := hid (HB.out.trans (hb.mono HB.out.size))
      have HK := hid (HK.out.on hb)
      have HSa := hid (Sc.on HSa.out hb)
      have HXs := hid (onbk HXs.out _ hb)
      have HXp := hid (onbk HXp.out _ hb)
      clear hb
      go_wp2
      go_ret
      exact ⟨rfl, HB.out⟩
end Go.Proofs.YtcijnoapjicliaaDoor
