/-
  burrowlaw11.DrawsNone, walked: it answers true. Condition: the library's table holds what its text lays.
-/
import Derived.Test.YtcijnoapjicliaaDoorPkQ
namespace Go.Proofs.YtcijnoapjicliaaDoor
open Go.RowKit
set_option linter.unusedVariables false
set_option linter.unusedSimpArgs false

theorem st_blk {w : World} {g k : Nat} {o : Obj} (h : w.heap[g]? = some o) (hne : g ≠ k) (cs : Array Value) : (w.setRow k cs).heap[g]? = some o := (setRow_other w k g cs hne).trans h
set_option maxRecDepth 100000 in
set_option maxHeartbeats 4000000 in
theorem none11_law (p q g0 : Nat) (w : World) (hk : Kt w) : Calls Tryd.prog 4 #[gv p q g0] w fun e w' => e = .returned (.bool true) ∧ Below w.heap.size w w' := by
  have HK := hid hk
  have HB := hid (Below.refl w.heap.size w)
  clear hk
  go_enter Tryd.func4, Tryd.ntmps4
  go_upto_region 1 with fail
  have hb := (Below.refl w.heap.size w).alloc (Nat.le_refl _) (.cells (gcs p q g0) 28)
  have hn := heap_alloc_new w (.cells (gcs p q g0) 28)
  have HB := hid (HB.out.trans (hb.mono HB.out.size))
  have HK := hid (HK.out.on hb)
  have HXp := hid hn
  clear hb hn
  generalize w.alloc (.cells (gcs p q g0) 28) = w1 at *
  generalize hgp : w.heap.size = g_p at HXp ⊢
  go_upto_region 2 with fail
  have hb := (Below.refl w1.heap.size w1).alloc (Nat.le_refl _) (.cells #[.bool false, .int .u8 0, .int .u8 0, .int .u8 0, .int .u8 0, .int .u8 0, .int .u8 0, .int .u8 0, .int .u8 0, .int .u8 0, .int .u8 0, .int .u8 0, .int .u8 0, .int .u8 0, .int .u8 0, .int .u8 0, .int .u8 0, .int .u8 0, .int .u8 0, .int .u8 0, .int .u8 0, .int .u8 0, .int .u8 0, .int .u8 0, .int .u8 0, .int .u8 0, .int .u8 0, .int .u8 0, .int .u8 0, .int .u8 0, .int .u8 0, .int .u8 0, .int .u8 0, .int .u64 0] 44)
  have hn := heap_alloc_new w1 (.cells #[.bool false, .int .u8 0, .int .u8 0, .int .u8 0, .int .u8 0, .int .u8 0, .int .u8 0, .int .u8 0, .int .u8 0, .int .u8 0, .int .u8 0, .int .u8 0, .int .u8 0, .int .u8 0, .int .u8 0, .int .u8 0, .int .u8 0, .int .u8 0, .int .u8 0, .int .u8 0, .int .u8 0, .int .u8 0, .int .u8 0, .int .u8 0, .int .u8 0, .int .u8 0, .int .u8 0, .int .u8 0, .int .u8 0, .int .u8 0, .int .u8 0, .int .u8 0, .int .u8 0, .int .u64 0] 44)
  have HB := hid (HB.out.trans (hb.mono HB.out.size))
  have HK := hid (HK.out.on hb)
  have HXp := hid (onbk HXp.out _ hb)
  have HXr := hid hn
  clear hb hn
  have hsz := sz1 w1 (.cells #[.bool false, .int .u8 0, .int .u8 0, .int .u8 0, .int .u8 0, .int .u8 0, .int .u8 0, .int .u8 0, .int .u8 0, .int .u8 0, .int .u8 0, .int .u8 0, .int .u8 0, .int .u8 0, .int .u8 0, .int .u8 0, .int .u8 0, .int .u8 0, .int .u8 0, .int .u8 0, .int .u8 0, .int .u8 0, .int .u8 0, .int .u8 0, .int .u8 0, .int .u8 0, .int .u8 0, .int .u8 0, .int .u8 0, .int .u8 0, .int .u8 0, .int .u8 0, .int .u8 0, .int .u64 0] 44)
  generalize w1.alloc (.cells #[.bool false, .int .u8 0, .int .u8 0, .int .u8 0, .int .u8 0, .int .u8 0, .int .u8 0, .int .u8 0, .int .u8 0, .int .u8 0, .int .u8 0, .int .u8 0, .int .u8 0, .int .u8 0, .int .u8 0, .int .u8 0, .int .u8 0, .int .u8 0, .int .u8 0, .int .u8 0, .int .u8 0, .int .u8 0, .int .u8 0, .int .u8 0, .int .u8 0, .int .u8 0, .int .u8 0, .int .u8 0, .int .u8 0, .int .u8 0, .int .u8 0, .int .u8 0, .int .u8 0, .int .u64 0] 44) = w2 at *
  generalize w1.heap.size = g_r at *
  rw [← hsz]
  clear hsz
  have hb := (Below.refl w2.heap.size w2).alloc (Nat.le_refl _) (.cells #[.pointer none, .pointer (some ⟨g_r, 0, none⟩)] 31)
  have hn := heap_alloc_new w2 (.cells #[.pointer none, .pointer (some ⟨g_r, 0, none⟩)] 31)
  have HB := hid (HB.out.trans (hb.mono HB.out.size))
  have HK := hid (HK.out.on hb)
  have HXp := hid (onbk HXp.out _ hb)
  have HXr := hid (onbk HXr.out _ hb)
  have HXl := hid hn
  clear hb hn
  generalize w2.alloc (.cells #[.pointer none, .pointer (some ⟨g_r, 0, none⟩)] 31) = w3 at *
  generalize w2.heap.size = g_l at *
  have HR := hid (show g_r < w3.heap.size from lt_of_block HXr.out)
  have HR0 := hid (show w3.cell? ⟨g_r, 0, none⟩ = some (.bool false) by rw [cell_of_row _ _ _ _ _ _ HXr.out]; rfl)
  have FP := hid (onbk HXp.out)
  have FL := hid (onbk HXl.out)
  have FK := hid (on_kt HK.out)
  have FN := hid (nos_raw HR.out HR0.out)
  have HB0 := hid HB.out
  clear HXp HXl HXr HK HB HR HR0
  go_wp2_with fail
  go_loopw [4] (fun i wr => ∃ k : Nat, k ≤ 2 ∧ i = .int .i64 k ∧ Hid (Below w3.heap.size w3 wr)) (fun i _ => 2 - (intOf i).toNat)
  case atStart => exact ⟨0, Nat.zero_le _, rfl, hid (Below.refl _ _)⟩
  case round =>
    obtain ⟨k, hk2, rfl, HI⟩ := hrel
    have HBK := hid (HB0.out.trans (HI.out.mono HB0.out.size))
    have HXP := hid (FP.out _ HI.out)
    have HXL := hid (FL.out _ HI.out)
    have HKK := hid (FK.out _ HI.out)
    have HNN := hid (FN.out.on HI.out)
    by_cases hlt : k < 2
    · have hki : (k : Int) < 2 := by omega
      obtain ⟨v, HCV, HV⟩ : ∃ v : Value, Hid ((#[.pointer none, .pointer (some ⟨g_r, 0, none⟩)] : Array Value)[k]? = some v) ∧ Hid (Nos wr v) := by
        rcases (show k = 0 ∨ k = 1 by omega) with rfl | rfl
        · exact ⟨.pointer none, hid rfl, hid (nos_none wr)⟩
        · exact ⟨.pointer (some ⟨g_r, 0, none⟩), hid rfl, HNN⟩
      go_upto_region 5 with fail
      go_cut [5, 6] (fun s5 s6 wx => ∃ g5 : Nat, s5 = .pointer (some ⟨g5, 0, none⟩) ∧ s6 = .int .i64 2 ∧ Hid (Below wr.heap.size wr wx ∧ Nm wx g5 0))
      case first =>
        refine wp_region_noPanic ?_
        refine Goes.region (fun (_ : Array Bool) (u : World) => u.heap[g_p]? = some (.cells (gcs p q g0) 28 (0, 0)) ∧ u.heap[g_l]? = some (.cells #[.pointer none, .pointer (some ⟨g_r, 0, none⟩)] 31 (0, 0))) (by as_aux_lemma => kernel_rfl) ?_
        have HLP := hid (show g_p < wr.heap.size from lt_of_block HXP.out)
        have HLL := hid (show g_l < wr.heap.size from lt_of_block HXL.out)
        have HU : Hid (wr.drew.heap[g_p]? = some (.cells (gcs p q g0) 28 (0, 0)) ∧ wr.drew.heap[g_l]? = some (.cells #[.pointer none, .pointer (some ⟨g_r, 0, none⟩)] 31 (0, 0))) := hid ⟨HXP.out, HXL.out⟩
        have HW := hid (p := Below wr.heap.size wr wr.drew) (Below.refl _ _).drew
        have HLT := hid hlt
        generalize wr.drew = wrd at *
        refine Goes.tk (i := 0) (o := ⟨some 17, _, _, _, _, _⟩) (v := ?_) [] (y := Or.inl ⟨by rfl, ?_⟩) (s := HU.out) (H := ?_)
        rotate_left
        · intro u hY; go_simp; try with_reducible rfl
        try simp only [putz]
        refine Goes.tk (i := 1) (o := ⟨some 18, _, _, _, _, _⟩) (v := ?_) [] (y := Or.inl ⟨by rfl, ?_⟩) (s := HU.out) (H := ?_)
        rotate_left
        · intro u hY; go_simp; try with_reducible rfl
        try simp only [putz]
        refine Goes.tk (i := 2) (o := ⟨some 19, _, _, _, _, _⟩) (v := ?_) [] (y := Or.inl ⟨by rfl, ?_⟩) (s := HU.out) (H := ?_)
        rotate_left
        · intro u hY; have hkk : (0 : Int) ≤ (k : Int) ∧ (k : Int) < 2 := ⟨by omega, by have := HLT.out; omega⟩; go_simp; try with_reducible rfl
        try simp only [putz]
        refine Goes.tk (i := 3) (o := ⟨some 20, _, _, _, _, _⟩) (v := ?_) [] (y := Or.inl ⟨by rfl, ?_⟩) (s := HU.out) (H := ?_)
        rotate_left
        · intro u hY; have hc := (cell_of_row u g_l k _ _ (0, 0) (yet_of hY).2).trans HCV.out; go_simp; try with_reducible rfl
        try simp only [putz]
        refine Goes.tk (i := 4) (o := ⟨some 21, _, _, _, _, _⟩) [] (y := Or.inl ⟨by rfl, fun u hY => y_ld _ _ rfl (.pointer (some ⟨g_p, 0, none⟩)) _ rfl ((ldG p q g0 0 (yet_of hY).1 (all_at _)).here)⟩) (s := HU.out) (H := ?_)
        try simp only [putz]
        refine Goes.two (i := 5) (j := 9) (o := ⟨some 22, _, _, _, _, _⟩) (p := ⟨some 5, _, _, _, _, _⟩) (by as_aux_lemma => kernel_rfl) rfl rfl (fun K hK => ?_) (fun K hK => ?_)
        · skip
          go_simp
          refine (expo_no v p q g0 wrd (HV.out.on HW.out)).mono ?_
          rintro e wrd1 ⟨rfl, hb⟩
          go_wp2_with fail
          have HU := hid (And.intro (onbk HU.out.1 _ hb) (onbk HU.out.2 _ hb))
          have HW := hid (HW.out.trans (hb.mono HW.out.size))
          clear hb
          refine hK.out _ _ HU.out ?_
          clear hK K
          try simp only [putz]
          refine Goes.tk (i := 6) (o := ⟨some 16, _, _, _, _, _⟩) (v := ?_) [] (y := Or.inl ⟨by rfl, ?_⟩) (s := HU.out) (H := ?_)
          rotate_left
          · intro u hY; go_simp; try with_reducible rfl
          try simp only [putz]
          refine Goes.tk (i := 7) (o := ⟨some 23, _, _, _, _, _⟩) (v := ?_) [] (y := Or.inl ⟨by rfl, ?_⟩) (s := HU.out) (H := ?_)
          rotate_left
          · intro u hY; go_simp; try with_reducible rfl
          try simp only [putz]
          refine Goes.tk (i := 8) (o := ⟨some 24, _, _, _, _, _⟩) (v := ?_) [] (y := Or.inl ⟨by rfl, ?_⟩) (s := HU.out) (H := ?_)
          rotate_left
          · intro u hY; go_simp; try with_reducible rfl
          try simp only [putz]
          refine Goes.one (i := 9) (o := ⟨some 5, _, _, _, _, _⟩) (by as_aux_lemma => kernel_rfl) rfl (fun K hK => ?_)
          go_simp
          have hb := (Below.refl wrd1.heap.size wrd1).alloc (Nat.le_refl _) (.cells #[.int .u64 0, .int .u64 0, .int .u64 0, .int .u64 0] 26)
          have hh := nm_zero (heap_alloc_new wrd1 (.cells #[.int .u64 0, .int .u64 0, .int .u64 0, .int .u64 0] 26))
          have hz := HW.out.size
          have HU := hid (And.intro (onbk HU.out.1 _ hb) (onbk HU.out.2 _ hb))
          have HW := hid (HW.out.trans (hb.mono HW.out.size))
          refine hK.out _ _ HU.out ?_
          generalize wrd1.alloc (.cells #[.int .u64 0, .int .u64 0, .int .u64 0, .int .u64 0] 26) = wrd2 at *
          generalize wrd1.heap.size = gz2 at *
          have FZ := hid (And.intro hh hz)
          clear hb hh hz
          clear hK K
          try simp only [putz]
          refine Goes.one (i := 10) (o := ⟨none, _, _, _, _, _⟩) (by as_aux_lemma => kernel_rfl) rfl (fun K hK => ?_)
          rw [if_pos (by rfl)]
          have hz := FZ.out.1
          unfold Nm at hz
          refine wp_store_row 26 (.tmp 5) (.tmp 23) (by rfl) gz2 (cls 0) (by rfl) (by rfl) 26 _ hz (inum 0) rfl (clsall 0) ?_
          have HWR := below_setRow HW.out FZ.out.2 (cls 0)
          have HT := hid (nm_row FZ.out.1 0)
          have HU := hid (And.intro (st_blk HU.out.1 (show g_p ≠ gz2 by have := HLP.out; have := FZ.out.2; omega) (cls 0)) (st_blk HU.out.2 (show g_l ≠ gz2 by have := HLL.out; have := FZ.out.2; omega) (cls 0)))
          refine hK.out _ _ HU.out ?_
          clear hK K
          try simp only [putz]
          refine Goes.tk (i := 11) (o := ⟨some 6, _, _, _, _, _⟩) (v := ?_) [] (y := Or.inl ⟨by rfl, ?_⟩) (s := HU.out) (H := ?_)
          rotate_left
          · intro u hY; go_simp; try with_reducible rfl
          try simp only [putz]
          refine Goes.done (by as_aux_lemma => kernel_rfl) ?_ _
          refine NoPanic.normal ?_
          go_wp2
          go_meet
          exact ⟨_, rfl, rfl, hid ⟨HWR, HT.out⟩⟩
        · skip
          go_simp
          have hb := (Below.refl wrd.heap.size wrd).alloc (Nat.le_refl _) (.cells #[.int .u64 0, .int .u64 0, .int .u64 0, .int .u64 0] 26)
          have hh := nm_zero (heap_alloc_new wrd (.cells #[.int .u64 0, .int .u64 0, .int .u64 0, .int .u64 0] 26))
          have hz := HW.out.size
          have HU := hid (And.intro (onbk HU.out.1 _ hb) (onbk HU.out.2 _ hb))
          have HW := hid (HW.out.trans (hb.mono HW.out.size))
          refine hK.out _ _ HU.out ?_
          generalize wrd.alloc (.cells #[.int .u64 0, .int .u64 0, .int .u64 0, .int .u64 0] 26) = wrd3 at *
          generalize wrd.heap.size = gz3 at *
          have FZ := hid (And.intro hh hz)
          clear hb hh hz
          clear hK K
          try simp only [putz]
          refine Goes.one (i := 5) (o := ⟨some 22, _, _, _, _, _⟩) (by as_aux_lemma => kernel_rfl) rfl (fun K hK => ?_)
          go_simp
          refine (expo_no v p q g0 wrd3 (HV.out.on HW.out)).mono ?_
          rintro e wrd4 ⟨rfl, hb⟩
          go_wp2_with fail
          have HU := hid (And.intro (onbk HU.out.1 _ hb) (onbk HU.out.2 _ hb))
          have HW := hid (HW.out.trans (hb.mono HW.out.size))
          have FZ := hid (And.intro (FZ.out.1.on hb) FZ.out.2)
          clear hb
          refine hK.out _ _ HU.out ?_
          clear hK K
          try simp only [putz]
          refine Goes.tk (i := 6) (o := ⟨some 16, _, _, _, _, _⟩) (v := ?_) [] (y := Or.inl ⟨by rfl, ?_⟩) (s := HU.out) (H := ?_)
          rotate_left
          · intro u hY; go_simp; try with_reducible rfl
          try simp only [putz]
          refine Goes.tk (i := 7) (o := ⟨some 23, _, _, _, _, _⟩) (v := ?_) [] (y := Or.inl ⟨by rfl, ?_⟩) (s := HU.out) (H := ?_)
          rotate_left
          · intro u hY; go_simp; try with_reducible rfl
          try simp only [putz]
          refine Goes.tk (i := 8) (o := ⟨some 24, _, _, _, _, _⟩) (v := ?_) [] (y := Or.inl ⟨by rfl, ?_⟩) (s := HU.out) (H := ?_)
          rotate_left
          · intro u hY; go_simp; try with_reducible rfl
          try simp only [putz]
          refine Goes.one (i := 10) (o := ⟨none, _, _, _, _, _⟩) (by as_aux_lemma => kernel_rfl) rfl (fun K hK => ?_)
          rw [if_pos (by rfl)]
          have hz := FZ.out.1
          unfold Nm at hz
          refine wp_store_row 26 (.tmp 5) (.tmp 23) (by rfl) gz3 (cls 0) (by rfl) (by rfl) 26 _ hz (inum 0) rfl (clsall 0) ?_
          have HWR := below_setRow HW.out FZ.out.2 (cls 0)
          have HT := hid (nm_row FZ.out.1 0)
          have HU := hid (And.intro (st_blk HU.out.1 (show g_p ≠ gz3 by have := HLP.out; have := FZ.out.2; omega) (cls 0)) (st_blk HU.out.2 (show g_l ≠ gz3 by have := HLL.out; have := FZ.out.2; omega) (cls 0)))
          refine hK.out _ _ HU.out ?_
          clear hK K
          try simp only [putz]
          refine Goes.tk (i := 11) (o := ⟨some 6, _, _, _, _, _⟩) (v := ?_) [] (y := Or.inl ⟨by rfl, ?_⟩) (s := HU.out) (H := ?_)
          rotate_left
          · intro u hY; go_simp; try with_reducible rfl
          try simp only [putz]
          refine Goes.done (by as_aux_lemma => kernel_rfl) ?_ _
          refine NoPanic.normal ?_
          go_wp2
          go_meet
          exact ⟨_, rfl, rfl, hid ⟨HWR, HT.out⟩⟩
      case rest =>
      obtain ⟨g5, rfl, rfl, HC⟩ := hcut
      have HLC := hid (onbk HXL.out _ HC.out.1)
      have hcc := (cell_of_row wc g_l k _ _ (0, 0) HLC.out).trans HCV.out
      have HVC := hid (HV.out.on HC.out.1)
      have HWC := hid (HI.out.trans (HC.out.1.mono HI.out.size))
      have HN5 := hid HC.out.2
      have hkk : (0 : Int) ≤ (k : Int) ∧ (k : Int) < 2 := ⟨by omega, by omega⟩
      go_wp2_with fail
      clear hcc
      refine (next_no v wc HVC.out).mono ?_
      rintro e w5 ⟨rfl, hb⟩
      have hcc := (cell_of_row w5 g_l k _ _ (0, 0) (onbk HLC.out _ hb)).trans HCV.out
      have HV5 := hid (HVC.out.on hb)
      have HW5 := hid (HWC.out.trans (hb.mono HWC.out.size))
      have hn5 := HN5.out.on hb
      have hq1 : ∀ W, (Op.equalIn 10000 23 (.agg (bvs z32).toArray) (.agg (bvs z32).toArray)).run Tryd.prog W = .ok true W := fun W => by rw [eq_sum z32 z32 rfl rfl W]; simp
      rw [lit32z] at hq1 ⊢
      have hq2 : ∀ W, (Op.equalIn 10000 26 (num 0) (.agg #[.int .u64 0, .int .u64 0, .int .u64 0, .int .u64 0])).run Tryd.prog W = .ok true W := fun W => by rw [num_zero]; exact eq_yes 0 0 rfl W
      have hl := (ldN 0 0 hn5 (all_at _)).here
      clear hb HC HVC HWC HN5 HI
      go_wp2_with fail
      refine (drawn_no v w5 HV5.out).mono ?_
      rintro e wx ⟨rfl, rfl⟩
      go_wp2_with (refine wp_ld rfl _ _ rfl _ rfl _ hl ?_)
      have hw1 : IntKind.i64.wrap ((k : Int) + 1) = (k : Int) + 1 := by rw [IntKind.wrap_i64]; omega
      have HREL := hid (p := k + 1 ≤ 2) (by omega)
      clear hq1 hl hcc hkk HV5 hn5 HLC
      go_wp2
      go_roundw
      case rel => exact ⟨k + 1, HREL.out, by go_num, HW5⟩
      case measure => simp [intOf]; omega
    · obtain rfl : k = 2 := by omega
      go_wp2_with fail
      refine (lives11_any wr HKK.out).mono ?_
      rintro e w5 ⟨rfl, hb⟩
      have HE := hid (HBK.out.trans (hb.mono HBK.out.size))
      clear hb
      go_wp2
      go_ret
      exact ⟨rfl, HE.out⟩
end Go.Proofs.YtcijnoapjicliaaDoor
