/-
  keymats.Of, walked. Conditions: the library's table holds what its text lays.
-/
import Derived.Test.YtbloejlebikecaaGreatDoorKmb
namespace Go.Proofs.YtbloejlebikecaaGreatDoor
open Go.RowKit
set_option linter.unusedVariables false
set_option linter.unusedSimpArgs false

/-- the bytes behind j sums, noughts behind them -/
def sto (H : List UInt8 → List UInt8) (m j : Nat) : List UInt8 := (lks H j).take m ++ List.replicate (m - 32 * j) 0
section
variable {H : List UInt8 → List UInt8} (hH : ∀ x, (H x).length = 32)
theorem sto_none (m : Nat) : sto H m 0 = List.replicate m 0 := by simp [sto, lks]
include hH
theorem sto_length (m j : Nat) : (sto H m j).length = m := by
  rw [sto, List.length_append, List.length_take, List.length_replicate, lks_length H hH]; omega
theorem sto_all (m j : Nat) (h : m ≤ 32 * j) : sto H m j = mat H m := by
  rw [sto, show m - 32 * j = 0 by omega, List.replicate_zero, List.append_nil, mat_of H hH m j h]
theorem sto_head (m j : Nat) (h : 32 * j ≤ m) : (sto H m j).take (32 * j) = lks H j := by
  rw [sto, List.take_append_of_le_length (by rw [List.length_take, lks_length H hH]; omega), List.take_take, Nat.min_eq_left h]
  exact List.take_of_length_le (by rw [lks_length H hH]; exact Nat.le_refl _)
theorem sto_ahead (m j : Nat) (h : 32 * (j + 1) ≤ m) : ((sto H m (j + 1)).drop (32 * j)).take 32 = lk H (j + 1) := by
  have e := congrArg (fun l => (l.drop (32 * j)).take 32) (sto_head hH m (j + 1) h)
  simp only [List.drop_take] at e
  rw [show 32 * (j + 1) - 32 * j = 32 by omega, List.take_take, Nat.min_self] at e
  rw [e, lks, List.drop_append_of_le_length (by rw [lks_length H hH]; exact Nat.le_refl _), List.drop_of_length_le (by rw [lks_length H hH]; exact Nat.le_refl _), List.nil_append]
  exact List.take_of_length_le (by rw [lk_length H hH]; exact Nat.le_refl _)
theorem sto_next (m j k : Nat) (h : 32 * j < m) (hk : k = min 32 (m - 32 * j)) : (sto H m j).take (32 * j) ++ (lk H (j + 1)).take k ++ (sto H m j).drop (32 * j + k) = sto H m (j + 1) := by
  rw [sto_head hH m j (by omega)]
  have hd : (sto H m j).drop (32 * j + k) = List.replicate (m - 32 * (j + 1)) 0 := by
    rw [sto, List.take_of_length_le (by rw [lks_length H hH]; omega), List.drop_append, List.drop_of_length_le (by rw [lks_length H hH]; omega), List.nil_append, lks_length H hH, List.drop_replicate]
    congr 1; omega
  rw [hd]
  have ht : lks H j ++ (lk H (j + 1)).take k = (lks H (j + 1)).take m := by
    rw [lks, List.take_append, lks_length H hH, List.take_of_length_le (l := lks H j) (by rw [lks_length H hH]; omega)]
    congr 1
    by_cases hc : k = 32
    · rw [List.take_of_length_le (by rw [lk_length H hH]; omega), List.take_of_length_le (by rw [lk_length H hH]; omega)]
    · congr 1; omega
  rw [ht, sto]
end
theorem ahead_rd {H : List UInt8 → List UInt8} (hH : ∀ x, (H x).length = 32) {w : World} {g m j F f : Nat} (h : Row w g (sto H m j)) (hF : F = 32 * j) (hl : F < m) (hf : f = F - 32) : Rd w (past (some ⟨g, 0, none⟩) f F) (lk H j) ∧ (lk H j).length = F - f := by
  subst hF hf
  rcases j with _ | j
  · exact ⟨Rd.nil _ _, rfl⟩
  · refine ⟨?_, by rw [lk_length H hH]; omega⟩
    rw [past_in g _ _ (by omega), show 32 * (j + 1) - 32 = 32 * j by omega]
    have := h.rd (32 * j) 32
    rwa [sto_ahead hH m j (by omega)] at this
/-- the key of the sums -/
def kky (n0 n1 n2 n3 : Nat) (id : List UInt8) : List UInt8 := hm id (nb n0 n1 n2 n3)
theorem kky_length (n0 n1 n2 n3 : Nat) (id : List UInt8) : (kky n0 n1 n2 n3 id).length = 32 := hm_length _ _
theorem kmof_neg (n0 n1 n2 n3 : Nat) (id : List UInt8) (m : Int) (w : World) (hm : m < 0) :
    Calls Tryz.prog 5 #[.agg #[.int .u64 (n0 : Int), .int .u64 (n1 : Int), .int .u64 (n2 : Int), .int .u64 (n3 : Int)], .agg (bvs id).toArray, .int .i64 m] w fun e w' => e = .returned (.tuple #[.slice none 0 0, .int .i64 1]) ∧ Below w.heap.size w w' := by
  have HB := hid ((((Below.refl w.heap.size w).alloc (Nat.le_refl _) (.cells #[.int .u64 (n0 : Int), .int .u64 (n1 : Int), .int .u64 (n2 : Int), .int .u64 (n3 : Int)] 24)).alloc (by simp) (.cells (bvs id).toArray 26)))
  go_enter Tryz.func5, Tryz.ntmps5
  go_wp2_with fail
  go_ret2
  exact ⟨rfl, HB.out⟩
theorem kmof_big (n0 n1 n2 n3 : Nat) (id : List UInt8) (m : Int) (w : World) (h0 : ¬ m < 0) (hm : m > 8160) :
    Calls Tryz.prog 5 #[.agg #[.int .u64 (n0 : Int), .int .u64 (n1 : Int), .int .u64 (n2 : Int), .int .u64 (n3 : Int)], .agg (bvs id).toArray, .int .i64 m] w fun e w' => e = .returned (.tuple #[.slice none 0 0, .int .i64 3]) ∧ Below w.heap.size w w' := by
  have HB := hid ((((Below.refl w.heap.size w).alloc (Nat.le_refl _) (.cells #[.int .u64 (n0 : Int), .int .u64 (n1 : Int), .int .u64 (n2 : Int), .int .u64 (n3 : Int)] 24)).alloc (by simp) (.cells (bvs id).toArray 26)))
  go_enter Tryz.func5, Tryz.ntmps5
  go_wp2_with fail
  go_ret2
  exact ⟨rfl, HB.out⟩
set_option maxRecDepth 100000 in
set_option maxHeartbeats 4000000 in
theorem kmof_any (n0 n1 n2 n3 : Nat) (id : List UInt8) (m : Nat) (w : World) (h0 : n0 < 18446744073709551616) (h1 : n1 < 18446744073709551616) (h2 : n2 < 18446744073709551616) (h3 : n3 < 18446744073709551616) (hi : id.length = 32) (hml : m ≤ 8160) (hK : Kt w) :
    Calls Tryz.prog 5 #[.agg #[.int .u64 (n0 : Int), .int .u64 (n1 : Int), .int .u64 (n2 : Int), .int .u64 (n3 : Int)], .agg (bvs id).toArray, .int .i64 (m : Int)] w fun e w' => ∃ g, e = .returned (.tuple #[.slice (some ⟨g, 0, none⟩) m m, .int .i64 0]) ∧ Hid (Row w' g (mat (hm (kky n0 n1 n2 n3 id)) m) ∧ w.heap.size ≤ g ∧ Below w.heap.size w w') := by
  have H0 := hid h0
  have H1 := hid h1
  have H2 := hid h2
  have H3 := hid h3
  have HI := hid hi
  have HM := hid hml
  have hneg : ¬ (m : Int) < 0 := by omega
  have hbig : ¬ (m : Int) > 8160 := by omega
  have a1 := (Below.refl w.heap.size w).alloc (Nat.le_refl _) (.cells #[.int .u64 (n0 : Int), .int .u64 (n1 : Int), .int .u64 (n2 : Int), .int .u64 (n3 : Int)] 24)
  have HBW := hid (a1.alloc (by simp) (.cells (bvs id).toArray 26))
  have x1 := heap_alloc_new w (.cells #[.int .u64 (n0 : Int), .int .u64 (n1 : Int), .int .u64 (n2 : Int), .int .u64 (n3 : Int)] 24)
  have s1 := al_size w (.cells #[.int .u64 (n0 : Int), .int .u64 (n1 : Int), .int .u64 (n2 : Int), .int .u64 (n3 : Int)] 24)
  have x2 := heap_alloc_new (w.alloc (.cells #[.int .u64 (n0 : Int), .int .u64 (n1 : Int), .int .u64 (n2 : Int), .int .u64 (n3 : Int)] 24)) (.cells (bvs id).toArray 26)
  have b2 := (Below.refl (w.alloc (.cells #[.int .u64 (n0 : Int), .int .u64 (n1 : Int), .int .u64 (n2 : Int), .int .u64 (n3 : Int)] 24)).heap.size (w.alloc (.cells #[.int .u64 (n0 : Int), .int .u64 (n1 : Int), .int .u64 (n2 : Int), .int .u64 (n3 : Int)] 24))).alloc (Nat.le_refl _) (.cells (bvs id).toArray 26)
  rw [s1] at x2
  have FN := hid (on_nb (Nb.on (show Nb _ w.heap.size n0 n1 n2 n3 from x1) b2))
  have FI := hid (on_bt (show Bt _ (w.heap.size + 1) 26 id from x2))
  have FK := hid (on_kt (hK.on HBW.out))
  have HKW := hid hK
  clear a1 x1 s1 x2 b2 h0 h1 h2 h3 hi hml hK
  go_enter Tryz.func5, Tryz.ntmps5
  go_upto_region 5 with fail
  generalize (w.alloc (.cells #[.int .u64 (n0 : Int), .int .u64 (n1 : Int), .int .u64 (n2 : Int), .int .u64 (n3 : Int)] 24)).alloc (.cells (bvs id).toArray 26) = w1 at *
  have KL := hid (kky_length n0 n1 n2 n3 id)
  have KE := hid (show hm id (nb n0 n1 n2 n3) = kky n0 n1 n2 n3 id from rfl)
  generalize hkk : kky n0 n1 n2 n3 id = kk at *
  have HKK := hid hkk
  clear hkk
  go_cut [8] (fun s8 wx => ∃ g8 : Nat, s8 = .pointer (some ⟨g8, 0, none⟩) ∧ Hid (Below w1.heap.size w1 wx ∧ Bt wx g8 26 kk))
  case first =>
    refine wp_region_noPanic ?_
    refine Goes.region (fun (_ : Array Bool) (u : World) => Below w1.heap.size w1 u) (by as_aux_lemma => kernel_rfl) ?_
    have HB := hid (p := Below w1.heap.size w1 w1.drew) (Below.refl _ _).drew
    generalize w1.drew = w1d at *
    refine Goes.tk (i := 0) (o := ⟨some 17, _, _, _, _, _⟩) (v := ?_) [] (y := Or.inl ⟨by rfl, ?_⟩) (s := HB.out) (H := ?_)
    rotate_left
    · intro u hY; have hsl := sl32 (w.heap.size + 1); go_simp; try with_reducible rfl
    try simp only [putz]
    refine Goes.tk (i := 1) (o := ⟨some 18, _, _, _, _, _⟩) [] (y := Or.inl ⟨by rfl, fun u hY => y_ld _ _ rfl (.pointer (some ⟨w.heap.size, 0, none⟩)) _ rfl (ld_num (FN.out u (yet_of hY)))⟩) (s := HB.out) (H := ?_)
    try simp only [putz]
    refine Goes.two (i := 2) (j := 5) (o := ⟨some 19, _, _, _, _, _⟩) (p := ⟨some 8, _, _, _, _, _⟩) (by as_aux_lemma => kernel_rfl) rfl rfl (fun K hK => ?_) (fun K hK => ?_)
    · skip
      go_simp
      refine (putLong_any none 0 n0 n1 n2 n3 [] w1d (Rd.nil _ _) (by simp) H0.out H1.out H2.out H3.out).mono ?_
      rintro e w1_1 ⟨rfl, hrw, hb⟩
      have hz := HB.out.size
      simp only [List.nil_append, List.length_nil, Nat.zero_add] at hrw ⊢
      go_wp2_with fail
      refine hK.out _ _ (HB.out.trans (hb.mono HB.out.size)) ?_
      clear hK K
      try simp only [putz]
      have HB := hid (HB.out.trans (hb.mono HB.out.size))
      have FP := hid (And.intro (show Bt w1_1 (w1d.heap.size + 1) 5 (nb n0 n1 n2 n3) from hrw) (Nat.le_succ_of_le hz))
      generalize w1d.heap.size + 1 = gp at *
      clear hrw hb hz
      refine Goes.two (i := 3) (j := 5) (o := ⟨some 20, _, _, _, _, _⟩) (p := ⟨some 8, _, _, _, _, _⟩) (by as_aux_lemma => kernel_rfl) rfl rfl (fun K hK => ?_) (fun K hK => ?_)
      · skip
        go_simp
        have hb := (Below.refl w1_1.heap.size w1_1).alloc (Nat.le_refl _) (.cells #[.slice (some ⟨gp, 0, none⟩) 32 32] 27)
        have hh := Blk.new w1_1 #[.slice (some ⟨gp, 0, none⟩) 32 32] 27
        have hz := HB.out.size
        refine hK.out _ _ (HB.out.trans (hb.mono HB.out.size)) ?_
        clear hK K
        try simp only [putz]
        have HB := hid (HB.out.trans (hb.mono HB.out.size))
        have FP := hid (And.intro (FP.out.1.on hb) FP.out.2)
        generalize w1_1.alloc (.cells #[.slice (some ⟨gp, 0, none⟩) 32 32] 27) = w1_2 at *
        generalize w1_1.heap.size = g_2 at *
        have F3 := hid (And.intro hh hz)
        clear hb hh hz
        refine Goes.two (i := 4) (j := 5) (o := ⟨some 21, _, _, _, _, _⟩) (p := ⟨some 8, _, _, _, _, _⟩) (by as_aux_lemma => kernel_rfl) rfl rfl (fun K hK => ?_) (fun K hK => ?_)
        · skip
          go_simp
          have hrr : Rws w1_2 (some ⟨g_2, 0, none⟩) 1 (fun _ => some ⟨gp, 0, none⟩) (fun _ => 32) (fun _ => 32) (fun _ => nb n0 n1 n2 n3) := by
            intro r hr
            obtain rfl : r = 0 := by omega
            exact ⟨⟨g_2, 0, rfl, F3.out.1.lt, by rw [F3.out.1.cell]; rfl⟩, nb_length _ _ _ _, bt_rd FP.out.1, Nat.le_refl _, by decide, fun h => by cases h⟩
          refine (macof_any (some ⟨w.heap.size + 1, 0, none⟩) 32 id 32 (some ⟨g_2, 0, none⟩) 1 1 _ _ _ _ w1_2 HI.out (bt_rd (FI.out _ HB.out)) (by decide) (by decide) hrr (FK.out _ HB.out) (by decide) (fun r hr => by decide)).mono ?_
          rintro e w1_3 ⟨rfl, hb⟩
          rw [cat1]
          go_wp2_with fail
          refine hK.out _ _ (HB.out.trans (hb.mono HB.out.size)) ?_
          clear hK K hrr
          try simp only [putz]
          have HB := hid (HB.out.trans (hb.mono HB.out.size))
          have FP := hid (And.intro (FP.out.1.on hb) FP.out.2)
          have F3 := hid (And.intro (F3.out.1.on hb) F3.out.2)
          clear hb
          refine Goes.one (i := 5) (o := ⟨some 8, _, _, _, _, _⟩) (by as_aux_lemma => kernel_rfl) rfl (fun K hK => ?_)
          go_simp
          rw [← lit32]
          have hb := (Below.refl w1_3.heap.size w1_3).alloc (Nat.le_refl _) (.cells (bvs (List.replicate 32 0)).toArray 26)
          have hh := heap_alloc_new w1_3 (.cells (bvs (List.replicate 32 0)).toArray 26)
          have hz := HB.out.size
          refine hK.out _ _ (HB.out.trans (hb.mono HB.out.size)) ?_
          clear hK K
          try simp only [putz]
          have HB := hid (HB.out.trans (hb.mono HB.out.size))
          have FP := hid (And.intro (FP.out.1.on hb) FP.out.2)
          have F3 := hid (And.intro (F3.out.1.on hb) F3.out.2)
          generalize w1_3.alloc (.cells (bvs (List.replicate 32 0)).toArray 26) = w1_4 at *
          generalize w1_3.heap.size = g_4 at *
          have FZ := hid (And.intro (show Bt w1_4 g_4 26 _ from hh) hz)
          clear hb hh hz
          refine Goes.one (i := 6) (o := ⟨none, _, _, _, _, _⟩) (by as_aux_lemma => kernel_rfl) rfl (fun K hK => ?_)
          rw [if_pos (by rfl)]
          have hz := FZ.out.1
          unfold Bt at hz
          rw [KE.out]
          refine wp_store_row 26 (.tmp 8) (.tmp 21) (by rfl) g_4 (bvs kk).toArray (by rfl) (by rfl) 26 _ hz (hi44 kk KL.out).out (hsz _ kk (by rw [KL.out, List.length_replicate])).out (bvs_all kk) ?_
          have HW := below_setRow HB.out FZ.out.2 (bvs kk).toArray
          have HT := hid (FZ.out.1.row (m := kk))
          refine hK.out _ _ HW ?_
          clear hK K
          try simp only [putz]
          refine Goes.done (by as_aux_lemma => kernel_rfl) ?_ _
          refine NoPanic.normal ?_
          go_wp2
          go_meet
          exact ⟨_, rfl, hid ⟨HW, HT.out⟩⟩
        · skip
          go_simp
          rw [← lit32]
          have hb := (Below.refl w1_2.heap.size w1_2).alloc (Nat.le_refl _) (.cells (bvs (List.replicate 32 0)).toArray 26)
          have hh := heap_alloc_new w1_2 (.cells (bvs (List.replicate 32 0)).toArray 26)
          have hz := HB.out.size
          refine hK.out _ _ (HB.out.trans (hb.mono HB.out.size)) ?_
          clear hK K
          try simp only [putz]
          have HB := hid (HB.out.trans (hb.mono HB.out.size))
          have FP := hid (And.intro (FP.out.1.on hb) FP.out.2)
          have F3 := hid (And.intro (F3.out.1.on hb) F3.out.2)
          generalize w1_2.alloc (.cells (bvs (List.replicate 32 0)).toArray 26) = w1_5 at *
          generalize w1_2.heap.size = g_5 at *
          have FZ := hid (And.intro (show Bt w1_5 g_5 26 _ from hh) hz)
          clear hb hh hz
          refine Goes.one (i := 4) (o := ⟨some 21, _, _, _, _, _⟩) (by as_aux_lemma => kernel_rfl) rfl (fun K hK => ?_)
          go_simp
          have hrr : Rws w1_5 (some ⟨g_2, 0, none⟩) 1 (fun _ => some ⟨gp, 0, none⟩) (fun _ => 32) (fun _ => 32) (fun _ => nb n0 n1 n2 n3) := by
            intro r hr
            obtain rfl : r = 0 := by omega
            exact ⟨⟨g_2, 0, rfl, F3.out.1.lt, by rw [F3.out.1.cell]; rfl⟩, nb_length _ _ _ _, bt_rd FP.out.1, Nat.le_refl _, by decide, fun h => by cases h⟩
          refine (macof_any (some ⟨w.heap.size + 1, 0, none⟩) 32 id 32 (some ⟨g_2, 0, none⟩) 1 1 _ _ _ _ w1_5 HI.out (bt_rd (FI.out _ HB.out)) (by decide) (by decide) hrr (FK.out _ HB.out) (by decide) (fun r hr => by decide)).mono ?_
          rintro e w1_6 ⟨rfl, hb⟩
          rw [cat1]
          go_wp2_with fail
          refine hK.out _ _ (HB.out.trans (hb.mono HB.out.size)) ?_
          clear hK K hrr
          try simp only [putz]
          have HB := hid (HB.out.trans (hb.mono HB.out.size))
          have FP := hid (And.intro (FP.out.1.on hb) FP.out.2)
          have F3 := hid (And.intro (F3.out.1.on hb) F3.out.2)
          have FZ := hid (And.intro (FZ.out.1.on hb) FZ.out.2)
          clear hb
          refine Goes.one (i := 6) (o := ⟨none, _, _, _, _, _⟩) (by as_aux_lemma => kernel_rfl) rfl (fun K hK => ?_)
          rw [if_pos (by rfl)]
          have hz := FZ.out.1
          unfold Bt at hz
          rw [KE.out]
          refine wp_store_row 26 (.tmp 8) (.tmp 21) (by rfl) g_5 (bvs kk).toArray (by rfl) (by rfl) 26 _ hz (hi44 kk KL.out).out (hsz _ kk (by rw [KL.out, List.length_replicate])).out (bvs_all kk) ?_
          have HW := below_setRow HB.out FZ.out.2 (bvs kk).toArray
          have HT := hid (FZ.out.1.row (m := kk))
          refine hK.out _ _ HW ?_
          clear hK K
          try simp only [putz]
          refine Goes.done (by as_aux_lemma => kernel_rfl) ?_ _
          refine NoPanic.normal ?_
          go_wp2
          go_meet
          exact ⟨_, rfl, hid ⟨HW, HT.out⟩⟩
      · skip
        go_simp
        rw [← lit32]
        have hb := (Below.refl w1_1.heap.size w1_1).alloc (Nat.le_refl _) (.cells (bvs (List.replicate 32 0)).toArray 26)
        have hh := heap_alloc_new w1_1 (.cells (bvs (List.replicate 32 0)).toArray 26)
        have hz := HB.out.size
        refine hK.out _ _ (HB.out.trans (hb.mono HB.out.size)) ?_
        clear hK K
        try simp only [putz]
        have HB := hid (HB.out.trans (hb.mono HB.out.size))
        have FP := hid (And.intro (FP.out.1.on hb) FP.out.2)
        generalize w1_1.alloc (.cells (bvs (List.replicate 32 0)).toArray 26) = w1_7 at *
        generalize w1_1.heap.size = g_7 at *
        have FZ := hid (And.intro (show Bt w1_7 g_7 26 _ from hh) hz)
        clear hb hh hz
        refine Goes.one (i := 3) (o := ⟨some 20, _, _, _, _, _⟩) (by as_aux_lemma => kernel_rfl) rfl (fun K hK => ?_)
        go_simp
        have hb := (Below.refl w1_7.heap.size w1_7).alloc (Nat.le_refl _) (.cells #[.slice (some ⟨gp, 0, none⟩) 32 32] 27)
        have hh := Blk.new w1_7 #[.slice (some ⟨gp, 0, none⟩) 32 32] 27
        have hz := HB.out.size
        refine hK.out _ _ (HB.out.trans (hb.mono HB.out.size)) ?_
        clear hK K
        try simp only [putz]
        have HB := hid (HB.out.trans (hb.mono HB.out.size))
        have FP := hid (And.intro (FP.out.1.on hb) FP.out.2)
        have FZ := hid (And.intro (FZ.out.1.on hb) FZ.out.2)
        generalize w1_7.alloc (.cells #[.slice (some ⟨gp, 0, none⟩) 32 32] 27) = w1_8 at *
        generalize w1_7.heap.size = g_8 at *
        have F3 := hid (And.intro hh hz)
        clear hb hh hz
        refine Goes.one (i := 4) (o := ⟨some 21, _, _, _, _, _⟩) (by as_aux_lemma => kernel_rfl) rfl (fun K hK => ?_)
        go_simp
        have hrr : Rws w1_8 (some ⟨g_8, 0, none⟩) 1 (fun _ => some ⟨gp, 0, none⟩) (fun _ => 32) (fun _ => 32) (fun _ => nb n0 n1 n2 n3) := by
          intro r hr
          obtain rfl : r = 0 := by omega
          exact ⟨⟨g_8, 0, rfl, F3.out.1.lt, by rw [F3.out.1.cell]; rfl⟩, nb_length _ _ _ _, bt_rd FP.out.1, Nat.le_refl _, by decide, fun h => by cases h⟩
        refine (macof_any (some ⟨w.heap.size + 1, 0, none⟩) 32 id 32 (some ⟨g_8, 0, none⟩) 1 1 _ _ _ _ w1_8 HI.out (bt_rd (FI.out _ HB.out)) (by decide) (by decide) hrr (FK.out _ HB.out) (by decide) (fun r hr => by decide)).mono ?_
        rintro e w1_9 ⟨rfl, hb⟩
        rw [cat1]
        go_wp2_with fail
        refine hK.out _ _ (HB.out.trans (hb.mono HB.out.size)) ?_
        clear hK K hrr
        try simp only [putz]
        have HB := hid (HB.out.trans (hb.mono HB.out.size))
        have FP := hid (And.intro (FP.out.1.on hb) FP.out.2)
        have FZ := hid (And.intro (FZ.out.1.on hb) FZ.out.2)
        have F3 := hid (And.intro (F3.out.1.on hb) F3.out.2)
        clear hb
        refine Goes.one (i := 6) (o := ⟨none, _, _, _, _, _⟩) (by as_aux_lemma => kernel_rfl) rfl (fun K hK => ?_)
        rw [if_pos (by rfl)]
        have hz := FZ.out.1
        unfold Bt at hz
        rw [KE.out]
        refine wp_store_row 26 (.tmp 8) (.tmp 21) (by rfl) g_7 (bvs kk).toArray (by rfl) (by rfl) 26 _ hz (hi44 kk KL.out).out (hsz _ kk (by rw [KL.out, List.length_replicate])).out (bvs_all kk) ?_
        have HW := below_setRow HB.out FZ.out.2 (bvs kk).toArray
        have HT := hid (FZ.out.1.row (m := kk))
        refine hK.out _ _ HW ?_
        clear hK K
        try simp only [putz]
        refine Goes.done (by as_aux_lemma => kernel_rfl) ?_ _
        refine NoPanic.normal ?_
        go_wp2
        go_meet
        exact ⟨_, rfl, hid ⟨HW, HT.out⟩⟩
    · skip
      go_simp
      rw [← lit32]
      have hb := (Below.refl w1d.heap.size w1d).alloc (Nat.le_refl _) (.cells (bvs (List.replicate 32 0)).toArray 26)
      have hh := heap_alloc_new w1d (.cells (bvs (List.replicate 32 0)).toArray 26)
      have hz := HB.out.size
      refine hK.out _ _ (HB.out.trans (hb.mono HB.out.size)) ?_
      clear hK K
      try simp only [putz]
      have HB := hid (HB.out.trans (hb.mono HB.out.size))
      generalize w1d.alloc (.cells (bvs (List.replicate 32 0)).toArray 26) = w1_10 at *
      generalize w1d.heap.size = g_10 at *
      have FZ := hid (And.intro (show Bt w1_10 g_10 26 _ from hh) hz)
      clear hb hh hz
      refine Goes.one (i := 2) (o := ⟨some 19, _, _, _, _, _⟩) (by as_aux_lemma => kernel_rfl) rfl (fun K hK => ?_)
      go_simp
      refine (putLong_any none 0 n0 n1 n2 n3 [] w1_10 (Rd.nil _ _) (by simp) H0.out H1.out H2.out H3.out).mono ?_
      rintro e w1_11 ⟨rfl, hrw, hb⟩
      have hz := HB.out.size
      simp only [List.nil_append, List.length_nil, Nat.zero_add] at hrw ⊢
      go_wp2_with fail
      refine hK.out _ _ (HB.out.trans (hb.mono HB.out.size)) ?_
      clear hK K
      try simp only [putz]
      have HB := hid (HB.out.trans (hb.mono HB.out.size))
      have FZ := hid (And.intro (FZ.out.1.on hb) FZ.out.2)
      have FP := hid (And.intro (show Bt w1_11 (w1_10.heap.size + 1) 5 (nb n0 n1 n2 n3) from hrw) (Nat.le_succ_of_le hz))
      generalize w1_10.heap.size + 1 = gp at *
      clear hrw hb hz
      refine Goes.one (i := 3) (o := ⟨some 20, _, _, _, _, _⟩) (by as_aux_lemma => kernel_rfl) rfl (fun K hK => ?_)
      go_simp
      have hb := (Below.refl w1_11.heap.size w1_11).alloc (Nat.le_refl _) (.cells #[.slice (some ⟨gp, 0, none⟩) 32 32] 27)
      have hh := Blk.new w1_11 #[.slice (some ⟨gp, 0, none⟩) 32 32] 27
      have hz := HB.out.size
      refine hK.out _ _ (HB.out.trans (hb.mono HB.out.size)) ?_
      clear hK K
      try simp only [putz]
      have HB := hid (HB.out.trans (hb.mono HB.out.size))
      have FZ := hid (And.intro (FZ.out.1.on hb) FZ.out.2)
      have FP := hid (And.intro (FP.out.1.on hb) FP.out.2)
      generalize w1_11.alloc (.cells #[.slice (some ⟨gp, 0, none⟩) 32 32] 27) = w1_12 at *
      generalize w1_11.heap.size = g_12 at *
      have F3 := hid (And.intro hh hz)
      clear hb hh hz
      refine Goes.one (i := 4) (o := ⟨some 21, _, _, _, _, _⟩) (by as_aux_lemma => kernel_rfl) rfl (fun K hK => ?_)
      go_simp
      have hrr : Rws w1_12 (some ⟨g_12, 0, none⟩) 1 (fun _ => some ⟨gp, 0, none⟩) (fun _ => 32) (fun _ => 32) (fun _ => nb n0 n1 n2 n3) := by
        intro r hr
        obtain rfl : r = 0 := by omega
        exact ⟨⟨g_12, 0, rfl, F3.out.1.lt, by rw [F3.out.1.cell]; rfl⟩, nb_length _ _ _ _, bt_rd FP.out.1, Nat.le_refl _, by decide, fun h => by cases h⟩
      refine (macof_any (some ⟨w.heap.size + 1, 0, none⟩) 32 id 32 (some ⟨g_12, 0, none⟩) 1 1 _ _ _ _ w1_12 HI.out (bt_rd (FI.out _ HB.out)) (by decide) (by decide) hrr (FK.out _ HB.out) (by decide) (fun r hr => by decide)).mono ?_
      rintro e w1_13 ⟨rfl, hb⟩
      rw [cat1]
      go_wp2_with fail
      refine hK.out _ _ (HB.out.trans (hb.mono HB.out.size)) ?_
      clear hK K hrr
      try simp only [putz]
      have HB := hid (HB.out.trans (hb.mono HB.out.size))
      have FZ := hid (And.intro (FZ.out.1.on hb) FZ.out.2)
      have FP := hid (And.intro (FP.out.1.on hb) FP.out.2)
      have F3 := hid (And.intro (F3.out.1.on hb) F3.out.2)
      clear hb
      refine Goes.one (i := 6) (o := ⟨none, _, _, _, _, _⟩) (by as_aux_lemma => kernel_rfl) rfl (fun K hK => ?_)
      rw [if_pos (by rfl)]
      have hz := FZ.out.1
      unfold Bt at hz
      rw [KE.out]
      refine wp_store_row 26 (.tmp 8) (.tmp 21) (by rfl) g_10 (bvs kk).toArray (by rfl) (by rfl) 26 _ hz (hi44 kk KL.out).out (hsz _ kk (by rw [KL.out, List.length_replicate])).out (bvs_all kk) ?_
      have HW := below_setRow HB.out FZ.out.2 (bvs kk).toArray
      have HT := hid (FZ.out.1.row (m := kk))
      refine hK.out _ _ HW ?_
      clear hK K
      try simp only [putz]
      refine Goes.done (by as_aux_lemma => kernel_rfl) ?_ _
      refine NoPanic.normal ?_
      go_wp2
      go_meet
      exact ⟨_, rfl, hid ⟨HW, HT.out⟩⟩
  case rest =>
    obtain ⟨g8, rfl, HC⟩ := hcut
    have HB1 := hid (HBW.out.trans (HC.out.1.mono HBW.out.size))
    have HK1 := hid (FK.out _ HC.out.1)
    have HX1 := hid HC.out.2
    clear HC FN FI FK HBW H0 H1 H2 H3 HI
    have hmk := run_make_bytes wc m (by have := HM.out; omega)
    have hb := (Below.refl wc.heap.size wc).alloc (Nat.le_refl _) (.cells (bvs (List.replicate m 0)).toArray 5)
    have HB2 := hid (HB1.out.trans (hb.mono HB1.out.size))
    have HK2 := hid (HK1.out.on hb)
    have HX2 := hid (HX1.out.on hb)
    have HH := hid (p := ∀ x, (hm kk x).length = 32) (fun x => hm_length _ _)
    have HR2 := hid (p := Row _ wc.heap.size (sto (hm kk) m 0)) (by rw [sto_none]; exact heap_alloc_new wc (.cells (bvs (List.replicate m 0)).toArray 5))
    have HG2 := hid (p := w.heap.size ≤ wc.heap.size) HB1.out.size
    have HG3 := hid (p := g8 < wc.heap.size) HX1.out.lt
    clear hb HB1 HK1 HX1
    go_upto_region 7 with fail
    clear hmk hneg hbig
    generalize wc.alloc (.cells (bvs (List.replicate m 0)).toArray 5) = w2 at *
    generalize wc.heap.size = g9 at *
    go_wp2_with fail
    go_loopw [10] (fun i wr => ∃ j F : Nat, F = 32 * j ∧ F ≤ m + 31 ∧ i = .int .i64 (F : Int) ∧ Hid (Below w.heap.size w wr ∧ Kt wr ∧ Bt wr g8 26 kk ∧ Row wr g9 (sto (hm kk) m j))) (fun i _ => m + 32 - (intOf i).toNat)
    case atStart => exact ⟨0, 0, rfl, Nat.zero_le _, rfl, hid ⟨HB2.out, HK2.out, HX2.out, HR2.out⟩⟩
    case round =>
      clear HB2 HK2 HX2 HR2
      obtain ⟨j, F, hF, hFm, rfl, HL⟩ := hrel
      by_cases hlt : F < m
      · have HLT := hid hlt
        have hli : (F : Int) < (m : Int) := by omega
        have hMM := HM.out
        have hw32 : IntKind.i64.wrap ((F : Int) - 32) = (F : Int) - 32 := by rw [IntKind.wrap_i64]; omega
        have hw33 : IntKind.i64.wrap ((F : Int) + 32) = ((F + 32 : Nat) : Int) := by rw [IntKind.wrap_i64]; omega
        obtain ⟨f, hf⟩ : ∃ f, f = F - 32 := ⟨_, rfl⟩
        have hmx : (if (F : Int) - 32 < 0 then (0 : Int) else (F : Int) - 32) = (f : Int) := by split <;> omega
        have hsl := slice_lhm (some ⟨g9, 0, none⟩) m m f F F (by omega) (Nat.le_refl _) (by omega)
        have HA := hid (ahead_rd HH.out HL.out.2.2.2 hF hlt hf)
        have HBF := hid (p := F - f ≤ 32) (by omega)
        have HFF := hid hF
        have HJM := hid (p := 32 * j < m) (by omega)
        clear hF hf hFm hMM
        go_upto_region 10 with fail
        go_upto_region 11 with fail
        clear hmx
        have hs8 := sl32 g8
        have hcv := conv_c wr #[.int .u8 108, .int .u8 97, .int .u8 110, .int .u8 101] 4 wr.heap.size rfl rfl
        have hdv : Int.tdiv (F : Int) 32 = (j : Int) := by have := HFF.out; rw [Int.tdiv_eq_ediv_of_nonneg (by omega)]; omega
        have hdv2 : (F : Int) / 32 = (j : Int) := by have := HFF.out; omega
        have hwj : IntKind.i64.wrap ((j : Int) + 1) = (j : Int) + 1 := by have := HJM.out; have := HM.out; rw [IntKind.wrap_i64]; omega
        have hwj0 : IntKind.i64.wrap (j : Int) = (j : Int) := by have := HJM.out; have := HM.out; rw [IntKind.wrap_i64]; omega
        obtain ⟨b, hbe⟩ : ∃ b, b = UInt8.ofNat (j + 1) := ⟨_, rfl⟩
        have hwb : IntKind.u8.wrap ((j : Int) + 1) = ((b.toNat : Nat) : Int) := by have := HJM.out; have := HM.out; rw [hbe, IntKind.wrap_u8, UInt8.toNat_ofNat']; omega
        have HBE := hid hbe
        clear hbe
        go_wp2_with fail
        clear hsl hs8 hcv
        obtain ⟨w4, hw4, HB4, HR4⟩ := parts3 wr (past (some ⟨g9, 0, none⟩) f F) (F - f) (F - f) (lk (hm kk) j) b HA.out.1 HA.out.2 (Nat.le_refl _) (by have := HBF.out; omega) (fun h => absurd h (past_some _ _ _))
        rw [← hw4]
        clear hw4
        refine (macof_any (some ⟨g8, 0, none⟩) 32 kk 32 (some ⟨wr.heap.size + 1 + 1, 0, none⟩) 3 3 _ _ _ _ w4 KL.out (bt_rd (HL.out.2.2.1.on HB4.out)) (by decide) (by decide) HR4.out (HL.out.2.1.on HB4.out) (by decide) (fun r hr => by have := HBF.out; split; omega; split <;> decide)).mono ?_
        rintro e w5 ⟨rfl, hb5⟩
        rw [cat3, HBE.out]
        have HBB := hid (HB4.out.trans (hb5.mono HB4.out.size))
        have HTL := hid (lk_length (hm kk) HH.out j)
        have HN := hid (sto_next HH.out m j (min 32 (m - F)) (by have := HFF.out; have := HLT.out; omega) (by rw [HFF.out]))
        rw [show hm kk (lk (hm kk) j ++ lane ++ [UInt8.ofNat (j + 1)]) = lk (hm kk) (j + 1) from rfl]
        generalize lk (hm kk) (j + 1) = t at *
        have HI := hi44 t HTL.out
        have HO := ho32 t HTL.out
        obtain ⟨hB6, hX6, hs6⟩ := box1 w5 26 t
        have HB6 := hid (HBB.out.trans (hB6.out.mono HBB.out.size))
        have HX6 := hid hX6.out
        clear hB6 hX6 hs6 hb5 HB4 HR4
        go_upto_region 12 with (refine wpList_store_row rfl 26 (.tmp 12) (.tmp 46) rfl w5.heap.size (bvs t).toArray rfl rfl 26 _ (heap_alloc_new _ _) HI.out HO.out (bvs_all _) ?_; rw [World.setRow_alloc_new])
        generalize w5.alloc (.cells (bvs t).toArray 26) = w6 at *
        generalize w5.heap.size = g12 at *
        have hsl := slice_from (some ⟨g9, 0, none⟩) m m F (Nat.le_of_lt HLT.out)
        rw [past_in g9 F m HLT.out] at hsl
        have hs12 := sl32 g12
        go_still_tail 4, (by kernel_rfl)
        change wpList _ _ _ _ _ w6.drew
        have HB7 := hid (p := Below wr.heap.size wr w6.drew) HB6.out.drew
        have HX7 := hid (p := Bt w6.drew g12 26 t) HX6.out
        clear HBB HB6 HX6
        generalize w6.drew = w7 at *
        have HR7 := hid (p := Row w7 g9 (sto (hm kk) m j)) (HL.out.2.2.2.below HB7.out HL.out.2.2.2.lt)
        obtain ⟨w8, hrun, hbt, hgr⟩ := run_copy_at w7 g9 5 (sto (hm kk) m j) t (some ⟨g12, 0, none⟩) F (m - F) (m - F) 32 32 (min 32 (m - F)) HR7.out (bt_rd HX7.out) HTL.out rfl (by have := HLT.out; omega) (by rw [sto_length HH.out]; have := HLT.out; omega)
        have HRN := hid (p := Row w8 g9 (sto (hm kk) m (j + 1))) (by rw [← HN.out, ← HFF.out]; exact hbt)
        have hb8 : Below g9 wr w8 := below_grown (HB7.out.mono (Nat.le_of_lt HL.out.2.2.2.lt)) hgr (Nat.le_refl _) (Nat.le_of_lt (Nat.lt_of_lt_of_le HL.out.2.2.2.lt HB7.out.size))
        have HBN := hid (p := Below w.heap.size w w8) (HL.out.1.trans (hb8.mono HG2.out))
        have HXN := hid (p := Bt w8 g8 26 kk) ((hb8.block g8 HG3.out).trans HL.out.2.2.1)
        clear hbt hgr hb8 HR7 HX7 HB7 HN
        go_wp2_with fail
        go_roundw
        case rel => exact ⟨j + 1, F + 32, by have := HFF.out; omega, by have := HLT.out; omega, rfl, hid ⟨HBN.out, HKW.out.on HBN.out, HXN.out, HRN.out⟩⟩
        case measure => have := HLT.out; simp [intOf]; omega
      · have HE := hid (p := Row wr g9 (mat (hm kk) m)) (by rw [← sto_all HH.out m j (by omega)]; exact HL.out.2.2.2)
        go_wp2_with fail
        go_ret2
        exact ⟨g9, rfl, hid ⟨by rw [HKK.out]; exact HE.out, HG2.out, HL.out.1⟩⟩
end Go.Proofs.YtbloejlebikecaaGreatDoor
