/-
  burrowlaw10.KeymatsChain, walked: it answers true. Condition: the library's table holds what its text lays.
-/
import Derived.Test.YtbloejlebikecaaDoorKmg
namespace Go.Proofs.YtbloejlebikecaaDoor
open Go.RowKit
set_option linter.unusedVariables false
set_option linter.unusedSimpArgs false

set_option maxRecDepth 100000 in
set_option maxHeartbeats 8000000 in
theorem chain_law (n0 n1 n2 n3 : Nat) (id : List UInt8) (c : Nat) (w : World) (h0 : n0 < 18446744073709551616) (h1 : n1 < 18446744073709551616) (h2 : n2 < 18446744073709551616) (h3 : n3 < 18446744073709551616) (hi : id.length = 32) (hc : c < 256) (hK : Kt w) :
    Calls Tryd.prog 4 #[.agg #[.int .u64 (n0 : Int), .int .u64 (n1 : Int), .int .u64 (n2 : Int), .int .u64 (n3 : Int)], .agg (bvs id).toArray, .int .u8 (c : Int)] w fun e w' => e = .returned (.bool true) ∧ Below w.heap.size w w' := by
  have H0 := hid h0
  have H1 := hid h1
  have H2 := hid h2
  have H3 := hid h3
  have HI := hid hi
  have HK := hid hK
  obtain ⟨b2, x2, y2, s2⟩ := boxes2 n0 n1 n2 n3 id w
  have HB1 := hid b2.out
  have FN := hid (on_nb x2.out)
  have FI := hid (on_bt y2.out)
  obtain ⟨d, hd⟩ : ∃ d, d = c % 20 := ⟨_, rfl⟩
  obtain ⟨n, hn⟩ : ∃ n, n = 1 + d := ⟨_, rfl⟩
  obtain ⟨p, hp⟩ : ∃ p, p = 32 * n := ⟨_, rfl⟩
  obtain ⟨m, hm'⟩ : ∃ m, m = p + 32 := ⟨_, rfl⟩
  obtain ⟨f, hf⟩ : ∃ f, f = p - 32 := ⟨_, rfl⟩
  obtain ⟨bb, hbb⟩ : ∃ bb, bb = UInt8.ofNat (n + 1) := ⟨_, rfl⟩
  have r1 : Int.tmod (c : Int) 20 = (d : Int) := by rw [Int.tmod_eq_emod_of_nonneg (by omega)]; omega
  have r2 : (c : Int) % 20 = (d : Int) := by omega
  have r3 : IntKind.i64.wrap (c : Int) = (c : Int) := by rw [IntKind.wrap_i64]; omega
  have r4 : IntKind.i64.wrap (d : Int) = (d : Int) := by rw [IntKind.wrap_i64]; omega
  have r5 : IntKind.i64.wrap (1 + (d : Int)) = (n : Int) := by rw [IntKind.wrap_i64]; omega
  have q1 : IntKind.i64.wrap (32 * (n : Int)) = (p : Int) := by rw [IntKind.wrap_i64]; omega
  have q2 : IntKind.i64.wrap ((p : Int) + 32) = (m : Int) := by rw [IntKind.wrap_i64]; omega
  have q3 : IntKind.i64.wrap ((p : Int) - 32) = (f : Int) := by rw [IntKind.wrap_i64]; omega
  have q4 : IntKind.i64.wrap ((n : Int) + 1) = (n : Int) + 1 := by rw [IntKind.wrap_i64]; omega
  have q5 : IntKind.u8.wrap ((n : Int) + 1) = ((bb.toNat : Nat) : Int) := by rw [hbb, IntKind.wrap_u8, UInt8.toNat_ofNat']; omega
  have HNN := hid (p := 1 ≤ n ∧ n ≤ 20 ∧ p = 32 * n) ⟨by omega, by omega, hp⟩
  have HMM := hid (p := m = p + 32 ∧ f = p - 32 ∧ 32 ≤ p ∧ p ≤ 640) ⟨hm', hf, by omega, by omega⟩
  have HBB := hid hbb
  clear b2 x2 y2 s2 h0 h1 h2 h3 hi hK hd hn hp hm' hf hc hbb
  have FK := hid (on_kt (HK.out.on HB1.out))
  have Q3 := hid q3
  have Q4 := hid q4
  have Q5 := hid q5
  have Q1 := hid q1
  clear q3 q4 q5
  go_enter Tryd.func4, Tryd.ntmps4
  go_upto_region 2 with fail
  clear r1 r2 r3 r4 r5
  generalize ((w.alloc (.cells #[.int .u64 (n0 : Int), .int .u64 (n1 : Int), .int .u64 (n2 : Int), .int .u64 (n3 : Int)] 24)).alloc (.cells (bvs id).toArray 26)) = w1 at *
  have KL := hid (kky_length n0 n1 n2 n3 id)
  have KE := hid (kky_eq n0 n1 n2 n3 id)
  have HQ := hid (fun W (h : Kt W) (hm : m ≤ 8160) => kmof_any n0 n1 n2 n3 id m W H0.out H1.out H2.out H3.out HI.out hm h)
  generalize kky n0 n1 n2 n3 id = kk at *
  go_cut [8] (fun s8 wx => ∃ g8 : Nat, s8 = .pointer (some ⟨g8, 0, none⟩) ∧ Hid (Below w1.heap.size w1 wx ∧ Bt wx g8 26 kk))
  case first =>
    refine wp_region_noPanic ?_
    refine Goes.region (fun (_ : Array Bool) (u : World) => Below w1.heap.size w1 u) (by as_aux_lemma => kernel_rfl) ?_
    have HB := hid (p := Below w1.heap.size w1 w1.drew) (Below.refl _ _).drew
    generalize w1.drew = w1d at *
    refine Goes.tk (i := 0) (o := ⟨some 16, _, _, _, _, _⟩) (v := ?_) [] (y := Or.inl ⟨by rfl, ?_⟩) (s := HB.out) (H := ?_)
    rotate_left
    · intro u hY; have hsl := sl32 (w.heap.size + 1); go_simp; try with_reducible rfl
    try simp only [putz]
    refine Goes.tk (i := 1) (o := ⟨some 17, _, _, _, _, _⟩) [] (y := Or.inl ⟨by rfl, fun u hY => y_ld _ _ rfl (.pointer (some ⟨w.heap.size, 0, none⟩)) _ rfl (ld_num (FN.out u (yet_of hY)))⟩) (s := HB.out) (H := ?_)
    try simp only [putz]
    refine Goes.two (i := 2) (j := 5) (o := ⟨some 18, _, _, _, _, _⟩) (p := ⟨some 8, _, _, _, _, _⟩) (by as_aux_lemma => kernel_rfl) rfl rfl (fun K hK => ?_) (fun K hK => ?_)
    · skip
      go_simp
      refine (putLong_any none 0 n0 n1 n2 n3 [] w1d (Rd.nil _ _) (by simp) H0.out H1.out H2.out H3.out).mono ?_
      rintro e w1_1 ⟨rfl, hrw, hb⟩
      have hz := HB.out.size
      try simp only [List.nil_append, List.length_nil, Nat.zero_add] at hrw ⊢
      go_wp2_with fail
      refine hK.out _ _ (HB.out.trans (hb.mono HB.out.size)) ?_
      clear hK K
      try simp only [putz]
      have HB := hid (HB.out.trans (hb.mono HB.out.size))
      have FP := hid (And.intro (show Bt w1_1 (w1d.heap.size + 1) 5 (nb n0 n1 n2 n3) from hrw) (Nat.le_succ_of_le hz))
      generalize w1d.heap.size + 1 = gp at *
      clear hrw hb hz
      refine Goes.two (i := 3) (j := 5) (o := ⟨some 19, _, _, _, _, _⟩) (p := ⟨some 8, _, _, _, _, _⟩) (by as_aux_lemma => kernel_rfl) rfl rfl (fun K hK => ?_) (fun K hK => ?_)
      · skip
        go_simp
        have hb := (Below.refl w1_1.heap.size w1_1).alloc (Nat.le_refl _) (.cells #[.slice (some ⟨gp, 0, none⟩) 32 32] 29)
        have hh := Blk.new w1_1 #[.slice (some ⟨gp, 0, none⟩) 32 32] 29
        have hz := HB.out.size
        refine hK.out _ _ (HB.out.trans (hb.mono HB.out.size)) ?_
        clear hK K
        try simp only [putz]
        have HB := hid (HB.out.trans (hb.mono HB.out.size))
        have FP := hid (And.intro (FP.out.1.on hb) FP.out.2)
        generalize w1_1.alloc (.cells #[.slice (some ⟨gp, 0, none⟩) 32 32] 29) = w1_2 at *
        generalize w1_1.heap.size = g_2 at *
        have F3 := hid (And.intro hh hz)
        clear hb hh hz
        refine Goes.two (i := 4) (j := 5) (o := ⟨some 20, _, _, _, _, _⟩) (p := ⟨some 8, _, _, _, _, _⟩) (by as_aux_lemma => kernel_rfl) rfl rfl (fun K hK => ?_) (fun K hK => ?_)
        · skip
          go_simp
          have hrr : Rws w1_2 (some ⟨g_2, 0, none⟩) 1 (fun _ => some ⟨gp, 0, none⟩) (fun _ => 32) (fun _ => 32) (fun _ => nb n0 n1 n2 n3) := by
            intro r hr
            obtain rfl : r = 0 := by omega
            exact ⟨⟨g_2, 0, rfl, F3.out.1.lt, by rw [F3.out.1.cell]; rfl⟩, nb_length _ _ _ _, bt_rd FP.out.1, Nat.le_refl _, by decide, fun h => by cases h⟩
          refine (macof_any (some ⟨w.heap.size + 1, 0, none⟩) 32 id 32 (some ⟨g_2, 0, none⟩) 1 1 _ _ _ _ w1_2 HI.out (bt_rd (FI.out _ HB.out)) (by decide) (by decide) hrr (FK.out _ HB.out) (by decide) (fun r hr => by decide)).mono ?_
          rintro e w1_3 ⟨rfl, hb⟩
          rw [cat1]
          go_wp2_with fail
          refine hK.out _ _ (HB.out.trans (hb.mono HB.out.size)) ?_
          clear hK K hrr
          try simp only [putz]
          have HB := hid (HB.out.trans (hb.mono HB.out.size))
          have FP := hid (And.intro (FP.out.1.on hb) FP.out.2)
          have F3 := hid (And.intro (F3.out.1.on hb) F3.out.2)
          clear hb
          refine Goes.one (i := 5) (o := ⟨some 8, _, _, _, _, _⟩) (by as_aux_lemma => kernel_rfl) rfl (fun K hK => ?_)
          go_simp
          rw [← lit32]
          have hb := (Below.refl w1_3.heap.size w1_3).alloc (Nat.le_refl _) (.cells (bvs (List.replicate 32 0)).toArray 26)
          have hh := heap_alloc_new w1_3 (.cells (bvs (List.replicate 32 0)).toArray 26)
          have hz := HB.out.size
          refine hK.out _ _ (HB.out.trans (hb.mono HB.out.size)) ?_
          clear hK K
          try simp only [putz]
          have HB := hid (HB.out.trans (hb.mono HB.out.size))
          have Ng_2g_4 := hid F3.out.1.lt
          have FP := hid (And.intro (FP.out.1.on hb) FP.out.2)
          have F3 := hid (And.intro (F3.out.1.on hb) F3.out.2)
          generalize w1_3.alloc (.cells (bvs (List.replicate 32 0)).toArray 26) = w1_4 at *
          generalize w1_3.heap.size = g_4 at *
          have FZ := hid (And.intro (show Bt w1_4 g_4 26 _ from hh) hz)
          clear hb hh hz
          refine Goes.one (i := 6) (o := ⟨none, _, _, _, _, _⟩) (by as_aux_lemma => kernel_rfl) rfl (fun K hK => ?_)
          rw [if_pos (by rfl)]
          have hz := FZ.out.1
          unfold Bt at hz
          rw [KE.out]
          refine wp_store_row 26 (.tmp 8) (.tmp 20) (by rfl) g_4 (bvs kk).toArray (by rfl) (by rfl) 26 _ hz (hi44 kk KL.out).out (hsz _ kk (by rw [KL.out, List.length_replicate])).out (bvs_all kk) ?_
          have HW := below_setRow HB.out FZ.out.2 (bvs kk).toArray
          have HT := hid (FZ.out.1.row (m := kk))
          refine hK.out _ _ HW ?_
          clear hK K
          try simp only [putz]
          refine Goes.done (by as_aux_lemma => kernel_rfl) ?_ _
          refine NoPanic.normal ?_
          go_wp2
          go_meet
          exact ⟨_, rfl, hid ⟨HW, HT.out⟩⟩
        · skip
          go_simp
          rw [← lit32]
          have hb := (Below.refl w1_2.heap.size w1_2).alloc (Nat.le_refl _) (.cells (bvs (List.replicate 32 0)).toArray 26)
          have hh := heap_alloc_new w1_2 (.cells (bvs (List.replicate 32 0)).toArray 26)
          have hz := HB.out.size
          refine hK.out _ _ (HB.out.trans (hb.mono HB.out.size)) ?_
          clear hK K
          try simp only [putz]
          have HB := hid (HB.out.trans (hb.mono HB.out.size))
          have Ng_2g_5 := hid F3.out.1.lt
          have FP := hid (And.intro (FP.out.1.on hb) FP.out.2)
          have F3 := hid (And.intro (F3.out.1.on hb) F3.out.2)
          generalize w1_2.alloc (.cells (bvs (List.replicate 32 0)).toArray 26) = w1_5 at *
          generalize w1_2.heap.size = g_5 at *
          have FZ := hid (And.intro (show Bt w1_5 g_5 26 _ from hh) hz)
          clear hb hh hz
          refine Goes.one (i := 4) (o := ⟨some 20, _, _, _, _, _⟩) (by as_aux_lemma => kernel_rfl) rfl (fun K hK => ?_)
          go_simp
          have hrr : Rws w1_5 (some ⟨g_2, 0, none⟩) 1 (fun _ => some ⟨gp, 0, none⟩) (fun _ => 32) (fun _ => 32) (fun _ => nb n0 n1 n2 n3) := by
            intro r hr
            obtain rfl : r = 0 := by omega
            exact ⟨⟨g_2, 0, rfl, F3.out.1.lt, by rw [F3.out.1.cell]; rfl⟩, nb_length _ _ _ _, bt_rd FP.out.1, Nat.le_refl _, by decide, fun h => by cases h⟩
          refine (macof_any (some ⟨w.heap.size + 1, 0, none⟩) 32 id 32 (some ⟨g_2, 0, none⟩) 1 1 _ _ _ _ w1_5 HI.out (bt_rd (FI.out _ HB.out)) (by decide) (by decide) hrr (FK.out _ HB.out) (by decide) (fun r hr => by decide)).mono ?_
          rintro e w1_6 ⟨rfl, hb⟩
          rw [cat1]
          go_wp2_with fail
          refine hK.out _ _ (HB.out.trans (hb.mono HB.out.size)) ?_
          clear hK K hrr
          try simp only [putz]
          have HB := hid (HB.out.trans (hb.mono HB.out.size))
          have FP := hid (And.intro (FP.out.1.on hb) FP.out.2)
          have F3 := hid (And.intro (F3.out.1.on hb) F3.out.2)
          have FZ := hid (And.intro (FZ.out.1.on hb) FZ.out.2)
          clear hb
          refine Goes.one (i := 6) (o := ⟨none, _, _, _, _, _⟩) (by as_aux_lemma => kernel_rfl) rfl (fun K hK => ?_)
          rw [if_pos (by rfl)]
          have hz := FZ.out.1
          unfold Bt at hz
          rw [KE.out]
          refine wp_store_row 26 (.tmp 8) (.tmp 20) (by rfl) g_5 (bvs kk).toArray (by rfl) (by rfl) 26 _ hz (hi44 kk KL.out).out (hsz _ kk (by rw [KL.out, List.length_replicate])).out (bvs_all kk) ?_
          have HW := below_setRow HB.out FZ.out.2 (bvs kk).toArray
          have HT := hid (FZ.out.1.row (m := kk))
          refine hK.out _ _ HW ?_
          clear hK K
          try simp only [putz]
          refine Goes.done (by as_aux_lemma => kernel_rfl) ?_ _
          refine NoPanic.normal ?_
          go_wp2
          go_meet
          exact ⟨_, rfl, hid ⟨HW, HT.out⟩⟩
      · skip
        go_simp
        rw [← lit32]
        have hb := (Below.refl w1_1.heap.size w1_1).alloc (Nat.le_refl _) (.cells (bvs (List.replicate 32 0)).toArray 26)
        have hh := heap_alloc_new w1_1 (.cells (bvs (List.replicate 32 0)).toArray 26)
        have hz := HB.out.size
        refine hK.out _ _ (HB.out.trans (hb.mono HB.out.size)) ?_
        clear hK K
        try simp only [putz]
        have HB := hid (HB.out.trans (hb.mono HB.out.size))
        have FP := hid (And.intro (FP.out.1.on hb) FP.out.2)
        generalize w1_1.alloc (.cells (bvs (List.replicate 32 0)).toArray 26) = w1_7 at *
        generalize w1_1.heap.size = g_7 at *
        have FZ := hid (And.intro (show Bt w1_7 g_7 26 _ from hh) hz)
        clear hb hh hz
        refine Goes.one (i := 3) (o := ⟨some 19, _, _, _, _, _⟩) (by as_aux_lemma => kernel_rfl) rfl (fun K hK => ?_)
        go_simp
        have hb := (Below.refl w1_7.heap.size w1_7).alloc (Nat.le_refl _) (.cells #[.slice (some ⟨gp, 0, none⟩) 32 32] 29)
        have hh := Blk.new w1_7 #[.slice (some ⟨gp, 0, none⟩) 32 32] 29
        have hz := HB.out.size
        refine hK.out _ _ (HB.out.trans (hb.mono HB.out.size)) ?_
        clear hK K
        try simp only [putz]
        have HB := hid (HB.out.trans (hb.mono HB.out.size))
        have Ng_7g_8 := hid FZ.out.1.lt
        have FP := hid (And.intro (FP.out.1.on hb) FP.out.2)
        have FZ := hid (And.intro (FZ.out.1.on hb) FZ.out.2)
        generalize w1_7.alloc (.cells #[.slice (some ⟨gp, 0, none⟩) 32 32] 29) = w1_8 at *
        generalize w1_7.heap.size = g_8 at *
        have F3 := hid (And.intro hh hz)
        clear hb hh hz
        refine Goes.one (i := 4) (o := ⟨some 20, _, _, _, _, _⟩) (by as_aux_lemma => kernel_rfl) rfl (fun K hK => ?_)
        go_simp
        have hrr : Rws w1_8 (some ⟨g_8, 0, none⟩) 1 (fun _ => some ⟨gp, 0, none⟩) (fun _ => 32) (fun _ => 32) (fun _ => nb n0 n1 n2 n3) := by
          intro r hr
          obtain rfl : r = 0 := by omega
          exact ⟨⟨g_8, 0, rfl, F3.out.1.lt, by rw [F3.out.1.cell]; rfl⟩, nb_length _ _ _ _, bt_rd FP.out.1, Nat.le_refl _, by decide, fun h => by cases h⟩
        refine (macof_any (some ⟨w.heap.size + 1, 0, none⟩) 32 id 32 (some ⟨g_8, 0, none⟩) 1 1 _ _ _ _ w1_8 HI.out (bt_rd (FI.out _ HB.out)) (by decide) (by decide) hrr (FK.out _ HB.out) (by decide) (fun r hr => by decide)).mono ?_
        rintro e w1_9 ⟨rfl, hb⟩
        rw [cat1]
        go_wp2_with fail
        refine hK.out _ _ (HB.out.trans (hb.mono HB.out.size)) ?_
        clear hK K hrr
        try simp only [putz]
        have HB := hid (HB.out.trans (hb.mono HB.out.size))
        have FP := hid (And.intro (FP.out.1.on hb) FP.out.2)
        have FZ := hid (And.intro (FZ.out.1.on hb) FZ.out.2)
        have F3 := hid (And.intro (F3.out.1.on hb) F3.out.2)
        clear hb
        refine Goes.one (i := 6) (o := ⟨none, _, _, _, _, _⟩) (by as_aux_lemma => kernel_rfl) rfl (fun K hK => ?_)
        rw [if_pos (by rfl)]
        have hz := FZ.out.1
        unfold Bt at hz
        rw [KE.out]
        refine wp_store_row 26 (.tmp 8) (.tmp 20) (by rfl) g_7 (bvs kk).toArray (by rfl) (by rfl) 26 _ hz (hi44 kk KL.out).out (hsz _ kk (by rw [KL.out, List.length_replicate])).out (bvs_all kk) ?_
        have HW := below_setRow HB.out FZ.out.2 (bvs kk).toArray
        have HT := hid (FZ.out.1.row (m := kk))
        refine hK.out _ _ HW ?_
        clear hK K
        try simp only [putz]
        refine Goes.done (by as_aux_lemma => kernel_rfl) ?_ _
        refine NoPanic.normal ?_
        go_wp2
        go_meet
        exact ⟨_, rfl, hid ⟨HW, HT.out⟩⟩
    · skip
      go_simp
      rw [← lit32]
      have hb := (Below.refl w1d.heap.size w1d).alloc (Nat.le_refl _) (.cells (bvs (List.replicate 32 0)).toArray 26)
      have hh := heap_alloc_new w1d (.cells (bvs (List.replicate 32 0)).toArray 26)
      have hz := HB.out.size
      refine hK.out _ _ (HB.out.trans (hb.mono HB.out.size)) ?_
      clear hK K
      try simp only [putz]
      have HB := hid (HB.out.trans (hb.mono HB.out.size))
      generalize w1d.alloc (.cells (bvs (List.replicate 32 0)).toArray 26) = w1_10 at *
      generalize w1d.heap.size = g_10 at *
      have FZ := hid (And.intro (show Bt w1_10 g_10 26 _ from hh) hz)
      clear hb hh hz
      refine Goes.one (i := 2) (o := ⟨some 18, _, _, _, _, _⟩) (by as_aux_lemma => kernel_rfl) rfl (fun K hK => ?_)
      go_simp
      refine (putLong_any none 0 n0 n1 n2 n3 [] w1_10 (Rd.nil _ _) (by simp) H0.out H1.out H2.out H3.out).mono ?_
      rintro e w1_11 ⟨rfl, hrw, hb⟩
      have hz := HB.out.size
      try simp only [List.nil_append, List.length_nil, Nat.zero_add] at hrw ⊢
      go_wp2_with fail
      refine hK.out _ _ (HB.out.trans (hb.mono HB.out.size)) ?_
      clear hK K
      try simp only [putz]
      have HB := hid (HB.out.trans (hb.mono HB.out.size))
      have FZ := hid (And.intro (FZ.out.1.on hb) FZ.out.2)
      have FP := hid (And.intro (show Bt w1_11 (w1_10.heap.size + 1) 5 (nb n0 n1 n2 n3) from hrw) (Nat.le_succ_of_le hz))
      generalize w1_10.heap.size + 1 = gp at *
      clear hrw hb hz
      refine Goes.one (i := 3) (o := ⟨some 19, _, _, _, _, _⟩) (by as_aux_lemma => kernel_rfl) rfl (fun K hK => ?_)
      go_simp
      have hb := (Below.refl w1_11.heap.size w1_11).alloc (Nat.le_refl _) (.cells #[.slice (some ⟨gp, 0, none⟩) 32 32] 29)
      have hh := Blk.new w1_11 #[.slice (some ⟨gp, 0, none⟩) 32 32] 29
      have hz := HB.out.size
      refine hK.out _ _ (HB.out.trans (hb.mono HB.out.size)) ?_
      clear hK K
      try simp only [putz]
      have HB := hid (HB.out.trans (hb.mono HB.out.size))
      have FZ := hid (And.intro (FZ.out.1.on hb) FZ.out.2)
      have FP := hid (And.intro (FP.out.1.on hb) FP.out.2)
      generalize w1_11.alloc (.cells #[.slice (some ⟨gp, 0, none⟩) 32 32] 29) = w1_12 at *
      generalize w1_11.heap.size = g_12 at *
      have F3 := hid (And.intro hh hz)
      clear hb hh hz
      refine Goes.one (i := 4) (o := ⟨some 20, _, _, _, _, _⟩) (by as_aux_lemma => kernel_rfl) rfl (fun K hK => ?_)
      go_simp
      have hrr : Rws w1_12 (some ⟨g_12, 0, none⟩) 1 (fun _ => some ⟨gp, 0, none⟩) (fun _ => 32) (fun _ => 32) (fun _ => nb n0 n1 n2 n3) := by
        intro r hr
        obtain rfl : r = 0 := by omega
        exact ⟨⟨g_12, 0, rfl, F3.out.1.lt, by rw [F3.out.1.cell]; rfl⟩, nb_length _ _ _ _, bt_rd FP.out.1, Nat.le_refl _, by decide, fun h => by cases h⟩
      refine (macof_any (some ⟨w.heap.size + 1, 0, none⟩) 32 id 32 (some ⟨g_12, 0, none⟩) 1 1 _ _ _ _ w1_12 HI.out (bt_rd (FI.out _ HB.out)) (by decide) (by decide) hrr (FK.out _ HB.out) (by decide) (fun r hr => by decide)).mono ?_
      rintro e w1_13 ⟨rfl, hb⟩
      rw [cat1]
      go_wp2_with fail
      refine hK.out _ _ (HB.out.trans (hb.mono HB.out.size)) ?_
      clear hK K hrr
      try simp only [putz]
      have HB := hid (HB.out.trans (hb.mono HB.out.size))
      have FZ := hid (And.intro (FZ.out.1.on hb) FZ.out.2)
      have FP := hid (And.intro (FP.out.1.on hb) FP.out.2)
      have F3 := hid (And.intro (F3.out.1.on hb) F3.out.2)
      clear hb
      refine Goes.one (i := 6) (o := ⟨none, _, _, _, _, _⟩) (by as_aux_lemma => kernel_rfl) rfl (fun K hK => ?_)
      rw [if_pos (by rfl)]
      have hz := FZ.out.1
      unfold Bt at hz
      rw [KE.out]
      refine wp_store_row 26 (.tmp 8) (.tmp 20) (by rfl) g_10 (bvs kk).toArray (by rfl) (by rfl) 26 _ hz (hi44 kk KL.out).out (hsz _ kk (by rw [KL.out, List.length_replicate])).out (bvs_all kk) ?_
      have HW := below_setRow HB.out FZ.out.2 (bvs kk).toArray
      have HT := hid (FZ.out.1.row (m := kk))
      refine hK.out _ _ HW ?_
      clear hK K
      try simp only [putz]
      refine Goes.done (by as_aux_lemma => kernel_rfl) ?_ _
      refine NoPanic.normal ?_
      go_wp2
      go_meet
      exact ⟨_, rfl, hid ⟨HW, HT.out⟩⟩
  case rest =>
    obtain ⟨g8, rfl, HC⟩ := hcut
    have HB2 := hid (HB1.out.trans (HC.out.1.mono HB1.out.size))
    have HX2 := hid HC.out.2
    have hn1 := ld_num (FN.out _ HC.out.1)
    have hs1 := ld_sum (FI.out _ HC.out.1) HI.out
    go_wp2_with (first | ((with_reducible refine isD 22 rfl ?_); refine wp_ld (by kernel_rfl) 24 (.tmp 3) rfl _ rfl _ hn1 ?_) | ((with_reducible refine isD 23 rfl ?_); refine wp_ld (by kernel_rfl) 26 (.tmp 4) rfl _ rfl _ hs1 ?_))
    clear hn1 hs1
    refine (HQ.out wc (HK.out.on HB2.out) (by have := HMM.out; omega)).mono ?_
    rintro e w3 ⟨g1, rfl, hq⟩
    have HB3 := hid (HB2.out.trans (hq.out.2.2.mono HB2.out.size))
    have FG := hid (on_bt (HX2.out.on hq.out.2.2))
    have HH := hid (p := ∀ x, (hm kk x).length = 32) (fun x => hm_length _ _)
    have HR3 := hid hq.out.1
    have FK := hid (on_kt (HK.out.on HB3.out))
    clear hq HC HX2 FN FI HB1 HB2 HQ
    have HXX := hid (HR3.out.rd f 32)
    have HYY := hid (HR3.out.rd p 32)
    have HMC := hid (mat_chain (hm kk) HH.out n m HNN.out.1 (by have := HMM.out; have := HNN.out; omega))
    rw [← HNN.out.2.2, ← HMM.out.2.1, ← HBB.out] at HMC
    have HXL := hid (p := (((mat (hm kk) m).drop f).take 32).length = 32) (by rw [List.length_take, List.length_drop, mat_length _ HH.out]; have := HMM.out; omega)
    have HYL := hid (p := (((mat (hm kk) m).drop p).take 32).length = 32) (by rw [List.length_take, List.length_drop, mat_length _ HH.out]; have := HMM.out; omega)
    generalize ((mat (hm kk) m).drop f).take 32 = xx at *
    generalize ((mat (hm kk) m).drop p).take 32 = tt at *
    have FX := hid (on_rd HXX.out)
    have FY := hid (on_rd HYY.out)
    have TE := hid (p := hm kk (xx ++ lane ++ [bb]) = tt) HMC.out.symm
    have TL := hid HYL.out
    clear HXX HYY HMC HYL HR3
    go_upto_region 6 with fail
    clear q2 q1
    have q1 := Q1.out
    have q3 := Q3.out
    have q4 := Q4.out
    have q5 := Q5.out
    go_cut [11] (fun s11 wx => ∃ g11 : Nat, s11 = .pointer (some ⟨g11, 0, none⟩) ∧ Hid (Below w3.heap.size w3 wx ∧ Bt wx g11 26 tt))
    case first =>
      refine wp_region_noPanic ?_
      refine Goes.region (fun (_ : Array Bool) (u : World) => Below w3.heap.size w3 u) (by as_aux_lemma => kernel_rfl) ?_
      have HB := hid (p := Below w3.heap.size w3 w3.drew) (Below.refl _ _).drew
      generalize w3.drew = w3d at *
      refine Goes.tk (i := 0) (o := ⟨some 40, _, _, _, _, _⟩) (v := ?_) [] (y := Or.inl ⟨by rfl, ?_⟩) (s := HB.out) (H := ?_)
      rotate_left
      · intro u hY; have hsl := sl32 g8; go_simp; try with_reducible rfl
      try simp only [putz]
      refine Goes.tk (i := 1) (o := ⟨some 41, _, _, _, _, _⟩) (v := ?_) [] (y := Or.inl ⟨by rfl, ?_⟩) (s := HB.out) (H := ?_)
      rotate_left
      · intro u hY; go_simp; try with_reducible rfl
      try simp only [putz]
      refine Goes.tk (i := 2) (o := ⟨some 42, _, _, _, _, _⟩) (v := ?_) [] (y := Or.inl ⟨by rfl, ?_⟩) (s := HB.out) (H := ?_)
      rotate_left
      · intro u hY; go_simp; try with_reducible rfl
      try simp only [putz]
      refine Goes.tk (i := 3) (o := ⟨some 43, _, _, _, _, _⟩) (v := ?_) [] (y := Or.inl ⟨by rfl, ?_⟩) (s := HB.out) (H := ?_)
      rotate_left
      · intro u hY; have h := q1; go_simp; try with_reducible rfl
      try simp only [putz]
      refine Goes.tk (i := 4) (o := ⟨some 44, _, _, _, _, _⟩) (v := ?_) [] (y := Or.inl ⟨by rfl, ?_⟩) (s := HB.out) (H := ?_)
      rotate_left
      · intro u hY; have h := q3; go_simp; try with_reducible rfl
      try simp only [putz]
      refine Goes.tk (i := 5) (o := ⟨some 45, _, _, _, _, _⟩) (v := ?_) [] (y := Or.inl ⟨by rfl, ?_⟩) (s := HB.out) (H := ?_)
      rotate_left
      · intro u hY; go_simp; try with_reducible rfl
      try simp only [putz]
      refine Goes.tk (i := 6) (o := ⟨some 46, _, _, _, _, _⟩) (v := ?_) [] (y := Or.inl ⟨by rfl, ?_⟩) (s := HB.out) (H := ?_)
      rotate_left
      · intro u hY; have h := q1; go_simp; try with_reducible rfl
      try simp only [putz]
      refine Goes.tk (i := 7) (o := ⟨some 47, _, _, _, _, _⟩) (v := ?_) [] (y := Or.inl ⟨by rfl, ?_⟩) (s := HB.out) (H := ?_)
      rotate_left
      · intro u hY; have hsl := slice_cut1 (some ⟨g1, 0, none⟩) m m f p (by have := HMM.out; omega) (by have := HMM.out; omega) (Nat.le_refl _); rw [past_in g1 f m (by have := HMM.out; omega), show p - f = 32 by have := HMM.out; omega, show m - f = 64 by have := HMM.out; omega] at hsl; go_simp; try with_reducible rfl
      try simp only [putz]
      refine Goes.tk (i := 10) (o := ⟨some 50, _, _, _, _, _⟩) (v := ?_) [] (y := Or.inl ⟨by rfl, ?_⟩) (s := HB.out) (H := ?_)
      rotate_left
      · intro u hY; go_simp; try with_reducible rfl
      try simp only [putz]
      refine Goes.tk (i := 11) (o := ⟨some 51, _, _, _, _, _⟩) (v := ?_) [] (y := Or.inl ⟨by rfl, ?_⟩) (s := HB.out) (H := ?_)
      rotate_left
      · intro u hY; have h := q4; go_simp; try with_reducible rfl
      try simp only [putz]
      refine Goes.tk (i := 12) (o := ⟨some 52, _, _, _, _, _⟩) (v := ?_) [] (y := Or.inl ⟨by rfl, ?_⟩) (s := HB.out) (H := ?_)
      rotate_left
      · intro u hY; have h := q5; go_simp; try with_reducible rfl
      try simp only [putz]
      refine Goes.three (i := 8) (j := 13) (k := 16) (o := ⟨some 48, _, _, _, _, _⟩) (p := ⟨some 53, _, _, _, _, _⟩) (q := ⟨some 11, _, _, _, _, _⟩) (by as_aux_lemma => kernel_rfl) rfl rfl rfl (fun K hK => ?_) (fun K hK => ?_) (fun K hK => ?_)
      · skip
        go_simp
        have hb := (Below.refl w3d.heap.size w3d).alloc (Nat.le_refl _) (.cells #[.int .u8 108, .int .u8 97, .int .u8 110, .int .u8 101] 5)
        have hh := Blk.new w3d #[.int .u8 108, .int .u8 97, .int .u8 110, .int .u8 101] 5
        have hz := HB.out.size
        refine hK.out _ _ (HB.out.trans (hb.mono HB.out.size)) ?_
        clear hK K
        try simp only [putz]
        have HB := hid (HB.out.trans (hb.mono HB.out.size))
        generalize w3d.alloc (.cells #[.int .u8 108, .int .u8 97, .int .u8 110, .int .u8 101] 5) = w3_1 at *
        generalize w3d.heap.size = gl1 at *
        have F8 := hid (And.intro hh hz)
        clear hb hh hz
        refine Goes.three (i := 9) (j := 13) (k := 16) (o := ⟨some 49, _, _, _, _, _⟩) (p := ⟨some 53, _, _, _, _, _⟩) (q := ⟨some 11, _, _, _, _, _⟩) (by as_aux_lemma => kernel_rfl) rfl rfl rfl (fun K hK => ?_) (fun K hK => ?_) (fun K hK => ?_)
        · skip
          obtain ⟨w3_2, hrun, HBN, HBK, HG⟩ := conv_mark gl1 4 _ rfl F8.out.2 F8.out.1 HB.out
          rw [if_pos (by rfl)]
          refine wp_convert (.tmp 48) rfl _ rfl _ _ hrun.out ?_
          refine hK.out _ _ HBN.out ?_
          clear hK K hrun
          try simp only [putz]
          have HB := hid HBN.out
          have F8 := hid (And.intro HBK.out F8.out.2)
          clear HBN HBK HG
          refine Goes.two (i := 13) (j := 16) (o := ⟨some 53, _, _, _, _, _⟩) (p := ⟨some 11, _, _, _, _, _⟩) (by as_aux_lemma => kernel_rfl) rfl rfl (fun K hK => ?_) (fun K hK => ?_)
          · skip
            go_simp
            have hb := (Below.refl w3_2.heap.size w3_2).alloc (Nat.le_refl _) (.cells #[.int .u8 ((bb.toNat : Nat) : Int)] 5)
            have hh := Blk.new w3_2 #[.int .u8 ((bb.toNat : Nat) : Int)] 5
            have hz := HB.out.size
            refine hK.out _ _ (HB.out.trans (hb.mono HB.out.size)) ?_
            clear hK K
            try simp only [putz]
            have HB := hid (HB.out.trans (hb.mono HB.out.size))
            have Ngl1gb3 := hid F8.out.1.lt
            have F8 := hid (And.intro (F8.out.1.on hb) F8.out.2)
            generalize w3_2.alloc (.cells #[.int .u8 ((bb.toNat : Nat) : Int)] 5) = w3_3 at *
            generalize w3_2.heap.size = gb3 at *
            have F13 := hid (And.intro hh hz)
            clear hb hh hz
            refine Goes.two (i := 14) (j := 16) (o := ⟨some 54, _, _, _, _, _⟩) (p := ⟨some 11, _, _, _, _, _⟩) (by as_aux_lemma => kernel_rfl) rfl rfl (fun K hK => ?_) (fun K hK => ?_)
            · skip
              go_simp
              have hb := (Below.refl w3_3.heap.size w3_3).alloc (Nat.le_refl _) (.cells #[.slice (some ⟨g1, f, none⟩) 32 64, .slice (some ⟨gl1, 0, none⟩) 4 4, .slice (some ⟨gb3, 0, none⟩) 1 1] 29)
              have hh := Blk.new w3_3 #[.slice (some ⟨g1, f, none⟩) 32 64, .slice (some ⟨gl1, 0, none⟩) 4 4, .slice (some ⟨gb3, 0, none⟩) 1 1] 29
              have hz := HB.out.size
              refine hK.out _ _ (HB.out.trans (hb.mono HB.out.size)) ?_
              clear hK K
              try simp only [putz]
              have HB := hid (HB.out.trans (hb.mono HB.out.size))
              have Ngl1gr4 := hid F8.out.1.lt
              have Ngb3gr4 := hid F13.out.1.lt
              have F8 := hid (And.intro (F8.out.1.on hb) F8.out.2)
              have F13 := hid (And.intro (F13.out.1.on hb) F13.out.2)
              generalize w3_3.alloc (.cells #[.slice (some ⟨g1, f, none⟩) 32 64, .slice (some ⟨gl1, 0, none⟩) 4 4, .slice (some ⟨gb3, 0, none⟩) 1 1] 29) = w3_4 at *
              generalize w3_3.heap.size = gr4 at *
              have F14 := hid (And.intro hh hz)
              clear hb hh hz
              refine Goes.two (i := 15) (j := 16) (o := ⟨some 55, _, _, _, _, _⟩) (p := ⟨some 11, _, _, _, _, _⟩) (by as_aux_lemma => kernel_rfl) rfl rfl (fun K hK => ?_) (fun K hK => ?_)
              · skip
                go_simp
                have hrr := rws3 F14.out.1 (x0 := xx) (x1 := lane) (x2 := [bb]) (FX.out _ HB.out) HXL.out (by decide) (by decide) (fun h => by cases h) (rd_blk lane F8.out.1 rfl) rfl (by decide) (by decide) (fun h => by cases h) (rd_blk [bb] F13.out.1 rfl) rfl (by decide) (by decide) (fun h => by cases h)
                refine (macof_any (some ⟨g8, 0, none⟩) 32 kk 32 (some ⟨gr4, 0, none⟩) 3 3 _ _ _ _ w3_4 KL.out (bt_rd (FG.out _ HB.out)) (by decide) (by decide) hrr (FK.out _ HB.out) (by decide) (fun r hr => by split; decide; split <;> decide)).mono ?_
                rintro e w3_5 ⟨rfl, hb⟩
                rw [cat3, TE.out]
                go_wp2_with fail
                refine hK.out _ _ (HB.out.trans (hb.mono HB.out.size)) ?_
                clear hK K hrr
                try simp only [putz]
                have HB := hid (HB.out.trans (hb.mono HB.out.size))
                have F8 := hid (And.intro (F8.out.1.on hb) F8.out.2)
                have F13 := hid (And.intro (F13.out.1.on hb) F13.out.2)
                have F14 := hid (And.intro (F14.out.1.on hb) F14.out.2)
                clear hb
                refine Goes.one (i := 16) (o := ⟨some 11, _, _, _, _, _⟩) (by as_aux_lemma => kernel_rfl) rfl (fun K hK => ?_)
                go_simp
                rw [← lit32]
                have hb := (Below.refl w3_5.heap.size w3_5).alloc (Nat.le_refl _) (.cells (bvs (List.replicate 32 0)).toArray 26)
                have hh := heap_alloc_new w3_5 (.cells (bvs (List.replicate 32 0)).toArray 26)
                have hz := HB.out.size
                refine hK.out _ _ (HB.out.trans (hb.mono HB.out.size)) ?_
                clear hK K
                try simp only [putz]
                have HB := hid (HB.out.trans (hb.mono HB.out.size))
                have Ngl1gz6 := hid F8.out.1.lt
                have Ngb3gz6 := hid F13.out.1.lt
                have Ngr4gz6 := hid F14.out.1.lt
                have F8 := hid (And.intro (F8.out.1.on hb) F8.out.2)
                have F13 := hid (And.intro (F13.out.1.on hb) F13.out.2)
                have F14 := hid (And.intro (F14.out.1.on hb) F14.out.2)
                generalize w3_5.alloc (.cells (bvs (List.replicate 32 0)).toArray 26) = w3_6 at *
                generalize w3_5.heap.size = gz6 at *
                have FZ := hid (And.intro (show Bt w3_6 gz6 26 _ from hh) hz)
                clear hb hh hz
                refine Goes.one (i := 17) (o := ⟨none, _, _, _, _, _⟩) (by as_aux_lemma => kernel_rfl) rfl (fun K hK => ?_)
                rw [if_pos (by rfl)]
                have hz := FZ.out.1
                unfold Bt at hz
                refine wp_store_row 26 (.tmp 11) (.tmp 55) (by rfl) gz6 (bvs tt).toArray (by rfl) (by rfl) 26 _ hz (hi44 tt TL.out).out (hsz _ tt (by rw [TL.out, List.length_replicate])).out (bvs_all tt) ?_
                have HW := below_setRow HB.out FZ.out.2 (bvs tt).toArray
                have HT := hid (FZ.out.1.row (m := tt))
                refine hK.out _ _ HW ?_
                clear hK K
                try simp only [putz]
                refine Goes.done (by as_aux_lemma => kernel_rfl) ?_ _
                refine NoPanic.normal ?_
                go_wp2
                go_meet
                exact ⟨_, rfl, hid ⟨HW, HT.out⟩⟩
              · skip
                go_simp
                rw [← lit32]
                have hb := (Below.refl w3_4.heap.size w3_4).alloc (Nat.le_refl _) (.cells (bvs (List.replicate 32 0)).toArray 26)
                have hh := heap_alloc_new w3_4 (.cells (bvs (List.replicate 32 0)).toArray 26)
                have hz := HB.out.size
                refine hK.out _ _ (HB.out.trans (hb.mono HB.out.size)) ?_
                clear hK K
                try simp only [putz]
                have HB := hid (HB.out.trans (hb.mono HB.out.size))
                have Ngl1gz7 := hid F8.out.1.lt
                have Ngb3gz7 := hid F13.out.1.lt
                have Ngr4gz7 := hid F14.out.1.lt
                have F8 := hid (And.intro (F8.out.1.on hb) F8.out.2)
                have F13 := hid (And.intro (F13.out.1.on hb) F13.out.2)
                have F14 := hid (And.intro (F14.out.1.on hb) F14.out.2)
                generalize w3_4.alloc (.cells (bvs (List.replicate 32 0)).toArray 26) = w3_7 at *
                generalize w3_4.heap.size = gz7 at *
                have FZ := hid (And.intro (show Bt w3_7 gz7 26 _ from hh) hz)
                clear hb hh hz
                refine Goes.one (i := 15) (o := ⟨some 55, _, _, _, _, _⟩) (by as_aux_lemma => kernel_rfl) rfl (fun K hK => ?_)
                go_simp
                have hrr := rws3 F14.out.1 (x0 := xx) (x1 := lane) (x2 := [bb]) (FX.out _ HB.out) HXL.out (by decide) (by decide) (fun h => by cases h) (rd_blk lane F8.out.1 rfl) rfl (by decide) (by decide) (fun h => by cases h) (rd_blk [bb] F13.out.1 rfl) rfl (by decide) (by decide) (fun h => by cases h)
                refine (macof_any (some ⟨g8, 0, none⟩) 32 kk 32 (some ⟨gr4, 0, none⟩) 3 3 _ _ _ _ w3_7 KL.out (bt_rd (FG.out _ HB.out)) (by decide) (by decide) hrr (FK.out _ HB.out) (by decide) (fun r hr => by split; decide; split <;> decide)).mono ?_
                rintro e w3_8 ⟨rfl, hb⟩
                rw [cat3, TE.out]
                go_wp2_with fail
                refine hK.out _ _ (HB.out.trans (hb.mono HB.out.size)) ?_
                clear hK K hrr
                try simp only [putz]
                have HB := hid (HB.out.trans (hb.mono HB.out.size))
                have F8 := hid (And.intro (F8.out.1.on hb) F8.out.2)
                have F13 := hid (And.intro (F13.out.1.on hb) F13.out.2)
                have F14 := hid (And.intro (F14.out.1.on hb) F14.out.2)
                have FZ := hid (And.intro (FZ.out.1.on hb) FZ.out.2)
                clear hb
                refine Goes.one (i := 17) (o := ⟨none, _, _, _, _, _⟩) (by as_aux_lemma => kernel_rfl) rfl (fun K hK => ?_)
                rw [if_pos (by rfl)]
                have hz := FZ.out.1
                unfold Bt at hz
                refine wp_store_row 26 (.tmp 11) (.tmp 55) (by rfl) gz7 (bvs tt).toArray (by rfl) (by rfl) 26 _ hz (hi44 tt TL.out).out (hsz _ tt (by rw [TL.out, List.length_replicate])).out (bvs_all tt) ?_
                have HW := below_setRow HB.out FZ.out.2 (bvs tt).toArray
                have HT := hid (FZ.out.1.row (m := tt))
                refine hK.out _ _ HW ?_
                clear hK K
                try simp only [putz]
                refine Goes.done (by as_aux_lemma => kernel_rfl) ?_ _
                refine NoPanic.normal ?_
                go_wp2
                go_meet
                exact ⟨_, rfl, hid ⟨HW, HT.out⟩⟩
            · skip
              go_simp
              rw [← lit32]
              have hb := (Below.refl w3_3.heap.size w3_3).alloc (Nat.le_refl _) (.cells (bvs (List.replicate 32 0)).toArray 26)
              have hh := heap_alloc_new w3_3 (.cells (bvs (List.replicate 32 0)).toArray 26)
              have hz := HB.out.size
              refine hK.out _ _ (HB.out.trans (hb.mono HB.out.size)) ?_
              clear hK K
              try simp only [putz]
              have HB := hid (HB.out.trans (hb.mono HB.out.size))
              have Ngl1gz9 := hid F8.out.1.lt
              have Ngb3gz9 := hid F13.out.1.lt
              have F8 := hid (And.intro (F8.out.1.on hb) F8.out.2)
              have F13 := hid (And.intro (F13.out.1.on hb) F13.out.2)
              generalize w3_3.alloc (.cells (bvs (List.replicate 32 0)).toArray 26) = w3_9 at *
              generalize w3_3.heap.size = gz9 at *
              have FZ := hid (And.intro (show Bt w3_9 gz9 26 _ from hh) hz)
              clear hb hh hz
              refine Goes.one (i := 14) (o := ⟨some 54, _, _, _, _, _⟩) (by as_aux_lemma => kernel_rfl) rfl (fun K hK => ?_)
              go_simp
              have hb := (Below.refl w3_9.heap.size w3_9).alloc (Nat.le_refl _) (.cells #[.slice (some ⟨g1, f, none⟩) 32 64, .slice (some ⟨gl1, 0, none⟩) 4 4, .slice (some ⟨gb3, 0, none⟩) 1 1] 29)
              have hh := Blk.new w3_9 #[.slice (some ⟨g1, f, none⟩) 32 64, .slice (some ⟨gl1, 0, none⟩) 4 4, .slice (some ⟨gb3, 0, none⟩) 1 1] 29
              have hz := HB.out.size
              refine hK.out _ _ (HB.out.trans (hb.mono HB.out.size)) ?_
              clear hK K
              try simp only [putz]
              have HB := hid (HB.out.trans (hb.mono HB.out.size))
              have Ngl1gr10 := hid F8.out.1.lt
              have Ngb3gr10 := hid F13.out.1.lt
              have Ngz9gr10 := hid FZ.out.1.lt
              have F8 := hid (And.intro (F8.out.1.on hb) F8.out.2)
              have F13 := hid (And.intro (F13.out.1.on hb) F13.out.2)
              have FZ := hid (And.intro (FZ.out.1.on hb) FZ.out.2)
              generalize w3_9.alloc (.cells #[.slice (some ⟨g1, f, none⟩) 32 64, .slice (some ⟨gl1, 0, none⟩) 4 4, .slice (some ⟨gb3, 0, none⟩) 1 1] 29) = w3_10 at *
              generalize w3_9.heap.size = gr10 at *
              have F14 := hid (And.intro hh hz)
              clear hb hh hz
              refine Goes.one (i := 15) (o := ⟨some 55, _, _, _, _, _⟩) (by as_aux_lemma => kernel_rfl) rfl (fun K hK => ?_)
              go_simp
              have hrr := rws3 F14.out.1 (x0 := xx) (x1 := lane) (x2 := [bb]) (FX.out _ HB.out) HXL.out (by decide) (by decide) (fun h => by cases h) (rd_blk lane F8.out.1 rfl) rfl (by decide) (by decide) (fun h => by cases h) (rd_blk [bb] F13.out.1 rfl) rfl (by decide) (by decide) (fun h => by cases h)
              refine (macof_any (some ⟨g8, 0, none⟩) 32 kk 32 (some ⟨gr10, 0, none⟩) 3 3 _ _ _ _ w3_10 KL.out (bt_rd (FG.out _ HB.out)) (by decide) (by decide) hrr (FK.out _ HB.out) (by decide) (fun r hr => by split; decide; split <;> decide)).mono ?_
              rintro e w3_11 ⟨rfl, hb⟩
              rw [cat3, TE.out]
              go_wp2_with fail
              refine hK.out _ _ (HB.out.trans (hb.mono HB.out.size)) ?_
              clear hK K hrr
              try simp only [putz]
              have HB := hid (HB.out.trans (hb.mono HB.out.size))
              have F8 := hid (And.intro (F8.out.1.on hb) F8.out.2)
              have F13 := hid (And.intro (F13.out.1.on hb) F13.out.2)
              have FZ := hid (And.intro (FZ.out.1.on hb) FZ.out.2)
              have F14 := hid (And.intro (F14.out.1.on hb) F14.out.2)
              clear hb
              refine Goes.one (i := 17) (o := ⟨none, _, _, _, _, _⟩) (by as_aux_lemma => kernel_rfl) rfl (fun K hK => ?_)
              rw [if_pos (by rfl)]
              have hz := FZ.out.1
              unfold Bt at hz
              refine wp_store_row 26 (.tmp 11) (.tmp 55) (by rfl) gz9 (bvs tt).toArray (by rfl) (by rfl) 26 _ hz (hi44 tt TL.out).out (hsz _ tt (by rw [TL.out, List.length_replicate])).out (bvs_all tt) ?_
              have HW := below_setRow HB.out FZ.out.2 (bvs tt).toArray
              have HT := hid (FZ.out.1.row (m := tt))
              refine hK.out _ _ HW ?_
              clear hK K
              try simp only [putz]
              refine Goes.done (by as_aux_lemma => kernel_rfl) ?_ _
              refine NoPanic.normal ?_
              go_wp2
              go_meet
              exact ⟨_, rfl, hid ⟨HW, HT.out⟩⟩
          · skip
            go_simp
            rw [← lit32]
            have hb := (Below.refl w3_2.heap.size w3_2).alloc (Nat.le_refl _) (.cells (bvs (List.replicate 32 0)).toArray 26)
            have hh := heap_alloc_new w3_2 (.cells (bvs (List.replicate 32 0)).toArray 26)
            have hz := HB.out.size
            refine hK.out _ _ (HB.out.trans (hb.mono HB.out.size)) ?_
            clear hK K
            try simp only [putz]
            have HB := hid (HB.out.trans (hb.mono HB.out.size))
            have Ngl1gz12 := hid F8.out.1.lt
            have F8 := hid (And.intro (F8.out.1.on hb) F8.out.2)
            generalize w3_2.alloc (.cells (bvs (List.replicate 32 0)).toArray 26) = w3_12 at *
            generalize w3_2.heap.size = gz12 at *
            have FZ := hid (And.intro (show Bt w3_12 gz12 26 _ from hh) hz)
            clear hb hh hz
            refine Goes.one (i := 13) (o := ⟨some 53, _, _, _, _, _⟩) (by as_aux_lemma => kernel_rfl) rfl (fun K hK => ?_)
            go_simp
            have hb := (Below.refl w3_12.heap.size w3_12).alloc (Nat.le_refl _) (.cells #[.int .u8 ((bb.toNat : Nat) : Int)] 5)
            have hh := Blk.new w3_12 #[.int .u8 ((bb.toNat : Nat) : Int)] 5
            have hz := HB.out.size
            refine hK.out _ _ (HB.out.trans (hb.mono HB.out.size)) ?_
            clear hK K
            try simp only [putz]
            have HB := hid (HB.out.trans (hb.mono HB.out.size))
            have Ngl1gb13 := hid F8.out.1.lt
            have Ngz12gb13 := hid FZ.out.1.lt
            have F8 := hid (And.intro (F8.out.1.on hb) F8.out.2)
            have FZ := hid (And.intro (FZ.out.1.on hb) FZ.out.2)
            generalize w3_12.alloc (.cells #[.int .u8 ((bb.toNat : Nat) : Int)] 5) = w3_13 at *
            generalize w3_12.heap.size = gb13 at *
            have F13 := hid (And.intro hh hz)
            clear hb hh hz
            refine Goes.one (i := 14) (o := ⟨some 54, _, _, _, _, _⟩) (by as_aux_lemma => kernel_rfl) rfl (fun K hK => ?_)
            go_simp
            have hb := (Below.refl w3_13.heap.size w3_13).alloc (Nat.le_refl _) (.cells #[.slice (some ⟨g1, f, none⟩) 32 64, .slice (some ⟨gl1, 0, none⟩) 4 4, .slice (some ⟨gb13, 0, none⟩) 1 1] 29)
            have hh := Blk.new w3_13 #[.slice (some ⟨g1, f, none⟩) 32 64, .slice (some ⟨gl1, 0, none⟩) 4 4, .slice (some ⟨gb13, 0, none⟩) 1 1] 29
            have hz := HB.out.size
            refine hK.out _ _ (HB.out.trans (hb.mono HB.out.size)) ?_
            clear hK K
            try simp only [putz]
            have HB := hid (HB.out.trans (hb.mono HB.out.size))
            have Ngl1gr14 := hid F8.out.1.lt
            have Ngz12gr14 := hid FZ.out.1.lt
            have Ngb13gr14 := hid F13.out.1.lt
            have F8 := hid (And.intro (F8.out.1.on hb) F8.out.2)
            have FZ := hid (And.intro (FZ.out.1.on hb) FZ.out.2)
            have F13 := hid (And.intro (F13.out.1.on hb) F13.out.2)
            generalize w3_13.alloc (.cells #[.slice (some ⟨g1, f, none⟩) 32 64, .slice (some ⟨gl1, 0, none⟩) 4 4, .slice (some ⟨gb13, 0, none⟩) 1 1] 29) = w3_14 at *
            generalize w3_13.heap.size = gr14 at *
            have F14 := hid (And.intro hh hz)
            clear hb hh hz
            refine Goes.one (i := 15) (o := ⟨some 55, _, _, _, _, _⟩) (by as_aux_lemma => kernel_rfl) rfl (fun K hK => ?_)
            go_simp
            have hrr := rws3 F14.out.1 (x0 := xx) (x1 := lane) (x2 := [bb]) (FX.out _ HB.out) HXL.out (by decide) (by decide) (fun h => by cases h) (rd_blk lane F8.out.1 rfl) rfl (by decide) (by decide) (fun h => by cases h) (rd_blk [bb] F13.out.1 rfl) rfl (by decide) (by decide) (fun h => by cases h)
            refine (macof_any (some ⟨g8, 0, none⟩) 32 kk 32 (some ⟨gr14, 0, none⟩) 3 3 _ _ _ _ w3_14 KL.out (bt_rd (FG.out _ HB.out)) (by decide) (by decide) hrr (FK.out _ HB.out) (by decide) (fun r hr => by split; decide; split <;> decide)).mono ?_
            rintro e w3_15 ⟨rfl, hb⟩
            rw [cat3, TE.out]
            go_wp2_with fail
            refine hK.out _ _ (HB.out.trans (hb.mono HB.out.size)) ?_
            clear hK K hrr
            try simp only [putz]
            have HB := hid (HB.out.trans (hb.mono HB.out.size))
            have F8 := hid (And.intro (F8.out.1.on hb) F8.out.2)
            have FZ := hid (And.intro (FZ.out.1.on hb) FZ.out.2)
            have F13 := hid (And.intro (F13.out.1.on hb) F13.out.2)
            have F14 := hid (And.intro (F14.out.1.on hb) F14.out.2)
            clear hb
            refine Goes.one (i := 17) (o := ⟨none, _, _, _, _, _⟩) (by as_aux_lemma => kernel_rfl) rfl (fun K hK => ?_)
            rw [if_pos (by rfl)]
            have hz := FZ.out.1
            unfold Bt at hz
            refine wp_store_row 26 (.tmp 11) (.tmp 55) (by rfl) gz12 (bvs tt).toArray (by rfl) (by rfl) 26 _ hz (hi44 tt TL.out).out (hsz _ tt (by rw [TL.out, List.length_replicate])).out (bvs_all tt) ?_
            have HW := below_setRow HB.out FZ.out.2 (bvs tt).toArray
            have HT := hid (FZ.out.1.row (m := tt))
            refine hK.out _ _ HW ?_
            clear hK K
            try simp only [putz]
            refine Goes.done (by as_aux_lemma => kernel_rfl) ?_ _
            refine NoPanic.normal ?_
            go_wp2
            go_meet
            exact ⟨_, rfl, hid ⟨HW, HT.out⟩⟩
        · skip
          go_simp
          have hb := (Below.refl w3_1.heap.size w3_1).alloc (Nat.le_refl _) (.cells #[.int .u8 ((bb.toNat : Nat) : Int)] 5)
          have hh := Blk.new w3_1 #[.int .u8 ((bb.toNat : Nat) : Int)] 5
          have hz := HB.out.size
          refine hK.out _ _ (HB.out.trans (hb.mono HB.out.size)) ?_
          clear hK K
          try simp only [putz]
          have HB := hid (HB.out.trans (hb.mono HB.out.size))
          have Ngl1gb16 := hid F8.out.1.lt
          have F8 := hid (And.intro (F8.out.1.on hb) F8.out.2)
          generalize w3_1.alloc (.cells #[.int .u8 ((bb.toNat : Nat) : Int)] 5) = w3_16 at *
          generalize w3_1.heap.size = gb16 at *
          have F13 := hid (And.intro hh hz)
          clear hb hh hz
          refine Goes.two (i := 9) (j := 16) (o := ⟨some 49, _, _, _, _, _⟩) (p := ⟨some 11, _, _, _, _, _⟩) (by as_aux_lemma => kernel_rfl) rfl rfl (fun K hK => ?_) (fun K hK => ?_)
          · skip
            obtain ⟨w3_17, hrun, HBN, HBK, HG⟩ := conv_mark gl1 4 _ rfl F8.out.2 F8.out.1 HB.out
            rw [if_pos (by rfl)]
            refine wp_convert (.tmp 48) rfl _ rfl _ _ hrun.out ?_
            refine hK.out _ _ HBN.out ?_
            clear hK K hrun
            try simp only [putz]
            have HB := hid HBN.out
            have F13 := hid (And.intro (F13.out.1.grown HG.out (Nat.ne_of_gt Ngl1gb16.out)) F13.out.2)
            have F8 := hid (And.intro HBK.out F8.out.2)
            clear HBN HBK HG
            refine Goes.two (i := 14) (j := 16) (o := ⟨some 54, _, _, _, _, _⟩) (p := ⟨some 11, _, _, _, _, _⟩) (by as_aux_lemma => kernel_rfl) rfl rfl (fun K hK => ?_) (fun K hK => ?_)
            · skip
              go_simp
              have hb := (Below.refl w3_17.heap.size w3_17).alloc (Nat.le_refl _) (.cells #[.slice (some ⟨g1, f, none⟩) 32 64, .slice (some ⟨gl1, 0, none⟩) 4 4, .slice (some ⟨gb16, 0, none⟩) 1 1] 29)
              have hh := Blk.new w3_17 #[.slice (some ⟨g1, f, none⟩) 32 64, .slice (some ⟨gl1, 0, none⟩) 4 4, .slice (some ⟨gb16, 0, none⟩) 1 1] 29
              have hz := HB.out.size
              refine hK.out _ _ (HB.out.trans (hb.mono HB.out.size)) ?_
              clear hK K
              try simp only [putz]
              have HB := hid (HB.out.trans (hb.mono HB.out.size))
              have Ngl1gr18 := hid F8.out.1.lt
              have Ngb16gr18 := hid F13.out.1.lt
              have F8 := hid (And.intro (F8.out.1.on hb) F8.out.2)
              have F13 := hid (And.intro (F13.out.1.on hb) F13.out.2)
              generalize w3_17.alloc (.cells #[.slice (some ⟨g1, f, none⟩) 32 64, .slice (some ⟨gl1, 0, none⟩) 4 4, .slice (some ⟨gb16, 0, none⟩) 1 1] 29) = w3_18 at *
              generalize w3_17.heap.size = gr18 at *
              have F14 := hid (And.intro hh hz)
              clear hb hh hz
              refine Goes.two (i := 15) (j := 16) (o := ⟨some 55, _, _, _, _, _⟩) (p := ⟨some 11, _, _, _, _, _⟩) (by as_aux_lemma => kernel_rfl) rfl rfl (fun K hK => ?_) (fun K hK => ?_)
              · skip
                go_simp
                have hrr := rws3 F14.out.1 (x0 := xx) (x1 := lane) (x2 := [bb]) (FX.out _ HB.out) HXL.out (by decide) (by decide) (fun h => by cases h) (rd_blk lane F8.out.1 rfl) rfl (by decide) (by decide) (fun h => by cases h) (rd_blk [bb] F13.out.1 rfl) rfl (by decide) (by decide) (fun h => by cases h)
                refine (macof_any (some ⟨g8, 0, none⟩) 32 kk 32 (some ⟨gr18, 0, none⟩) 3 3 _ _ _ _ w3_18 KL.out (bt_rd (FG.out _ HB.out)) (by decide) (by decide) hrr (FK.out _ HB.out) (by decide) (fun r hr => by split; decide; split <;> decide)).mono ?_
                rintro e w3_19 ⟨rfl, hb⟩
                rw [cat3, TE.out]
                go_wp2_with fail
                refine hK.out _ _ (HB.out.trans (hb.mono HB.out.size)) ?_
                clear hK K hrr
                try simp only [putz]
                have HB := hid (HB.out.trans (hb.mono HB.out.size))
                have F8 := hid (And.intro (F8.out.1.on hb) F8.out.2)
                have F13 := hid (And.intro (F13.out.1.on hb) F13.out.2)
                have F14 := hid (And.intro (F14.out.1.on hb) F14.out.2)
                clear hb
                refine Goes.one (i := 16) (o := ⟨some 11, _, _, _, _, _⟩) (by as_aux_lemma => kernel_rfl) rfl (fun K hK => ?_)
                go_simp
                rw [← lit32]
                have hb := (Below.refl w3_19.heap.size w3_19).alloc (Nat.le_refl _) (.cells (bvs (List.replicate 32 0)).toArray 26)
                have hh := heap_alloc_new w3_19 (.cells (bvs (List.replicate 32 0)).toArray 26)
                have hz := HB.out.size
                refine hK.out _ _ (HB.out.trans (hb.mono HB.out.size)) ?_
                clear hK K
                try simp only [putz]
                have HB := hid (HB.out.trans (hb.mono HB.out.size))
                have Ngl1gz20 := hid F8.out.1.lt
                have Ngb16gz20 := hid F13.out.1.lt
                have Ngr18gz20 := hid F14.out.1.lt
                have F8 := hid (And.intro (F8.out.1.on hb) F8.out.2)
                have F13 := hid (And.intro (F13.out.1.on hb) F13.out.2)
                have F14 := hid (And.intro (F14.out.1.on hb) F14.out.2)
                generalize w3_19.alloc (.cells (bvs (List.replicate 32 0)).toArray 26) = w3_20 at *
                generalize w3_19.heap.size = gz20 at *
                have FZ := hid (And.intro (show Bt w3_20 gz20 26 _ from hh) hz)
                clear hb hh hz
                refine Goes.one (i := 17) (o := ⟨none, _, _, _, _, _⟩) (by as_aux_lemma => kernel_rfl) rfl (fun K hK => ?_)
                rw [if_pos (by rfl)]
                have hz := FZ.out.1
                unfold Bt at hz
                refine wp_store_row 26 (.tmp 11) (.tmp 55) (by rfl) gz20 (bvs tt).toArray (by rfl) (by rfl) 26 _ hz (hi44 tt TL.out).out (hsz _ tt (by rw [TL.out, List.length_replicate])).out (bvs_all tt) ?_
                have HW := below_setRow HB.out FZ.out.2 (bvs tt).toArray
                have HT := hid (FZ.out.1.row (m := tt))
                refine hK.out _ _ HW ?_
                clear hK K
                try simp only [putz]
                refine Goes.done (by as_aux_lemma => kernel_rfl) ?_ _
                refine NoPanic.normal ?_
                go_wp2
                go_meet
                exact ⟨_, rfl, hid ⟨HW, HT.out⟩⟩
              · skip
                go_simp
                rw [← lit32]
                have hb := (Below.refl w3_18.heap.size w3_18).alloc (Nat.le_refl _) (.cells (bvs (List.replicate 32 0)).toArray 26)
                have hh := heap_alloc_new w3_18 (.cells (bvs (List.replicate 32 0)).toArray 26)
                have hz := HB.out.size
                refine hK.out _ _ (HB.out.trans (hb.mono HB.out.size)) ?_
                clear hK K
                try simp only [putz]
                have HB := hid (HB.out.trans (hb.mono HB.out.size))
                have Ngl1gz21 := hid F8.out.1.lt
                have Ngb16gz21 := hid F13.out.1.lt
                have Ngr18gz21 := hid F14.out.1.lt
                have F8 := hid (And.intro (F8.out.1.on hb) F8.out.2)
                have F13 := hid (And.intro (F13.out.1.on hb) F13.out.2)
                have F14 := hid (And.intro (F14.out.1.on hb) F14.out.2)
                generalize w3_18.alloc (.cells (bvs (List.replicate 32 0)).toArray 26) = w3_21 at *
                generalize w3_18.heap.size = gz21 at *
                have FZ := hid (And.intro (show Bt w3_21 gz21 26 _ from hh) hz)
                clear hb hh hz
                refine Goes.one (i := 15) (o := ⟨some 55, _, _, _, _, _⟩) (by as_aux_lemma => kernel_rfl) rfl (fun K hK => ?_)
                go_simp
                have hrr := rws3 F14.out.1 (x0 := xx) (x1 := lane) (x2 := [bb]) (FX.out _ HB.out) HXL.out (by decide) (by decide) (fun h => by cases h) (rd_blk lane F8.out.1 rfl) rfl (by decide) (by decide) (fun h => by cases h) (rd_blk [bb] F13.out.1 rfl) rfl (by decide) (by decide) (fun h => by cases h)
                refine (macof_any (some ⟨g8, 0, none⟩) 32 kk 32 (some ⟨gr18, 0, none⟩) 3 3 _ _ _ _ w3_21 KL.out (bt_rd (FG.out _ HB.out)) (by decide) (by decide) hrr (FK.out _ HB.out) (by decide) (fun r hr => by split; decide; split <;> decide)).mono ?_
                rintro e w3_22 ⟨rfl, hb⟩
                rw [cat3, TE.out]
                go_wp2_with fail
                refine hK.out _ _ (HB.out.trans (hb.mono HB.out.size)) ?_
                clear hK K hrr
                try simp only [putz]
                have HB := hid (HB.out.trans (hb.mono HB.out.size))
                have F8 := hid (And.intro (F8.out.1.on hb) F8.out.2)
                have F13 := hid (And.intro (F13.out.1.on hb) F13.out.2)
                have F14 := hid (And.intro (F14.out.1.on hb) F14.out.2)
                have FZ := hid (And.intro (FZ.out.1.on hb) FZ.out.2)
                clear hb
                refine Goes.one (i := 17) (o := ⟨none, _, _, _, _, _⟩) (by as_aux_lemma => kernel_rfl) rfl (fun K hK => ?_)
                rw [if_pos (by rfl)]
                have hz := FZ.out.1
                unfold Bt at hz
                refine wp_store_row 26 (.tmp 11) (.tmp 55) (by rfl) gz21 (bvs tt).toArray (by rfl) (by rfl) 26 _ hz (hi44 tt TL.out).out (hsz _ tt (by rw [TL.out, List.length_replicate])).out (bvs_all tt) ?_
                have HW := below_setRow HB.out FZ.out.2 (bvs tt).toArray
                have HT := hid (FZ.out.1.row (m := tt))
                refine hK.out _ _ HW ?_
                clear hK K
                try simp only [putz]
                refine Goes.done (by as_aux_lemma => kernel_rfl) ?_ _
                refine NoPanic.normal ?_
                go_wp2
                go_meet
                exact ⟨_, rfl, hid ⟨HW, HT.out⟩⟩
            · skip
              go_simp
              rw [← lit32]
              have hb := (Below.refl w3_17.heap.size w3_17).alloc (Nat.le_refl _) (.cells (bvs (List.replicate 32 0)).toArray 26)
              have hh := heap_alloc_new w3_17 (.cells (bvs (List.replicate 32 0)).toArray 26)
              have hz := HB.out.size
              refine hK.out _ _ (HB.out.trans (hb.mono HB.out.size)) ?_
              clear hK K
              try simp only [putz]
              have HB := hid (HB.out.trans (hb.mono HB.out.size))
              have Ngl1gz23 := hid F8.out.1.lt
              have Ngb16gz23 := hid F13.out.1.lt
              have F8 := hid (And.intro (F8.out.1.on hb) F8.out.2)
              have F13 := hid (And.intro (F13.out.1.on hb) F13.out.2)
              generalize w3_17.alloc (.cells (bvs (List.replicate 32 0)).toArray 26) = w3_23 at *
              generalize w3_17.heap.size = gz23 at *
              have FZ := hid (And.intro (show Bt w3_23 gz23 26 _ from hh) hz)
              clear hb hh hz
              refine Goes.one (i := 14) (o := ⟨some 54, _, _, _, _, _⟩) (by as_aux_lemma => kernel_rfl) rfl (fun K hK => ?_)
              go_simp
              have hb := (Below.refl w3_23.heap.size w3_23).alloc (Nat.le_refl _) (.cells #[.slice (some ⟨g1, f, none⟩) 32 64, .slice (some ⟨gl1, 0, none⟩) 4 4, .slice (some ⟨gb16, 0, none⟩) 1 1] 29)
              have hh := Blk.new w3_23 #[.slice (some ⟨g1, f, none⟩) 32 64, .slice (some ⟨gl1, 0, none⟩) 4 4, .slice (some ⟨gb16, 0, none⟩) 1 1] 29
              have hz := HB.out.size
              refine hK.out _ _ (HB.out.trans (hb.mono HB.out.size)) ?_
              clear hK K
              try simp only [putz]
              have HB := hid (HB.out.trans (hb.mono HB.out.size))
              have Ngl1gr24 := hid F8.out.1.lt
              have Ngb16gr24 := hid F13.out.1.lt
              have Ngz23gr24 := hid FZ.out.1.lt
              have F8 := hid (And.intro (F8.out.1.on hb) F8.out.2)
              have F13 := hid (And.intro (F13.out.1.on hb) F13.out.2)
              have FZ := hid (And.intro (FZ.out.1.on hb) FZ.out.2)
              generalize w3_23.alloc (.cells #[.slice (some ⟨g1, f, none⟩) 32 64, .slice (some ⟨gl1, 0, none⟩) 4 4, .slice (some ⟨gb16, 0, none⟩) 1 1] 29) = w3_24 at *
              generalize w3_23.heap.size = gr24 at *
              have F14 := hid (And.intro hh hz)
              clear hb hh hz
              refine Goes.one (i := 15) (o := ⟨some 55, _, _, _, _, _⟩) (by as_aux_lemma => kernel_rfl) rfl (fun K hK => ?_)
              go_simp
              have hrr := rws3 F14.out.1 (x0 := xx) (x1 := lane) (x2 := [bb]) (FX.out _ HB.out) HXL.out (by decide) (by decide) (fun h => by cases h) (rd_blk lane F8.out.1 rfl) rfl (by decide) (by decide) (fun h => by cases h) (rd_blk [bb] F13.out.1 rfl) rfl (by decide) (by decide) (fun h => by cases h)
              refine (macof_any (some ⟨g8, 0, none⟩) 32 kk 32 (some ⟨gr24, 0, none⟩) 3 3 _ _ _ _ w3_24 KL.out (bt_rd (FG.out _ HB.out)) (by decide) (by decide) hrr (FK.out _ HB.out) (by decide) (fun r hr => by split; decide; split <;> decide)).mono ?_
              rintro e w3_25 ⟨rfl, hb⟩
              rw [cat3, TE.out]
              go_wp2_with fail
              refine hK.out _ _ (HB.out.trans (hb.mono HB.out.size)) ?_
              clear hK K hrr
              try simp only [putz]
              have HB := hid (HB.out.trans (hb.mono HB.out.size))
              have F8 := hid (And.intro (F8.out.1.on hb) F8.out.2)
              have F13 := hid (And.intro (F13.out.1.on hb) F13.out.2)
              have FZ := hid (And.intro (FZ.out.1.on hb) FZ.out.2)
              have F14 := hid (And.intro (F14.out.1.on hb) F14.out.2)
              clear hb
              refine Goes.one (i := 17) (o := ⟨none, _, _, _, _, _⟩) (by as_aux_lemma => kernel_rfl) rfl (fun K hK => ?_)
              rw [if_pos (by rfl)]
              have hz := FZ.out.1
              unfold Bt at hz
              refine wp_store_row 26 (.tmp 11) (.tmp 55) (by rfl) gz23 (bvs tt).toArray (by rfl) (by rfl) 26 _ hz (hi44 tt TL.out).out (hsz _ tt (by rw [TL.out, List.length_replicate])).out (bvs_all tt) ?_
              have HW := below_setRow HB.out FZ.out.2 (bvs tt).toArray
              have HT := hid (FZ.out.1.row (m := tt))
              refine hK.out _ _ HW ?_
              clear hK K
              try simp only [putz]
              refine Goes.done (by as_aux_lemma => kernel_rfl) ?_ _
              refine NoPanic.normal ?_
              go_wp2
              go_meet
              exact ⟨_, rfl, hid ⟨HW, HT.out⟩⟩
          · skip
            go_simp
            rw [← lit32]
            have hb := (Below.refl w3_16.heap.size w3_16).alloc (Nat.le_refl _) (.cells (bvs (List.replicate 32 0)).toArray 26)
            have hh := heap_alloc_new w3_16 (.cells (bvs (List.replicate 32 0)).toArray 26)
            have hz := HB.out.size
            refine hK.out _ _ (HB.out.trans (hb.mono HB.out.size)) ?_
            clear hK K
            try simp only [putz]
            have HB := hid (HB.out.trans (hb.mono HB.out.size))
            have Ngl1gz26 := hid F8.out.1.lt
            have Ngb16gz26 := hid F13.out.1.lt
            have F8 := hid (And.intro (F8.out.1.on hb) F8.out.2)
            have F13 := hid (And.intro (F13.out.1.on hb) F13.out.2)
            generalize w3_16.alloc (.cells (bvs (List.replicate 32 0)).toArray 26) = w3_26 at *
            generalize w3_16.heap.size = gz26 at *
            have FZ := hid (And.intro (show Bt w3_26 gz26 26 _ from hh) hz)
            clear hb hh hz
            refine Goes.one (i := 9) (o := ⟨some 49, _, _, _, _, _⟩) (by as_aux_lemma => kernel_rfl) rfl (fun K hK => ?_)
            obtain ⟨w3_27, hrun, HBN, HBK, HG⟩ := conv_mark gl1 4 _ rfl F8.out.2 F8.out.1 HB.out
            rw [if_pos (by rfl)]
            refine wp_convert (.tmp 48) rfl _ rfl _ _ hrun.out ?_
            refine hK.out _ _ HBN.out ?_
            clear hK K hrun
            try simp only [putz]
            have HB := hid HBN.out
            have F13 := hid (And.intro (F13.out.1.grown HG.out (Nat.ne_of_gt Ngl1gb16.out)) F13.out.2)
            have FZ := hid (And.intro (FZ.out.1.grown HG.out (Nat.ne_of_gt Ngl1gz26.out)) FZ.out.2)
            have F8 := hid (And.intro HBK.out F8.out.2)
            clear HBN HBK HG
            refine Goes.one (i := 14) (o := ⟨some 54, _, _, _, _, _⟩) (by as_aux_lemma => kernel_rfl) rfl (fun K hK => ?_)
            go_simp
            have hb := (Below.refl w3_27.heap.size w3_27).alloc (Nat.le_refl _) (.cells #[.slice (some ⟨g1, f, none⟩) 32 64, .slice (some ⟨gl1, 0, none⟩) 4 4, .slice (some ⟨gb16, 0, none⟩) 1 1] 29)
            have hh := Blk.new w3_27 #[.slice (some ⟨g1, f, none⟩) 32 64, .slice (some ⟨gl1, 0, none⟩) 4 4, .slice (some ⟨gb16, 0, none⟩) 1 1] 29
            have hz := HB.out.size
            refine hK.out _ _ (HB.out.trans (hb.mono HB.out.size)) ?_
            clear hK K
            try simp only [putz]
            have HB := hid (HB.out.trans (hb.mono HB.out.size))
            have Ngl1gr28 := hid F8.out.1.lt
            have Ngb16gr28 := hid F13.out.1.lt
            have Ngz26gr28 := hid FZ.out.1.lt
            have F8 := hid (And.intro (F8.out.1.on hb) F8.out.2)
            have F13 := hid (And.intro (F13.out.1.on hb) F13.out.2)
            have FZ := hid (And.intro (FZ.out.1.on hb) FZ.out.2)
            generalize w3_27.alloc (.cells #[.slice (some ⟨g1, f, none⟩) 32 64, .slice (some ⟨gl1, 0, none⟩) 4 4, .slice (some ⟨gb16, 0, none⟩) 1 1] 29) = w3_28 at *
            generalize w3_27.heap.size = gr28 at *
            have F14 := hid (And.intro hh hz)
            clear hb hh hz
            refine Goes.one (i := 15) (o := ⟨some 55, _, _, _, _, _⟩) (by as_aux_lemma => kernel_rfl) rfl (fun K hK => ?_)
            go_simp
            have hrr := rws3 F14.out.1 (x0 := xx) (x1 := lane) (x2 := [bb]) (FX.out _ HB.out) HXL.out (by decide) (by decide) (fun h => by cases h) (rd_blk lane F8.out.1 rfl) rfl (by decide) (by decide) (fun h => by cases h) (rd_blk [bb] F13.out.1 rfl) rfl (by decide) (by decide) (fun h => by cases h)
            refine (macof_any (some ⟨g8, 0, none⟩) 32 kk 32 (some ⟨gr28, 0, none⟩) 3 3 _ _ _ _ w3_28 KL.out (bt_rd (FG.out _ HB.out)) (by decide) (by decide) hrr (FK.out _ HB.out) (by decide) (fun r hr => by split; decide; split <;> decide)).mono ?_
            rintro e w3_29 ⟨rfl, hb⟩
            rw [cat3, TE.out]
            go_wp2_with fail
            refine hK.out _ _ (HB.out.trans (hb.mono HB.out.size)) ?_
            clear hK K hrr
            try simp only [putz]
            have HB := hid (HB.out.trans (hb.mono HB.out.size))
            have F8 := hid (And.intro (F8.out.1.on hb) F8.out.2)
            have F13 := hid (And.intro (F13.out.1.on hb) F13.out.2)
            have FZ := hid (And.intro (FZ.out.1.on hb) FZ.out.2)
            have F14 := hid (And.intro (F14.out.1.on hb) F14.out.2)
            clear hb
            refine Goes.one (i := 17) (o := ⟨none, _, _, _, _, _⟩) (by as_aux_lemma => kernel_rfl) rfl (fun K hK => ?_)
            rw [if_pos (by rfl)]
            have hz := FZ.out.1
            unfold Bt at hz
            refine wp_store_row 26 (.tmp 11) (.tmp 55) (by rfl) gz26 (bvs tt).toArray (by rfl) (by rfl) 26 _ hz (hi44 tt TL.out).out (hsz _ tt (by rw [TL.out, List.length_replicate])).out (bvs_all tt) ?_
            have HW := below_setRow HB.out FZ.out.2 (bvs tt).toArray
            have HT := hid (FZ.out.1.row (m := tt))
            refine hK.out _ _ HW ?_
            clear hK K
            try simp only [putz]
            refine Goes.done (by as_aux_lemma => kernel_rfl) ?_ _
            refine NoPanic.normal ?_
            go_wp2
            go_meet
            exact ⟨_, rfl, hid ⟨HW, HT.out⟩⟩
        · skip
          go_simp
          rw [← lit32]
          have hb := (Below.refl w3_1.heap.size w3_1).alloc (Nat.le_refl _) (.cells (bvs (List.replicate 32 0)).toArray 26)
          have hh := heap_alloc_new w3_1 (.cells (bvs (List.replicate 32 0)).toArray 26)
          have hz := HB.out.size
          refine hK.out _ _ (HB.out.trans (hb.mono HB.out.size)) ?_
          clear hK K
          try simp only [putz]
          have HB := hid (HB.out.trans (hb.mono HB.out.size))
          have Ngl1gz30 := hid F8.out.1.lt
          have F8 := hid (And.intro (F8.out.1.on hb) F8.out.2)
          generalize w3_1.alloc (.cells (bvs (List.replicate 32 0)).toArray 26) = w3_30 at *
          generalize w3_1.heap.size = gz30 at *
          have FZ := hid (And.intro (show Bt w3_30 gz30 26 _ from hh) hz)
          clear hb hh hz
          refine Goes.two (i := 9) (j := 13) (o := ⟨some 49, _, _, _, _, _⟩) (p := ⟨some 53, _, _, _, _, _⟩) (by as_aux_lemma => kernel_rfl) rfl rfl (fun K hK => ?_) (fun K hK => ?_)
          · skip
            obtain ⟨w3_31, hrun, HBN, HBK, HG⟩ := conv_mark gl1 4 _ rfl F8.out.2 F8.out.1 HB.out
            rw [if_pos (by rfl)]
            refine wp_convert (.tmp 48) rfl _ rfl _ _ hrun.out ?_
            refine hK.out _ _ HBN.out ?_
            clear hK K hrun
            try simp only [putz]
            have HB := hid HBN.out
            have FZ := hid (And.intro (FZ.out.1.grown HG.out (Nat.ne_of_gt Ngl1gz30.out)) FZ.out.2)
            have F8 := hid (And.intro HBK.out F8.out.2)
            clear HBN HBK HG
            refine Goes.one (i := 13) (o := ⟨some 53, _, _, _, _, _⟩) (by as_aux_lemma => kernel_rfl) rfl (fun K hK => ?_)
            go_simp
            have hb := (Below.refl w3_31.heap.size w3_31).alloc (Nat.le_refl _) (.cells #[.int .u8 ((bb.toNat : Nat) : Int)] 5)
            have hh := Blk.new w3_31 #[.int .u8 ((bb.toNat : Nat) : Int)] 5
            have hz := HB.out.size
            refine hK.out _ _ (HB.out.trans (hb.mono HB.out.size)) ?_
            clear hK K
            try simp only [putz]
            have HB := hid (HB.out.trans (hb.mono HB.out.size))
            have Ngl1gb32 := hid F8.out.1.lt
            have Ngz30gb32 := hid FZ.out.1.lt
            have F8 := hid (And.intro (F8.out.1.on hb) F8.out.2)
            have FZ := hid (And.intro (FZ.out.1.on hb) FZ.out.2)
            generalize w3_31.alloc (.cells #[.int .u8 ((bb.toNat : Nat) : Int)] 5) = w3_32 at *
            generalize w3_31.heap.size = gb32 at *
            have F13 := hid (And.intro hh hz)
            clear hb hh hz
            refine Goes.one (i := 14) (o := ⟨some 54, _, _, _, _, _⟩) (by as_aux_lemma => kernel_rfl) rfl (fun K hK => ?_)
            go_simp
            have hb := (Below.refl w3_32.heap.size w3_32).alloc (Nat.le_refl _) (.cells #[.slice (some ⟨g1, f, none⟩) 32 64, .slice (some ⟨gl1, 0, none⟩) 4 4, .slice (some ⟨gb32, 0, none⟩) 1 1] 29)
            have hh := Blk.new w3_32 #[.slice (some ⟨g1, f, none⟩) 32 64, .slice (some ⟨gl1, 0, none⟩) 4 4, .slice (some ⟨gb32, 0, none⟩) 1 1] 29
            have hz := HB.out.size
            refine hK.out _ _ (HB.out.trans (hb.mono HB.out.size)) ?_
            clear hK K
            try simp only [putz]
            have HB := hid (HB.out.trans (hb.mono HB.out.size))
            have Ngl1gr33 := hid F8.out.1.lt
            have Ngz30gr33 := hid FZ.out.1.lt
            have Ngb32gr33 := hid F13.out.1.lt
            have F8 := hid (And.intro (F8.out.1.on hb) F8.out.2)
            have FZ := hid (And.intro (FZ.out.1.on hb) FZ.out.2)
            have F13 := hid (And.intro (F13.out.1.on hb) F13.out.2)
            generalize w3_32.alloc (.cells #[.slice (some ⟨g1, f, none⟩) 32 64, .slice (some ⟨gl1, 0, none⟩) 4 4, .slice (some ⟨gb32, 0, none⟩) 1 1] 29) = w3_33 at *
            generalize w3_32.heap.size = gr33 at *
            have F14 := hid (And.intro hh hz)
            clear hb hh hz
            refine Goes.one (i := 15) (o := ⟨some 55, _, _, _, _, _⟩) (by as_aux_lemma => kernel_rfl) rfl (fun K hK => ?_)
            go_simp
            have hrr := rws3 F14.out.1 (x0 := xx) (x1 := lane) (x2 := [bb]) (FX.out _ HB.out) HXL.out (by decide) (by decide) (fun h => by cases h) (rd_blk lane F8.out.1 rfl) rfl (by decide) (by decide) (fun h => by cases h) (rd_blk [bb] F13.out.1 rfl) rfl (by decide) (by decide) (fun h => by cases h)
            refine (macof_any (some ⟨g8, 0, none⟩) 32 kk 32 (some ⟨gr33, 0, none⟩) 3 3 _ _ _ _ w3_33 KL.out (bt_rd (FG.out _ HB.out)) (by decide) (by decide) hrr (FK.out _ HB.out) (by decide) (fun r hr => by split; decide; split <;> decide)).mono ?_
            rintro e w3_34 ⟨rfl, hb⟩
            rw [cat3, TE.out]
            go_wp2_with fail
            refine hK.out _ _ (HB.out.trans (hb.mono HB.out.size)) ?_
            clear hK K hrr
            try simp only [putz]
            have HB := hid (HB.out.trans (hb.mono HB.out.size))
            have F8 := hid (And.intro (F8.out.1.on hb) F8.out.2)
            have FZ := hid (And.intro (FZ.out.1.on hb) FZ.out.2)
            have F13 := hid (And.intro (F13.out.1.on hb) F13.out.2)
            have F14 := hid (And.intro (F14.out.1.on hb) F14.out.2)
            clear hb
            refine Goes.one (i := 17) (o := ⟨none, _, _, _, _, _⟩) (by as_aux_lemma => kernel_rfl) rfl (fun K hK => ?_)
            rw [if_pos (by rfl)]
            have hz := FZ.out.1
            unfold Bt at hz
            refine wp_store_row 26 (.tmp 11) (.tmp 55) (by rfl) gz30 (bvs tt).toArray (by rfl) (by rfl) 26 _ hz (hi44 tt TL.out).out (hsz _ tt (by rw [TL.out, List.length_replicate])).out (bvs_all tt) ?_
            have HW := below_setRow HB.out FZ.out.2 (bvs tt).toArray
            have HT := hid (FZ.out.1.row (m := tt))
            refine hK.out _ _ HW ?_
            clear hK K
            try simp only [putz]
            refine Goes.done (by as_aux_lemma => kernel_rfl) ?_ _
            refine NoPanic.normal ?_
            go_wp2
            go_meet
            exact ⟨_, rfl, hid ⟨HW, HT.out⟩⟩
          · skip
            go_simp
            have hb := (Below.refl w3_30.heap.size w3_30).alloc (Nat.le_refl _) (.cells #[.int .u8 ((bb.toNat : Nat) : Int)] 5)
            have hh := Blk.new w3_30 #[.int .u8 ((bb.toNat : Nat) : Int)] 5
            have hz := HB.out.size
            refine hK.out _ _ (HB.out.trans (hb.mono HB.out.size)) ?_
            clear hK K
            try simp only [putz]
            have HB := hid (HB.out.trans (hb.mono HB.out.size))
            have Ngl1gb35 := hid F8.out.1.lt
            have Ngz30gb35 := hid FZ.out.1.lt
            have F8 := hid (And.intro (F8.out.1.on hb) F8.out.2)
            have FZ := hid (And.intro (FZ.out.1.on hb) FZ.out.2)
            generalize w3_30.alloc (.cells #[.int .u8 ((bb.toNat : Nat) : Int)] 5) = w3_35 at *
            generalize w3_30.heap.size = gb35 at *
            have F13 := hid (And.intro hh hz)
            clear hb hh hz
            refine Goes.one (i := 9) (o := ⟨some 49, _, _, _, _, _⟩) (by as_aux_lemma => kernel_rfl) rfl (fun K hK => ?_)
            obtain ⟨w3_36, hrun, HBN, HBK, HG⟩ := conv_mark gl1 4 _ rfl F8.out.2 F8.out.1 HB.out
            rw [if_pos (by rfl)]
            refine wp_convert (.tmp 48) rfl _ rfl _ _ hrun.out ?_
            refine hK.out _ _ HBN.out ?_
            clear hK K hrun
            try simp only [putz]
            have HB := hid HBN.out
            have FZ := hid (And.intro (FZ.out.1.grown HG.out (Nat.ne_of_gt Ngl1gz30.out)) FZ.out.2)
            have F13 := hid (And.intro (F13.out.1.grown HG.out (Nat.ne_of_gt Ngl1gb35.out)) F13.out.2)
            have F8 := hid (And.intro HBK.out F8.out.2)
            clear HBN HBK HG
            refine Goes.one (i := 14) (o := ⟨some 54, _, _, _, _, _⟩) (by as_aux_lemma => kernel_rfl) rfl (fun K hK => ?_)
            go_simp
            have hb := (Below.refl w3_36.heap.size w3_36).alloc (Nat.le_refl _) (.cells #[.slice (some ⟨g1, f, none⟩) 32 64, .slice (some ⟨gl1, 0, none⟩) 4 4, .slice (some ⟨gb35, 0, none⟩) 1 1] 29)
            have hh := Blk.new w3_36 #[.slice (some ⟨g1, f, none⟩) 32 64, .slice (some ⟨gl1, 0, none⟩) 4 4, .slice (some ⟨gb35, 0, none⟩) 1 1] 29
            have hz := HB.out.size
            refine hK.out _ _ (HB.out.trans (hb.mono HB.out.size)) ?_
            clear hK K
            try simp only [putz]
            have HB := hid (HB.out.trans (hb.mono HB.out.size))
            have Ngl1gr37 := hid F8.out.1.lt
            have Ngz30gr37 := hid FZ.out.1.lt
            have Ngb35gr37 := hid F13.out.1.lt
            have F8 := hid (And.intro (F8.out.1.on hb) F8.out.2)
            have FZ := hid (And.intro (FZ.out.1.on hb) FZ.out.2)
            have F13 := hid (And.intro (F13.out.1.on hb) F13.out.2)
            generalize w3_36.alloc (.cells #[.slice (some ⟨g1, f, none⟩) 32 64, .slice (some ⟨gl1, 0, none⟩) 4 4, .slice (some ⟨gb35, 0, none⟩) 1 1] 29) = w3_37 at *
            generalize w3_36.heap.size = gr37 at *
            have F14 := hid (And.intro hh hz)
            clear hb hh hz
            refine Goes.one (i := 15) (o := ⟨some 55, _, _, _, _, _⟩) (by as_aux_lemma => kernel_rfl) rfl (fun K hK => ?_)
            go_simp
            have hrr := rws3 F14.out.1 (x0 := xx) (x1 := lane) (x2 := [bb]) (FX.out _ HB.out) HXL.out (by decide) (by decide) (fun h => by cases h) (rd_blk lane F8.out.1 rfl) rfl (by decide) (by decide) (fun h => by cases h) (rd_blk [bb] F13.out.1 rfl) rfl (by decide) (by decide) (fun h => by cases h)
            refine (macof_any (some ⟨g8, 0, none⟩) 32 kk 32 (some ⟨gr37, 0, none⟩) 3 3 _ _ _ _ w3_37 KL.out (bt_rd (FG.out _ HB.out)) (by decide) (by decide) hrr (FK.out _ HB.out) (by decide) (fun r hr => by split; decide; split <;> decide)).mono ?_
            rintro e w3_38 ⟨rfl, hb⟩
            rw [cat3, TE.out]
            go_wp2_with fail
            refine hK.out _ _ (HB.out.trans (hb.mono HB.out.size)) ?_
            clear hK K hrr
            try simp only [putz]
            have HB := hid (HB.out.trans (hb.mono HB.out.size))
            have F8 := hid (And.intro (F8.out.1.on hb) F8.out.2)
            have FZ := hid (And.intro (FZ.out.1.on hb) FZ.out.2)
            have F13 := hid (And.intro (F13.out.1.on hb) F13.out.2)
            have F14 := hid (And.intro (F14.out.1.on hb) F14.out.2)
            clear hb
            refine Goes.one (i := 17) (o := ⟨none, _, _, _, _, _⟩) (by as_aux_lemma => kernel_rfl) rfl (fun K hK => ?_)
            rw [if_pos (by rfl)]
            have hz := FZ.out.1
            unfold Bt at hz
            refine wp_store_row 26 (.tmp 11) (.tmp 55) (by rfl) gz30 (bvs tt).toArray (by rfl) (by rfl) 26 _ hz (hi44 tt TL.out).out (hsz _ tt (by rw [TL.out, List.length_replicate])).out (bvs_all tt) ?_
            have HW := below_setRow HB.out FZ.out.2 (bvs tt).toArray
            have HT := hid (FZ.out.1.row (m := tt))
            refine hK.out _ _ HW ?_
            clear hK K
            try simp only [putz]
            refine Goes.done (by as_aux_lemma => kernel_rfl) ?_ _
            refine NoPanic.normal ?_
            go_wp2
            go_meet
            exact ⟨_, rfl, hid ⟨HW, HT.out⟩⟩
      · skip
        go_simp
        have hb := (Below.refl w3d.heap.size w3d).alloc (Nat.le_refl _) (.cells #[.int .u8 ((bb.toNat : Nat) : Int)] 5)
        have hh := Blk.new w3d #[.int .u8 ((bb.toNat : Nat) : Int)] 5
        have hz := HB.out.size
        refine hK.out _ _ (HB.out.trans (hb.mono HB.out.size)) ?_
        clear hK K
        try simp only [putz]
        have HB := hid (HB.out.trans (hb.mono HB.out.size))
        generalize w3d.alloc (.cells #[.int .u8 ((bb.toNat : Nat) : Int)] 5) = w3_39 at *
        generalize w3d.heap.size = gb39 at *
        have F13 := hid (And.intro hh hz)
        clear hb hh hz
        refine Goes.two (i := 8) (j := 16) (o := ⟨some 48, _, _, _, _, _⟩) (p := ⟨some 11, _, _, _, _, _⟩) (by as_aux_lemma => kernel_rfl) rfl rfl (fun K hK => ?_) (fun K hK => ?_)
        · skip
          go_simp
          have hb := (Below.refl w3_39.heap.size w3_39).alloc (Nat.le_refl _) (.cells #[.int .u8 108, .int .u8 97, .int .u8 110, .int .u8 101] 5)
          have hh := Blk.new w3_39 #[.int .u8 108, .int .u8 97, .int .u8 110, .int .u8 101] 5
          have hz := HB.out.size
          refine hK.out _ _ (HB.out.trans (hb.mono HB.out.size)) ?_
          clear hK K
          try simp only [putz]
          have HB := hid (HB.out.trans (hb.mono HB.out.size))
          have Ngb39gl40 := hid F13.out.1.lt
          have F13 := hid (And.intro (F13.out.1.on hb) F13.out.2)
          generalize w3_39.alloc (.cells #[.int .u8 108, .int .u8 97, .int .u8 110, .int .u8 101] 5) = w3_40 at *
          generalize w3_39.heap.size = gl40 at *
          have F8 := hid (And.intro hh hz)
          clear hb hh hz
          refine Goes.two (i := 9) (j := 16) (o := ⟨some 49, _, _, _, _, _⟩) (p := ⟨some 11, _, _, _, _, _⟩) (by as_aux_lemma => kernel_rfl) rfl rfl (fun K hK => ?_) (fun K hK => ?_)
          · skip
            obtain ⟨w3_41, hrun, HBN, HBK, HG⟩ := conv_mark gl40 4 _ rfl F8.out.2 F8.out.1 HB.out
            rw [if_pos (by rfl)]
            refine wp_convert (.tmp 48) rfl _ rfl _ _ hrun.out ?_
            refine hK.out _ _ HBN.out ?_
            clear hK K hrun
            try simp only [putz]
            have HB := hid HBN.out
            have F13 := hid (And.intro (F13.out.1.grown HG.out (Nat.ne_of_lt Ngb39gl40.out)) F13.out.2)
            have F8 := hid (And.intro HBK.out F8.out.2)
            clear HBN HBK HG
            refine Goes.two (i := 14) (j := 16) (o := ⟨some 54, _, _, _, _, _⟩) (p := ⟨some 11, _, _, _, _, _⟩) (by as_aux_lemma => kernel_rfl) rfl rfl (fun K hK => ?_) (fun K hK => ?_)
            · skip
              go_simp
              have hb := (Below.refl w3_41.heap.size w3_41).alloc (Nat.le_refl _) (.cells #[.slice (some ⟨g1, f, none⟩) 32 64, .slice (some ⟨gl40, 0, none⟩) 4 4, .slice (some ⟨gb39, 0, none⟩) 1 1] 29)
              have hh := Blk.new w3_41 #[.slice (some ⟨g1, f, none⟩) 32 64, .slice (some ⟨gl40, 0, none⟩) 4 4, .slice (some ⟨gb39, 0, none⟩) 1 1] 29
              have hz := HB.out.size
              refine hK.out _ _ (HB.out.trans (hb.mono HB.out.size)) ?_
              clear hK K
              try simp only [putz]
              have HB := hid (HB.out.trans (hb.mono HB.out.size))
              have Ngb39gr42 := hid F13.out.1.lt
              have Ngl40gr42 := hid F8.out.1.lt
              have F13 := hid (And.intro (F13.out.1.on hb) F13.out.2)
              have F8 := hid (And.intro (F8.out.1.on hb) F8.out.2)
              generalize w3_41.alloc (.cells #[.slice (some ⟨g1, f, none⟩) 32 64, .slice (some ⟨gl40, 0, none⟩) 4 4, .slice (some ⟨gb39, 0, none⟩) 1 1] 29) = w3_42 at *
              generalize w3_41.heap.size = gr42 at *
              have F14 := hid (And.intro hh hz)
              clear hb hh hz
              refine Goes.two (i := 15) (j := 16) (o := ⟨some 55, _, _, _, _, _⟩) (p := ⟨some 11, _, _, _, _, _⟩) (by as_aux_lemma => kernel_rfl) rfl rfl (fun K hK => ?_) (fun K hK => ?_)
              · skip
                go_simp
                have hrr := rws3 F14.out.1 (x0 := xx) (x1 := lane) (x2 := [bb]) (FX.out _ HB.out) HXL.out (by decide) (by decide) (fun h => by cases h) (rd_blk lane F8.out.1 rfl) rfl (by decide) (by decide) (fun h => by cases h) (rd_blk [bb] F13.out.1 rfl) rfl (by decide) (by decide) (fun h => by cases h)
                refine (macof_any (some ⟨g8, 0, none⟩) 32 kk 32 (some ⟨gr42, 0, none⟩) 3 3 _ _ _ _ w3_42 KL.out (bt_rd (FG.out _ HB.out)) (by decide) (by decide) hrr (FK.out _ HB.out) (by decide) (fun r hr => by split; decide; split <;> decide)).mono ?_
                rintro e w3_43 ⟨rfl, hb⟩
                rw [cat3, TE.out]
                go_wp2_with fail
                refine hK.out _ _ (HB.out.trans (hb.mono HB.out.size)) ?_
                clear hK K hrr
                try simp only [putz]
                have HB := hid (HB.out.trans (hb.mono HB.out.size))
                have F13 := hid (And.intro (F13.out.1.on hb) F13.out.2)
                have F8 := hid (And.intro (F8.out.1.on hb) F8.out.2)
                have F14 := hid (And.intro (F14.out.1.on hb) F14.out.2)
                clear hb
                refine Goes.one (i := 16) (o := ⟨some 11, _, _, _, _, _⟩) (by as_aux_lemma => kernel_rfl) rfl (fun K hK => ?_)
                go_simp
                rw [← lit32]
                have hb := (Below.refl w3_43.heap.size w3_43).alloc (Nat.le_refl _) (.cells (bvs (List.replicate 32 0)).toArray 26)
                have hh := heap_alloc_new w3_43 (.cells (bvs (List.replicate 32 0)).toArray 26)
                have hz := HB.out.size
                refine hK.out _ _ (HB.out.trans (hb.mono HB.out.size)) ?_
                clear hK K
                try simp only [putz]
                have HB := hid (HB.out.trans (hb.mono HB.out.size))
                have Ngb39gz44 := hid F13.out.1.lt
                have Ngl40gz44 := hid F8.out.1.lt
                have Ngr42gz44 := hid F14.out.1.lt
                have F13 := hid (And.intro (F13.out.1.on hb) F13.out.2)
                have F8 := hid (And.intro (F8.out.1.on hb) F8.out.2)
                have F14 := hid (And.intro (F14.out.1.on hb) F14.out.2)
                generalize w3_43.alloc (.cells (bvs (List.replicate 32 0)).toArray 26) = w3_44 at *
                generalize w3_43.heap.size = gz44 at *
                have FZ := hid (And.intro (show Bt w3_44 gz44 26 _ from hh) hz)
                clear hb hh hz
                refine Goes.one (i := 17) (o := ⟨none, _, _, _, _, _⟩) (by as_aux_lemma => kernel_rfl) rfl (fun K hK => ?_)
                rw [if_pos (by rfl)]
                have hz := FZ.out.1
                unfold Bt at hz
                refine wp_store_row 26 (.tmp 11) (.tmp 55) (by rfl) gz44 (bvs tt).toArray (by rfl) (by rfl) 26 _ hz (hi44 tt TL.out).out (hsz _ tt (by rw [TL.out, List.length_replicate])).out (bvs_all tt) ?_
                have HW := below_setRow HB.out FZ.out.2 (bvs tt).toArray
                have HT := hid (FZ.out.1.row (m := tt))
                refine hK.out _ _ HW ?_
                clear hK K
                try simp only [putz]
                refine Goes.done (by as_aux_lemma => kernel_rfl) ?_ _
                refine NoPanic.normal ?_
                go_wp2
                go_meet
                exact ⟨_, rfl, hid ⟨HW, HT.out⟩⟩
              · skip
                go_simp
                rw [← lit32]
                have hb := (Below.refl w3_42.heap.size w3_42).alloc (Nat.le_refl _) (.cells (bvs (List.replicate 32 0)).toArray 26)
                have hh := heap_alloc_new w3_42 (.cells (bvs (List.replicate 32 0)).toArray 26)
                have hz := HB.out.size
                refine hK.out _ _ (HB.out.trans (hb.mono HB.out.size)) ?_
                clear hK K
                try simp only [putz]
                have HB := hid (HB.out.trans (hb.mono HB.out.size))
                have Ngb39gz45 := hid F13.out.1.lt
                have Ngl40gz45 := hid F8.out.1.lt
                have Ngr42gz45 := hid F14.out.1.lt
                have F13 := hid (And.intro (F13.out.1.on hb) F13.out.2)
                have F8 := hid (And.intro (F8.out.1.on hb) F8.out.2)
                have F14 := hid (And.intro (F14.out.1.on hb) F14.out.2)
                generalize w3_42.alloc (.cells (bvs (List.replicate 32 0)).toArray 26) = w3_45 at *
                generalize w3_42.heap.size = gz45 at *
                have FZ := hid (And.intro (show Bt w3_45 gz45 26 _ from hh) hz)
                clear hb hh hz
                refine Goes.one (i := 15) (o := ⟨some 55, _, _, _, _, _⟩) (by as_aux_lemma => kernel_rfl) rfl (fun K hK => ?_)
                go_simp
                have hrr := rws3 F14.out.1 (x0 := xx) (x1 := lane) (x2 := [bb]) (FX.out _ HB.out) HXL.out (by decide) (by decide) (fun h => by cases h) (rd_blk lane F8.out.1 rfl) rfl (by decide) (by decide) (fun h => by cases h) (rd_blk [bb] F13.out.1 rfl) rfl (by decide) (by decide) (fun h => by cases h)
                refine (macof_any (some ⟨g8, 0, none⟩) 32 kk 32 (some ⟨gr42, 0, none⟩) 3 3 _ _ _ _ w3_45 KL.out (bt_rd (FG.out _ HB.out)) (by decide) (by decide) hrr (FK.out _ HB.out) (by decide) (fun r hr => by split; decide; split <;> decide)).mono ?_
                rintro e w3_46 ⟨rfl, hb⟩
                rw [cat3, TE.out]
                go_wp2_with fail
                refine hK.out _ _ (HB.out.trans (hb.mono HB.out.size)) ?_
                clear hK K hrr
                try simp only [putz]
                have HB := hid (HB.out.trans (hb.mono HB.out.size))
                have F13 := hid (And.intro (F13.out.1.on hb) F13.out.2)
                have F8 := hid (And.intro (F8.out.1.on hb) F8.out.2)
                have F14 := hid (And.intro (F14.out.1.on hb) F14.out.2)
                have FZ := hid (And.intro (FZ.out.1.on hb) FZ.out.2)
                clear hb
                refine Goes.one (i := 17) (o := ⟨none, _, _, _, _, _⟩) (by as_aux_lemma => kernel_rfl) rfl (fun K hK => ?_)
                rw [if_pos (by rfl)]
                have hz := FZ.out.1
                unfold Bt at hz
                refine wp_store_row 26 (.tmp 11) (.tmp 55) (by rfl) gz45 (bvs tt).toArray (by rfl) (by rfl) 26 _ hz (hi44 tt TL.out).out (hsz _ tt (by rw [TL.out, List.length_replicate])).out (bvs_all tt) ?_
                have HW := below_setRow HB.out FZ.out.2 (bvs tt).toArray
                have HT := hid (FZ.out.1.row (m := tt))
                refine hK.out _ _ HW ?_
                clear hK K
                try simp only [putz]
                refine Goes.done (by as_aux_lemma => kernel_rfl) ?_ _
                refine NoPanic.normal ?_
                go_wp2
                go_meet
                exact ⟨_, rfl, hid ⟨HW, HT.out⟩⟩
            · skip
              go_simp
              rw [← lit32]
              have hb := (Below.refl w3_41.heap.size w3_41).alloc (Nat.le_refl _) (.cells (bvs (List.replicate 32 0)).toArray 26)
              have hh := heap_alloc_new w3_41 (.cells (bvs (List.replicate 32 0)).toArray 26)
              have hz := HB.out.size
              refine hK.out _ _ (HB.out.trans (hb.mono HB.out.size)) ?_
              clear hK K
              try simp only [putz]
              have HB := hid (HB.out.trans (hb.mono HB.out.size))
              have Ngb39gz47 := hid F13.out.1.lt
              have Ngl40gz47 := hid F8.out.1.lt
              have F13 := hid (And.intro (F13.out.1.on hb) F13.out.2)
              have F8 := hid (And.intro (F8.out.1.on hb) F8.out.2)
              generalize w3_41.alloc (.cells (bvs (List.replicate 32 0)).toArray 26) = w3_47 at *
              generalize w3_41.heap.size = gz47 at *
              have FZ := hid (And.intro (show Bt w3_47 gz47 26 _ from hh) hz)
              clear hb hh hz
              refine Goes.one (i := 14) (o := ⟨some 54, _, _, _, _, _⟩) (by as_aux_lemma => kernel_rfl) rfl (fun K hK => ?_)
              go_simp
              have hb := (Below.refl w3_47.heap.size w3_47).alloc (Nat.le_refl _) (.cells #[.slice (some ⟨g1, f, none⟩) 32 64, .slice (some ⟨gl40, 0, none⟩) 4 4, .slice (some ⟨gb39, 0, none⟩) 1 1] 29)
              have hh := Blk.new w3_47 #[.slice (some ⟨g1, f, none⟩) 32 64, .slice (some ⟨gl40, 0, none⟩) 4 4, .slice (some ⟨gb39, 0, none⟩) 1 1] 29
              have hz := HB.out.size
              refine hK.out _ _ (HB.out.trans (hb.mono HB.out.size)) ?_
              clear hK K
              try simp only [putz]
              have HB := hid (HB.out.trans (hb.mono HB.out.size))
              have Ngb39gr48 := hid F13.out.1.lt
              have Ngl40gr48 := hid F8.out.1.lt
              have Ngz47gr48 := hid FZ.out.1.lt
              have F13 := hid (And.intro (F13.out.1.on hb) F13.out.2)
              have F8 := hid (And.intro (F8.out.1.on hb) F8.out.2)
              have FZ := hid (And.intro (FZ.out.1.on hb) FZ.out.2)
              generalize w3_47.alloc (.cells #[.slice (some ⟨g1, f, none⟩) 32 64, .slice (some ⟨gl40, 0, none⟩) 4 4, .slice (some ⟨gb39, 0, none⟩) 1 1] 29) = w3_48 at *
              generalize w3_47.heap.size = gr48 at *
              have F14 := hid (And.intro hh hz)
              clear hb hh hz
              refine Goes.one (i := 15) (o := ⟨some 55, _, _, _, _, _⟩) (by as_aux_lemma => kernel_rfl) rfl (fun K hK => ?_)
              go_simp
              have hrr := rws3 F14.out.1 (x0 := xx) (x1 := lane) (x2 := [bb]) (FX.out _ HB.out) HXL.out (by decide) (by decide) (fun h => by cases h) (rd_blk lane F8.out.1 rfl) rfl (by decide) (by decide) (fun h => by cases h) (rd_blk [bb] F13.out.1 rfl) rfl (by decide) (by decide) (fun h => by cases h)
              refine (macof_any (some ⟨g8, 0, none⟩) 32 kk 32 (some ⟨gr48, 0, none⟩) 3 3 _ _ _ _ w3_48 KL.out (bt_rd (FG.out _ HB.out)) (by decide) (by decide) hrr (FK.out _ HB.out) (by decide) (fun r hr => by split; decide; split <;> decide)).mono ?_
              rintro e w3_49 ⟨rfl, hb⟩
              rw [cat3, TE.out]
              go_wp2_with fail
              refine hK.out _ _ (HB.out.trans (hb.mono HB.out.size)) ?_
              clear hK K hrr
              try simp only [putz]
              have HB := hid (HB.out.trans (hb.mono HB.out.size))
              have F13 := hid (And.intro (F13.out.1.on hb) F13.out.2)
              have F8 := hid (And.intro (F8.out.1.on hb) F8.out.2)
              have FZ := hid (And.intro (FZ.out.1.on hb) FZ.out.2)
              have F14 := hid (And.intro (F14.out.1.on hb) F14.out.2)
              clear hb
              refine Goes.one (i := 17) (o := ⟨none, _, _, _, _, _⟩) (by as_aux_lemma => kernel_rfl) rfl (fun K hK => ?_)
              rw [if_pos (by rfl)]
              have hz := FZ.out.1
              unfold Bt at hz
              refine wp_store_row 26 (.tmp 11) (.tmp 55) (by rfl) gz47 (bvs tt).toArray (by rfl) (by rfl) 26 _ hz (hi44 tt TL.out).out (hsz _ tt (by rw [TL.out, List.length_replicate])).out (bvs_all tt) ?_
              have HW := below_setRow HB.out FZ.out.2 (bvs tt).toArray
              have HT := hid (FZ.out.1.row (m := tt))
              refine hK.out _ _ HW ?_
              clear hK K
              try simp only [putz]
              refine Goes.done (by as_aux_lemma => kernel_rfl) ?_ _
              refine NoPanic.normal ?_
              go_wp2
              go_meet
              exact ⟨_, rfl, hid ⟨HW, HT.out⟩⟩
          · skip
            go_simp
            rw [← lit32]
            have hb := (Below.refl w3_40.heap.size w3_40).alloc (Nat.le_refl _) (.cells (bvs (List.replicate 32 0)).toArray 26)
            have hh := heap_alloc_new w3_40 (.cells (bvs (List.replicate 32 0)).toArray 26)
            have hz := HB.out.size
            refine hK.out _ _ (HB.out.trans (hb.mono HB.out.size)) ?_
            clear hK K
            try simp only [putz]
            have HB := hid (HB.out.trans (hb.mono HB.out.size))
            have Ngb39gz50 := hid F13.out.1.lt
            have Ngl40gz50 := hid F8.out.1.lt
            have F13 := hid (And.intro (F13.out.1.on hb) F13.out.2)
            have F8 := hid (And.intro (F8.out.1.on hb) F8.out.2)
            generalize w3_40.alloc (.cells (bvs (List.replicate 32 0)).toArray 26) = w3_50 at *
            generalize w3_40.heap.size = gz50 at *
            have FZ := hid (And.intro (show Bt w3_50 gz50 26 _ from hh) hz)
            clear hb hh hz
            refine Goes.one (i := 9) (o := ⟨some 49, _, _, _, _, _⟩) (by as_aux_lemma => kernel_rfl) rfl (fun K hK => ?_)
            obtain ⟨w3_51, hrun, HBN, HBK, HG⟩ := conv_mark gl40 4 _ rfl F8.out.2 F8.out.1 HB.out
            rw [if_pos (by rfl)]
            refine wp_convert (.tmp 48) rfl _ rfl _ _ hrun.out ?_
            refine hK.out _ _ HBN.out ?_
            clear hK K hrun
            try simp only [putz]
            have HB := hid HBN.out
            have F13 := hid (And.intro (F13.out.1.grown HG.out (Nat.ne_of_lt Ngb39gl40.out)) F13.out.2)
            have FZ := hid (And.intro (FZ.out.1.grown HG.out (Nat.ne_of_gt Ngl40gz50.out)) FZ.out.2)
            have F8 := hid (And.intro HBK.out F8.out.2)
            clear HBN HBK HG
            refine Goes.one (i := 14) (o := ⟨some 54, _, _, _, _, _⟩) (by as_aux_lemma => kernel_rfl) rfl (fun K hK => ?_)
            go_simp
            have hb := (Below.refl w3_51.heap.size w3_51).alloc (Nat.le_refl _) (.cells #[.slice (some ⟨g1, f, none⟩) 32 64, .slice (some ⟨gl40, 0, none⟩) 4 4, .slice (some ⟨gb39, 0, none⟩) 1 1] 29)
            have hh := Blk.new w3_51 #[.slice (some ⟨g1, f, none⟩) 32 64, .slice (some ⟨gl40, 0, none⟩) 4 4, .slice (some ⟨gb39, 0, none⟩) 1 1] 29
            have hz := HB.out.size
            refine hK.out _ _ (HB.out.trans (hb.mono HB.out.size)) ?_
            clear hK K
            try simp only [putz]
            have HB := hid (HB.out.trans (hb.mono HB.out.size))
            have Ngb39gr52 := hid F13.out.1.lt
            have Ngl40gr52 := hid F8.out.1.lt
            have Ngz50gr52 := hid FZ.out.1.lt
            have F13 := hid (And.intro (F13.out.1.on hb) F13.out.2)
            have F8 := hid (And.intro (F8.out.1.on hb) F8.out.2)
            have FZ := hid (And.intro (FZ.out.1.on hb) FZ.out.2)
            generalize w3_51.alloc (.cells #[.slice (some ⟨g1, f, none⟩) 32 64, .slice (some ⟨gl40, 0, none⟩) 4 4, .slice (some ⟨gb39, 0, none⟩) 1 1] 29) = w3_52 at *
            generalize w3_51.heap.size = gr52 at *
            have F14 := hid (And.intro hh hz)
            clear hb hh hz
            refine Goes.one (i := 15) (o := ⟨some 55, _, _, _, _, _⟩) (by as_aux_lemma => kernel_rfl) rfl (fun K hK => ?_)
            go_simp
            have hrr := rws3 F14.out.1 (x0 := xx) (x1 := lane) (x2 := [bb]) (FX.out _ HB.out) HXL.out (by decide) (by decide) (fun h => by cases h) (rd_blk lane F8.out.1 rfl) rfl (by decide) (by decide) (fun h => by cases h) (rd_blk [bb] F13.out.1 rfl) rfl (by decide) (by decide) (fun h => by cases h)
            refine (macof_any (some ⟨g8, 0, none⟩) 32 kk 32 (some ⟨gr52, 0, none⟩) 3 3 _ _ _ _ w3_52 KL.out (bt_rd (FG.out _ HB.out)) (by decide) (by decide) hrr (FK.out _ HB.out) (by decide) (fun r hr => by split; decide; split <;> decide)).mono ?_
            rintro e w3_53 ⟨rfl, hb⟩
            rw [cat3, TE.out]
            go_wp2_with fail
            refine hK.out _ _ (HB.out.trans (hb.mono HB.out.size)) ?_
            clear hK K hrr
            try simp only [putz]
            have HB := hid (HB.out.trans (hb.mono HB.out.size))
            have F13 := hid (And.intro (F13.out.1.on hb) F13.out.2)
            have F8 := hid (And.intro (F8.out.1.on hb) F8.out.2)
            have FZ := hid (And.intro (FZ.out.1.on hb) FZ.out.2)
            have F14 := hid (And.intro (F14.out.1.on hb) F14.out.2)
            clear hb
            refine Goes.one (i := 17) (o := ⟨none, _, _, _, _, _⟩) (by as_aux_lemma => kernel_rfl) rfl (fun K hK => ?_)
            rw [if_pos (by rfl)]
            have hz := FZ.out.1
            unfold Bt at hz
            refine wp_store_row 26 (.tmp 11) (.tmp 55) (by rfl) gz50 (bvs tt).toArray (by rfl) (by rfl) 26 _ hz (hi44 tt TL.out).out (hsz _ tt (by rw [TL.out, List.length_replicate])).out (bvs_all tt) ?_
            have HW := below_setRow HB.out FZ.out.2 (bvs tt).toArray
            have HT := hid (FZ.out.1.row (m := tt))
            refine hK.out _ _ HW ?_
            clear hK K
            try simp only [putz]
            refine Goes.done (by as_aux_lemma => kernel_rfl) ?_ _
            refine NoPanic.normal ?_
            go_wp2
            go_meet
            exact ⟨_, rfl, hid ⟨HW, HT.out⟩⟩
        · skip
          go_simp
          rw [← lit32]
          have hb := (Below.refl w3_39.heap.size w3_39).alloc (Nat.le_refl _) (.cells (bvs (List.replicate 32 0)).toArray 26)
          have hh := heap_alloc_new w3_39 (.cells (bvs (List.replicate 32 0)).toArray 26)
          have hz := HB.out.size
          refine hK.out _ _ (HB.out.trans (hb.mono HB.out.size)) ?_
          clear hK K
          try simp only [putz]
          have HB := hid (HB.out.trans (hb.mono HB.out.size))
          have Ngb39gz54 := hid F13.out.1.lt
          have F13 := hid (And.intro (F13.out.1.on hb) F13.out.2)
          generalize w3_39.alloc (.cells (bvs (List.replicate 32 0)).toArray 26) = w3_54 at *
          generalize w3_39.heap.size = gz54 at *
          have FZ := hid (And.intro (show Bt w3_54 gz54 26 _ from hh) hz)
          clear hb hh hz
          refine Goes.one (i := 8) (o := ⟨some 48, _, _, _, _, _⟩) (by as_aux_lemma => kernel_rfl) rfl (fun K hK => ?_)
          go_simp
          have hb := (Below.refl w3_54.heap.size w3_54).alloc (Nat.le_refl _) (.cells #[.int .u8 108, .int .u8 97, .int .u8 110, .int .u8 101] 5)
          have hh := Blk.new w3_54 #[.int .u8 108, .int .u8 97, .int .u8 110, .int .u8 101] 5
          have hz := HB.out.size
          refine hK.out _ _ (HB.out.trans (hb.mono HB.out.size)) ?_
          clear hK K
          try simp only [putz]
          have HB := hid (HB.out.trans (hb.mono HB.out.size))
          have Ngb39gl55 := hid F13.out.1.lt
          have Ngz54gl55 := hid FZ.out.1.lt
          have F13 := hid (And.intro (F13.out.1.on hb) F13.out.2)
          have FZ := hid (And.intro (FZ.out.1.on hb) FZ.out.2)
          generalize w3_54.alloc (.cells #[.int .u8 108, .int .u8 97, .int .u8 110, .int .u8 101] 5) = w3_55 at *
          generalize w3_54.heap.size = gl55 at *
          have F8 := hid (And.intro hh hz)
          clear hb hh hz
          refine Goes.one (i := 9) (o := ⟨some 49, _, _, _, _, _⟩) (by as_aux_lemma => kernel_rfl) rfl (fun K hK => ?_)
          obtain ⟨w3_56, hrun, HBN, HBK, HG⟩ := conv_mark gl55 4 _ rfl F8.out.2 F8.out.1 HB.out
          rw [if_pos (by rfl)]
          refine wp_convert (.tmp 48) rfl _ rfl _ _ hrun.out ?_
          refine hK.out _ _ HBN.out ?_
          clear hK K hrun
          try simp only [putz]
          have HB := hid HBN.out
          have F13 := hid (And.intro (F13.out.1.grown HG.out (Nat.ne_of_lt Ngb39gl55.out)) F13.out.2)
          have FZ := hid (And.intro (FZ.out.1.grown HG.out (Nat.ne_of_lt Ngz54gl55.out)) FZ.out.2)
          have F8 := hid (And.intro HBK.out F8.out.2)
          clear HBN HBK HG
          refine Goes.one (i := 14) (o := ⟨some 54, _, _, _, _, _⟩) (by as_aux_lemma => kernel_rfl) rfl (fun K hK => ?_)
          go_simp
          have hb := (Below.refl w3_56.heap.size w3_56).alloc (Nat.le_refl _) (.cells #[.slice (some ⟨g1, f, none⟩) 32 64, .slice (some ⟨gl55, 0, none⟩) 4 4, .slice (some ⟨gb39, 0, none⟩) 1 1] 29)
          have hh := Blk.new w3_56 #[.slice (some ⟨g1, f, none⟩) 32 64, .slice (some ⟨gl55, 0, none⟩) 4 4, .slice (some ⟨gb39, 0, none⟩) 1 1] 29
          have hz := HB.out.size
          refine hK.out _ _ (HB.out.trans (hb.mono HB.out.size)) ?_
          clear hK K
          try simp only [putz]
          have HB := hid (HB.out.trans (hb.mono HB.out.size))
          have Ngb39gr57 := hid F13.out.1.lt
          have Ngz54gr57 := hid FZ.out.1.lt
          have Ngl55gr57 := hid F8.out.1.lt
          have F13 := hid (And.intro (F13.out.1.on hb) F13.out.2)
          have FZ := hid (And.intro (FZ.out.1.on hb) FZ.out.2)
          have F8 := hid (And.intro (F8.out.1.on hb) F8.out.2)
          generalize w3_56.alloc (.cells #[.slice (some ⟨g1, f, none⟩) 32 64, .slice (some ⟨gl55, 0, none⟩) 4 4, .slice (some ⟨gb39, 0, none⟩) 1 1] 29) = w3_57 at *
          generalize w3_56.heap.size = gr57 at *
          have F14 := hid (And.intro hh hz)
          clear hb hh hz
          refine Goes.one (i := 15) (o := ⟨some 55, _, _, _, _, _⟩) (by as_aux_lemma => kernel_rfl) rfl (fun K hK => ?_)
          go_simp
          have hrr := rws3 F14.out.1 (x0 := xx) (x1 := lane) (x2 := [bb]) (FX.out _ HB.out) HXL.out (by decide) (by decide) (fun h => by cases h) (rd_blk lane F8.out.1 rfl) rfl (by decide) (by decide) (fun h => by cases h) (rd_blk [bb] F13.out.1 rfl) rfl (by decide) (by decide) (fun h => by cases h)
          refine (macof_any (some ⟨g8, 0, none⟩) 32 kk 32 (some ⟨gr57, 0, none⟩) 3 3 _ _ _ _ w3_57 KL.out (bt_rd (FG.out _ HB.out)) (by decide) (by decide) hrr (FK.out _ HB.out) (by decide) (fun r hr => by split; decide; split <;> decide)).mono ?_
          rintro e w3_58 ⟨rfl, hb⟩
          rw [cat3, TE.out]
          go_wp2_with fail
          refine hK.out _ _ (HB.out.trans (hb.mono HB.out.size)) ?_
          clear hK K hrr
          try simp only [putz]
          have HB := hid (HB.out.trans (hb.mono HB.out.size))
          have F13 := hid (And.intro (F13.out.1.on hb) F13.out.2)
          have FZ := hid (And.intro (FZ.out.1.on hb) FZ.out.2)
          have F8 := hid (And.intro (F8.out.1.on hb) F8.out.2)
          have F14 := hid (And.intro (F14.out.1.on hb) F14.out.2)
          clear hb
          refine Goes.one (i := 17) (o := ⟨none, _, _, _, _, _⟩) (by as_aux_lemma => kernel_rfl) rfl (fun K hK => ?_)
          rw [if_pos (by rfl)]
          have hz := FZ.out.1
          unfold Bt at hz
          refine wp_store_row 26 (.tmp 11) (.tmp 55) (by rfl) gz54 (bvs tt).toArray (by rfl) (by rfl) 26 _ hz (hi44 tt TL.out).out (hsz _ tt (by rw [TL.out, List.length_replicate])).out (bvs_all tt) ?_
          have HW := below_setRow HB.out FZ.out.2 (bvs tt).toArray
          have HT := hid (FZ.out.1.row (m := tt))
          refine hK.out _ _ HW ?_
          clear hK K
          try simp only [putz]
          refine Goes.done (by as_aux_lemma => kernel_rfl) ?_ _
          refine NoPanic.normal ?_
          go_wp2
          go_meet
          exact ⟨_, rfl, hid ⟨HW, HT.out⟩⟩
      · skip
        go_simp
        rw [← lit32]
        have hb := (Below.refl w3d.heap.size w3d).alloc (Nat.le_refl _) (.cells (bvs (List.replicate 32 0)).toArray 26)
        have hh := heap_alloc_new w3d (.cells (bvs (List.replicate 32 0)).toArray 26)
        have hz := HB.out.size
        refine hK.out _ _ (HB.out.trans (hb.mono HB.out.size)) ?_
        clear hK K
        try simp only [putz]
        have HB := hid (HB.out.trans (hb.mono HB.out.size))
        generalize w3d.alloc (.cells (bvs (List.replicate 32 0)).toArray 26) = w3_59 at *
        generalize w3d.heap.size = gz59 at *
        have FZ := hid (And.intro (show Bt w3_59 gz59 26 _ from hh) hz)
        clear hb hh hz
        refine Goes.two (i := 8) (j := 13) (o := ⟨some 48, _, _, _, _, _⟩) (p := ⟨some 53, _, _, _, _, _⟩) (by as_aux_lemma => kernel_rfl) rfl rfl (fun K hK => ?_) (fun K hK => ?_)
        · skip
          go_simp
          have hb := (Below.refl w3_59.heap.size w3_59).alloc (Nat.le_refl _) (.cells #[.int .u8 108, .int .u8 97, .int .u8 110, .int .u8 101] 5)
          have hh := Blk.new w3_59 #[.int .u8 108, .int .u8 97, .int .u8 110, .int .u8 101] 5
          have hz := HB.out.size
          refine hK.out _ _ (HB.out.trans (hb.mono HB.out.size)) ?_
          clear hK K
          try simp only [putz]
          have HB := hid (HB.out.trans (hb.mono HB.out.size))
          have Ngz59gl60 := hid FZ.out.1.lt
          have FZ := hid (And.intro (FZ.out.1.on hb) FZ.out.2)
          generalize w3_59.alloc (.cells #[.int .u8 108, .int .u8 97, .int .u8 110, .int .u8 101] 5) = w3_60 at *
          generalize w3_59.heap.size = gl60 at *
          have F8 := hid (And.intro hh hz)
          clear hb hh hz
          refine Goes.two (i := 9) (j := 13) (o := ⟨some 49, _, _, _, _, _⟩) (p := ⟨some 53, _, _, _, _, _⟩) (by as_aux_lemma => kernel_rfl) rfl rfl (fun K hK => ?_) (fun K hK => ?_)
          · skip
            obtain ⟨w3_61, hrun, HBN, HBK, HG⟩ := conv_mark gl60 4 _ rfl F8.out.2 F8.out.1 HB.out
            rw [if_pos (by rfl)]
            refine wp_convert (.tmp 48) rfl _ rfl _ _ hrun.out ?_
            refine hK.out _ _ HBN.out ?_
            clear hK K hrun
            try simp only [putz]
            have HB := hid HBN.out
            have FZ := hid (And.intro (FZ.out.1.grown HG.out (Nat.ne_of_lt Ngz59gl60.out)) FZ.out.2)
            have F8 := hid (And.intro HBK.out F8.out.2)
            clear HBN HBK HG
            refine Goes.one (i := 13) (o := ⟨some 53, _, _, _, _, _⟩) (by as_aux_lemma => kernel_rfl) rfl (fun K hK => ?_)
            go_simp
            have hb := (Below.refl w3_61.heap.size w3_61).alloc (Nat.le_refl _) (.cells #[.int .u8 ((bb.toNat : Nat) : Int)] 5)
            have hh := Blk.new w3_61 #[.int .u8 ((bb.toNat : Nat) : Int)] 5
            have hz := HB.out.size
            refine hK.out _ _ (HB.out.trans (hb.mono HB.out.size)) ?_
            clear hK K
            try simp only [putz]
            have HB := hid (HB.out.trans (hb.mono HB.out.size))
            have Ngz59gb62 := hid FZ.out.1.lt
            have Ngl60gb62 := hid F8.out.1.lt
            have FZ := hid (And.intro (FZ.out.1.on hb) FZ.out.2)
            have F8 := hid (And.intro (F8.out.1.on hb) F8.out.2)
            generalize w3_61.alloc (.cells #[.int .u8 ((bb.toNat : Nat) : Int)] 5) = w3_62 at *
            generalize w3_61.heap.size = gb62 at *
            have F13 := hid (And.intro hh hz)
            clear hb hh hz
            refine Goes.one (i := 14) (o := ⟨some 54, _, _, _, _, _⟩) (by as_aux_lemma => kernel_rfl) rfl (fun K hK => ?_)
            go_simp
            have hb := (Below.refl w3_62.heap.size w3_62).alloc (Nat.le_refl _) (.cells #[.slice (some ⟨g1, f, none⟩) 32 64, .slice (some ⟨gl60, 0, none⟩) 4 4, .slice (some ⟨gb62, 0, none⟩) 1 1] 29)
            have hh := Blk.new w3_62 #[.slice (some ⟨g1, f, none⟩) 32 64, .slice (some ⟨gl60, 0, none⟩) 4 4, .slice (some ⟨gb62, 0, none⟩) 1 1] 29
            have hz := HB.out.size
            refine hK.out _ _ (HB.out.trans (hb.mono HB.out.size)) ?_
            clear hK K
            try simp only [putz]
            have HB := hid (HB.out.trans (hb.mono HB.out.size))
            have Ngz59gr63 := hid FZ.out.1.lt
            have Ngl60gr63 := hid F8.out.1.lt
            have Ngb62gr63 := hid F13.out.1.lt
            have FZ := hid (And.intro (FZ.out.1.on hb) FZ.out.2)
            have F8 := hid (And.intro (F8.out.1.on hb) F8.out.2)
            have F13 := hid (And.intro (F13.out.1.on hb) F13.out.2)
            generalize w3_62.alloc (.cells #[.slice (some ⟨g1, f, none⟩) 32 64, .slice (some ⟨gl60, 0, none⟩) 4 4, .slice (some ⟨gb62, 0, none⟩) 1 1] 29) = w3_63 at *
            generalize w3_62.heap.size = gr63 at *
            have F14 := hid (And.intro hh hz)
            clear hb hh hz
            refine Goes.one (i := 15) (o := ⟨some 55, _, _, _, _, _⟩) (by as_aux_lemma => kernel_rfl) rfl (fun K hK => ?_)
            go_simp
            have hrr := rws3 F14.out.1 (x0 := xx) (x1 := lane) (x2 := [bb]) (FX.out _ HB.out) HXL.out (by decide) (by decide) (fun h => by cases h) (rd_blk lane F8.out.1 rfl) rfl (by decide) (by decide) (fun h => by cases h) (rd_blk [bb] F13.out.1 rfl) rfl (by decide) (by decide) (fun h => by cases h)
            refine (macof_any (some ⟨g8, 0, none⟩) 32 kk 32 (some ⟨gr63, 0, none⟩) 3 3 _ _ _ _ w3_63 KL.out (bt_rd (FG.out _ HB.out)) (by decide) (by decide) hrr (FK.out _ HB.out) (by decide) (fun r hr => by split; decide; split <;> decide)).mono ?_
            rintro e w3_64 ⟨rfl, hb⟩
            rw [cat3, TE.out]
            go_wp2_with fail
            refine hK.out _ _ (HB.out.trans (hb.mono HB.out.size)) ?_
            clear hK K hrr
            try simp only [putz]
            have HB := hid (HB.out.trans (hb.mono HB.out.size))
            have FZ := hid (And.intro (FZ.out.1.on hb) FZ.out.2)
            have F8 := hid (And.intro (F8.out.1.on hb) F8.out.2)
            have F13 := hid (And.intro (F13.out.1.on hb) F13.out.2)
            have F14 := hid (And.intro (F14.out.1.on hb) F14.out.2)
            clear hb
            refine Goes.one (i := 17) (o := ⟨none, _, _, _, _, _⟩) (by as_aux_lemma => kernel_rfl) rfl (fun K hK => ?_)
            rw [if_pos (by rfl)]
            have hz := FZ.out.1
            unfold Bt at hz
            refine wp_store_row 26 (.tmp 11) (.tmp 55) (by rfl) gz59 (bvs tt).toArray (by rfl) (by rfl) 26 _ hz (hi44 tt TL.out).out (hsz _ tt (by rw [TL.out, List.length_replicate])).out (bvs_all tt) ?_
            have HW := below_setRow HB.out FZ.out.2 (bvs tt).toArray
            have HT := hid (FZ.out.1.row (m := tt))
            refine hK.out _ _ HW ?_
            clear hK K
            try simp only [putz]
            refine Goes.done (by as_aux_lemma => kernel_rfl) ?_ _
            refine NoPanic.normal ?_
            go_wp2
            go_meet
            exact ⟨_, rfl, hid ⟨HW, HT.out⟩⟩
          · skip
            go_simp
            have hb := (Below.refl w3_60.heap.size w3_60).alloc (Nat.le_refl _) (.cells #[.int .u8 ((bb.toNat : Nat) : Int)] 5)
            have hh := Blk.new w3_60 #[.int .u8 ((bb.toNat : Nat) : Int)] 5
            have hz := HB.out.size
            refine hK.out _ _ (HB.out.trans (hb.mono HB.out.size)) ?_
            clear hK K
            try simp only [putz]
            have HB := hid (HB.out.trans (hb.mono HB.out.size))
            have Ngz59gb65 := hid FZ.out.1.lt
            have Ngl60gb65 := hid F8.out.1.lt
            have FZ := hid (And.intro (FZ.out.1.on hb) FZ.out.2)
            have F8 := hid (And.intro (F8.out.1.on hb) F8.out.2)
            generalize w3_60.alloc (.cells #[.int .u8 ((bb.toNat : Nat) : Int)] 5) = w3_65 at *
            generalize w3_60.heap.size = gb65 at *
            have F13 := hid (And.intro hh hz)
            clear hb hh hz
            refine Goes.one (i := 9) (o := ⟨some 49, _, _, _, _, _⟩) (by as_aux_lemma => kernel_rfl) rfl (fun K hK => ?_)
            obtain ⟨w3_66, hrun, HBN, HBK, HG⟩ := conv_mark gl60 4 _ rfl F8.out.2 F8.out.1 HB.out
            rw [if_pos (by rfl)]
            refine wp_convert (.tmp 48) rfl _ rfl _ _ hrun.out ?_
            refine hK.out _ _ HBN.out ?_
            clear hK K hrun
            try simp only [putz]
            have HB := hid HBN.out
            have FZ := hid (And.intro (FZ.out.1.grown HG.out (Nat.ne_of_lt Ngz59gl60.out)) FZ.out.2)
            have F13 := hid (And.intro (F13.out.1.grown HG.out (Nat.ne_of_gt Ngl60gb65.out)) F13.out.2)
            have F8 := hid (And.intro HBK.out F8.out.2)
            clear HBN HBK HG
            refine Goes.one (i := 14) (o := ⟨some 54, _, _, _, _, _⟩) (by as_aux_lemma => kernel_rfl) rfl (fun K hK => ?_)
            go_simp
            have hb := (Below.refl w3_66.heap.size w3_66).alloc (Nat.le_refl _) (.cells #[.slice (some ⟨g1, f, none⟩) 32 64, .slice (some ⟨gl60, 0, none⟩) 4 4, .slice (some ⟨gb65, 0, none⟩) 1 1] 29)
            have hh := Blk.new w3_66 #[.slice (some ⟨g1, f, none⟩) 32 64, .slice (some ⟨gl60, 0, none⟩) 4 4, .slice (some ⟨gb65, 0, none⟩) 1 1] 29
            have hz := HB.out.size
            refine hK.out _ _ (HB.out.trans (hb.mono HB.out.size)) ?_
            clear hK K
            try simp only [putz]
            have HB := hid (HB.out.trans (hb.mono HB.out.size))
            have Ngz59gr67 := hid FZ.out.1.lt
            have Ngl60gr67 := hid F8.out.1.lt
            have Ngb65gr67 := hid F13.out.1.lt
            have FZ := hid (And.intro (FZ.out.1.on hb) FZ.out.2)
            have F8 := hid (And.intro (F8.out.1.on hb) F8.out.2)
            have F13 := hid (And.intro (F13.out.1.on hb) F13.out.2)
            generalize w3_66.alloc (.cells #[.slice (some ⟨g1, f, none⟩) 32 64, .slice (some ⟨gl60, 0, none⟩) 4 4, .slice (some ⟨gb65, 0, none⟩) 1 1] 29) = w3_67 at *
            generalize w3_66.heap.size = gr67 at *
            have F14 := hid (And.intro hh hz)
            clear hb hh hz
            refine Goes.one (i := 15) (o := ⟨some 55, _, _, _, _, _⟩) (by as_aux_lemma => kernel_rfl) rfl (fun K hK => ?_)
            go_simp
            have hrr := rws3 F14.out.1 (x0 := xx) (x1 := lane) (x2 := [bb]) (FX.out _ HB.out) HXL.out (by decide) (by decide) (fun h => by cases h) (rd_blk lane F8.out.1 rfl) rfl (by decide) (by decide) (fun h => by cases h) (rd_blk [bb] F13.out.1 rfl) rfl (by decide) (by decide) (fun h => by cases h)
            refine (macof_any (some ⟨g8, 0, none⟩) 32 kk 32 (some ⟨gr67, 0, none⟩) 3 3 _ _ _ _ w3_67 KL.out (bt_rd (FG.out _ HB.out)) (by decide) (by decide) hrr (FK.out _ HB.out) (by decide) (fun r hr => by split; decide; split <;> decide)).mono ?_
            rintro e w3_68 ⟨rfl, hb⟩
            rw [cat3, TE.out]
            go_wp2_with fail
            refine hK.out _ _ (HB.out.trans (hb.mono HB.out.size)) ?_
            clear hK K hrr
            try simp only [putz]
            have HB := hid (HB.out.trans (hb.mono HB.out.size))
            have FZ := hid (And.intro (FZ.out.1.on hb) FZ.out.2)
            have F8 := hid (And.intro (F8.out.1.on hb) F8.out.2)
            have F13 := hid (And.intro (F13.out.1.on hb) F13.out.2)
            have F14 := hid (And.intro (F14.out.1.on hb) F14.out.2)
            clear hb
            refine Goes.one (i := 17) (o := ⟨none, _, _, _, _, _⟩) (by as_aux_lemma => kernel_rfl) rfl (fun K hK => ?_)
            rw [if_pos (by rfl)]
            have hz := FZ.out.1
            unfold Bt at hz
            refine wp_store_row 26 (.tmp 11) (.tmp 55) (by rfl) gz59 (bvs tt).toArray (by rfl) (by rfl) 26 _ hz (hi44 tt TL.out).out (hsz _ tt (by rw [TL.out, List.length_replicate])).out (bvs_all tt) ?_
            have HW := below_setRow HB.out FZ.out.2 (bvs tt).toArray
            have HT := hid (FZ.out.1.row (m := tt))
            refine hK.out _ _ HW ?_
            clear hK K
            try simp only [putz]
            refine Goes.done (by as_aux_lemma => kernel_rfl) ?_ _
            refine NoPanic.normal ?_
            go_wp2
            go_meet
            exact ⟨_, rfl, hid ⟨HW, HT.out⟩⟩
        · skip
          go_simp
          have hb := (Below.refl w3_59.heap.size w3_59).alloc (Nat.le_refl _) (.cells #[.int .u8 ((bb.toNat : Nat) : Int)] 5)
          have hh := Blk.new w3_59 #[.int .u8 ((bb.toNat : Nat) : Int)] 5
          have hz := HB.out.size
          refine hK.out _ _ (HB.out.trans (hb.mono HB.out.size)) ?_
          clear hK K
          try simp only [putz]
          have HB := hid (HB.out.trans (hb.mono HB.out.size))
          have Ngz59gb69 := hid FZ.out.1.lt
          have FZ := hid (And.intro (FZ.out.1.on hb) FZ.out.2)
          generalize w3_59.alloc (.cells #[.int .u8 ((bb.toNat : Nat) : Int)] 5) = w3_69 at *
          generalize w3_59.heap.size = gb69 at *
          have F13 := hid (And.intro hh hz)
          clear hb hh hz
          refine Goes.one (i := 8) (o := ⟨some 48, _, _, _, _, _⟩) (by as_aux_lemma => kernel_rfl) rfl (fun K hK => ?_)
          go_simp
          have hb := (Below.refl w3_69.heap.size w3_69).alloc (Nat.le_refl _) (.cells #[.int .u8 108, .int .u8 97, .int .u8 110, .int .u8 101] 5)
          have hh := Blk.new w3_69 #[.int .u8 108, .int .u8 97, .int .u8 110, .int .u8 101] 5
          have hz := HB.out.size
          refine hK.out _ _ (HB.out.trans (hb.mono HB.out.size)) ?_
          clear hK K
          try simp only [putz]
          have HB := hid (HB.out.trans (hb.mono HB.out.size))
          have Ngz59gl70 := hid FZ.out.1.lt
          have Ngb69gl70 := hid F13.out.1.lt
          have FZ := hid (And.intro (FZ.out.1.on hb) FZ.out.2)
          have F13 := hid (And.intro (F13.out.1.on hb) F13.out.2)
          generalize w3_69.alloc (.cells #[.int .u8 108, .int .u8 97, .int .u8 110, .int .u8 101] 5) = w3_70 at *
          generalize w3_69.heap.size = gl70 at *
          have F8 := hid (And.intro hh hz)
          clear hb hh hz
          refine Goes.one (i := 9) (o := ⟨some 49, _, _, _, _, _⟩) (by as_aux_lemma => kernel_rfl) rfl (fun K hK => ?_)
          obtain ⟨w3_71, hrun, HBN, HBK, HG⟩ := conv_mark gl70 4 _ rfl F8.out.2 F8.out.1 HB.out
          rw [if_pos (by rfl)]
          refine wp_convert (.tmp 48) rfl _ rfl _ _ hrun.out ?_
          refine hK.out _ _ HBN.out ?_
          clear hK K hrun
          try simp only [putz]
          have HB := hid HBN.out
          have FZ := hid (And.intro (FZ.out.1.grown HG.out (Nat.ne_of_lt Ngz59gl70.out)) FZ.out.2)
          have F13 := hid (And.intro (F13.out.1.grown HG.out (Nat.ne_of_lt Ngb69gl70.out)) F13.out.2)
          have F8 := hid (And.intro HBK.out F8.out.2)
          clear HBN HBK HG
          refine Goes.one (i := 14) (o := ⟨some 54, _, _, _, _, _⟩) (by as_aux_lemma => kernel_rfl) rfl (fun K hK => ?_)
          go_simp
          have hb := (Below.refl w3_71.heap.size w3_71).alloc (Nat.le_refl _) (.cells #[.slice (some ⟨g1, f, none⟩) 32 64, .slice (some ⟨gl70, 0, none⟩) 4 4, .slice (some ⟨gb69, 0, none⟩) 1 1] 29)
          have hh := Blk.new w3_71 #[.slice (some ⟨g1, f, none⟩) 32 64, .slice (some ⟨gl70, 0, none⟩) 4 4, .slice (some ⟨gb69, 0, none⟩) 1 1] 29
          have hz := HB.out.size
          refine hK.out _ _ (HB.out.trans (hb.mono HB.out.size)) ?_
          clear hK K
          try simp only [putz]
          have HB := hid (HB.out.trans (hb.mono HB.out.size))
          have Ngz59gr72 := hid FZ.out.1.lt
          have Ngb69gr72 := hid F13.out.1.lt
          have Ngl70gr72 := hid F8.out.1.lt
          have FZ := hid (And.intro (FZ.out.1.on hb) FZ.out.2)
          have F13 := hid (And.intro (F13.out.1.on hb) F13.out.2)
          have F8 := hid (And.intro (F8.out.1.on hb) F8.out.2)
          generalize w3_71.alloc (.cells #[.slice (some ⟨g1, f, none⟩) 32 64, .slice (some ⟨gl70, 0, none⟩) 4 4, .slice (some ⟨gb69, 0, none⟩) 1 1] 29) = w3_72 at *
          generalize w3_71.heap.size = gr72 at *
          have F14 := hid (And.intro hh hz)
          clear hb hh hz
          refine Goes.one (i := 15) (o := ⟨some 55, _, _, _, _, _⟩) (by as_aux_lemma => kernel_rfl) rfl (fun K hK => ?_)
          go_simp
          have hrr := rws3 F14.out.1 (x0 := xx) (x1 := lane) (x2 := [bb]) (FX.out _ HB.out) HXL.out (by decide) (by decide) (fun h => by cases h) (rd_blk lane F8.out.1 rfl) rfl (by decide) (by decide) (fun h => by cases h) (rd_blk [bb] F13.out.1 rfl) rfl (by decide) (by decide) (fun h => by cases h)
          refine (macof_any (some ⟨g8, 0, none⟩) 32 kk 32 (some ⟨gr72, 0, none⟩) 3 3 _ _ _ _ w3_72 KL.out (bt_rd (FG.out _ HB.out)) (by decide) (by decide) hrr (FK.out _ HB.out) (by decide) (fun r hr => by split; decide; split <;> decide)).mono ?_
          rintro e w3_73 ⟨rfl, hb⟩
          rw [cat3, TE.out]
          go_wp2_with fail
          refine hK.out _ _ (HB.out.trans (hb.mono HB.out.size)) ?_
          clear hK K hrr
          try simp only [putz]
          have HB := hid (HB.out.trans (hb.mono HB.out.size))
          have FZ := hid (And.intro (FZ.out.1.on hb) FZ.out.2)
          have F13 := hid (And.intro (F13.out.1.on hb) F13.out.2)
          have F8 := hid (And.intro (F8.out.1.on hb) F8.out.2)
          have F14 := hid (And.intro (F14.out.1.on hb) F14.out.2)
          clear hb
          refine Goes.one (i := 17) (o := ⟨none, _, _, _, _, _⟩) (by as_aux_lemma => kernel_rfl) rfl (fun K hK => ?_)
          rw [if_pos (by rfl)]
          have hz := FZ.out.1
          unfold Bt at hz
          refine wp_store_row 26 (.tmp 11) (.tmp 55) (by rfl) gz59 (bvs tt).toArray (by rfl) (by rfl) 26 _ hz (hi44 tt TL.out).out (hsz _ tt (by rw [TL.out, List.length_replicate])).out (bvs_all tt) ?_
          have HW := below_setRow HB.out FZ.out.2 (bvs tt).toArray
          have HT := hid (FZ.out.1.row (m := tt))
          refine hK.out _ _ HW ?_
          clear hK K
          try simp only [putz]
          refine Goes.done (by as_aux_lemma => kernel_rfl) ?_ _
          refine NoPanic.normal ?_
          go_wp2
          go_meet
          exact ⟨_, rfl, hid ⟨HW, HT.out⟩⟩
    case rest =>
      obtain ⟨g11, rfl, HC⟩ := hcut
      have HB4 := hid (HB3.out.trans (HC.out.1.mono HB3.out.size))
      have FT := hid (on_bt HC.out.2)
      have FX := hid (on_rd (FY.out _ HC.out.1))
      have FK := hid (on_kt (HK.out.on HB4.out))
      clear HC FG FY HB3
      generalize wc = w4 at *
      go_upto_region 7 with fail
      refine wp_region_noPanic ?_
      refine Goes.region (fun (_ : Array Bool) (u : World) => Below w4.heap.size w4 u) (by as_aux_lemma => kernel_rfl) ?_
      have HB := hid (p := Below w4.heap.size w4 w4.drew) (Below.refl _ _).drew
      generalize w4.drew = w4d at *
      refine Goes.tk (i := 0) (o := ⟨some 56, _, _, _, _, _⟩) (v := ?_) [] (y := Or.inl ⟨by rfl, ?_⟩) (s := HB.out) (H := ?_)
      rotate_left
      · intro u hY; have hsl := sl32 g11; go_simp; try with_reducible rfl
      try simp only [putz]
      refine Goes.tk (i := 1) (o := ⟨some 57, _, _, _, _, _⟩) (v := ?_) [] (y := Or.inl ⟨by rfl, ?_⟩) (s := HB.out) (H := ?_)
      rotate_left
      · intro u hY; go_simp; try with_reducible rfl
      try simp only [putz]
      refine Goes.tk (i := 2) (o := ⟨some 58, _, _, _, _, _⟩) (v := ?_) [] (y := Or.inl ⟨by rfl, ?_⟩) (s := HB.out) (H := ?_)
      rotate_left
      · intro u hY; go_simp; try with_reducible rfl
      try simp only [putz]
      refine Goes.tk (i := 3) (o := ⟨some 59, _, _, _, _, _⟩) (v := ?_) [] (y := Or.inl ⟨by rfl, ?_⟩) (s := HB.out) (H := ?_)
      rotate_left
      · intro u hY; have h := q1; go_simp; try with_reducible rfl
      try simp only [putz]
      refine Goes.tk (i := 4) (o := ⟨some 60, _, _, _, _, _⟩) (v := ?_) [] (y := Or.inl ⟨by rfl, ?_⟩) (s := HB.out) (H := ?_)
      rotate_left
      · intro u hY; have hsl := slice_from (some ⟨g1, 0, none⟩) m m p (by have := HMM.out; omega); rw [past_in g1 p m (by have := HMM.out; omega), show m - p = 32 by have := HMM.out; omega] at hsl; go_simp; try with_reducible rfl
      try simp only [putz]
      refine Goes.one (i := 5) (o := ⟨some 61, _, _, _, _, _⟩) (by as_aux_lemma => kernel_rfl) rfl (fun K hK => ?_)
      go_simp
      refine (same_at (some ⟨g11, 0, none⟩) (some ⟨g1, p, none⟩) 32 32 32 32 tt w4d TL.out TL.out (bt_rd (FT.out _ HB.out)) (FX.out _ HB.out) (by decide)).mono ?_
      rintro e w4_1 ⟨rfl, k, rfl⟩
      go_wp2_with fail
      refine hK.out _ _ (below_dN HB.out k) ?_
      clear hK K
      try simp only [putz]
      have HB := hid (below_dN HB.out k)
      generalize w4d.drewN k = w4_1 at *
      refine Goes.tk (i := 6) (o := ⟨some 62, _, _, _, _, _⟩) (v := ?_) [] (y := Or.inl ⟨by rfl, ?_⟩) (s := HB.out) (H := ?_)
      rotate_left
      · intro u hY; go_simp; try with_reducible rfl
      try simp only [putz]
      refine Goes.one (i := 7) (o := ⟨some 63, _, _, _, _, _⟩) (by as_aux_lemma => kernel_rfl) rfl (fun K hK => ?_)
      rw [if_pos (by kernel_rfl)]
      go_simp
      refine (lives10_any w4_1 (FK.out _ HB.out)).mono ?_
      rintro e w4_2 ⟨rfl, hb⟩
      go_wp2_with fail
      refine hK.out _ _ (HB.out.trans (hb.mono HB.out.size)) ?_
      clear hK K
      try simp only [putz]
      have HB := hid (HB.out.trans (hb.mono HB.out.size))
      clear hb
      refine Goes.tk (i := 8) (o := ⟨some 64, _, _, _, _, _⟩) (v := ?_) [] (y := Or.inl ⟨by rfl, ?_⟩) (s := HB.out) (H := ?_)
      rotate_left
      · intro u hY; go_simp; try with_reducible rfl
      try simp only [putz]
      refine Goes.tk (i := 9) (o := ⟨some 6, _, _, _, _, _⟩) (v := ?_) [] (y := Or.inl ⟨by rfl, ?_⟩) (s := HB.out) (H := ?_)
      rotate_left
      · intro u hY; go_simp; try with_reducible rfl
      try simp only [putz]
      refine Goes.done (by as_aux_lemma => kernel_rfl) ?_ _
      refine NoPanic.normal ?_
      go_wp2
      go_ret
      exact ⟨rfl, HB4.out.trans (HB.out.mono HB4.out.size)⟩
end Go.Proofs.YtbloejlebikecaaDoor
