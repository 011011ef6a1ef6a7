/-
  burrowref10.Of, walked: the document's bytes of what two share. Conditions: none.
-/
import Derived.Test.YtbloejlebikecaaGreatDoorKmc
import Derived.Test.YtbloejlebikecaaGreatDoorKmx
import Derived.Test.YtbloejlebikecaaGreatDoorRefPutLong
namespace Go.Proofs.YtbloejlebikecaaGreatDoor
open Go.RowKit
set_option linter.unusedVariables false
set_option linter.unusedSimpArgs false

theorem rhm (key msg : List UInt8) : hmk (kof key) msg = hm key msg := rfl
theorem be_kky (n0 n1 n2 n3 : Nat) (id : List UInt8) : hm id (nb n0 n1 n2 n3) = kky n0 n1 n2 n3 id := rfl
theorem rd_past0 {w : World} {A : Option Addr} {b : List UInt8} (h : Rd w A b) (c : Nat) : Rd w (past A 0 c) b := by
  have := h.cut 0 (past A 0 c) (fun ad e _ => ?_)
  · rwa [List.drop_zero] at this
  · subst e
    unfold past
    split
    · next h0 => simp [Addr.add]
    · rfl
theorem rwb3 {w : World} {b : Nat} {A0 A1 A2 : Option Addr} {l0 l1 l2 c0 c1 c2 : Nat} {x0 x1 x2 : List UInt8} (h : Blk w b #[.slice A0 l0 c0, .slice A1 l1 c1, .slice A2 l2 c2] 27)
    (r0 : Rd w A0 x0) (e0 : x0.length = l0) (k0 : l0 ≤ c0) (m0 : c0 ≤ 9223372036854775807) (n0 : A0 = none → c0 = 0) (r1 : Rd w A1 x1) (e1 : x1.length = l1) (k1 : l1 ≤ c1) (m1 : c1 ≤ 9223372036854775807) (n1 : A1 = none → c1 = 0)
    (r2 : Rd w A2 x2) (e2 : x2.length = l2) (k2 : l2 ≤ c2) (m2 : c2 ≤ 9223372036854775807) (n2 : A2 = none → c2 = 0) :
    Rwb w (some ⟨b, 0, none⟩) 3 (fun r => if r = 0 then A0 else if r = 1 then A1 else A2) (fun r => if r = 0 then l0 else if r = 1 then l1 else l2) (fun r => if r = 0 then c0 else if r = 1 then c1 else c2) (fun r => if r = 0 then x0 else if r = 1 then x1 else x2) := by
  intro r hr
  rcases (show r = 0 ∨ r = 1 ∨ r = 2 by omega) with rfl | rfl | rfl
  · exact ⟨⟨b, 0, rfl, h.lt, by rw [h.cell]; rfl⟩, e0, r0, k0, m0, n0⟩
  · exact ⟨⟨b, 0, rfl, h.lt, by rw [h.cell]; rfl⟩, e1, r1, k1, m1, n1⟩
  · exact ⟨⟨b, 0, rfl, h.lt, by rw [h.cell]; rfl⟩, e2, r2, k2, m2, n2⟩
theorem parts3b (w : World) (A : Option Addr) (l c : Nat) (x : List UInt8) (b : UInt8) (hr : Rd w A x) (hl : x.length = l) (hc : l ≤ c) (hm : c ≤ 9223372036854775807) (hA : A = none → c = 0) :
    ∃ w4, w4 = ((w.alloc (.cells #[.int .u8 108, .int .u8 97, .int .u8 110, .int .u8 101] 5 (4, 5))).alloc (.cells #[.int .u8 ((b.toNat : Nat) : Int)] 5)).alloc (.cells #[.slice A l c, .slice (some ⟨w.heap.size, 0, none⟩) 4 4, .slice (some ⟨w.heap.size + 1, 0, none⟩) 1 1] 27) ∧
      Hid (Below w.heap.size w w4) ∧ Hid (Rwb w4 (some ⟨w.heap.size + 1 + 1, 0, none⟩) 3 (fun r => if r = 0 then A else if r = 1 then some ⟨w.heap.size, 0, none⟩ else some ⟨w.heap.size + 1, 0, none⟩) (fun r => if r = 0 then l else if r = 1 then 4 else 1) (fun r => if r = 0 then c else if r = 1 then 4 else 1) (fun r => if r = 0 then x else if r = 1 then lane else [b])) := by
  refine ⟨_, rfl, ?_⟩
  have a1 : Below w.heap.size w (w.alloc (.cells (bvs lane).toArray 5 (4, 5))) := (Below.refl _ _).alloc (Nat.le_refl _) _
  have r1 := rd_mark w lane (4, 5)
  have s1 := al_size w (.cells (bvs lane).toArray 5 (4, 5))
  rw [lane_cells] at a1 r1 s1
  generalize w.alloc (.cells #[.int .u8 108, .int .u8 97, .int .u8 110, .int .u8 101] 5 (4, 5)) = w1 at *
  have a2 : Below w1.heap.size w1 (w1.alloc (.cells (bvs [b]).toArray 5)) := (Below.refl _ _).alloc (Nat.le_refl _) _
  have r2 := rd_new w1 [b]
  have s2 := al_size w1 (.cells (bvs [b]).toArray 5)
  rw [one_cells] at a2 r2 s2
  generalize w1.alloc (.cells #[.int .u8 ((b.toNat : Nat) : Int)] 5) = w2 at *
  rw [s1] at r2 s2
  generalize hob : (Obj.cells #[Value.slice A l c, Value.slice (some ⟨w.heap.size, 0, none⟩) 4 4, Value.slice (some ⟨w.heap.size + 1, 0, none⟩) 1 1] 27) = ob
  have a4 : Below w2.heap.size w2 (w2.alloc ob) := (Below.refl _ _).alloc (Nat.le_refl _) _
  have hn : (w2.alloc ob).heap[w2.heap.size]? = some ob := heap_alloc_new w2 ob
  generalize w2.alloc ob = w4 at *
  rw [s2] at hn
  subst hob
  have b1 := (a2.mono (by omega) : Below w.heap.size w1 w2)
  have b4 := (a4.mono (by omega) : Below w.heap.size w2 w4)
  have hb := (a1.trans b1).trans b4
  exact ⟨hid hb, hid (rwb3 ⟨_, hn⟩ (hr.below hb (Nat.le_refl _)) hl hc hm hA ((r1.below a2 (Nat.le_refl _)).below a4 (Nat.le_refl _)) rfl (by decide) (by decide) (by simp) (r2.below a4 (Nat.le_refl _)) rfl (by decide) (by decide) (by simp))⟩
theorem rkof_neg (n0 n1 n2 n3 : Nat) (id : List UInt8) (m : Int) (w : World) (hm : m < 0) :
    Calls Tryz.prog 6 #[.agg #[.int .u64 (n0 : Int), .int .u64 (n1 : Int), .int .u64 (n2 : Int), .int .u64 (n3 : Int)], .agg (bvs id).toArray, .int .i64 m] w fun e w' => e = .returned (.tuple #[.slice none 0 0, .int .i64 1]) ∧ Below w.heap.size w w' := by
  have HB := hid ((((Below.refl w.heap.size w).alloc (Nat.le_refl _) (.cells #[.int .u64 (n0 : Int), .int .u64 (n1 : Int), .int .u64 (n2 : Int), .int .u64 (n3 : Int)] 24)).alloc (by simp) (.cells (bvs id).toArray 26)))
  go_enter Tryz.func6, Tryz.ntmps6
  go_wp2_with fail
  go_ret2
  exact ⟨rfl, HB.out⟩
theorem rkof_big (n0 n1 n2 n3 : Nat) (id : List UInt8) (m : Int) (w : World) (h0 : ¬ m < 0) (hm : m > 8160) :
    Calls Tryz.prog 6 #[.agg #[.int .u64 (n0 : Int), .int .u64 (n1 : Int), .int .u64 (n2 : Int), .int .u64 (n3 : Int)], .agg (bvs id).toArray, .int .i64 m] w fun e w' => e = .returned (.tuple #[.slice none 0 0, .int .i64 3]) ∧ Below w.heap.size w w' := by
  have HB := hid ((((Below.refl w.heap.size w).alloc (Nat.le_refl _) (.cells #[.int .u64 (n0 : Int), .int .u64 (n1 : Int), .int .u64 (n2 : Int), .int .u64 (n3 : Int)] 24)).alloc (by simp) (.cells (bvs id).toArray 26)))
  go_enter Tryz.func6, Tryz.ntmps6
  go_wp2_with fail
  go_ret2
  exact ⟨rfl, HB.out⟩
set_option maxRecDepth 100000 in
set_option maxHeartbeats 4000000 in
theorem rkof_any (n0 n1 n2 n3 : Nat) (id : List UInt8) (m : Nat) (w : World) (h0 : n0 < 18446744073709551616) (h1 : n1 < 18446744073709551616) (h2 : n2 < 18446744073709551616) (h3 : n3 < 18446744073709551616) (hi : id.length = 32) (hml : m ≤ 8160) :
    Calls Tryz.prog 6 #[.agg #[.int .u64 (n0 : Int), .int .u64 (n1 : Int), .int .u64 (n2 : Int), .int .u64 (n3 : Int)], .agg (bvs id).toArray, .int .i64 (m : Int)] w fun e w' => ∃ A c, e = .returned (.tuple #[.slice A m c, .int .i64 0]) ∧ Hid (Rd w' A (mat (hm (kky n0 n1 n2 n3 id)) m) ∧ Below w.heap.size w w') := by
  have H0 := hid h0
  have H1 := hid h1
  have H2 := hid h2
  have H3 := hid h3
  have HI := hid hi
  have HM := hid hml
  have hneg : ¬ (m : Int) < 0 := by omega
  have hbig : ¬ (m : Int) > 8160 := by omega
  have a1 := (Below.refl w.heap.size w).alloc (Nat.le_refl _) (.cells #[.int .u64 (n0 : Int), .int .u64 (n1 : Int), .int .u64 (n2 : Int), .int .u64 (n3 : Int)] 24)
  have HBW := hid (a1.alloc (by simp) (.cells (bvs id).toArray 26))
  have x1 := heap_alloc_new w (.cells #[.int .u64 (n0 : Int), .int .u64 (n1 : Int), .int .u64 (n2 : Int), .int .u64 (n3 : Int)] 24)
  have s1 := al_size w (.cells #[.int .u64 (n0 : Int), .int .u64 (n1 : Int), .int .u64 (n2 : Int), .int .u64 (n3 : Int)] 24)
  have x2 := heap_alloc_new (w.alloc (.cells #[.int .u64 (n0 : Int), .int .u64 (n1 : Int), .int .u64 (n2 : Int), .int .u64 (n3 : Int)] 24)) (.cells (bvs id).toArray 26)
  have b2 := (Below.refl (w.alloc (.cells #[.int .u64 (n0 : Int), .int .u64 (n1 : Int), .int .u64 (n2 : Int), .int .u64 (n3 : Int)] 24)).heap.size (w.alloc (.cells #[.int .u64 (n0 : Int), .int .u64 (n1 : Int), .int .u64 (n2 : Int), .int .u64 (n3 : Int)] 24))).alloc (Nat.le_refl _) (.cells (bvs id).toArray 26)
  rw [s1] at x2
  have FN := hid (on_nb (Nb.on (show Nb _ w.heap.size n0 n1 n2 n3 from x1) b2))
  have FI := hid (on_bt (show Bt _ (w.heap.size + 1) 26 id from x2))
  clear a1 x1 s1 x2 b2 h0 h1 h2 h3 hi hml
  go_enter Tryz.func6, Tryz.ntmps6
  go_upto_region 5 with fail
  generalize (w.alloc (.cells #[.int .u64 (n0 : Int), .int .u64 (n1 : Int), .int .u64 (n2 : Int), .int .u64 (n3 : Int)] 24)).alloc (.cells (bvs id).toArray 26) = w1 at *
  have KL := hid (kky_length n0 n1 n2 n3 id)
  have KE := hid (be_kky n0 n1 n2 n3 id)
  generalize hkk : kky n0 n1 n2 n3 id = kk at *
  have HKK := hid hkk
  clear hkk
  go_cut [8] (fun s8 wx => ∃ g8 : Nat, s8 = .pointer (some ⟨g8, 0, none⟩) ∧ Hid (Below w1.heap.size w1 wx ∧ Bt wx g8 26 kk))
  case first =>
    refine wp_region_noPanic ?_
    refine Goes.region (fun (_ : Array Bool) (u : World) => Below w1.heap.size w1 u) (by as_aux_lemma => kernel_rfl) ?_
    have HB := hid (p := Below w1.heap.size w1 w1.drew) (Below.refl _ _).drew
    generalize w1.drew = w1d at *
    refine Goes.tk (i := 0) (o := ⟨some 17, _, _, _, _, _⟩) (v := ?_) [] (y := Or.inl ⟨by rfl, ?_⟩) (s := HB.out) (H := ?_)
    rotate_left
    · intro u hY; have hsl := sl32 (w.heap.size + 1); go_simp; try with_reducible rfl
    try simp only [putz]
    refine Goes.tk (i := 1) (o := ⟨some 18, _, _, _, _, _⟩) [] (y := Or.inl ⟨by rfl, fun u hY => y_ld _ _ rfl (.pointer (some ⟨w.heap.size, 0, none⟩)) _ rfl (ld_num (FN.out u (yet_of hY)))⟩) (s := HB.out) (H := ?_)
    try simp only [putz]
    refine Goes.two (i := 2) (j := 5) (o := ⟨some 19, _, _, _, _, _⟩) (p := ⟨some 8, _, _, _, _, _⟩) (by as_aux_lemma => kernel_rfl) rfl rfl (fun K hK => ?_) (fun K hK => ?_)
    · skip
      go_simp
      refine (rputLong_any none 0 n0 n1 n2 n3 [] w1d (Rd.nil _ _) (fun _ => rfl) (by simp) H0.out H1.out H2.out H3.out).mono ?_
      rintro e w1_1 ⟨v, rfl, how, hb⟩
      obtain ⟨A1, c1, rfl, hq1, hm1, hr1, ha1⟩ := how.form
      simp only [List.nil_append, be_length] at hq1 hr1 ⊢
      go_wp2_with fail
      refine hK.out _ _ (HB.out.trans (hb.mono HB.out.size)) ?_
      clear hK K
      try simp only [putz]
      have HB := hid (HB.out.trans (hb.mono HB.out.size))
      have FP := hid (And.intro (on_rd (show Rd w1_1 A1 (nb n0 n1 n2 n3) from hr1)) True.intro)
      have FQ := hid (And.intro hq1 (And.intro hm1 ha1))
      clear how hb hq1 hm1 hr1 ha1
      refine Goes.two (i := 3) (j := 5) (o := ⟨some 20, _, _, _, _, _⟩) (p := ⟨some 8, _, _, _, _, _⟩) (by as_aux_lemma => kernel_rfl) rfl rfl (fun K hK => ?_) (fun K hK => ?_)
      · skip
        go_simp
        have hb := (Below.refl w1_1.heap.size w1_1).alloc (Nat.le_refl _) (.cells #[.slice A1 32 c1] 27)
        have hh := Blk.new w1_1 #[.slice A1 32 c1] 27
        have hz := HB.out.size
        refine hK.out _ _ (HB.out.trans (hb.mono HB.out.size)) ?_
        clear hK K
        try simp only [putz]
        have HB := hid (HB.out.trans (hb.mono HB.out.size))
        have FP := hid (And.intro (FP.out.1.on hb) FP.out.2)
        generalize w1_1.alloc (.cells #[.slice A1 32 c1] 27) = w1_2 at *
        generalize w1_1.heap.size = g_2 at *
        have F3 := hid (And.intro hh hz)
        clear hb hh hz
        refine Goes.two (i := 4) (j := 5) (o := ⟨some 21, _, _, _, _, _⟩) (p := ⟨some 8, _, _, _, _, _⟩) (by as_aux_lemma => kernel_rfl) rfl rfl (fun K hK => ?_) (fun K hK => ?_)
        · skip
          go_simp
          have hrr : Rwb w1_2 (some ⟨g_2, 0, none⟩) 1 (fun _ => A1) (fun _ => 32) (fun _ => c1) (fun _ => nb n0 n1 n2 n3) := by
            intro r hr
            obtain rfl : r = 0 := by omega
            exact ⟨⟨g_2, 0, rfl, F3.out.1.lt, by rw [F3.out.1.cell]; rfl⟩, nb_length _ _ _ _, FP.out.1.here, FQ.out.1, FQ.out.2.1, FQ.out.2.2⟩
          refine (rof_any (some ⟨w.heap.size + 1, 0, none⟩) 32 id 32 (some ⟨g_2, 0, none⟩) 1 1 _ _ _ _ w1_2 HI.out (bt_rd (FI.out _ HB.out)) (by decide) (fun h => by cases h) (by decide) hrr (by decide) (fun r hr => by decide)).mono ?_
          rintro e w1_3 ⟨rfl, hb⟩
          rw [cat1, rhm]
          go_wp2_with fail
          refine hK.out _ _ (HB.out.trans (hb.mono HB.out.size)) ?_
          clear hK K hrr
          try simp only [putz]
          have HB := hid (HB.out.trans (hb.mono HB.out.size))
          have FP := hid (And.intro (FP.out.1.on hb) FP.out.2)
          have F3 := hid (And.intro (F3.out.1.on hb) F3.out.2)
          clear hb
          refine Goes.one (i := 5) (o := ⟨some 8, _, _, _, _, _⟩) (by as_aux_lemma => kernel_rfl) rfl (fun K hK => ?_)
          go_simp
          rw [← lit32]
          have hb := (Below.refl w1_3.heap.size w1_3).alloc (Nat.le_refl _) (.cells (bvs (List.replicate 32 0)).toArray 26)
          have hh := heap_alloc_new w1_3 (.cells (bvs (List.replicate 32 0)).toArray 26)
          have hz := HB.out.size
          refine hK.out _ _ (HB.out.trans (hb.mono HB.out.size)) ?_
          clear hK K
          try simp only [putz]
          have HB := hid (HB.out.trans (hb.mono HB.out.size))
          have Ng_2g_4 := hid F3.out.1.lt
          have FP := hid (And.intro (FP.out.1.on hb) FP.out.2)
          have F3 := hid (And.intro (F3.out.1.on hb) F3.out.2)
          generalize w1_3.alloc (.cells (bvs (List.replicate 32 0)).toArray 26) = w1_4 at *
          generalize w1_3.heap.size = g_4 at *
          have FZ := hid (And.intro (show Bt w1_4 g_4 26 _ from hh) hz)
          clear hb hh hz
          refine Goes.one (i := 6) (o := ⟨none, _, _, _, _, _⟩) (by as_aux_lemma => kernel_rfl) rfl (fun K hK => ?_)
          rw [if_pos (by rfl)]
          have hz := FZ.out.1
          unfold Bt at hz
          rw [KE.out]
          refine wp_store_row 26 (.tmp 8) (.tmp 21) (by rfl) g_4 (bvs kk).toArray (by rfl) (by rfl) 26 _ hz (hi44 kk KL.out).out (hsz _ kk (by rw [KL.out, List.length_replicate])).out (bvs_all kk) ?_
          have HW := below_setRow HB.out FZ.out.2 (bvs kk).toArray
          have HT := hid (FZ.out.1.row (m := kk))
          refine hK.out _ _ HW ?_
          clear hK K
          try simp only [putz]
          refine Goes.done (by as_aux_lemma => kernel_rfl) ?_ _
          refine NoPanic.normal ?_
          go_wp2
          go_meet
          exact ⟨_, rfl, hid ⟨HW, HT.out⟩⟩
        · skip
          go_simp
          rw [← lit32]
          have hb := (Below.refl w1_2.heap.size w1_2).alloc (Nat.le_refl _) (.cells (bvs (List.replicate 32 0)).toArray 26)
          have hh := heap_alloc_new w1_2 (.cells (bvs (List.replicate 32 0)).toArray 26)
          have hz := HB.out.size
          refine hK.out _ _ (HB.out.trans (hb.mono HB.out.size)) ?_
          clear hK K
          try simp only [putz]
          have HB := hid (HB.out.trans (hb.mono HB.out.size))
          have Ng_2g_5 := hid F3.out.1.lt
          have FP := hid (And.intro (FP.out.1.on hb) FP.out.2)
          have F3 := hid (And.intro (F3.out.1.on hb) F3.out.2)
          generalize w1_2.alloc (.cells (bvs (List.replicate 32 0)).toArray 26) = w1_5 at *
          generalize w1_2.heap.size = g_5 at *
          have FZ := hid (And.intro (show Bt w1_5 g_5 26 _ from hh) hz)
          clear hb hh hz
          refine Goes.one (i := 4) (o := ⟨some 21, _, _, _, _, _⟩) (by as_aux_lemma => kernel_rfl) rfl (fun K hK => ?_)
          go_simp
          have hrr : Rwb w1_5 (some ⟨g_2, 0, none⟩) 1 (fun _ => A1) (fun _ => 32) (fun _ => c1) (fun _ => nb n0 n1 n2 n3) := by
            intro r hr
            obtain rfl : r = 0 := by omega
            exact ⟨⟨g_2, 0, rfl, F3.out.1.lt, by rw [F3.out.1.cell]; rfl⟩, nb_length _ _ _ _, FP.out.1.here, FQ.out.1, FQ.out.2.1, FQ.out.2.2⟩
          refine (rof_any (some ⟨w.heap.size + 1, 0, none⟩) 32 id 32 (some ⟨g_2, 0, none⟩) 1 1 _ _ _ _ w1_5 HI.out (bt_rd (FI.out _ HB.out)) (by decide) (fun h => by cases h) (by decide) hrr (by decide) (fun r hr => by decide)).mono ?_
          rintro e w1_6 ⟨rfl, hb⟩
          rw [cat1, rhm]
          go_wp2_with fail
          refine hK.out _ _ (HB.out.trans (hb.mono HB.out.size)) ?_
          clear hK K hrr
          try simp only [putz]
          have HB := hid (HB.out.trans (hb.mono HB.out.size))
          have FP := hid (And.intro (FP.out.1.on hb) FP.out.2)
          have F3 := hid (And.intro (F3.out.1.on hb) F3.out.2)
          have FZ := hid (And.intro (FZ.out.1.on hb) FZ.out.2)
          clear hb
          refine Goes.one (i := 6) (o := ⟨none, _, _, _, _, _⟩) (by as_aux_lemma => kernel_rfl) rfl (fun K hK => ?_)
          rw [if_pos (by rfl)]
          have hz := FZ.out.1
          unfold Bt at hz
          rw [KE.out]
          refine wp_store_row 26 (.tmp 8) (.tmp 21) (by rfl) g_5 (bvs kk).toArray (by rfl) (by rfl) 26 _ hz (hi44 kk KL.out).out (hsz _ kk (by rw [KL.out, List.length_replicate])).out (bvs_all kk) ?_
          have HW := below_setRow HB.out FZ.out.2 (bvs kk).toArray
          have HT := hid (FZ.out.1.row (m := kk))
          refine hK.out _ _ HW ?_
          clear hK K
          try simp only [putz]
          refine Goes.done (by as_aux_lemma => kernel_rfl) ?_ _
          refine NoPanic.normal ?_
          go_wp2
          go_meet
          exact ⟨_, rfl, hid ⟨HW, HT.out⟩⟩
      · skip
        go_simp
        rw [← lit32]
        have hb := (Below.refl w1_1.heap.size w1_1).alloc (Nat.le_refl _) (.cells (bvs (List.replicate 32 0)).toArray 26)
        have hh := heap_alloc_new w1_1 (.cells (bvs (List.replicate 32 0)).toArray 26)
        have hz := HB.out.size
        refine hK.out _ _ (HB.out.trans (hb.mono HB.out.size)) ?_
        clear hK K
        try simp only [putz]
        have HB := hid (HB.out.trans (hb.mono HB.out.size))
        have FP := hid (And.intro (FP.out.1.on hb) FP.out.2)
        generalize w1_1.alloc (.cells (bvs (List.replicate 32 0)).toArray 26) = w1_7 at *
        generalize w1_1.heap.size = g_7 at *
        have FZ := hid (And.intro (show Bt w1_7 g_7 26 _ from hh) hz)
        clear hb hh hz
        refine Goes.one (i := 3) (o := ⟨some 20, _, _, _, _, _⟩) (by as_aux_lemma => kernel_rfl) rfl (fun K hK => ?_)
        go_simp
        have hb := (Below.refl w1_7.heap.size w1_7).alloc (Nat.le_refl _) (.cells #[.slice A1 32 c1] 27)
        have hh := Blk.new w1_7 #[.slice A1 32 c1] 27
        have hz := HB.out.size
        refine hK.out _ _ (HB.out.trans (hb.mono HB.out.size)) ?_
        clear hK K
        try simp only [putz]
        have HB := hid (HB.out.trans (hb.mono HB.out.size))
        have Ng_7g_8 := hid FZ.out.1.lt
        have FP := hid (And.intro (FP.out.1.on hb) FP.out.2)
        have FZ := hid (And.intro (FZ.out.1.on hb) FZ.out.2)
        generalize w1_7.alloc (.cells #[.slice A1 32 c1] 27) = w1_8 at *
        generalize w1_7.heap.size = g_8 at *
        have F3 := hid (And.intro hh hz)
        clear hb hh hz
        refine Goes.one (i := 4) (o := ⟨some 21, _, _, _, _, _⟩) (by as_aux_lemma => kernel_rfl) rfl (fun K hK => ?_)
        go_simp
        have hrr : Rwb w1_8 (some ⟨g_8, 0, none⟩) 1 (fun _ => A1) (fun _ => 32) (fun _ => c1) (fun _ => nb n0 n1 n2 n3) := by
          intro r hr
          obtain rfl : r = 0 := by omega
          exact ⟨⟨g_8, 0, rfl, F3.out.1.lt, by rw [F3.out.1.cell]; rfl⟩, nb_length _ _ _ _, FP.out.1.here, FQ.out.1, FQ.out.2.1, FQ.out.2.2⟩
        refine (rof_any (some ⟨w.heap.size + 1, 0, none⟩) 32 id 32 (some ⟨g_8, 0, none⟩) 1 1 _ _ _ _ w1_8 HI.out (bt_rd (FI.out _ HB.out)) (by decide) (fun h => by cases h) (by decide) hrr (by decide) (fun r hr => by decide)).mono ?_
        rintro e w1_9 ⟨rfl, hb⟩
        rw [cat1, rhm]
        go_wp2_with fail
        refine hK.out _ _ (HB.out.trans (hb.mono HB.out.size)) ?_
        clear hK K hrr
        try simp only [putz]
        have HB := hid (HB.out.trans (hb.mono HB.out.size))
        have FP := hid (And.intro (FP.out.1.on hb) FP.out.2)
        have FZ := hid (And.intro (FZ.out.1.on hb) FZ.out.2)
        have F3 := hid (And.intro (F3.out.1.on hb) F3.out.2)
        clear hb
        refine Goes.one (i := 6) (o := ⟨none, _, _, _, _, _⟩) (by as_aux_lemma => kernel_rfl) rfl (fun K hK => ?_)
        rw [if_pos (by rfl)]
        have hz := FZ.out.1
        unfold Bt at hz
        rw [KE.out]
        refine wp_store_row 26 (.tmp 8) (.tmp 21) (by rfl) g_7 (bvs kk).toArray (by rfl) (by rfl) 26 _ hz (hi44 kk KL.out).out (hsz _ kk (by rw [KL.out, List.length_replicate])).out (bvs_all kk) ?_
        have HW := below_setRow HB.out FZ.out.2 (bvs kk).toArray
        have HT := hid (FZ.out.1.row (m := kk))
        refine hK.out _ _ HW ?_
        clear hK K
        try simp only [putz]
        refine Goes.done (by as_aux_lemma => kernel_rfl) ?_ _
        refine NoPanic.normal ?_
        go_wp2
        go_meet
        exact ⟨_, rfl, hid ⟨HW, HT.out⟩⟩
    · skip
      go_simp
      rw [← lit32]
      have hb := (Below.refl w1d.heap.size w1d).alloc (Nat.le_refl _) (.cells (bvs (List.replicate 32 0)).toArray 26)
      have hh := heap_alloc_new w1d (.cells (bvs (List.replicate 32 0)).toArray 26)
      have hz := HB.out.size
      refine hK.out _ _ (HB.out.trans (hb.mono HB.out.size)) ?_
      clear hK K
      try simp only [putz]
      have HB := hid (HB.out.trans (hb.mono HB.out.size))
      generalize w1d.alloc (.cells (bvs (List.replicate 32 0)).toArray 26) = w1_10 at *
      generalize w1d.heap.size = g_10 at *
      have FZ := hid (And.intro (show Bt w1_10 g_10 26 _ from hh) hz)
      clear hb hh hz
      refine Goes.one (i := 2) (o := ⟨some 19, _, _, _, _, _⟩) (by as_aux_lemma => kernel_rfl) rfl (fun K hK => ?_)
      go_simp
      refine (rputLong_any none 0 n0 n1 n2 n3 [] w1_10 (Rd.nil _ _) (fun _ => rfl) (by simp) H0.out H1.out H2.out H3.out).mono ?_
      rintro e w1_11 ⟨v, rfl, how, hb⟩
      obtain ⟨A1, c1, rfl, hq1, hm1, hr1, ha1⟩ := how.form
      simp only [List.nil_append, be_length] at hq1 hr1 ⊢
      go_wp2_with fail
      refine hK.out _ _ (HB.out.trans (hb.mono HB.out.size)) ?_
      clear hK K
      try simp only [putz]
      have HB := hid (HB.out.trans (hb.mono HB.out.size))
      have FZ := hid (And.intro (FZ.out.1.on hb) FZ.out.2)
      have FP := hid (And.intro (on_rd (show Rd w1_11 A1 (nb n0 n1 n2 n3) from hr1)) True.intro)
      have FQ := hid (And.intro hq1 (And.intro hm1 ha1))
      clear how hb hq1 hm1 hr1 ha1
      refine Goes.one (i := 3) (o := ⟨some 20, _, _, _, _, _⟩) (by as_aux_lemma => kernel_rfl) rfl (fun K hK => ?_)
      go_simp
      have hb := (Below.refl w1_11.heap.size w1_11).alloc (Nat.le_refl _) (.cells #[.slice A1 32 c1] 27)
      have hh := Blk.new w1_11 #[.slice A1 32 c1] 27
      have hz := HB.out.size
      refine hK.out _ _ (HB.out.trans (hb.mono HB.out.size)) ?_
      clear hK K
      try simp only [putz]
      have HB := hid (HB.out.trans (hb.mono HB.out.size))
      have Ng_10g_12 := hid FZ.out.1.lt
      have FZ := hid (And.intro (FZ.out.1.on hb) FZ.out.2)
      have FP := hid (And.intro (FP.out.1.on hb) FP.out.2)
      generalize w1_11.alloc (.cells #[.slice A1 32 c1] 27) = w1_12 at *
      generalize w1_11.heap.size = g_12 at *
      have F3 := hid (And.intro hh hz)
      clear hb hh hz
      refine Goes.one (i := 4) (o := ⟨some 21, _, _, _, _, _⟩) (by as_aux_lemma => kernel_rfl) rfl (fun K hK => ?_)
      go_simp
      have hrr : Rwb w1_12 (some ⟨g_12, 0, none⟩) 1 (fun _ => A1) (fun _ => 32) (fun _ => c1) (fun _ => nb n0 n1 n2 n3) := by
        intro r hr
        obtain rfl : r = 0 := by omega
        exact ⟨⟨g_12, 0, rfl, F3.out.1.lt, by rw [F3.out.1.cell]; rfl⟩, nb_length _ _ _ _, FP.out.1.here, FQ.out.1, FQ.out.2.1, FQ.out.2.2⟩
      refine (rof_any (some ⟨w.heap.size + 1, 0, none⟩) 32 id 32 (some ⟨g_12, 0, none⟩) 1 1 _ _ _ _ w1_12 HI.out (bt_rd (FI.out _ HB.out)) (by decide) (fun h => by cases h) (by decide) hrr (by decide) (fun r hr => by decide)).mono ?_
      rintro e w1_13 ⟨rfl, hb⟩
      rw [cat1, rhm]
      go_wp2_with fail
      refine hK.out _ _ (HB.out.trans (hb.mono HB.out.size)) ?_
      clear hK K hrr
      try simp only [putz]
      have HB := hid (HB.out.trans (hb.mono HB.out.size))
      have FZ := hid (And.intro (FZ.out.1.on hb) FZ.out.2)
      have FP := hid (And.intro (FP.out.1.on hb) FP.out.2)
      have F3 := hid (And.intro (F3.out.1.on hb) F3.out.2)
      clear hb
      refine Goes.one (i := 6) (o := ⟨none, _, _, _, _, _⟩) (by as_aux_lemma => kernel_rfl) rfl (fun K hK => ?_)
      rw [if_pos (by rfl)]
      have hz := FZ.out.1
      unfold Bt at hz
      rw [KE.out]
      refine wp_store_row 26 (.tmp 8) (.tmp 21) (by rfl) g_10 (bvs kk).toArray (by rfl) (by rfl) 26 _ hz (hi44 kk KL.out).out (hsz _ kk (by rw [KL.out, List.length_replicate])).out (bvs_all kk) ?_
      have HW := below_setRow HB.out FZ.out.2 (bvs kk).toArray
      have HT := hid (FZ.out.1.row (m := kk))
      refine hK.out _ _ HW ?_
      clear hK K
      try simp only [putz]
      refine Goes.done (by as_aux_lemma => kernel_rfl) ?_ _
      refine NoPanic.normal ?_
      go_wp2
      go_meet
      exact ⟨_, rfl, hid ⟨HW, HT.out⟩⟩
  case rest =>
    obtain ⟨g8, rfl, HC⟩ := hcut
    have HB1 := hid (HBW.out.trans (HC.out.1.mono HBW.out.size))
    have FX := hid (on_bt HC.out.2)
    clear HC FN FI HBW H0 H1 H2 H3 HI
    have HH := hid (p := ∀ x, (hm kk x).length = 32) (fun x => hm_length _ _)
    have HIO := hid (p := Io wc (lks (hm kk) 0) (lk (hm kk) 0) (.slice none 0 0) (.slice none 0 0) wc) (Io.new wc)
    go_upto_region 8 with fail
    clear hneg hbig
    generalize wc = w2 at *
    go_loopw [9, 10, 11] (fun vx vy i wr => ∃ (j l l2 c c2 : Nat) (A A2 : Option Addr), l = 32 * j ∧ l ≤ m + 31 ∧ l2 = (lk (hm kk) j).length ∧ vx = .slice A l c ∧ vy = .slice A2 l2 c2 ∧ i = .int .i64 ((j : Int) + 1) ∧ Hid (Io w2 (lks (hm kk) j) (lk (hm kk) j) (.slice A l c) (.slice A2 l2 c2) wr)) (fun vx _ _ _ => m + 32 - lenV vx)
    case atStart => exact ⟨0, 0, 0, 0, 0, none, none, rfl, Nat.zero_le _, rfl, rfl, rfl, rfl, HIO⟩
    case round =>
      clear HIO
      obtain ⟨j, l, l2, c, c2, A, A2, hl, hlm, hl2, rfl, rfl, rfl, HIO⟩ := hrel
      by_cases hlt : l < m
      · have HLT := hid hlt
        have HLL := hid (p := l = 32 * j ∧ l2 = (lk (hm kk) j).length) ⟨hl, hl2⟩
        have hli : (l : Int) < (m : Int) := by omega
        have hj255 : j < 255 := by have := HM.out; omega
        have HJ := hid hj255
        obtain ⟨b, hbe⟩ : ∃ b, b = UInt8.ofNat (j + 1) := ⟨_, rfl⟩
        have hwj : IntKind.i64.wrap ((j : Int) + 1) = (j : Int) + 1 := by rw [IntKind.wrap_i64]; omega
        have hwb : IntKind.u8.wrap ((j : Int) + 1) = ((b.toNat : Nat) : Int) := by rw [hbe, IntKind.wrap_u8, UInt8.toNat_ofNat']; omega
        have HBE := hid hbe
        clear hl hlm hl2 hj255 hbe
        obtain ⟨A9, c9, e9, hq9, hm9, hr9, ha9⟩ := HIO.out.oy.form
        injection e9 with e91 e92 e93
        subst e91
        subst e93
        have HY := hid (p := Rd wr A2 (lk (hm kk) j) ∧ l2 ≤ c2 ∧ c2 ≤ 9223372036854775807 ∧ (A2 = none → c2 = 0)) ⟨hr9, by rw [e92]; exact hq9, hm9, ha9⟩
        clear e92 hq9 hm9 hr9 ha9
        have hs8 := sl32 g8
        have hcv := conv_c wr #[.int .u8 108, .int .u8 97, .int .u8 110, .int .u8 101] 4 wr.heap.size rfl rfl
        go_wp2_with fail
        clear hs8 hcv hwb
        obtain ⟨w4, hw4, HB4, HR4⟩ := parts3b wr A2 l2 c2 (lk (hm kk) j) b HY.out.1 HLL.out.2.symm HY.out.2.1 HY.out.2.2.1 HY.out.2.2.2
        rw [← hw4]
        clear hw4
        refine (rof_any (some ⟨g8, 0, none⟩) 32 kk 32 (some ⟨wr.heap.size + 1 + 1, 0, none⟩) 3 3 _ _ _ _ w4 KL.out (bt_rd (FX.out _ (HIO.out.below.trans (HB4.out.mono HIO.out.below.size)))) (by decide) (fun h => by cases h) (by decide) HR4.out (by decide) (fun r hr => ?_)).mono ?_
        · have h5 : l2 ≤ 32 := by
            rw [HLL.out.2]
            rcases j with _ | j
            · exact Nat.zero_le _
            · rw [lk_length _ HH.out]; exact Nat.le_refl _
          split
          · omega
          · split <;> decide
        rintro e w5 ⟨rfl, hb5⟩
        rw [cat3, rhm, HBE.out]
        have HBB := hid (HB4.out.trans (hb5.mono HB4.out.size))
        have HTL := hid (lk_length (hm kk) HH.out j)
        have HNX := hid (p := lks (hm kk) j ++ lk (hm kk) (j + 1) = lks (hm kk) (j + 1)) rfl
        rw [show hm kk (lk (hm kk) j ++ lane ++ [UInt8.ofNat (j + 1)]) = lk (hm kk) (j + 1) from rfl]
        generalize hte : lk (hm kk) (j + 1) = t at *
        have HTE := hid hte
        clear hte
        have HI := hi44 t HTL.out
        have HO := ho32 t HTL.out
        obtain ⟨hB6, hX6, hs6⟩ := box1 w5 26 t
        have HB6 := hid (HBB.out.trans (hB6.out.mono HBB.out.size))
        have HX6 := hid hX6.out
        clear hB6 hX6 hs6 hb5 HB4 HR4 HBB HY
        go_upto_region 11 with (refine wpList_store_row rfl 26 (.tmp 12) (.tmp 36) rfl w5.heap.size (bvs t).toArray rfl rfl 26 _ (heap_alloc_new _ _) HI.out HO.out (bvs_all _) ?_; rw [World.setRow_alloc_new])
        generalize w5.alloc (.cells (bvs t).toArray 26) = w6 at *
        generalize w5.heap.size = g12 at *
        have hsl := sl32 g12
        have hio6 := HIO.out.on HB6.out
        obtain ⟨A3, n3', c3, w7, hrun, HI7, hn3⟩ := (Io.mk (X := []) (Y := lks (hm kk) j) (vx := .slice none 0 0) (vy := .slice A l c) hio6.below (Ow.nil _ _) hio6.ox (fun k h => by cases h)).put (p := t) (A := some ⟨g12, 0, none⟩) (m := 32) (c := 32) (bt_rd HX6.out) HTL.out (fun h => by cases h) (by simp)
        have HN3 := hid (show n3' = 32 by rw [hn3.out]; rfl)
        rw [HN3.out] at hrun HI7
        have HI7 := hid (p := Io w2 t (lks (hm kk) j) (.slice A3 32 c3) (.slice A l c) w7) (by have := HI7.out; rwa [List.nil_append] at this)
        clear hn3 HN3 hio6
        go_upto_region 12 with (at_builtin; refine step_append rfl (.const (.slice none 0 0)) (.tmp 37) rfl rfl _ _ rfl rfl _ w7 hrun.out ?_)
        clear hrun hsl
        obtain ⟨A9, c9, e9, hq9, hm9, hr9, ha9⟩ := HI7.out.ox.form
        injection e9 with e91 e92 e93
        subst e91
        subst e93
        obtain ⟨A4, n4, c4, w8, hrun, HI8, hn4⟩ := HI7.out.symm.put (p := t) (A := A3) (m := 32) (c := c3) hr9 HTL.out ha9 (by rw [lks_length _ HH.out]; have := HJ.out; omega)
        have HN4 := hid (show n4 = l + 32 by rw [hn4.out, lks_length _ HH.out, HLL.out.1])
        rw [HNX.out, HN4.out] at HI8
        rw [HN4.out] at hrun
        clear hn4 HN4 HI7 e92 hq9 hm9 hr9 ha9
        have hw2 : IntKind.i64.wrap ((j : Int) + 1 + 1) = ((j + 1 : Nat) : Int) + 1 := by have := HJ.out; rw [IntKind.wrap_i64]; omega
        go_wp2_with (at_builtin; refine step_append rfl (.tmp 39) (.tmp 40) rfl rfl _ _ rfl rfl _ w8 hrun.out ?_)
        go_roundw
        case rel => exact ⟨j + 1, l + 32, 32, c4, c3, A4, A3, by have := HLL.out.1; omega, by have := HLT.out; omega, by rw [HTE.out, HTL.out], rfl, rfl, by go_num, hid (by rw [HTE.out]; exact HI8.out)⟩
        case measure => have := HLT.out; simp [lenV]; omega
      · obtain ⟨A9, c9, e9, hq9, hm9, hr9, ha9⟩ := HIO.out.ox.form
        injection e9 with e91 e92 e93
        subst e91
        subst e93
        rw [← e92] at hq9
        have hsl := slice_head A l c m (by omega)
        have HE := hid (p := Rd wr (past A 0 c) (mat (hm kk) m)) (by
          have := (rd_past0 hr9 c).take m
          rwa [mat_of _ HH.out m j (by omega)] at this)
        have HBE := hid (HB1.out.trans (HIO.out.below.mono HB1.out.size))
        clear hl hlm hl2 e92 hq9 hm9 hr9 ha9
        go_wp2_with fail
        go_ret2
        exact ⟨_, _, rfl, hid ⟨by rw [HKK.out]; exact HE.out, HBE.out⟩⟩
end Go.Proofs.YtbloejlebikecaaGreatDoor
