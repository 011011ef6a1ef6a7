/-
  The document's streams, walked: New, Next, Drawn. Conditions: none.
-/
import Derived.Test.YtcijnoapjicliaaDoorPkQ
import Derived.Test.YtcijnoapjicliaaDoorPkR
import Derived.Test.YtcijnoapjicliaaDoorPkT
namespace Go.Proofs.YtcijnoapjicliaaDoor
open Go.RowKit
set_option linter.unusedVariables false
set_option linter.unusedSimpArgs false

abbrev Sr (w : World) (g : Nat) (bs : List UInt8) (n : Nat) : Prop := Sc w g 53 [] bs n
set_option maxRecDepth 100000 in
theorem rnew_st (bs : List UInt8) (w : World) (hb : bs.length = 32) : Calls Tryd.prog 10 #[.agg (bvs bs).toArray] w fun e w' => ∃ g, e = .returned (.pointer (some ⟨g, 0, none⟩)) ∧ Hid (w.heap.size ≤ g ∧ Sc w' g 53 [] bs 0 ∧ Below w.heap.size w w') := by
  have hx : Bt (w.alloc (.cells (bvs bs).toArray 23)) w.heap.size 23 bs := heap_alloc_new w _
  have hl := ld_sum hx hb
  have hv : (bvs bs).length = 32 := by rw [bvs_length, hb]
  have HF : Hid (List.foldl (fun (cs : Array Value) (x : Value × Nat) => cs.setIfInBounds (x.snd) x.fst) #[.int .u8 0, .int .u8 0, .int .u8 0, .int .u8 0, .int .u8 0, .int .u8 0, .int .u8 0, .int .u8 0, .int .u8 0, .int .u8 0, .int .u8 0, .int .u8 0, .int .u8 0, .int .u8 0, .int .u8 0, .int .u8 0, .int .u8 0, .int .u8 0, .int .u8 0, .int .u8 0, .int .u8 0, .int .u8 0, .int .u8 0, .int .u8 0, .int .u8 0, .int .u8 0, .int .u8 0, .int .u8 0, .int .u8 0, .int .u8 0, .int .u8 0, .int .u8 0, .int .u64 0] (bvs bs).zipIdx = (stc [] bs 0).toArray) := hid (by have := fold_mid 0 [.int .u64 0] (bvs bs) (bvs (List.replicate 32 0)) [] 0 rfl (by rw [hv]; rfl); simp only [Nat.zero_add] at this; exact this)
  have HB := hid (((Below.refl w.heap.size w).alloc (Nat.le_refl _) (.cells (bvs bs).toArray 23)).alloc (by simp) (.cells (stc [] bs 0).toArray 53))
  have HS := hid (heap_alloc_new (w.alloc (.cells (bvs bs).toArray 23)) (.cells (stc [] bs 0).toArray 53))
  rw [al_size] at HS
  go_enter Tryd.func10, Tryd.ntmps10
  go_wp2_with (refine wp_ld rfl _ _ rfl _ rfl _ hl ?_)
  rw [HF.out]
  go_ret
  exact ⟨_, rfl, hid ⟨Nat.le_succ _, HS.out, HB.out⟩⟩
theorem rdrawn_st (g n : Nat) (bs : List UInt8) (w : World) (h : Sr w g bs n) (hb : bs.length = 32) :
    Calls Tryd.prog 16 #[.pointer (some ⟨g, 0, none⟩)] w fun e w' => e = .returned (.int .u64 (n : Int)) ∧ w = w' := by
  have hc : w.cell? ⟨g, 32, none⟩ = some (.int .u64 (n : Int)) := Sc.count h hb
  go_enter Tryd.func16, Tryd.ntmps16
  go_wp2
  go_ret
  exact ⟨rfl, rfl⟩
/-- bytes at the beginning of a block -/
def Rp (w : World) (g : Nat) (bs : List UInt8) : Prop := Rd w (some ⟨g, 0, none⟩) bs ∧ g < w.heap.size
theorem Rp.lt {w : World} {g : Nat} {bs : List UInt8} (h : Rp w g bs) : g < w.heap.size := h.2
theorem Rp.on {w w' : World} {g : Nat} {bs : List UInt8} (h : Rp w g bs) (hb : Below w.heap.size w w') : Rp w' g bs := ⟨h.1.below hb (Nat.le_refl _), Nat.lt_of_lt_of_le h.2 hb.size⟩
theorem Rp.grown {w w' : World} {g k : Nat} {bs : List UInt8} (h : Rp w g bs) (hg : w.grownBy w' (some k)) (hne : g ≠ k) : Rp w' g bs := ⟨h.1.grown hg (fun ad e => by injection e with e; subst e; exact hne), Nat.lt_of_lt_of_le h.2 hg.size⟩

theorem rput8 (n : Nat) (w : World) (hn : n + 1 < 18446744073709551616) : Calls Tryd.prog 28 #[.slice none 0 0, .int .u64 (n : Int), .int .i64 8] w fun e w' => ∃ g c, e = .returned (.slice (some ⟨g, 0, none⟩) 8 c) ∧ Hid (w.heap.size ≤ g ∧ 8 ≤ c ∧ c ≤ 9223372036854775807 ∧ Rp w' g (be n 8) ∧ Below w.heap.size w w') := by
  refine (rput_any none 0 n 8 8 [] w (Rd.nil _ _) (by simp) (by simp) (by omega) (by decide) (by decide)).mono ?_
  rintro e w' ⟨v, rfl, ho, hb⟩
  rw [List.nil_append] at ho
  obtain ⟨A, c, rfl, _, hm, _, _⟩ := ho.form
  obtain ⟨g, rfl, e8, hc, hg, hbg, hce⟩ := ow_at ho (by rw [be_length]; decide)
  rw [be_length] at hc ⊢
  refine ⟨g, c, rfl, hid ⟨hbg, hc, hm, ⟨fun hp => ⟨g, 0, rfl, hg, hce⟩, hg⟩, hb⟩⟩
theorem rwb2 {w : World} {b : Nat} {A0 A1 : Option Addr} {l0 l1 c0 c1 : Nat} {x0 x1 : List UInt8} (h : Blk w b #[.slice A0 l0 c0, .slice A1 l1 c1] 47)
    (r0 : Rd w A0 x0) (e0 : x0.length = l0) (k0 : l0 ≤ c0) (m0 : c0 ≤ 9223372036854775807) (n0 : A0 = none → c0 = 0) (r1 : Rd w A1 x1) (e1 : x1.length = l1) (k1 : l1 ≤ c1) (m1 : c1 ≤ 9223372036854775807) (n1 : A1 = none → c1 = 0) :
    Rwb w (some ⟨b, 0, none⟩) 2 (fun r => if r = 0 then A0 else A1) (fun r => if r = 0 then l0 else l1) (fun r => if r = 0 then c0 else c1) (fun r => if r = 0 then x0 else x1) := by
  intro r hr
  have hc : ∀ j, w.cell? ⟨b, 0 + j, none⟩ = #[Value.slice A0 l0 c0, .slice A1 l1 c1][j]? := fun j => by rw [Nat.zero_add]; exact h.cell
  rcases (show r = 0 ∨ r = 1 by omega) with rfl | rfl
  · exact ⟨⟨b, 0, rfl, h.lt, by rw [hc]; rfl⟩, e0, r0, k0, m0, n0⟩
  · exact ⟨⟨b, 0, rfl, h.lt, by rw [hc]; rfl⟩, e1, r1, k1, m1, n1⟩
set_option maxRecDepth 100000 in
set_option maxHeartbeats 4000000 in
theorem rnext_st (g n : Nat) (bs : List UInt8) (w : World) (h : Sr w g bs n) (hb : bs.length = 32) (hn : n + 1 < 18446744073709551616) :
    Calls Tryd.prog 14 #[.pointer (some ⟨g, 0, none⟩)] w fun e w' => e = .returned (.agg (bvs (dsum bs n)).toArray) ∧ Hid (w.grownBy w' (some g) ∧ Sr w' g bs (n + 1)) := by
  have HL := hid hb
  have HN := hid hn
  have hlt := Sc.lt h
  obtain ⟨hB1, hX1, hs1⟩ := box1 w 23 (List.replicate 32 0)
  have HG0 := hid (grown_of hB1.out (some g))
  have HS1 := hid (Sc.on h hB1.out)
  have HGL := hid (Nat.lt_of_lt_of_le hlt hB1.out.size)
  have FZ1 := hid hX1.out
  have NZg := hid (Nat.ne_of_gt hlt)
  have KL := hid (dsum_length bs n)
  have KE := hid (show hmk (kof bs) (drawT ++ be n 8) = dsum bs n from rfl)
  generalize dsum bs n = kk at *
  have HI := hi44 kk KL.out
  have HO := ho32 kk KL.out
  clear h hb hn hlt hB1 hX1 hs1
  go_enter Tryd.func14, Tryd.ntmps14
  go_upto_region 1 with fail
  rw [← lit32]
  generalize w.alloc (.cells (bvs (List.replicate 32 0)).toArray 23) = w1 at *
  generalize hgz : w.heap.size = gy at FZ1 NZg ⊢
  have HGZ := hid (Nat.le_of_eq hgz)
  clear hgz
  go_cut [3] (fun s3 wx => ∃ g3 : Nat, s3 = .pointer (some ⟨g3, 0, none⟩) ∧ Hid (Below w1.heap.size w1 wx ∧ w1.heap.size ≤ g3 ∧ Bt wx g3 23 kk))
  case first =>
    refine wp_region_noPanic ?_
    refine Goes.region (fun (_ : Array Bool) (u : World) => Sc u g 53 [] bs n) (by as_aux_lemma => kernel_rfl) ?_
    have HB : Hid (Sc w1.drew g 53 [] bs n) := hid HS1.out
    have HW := hid (p := Below w1.heap.size w1 w1.drew) (Below.refl _ _).drew
    generalize w1.drew = w1d at *
    refine Goes.tk (i := 0) (o := ⟨some 4, _, _, _, _, _⟩) (v := ?_) [] (y := Or.inl ⟨by rfl, ?_⟩) (s := HB.out) (H := ?_)
    rotate_left
    · intro u hY; go_simp; try with_reducible rfl
    try simp only [putz]
    refine Goes.tk (i := 1) (o := ⟨some 5, _, _, _, _, _⟩) (v := ?_) [] (y := Or.inl ⟨by rfl, ?_⟩) (s := HB.out) (H := ?_)
    rotate_left
    · intro u hY; go_simp; try with_reducible rfl
    try simp only [putz]
    refine Goes.tk (i := 2) (o := ⟨some 6, _, _, _, _, _⟩) (v := ?_) [] (y := Or.inl ⟨by rfl, ?_⟩) (s := HB.out) (H := ?_)
    rotate_left
    · intro u hY; go_simp; try with_reducible rfl
    try simp only [putz]
    refine Goes.tk (i := 3) (o := ⟨some 7, _, _, _, _, _⟩) (v := ?_) [] (y := Or.inl ⟨by rfl, ?_⟩) (s := HB.out) (H := ?_)
    rotate_left
    · intro u hY; have hsl := sl32 g; go_simp; try with_reducible rfl
    try simp only [putz]
    refine Goes.tk (i := 6) (o := ⟨some 10, _, _, _, _, _⟩) (v := ?_) [] (y := Or.inl ⟨by rfl, ?_⟩) (s := HB.out) (H := ?_)
    rotate_left
    · intro u hY; go_simp; try with_reducible rfl
    try simp only [putz]
    refine Goes.tk (i := 7) (o := ⟨some 11, _, _, _, _, _⟩) (v := ?_) [] (y := Or.inl ⟨by rfl, ?_⟩) (s := HB.out) (H := ?_)
    rotate_left
    · intro u hY; go_simp; try with_reducible rfl
    try simp only [putz]
    refine Goes.tk (i := 8) (o := ⟨some 12, _, _, _, _, _⟩) (v := ?_) [] (y := Or.inl ⟨by rfl, ?_⟩) (s := HB.out) (H := ?_)
    rotate_left
    · intro u hY; go_simp; try with_reducible rfl
    try simp only [putz]
    refine Goes.tk (i := 9) (o := ⟨some 13, _, _, _, _, _⟩) (v := ?_) [] (y := Or.inl ⟨by rfl, ?_⟩) (s := HB.out) (H := ?_)
    rotate_left
    · intro u hY; have hcc : u.cell? ⟨g, 32, none⟩ = some (.int .u64 (n : Int)) := Sc.count (yet_of hY) HL.out; go_simp; try with_reducible rfl
    try simp only [putz]
    refine Goes.three (i := 4) (j := 10) (k := 13) (o := ⟨some 8, _, _, _, _, _⟩) (p := ⟨some 14, _, _, _, _, _⟩) (q := ⟨some 3, _, _, _, _, _⟩) (by as_aux_lemma => kernel_rfl) rfl rfl rfl (fun K hK => ?_) (fun K hK => ?_) (fun K hK => ?_)
    · skip
      go_simp
      have hb := (Below.refl w1d.heap.size w1d).alloc (Nat.le_refl _) (.cells #[.int .u8 100, .int .u8 114, .int .u8 97, .int .u8 119] 5)
      have hh := Blk.new w1d #[.int .u8 100, .int .u8 114, .int .u8 97, .int .u8 119] 5
      have hz := HW.out.size
      refine hK.out _ _ (Sc.on HB.out hb) ?_
      clear hK K
      try simp only [putz]
      have HB := hid (Sc.on HB.out hb)
      have HW := hid (HW.out.trans (hb.mono HW.out.size))
      generalize w1d.alloc (.cells #[.int .u8 100, .int .u8 114, .int .u8 97, .int .u8 119] 5) = w1_1 at *
      generalize w1d.heap.size = gd1 at *
      have FD := hid (And.intro hh hz)
      clear hb hh hz
      refine Goes.three (i := 5) (j := 10) (k := 13) (o := ⟨some 9, _, _, _, _, _⟩) (p := ⟨some 14, _, _, _, _, _⟩) (q := ⟨some 3, _, _, _, _, _⟩) (by as_aux_lemma => kernel_rfl) rfl rfl rfl (fun K hK => ?_) (fun K hK => ?_) (fun K hK => ?_)
      · skip
        obtain ⟨w1_2, hrun, HBK, HGW⟩ := conv_gr gd1 4 _ rfl FD.out.1
        rw [if_pos (by rfl)]
        refine wp_convert (.tmp 8) rfl _ rfl _ _ hrun.out ?_
        have HB := hid (Sc.grown HB.out HGW.out (Nat.ne_of_lt (Nat.lt_of_lt_of_le HGL.out FD.out.2)))
        have HW := hid (below_gr HW.out HGW.out FD.out.2)
        refine hK.out _ _ HB.out ?_
        clear hK K
        try simp only [putz]
        have FD := hid (And.intro HBK.out FD.out.2)
        clear HBK HGW hrun
        refine Goes.two (i := 10) (j := 13) (o := ⟨some 14, _, _, _, _, _⟩) (p := ⟨some 3, _, _, _, _, _⟩) (by as_aux_lemma => kernel_rfl) rfl rfl (fun K hK => ?_) (fun K hK => ?_)
        · skip
          go_simp
          refine (rput8 n w1_2 HN.out).mono ?_
          rintro e w1_3 ⟨gp3, cp, rfl, hq⟩
          have hb := hq.out.2.2.2.2
          go_wp2_with fail
          refine hK.out _ _ (Sc.on HB.out hb) ?_
          clear hK K
          try simp only [putz]
          have Ngd1_gp3 := hid (Nat.ne_of_lt (Nat.lt_of_lt_of_le FD.out.1.lt hq.out.1))
          have hz := Nat.le_trans HW.out.size hq.out.1
          have HB := hid (Sc.on HB.out hb)
          have HW := hid (HW.out.trans (hb.mono HW.out.size))
          have FD := hid (And.intro (FD.out.1.on hb) FD.out.2)
          have HCP := hid (And.intro hq.out.2.1 hq.out.2.2.1)
          have FP := hid (And.intro hq.out.2.2.2.1 hz)
          clear hq hb hz
          refine Goes.two (i := 11) (j := 13) (o := ⟨some 15, _, _, _, _, _⟩) (p := ⟨some 3, _, _, _, _, _⟩) (by as_aux_lemma => kernel_rfl) rfl rfl (fun K hK => ?_) (fun K hK => ?_)
          · skip
            go_simp
            have hb := (Below.refl w1_3.heap.size w1_3).alloc (Nat.le_refl _) (.cells #[.slice (some ⟨gd1, 0, none⟩) 4 4, .slice (some ⟨gp3, 0, none⟩) 8 cp] 47)
            have hh := Blk.new w1_3 #[.slice (some ⟨gd1, 0, none⟩) 4 4, .slice (some ⟨gp3, 0, none⟩) 8 cp] 47
            have hz := HW.out.size
            refine hK.out _ _ (Sc.on HB.out hb) ?_
            clear hK K
            try simp only [putz]
            have Ngd1_gb4 := hid (Nat.ne_of_lt FD.out.1.lt)
            have Ngp3_gb4 := hid (Nat.ne_of_lt FP.out.1.lt)
            have HB := hid (Sc.on HB.out hb)
            have HW := hid (HW.out.trans (hb.mono HW.out.size))
            have FD := hid (And.intro (FD.out.1.on hb) FD.out.2)
            have FP := hid (And.intro (FP.out.1.on hb) FP.out.2)
            generalize w1_3.alloc (.cells #[.slice (some ⟨gd1, 0, none⟩) 4 4, .slice (some ⟨gp3, 0, none⟩) 8 cp] 47) = w1_4 at *
            generalize w1_3.heap.size = gb4 at *
            have F2 := hid (And.intro hh hz)
            clear hb hh hz
            refine Goes.two (i := 12) (j := 13) (o := ⟨some 16, _, _, _, _, _⟩) (p := ⟨some 3, _, _, _, _, _⟩) (by as_aux_lemma => kernel_rfl) rfl rfl (fun K hK => ?_) (fun K hK => ?_)
            · skip
              go_simp
              have hrr := rwb2 F2.out.1 (rd_blk drawT FD.out.1 draw_cells) rfl (Nat.le_refl 4) (by decide) (fun h => by cases h) FP.out.1.1 (be_length n 8) HCP.out.1 HCP.out.2 (fun h => by cases h)
              refine (rof_any (some ⟨g, 0, none⟩) 32 bs 32 (some ⟨gb4, 0, none⟩) 2 2 _ _ _ _ w1_4 HL.out (Sc.rd HB.out) (by decide) (fun h => by cases h) (by decide) hrr (by decide) (fun r hr => by split <;> decide)).mono ?_
              rintro e w1_5 ⟨rfl, hb⟩
              rw [cat2]
              go_wp2_with fail
              refine hK.out _ _ (Sc.on HB.out hb) ?_
              clear hK K
              try simp only [putz]
              clear hrr
              have HB := hid (Sc.on HB.out hb)
              have HW := hid (HW.out.trans (hb.mono HW.out.size))
              have FD := hid (And.intro (FD.out.1.on hb) FD.out.2)
              have FP := hid (And.intro (FP.out.1.on hb) FP.out.2)
              have F2 := hid (And.intro (F2.out.1.on hb) F2.out.2)
              clear hb
              refine Goes.one (i := 13) (o := ⟨some 3, _, _, _, _, _⟩) (by as_aux_lemma => kernel_rfl) rfl (fun K hK => ?_)
              go_simp
              rw [← lit32]
              have hb := (Below.refl w1_5.heap.size w1_5).alloc (Nat.le_refl _) (.cells (bvs (List.replicate 32 0)).toArray 23)
              have hh := heap_alloc_new w1_5 (.cells (bvs (List.replicate 32 0)).toArray 23)
              have hz := HW.out.size
              refine hK.out _ _ (Sc.on HB.out hb) ?_
              clear hK K
              try simp only [putz]
              have Ngd1_gz6 := hid (Nat.ne_of_lt FD.out.1.lt)
              have Ngp3_gz6 := hid (Nat.ne_of_lt FP.out.1.lt)
              have Ngb4_gz6 := hid (Nat.ne_of_lt F2.out.1.lt)
              have HB := hid (Sc.on HB.out hb)
              have HW := hid (HW.out.trans (hb.mono HW.out.size))
              have FD := hid (And.intro (FD.out.1.on hb) FD.out.2)
              have FP := hid (And.intro (FP.out.1.on hb) FP.out.2)
              have F2 := hid (And.intro (F2.out.1.on hb) F2.out.2)
              generalize w1_5.alloc (.cells (bvs (List.replicate 32 0)).toArray 23) = w1_6 at *
              generalize w1_5.heap.size = gz6 at *
              have FZ := hid (And.intro (show Bt w1_6 gz6 23 _ from hh) hz)
              clear hb hh hz
              refine Goes.one (i := 14) (o := ⟨none, _, _, _, _, _⟩) (by as_aux_lemma => kernel_rfl) rfl (fun K hK => ?_)
              rw [if_pos (by rfl)]
              have hz := FZ.out.1
              unfold Bt at hz
              rw [KE.out]
              refine wp_store_row 23 (.tmp 3) (.tmp 16) (by rfl) gz6 (bvs kk).toArray (by rfl) (by rfl) 23 _ hz (hi44 kk KL.out).out (hsz _ kk (by rw [KL.out, List.length_replicate])).out (bvs_all kk) ?_
              have HWR := below_setRow HW.out FZ.out.2 (bvs kk).toArray
              have HT := hid (FZ.out.1.row (m := kk))
              refine hK.out _ _ (st_row HB.out (Nat.ne_of_lt (Nat.lt_of_lt_of_le HGL.out FZ.out.2)) (bvs kk).toArray) ?_
              clear hK K
              try simp only [putz]
              refine Goes.done (by as_aux_lemma => kernel_rfl) ?_ _
              refine NoPanic.normal ?_
              go_wp2
              go_meet
              exact ⟨_, rfl, hid ⟨HWR, FZ.out.2, HT.out⟩⟩
            · skip
              go_simp
              rw [← lit32]
              have hb := (Below.refl w1_4.heap.size w1_4).alloc (Nat.le_refl _) (.cells (bvs (List.replicate 32 0)).toArray 23)
              have hh := heap_alloc_new w1_4 (.cells (bvs (List.replicate 32 0)).toArray 23)
              have hz := HW.out.size
              refine hK.out _ _ (Sc.on HB.out hb) ?_
              clear hK K
              try simp only [putz]
              have Ngd1_gz7 := hid (Nat.ne_of_lt FD.out.1.lt)
              have Ngp3_gz7 := hid (Nat.ne_of_lt FP.out.1.lt)
              have Ngb4_gz7 := hid (Nat.ne_of_lt F2.out.1.lt)
              have HB := hid (Sc.on HB.out hb)
              have HW := hid (HW.out.trans (hb.mono HW.out.size))
              have FD := hid (And.intro (FD.out.1.on hb) FD.out.2)
              have FP := hid (And.intro (FP.out.1.on hb) FP.out.2)
              have F2 := hid (And.intro (F2.out.1.on hb) F2.out.2)
              generalize w1_4.alloc (.cells (bvs (List.replicate 32 0)).toArray 23) = w1_7 at *
              generalize w1_4.heap.size = gz7 at *
              have FZ := hid (And.intro (show Bt w1_7 gz7 23 _ from hh) hz)
              clear hb hh hz
              refine Goes.one (i := 12) (o := ⟨some 16, _, _, _, _, _⟩) (by as_aux_lemma => kernel_rfl) rfl (fun K hK => ?_)
              go_simp
              have hrr := rwb2 F2.out.1 (rd_blk drawT FD.out.1 draw_cells) rfl (Nat.le_refl 4) (by decide) (fun h => by cases h) FP.out.1.1 (be_length n 8) HCP.out.1 HCP.out.2 (fun h => by cases h)
              refine (rof_any (some ⟨g, 0, none⟩) 32 bs 32 (some ⟨gb4, 0, none⟩) 2 2 _ _ _ _ w1_7 HL.out (Sc.rd HB.out) (by decide) (fun h => by cases h) (by decide) hrr (by decide) (fun r hr => by split <;> decide)).mono ?_
              rintro e w1_8 ⟨rfl, hb⟩
              rw [cat2]
              go_wp2_with fail
              refine hK.out _ _ (Sc.on HB.out hb) ?_
              clear hK K
              try simp only [putz]
              clear hrr
              have HB := hid (Sc.on HB.out hb)
              have HW := hid (HW.out.trans (hb.mono HW.out.size))
              have FD := hid (And.intro (FD.out.1.on hb) FD.out.2)
              have FP := hid (And.intro (FP.out.1.on hb) FP.out.2)
              have F2 := hid (And.intro (F2.out.1.on hb) F2.out.2)
              have FZ := hid (And.intro (FZ.out.1.on hb) FZ.out.2)
              clear hb
              refine Goes.one (i := 14) (o := ⟨none, _, _, _, _, _⟩) (by as_aux_lemma => kernel_rfl) rfl (fun K hK => ?_)
              rw [if_pos (by rfl)]
              have hz := FZ.out.1
              unfold Bt at hz
              rw [KE.out]
              refine wp_store_row 23 (.tmp 3) (.tmp 16) (by rfl) gz7 (bvs kk).toArray (by rfl) (by rfl) 23 _ hz (hi44 kk KL.out).out (hsz _ kk (by rw [KL.out, List.length_replicate])).out (bvs_all kk) ?_
              have HWR := below_setRow HW.out FZ.out.2 (bvs kk).toArray
              have HT := hid (FZ.out.1.row (m := kk))
              refine hK.out _ _ (st_row HB.out (Nat.ne_of_lt (Nat.lt_of_lt_of_le HGL.out FZ.out.2)) (bvs kk).toArray) ?_
              clear hK K
              try simp only [putz]
              refine Goes.done (by as_aux_lemma => kernel_rfl) ?_ _
              refine NoPanic.normal ?_
              go_wp2
              go_meet
              exact ⟨_, rfl, hid ⟨HWR, FZ.out.2, HT.out⟩⟩
          · skip
            go_simp
            rw [← lit32]
            have hb := (Below.refl w1_3.heap.size w1_3).alloc (Nat.le_refl _) (.cells (bvs (List.replicate 32 0)).toArray 23)
            have hh := heap_alloc_new w1_3 (.cells (bvs (List.replicate 32 0)).toArray 23)
            have hz := HW.out.size
            refine hK.out _ _ (Sc.on HB.out hb) ?_
            clear hK K
            try simp only [putz]
            have Ngd1_gz9 := hid (Nat.ne_of_lt FD.out.1.lt)
            have Ngp3_gz9 := hid (Nat.ne_of_lt FP.out.1.lt)
            have HB := hid (Sc.on HB.out hb)
            have HW := hid (HW.out.trans (hb.mono HW.out.size))
            have FD := hid (And.intro (FD.out.1.on hb) FD.out.2)
            have FP := hid (And.intro (FP.out.1.on hb) FP.out.2)
            generalize w1_3.alloc (.cells (bvs (List.replicate 32 0)).toArray 23) = w1_9 at *
            generalize w1_3.heap.size = gz9 at *
            have FZ := hid (And.intro (show Bt w1_9 gz9 23 _ from hh) hz)
            clear hb hh hz
            refine Goes.one (i := 11) (o := ⟨some 15, _, _, _, _, _⟩) (by as_aux_lemma => kernel_rfl) rfl (fun K hK => ?_)
            go_simp
            have hb := (Below.refl w1_9.heap.size w1_9).alloc (Nat.le_refl _) (.cells #[.slice (some ⟨gd1, 0, none⟩) 4 4, .slice (some ⟨gp3, 0, none⟩) 8 cp] 47)
            have hh := Blk.new w1_9 #[.slice (some ⟨gd1, 0, none⟩) 4 4, .slice (some ⟨gp3, 0, none⟩) 8 cp] 47
            have hz := HW.out.size
            refine hK.out _ _ (Sc.on HB.out hb) ?_
            clear hK K
            try simp only [putz]
            have Ngd1_gb10 := hid (Nat.ne_of_lt FD.out.1.lt)
            have Ngp3_gb10 := hid (Nat.ne_of_lt FP.out.1.lt)
            have Ngz9_gb10 := hid (Nat.ne_of_lt FZ.out.1.lt)
            have HB := hid (Sc.on HB.out hb)
            have HW := hid (HW.out.trans (hb.mono HW.out.size))
            have FD := hid (And.intro (FD.out.1.on hb) FD.out.2)
            have FP := hid (And.intro (FP.out.1.on hb) FP.out.2)
            have FZ := hid (And.intro (FZ.out.1.on hb) FZ.out.2)
            generalize w1_9.alloc (.cells #[.slice (some ⟨gd1, 0, none⟩) 4 4, .slice (some ⟨gp3, 0, none⟩) 8 cp] 47) = w1_10 at *
            generalize w1_9.heap.size = gb10 at *
            have F2 := hid (And.intro hh hz)
            clear hb hh hz
            refine Goes.one (i := 12) (o := ⟨some 16, _, _, _, _, _⟩) (by as_aux_lemma => kernel_rfl) rfl (fun K hK => ?_)
            go_simp
            have hrr := rwb2 F2.out.1 (rd_blk drawT FD.out.1 draw_cells) rfl (Nat.le_refl 4) (by decide) (fun h => by cases h) FP.out.1.1 (be_length n 8) HCP.out.1 HCP.out.2 (fun h => by cases h)
            refine (rof_any (some ⟨g, 0, none⟩) 32 bs 32 (some ⟨gb10, 0, none⟩) 2 2 _ _ _ _ w1_10 HL.out (Sc.rd HB.out) (by decide) (fun h => by cases h) (by decide) hrr (by decide) (fun r hr => by split <;> decide)).mono ?_
            rintro e w1_11 ⟨rfl, hb⟩
            rw [cat2]
            go_wp2_with fail
            refine hK.out _ _ (Sc.on HB.out hb) ?_
            clear hK K
            try simp only [putz]
            clear hrr
            have HB := hid (Sc.on HB.out hb)
            have HW := hid (HW.out.trans (hb.mono HW.out.size))
            have FD := hid (And.intro (FD.out.1.on hb) FD.out.2)
            have FP := hid (And.intro (FP.out.1.on hb) FP.out.2)
            have FZ := hid (And.intro (FZ.out.1.on hb) FZ.out.2)
            have F2 := hid (And.intro (F2.out.1.on hb) F2.out.2)
            clear hb
            refine Goes.one (i := 14) (o := ⟨none, _, _, _, _, _⟩) (by as_aux_lemma => kernel_rfl) rfl (fun K hK => ?_)
            rw [if_pos (by rfl)]
            have hz := FZ.out.1
            unfold Bt at hz
            rw [KE.out]
            refine wp_store_row 23 (.tmp 3) (.tmp 16) (by rfl) gz9 (bvs kk).toArray (by rfl) (by rfl) 23 _ hz (hi44 kk KL.out).out (hsz _ kk (by rw [KL.out, List.length_replicate])).out (bvs_all kk) ?_
            have HWR := below_setRow HW.out FZ.out.2 (bvs kk).toArray
            have HT := hid (FZ.out.1.row (m := kk))
            refine hK.out _ _ (st_row HB.out (Nat.ne_of_lt (Nat.lt_of_lt_of_le HGL.out FZ.out.2)) (bvs kk).toArray) ?_
            clear hK K
            try simp only [putz]
            refine Goes.done (by as_aux_lemma => kernel_rfl) ?_ _
            refine NoPanic.normal ?_
            go_wp2
            go_meet
            exact ⟨_, rfl, hid ⟨HWR, FZ.out.2, HT.out⟩⟩
        · skip
          go_simp
          rw [← lit32]
          have hb := (Below.refl w1_2.heap.size w1_2).alloc (Nat.le_refl _) (.cells (bvs (List.replicate 32 0)).toArray 23)
          have hh := heap_alloc_new w1_2 (.cells (bvs (List.replicate 32 0)).toArray 23)
          have hz := HW.out.size
          refine hK.out _ _ (Sc.on HB.out hb) ?_
          clear hK K
          try simp only [putz]
          have Ngd1_gz12 := hid (Nat.ne_of_lt FD.out.1.lt)
          have HB := hid (Sc.on HB.out hb)
          have HW := hid (HW.out.trans (hb.mono HW.out.size))
          have FD := hid (And.intro (FD.out.1.on hb) FD.out.2)
          generalize w1_2.alloc (.cells (bvs (List.replicate 32 0)).toArray 23) = w1_12 at *
          generalize w1_2.heap.size = gz12 at *
          have FZ := hid (And.intro (show Bt w1_12 gz12 23 _ from hh) hz)
          clear hb hh hz
          refine Goes.one (i := 10) (o := ⟨some 14, _, _, _, _, _⟩) (by as_aux_lemma => kernel_rfl) rfl (fun K hK => ?_)
          go_simp
          refine (rput8 n w1_12 HN.out).mono ?_
          rintro e w1_13 ⟨gp13, cp, rfl, hq⟩
          have hb := hq.out.2.2.2.2
          go_wp2_with fail
          refine hK.out _ _ (Sc.on HB.out hb) ?_
          clear hK K
          try simp only [putz]
          have Ngd1_gp13 := hid (Nat.ne_of_lt (Nat.lt_of_lt_of_le FD.out.1.lt hq.out.1))
          have Ngz12_gp13 := hid (Nat.ne_of_lt (Nat.lt_of_lt_of_le FZ.out.1.lt hq.out.1))
          have hz := Nat.le_trans HW.out.size hq.out.1
          have HB := hid (Sc.on HB.out hb)
          have HW := hid (HW.out.trans (hb.mono HW.out.size))
          have FD := hid (And.intro (FD.out.1.on hb) FD.out.2)
          have FZ := hid (And.intro (FZ.out.1.on hb) FZ.out.2)
          have HCP := hid (And.intro hq.out.2.1 hq.out.2.2.1)
          have FP := hid (And.intro hq.out.2.2.2.1 hz)
          clear hq hb hz
          refine Goes.one (i := 11) (o := ⟨some 15, _, _, _, _, _⟩) (by as_aux_lemma => kernel_rfl) rfl (fun K hK => ?_)
          go_simp
          have hb := (Below.refl w1_13.heap.size w1_13).alloc (Nat.le_refl _) (.cells #[.slice (some ⟨gd1, 0, none⟩) 4 4, .slice (some ⟨gp13, 0, none⟩) 8 cp] 47)
          have hh := Blk.new w1_13 #[.slice (some ⟨gd1, 0, none⟩) 4 4, .slice (some ⟨gp13, 0, none⟩) 8 cp] 47
          have hz := HW.out.size
          refine hK.out _ _ (Sc.on HB.out hb) ?_
          clear hK K
          try simp only [putz]
          have Ngd1_gb14 := hid (Nat.ne_of_lt FD.out.1.lt)
          have Ngz12_gb14 := hid (Nat.ne_of_lt FZ.out.1.lt)
          have Ngp13_gb14 := hid (Nat.ne_of_lt FP.out.1.lt)
          have HB := hid (Sc.on HB.out hb)
          have HW := hid (HW.out.trans (hb.mono HW.out.size))
          have FD := hid (And.intro (FD.out.1.on hb) FD.out.2)
          have FZ := hid (And.intro (FZ.out.1.on hb) FZ.out.2)
          have FP := hid (And.intro (FP.out.1.on hb) FP.out.2)
          generalize w1_13.alloc (.cells #[.slice (some ⟨gd1, 0, none⟩) 4 4, .slice (some ⟨gp13, 0, none⟩) 8 cp] 47) = w1_14 at *
          generalize w1_13.heap.size = gb14 at *
          have F2 := hid (And.intro hh hz)
          clear hb hh hz
          refine Goes.one (i := 12) (o := ⟨some 16, _, _, _, _, _⟩) (by as_aux_lemma => kernel_rfl) rfl (fun K hK => ?_)
          go_simp
          have hrr := rwb2 F2.out.1 (rd_blk drawT FD.out.1 draw_cells) rfl (Nat.le_refl 4) (by decide) (fun h => by cases h) FP.out.1.1 (be_length n 8) HCP.out.1 HCP.out.2 (fun h => by cases h)
          refine (rof_any (some ⟨g, 0, none⟩) 32 bs 32 (some ⟨gb14, 0, none⟩) 2 2 _ _ _ _ w1_14 HL.out (Sc.rd HB.out) (by decide) (fun h => by cases h) (by decide) hrr (by decide) (fun r hr => by split <;> decide)).mono ?_
          rintro e w1_15 ⟨rfl, hb⟩
          rw [cat2]
          go_wp2_with fail
          refine hK.out _ _ (Sc.on HB.out hb) ?_
          clear hK K
          try simp only [putz]
          clear hrr
          have HB := hid (Sc.on HB.out hb)
          have HW := hid (HW.out.trans (hb.mono HW.out.size))
          have FD := hid (And.intro (FD.out.1.on hb) FD.out.2)
          have FZ := hid (And.intro (FZ.out.1.on hb) FZ.out.2)
          have FP := hid (And.intro (FP.out.1.on hb) FP.out.2)
          have F2 := hid (And.intro (F2.out.1.on hb) F2.out.2)
          clear hb
          refine Goes.one (i := 14) (o := ⟨none, _, _, _, _, _⟩) (by as_aux_lemma => kernel_rfl) rfl (fun K hK => ?_)
          rw [if_pos (by rfl)]
          have hz := FZ.out.1
          unfold Bt at hz
          rw [KE.out]
          refine wp_store_row 23 (.tmp 3) (.tmp 16) (by rfl) gz12 (bvs kk).toArray (by rfl) (by rfl) 23 _ hz (hi44 kk KL.out).out (hsz _ kk (by rw [KL.out, List.length_replicate])).out (bvs_all kk) ?_
          have HWR := below_setRow HW.out FZ.out.2 (bvs kk).toArray
          have HT := hid (FZ.out.1.row (m := kk))
          refine hK.out _ _ (st_row HB.out (Nat.ne_of_lt (Nat.lt_of_lt_of_le HGL.out FZ.out.2)) (bvs kk).toArray) ?_
          clear hK K
          try simp only [putz]
          refine Goes.done (by as_aux_lemma => kernel_rfl) ?_ _
          refine NoPanic.normal ?_
          go_wp2
          go_meet
          exact ⟨_, rfl, hid ⟨HWR, FZ.out.2, HT.out⟩⟩
      · skip
        go_simp
        refine (rput8 n w1_1 HN.out).mono ?_
        rintro e w1_16 ⟨gp16, cp, rfl, hq⟩
        have hb := hq.out.2.2.2.2
        go_wp2_with fail
        refine hK.out _ _ (Sc.on HB.out hb) ?_
        clear hK K
        try simp only [putz]
        have Ngd1_gp16 := hid (Nat.ne_of_lt (Nat.lt_of_lt_of_le FD.out.1.lt hq.out.1))
        have hz := Nat.le_trans HW.out.size hq.out.1
        have HB := hid (Sc.on HB.out hb)
        have HW := hid (HW.out.trans (hb.mono HW.out.size))
        have FD := hid (And.intro (FD.out.1.on hb) FD.out.2)
        have HCP := hid (And.intro hq.out.2.1 hq.out.2.2.1)
        have FP := hid (And.intro hq.out.2.2.2.1 hz)
        clear hq hb hz
        refine Goes.two (i := 5) (j := 13) (o := ⟨some 9, _, _, _, _, _⟩) (p := ⟨some 3, _, _, _, _, _⟩) (by as_aux_lemma => kernel_rfl) rfl rfl (fun K hK => ?_) (fun K hK => ?_)
        · skip
          obtain ⟨w1_17, hrun, HBK, HGW⟩ := conv_gr gd1 4 _ rfl FD.out.1
          rw [if_pos (by rfl)]
          refine wp_convert (.tmp 8) rfl _ rfl _ _ hrun.out ?_
          have HB := hid (Sc.grown HB.out HGW.out (Nat.ne_of_lt (Nat.lt_of_lt_of_le HGL.out FD.out.2)))
          have HW := hid (below_gr HW.out HGW.out FD.out.2)
          refine hK.out _ _ HB.out ?_
          clear hK K
          try simp only [putz]
          have FP := hid (And.intro (FP.out.1.grown HGW.out (Ngd1_gp16.out.symm)) FP.out.2)
          have FD := hid (And.intro HBK.out FD.out.2)
          clear HBK HGW hrun
          refine Goes.two (i := 11) (j := 13) (o := ⟨some 15, _, _, _, _, _⟩) (p := ⟨some 3, _, _, _, _, _⟩) (by as_aux_lemma => kernel_rfl) rfl rfl (fun K hK => ?_) (fun K hK => ?_)
          · skip
            go_simp
            have hb := (Below.refl w1_17.heap.size w1_17).alloc (Nat.le_refl _) (.cells #[.slice (some ⟨gd1, 0, none⟩) 4 4, .slice (some ⟨gp16, 0, none⟩) 8 cp] 47)
            have hh := Blk.new w1_17 #[.slice (some ⟨gd1, 0, none⟩) 4 4, .slice (some ⟨gp16, 0, none⟩) 8 cp] 47
            have hz := HW.out.size
            refine hK.out _ _ (Sc.on HB.out hb) ?_
            clear hK K
            try simp only [putz]
            have Ngd1_gb18 := hid (Nat.ne_of_lt FD.out.1.lt)
            have Ngp16_gb18 := hid (Nat.ne_of_lt FP.out.1.lt)
            have HB := hid (Sc.on HB.out hb)
            have HW := hid (HW.out.trans (hb.mono HW.out.size))
            have FD := hid (And.intro (FD.out.1.on hb) FD.out.2)
            have FP := hid (And.intro (FP.out.1.on hb) FP.out.2)
            generalize w1_17.alloc (.cells #[.slice (some ⟨gd1, 0, none⟩) 4 4, .slice (some ⟨gp16, 0, none⟩) 8 cp] 47) = w1_18 at *
            generalize w1_17.heap.size = gb18 at *
            have F2 := hid (And.intro hh hz)
            clear hb hh hz
            refine Goes.two (i := 12) (j := 13) (o := ⟨some 16, _, _, _, _, _⟩) (p := ⟨some 3, _, _, _, _, _⟩) (by as_aux_lemma => kernel_rfl) rfl rfl (fun K hK => ?_) (fun K hK => ?_)
            · skip
              go_simp
              have hrr := rwb2 F2.out.1 (rd_blk drawT FD.out.1 draw_cells) rfl (Nat.le_refl 4) (by decide) (fun h => by cases h) FP.out.1.1 (be_length n 8) HCP.out.1 HCP.out.2 (fun h => by cases h)
              refine (rof_any (some ⟨g, 0, none⟩) 32 bs 32 (some ⟨gb18, 0, none⟩) 2 2 _ _ _ _ w1_18 HL.out (Sc.rd HB.out) (by decide) (fun h => by cases h) (by decide) hrr (by decide) (fun r hr => by split <;> decide)).mono ?_
              rintro e w1_19 ⟨rfl, hb⟩
              rw [cat2]
              go_wp2_with fail
              refine hK.out _ _ (Sc.on HB.out hb) ?_
              clear hK K
              try simp only [putz]
              clear hrr
              have HB := hid (Sc.on HB.out hb)
              have HW := hid (HW.out.trans (hb.mono HW.out.size))
              have FD := hid (And.intro (FD.out.1.on hb) FD.out.2)
              have FP := hid (And.intro (FP.out.1.on hb) FP.out.2)
              have F2 := hid (And.intro (F2.out.1.on hb) F2.out.2)
              clear hb
              refine Goes.one (i := 13) (o := ⟨some 3, _, _, _, _, _⟩) (by as_aux_lemma => kernel_rfl) rfl (fun K hK => ?_)
              go_simp
              rw [← lit32]
              have hb := (Below.refl w1_19.heap.size w1_19).alloc (Nat.le_refl _) (.cells (bvs (List.replicate 32 0)).toArray 23)
              have hh := heap_alloc_new w1_19 (.cells (bvs (List.replicate 32 0)).toArray 23)
              have hz := HW.out.size
              refine hK.out _ _ (Sc.on HB.out hb) ?_
              clear hK K
              try simp only [putz]
              have Ngd1_gz20 := hid (Nat.ne_of_lt FD.out.1.lt)
              have Ngp16_gz20 := hid (Nat.ne_of_lt FP.out.1.lt)
              have Ngb18_gz20 := hid (Nat.ne_of_lt F2.out.1.lt)
              have HB := hid (Sc.on HB.out hb)
              have HW := hid (HW.out.trans (hb.mono HW.out.size))
              have FD := hid (And.intro (FD.out.1.on hb) FD.out.2)
              have FP := hid (And.intro (FP.out.1.on hb) FP.out.2)
              have F2 := hid (And.intro (F2.out.1.on hb) F2.out.2)
              generalize w1_19.alloc (.cells (bvs (List.replicate 32 0)).toArray 23) = w1_20 at *
              generalize w1_19.heap.size = gz20 at *
              have FZ := hid (And.intro (show Bt w1_20 gz20 23 _ from hh) hz)
              clear hb hh hz
              refine Goes.one (i := 14) (o := ⟨none, _, _, _, _, _⟩) (by as_aux_lemma => kernel_rfl) rfl (fun K hK => ?_)
              rw [if_pos (by rfl)]
              have hz := FZ.out.1
              unfold Bt at hz
              rw [KE.out]
              refine wp_store_row 23 (.tmp 3) (.tmp 16) (by rfl) gz20 (bvs kk).toArray (by rfl) (by rfl) 23 _ hz (hi44 kk KL.out).out (hsz _ kk (by rw [KL.out, List.length_replicate])).out (bvs_all kk) ?_
              have HWR := below_setRow HW.out FZ.out.2 (bvs kk).toArray
              have HT := hid (FZ.out.1.row (m := kk))
              refine hK.out _ _ (st_row HB.out (Nat.ne_of_lt (Nat.lt_of_lt_of_le HGL.out FZ.out.2)) (bvs kk).toArray) ?_
              clear hK K
              try simp only [putz]
              refine Goes.done (by as_aux_lemma => kernel_rfl) ?_ _
              refine NoPanic.normal ?_
              go_wp2
              go_meet
              exact ⟨_, rfl, hid ⟨HWR, FZ.out.2, HT.out⟩⟩
            · skip
              go_simp
              rw [← lit32]
              have hb := (Below.refl w1_18.heap.size w1_18).alloc (Nat.le_refl _) (.cells (bvs (List.replicate 32 0)).toArray 23)
              have hh := heap_alloc_new w1_18 (.cells (bvs (List.replicate 32 0)).toArray 23)
              have hz := HW.out.size
              refine hK.out _ _ (Sc.on HB.out hb) ?_
              clear hK K
              try simp only [putz]
              have Ngd1_gz21 := hid (Nat.ne_of_lt FD.out.1.lt)
              have Ngp16_gz21 := hid (Nat.ne_of_lt FP.out.1.lt)
              have Ngb18_gz21 := hid (Nat.ne_of_lt F2.out.1.lt)
              have HB := hid (Sc.on HB.out hb)
              have HW := hid (HW.out.trans (hb.mono HW.out.size))
              have FD := hid (And.intro (FD.out.1.on hb) FD.out.2)
              have FP := hid (And.intro (FP.out.1.on hb) FP.out.2)
              have F2 := hid (And.intro (F2.out.1.on hb) F2.out.2)
              generalize w1_18.alloc (.cells (bvs (List.replicate 32 0)).toArray 23) = w1_21 at *
              generalize w1_18.heap.size = gz21 at *
              have FZ := hid (And.intro (show Bt w1_21 gz21 23 _ from hh) hz)
              clear hb hh hz
              refine Goes.one (i := 12) (o := ⟨some 16, _, _, _, _, _⟩) (by as_aux_lemma => kernel_rfl) rfl (fun K hK => ?_)
              go_simp
              have hrr := rwb2 F2.out.1 (rd_blk drawT FD.out.1 draw_cells) rfl (Nat.le_refl 4) (by decide) (fun h => by cases h) FP.out.1.1 (be_length n 8) HCP.out.1 HCP.out.2 (fun h => by cases h)
              refine (rof_any (some ⟨g, 0, none⟩) 32 bs 32 (some ⟨gb18, 0, none⟩) 2 2 _ _ _ _ w1_21 HL.out (Sc.rd HB.out) (by decide) (fun h => by cases h) (by decide) hrr (by decide) (fun r hr => by split <;> decide)).mono ?_
              rintro e w1_22 ⟨rfl, hb⟩
              rw [cat2]
              go_wp2_with fail
              refine hK.out _ _ (Sc.on HB.out hb) ?_
              clear hK K
              try simp only [putz]
              clear hrr
              have HB := hid (Sc.on HB.out hb)
              have HW := hid (HW.out.trans (hb.mono HW.out.size))
              have FD := hid (And.intro (FD.out.1.on hb) FD.out.2)
              have FP := hid (And.intro (FP.out.1.on hb) FP.out.2)
              have F2 := hid (And.intro (F2.out.1.on hb) F2.out.2)
              have FZ := hid (And.intro (FZ.out.1.on hb) FZ.out.2)
              clear hb
              refine Goes.one (i := 14) (o := ⟨none, _, _, _, _, _⟩) (by as_aux_lemma => kernel_rfl) rfl (fun K hK => ?_)
              rw [if_pos (by rfl)]
              have hz := FZ.out.1
              unfold Bt at hz
              rw [KE.out]
              refine wp_store_row 23 (.tmp 3) (.tmp 16) (by rfl) gz21 (bvs kk).toArray (by rfl) (by rfl) 23 _ hz (hi44 kk KL.out).out (hsz _ kk (by rw [KL.out, List.length_replicate])).out (bvs_all kk) ?_
              have HWR := below_setRow HW.out FZ.out.2 (bvs kk).toArray
              have HT := hid (FZ.out.1.row (m := kk))
              refine hK.out _ _ (st_row HB.out (Nat.ne_of_lt (Nat.lt_of_lt_of_le HGL.out FZ.out.2)) (bvs kk).toArray) ?_
              clear hK K
              try simp only [putz]
              refine Goes.done (by as_aux_lemma => kernel_rfl) ?_ _
              refine NoPanic.normal ?_
              go_wp2
              go_meet
              exact ⟨_, rfl, hid ⟨HWR, FZ.out.2, HT.out⟩⟩
          · skip
            go_simp
            rw [← lit32]
            have hb := (Below.refl w1_17.heap.size w1_17).alloc (Nat.le_refl _) (.cells (bvs (List.replicate 32 0)).toArray 23)
            have hh := heap_alloc_new w1_17 (.cells (bvs (List.replicate 32 0)).toArray 23)
            have hz := HW.out.size
            refine hK.out _ _ (Sc.on HB.out hb) ?_
            clear hK K
            try simp only [putz]
            have Ngd1_gz23 := hid (Nat.ne_of_lt FD.out.1.lt)
            have Ngp16_gz23 := hid (Nat.ne_of_lt FP.out.1.lt)
            have HB := hid (Sc.on HB.out hb)
            have HW := hid (HW.out.trans (hb.mono HW.out.size))
            have FD := hid (And.intro (FD.out.1.on hb) FD.out.2)
            have FP := hid (And.intro (FP.out.1.on hb) FP.out.2)
            generalize w1_17.alloc (.cells (bvs (List.replicate 32 0)).toArray 23) = w1_23 at *
            generalize w1_17.heap.size = gz23 at *
            have FZ := hid (And.intro (show Bt w1_23 gz23 23 _ from hh) hz)
            clear hb hh hz
            refine Goes.one (i := 11) (o := ⟨some 15, _, _, _, _, _⟩) (by as_aux_lemma => kernel_rfl) rfl (fun K hK => ?_)
            go_simp
            have hb := (Below.refl w1_23.heap.size w1_23).alloc (Nat.le_refl _) (.cells #[.slice (some ⟨gd1, 0, none⟩) 4 4, .slice (some ⟨gp16, 0, none⟩) 8 cp] 47)
            have hh := Blk.new w1_23 #[.slice (some ⟨gd1, 0, none⟩) 4 4, .slice (some ⟨gp16, 0, none⟩) 8 cp] 47
            have hz := HW.out.size
            refine hK.out _ _ (Sc.on HB.out hb) ?_
            clear hK K
            try simp only [putz]
            have Ngd1_gb24 := hid (Nat.ne_of_lt FD.out.1.lt)
            have Ngp16_gb24 := hid (Nat.ne_of_lt FP.out.1.lt)
            have Ngz23_gb24 := hid (Nat.ne_of_lt FZ.out.1.lt)
            have HB := hid (Sc.on HB.out hb)
            have HW := hid (HW.out.trans (hb.mono HW.out.size))
            have FD := hid (And.intro (FD.out.1.on hb) FD.out.2)
            have FP := hid (And.intro (FP.out.1.on hb) FP.out.2)
            have FZ := hid (And.intro (FZ.out.1.on hb) FZ.out.2)
            generalize w1_23.alloc (.cells #[.slice (some ⟨gd1, 0, none⟩) 4 4, .slice (some ⟨gp16, 0, none⟩) 8 cp] 47) = w1_24 at *
            generalize w1_23.heap.size = gb24 at *
            have F2 := hid (And.intro hh hz)
            clear hb hh hz
            refine Goes.one (i := 12) (o := ⟨some 16, _, _, _, _, _⟩) (by as_aux_lemma => kernel_rfl) rfl (fun K hK => ?_)
            go_simp
            have hrr := rwb2 F2.out.1 (rd_blk drawT FD.out.1 draw_cells) rfl (Nat.le_refl 4) (by decide) (fun h => by cases h) FP.out.1.1 (be_length n 8) HCP.out.1 HCP.out.2 (fun h => by cases h)
            refine (rof_any (some ⟨g, 0, none⟩) 32 bs 32 (some ⟨gb24, 0, none⟩) 2 2 _ _ _ _ w1_24 HL.out (Sc.rd HB.out) (by decide) (fun h => by cases h) (by decide) hrr (by decide) (fun r hr => by split <;> decide)).mono ?_
            rintro e w1_25 ⟨rfl, hb⟩
            rw [cat2]
            go_wp2_with fail
            refine hK.out _ _ (Sc.on HB.out hb) ?_
            clear hK K
            try simp only [putz]
            clear hrr
            have HB := hid (Sc.on HB.out hb)
            have HW := hid (HW.out.trans (hb.mono HW.out.size))
            have FD := hid (And.intro (FD.out.1.on hb) FD.out.2)
            have FP := hid (And.intro (FP.out.1.on hb) FP.out.2)
            have FZ := hid (And.intro (FZ.out.1.on hb) FZ.out.2)
            have F2 := hid (And.intro (F2.out.1.on hb) F2.out.2)
            clear hb
            refine Goes.one (i := 14) (o := ⟨none, _, _, _, _, _⟩) (by as_aux_lemma => kernel_rfl) rfl (fun K hK => ?_)
            rw [if_pos (by rfl)]
            have hz := FZ.out.1
            unfold Bt at hz
            rw [KE.out]
            refine wp_store_row 23 (.tmp 3) (.tmp 16) (by rfl) gz23 (bvs kk).toArray (by rfl) (by rfl) 23 _ hz (hi44 kk KL.out).out (hsz _ kk (by rw [KL.out, List.length_replicate])).out (bvs_all kk) ?_
            have HWR := below_setRow HW.out FZ.out.2 (bvs kk).toArray
            have HT := hid (FZ.out.1.row (m := kk))
            refine hK.out _ _ (st_row HB.out (Nat.ne_of_lt (Nat.lt_of_lt_of_le HGL.out FZ.out.2)) (bvs kk).toArray) ?_
            clear hK K
            try simp only [putz]
            refine Goes.done (by as_aux_lemma => kernel_rfl) ?_ _
            refine NoPanic.normal ?_
            go_wp2
            go_meet
            exact ⟨_, rfl, hid ⟨HWR, FZ.out.2, HT.out⟩⟩
        · skip
          go_simp
          rw [← lit32]
          have hb := (Below.refl w1_16.heap.size w1_16).alloc (Nat.le_refl _) (.cells (bvs (List.replicate 32 0)).toArray 23)
          have hh := heap_alloc_new w1_16 (.cells (bvs (List.replicate 32 0)).toArray 23)
          have hz := HW.out.size
          refine hK.out _ _ (Sc.on HB.out hb) ?_
          clear hK K
          try simp only [putz]
          have Ngd1_gz26 := hid (Nat.ne_of_lt FD.out.1.lt)
          have Ngp16_gz26 := hid (Nat.ne_of_lt FP.out.1.lt)
          have HB := hid (Sc.on HB.out hb)
          have HW := hid (HW.out.trans (hb.mono HW.out.size))
          have FD := hid (And.intro (FD.out.1.on hb) FD.out.2)
          have FP := hid (And.intro (FP.out.1.on hb) FP.out.2)
          generalize w1_16.alloc (.cells (bvs (List.replicate 32 0)).toArray 23) = w1_26 at *
          generalize w1_16.heap.size = gz26 at *
          have FZ := hid (And.intro (show Bt w1_26 gz26 23 _ from hh) hz)
          clear hb hh hz
          refine Goes.one (i := 5) (o := ⟨some 9, _, _, _, _, _⟩) (by as_aux_lemma => kernel_rfl) rfl (fun K hK => ?_)
          obtain ⟨w1_27, hrun, HBK, HGW⟩ := conv_gr gd1 4 _ rfl FD.out.1
          rw [if_pos (by rfl)]
          refine wp_convert (.tmp 8) rfl _ rfl _ _ hrun.out ?_
          have HB := hid (Sc.grown HB.out HGW.out (Nat.ne_of_lt (Nat.lt_of_lt_of_le HGL.out FD.out.2)))
          have HW := hid (below_gr HW.out HGW.out FD.out.2)
          refine hK.out _ _ HB.out ?_
          clear hK K
          try simp only [putz]
          have FP := hid (And.intro (FP.out.1.grown HGW.out (Ngd1_gp16.out.symm)) FP.out.2)
          have FZ := hid (And.intro (FZ.out.1.grown HGW.out (Ngd1_gz26.out.symm)) FZ.out.2)
          have FD := hid (And.intro HBK.out FD.out.2)
          clear HBK HGW hrun
          refine Goes.one (i := 11) (o := ⟨some 15, _, _, _, _, _⟩) (by as_aux_lemma => kernel_rfl) rfl (fun K hK => ?_)
          go_simp
          have hb := (Below.refl w1_27.heap.size w1_27).alloc (Nat.le_refl _) (.cells #[.slice (some ⟨gd1, 0, none⟩) 4 4, .slice (some ⟨gp16, 0, none⟩) 8 cp] 47)
          have hh := Blk.new w1_27 #[.slice (some ⟨gd1, 0, none⟩) 4 4, .slice (some ⟨gp16, 0, none⟩) 8 cp] 47
          have hz := HW.out.size
          refine hK.out _ _ (Sc.on HB.out hb) ?_
          clear hK K
          try simp only [putz]
          have Ngd1_gb28 := hid (Nat.ne_of_lt FD.out.1.lt)
          have Ngp16_gb28 := hid (Nat.ne_of_lt FP.out.1.lt)
          have Ngz26_gb28 := hid (Nat.ne_of_lt FZ.out.1.lt)
          have HB := hid (Sc.on HB.out hb)
          have HW := hid (HW.out.trans (hb.mono HW.out.size))
          have FD := hid (And.intro (FD.out.1.on hb) FD.out.2)
          have FP := hid (And.intro (FP.out.1.on hb) FP.out.2)
          have FZ := hid (And.intro (FZ.out.1.on hb) FZ.out.2)
          generalize w1_27.alloc (.cells #[.slice (some ⟨gd1, 0, none⟩) 4 4, .slice (some ⟨gp16, 0, none⟩) 8 cp] 47) = w1_28 at *
          generalize w1_27.heap.size = gb28 at *
          have F2 := hid (And.intro hh hz)
          clear hb hh hz
          refine Goes.one (i := 12) (o := ⟨some 16, _, _, _, _, _⟩) (by as_aux_lemma => kernel_rfl) rfl (fun K hK => ?_)
          go_simp
          have hrr := rwb2 F2.out.1 (rd_blk drawT FD.out.1 draw_cells) rfl (Nat.le_refl 4) (by decide) (fun h => by cases h) FP.out.1.1 (be_length n 8) HCP.out.1 HCP.out.2 (fun h => by cases h)
          refine (rof_any (some ⟨g, 0, none⟩) 32 bs 32 (some ⟨gb28, 0, none⟩) 2 2 _ _ _ _ w1_28 HL.out (Sc.rd HB.out) (by decide) (fun h => by cases h) (by decide) hrr (by decide) (fun r hr => by split <;> decide)).mono ?_
          rintro e w1_29 ⟨rfl, hb⟩
          rw [cat2]
          go_wp2_with fail
          refine hK.out _ _ (Sc.on HB.out hb) ?_
          clear hK K
          try simp only [putz]
          clear hrr
          have HB := hid (Sc.on HB.out hb)
          have HW := hid (HW.out.trans (hb.mono HW.out.size))
          have FD := hid (And.intro (FD.out.1.on hb) FD.out.2)
          have FP := hid (And.intro (FP.out.1.on hb) FP.out.2)
          have FZ := hid (And.intro (FZ.out.1.on hb) FZ.out.2)
          have F2 := hid (And.intro (F2.out.1.on hb) F2.out.2)
          clear hb
          refine Goes.one (i := 14) (o := ⟨none, _, _, _, _, _⟩) (by as_aux_lemma => kernel_rfl) rfl (fun K hK => ?_)
          rw [if_pos (by rfl)]
          have hz := FZ.out.1
          unfold Bt at hz
          rw [KE.out]
          refine wp_store_row 23 (.tmp 3) (.tmp 16) (by rfl) gz26 (bvs kk).toArray (by rfl) (by rfl) 23 _ hz (hi44 kk KL.out).out (hsz _ kk (by rw [KL.out, List.length_replicate])).out (bvs_all kk) ?_
          have HWR := below_setRow HW.out FZ.out.2 (bvs kk).toArray
          have HT := hid (FZ.out.1.row (m := kk))
          refine hK.out _ _ (st_row HB.out (Nat.ne_of_lt (Nat.lt_of_lt_of_le HGL.out FZ.out.2)) (bvs kk).toArray) ?_
          clear hK K
          try simp only [putz]
          refine Goes.done (by as_aux_lemma => kernel_rfl) ?_ _
          refine NoPanic.normal ?_
          go_wp2
          go_meet
          exact ⟨_, rfl, hid ⟨HWR, FZ.out.2, HT.out⟩⟩
      · skip
        go_simp
        rw [← lit32]
        have hb := (Below.refl w1_1.heap.size w1_1).alloc (Nat.le_refl _) (.cells (bvs (List.replicate 32 0)).toArray 23)
        have hh := heap_alloc_new w1_1 (.cells (bvs (List.replicate 32 0)).toArray 23)
        have hz := HW.out.size
        refine hK.out _ _ (Sc.on HB.out hb) ?_
        clear hK K
        try simp only [putz]
        have Ngd1_gz30 := hid (Nat.ne_of_lt FD.out.1.lt)
        have HB := hid (Sc.on HB.out hb)
        have HW := hid (HW.out.trans (hb.mono HW.out.size))
        have FD := hid (And.intro (FD.out.1.on hb) FD.out.2)
        generalize w1_1.alloc (.cells (bvs (List.replicate 32 0)).toArray 23) = w1_30 at *
        generalize w1_1.heap.size = gz30 at *
        have FZ := hid (And.intro (show Bt w1_30 gz30 23 _ from hh) hz)
        clear hb hh hz
        refine Goes.two (i := 5) (j := 10) (o := ⟨some 9, _, _, _, _, _⟩) (p := ⟨some 14, _, _, _, _, _⟩) (by as_aux_lemma => kernel_rfl) rfl rfl (fun K hK => ?_) (fun K hK => ?_)
        · skip
          obtain ⟨w1_31, hrun, HBK, HGW⟩ := conv_gr gd1 4 _ rfl FD.out.1
          rw [if_pos (by rfl)]
          refine wp_convert (.tmp 8) rfl _ rfl _ _ hrun.out ?_
          have HB := hid (Sc.grown HB.out HGW.out (Nat.ne_of_lt (Nat.lt_of_lt_of_le HGL.out FD.out.2)))
          have HW := hid (below_gr HW.out HGW.out FD.out.2)
          refine hK.out _ _ HB.out ?_
          clear hK K
          try simp only [putz]
          have FZ := hid (And.intro (FZ.out.1.grown HGW.out (Ngd1_gz30.out.symm)) FZ.out.2)
          have FD := hid (And.intro HBK.out FD.out.2)
          clear HBK HGW hrun
          refine Goes.one (i := 10) (o := ⟨some 14, _, _, _, _, _⟩) (by as_aux_lemma => kernel_rfl) rfl (fun K hK => ?_)
          go_simp
          refine (rput8 n w1_31 HN.out).mono ?_
          rintro e w1_32 ⟨gp32, cp, rfl, hq⟩
          have hb := hq.out.2.2.2.2
          go_wp2_with fail
          refine hK.out _ _ (Sc.on HB.out hb) ?_
          clear hK K
          try simp only [putz]
          have Ngd1_gp32 := hid (Nat.ne_of_lt (Nat.lt_of_lt_of_le FD.out.1.lt hq.out.1))
          have Ngz30_gp32 := hid (Nat.ne_of_lt (Nat.lt_of_lt_of_le FZ.out.1.lt hq.out.1))
          have hz := Nat.le_trans HW.out.size hq.out.1
          have HB := hid (Sc.on HB.out hb)
          have HW := hid (HW.out.trans (hb.mono HW.out.size))
          have FD := hid (And.intro (FD.out.1.on hb) FD.out.2)
          have FZ := hid (And.intro (FZ.out.1.on hb) FZ.out.2)
          have HCP := hid (And.intro hq.out.2.1 hq.out.2.2.1)
          have FP := hid (And.intro hq.out.2.2.2.1 hz)
          clear hq hb hz
          refine Goes.one (i := 11) (o := ⟨some 15, _, _, _, _, _⟩) (by as_aux_lemma => kernel_rfl) rfl (fun K hK => ?_)
          go_simp
          have hb := (Below.refl w1_32.heap.size w1_32).alloc (Nat.le_refl _) (.cells #[.slice (some ⟨gd1, 0, none⟩) 4 4, .slice (some ⟨gp32, 0, none⟩) 8 cp] 47)
          have hh := Blk.new w1_32 #[.slice (some ⟨gd1, 0, none⟩) 4 4, .slice (some ⟨gp32, 0, none⟩) 8 cp] 47
          have hz := HW.out.size
          refine hK.out _ _ (Sc.on HB.out hb) ?_
          clear hK K
          try simp only [putz]
          have Ngd1_gb33 := hid (Nat.ne_of_lt FD.out.1.lt)
          have Ngz30_gb33 := hid (Nat.ne_of_lt FZ.out.1.lt)
          have Ngp32_gb33 := hid (Nat.ne_of_lt FP.out.1.lt)
          have HB := hid (Sc.on HB.out hb)
          have HW := hid (HW.out.trans (hb.mono HW.out.size))
          have FD := hid (And.intro (FD.out.1.on hb) FD.out.2)
          have FZ := hid (And.intro (FZ.out.1.on hb) FZ.out.2)
          have FP := hid (And.intro (FP.out.1.on hb) FP.out.2)
          generalize w1_32.alloc (.cells #[.slice (some ⟨gd1, 0, none⟩) 4 4, .slice (some ⟨gp32, 0, none⟩) 8 cp] 47) = w1_33 at *
          generalize w1_32.heap.size = gb33 at *
          have F2 := hid (And.intro hh hz)
          clear hb hh hz
          refine Goes.one (i := 12) (o := ⟨some 16, _, _, _, _, _⟩) (by as_aux_lemma => kernel_rfl) rfl (fun K hK => ?_)
          go_simp
          have hrr := rwb2 F2.out.1 (rd_blk drawT FD.out.1 draw_cells) rfl (Nat.le_refl 4) (by decide) (fun h => by cases h) FP.out.1.1 (be_length n 8) HCP.out.1 HCP.out.2 (fun h => by cases h)
          refine (rof_any (some ⟨g, 0, none⟩) 32 bs 32 (some ⟨gb33, 0, none⟩) 2 2 _ _ _ _ w1_33 HL.out (Sc.rd HB.out) (by decide) (fun h => by cases h) (by decide) hrr (by decide) (fun r hr => by split <;> decide)).mono ?_
          rintro e w1_34 ⟨rfl, hb⟩
          rw [cat2]
          go_wp2_with fail
          refine hK.out _ _ (Sc.on HB.out hb) ?_
          clear hK K
          try simp only [putz]
          clear hrr
          have HB := hid (Sc.on HB.out hb)
          have HW := hid (HW.out.trans (hb.mono HW.out.size))
          have FD := hid (And.intro (FD.out.1.on hb) FD.out.2)
          have FZ := hid (And.intro (FZ.out.1.on hb) FZ.out.2)
          have FP := hid (And.intro (FP.out.1.on hb) FP.out.2)
          have F2 := hid (And.intro (F2.out.1.on hb) F2.out.2)
          clear hb
          refine Goes.one (i := 14) (o := ⟨none, _, _, _, _, _⟩) (by as_aux_lemma => kernel_rfl) rfl (fun K hK => ?_)
          rw [if_pos (by rfl)]
          have hz := FZ.out.1
          unfold Bt at hz
          rw [KE.out]
          refine wp_store_row 23 (.tmp 3) (.tmp 16) (by rfl) gz30 (bvs kk).toArray (by rfl) (by rfl) 23 _ hz (hi44 kk KL.out).out (hsz _ kk (by rw [KL.out, List.length_replicate])).out (bvs_all kk) ?_
          have HWR := below_setRow HW.out FZ.out.2 (bvs kk).toArray
          have HT := hid (FZ.out.1.row (m := kk))
          refine hK.out _ _ (st_row HB.out (Nat.ne_of_lt (Nat.lt_of_lt_of_le HGL.out FZ.out.2)) (bvs kk).toArray) ?_
          clear hK K
          try simp only [putz]
          refine Goes.done (by as_aux_lemma => kernel_rfl) ?_ _
          refine NoPanic.normal ?_
          go_wp2
          go_meet
          exact ⟨_, rfl, hid ⟨HWR, FZ.out.2, HT.out⟩⟩
        · skip
          go_simp
          refine (rput8 n w1_30 HN.out).mono ?_
          rintro e w1_35 ⟨gp35, cp, rfl, hq⟩
          have hb := hq.out.2.2.2.2
          go_wp2_with fail
          refine hK.out _ _ (Sc.on HB.out hb) ?_
          clear hK K
          try simp only [putz]
          have Ngd1_gp35 := hid (Nat.ne_of_lt (Nat.lt_of_lt_of_le FD.out.1.lt hq.out.1))
          have Ngz30_gp35 := hid (Nat.ne_of_lt (Nat.lt_of_lt_of_le FZ.out.1.lt hq.out.1))
          have hz := Nat.le_trans HW.out.size hq.out.1
          have HB := hid (Sc.on HB.out hb)
          have HW := hid (HW.out.trans (hb.mono HW.out.size))
          have FD := hid (And.intro (FD.out.1.on hb) FD.out.2)
          have FZ := hid (And.intro (FZ.out.1.on hb) FZ.out.2)
          have HCP := hid (And.intro hq.out.2.1 hq.out.2.2.1)
          have FP := hid (And.intro hq.out.2.2.2.1 hz)
          clear hq hb hz
          refine Goes.one (i := 5) (o := ⟨some 9, _, _, _, _, _⟩) (by as_aux_lemma => kernel_rfl) rfl (fun K hK => ?_)
          obtain ⟨w1_36, hrun, HBK, HGW⟩ := conv_gr gd1 4 _ rfl FD.out.1
          rw [if_pos (by rfl)]
          refine wp_convert (.tmp 8) rfl _ rfl _ _ hrun.out ?_
          have HB := hid (Sc.grown HB.out HGW.out (Nat.ne_of_lt (Nat.lt_of_lt_of_le HGL.out FD.out.2)))
          have HW := hid (below_gr HW.out HGW.out FD.out.2)
          refine hK.out _ _ HB.out ?_
          clear hK K
          try simp only [putz]
          have FZ := hid (And.intro (FZ.out.1.grown HGW.out (Ngd1_gz30.out.symm)) FZ.out.2)
          have FP := hid (And.intro (FP.out.1.grown HGW.out (Ngd1_gp35.out.symm)) FP.out.2)
          have FD := hid (And.intro HBK.out FD.out.2)
          clear HBK HGW hrun
          refine Goes.one (i := 11) (o := ⟨some 15, _, _, _, _, _⟩) (by as_aux_lemma => kernel_rfl) rfl (fun K hK => ?_)
          go_simp
          have hb := (Below.refl w1_36.heap.size w1_36).alloc (Nat.le_refl _) (.cells #[.slice (some ⟨gd1, 0, none⟩) 4 4, .slice (some ⟨gp35, 0, none⟩) 8 cp] 47)
          have hh := Blk.new w1_36 #[.slice (some ⟨gd1, 0, none⟩) 4 4, .slice (some ⟨gp35, 0, none⟩) 8 cp] 47
          have hz := HW.out.size
          refine hK.out _ _ (Sc.on HB.out hb) ?_
          clear hK K
          try simp only [putz]
          have Ngd1_gb37 := hid (Nat.ne_of_lt FD.out.1.lt)
          have Ngz30_gb37 := hid (Nat.ne_of_lt FZ.out.1.lt)
          have Ngp35_gb37 := hid (Nat.ne_of_lt FP.out.1.lt)
          have HB := hid (Sc.on HB.out hb)
          have HW := hid (HW.out.trans (hb.mono HW.out.size))
          have FD := hid (And.intro (FD.out.1.on hb) FD.out.2)
          have FZ := hid (And.intro (FZ.out.1.on hb) FZ.out.2)
          have FP := hid (And.intro (FP.out.1.on hb) FP.out.2)
          generalize w1_36.alloc (.cells #[.slice (some ⟨gd1, 0, none⟩) 4 4, .slice (some ⟨gp35, 0, none⟩) 8 cp] 47) = w1_37 at *
          generalize w1_36.heap.size = gb37 at *
          have F2 := hid (And.intro hh hz)
          clear hb hh hz
          refine Goes.one (i := 12) (o := ⟨some 16, _, _, _, _, _⟩) (by as_aux_lemma => kernel_rfl) rfl (fun K hK => ?_)
          go_simp
          have hrr := rwb2 F2.out.1 (rd_blk drawT FD.out.1 draw_cells) rfl (Nat.le_refl 4) (by decide) (fun h => by cases h) FP.out.1.1 (be_length n 8) HCP.out.1 HCP.out.2 (fun h => by cases h)
          refine (rof_any (some ⟨g, 0, none⟩) 32 bs 32 (some ⟨gb37, 0, none⟩) 2 2 _ _ _ _ w1_37 HL.out (Sc.rd HB.out) (by decide) (fun h => by cases h) (by decide) hrr (by decide) (fun r hr => by split <;> decide)).mono ?_
          rintro e w1_38 ⟨rfl, hb⟩
          rw [cat2]
          go_wp2_with fail
          refine hK.out _ _ (Sc.on HB.out hb) ?_
          clear hK K
          try simp only [putz]
          clear hrr
          have HB := hid (Sc.on HB.out hb)
          have HW := hid (HW.out.trans (hb.mono HW.out.size))
          have FD := hid (And.intro (FD.out.1.on hb) FD.out.2)
          have FZ := hid (And.intro (FZ.out.1.on hb) FZ.out.2)
          have FP := hid (And.intro (FP.out.1.on hb) FP.out.2)
          have F2 := hid (And.intro (F2.out.1.on hb) F2.out.2)
          clear hb
          refine Goes.one (i := 14) (o := ⟨none, _, _, _, _, _⟩) (by as_aux_lemma => kernel_rfl) rfl (fun K hK => ?_)
          rw [if_pos (by rfl)]
          have hz := FZ.out.1
          unfold Bt at hz
          rw [KE.out]
          refine wp_store_row 23 (.tmp 3) (.tmp 16) (by rfl) gz30 (bvs kk).toArray (by rfl) (by rfl) 23 _ hz (hi44 kk KL.out).out (hsz _ kk (by rw [KL.out, List.length_replicate])).out (bvs_all kk) ?_
          have HWR := below_setRow HW.out FZ.out.2 (bvs kk).toArray
          have HT := hid (FZ.out.1.row (m := kk))
          refine hK.out _ _ (st_row HB.out (Nat.ne_of_lt (Nat.lt_of_lt_of_le HGL.out FZ.out.2)) (bvs kk).toArray) ?_
          clear hK K
          try simp only [putz]
          refine Goes.done (by as_aux_lemma => kernel_rfl) ?_ _
          refine NoPanic.normal ?_
          go_wp2
          go_meet
          exact ⟨_, rfl, hid ⟨HWR, FZ.out.2, HT.out⟩⟩
    · skip
      go_simp
      refine (rput8 n w1d HN.out).mono ?_
      rintro e w1_39 ⟨gp39, cp, rfl, hq⟩
      have hb := hq.out.2.2.2.2
      go_wp2_with fail
      refine hK.out _ _ (Sc.on HB.out hb) ?_
      clear hK K
      try simp only [putz]
      have hz := Nat.le_trans HW.out.size hq.out.1
      have HB := hid (Sc.on HB.out hb)
      have HW := hid (HW.out.trans (hb.mono HW.out.size))
      have HCP := hid (And.intro hq.out.2.1 hq.out.2.2.1)
      have FP := hid (And.intro hq.out.2.2.2.1 hz)
      clear hq hb hz
      refine Goes.two (i := 4) (j := 13) (o := ⟨some 8, _, _, _, _, _⟩) (p := ⟨some 3, _, _, _, _, _⟩) (by as_aux_lemma => kernel_rfl) rfl rfl (fun K hK => ?_) (fun K hK => ?_)
      · skip
        go_simp
        have hb := (Below.refl w1_39.heap.size w1_39).alloc (Nat.le_refl _) (.cells #[.int .u8 100, .int .u8 114, .int .u8 97, .int .u8 119] 5)
        have hh := Blk.new w1_39 #[.int .u8 100, .int .u8 114, .int .u8 97, .int .u8 119] 5
        have hz := HW.out.size
        refine hK.out _ _ (Sc.on HB.out hb) ?_
        clear hK K
        try simp only [putz]
        have Ngp39_gd40 := hid (Nat.ne_of_lt FP.out.1.lt)
        have HB := hid (Sc.on HB.out hb)
        have HW := hid (HW.out.trans (hb.mono HW.out.size))
        have FP := hid (And.intro (FP.out.1.on hb) FP.out.2)
        generalize w1_39.alloc (.cells #[.int .u8 100, .int .u8 114, .int .u8 97, .int .u8 119] 5) = w1_40 at *
        generalize w1_39.heap.size = gd40 at *
        have FD := hid (And.intro hh hz)
        clear hb hh hz
        refine Goes.two (i := 5) (j := 13) (o := ⟨some 9, _, _, _, _, _⟩) (p := ⟨some 3, _, _, _, _, _⟩) (by as_aux_lemma => kernel_rfl) rfl rfl (fun K hK => ?_) (fun K hK => ?_)
        · skip
          obtain ⟨w1_41, hrun, HBK, HGW⟩ := conv_gr gd40 4 _ rfl FD.out.1
          rw [if_pos (by rfl)]
          refine wp_convert (.tmp 8) rfl _ rfl _ _ hrun.out ?_
          have HB := hid (Sc.grown HB.out HGW.out (Nat.ne_of_lt (Nat.lt_of_lt_of_le HGL.out FD.out.2)))
          have HW := hid (below_gr HW.out HGW.out FD.out.2)
          refine hK.out _ _ HB.out ?_
          clear hK K
          try simp only [putz]
          have FP := hid (And.intro (FP.out.1.grown HGW.out (Ngp39_gd40.out)) FP.out.2)
          have FD := hid (And.intro HBK.out FD.out.2)
          clear HBK HGW hrun
          refine Goes.two (i := 11) (j := 13) (o := ⟨some 15, _, _, _, _, _⟩) (p := ⟨some 3, _, _, _, _, _⟩) (by as_aux_lemma => kernel_rfl) rfl rfl (fun K hK => ?_) (fun K hK => ?_)
          · skip
            go_simp
            have hb := (Below.refl w1_41.heap.size w1_41).alloc (Nat.le_refl _) (.cells #[.slice (some ⟨gd40, 0, none⟩) 4 4, .slice (some ⟨gp39, 0, none⟩) 8 cp] 47)
            have hh := Blk.new w1_41 #[.slice (some ⟨gd40, 0, none⟩) 4 4, .slice (some ⟨gp39, 0, none⟩) 8 cp] 47
            have hz := HW.out.size
            refine hK.out _ _ (Sc.on HB.out hb) ?_
            clear hK K
            try simp only [putz]
            have Ngp39_gb42 := hid (Nat.ne_of_lt FP.out.1.lt)
            have Ngd40_gb42 := hid (Nat.ne_of_lt FD.out.1.lt)
            have HB := hid (Sc.on HB.out hb)
            have HW := hid (HW.out.trans (hb.mono HW.out.size))
            have FP := hid (And.intro (FP.out.1.on hb) FP.out.2)
            have FD := hid (And.intro (FD.out.1.on hb) FD.out.2)
            generalize w1_41.alloc (.cells #[.slice (some ⟨gd40, 0, none⟩) 4 4, .slice (some ⟨gp39, 0, none⟩) 8 cp] 47) = w1_42 at *
            generalize w1_41.heap.size = gb42 at *
            have F2 := hid (And.intro hh hz)
            clear hb hh hz
            refine Goes.two (i := 12) (j := 13) (o := ⟨some 16, _, _, _, _, _⟩) (p := ⟨some 3, _, _, _, _, _⟩) (by as_aux_lemma => kernel_rfl) rfl rfl (fun K hK => ?_) (fun K hK => ?_)
            · skip
              go_simp
              have hrr := rwb2 F2.out.1 (rd_blk drawT FD.out.1 draw_cells) rfl (Nat.le_refl 4) (by decide) (fun h => by cases h) FP.out.1.1 (be_length n 8) HCP.out.1 HCP.out.2 (fun h => by cases h)
              refine (rof_any (some ⟨g, 0, none⟩) 32 bs 32 (some ⟨gb42, 0, none⟩) 2 2 _ _ _ _ w1_42 HL.out (Sc.rd HB.out) (by decide) (fun h => by cases h) (by decide) hrr (by decide) (fun r hr => by split <;> decide)).mono ?_
              rintro e w1_43 ⟨rfl, hb⟩
              rw [cat2]
              go_wp2_with fail
              refine hK.out _ _ (Sc.on HB.out hb) ?_
              clear hK K
              try simp only [putz]
              clear hrr
              have HB := hid (Sc.on HB.out hb)
              have HW := hid (HW.out.trans (hb.mono HW.out.size))
              have FP := hid (And.intro (FP.out.1.on hb) FP.out.2)
              have FD := hid (And.intro (FD.out.1.on hb) FD.out.2)
              have F2 := hid (And.intro (F2.out.1.on hb) F2.out.2)
              clear hb
              refine Goes.one (i := 13) (o := ⟨some 3, _, _, _, _, _⟩) (by as_aux_lemma => kernel_rfl) rfl (fun K hK => ?_)
              go_simp
              rw [← lit32]
              have hb := (Below.refl w1_43.heap.size w1_43).alloc (Nat.le_refl _) (.cells (bvs (List.replicate 32 0)).toArray 23)
              have hh := heap_alloc_new w1_43 (.cells (bvs (List.replicate 32 0)).toArray 23)
              have hz := HW.out.size
              refine hK.out _ _ (Sc.on HB.out hb) ?_
              clear hK K
              try simp only [putz]
              have Ngp39_gz44 := hid (Nat.ne_of_lt FP.out.1.lt)
              have Ngd40_gz44 := hid (Nat.ne_of_lt FD.out.1.lt)
              have Ngb42_gz44 := hid (Nat.ne_of_lt F2.out.1.lt)
              have HB := hid (Sc.on HB.out hb)
              have HW := hid (HW.out.trans (hb.mono HW.out.size))
              have FP := hid (And.intro (FP.out.1.on hb) FP.out.2)
              have FD := hid (And.intro (FD.out.1.on hb) FD.out.2)
              have F2 := hid (And.intro (F2.out.1.on hb) F2.out.2)
              generalize w1_43.alloc (.cells (bvs (List.replicate 32 0)).toArray 23) = w1_44 at *
              generalize w1_43.heap.size = gz44 at *
              have FZ := hid (And.intro (show Bt w1_44 gz44 23 _ from hh) hz)
              clear hb hh hz
              refine Goes.one (i := 14) (o := ⟨none, _, _, _, _, _⟩) (by as_aux_lemma => kernel_rfl) rfl (fun K hK => ?_)
              rw [if_pos (by rfl)]
              have hz := FZ.out.1
              unfold Bt at hz
              rw [KE.out]
              refine wp_store_row 23 (.tmp 3) (.tmp 16) (by rfl) gz44 (bvs kk).toArray (by rfl) (by rfl) 23 _ hz (hi44 kk KL.out).out (hsz _ kk (by rw [KL.out, List.length_replicate])).out (bvs_all kk) ?_
              have HWR := below_setRow HW.out FZ.out.2 (bvs kk).toArray
              have HT := hid (FZ.out.1.row (m := kk))
              refine hK.out _ _ (st_row HB.out (Nat.ne_of_lt (Nat.lt_of_lt_of_le HGL.out FZ.out.2)) (bvs kk).toArray) ?_
              clear hK K
              try simp only [putz]
              refine Goes.done (by as_aux_lemma => kernel_rfl) ?_ _
              refine NoPanic.normal ?_
              go_wp2
              go_meet
              exact ⟨_, rfl, hid ⟨HWR, FZ.out.2, HT.out⟩⟩
            · skip
              go_simp
              rw [← lit32]
              have hb := (Below.refl w1_42.heap.size w1_42).alloc (Nat.le_refl _) (.cells (bvs (List.replicate 32 0)).toArray 23)
              have hh := heap_alloc_new w1_42 (.cells (bvs (List.replicate 32 0)).toArray 23)
              have hz := HW.out.size
              refine hK.out _ _ (Sc.on HB.out hb) ?_
              clear hK K
              try simp only [putz]
              have Ngp39_gz45 := hid (Nat.ne_of_lt FP.out.1.lt)
              have Ngd40_gz45 := hid (Nat.ne_of_lt FD.out.1.lt)
              have Ngb42_gz45 := hid (Nat.ne_of_lt F2.out.1.lt)
              have HB := hid (Sc.on HB.out hb)
              have HW := hid (HW.out.trans (hb.mono HW.out.size))
              have FP := hid (And.intro (FP.out.1.on hb) FP.out.2)
              have FD := hid (And.intro (FD.out.1.on hb) FD.out.2)
              have F2 := hid (And.intro (F2.out.1.on hb) F2.out.2)
              generalize w1_42.alloc (.cells (bvs (List.replicate 32 0)).toArray 23) = w1_45 at *
              generalize w1_42.heap.size = gz45 at *
              have FZ := hid (And.intro (show Bt w1_45 gz45 23 _ from hh) hz)
              clear hb hh hz
              refine Goes.one (i := 12) (o := ⟨some 16, _, _, _, _, _⟩) (by as_aux_lemma => kernel_rfl) rfl (fun K hK => ?_)
              go_simp
              have hrr := rwb2 F2.out.1 (rd_blk drawT FD.out.1 draw_cells) rfl (Nat.le_refl 4) (by decide) (fun h => by cases h) FP.out.1.1 (be_length n 8) HCP.out.1 HCP.out.2 (fun h => by cases h)
              refine (rof_any (some ⟨g, 0, none⟩) 32 bs 32 (some ⟨gb42, 0, none⟩) 2 2 _ _ _ _ w1_45 HL.out (Sc.rd HB.out) (by decide) (fun h => by cases h) (by decide) hrr (by decide) (fun r hr => by split <;> decide)).mono ?_
              rintro e w1_46 ⟨rfl, hb⟩
              rw [cat2]
              go_wp2_with fail
              refine hK.out _ _ (Sc.on HB.out hb) ?_
              clear hK K
              try simp only [putz]
              clear hrr
              have HB := hid (Sc.on HB.out hb)
              have HW := hid (HW.out.trans (hb.mono HW.out.size))
              have FP := hid (And.intro (FP.out.1.on hb) FP.out.2)
              have FD := hid (And.intro (FD.out.1.on hb) FD.out.2)
              have F2 := hid (And.intro (F2.out.1.on hb) F2.out.2)
              have FZ := hid (And.intro (FZ.out.1.on hb) FZ.out.2)
              clear hb
              refine Goes.one (i := 14) (o := ⟨none, _, _, _, _, _⟩) (by as_aux_lemma => kernel_rfl) rfl (fun K hK => ?_)
              rw [if_pos (by rfl)]
              have hz := FZ.out.1
              unfold Bt at hz
              rw [KE.out]
              refine wp_store_row 23 (.tmp 3) (.tmp 16) (by rfl) gz45 (bvs kk).toArray (by rfl) (by rfl) 23 _ hz (hi44 kk KL.out).out (hsz _ kk (by rw [KL.out, List.length_replicate])).out (bvs_all kk) ?_
              have HWR := below_setRow HW.out FZ.out.2 (bvs kk).toArray
              have HT := hid (FZ.out.1.row (m := kk))
              refine hK.out _ _ (st_row HB.out (Nat.ne_of_lt (Nat.lt_of_lt_of_le HGL.out FZ.out.2)) (bvs kk).toArray) ?_
              clear hK K
              try simp only [putz]
              refine Goes.done (by as_aux_lemma => kernel_rfl) ?_ _
              refine NoPanic.normal ?_
              go_wp2
              go_meet
              exact ⟨_, rfl, hid ⟨HWR, FZ.out.2, HT.out⟩⟩
          · skip
            go_simp
            rw [← lit32]
            have hb := (Below.refl w1_41.heap.size w1_41).alloc (Nat.le_refl _) (.cells (bvs (List.replicate 32 0)).toArray 23)
            have hh := heap_alloc_new w1_41 (.cells (bvs (List.replicate 32 0)).toArray 23)
            have hz := HW.out.size
            refine hK.out _ _ (Sc.on HB.out hb) ?_
            clear hK K
            try simp only [putz]
            have Ngp39_gz47 := hid (Nat.ne_of_lt FP.out.1.lt)
            have Ngd40_gz47 := hid (Nat.ne_of_lt FD.out.1.lt)
            have HB := hid (Sc.on HB.out hb)
            have HW := hid (HW.out.trans (hb.mono HW.out.size))
            have FP := hid (And.intro (FP.out.1.on hb) FP.out.2)
            have FD := hid (And.intro (FD.out.1.on hb) FD.out.2)
            generalize w1_41.alloc (.cells (bvs (List.replicate 32 0)).toArray 23) = w1_47 at *
            generalize w1_41.heap.size = gz47 at *
            have FZ := hid (And.intro (show Bt w1_47 gz47 23 _ from hh) hz)
            clear hb hh hz
            refine Goes.one (i := 11) (o := ⟨some 15, _, _, _, _, _⟩) (by as_aux_lemma => kernel_rfl) rfl (fun K hK => ?_)
            go_simp
            have hb := (Below.refl w1_47.heap.size w1_47).alloc (Nat.le_refl _) (.cells #[.slice (some ⟨gd40, 0, none⟩) 4 4, .slice (some ⟨gp39, 0, none⟩) 8 cp] 47)
            have hh := Blk.new w1_47 #[.slice (some ⟨gd40, 0, none⟩) 4 4, .slice (some ⟨gp39, 0, none⟩) 8 cp] 47
            have hz := HW.out.size
            refine hK.out _ _ (Sc.on HB.out hb) ?_
            clear hK K
            try simp only [putz]
            have Ngp39_gb48 := hid (Nat.ne_of_lt FP.out.1.lt)
            have Ngd40_gb48 := hid (Nat.ne_of_lt FD.out.1.lt)
            have Ngz47_gb48 := hid (Nat.ne_of_lt FZ.out.1.lt)
            have HB := hid (Sc.on HB.out hb)
            have HW := hid (HW.out.trans (hb.mono HW.out.size))
            have FP := hid (And.intro (FP.out.1.on hb) FP.out.2)
            have FD := hid (And.intro (FD.out.1.on hb) FD.out.2)
            have FZ := hid (And.intro (FZ.out.1.on hb) FZ.out.2)
            generalize w1_47.alloc (.cells #[.slice (some ⟨gd40, 0, none⟩) 4 4, .slice (some ⟨gp39, 0, none⟩) 8 cp] 47) = w1_48 at *
            generalize w1_47.heap.size = gb48 at *
            have F2 := hid (And.intro hh hz)
            clear hb hh hz
            refine Goes.one (i := 12) (o := ⟨some 16, _, _, _, _, _⟩) (by as_aux_lemma => kernel_rfl) rfl (fun K hK => ?_)
            go_simp
            have hrr := rwb2 F2.out.1 (rd_blk drawT FD.out.1 draw_cells) rfl (Nat.le_refl 4) (by decide) (fun h => by cases h) FP.out.1.1 (be_length n 8) HCP.out.1 HCP.out.2 (fun h => by cases h)
            refine (rof_any (some ⟨g, 0, none⟩) 32 bs 32 (some ⟨gb48, 0, none⟩) 2 2 _ _ _ _ w1_48 HL.out (Sc.rd HB.out) (by decide) (fun h => by cases h) (by decide) hrr (by decide) (fun r hr => by split <;> decide)).mono ?_
            rintro e w1_49 ⟨rfl, hb⟩
            rw [cat2]
            go_wp2_with fail
            refine hK.out _ _ (Sc.on HB.out hb) ?_
            clear hK K
            try simp only [putz]
            clear hrr
            have HB := hid (Sc.on HB.out hb)
            have HW := hid (HW.out.trans (hb.mono HW.out.size))
            have FP := hid (And.intro (FP.out.1.on hb) FP.out.2)
            have FD := hid (And.intro (FD.out.1.on hb) FD.out.2)
            have FZ := hid (And.intro (FZ.out.1.on hb) FZ.out.2)
            have F2 := hid (And.intro (F2.out.1.on hb) F2.out.2)
            clear hb
            refine Goes.one (i := 14) (o := ⟨none, _, _, _, _, _⟩) (by as_aux_lemma => kernel_rfl) rfl (fun K hK => ?_)
            rw [if_pos (by rfl)]
            have hz := FZ.out.1
            unfold Bt at hz
            rw [KE.out]
            refine wp_store_row 23 (.tmp 3) (.tmp 16) (by rfl) gz47 (bvs kk).toArray (by rfl) (by rfl) 23 _ hz (hi44 kk KL.out).out (hsz _ kk (by rw [KL.out, List.length_replicate])).out (bvs_all kk) ?_
            have HWR := below_setRow HW.out FZ.out.2 (bvs kk).toArray
            have HT := hid (FZ.out.1.row (m := kk))
            refine hK.out _ _ (st_row HB.out (Nat.ne_of_lt (Nat.lt_of_lt_of_le HGL.out FZ.out.2)) (bvs kk).toArray) ?_
            clear hK K
            try simp only [putz]
            refine Goes.done (by as_aux_lemma => kernel_rfl) ?_ _
            refine NoPanic.normal ?_
            go_wp2
            go_meet
            exact ⟨_, rfl, hid ⟨HWR, FZ.out.2, HT.out⟩⟩
        · skip
          go_simp
          rw [← lit32]
          have hb := (Below.refl w1_40.heap.size w1_40).alloc (Nat.le_refl _) (.cells (bvs (List.replicate 32 0)).toArray 23)
          have hh := heap_alloc_new w1_40 (.cells (bvs (List.replicate 32 0)).toArray 23)
          have hz := HW.out.size
          refine hK.out _ _ (Sc.on HB.out hb) ?_
          clear hK K
          try simp only [putz]
          have Ngp39_gz50 := hid (Nat.ne_of_lt FP.out.1.lt)
          have Ngd40_gz50 := hid (Nat.ne_of_lt FD.out.1.lt)
          have HB := hid (Sc.on HB.out hb)
          have HW := hid (HW.out.trans (hb.mono HW.out.size))
          have FP := hid (And.intro (FP.out.1.on hb) FP.out.2)
          have FD := hid (And.intro (FD.out.1.on hb) FD.out.2)
          generalize w1_40.alloc (.cells (bvs (List.replicate 32 0)).toArray 23) = w1_50 at *
          generalize w1_40.heap.size = gz50 at *
          have FZ := hid (And.intro (show Bt w1_50 gz50 23 _ from hh) hz)
          clear hb hh hz
          refine Goes.one (i := 5) (o := ⟨some 9, _, _, _, _, _⟩) (by as_aux_lemma => kernel_rfl) rfl (fun K hK => ?_)
          obtain ⟨w1_51, hrun, HBK, HGW⟩ := conv_gr gd40 4 _ rfl FD.out.1
          rw [if_pos (by rfl)]
          refine wp_convert (.tmp 8) rfl _ rfl _ _ hrun.out ?_
          have HB := hid (Sc.grown HB.out HGW.out (Nat.ne_of_lt (Nat.lt_of_lt_of_le HGL.out FD.out.2)))
          have HW := hid (below_gr HW.out HGW.out FD.out.2)
          refine hK.out _ _ HB.out ?_
          clear hK K
          try simp only [putz]
          have FP := hid (And.intro (FP.out.1.grown HGW.out (Ngp39_gd40.out)) FP.out.2)
          have FZ := hid (And.intro (FZ.out.1.grown HGW.out (Ngd40_gz50.out.symm)) FZ.out.2)
          have FD := hid (And.intro HBK.out FD.out.2)
          clear HBK HGW hrun
          refine Goes.one (i := 11) (o := ⟨some 15, _, _, _, _, _⟩) (by as_aux_lemma => kernel_rfl) rfl (fun K hK => ?_)
          go_simp
          have hb := (Below.refl w1_51.heap.size w1_51).alloc (Nat.le_refl _) (.cells #[.slice (some ⟨gd40, 0, none⟩) 4 4, .slice (some ⟨gp39, 0, none⟩) 8 cp] 47)
          have hh := Blk.new w1_51 #[.slice (some ⟨gd40, 0, none⟩) 4 4, .slice (some ⟨gp39, 0, none⟩) 8 cp] 47
          have hz := HW.out.size
          refine hK.out _ _ (Sc.on HB.out hb) ?_
          clear hK K
          try simp only [putz]
          have Ngp39_gb52 := hid (Nat.ne_of_lt FP.out.1.lt)
          have Ngd40_gb52 := hid (Nat.ne_of_lt FD.out.1.lt)
          have Ngz50_gb52 := hid (Nat.ne_of_lt FZ.out.1.lt)
          have HB := hid (Sc.on HB.out hb)
          have HW := hid (HW.out.trans (hb.mono HW.out.size))
          have FP := hid (And.intro (FP.out.1.on hb) FP.out.2)
          have FD := hid (And.intro (FD.out.1.on hb) FD.out.2)
          have FZ := hid (And.intro (FZ.out.1.on hb) FZ.out.2)
          generalize w1_51.alloc (.cells #[.slice (some ⟨gd40, 0, none⟩) 4 4, .slice (some ⟨gp39, 0, none⟩) 8 cp] 47) = w1_52 at *
          generalize w1_51.heap.size = gb52 at *
          have F2 := hid (And.intro hh hz)
          clear hb hh hz
          refine Goes.one (i := 12) (o := ⟨some 16, _, _, _, _, _⟩) (by as_aux_lemma => kernel_rfl) rfl (fun K hK => ?_)
          go_simp
          have hrr := rwb2 F2.out.1 (rd_blk drawT FD.out.1 draw_cells) rfl (Nat.le_refl 4) (by decide) (fun h => by cases h) FP.out.1.1 (be_length n 8) HCP.out.1 HCP.out.2 (fun h => by cases h)
          refine (rof_any (some ⟨g, 0, none⟩) 32 bs 32 (some ⟨gb52, 0, none⟩) 2 2 _ _ _ _ w1_52 HL.out (Sc.rd HB.out) (by decide) (fun h => by cases h) (by decide) hrr (by decide) (fun r hr => by split <;> decide)).mono ?_
          rintro e w1_53 ⟨rfl, hb⟩
          rw [cat2]
          go_wp2_with fail
          refine hK.out _ _ (Sc.on HB.out hb) ?_
          clear hK K
          try simp only [putz]
          clear hrr
          have HB := hid (Sc.on HB.out hb)
          have HW := hid (HW.out.trans (hb.mono HW.out.size))
          have FP := hid (And.intro (FP.out.1.on hb) FP.out.2)
          have FD := hid (And.intro (FD.out.1.on hb) FD.out.2)
          have FZ := hid (And.intro (FZ.out.1.on hb) FZ.out.2)
          have F2 := hid (And.intro (F2.out.1.on hb) F2.out.2)
          clear hb
          refine Goes.one (i := 14) (o := ⟨none, _, _, _, _, _⟩) (by as_aux_lemma => kernel_rfl) rfl (fun K hK => ?_)
          rw [if_pos (by rfl)]
          have hz := FZ.out.1
          unfold Bt at hz
          rw [KE.out]
          refine wp_store_row 23 (.tmp 3) (.tmp 16) (by rfl) gz50 (bvs kk).toArray (by rfl) (by rfl) 23 _ hz (hi44 kk KL.out).out (hsz _ kk (by rw [KL.out, List.length_replicate])).out (bvs_all kk) ?_
          have HWR := below_setRow HW.out FZ.out.2 (bvs kk).toArray
          have HT := hid (FZ.out.1.row (m := kk))
          refine hK.out _ _ (st_row HB.out (Nat.ne_of_lt (Nat.lt_of_lt_of_le HGL.out FZ.out.2)) (bvs kk).toArray) ?_
          clear hK K
          try simp only [putz]
          refine Goes.done (by as_aux_lemma => kernel_rfl) ?_ _
          refine NoPanic.normal ?_
          go_wp2
          go_meet
          exact ⟨_, rfl, hid ⟨HWR, FZ.out.2, HT.out⟩⟩
      · skip
        go_simp
        rw [← lit32]
        have hb := (Below.refl w1_39.heap.size w1_39).alloc (Nat.le_refl _) (.cells (bvs (List.replicate 32 0)).toArray 23)
        have hh := heap_alloc_new w1_39 (.cells (bvs (List.replicate 32 0)).toArray 23)
        have hz := HW.out.size
        refine hK.out _ _ (Sc.on HB.out hb) ?_
        clear hK K
        try simp only [putz]
        have Ngp39_gz54 := hid (Nat.ne_of_lt FP.out.1.lt)
        have HB := hid (Sc.on HB.out hb)
        have HW := hid (HW.out.trans (hb.mono HW.out.size))
        have FP := hid (And.intro (FP.out.1.on hb) FP.out.2)
        generalize w1_39.alloc (.cells (bvs (List.replicate 32 0)).toArray 23) = w1_54 at *
        generalize w1_39.heap.size = gz54 at *
        have FZ := hid (And.intro (show Bt w1_54 gz54 23 _ from hh) hz)
        clear hb hh hz
        refine Goes.one (i := 4) (o := ⟨some 8, _, _, _, _, _⟩) (by as_aux_lemma => kernel_rfl) rfl (fun K hK => ?_)
        go_simp
        have hb := (Below.refl w1_54.heap.size w1_54).alloc (Nat.le_refl _) (.cells #[.int .u8 100, .int .u8 114, .int .u8 97, .int .u8 119] 5)
        have hh := Blk.new w1_54 #[.int .u8 100, .int .u8 114, .int .u8 97, .int .u8 119] 5
        have hz := HW.out.size
        refine hK.out _ _ (Sc.on HB.out hb) ?_
        clear hK K
        try simp only [putz]
        have Ngp39_gd55 := hid (Nat.ne_of_lt FP.out.1.lt)
        have Ngz54_gd55 := hid (Nat.ne_of_lt FZ.out.1.lt)
        have HB := hid (Sc.on HB.out hb)
        have HW := hid (HW.out.trans (hb.mono HW.out.size))
        have FP := hid (And.intro (FP.out.1.on hb) FP.out.2)
        have FZ := hid (And.intro (FZ.out.1.on hb) FZ.out.2)
        generalize w1_54.alloc (.cells #[.int .u8 100, .int .u8 114, .int .u8 97, .int .u8 119] 5) = w1_55 at *
        generalize w1_54.heap.size = gd55 at *
        have FD := hid (And.intro hh hz)
        clear hb hh hz
        refine Goes.one (i := 5) (o := ⟨some 9, _, _, _, _, _⟩) (by as_aux_lemma => kernel_rfl) rfl (fun K hK => ?_)
        obtain ⟨w1_56, hrun, HBK, HGW⟩ := conv_gr gd55 4 _ rfl FD.out.1
        rw [if_pos (by rfl)]
        refine wp_convert (.tmp 8) rfl _ rfl _ _ hrun.out ?_
        have HB := hid (Sc.grown HB.out HGW.out (Nat.ne_of_lt (Nat.lt_of_lt_of_le HGL.out FD.out.2)))
        have HW := hid (below_gr HW.out HGW.out FD.out.2)
        refine hK.out _ _ HB.out ?_
        clear hK K
        try simp only [putz]
        have FP := hid (And.intro (FP.out.1.grown HGW.out (Ngp39_gd55.out)) FP.out.2)
        have FZ := hid (And.intro (FZ.out.1.grown HGW.out (Ngz54_gd55.out)) FZ.out.2)
        have FD := hid (And.intro HBK.out FD.out.2)
        clear HBK HGW hrun
        refine Goes.one (i := 11) (o := ⟨some 15, _, _, _, _, _⟩) (by as_aux_lemma => kernel_rfl) rfl (fun K hK => ?_)
        go_simp
        have hb := (Below.refl w1_56.heap.size w1_56).alloc (Nat.le_refl _) (.cells #[.slice (some ⟨gd55, 0, none⟩) 4 4, .slice (some ⟨gp39, 0, none⟩) 8 cp] 47)
        have hh := Blk.new w1_56 #[.slice (some ⟨gd55, 0, none⟩) 4 4, .slice (some ⟨gp39, 0, none⟩) 8 cp] 47
        have hz := HW.out.size
        refine hK.out _ _ (Sc.on HB.out hb) ?_
        clear hK K
        try simp only [putz]
        have Ngp39_gb57 := hid (Nat.ne_of_lt FP.out.1.lt)
        have Ngz54_gb57 := hid (Nat.ne_of_lt FZ.out.1.lt)
        have Ngd55_gb57 := hid (Nat.ne_of_lt FD.out.1.lt)
        have HB := hid (Sc.on HB.out hb)
        have HW := hid (HW.out.trans (hb.mono HW.out.size))
        have FP := hid (And.intro (FP.out.1.on hb) FP.out.2)
        have FZ := hid (And.intro (FZ.out.1.on hb) FZ.out.2)
        have FD := hid (And.intro (FD.out.1.on hb) FD.out.2)
        generalize w1_56.alloc (.cells #[.slice (some ⟨gd55, 0, none⟩) 4 4, .slice (some ⟨gp39, 0, none⟩) 8 cp] 47) = w1_57 at *
        generalize w1_56.heap.size = gb57 at *
        have F2 := hid (And.intro hh hz)
        clear hb hh hz
        refine Goes.one (i := 12) (o := ⟨some 16, _, _, _, _, _⟩) (by as_aux_lemma => kernel_rfl) rfl (fun K hK => ?_)
        go_simp
        have hrr := rwb2 F2.out.1 (rd_blk drawT FD.out.1 draw_cells) rfl (Nat.le_refl 4) (by decide) (fun h => by cases h) FP.out.1.1 (be_length n 8) HCP.out.1 HCP.out.2 (fun h => by cases h)
        refine (rof_any (some ⟨g, 0, none⟩) 32 bs 32 (some ⟨gb57, 0, none⟩) 2 2 _ _ _ _ w1_57 HL.out (Sc.rd HB.out) (by decide) (fun h => by cases h) (by decide) hrr (by decide) (fun r hr => by split <;> decide)).mono ?_
        rintro e w1_58 ⟨rfl, hb⟩
        rw [cat2]
        go_wp2_with fail
        refine hK.out _ _ (Sc.on HB.out hb) ?_
        clear hK K
        try simp only [putz]
        clear hrr
        have HB := hid (Sc.on HB.out hb)
        have HW := hid (HW.out.trans (hb.mono HW.out.size))
        have FP := hid (And.intro (FP.out.1.on hb) FP.out.2)
        have FZ := hid (And.intro (FZ.out.1.on hb) FZ.out.2)
        have FD := hid (And.intro (FD.out.1.on hb) FD.out.2)
        have F2 := hid (And.intro (F2.out.1.on hb) F2.out.2)
        clear hb
        refine Goes.one (i := 14) (o := ⟨none, _, _, _, _, _⟩) (by as_aux_lemma => kernel_rfl) rfl (fun K hK => ?_)
        rw [if_pos (by rfl)]
        have hz := FZ.out.1
        unfold Bt at hz
        rw [KE.out]
        refine wp_store_row 23 (.tmp 3) (.tmp 16) (by rfl) gz54 (bvs kk).toArray (by rfl) (by rfl) 23 _ hz (hi44 kk KL.out).out (hsz _ kk (by rw [KL.out, List.length_replicate])).out (bvs_all kk) ?_
        have HWR := below_setRow HW.out FZ.out.2 (bvs kk).toArray
        have HT := hid (FZ.out.1.row (m := kk))
        refine hK.out _ _ (st_row HB.out (Nat.ne_of_lt (Nat.lt_of_lt_of_le HGL.out FZ.out.2)) (bvs kk).toArray) ?_
        clear hK K
        try simp only [putz]
        refine Goes.done (by as_aux_lemma => kernel_rfl) ?_ _
        refine NoPanic.normal ?_
        go_wp2
        go_meet
        exact ⟨_, rfl, hid ⟨HWR, FZ.out.2, HT.out⟩⟩
    · skip
      go_simp
      rw [← lit32]
      have hb := (Below.refl w1d.heap.size w1d).alloc (Nat.le_refl _) (.cells (bvs (List.replicate 32 0)).toArray 23)
      have hh := heap_alloc_new w1d (.cells (bvs (List.replicate 32 0)).toArray 23)
      have hz := HW.out.size
      refine hK.out _ _ (Sc.on HB.out hb) ?_
      clear hK K
      try simp only [putz]
      have HB := hid (Sc.on HB.out hb)
      have HW := hid (HW.out.trans (hb.mono HW.out.size))
      generalize w1d.alloc (.cells (bvs (List.replicate 32 0)).toArray 23) = w1_59 at *
      generalize w1d.heap.size = gz59 at *
      have FZ := hid (And.intro (show Bt w1_59 gz59 23 _ from hh) hz)
      clear hb hh hz
      refine Goes.two (i := 4) (j := 10) (o := ⟨some 8, _, _, _, _, _⟩) (p := ⟨some 14, _, _, _, _, _⟩) (by as_aux_lemma => kernel_rfl) rfl rfl (fun K hK => ?_) (fun K hK => ?_)
      · skip
        go_simp
        have hb := (Below.refl w1_59.heap.size w1_59).alloc (Nat.le_refl _) (.cells #[.int .u8 100, .int .u8 114, .int .u8 97, .int .u8 119] 5)
        have hh := Blk.new w1_59 #[.int .u8 100, .int .u8 114, .int .u8 97, .int .u8 119] 5
        have hz := HW.out.size
        refine hK.out _ _ (Sc.on HB.out hb) ?_
        clear hK K
        try simp only [putz]
        have Ngz59_gd60 := hid (Nat.ne_of_lt FZ.out.1.lt)
        have HB := hid (Sc.on HB.out hb)
        have HW := hid (HW.out.trans (hb.mono HW.out.size))
        have FZ := hid (And.intro (FZ.out.1.on hb) FZ.out.2)
        generalize w1_59.alloc (.cells #[.int .u8 100, .int .u8 114, .int .u8 97, .int .u8 119] 5) = w1_60 at *
        generalize w1_59.heap.size = gd60 at *
        have FD := hid (And.intro hh hz)
        clear hb hh hz
        refine Goes.two (i := 5) (j := 10) (o := ⟨some 9, _, _, _, _, _⟩) (p := ⟨some 14, _, _, _, _, _⟩) (by as_aux_lemma => kernel_rfl) rfl rfl (fun K hK => ?_) (fun K hK => ?_)
        · skip
          obtain ⟨w1_61, hrun, HBK, HGW⟩ := conv_gr gd60 4 _ rfl FD.out.1
          rw [if_pos (by rfl)]
          refine wp_convert (.tmp 8) rfl _ rfl _ _ hrun.out ?_
          have HB := hid (Sc.grown HB.out HGW.out (Nat.ne_of_lt (Nat.lt_of_lt_of_le HGL.out FD.out.2)))
          have HW := hid (below_gr HW.out HGW.out FD.out.2)
          refine hK.out _ _ HB.out ?_
          clear hK K
          try simp only [putz]
          have FZ := hid (And.intro (FZ.out.1.grown HGW.out (Ngz59_gd60.out)) FZ.out.2)
          have FD := hid (And.intro HBK.out FD.out.2)
          clear HBK HGW hrun
          refine Goes.one (i := 10) (o := ⟨some 14, _, _, _, _, _⟩) (by as_aux_lemma => kernel_rfl) rfl (fun K hK => ?_)
          go_simp
          refine (rput8 n w1_61 HN.out).mono ?_
          rintro e w1_62 ⟨gp62, cp, rfl, hq⟩
          have hb := hq.out.2.2.2.2
          go_wp2_with fail
          refine hK.out _ _ (Sc.on HB.out hb) ?_
          clear hK K
          try simp only [putz]
          have Ngz59_gp62 := hid (Nat.ne_of_lt (Nat.lt_of_lt_of_le FZ.out.1.lt hq.out.1))
          have Ngd60_gp62 := hid (Nat.ne_of_lt (Nat.lt_of_lt_of_le FD.out.1.lt hq.out.1))
          have hz := Nat.le_trans HW.out.size hq.out.1
          have HB := hid (Sc.on HB.out hb)
          have HW := hid (HW.out.trans (hb.mono HW.out.size))
          have FZ := hid (And.intro (FZ.out.1.on hb) FZ.out.2)
          have FD := hid (And.intro (FD.out.1.on hb) FD.out.2)
          have HCP := hid (And.intro hq.out.2.1 hq.out.2.2.1)
          have FP := hid (And.intro hq.out.2.2.2.1 hz)
          clear hq hb hz
          refine Goes.one (i := 11) (o := ⟨some 15, _, _, _, _, _⟩) (by as_aux_lemma => kernel_rfl) rfl (fun K hK => ?_)
          go_simp
          have hb := (Below.refl w1_62.heap.size w1_62).alloc (Nat.le_refl _) (.cells #[.slice (some ⟨gd60, 0, none⟩) 4 4, .slice (some ⟨gp62, 0, none⟩) 8 cp] 47)
          have hh := Blk.new w1_62 #[.slice (some ⟨gd60, 0, none⟩) 4 4, .slice (some ⟨gp62, 0, none⟩) 8 cp] 47
          have hz := HW.out.size
          refine hK.out _ _ (Sc.on HB.out hb) ?_
          clear hK K
          try simp only [putz]
          have Ngz59_gb63 := hid (Nat.ne_of_lt FZ.out.1.lt)
          have Ngd60_gb63 := hid (Nat.ne_of_lt FD.out.1.lt)
          have Ngp62_gb63 := hid (Nat.ne_of_lt FP.out.1.lt)
          have HB := hid (Sc.on HB.out hb)
          have HW := hid (HW.out.trans (hb.mono HW.out.size))
          have FZ := hid (And.intro (FZ.out.1.on hb) FZ.out.2)
          have FD := hid (And.intro (FD.out.1.on hb) FD.out.2)
          have FP := hid (And.intro (FP.out.1.on hb) FP.out.2)
          generalize w1_62.alloc (.cells #[.slice (some ⟨gd60, 0, none⟩) 4 4, .slice (some ⟨gp62, 0, none⟩) 8 cp] 47) = w1_63 at *
          generalize w1_62.heap.size = gb63 at *
          have F2 := hid (And.intro hh hz)
          clear hb hh hz
          refine Goes.one (i := 12) (o := ⟨some 16, _, _, _, _, _⟩) (by as_aux_lemma => kernel_rfl) rfl (fun K hK => ?_)
          go_simp
          have hrr := rwb2 F2.out.1 (rd_blk drawT FD.out.1 draw_cells) rfl (Nat.le_refl 4) (by decide) (fun h => by cases h) FP.out.1.1 (be_length n 8) HCP.out.1 HCP.out.2 (fun h => by cases h)
          refine (rof_any (some ⟨g, 0, none⟩) 32 bs 32 (some ⟨gb63, 0, none⟩) 2 2 _ _ _ _ w1_63 HL.out (Sc.rd HB.out) (by decide) (fun h => by cases h) (by decide) hrr (by decide) (fun r hr => by split <;> decide)).mono ?_
          rintro e w1_64 ⟨rfl, hb⟩
          rw [cat2]
          go_wp2_with fail
          refine hK.out _ _ (Sc.on HB.out hb) ?_
          clear hK K
          try simp only [putz]
          clear hrr
          have HB := hid (Sc.on HB.out hb)
          have HW := hid (HW.out.trans (hb.mono HW.out.size))
          have FZ := hid (And.intro (FZ.out.1.on hb) FZ.out.2)
          have FD := hid (And.intro (FD.out.1.on hb) FD.out.2)
          have FP := hid (And.intro (FP.out.1.on hb) FP.out.2)
          have F2 := hid (And.intro (F2.out.1.on hb) F2.out.2)
          clear hb
          refine Goes.one (i := 14) (o := ⟨none, _, _, _, _, _⟩) (by as_aux_lemma => kernel_rfl) rfl (fun K hK => ?_)
          rw [if_pos (by rfl)]
          have hz := FZ.out.1
          unfold Bt at hz
          rw [KE.out]
          refine wp_store_row 23 (.tmp 3) (.tmp 16) (by rfl) gz59 (bvs kk).toArray (by rfl) (by rfl) 23 _ hz (hi44 kk KL.out).out (hsz _ kk (by rw [KL.out, List.length_replicate])).out (bvs_all kk) ?_
          have HWR := below_setRow HW.out FZ.out.2 (bvs kk).toArray
          have HT := hid (FZ.out.1.row (m := kk))
          refine hK.out _ _ (st_row HB.out (Nat.ne_of_lt (Nat.lt_of_lt_of_le HGL.out FZ.out.2)) (bvs kk).toArray) ?_
          clear hK K
          try simp only [putz]
          refine Goes.done (by as_aux_lemma => kernel_rfl) ?_ _
          refine NoPanic.normal ?_
          go_wp2
          go_meet
          exact ⟨_, rfl, hid ⟨HWR, FZ.out.2, HT.out⟩⟩
        · skip
          go_simp
          refine (rput8 n w1_60 HN.out).mono ?_
          rintro e w1_65 ⟨gp65, cp, rfl, hq⟩
          have hb := hq.out.2.2.2.2
          go_wp2_with fail
          refine hK.out _ _ (Sc.on HB.out hb) ?_
          clear hK K
          try simp only [putz]
          have Ngz59_gp65 := hid (Nat.ne_of_lt (Nat.lt_of_lt_of_le FZ.out.1.lt hq.out.1))
          have Ngd60_gp65 := hid (Nat.ne_of_lt (Nat.lt_of_lt_of_le FD.out.1.lt hq.out.1))
          have hz := Nat.le_trans HW.out.size hq.out.1
          have HB := hid (Sc.on HB.out hb)
          have HW := hid (HW.out.trans (hb.mono HW.out.size))
          have FZ := hid (And.intro (FZ.out.1.on hb) FZ.out.2)
          have FD := hid (And.intro (FD.out.1.on hb) FD.out.2)
          have HCP := hid (And.intro hq.out.2.1 hq.out.2.2.1)
          have FP := hid (And.intro hq.out.2.2.2.1 hz)
          clear hq hb hz
          refine Goes.one (i := 5) (o := ⟨some 9, _, _, _, _, _⟩) (by as_aux_lemma => kernel_rfl) rfl (fun K hK => ?_)
          obtain ⟨w1_66, hrun, HBK, HGW⟩ := conv_gr gd60 4 _ rfl FD.out.1
          rw [if_pos (by rfl)]
          refine wp_convert (.tmp 8) rfl _ rfl _ _ hrun.out ?_
          have HB := hid (Sc.grown HB.out HGW.out (Nat.ne_of_lt (Nat.lt_of_lt_of_le HGL.out FD.out.2)))
          have HW := hid (below_gr HW.out HGW.out FD.out.2)
          refine hK.out _ _ HB.out ?_
          clear hK K
          try simp only [putz]
          have FZ := hid (And.intro (FZ.out.1.grown HGW.out (Ngz59_gd60.out)) FZ.out.2)
          have FP := hid (And.intro (FP.out.1.grown HGW.out (Ngd60_gp65.out.symm)) FP.out.2)
          have FD := hid (And.intro HBK.out FD.out.2)
          clear HBK HGW hrun
          refine Goes.one (i := 11) (o := ⟨some 15, _, _, _, _, _⟩) (by as_aux_lemma => kernel_rfl) rfl (fun K hK => ?_)
          go_simp
          have hb := (Below.refl w1_66.heap.size w1_66).alloc (Nat.le_refl _) (.cells #[.slice (some ⟨gd60, 0, none⟩) 4 4, .slice (some ⟨gp65, 0, none⟩) 8 cp] 47)
          have hh := Blk.new w1_66 #[.slice (some ⟨gd60, 0, none⟩) 4 4, .slice (some ⟨gp65, 0, none⟩) 8 cp] 47
          have hz := HW.out.size
          refine hK.out _ _ (Sc.on HB.out hb) ?_
          clear hK K
          try simp only [putz]
          have Ngz59_gb67 := hid (Nat.ne_of_lt FZ.out.1.lt)
          have Ngd60_gb67 := hid (Nat.ne_of_lt FD.out.1.lt)
          have Ngp65_gb67 := hid (Nat.ne_of_lt FP.out.1.lt)
          have HB := hid (Sc.on HB.out hb)
          have HW := hid (HW.out.trans (hb.mono HW.out.size))
          have FZ := hid (And.intro (FZ.out.1.on hb) FZ.out.2)
          have FD := hid (And.intro (FD.out.1.on hb) FD.out.2)
          have FP := hid (And.intro (FP.out.1.on hb) FP.out.2)
          generalize w1_66.alloc (.cells #[.slice (some ⟨gd60, 0, none⟩) 4 4, .slice (some ⟨gp65, 0, none⟩) 8 cp] 47) = w1_67 at *
          generalize w1_66.heap.size = gb67 at *
          have F2 := hid (And.intro hh hz)
          clear hb hh hz
          refine Goes.one (i := 12) (o := ⟨some 16, _, _, _, _, _⟩) (by as_aux_lemma => kernel_rfl) rfl (fun K hK => ?_)
          go_simp
          have hrr := rwb2 F2.out.1 (rd_blk drawT FD.out.1 draw_cells) rfl (Nat.le_refl 4) (by decide) (fun h => by cases h) FP.out.1.1 (be_length n 8) HCP.out.1 HCP.out.2 (fun h => by cases h)
          refine (rof_any (some ⟨g, 0, none⟩) 32 bs 32 (some ⟨gb67, 0, none⟩) 2 2 _ _ _ _ w1_67 HL.out (Sc.rd HB.out) (by decide) (fun h => by cases h) (by decide) hrr (by decide) (fun r hr => by split <;> decide)).mono ?_
          rintro e w1_68 ⟨rfl, hb⟩
          rw [cat2]
          go_wp2_with fail
          refine hK.out _ _ (Sc.on HB.out hb) ?_
          clear hK K
          try simp only [putz]
          clear hrr
          have HB := hid (Sc.on HB.out hb)
          have HW := hid (HW.out.trans (hb.mono HW.out.size))
          have FZ := hid (And.intro (FZ.out.1.on hb) FZ.out.2)
          have FD := hid (And.intro (FD.out.1.on hb) FD.out.2)
          have FP := hid (And.intro (FP.out.1.on hb) FP.out.2)
          have F2 := hid (And.intro (F2.out.1.on hb) F2.out.2)
          clear hb
          refine Goes.one (i := 14) (o := ⟨none, _, _, _, _, _⟩) (by as_aux_lemma => kernel_rfl) rfl (fun K hK => ?_)
          rw [if_pos (by rfl)]
          have hz := FZ.out.1
          unfold Bt at hz
          rw [KE.out]
          refine wp_store_row 23 (.tmp 3) (.tmp 16) (by rfl) gz59 (bvs kk).toArray (by rfl) (by rfl) 23 _ hz (hi44 kk KL.out).out (hsz _ kk (by rw [KL.out, List.length_replicate])).out (bvs_all kk) ?_
          have HWR := below_setRow HW.out FZ.out.2 (bvs kk).toArray
          have HT := hid (FZ.out.1.row (m := kk))
          refine hK.out _ _ (st_row HB.out (Nat.ne_of_lt (Nat.lt_of_lt_of_le HGL.out FZ.out.2)) (bvs kk).toArray) ?_
          clear hK K
          try simp only [putz]
          refine Goes.done (by as_aux_lemma => kernel_rfl) ?_ _
          refine NoPanic.normal ?_
          go_wp2
          go_meet
          exact ⟨_, rfl, hid ⟨HWR, FZ.out.2, HT.out⟩⟩
      · skip
        go_simp
        refine (rput8 n w1_59 HN.out).mono ?_
        rintro e w1_69 ⟨gp69, cp, rfl, hq⟩
        have hb := hq.out.2.2.2.2
        go_wp2_with fail
        refine hK.out _ _ (Sc.on HB.out hb) ?_
        clear hK K
        try simp only [putz]
        have Ngz59_gp69 := hid (Nat.ne_of_lt (Nat.lt_of_lt_of_le FZ.out.1.lt hq.out.1))
        have hz := Nat.le_trans HW.out.size hq.out.1
        have HB := hid (Sc.on HB.out hb)
        have HW := hid (HW.out.trans (hb.mono HW.out.size))
        have FZ := hid (And.intro (FZ.out.1.on hb) FZ.out.2)
        have HCP := hid (And.intro hq.out.2.1 hq.out.2.2.1)
        have FP := hid (And.intro hq.out.2.2.2.1 hz)
        clear hq hb hz
        refine Goes.one (i := 4) (o := ⟨some 8, _, _, _, _, _⟩) (by as_aux_lemma => kernel_rfl) rfl (fun K hK => ?_)
        go_simp
        have hb := (Below.refl w1_69.heap.size w1_69).alloc (Nat.le_refl _) (.cells #[.int .u8 100, .int .u8 114, .int .u8 97, .int .u8 119] 5)
        have hh := Blk.new w1_69 #[.int .u8 100, .int .u8 114, .int .u8 97, .int .u8 119] 5
        have hz := HW.out.size
        refine hK.out _ _ (Sc.on HB.out hb) ?_
        clear hK K
        try simp only [putz]
        have Ngz59_gd70 := hid (Nat.ne_of_lt FZ.out.1.lt)
        have Ngp69_gd70 := hid (Nat.ne_of_lt FP.out.1.lt)
        have HB := hid (Sc.on HB.out hb)
        have HW := hid (HW.out.trans (hb.mono HW.out.size))
        have FZ := hid (And.intro (FZ.out.1.on hb) FZ.out.2)
        have FP := hid (And.intro (FP.out.1.on hb) FP.out.2)
        generalize w1_69.alloc (.cells #[.int .u8 100, .int .u8 114, .int .u8 97, .int .u8 119] 5) = w1_70 at *
        generalize w1_69.heap.size = gd70 at *
        have FD := hid (And.intro hh hz)
        clear hb hh hz
        refine Goes.one (i := 5) (o := ⟨some 9, _, _, _, _, _⟩) (by as_aux_lemma => kernel_rfl) rfl (fun K hK => ?_)
        obtain ⟨w1_71, hrun, HBK, HGW⟩ := conv_gr gd70 4 _ rfl FD.out.1
        rw [if_pos (by rfl)]
        refine wp_convert (.tmp 8) rfl _ rfl _ _ hrun.out ?_
        have HB := hid (Sc.grown HB.out HGW.out (Nat.ne_of_lt (Nat.lt_of_lt_of_le HGL.out FD.out.2)))
        have HW := hid (below_gr HW.out HGW.out FD.out.2)
        refine hK.out _ _ HB.out ?_
        clear hK K
        try simp only [putz]
        have FZ := hid (And.intro (FZ.out.1.grown HGW.out (Ngz59_gd70.out)) FZ.out.2)
        have FP := hid (And.intro (FP.out.1.grown HGW.out (Ngp69_gd70.out)) FP.out.2)
        have FD := hid (And.intro HBK.out FD.out.2)
        clear HBK HGW hrun
        refine Goes.one (i := 11) (o := ⟨some 15, _, _, _, _, _⟩) (by as_aux_lemma => kernel_rfl) rfl (fun K hK => ?_)
        go_simp
        have hb := (Below.refl w1_71.heap.size w1_71).alloc (Nat.le_refl _) (.cells #[.slice (some ⟨gd70, 0, none⟩) 4 4, .slice (some ⟨gp69, 0, none⟩) 8 cp] 47)
        have hh := Blk.new w1_71 #[.slice (some ⟨gd70, 0, none⟩) 4 4, .slice (some ⟨gp69, 0, none⟩) 8 cp] 47
        have hz := HW.out.size
        refine hK.out _ _ (Sc.on HB.out hb) ?_
        clear hK K
        try simp only [putz]
        have Ngz59_gb72 := hid (Nat.ne_of_lt FZ.out.1.lt)
        have Ngp69_gb72 := hid (Nat.ne_of_lt FP.out.1.lt)
        have Ngd70_gb72 := hid (Nat.ne_of_lt FD.out.1.lt)
        have HB := hid (Sc.on HB.out hb)
        have HW := hid (HW.out.trans (hb.mono HW.out.size))
        have FZ := hid (And.intro (FZ.out.1.on hb) FZ.out.2)
        have FP := hid (And.intro (FP.out.1.on hb) FP.out.2)
        have FD := hid (And.intro (FD.out.1.on hb) FD.out.2)
        generalize w1_71.alloc (.cells #[.slice (some ⟨gd70, 0, none⟩) 4 4, .slice (some ⟨gp69, 0, none⟩) 8 cp] 47) = w1_72 at *
        generalize w1_71.heap.size = gb72 at *
        have F2 := hid (And.intro hh hz)
        clear hb hh hz
        refine Goes.one (i := 12) (o := ⟨some 16, _, _, _, _, _⟩) (by as_aux_lemma => kernel_rfl) rfl (fun K hK => ?_)
        go_simp
        have hrr := rwb2 F2.out.1 (rd_blk drawT FD.out.1 draw_cells) rfl (Nat.le_refl 4) (by decide) (fun h => by cases h) FP.out.1.1 (be_length n 8) HCP.out.1 HCP.out.2 (fun h => by cases h)
        refine (rof_any (some ⟨g, 0, none⟩) 32 bs 32 (some ⟨gb72, 0, none⟩) 2 2 _ _ _ _ w1_72 HL.out (Sc.rd HB.out) (by decide) (fun h => by cases h) (by decide) hrr (by decide) (fun r hr => by split <;> decide)).mono ?_
        rintro e w1_73 ⟨rfl, hb⟩
        rw [cat2]
        go_wp2_with fail
        refine hK.out _ _ (Sc.on HB.out hb) ?_
        clear hK K
        try simp only [putz]
        clear hrr
        have HB := hid (Sc.on HB.out hb)
        have HW := hid (HW.out.trans (hb.mono HW.out.size))
        have FZ := hid (And.intro (FZ.out.1.on hb) FZ.out.2)
        have FP := hid (And.intro (FP.out.1.on hb) FP.out.2)
        have FD := hid (And.intro (FD.out.1.on hb) FD.out.2)
        have F2 := hid (And.intro (F2.out.1.on hb) F2.out.2)
        clear hb
        refine Goes.one (i := 14) (o := ⟨none, _, _, _, _, _⟩) (by as_aux_lemma => kernel_rfl) rfl (fun K hK => ?_)
        rw [if_pos (by rfl)]
        have hz := FZ.out.1
        unfold Bt at hz
        rw [KE.out]
        refine wp_store_row 23 (.tmp 3) (.tmp 16) (by rfl) gz59 (bvs kk).toArray (by rfl) (by rfl) 23 _ hz (hi44 kk KL.out).out (hsz _ kk (by rw [KL.out, List.length_replicate])).out (bvs_all kk) ?_
        have HWR := below_setRow HW.out FZ.out.2 (bvs kk).toArray
        have HT := hid (FZ.out.1.row (m := kk))
        refine hK.out _ _ (st_row HB.out (Nat.ne_of_lt (Nat.lt_of_lt_of_le HGL.out FZ.out.2)) (bvs kk).toArray) ?_
        clear hK K
        try simp only [putz]
        refine Goes.done (by as_aux_lemma => kernel_rfl) ?_ _
        refine NoPanic.normal ?_
        go_wp2
        go_meet
        exact ⟨_, rfl, hid ⟨HWR, FZ.out.2, HT.out⟩⟩
  case rest =>
    obtain ⟨g3, rfl, HC⟩ := hcut
    have HS := hid (Sc.on HS1.out HC.out.1)
    have FZ := hid (FZ1.out.on HC.out.1)
    have HW := hid (gr_on HG0.out HC.out.1)
    have HX := hid HC.out.2.2
    have NXg := hid (show g3 ≠ g by have := HC.out.2.1; have := HGL.out; omega)
    clear HS1 FZ1 HG0 HC
    have h1 : wc.cell? ⟨g, 32, none⟩ = some (.int .u64 (n : Int)) := Sc.count HS.out HL.out
    have h2 := Sc.frozen HS.out 32
    have hlt := Sc.lt HS.out
    have hgr := grown_cell (i := 32) (grown_of (Below.refl wc.heap.size wc) (some g)) (.int .u64 ((n : Int) + 1))
    have HS2 : Hid (Sr (wc.setCell ⟨g, 32, none⟩ (.int .u64 ((n : Int) + 1))) g bs (n + 1)) := hid (Sc.setCount HS.out HL.out (n + 1))
    have hw : IntKind.u64.wrap ((n : Int) + 1) = (n : Int) + 1 := by have := HN.out; rw [IntKind.wrap_u64]; omega
    go_upto_region 3 with fail
    generalize wc.setCell ⟨g, 32, none⟩ (.int .u64 ((n : Int) + 1)) = w4 at *
    have FZ := hid (FZ.out.grown hgr NZg.out)
    have HX := hid (HX.out.grown hgr NXg.out)
    have HW := hid (gr_put HW.out hgr)
    clear h1 h2 hlt hgr hw HS
    have hl := ld_sum HX.out KL.out
    have hz := FZ.out
    unfold Bt at hz
    rw [lit32] at hz
    go_wp2_with (first | (refine wp_ld rfl _ _ rfl _ rfl _ hl ?_) | (refine wpList_store_row rfl 23 (.tmp 2) (.tmp 24) rfl gy (bvs kk).toArray rfl rfl 23 _ hz HI.out HO.out (bvs_all _) ?_))
    have HWR := gr_row HW.out HGZ.out (bvs kk).toArray
    have HT := hid (FZ.out.row (m := kk))
    have HSR := st_row HS2.out NZg.out.symm (bvs kk).toArray
    exact bodyPost_ret (v := .agg (bvs kk).toArray) (results_cell_row (p := 2) (ty := 23) Tryd.results14 _ _ gy 23 (bvs kk).toArray (0, 0) _ rfl HT.out Tryd.underlying23 rfl HI.out) rfl ⟨rfl, hid ⟨HWR, HSR⟩⟩
end Go.Proofs.YtcijnoapjicliaaDoor
