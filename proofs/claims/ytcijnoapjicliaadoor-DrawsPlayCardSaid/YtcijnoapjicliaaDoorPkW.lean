/-
  The document's Exponent, walked. Conditions: none.
  burrowlaw11.DrawsPlay, walked: it answers true. Condition: the library's table holds what its text lays.
-/
import Derived.Test.YtcijnoapjicliaaDoorDri
import Derived.Test.YtcijnoapjicliaaDoorRfN
import Derived.Test.YtcijnoapjicliaaDoorPkO
import Derived.Test.YtcijnoapjicliaaDoorPkQ
namespace Go.Proofs.YtcijnoapjicliaaDoor
open Go.RowKit
set_option linter.unusedVariables false
set_option linter.unusedSimpArgs false

theorem num_one : (.agg #[.int .u64 1, .int .u64 0, .int .u64 0, .int .u64 0] : Value) = num 1 := num_small 1 (by decide)
theorem num_three : (.agg #[.int .u64 3, .int .u64 0, .int .u64 0, .int .u64 0] : Value) = num 3 := num_small 3 (by decide)
theorem rcmp3 (q : Nat) (c : Int) (w : World) (hq : q < 2 ^ 256) (hc : cmpN q 3 = c) : Calls Tryd.prog 21 #[num q, .agg #[.int .u64 3, .int .u64 0, .int .u64 0, .int .u64 0]] w fun e w' => e = .returned (.int .i64 c) ∧ Below w.heap.size w w' := by
  rw [num_three, ← hc]; exact rcmp_any q 3 w hq (by decide)
theorem rsub1 (q m : Nat) (w : World) (hq : q < 2 ^ 256) (hs : dif q 1 = m) (hk : ((lent q 1 : Nat) : Int) = 0) : Calls Tryd.prog 22 #[num q, .agg #[.int .u64 1, .int .u64 0, .int .u64 0, .int .u64 0]] w fun e w' => e = .returned (.tuple #[num m, .int .u64 0]) ∧ Below w.heap.size w w' := by
  have := r2sub_any q 1 w hq (by decide)
  rw [hs, hk] at this
  rw [num_one]; exact this
theorem radd1 (r d : Nat) (w : World) (hr : r < 2 ^ 256) (hs : (r + 1) % 2 ^ 256 = d) (hk : (((r + 1) / 2 ^ 256 : Nat) : Int) = 0) : Calls Tryd.prog 24 #[num r, .agg #[.int .u64 1, .int .u64 0, .int .u64 0, .int .u64 0]] w fun e w' => e = .returned (.tuple #[num d, .int .u64 0]) ∧ Below w.heap.size w w' := by
  have := r2add_any r 1 w hr (by decide)
  rw [hs, hk] at this
  rw [num_one]; exact this
theorem on_sc {w : World} {g t n : Nat} {hd : List Value} {bs : List UInt8} (h : Sc w g t hd bs n) : On w fun u => Sc u g t hd bs n := fun u hu => Sc.on h hu
theorem rnum_ex (m r gb gs : Nat) (bs : List UInt8) (w : World) (hm : m < 2 ^ 256) (h0 : m ≠ 0) (h : Blk w gb #[.slice (some ⟨gs, 0, none⟩) 32 32] 47) (hr : Rd w (some ⟨gs, 0, none⟩) bs) (hl : bs.length = 32) (hv : xof bs m = r) :
    Calls Tryd.prog 23 #[num m, .string ⟨#[101, 120, 112, 111, 110, 101, 110, 116]⟩, .slice (some ⟨gb, 0, none⟩) 1 1] w fun e w' => e = .returned (.tuple #[num r, .int .i64 0]) ∧ Below w.heap.size w w' :=
  rnumber_any ⟨#[101, 120, 112, 111, 110, 101, 110, 116]⟩ (some ⟨gb, 0, none⟩) 1 1 _ _ _ _ m r 0 w hm (rws1 h hr hl (by decide) (by decide) (fun h => by cases h)) (by decide) (fun r hr => by decide) (by decide) (by decide) (fun h => by cases h) (by rw [if_neg h0]; exact hv) (by rw [if_neg h0])
set_option maxRecDepth 100000 in
set_option maxHeartbeats 4000000 in
theorem rexpo_small (g p q g0 : Nat) (w : World) (hq : q < 2 ^ 256) (h3 : q < 3) :
    Calls Tryd.prog 12 #[.pointer (some ⟨g, 0, none⟩), gv p q g0] w fun e w' => e = .returned (.tuple #[num 0, .int .i64 1]) ∧ Below w.heap.size w w' := by
  have HQ := hid hq
  obtain ⟨c, hc⟩ : ∃ c, cmpN q 3 = c := ⟨_, rfl⟩
  have HC := hid hc
  have HCD := hid (show decide (c < 0) = true by rcases cmp_three q with ⟨h1, _⟩ | ⟨_, h1⟩; (rw [← hc, h1]; rfl); exact absurd h3 h1)
  clear hq hc h3
  have hB0 := (Below.refl w.heap.size w).alloc (Nat.le_refl _) (.cells (gcs p q g0) 28)
  have hs0 : (w.alloc (.cells (gcs p q g0) 28)).heap.size = w.heap.size + 1 := sz1 _ _
  have f0 := heap_alloc_new w (.cells (gcs p q g0) 28)
  have HFIN : Hid (∀ u, Below (w.alloc (.cells (gcs p q g0) 28)).heap.size (w.alloc (.cells (gcs p q g0) 28)) u → Below w.heap.size w u) := hid (fun u hu => hB0.trans (hu.mono hB0.size))
  go_enter Tryd.func12, Tryd.ntmps12
  go_upto_region 1 with fail
  generalize w.alloc (.cells (gcs p q g0) 28) = W0 at *
  have hb1 := (Below.refl W0.heap.size W0).alloc (Nat.le_refl _) (.cells #[.int .u64 0, .int .u64 0, .int .u64 0, .int .u64 0] 26)
  have hz1 := heap_alloc_new W0 (.cells #[.int .u64 0, .int .u64 0, .int .u64 0, .int .u64 0] 26)
  rw [hs0] at hz1
  have HB := hid hb1
  have HZ0 : Hid (W0.heap.size = w.heap.size + 1) := hid hs0
  have HZW : Hid (w.heap.size < w.heap.size + 1) := hid (by omega)
  have FG := hid ((ldG p q g0 0 f0 (all_at _)).on hb1)
  have FGp := hid ((ldN p 0 f0 (four_at p _ 0 rfl rfl rfl rfl)).on hb1)
  have FGq := hid ((ldN q 4 f0 (four_at q _ 4 rfl rfl rfl rfl)).on hb1)
  have FGg0 := hid ((ldN g0 8 f0 (four_at g0 _ 8 rfl rfl rfl rfl)).on hb1)
  have FGB := hid (onbk f0 _ hb1)
  have FGBx := hid (onbk (onbk f0 _ hb1))
  have FZ : Hid (On (W0.alloc (.cells #[.int .u64 0, .int .u64 0, .int .u64 0, .int .u64 0] 26)) fun u => Nm u (w.heap.size + 1) 0) := hid (onNm (nm_zero hz1))
  clear hz1
  generalize W0.alloc (.cells #[.int .u64 0, .int .u64 0, .int .u64 0, .int .u64 0] 26) = w0 at *
  clear hB0 hs0 hb1 f0
  generalize w.heap.size + 1 = g_z at *
  generalize hgp : w.heap.size = g_p at *
  have l1 := FGq.out.here
  go_wp2_with (first | (refine wp_ld rfl _ _ rfl _ rfl _ (by first | exact l1) ?_))
  clear l1
  refine (rcmp3 q c _ HQ.out HC.out).mono ?_
  rintro e w1 ⟨rfl, hb⟩
  have HB := hid (HB.out.trans (hb.mono HB.out.size))
  have FG := hid (FG.out.on hb)
  have FGp := hid (FGp.out.on hb)
  have FGq := hid (FGq.out.on hb)
  have FGg0 := hid (FGg0.out.on hb)
  have FGBx := hid (FGBx.out.on hb)
  have FZ := hid (FZ.out.on hb)
  clear hb
  have hcd := HCD.out
  have hE := env_one HB.out FZ.out.here
  obtain ⟨z0, z1, z2, z3⟩ := hE.cell g_z 0 (by simp)
  have zl := hE.lt g_z 0 (by simp)
  have zf := hE.frozen g_z 0 (by simp)
  have HZ := hid (hE.set g_z 0 (0) [] (by simp) (Nat.le_of_eq HZ0.out) (by simp))
  go_wp2
  clear hE z0 z1 z2 z3 zl zf 
  try rw [Exit.noGoto_ret]
  change bodyPost _ _ _ _ _ (fil w1 g_z (0))
  generalize fil w1 g_z (0) = wz at *
  obtain ⟨k0, k1, k2, k3⟩ := HZ.out.cell g_z (0) (by simp)
  exact bodyPost_ret (v := .tuple #[num (0), .int .i64 1]) (by simp [results, Tryd.results12, go_sem, k0, k1, k2, k3]) rfl ⟨rfl, by first | exact HFIN.out _ HZ.out.1 | (rw [hgp]; exact HFIN.out _ HZ.out.1)⟩
set_option maxRecDepth 100000 in
set_option maxHeartbeats 4000000 in
theorem rexpo_st (g n p q g0 : Nat) (bs : List UInt8) (w : World) (h : Sr w g bs n) (hb : bs.length = 32) (hn : n + 1 < 18446744073709551616) (hq : q < 2 ^ 256) (h3 : ¬ q < 3) :
    Calls Tryd.prog 12 #[.pointer (some ⟨g, 0, none⟩), gv p q g0] w fun e w' => e = .returned (.tuple #[num (dexp q (dsum bs n)), .int .i64 0]) ∧ Hid (w.grownBy w' (some g) ∧ Sr w' g bs (n + 1)) := by
  have HLB := hid hb
  have HN := hid hn
  have HQ := hid hq
  obtain ⟨c, hc⟩ : ∃ c, cmpN q 3 = c := ⟨_, rfl⟩
  have HC := hid hc
  have HCD := hid (show decide (c < 0) = false by rcases cmp_three q with ⟨_, h1⟩ | ⟨h1, _⟩; exact absurd h1 h3; (rw [← hc]; exact decide_eq_false h1))
  have KL := hid (dsum_length bs n)
  obtain ⟨kk, hkk⟩ : ∃ kk, dsum bs n = kk := ⟨_, rfl⟩
  have KE := hid hkk
  rw [hkk] at KL ⊢
  obtain ⟨m, hm⟩ : ∃ m, m = q - 1 := ⟨_, rfl⟩
  obtain ⟨r, hr⟩ : ∃ r, xof kk m = r := ⟨_, rfl⟩
  have hd : dexp q kk = r + 1 := by unfold dexp; rw [← hm, hr]
  rw [hd]
  have HR := hid hr
  have hrl := xof_lt kk m (by omega)
  rw [hr] at hrl
  obtain ⟨d, hd2⟩ : ∃ d, d = r + 1 := ⟨_, rfl⟩
  rw [← hd2]
  have HSB := hid (show dif q 1 = m by unfold dif; rw [if_neg (by omega), hm])
  have HLT := hid (show ((lent q 1 : Nat) : Int) = 0 by unfold lent; rw [if_neg (by omega)]; rfl)
  have HM := hid (show m < 2 ^ 256 by omega)
  have H0 := hid (show m ≠ 0 by omega)
  have HRB := hid (show r < 2 ^ 256 by omega)
  have HA1 := hid (show (r + 1) % 2 ^ 256 = d by rw [Nat.mod_eq_of_lt (by omega), hd2])
  have HA2 := hid (show (((r + 1) / 2 ^ 256 : Nat) : Int) = 0 by rw [Nat.div_eq_of_lt (by omega)]; rfl)
  have HST := hid (fun u (hu : Below w.heap.size w u) => Sc.on h hu)
  have HLG := hid (Sc.lt h)
  have HGW := hid (fun u (hu : Below w.heap.size w u) => grown_of hu (some g))
  have HIk := hi44 kk KL.out
  have HOk := ho32 kk KL.out
  have HL := KL
  clear h hb hn hq h3 hc hkk hm hr hd hrl hd2
  have hB0 := (Below.refl w.heap.size w).alloc (Nat.le_refl _) (.cells (gcs p q g0) 28)
  have hs0 : (w.alloc (.cells (gcs p q g0) 28)).heap.size = w.heap.size + 1 := sz1 _ _
  have f0 := heap_alloc_new w (.cells (gcs p q g0) 28)
  have HFIN : Hid (∀ u, Below (w.alloc (.cells (gcs p q g0) 28)).heap.size (w.alloc (.cells (gcs p q g0) 28)) u → Below w.heap.size w u) := hid (fun u hu => hB0.trans (hu.mono hB0.size))
  go_enter Tryd.func12, Tryd.ntmps12
  go_upto_region 1 with fail
  generalize w.alloc (.cells (gcs p q g0) 28) = W0 at *
  have hb1 := (Below.refl W0.heap.size W0).alloc (Nat.le_refl _) (.cells #[.int .u64 0, .int .u64 0, .int .u64 0, .int .u64 0] 26)
  have hz1 := heap_alloc_new W0 (.cells #[.int .u64 0, .int .u64 0, .int .u64 0, .int .u64 0] 26)
  rw [hs0] at hz1
  have HB := hid hb1
  have HZ0 : Hid (W0.heap.size = w.heap.size + 1) := hid hs0
  have HZW : Hid (w.heap.size < w.heap.size + 1) := hid (by omega)
  have FG := hid ((ldG p q g0 0 f0 (all_at _)).on hb1)
  have FGp := hid ((ldN p 0 f0 (four_at p _ 0 rfl rfl rfl rfl)).on hb1)
  have FGq := hid ((ldN q 4 f0 (four_at q _ 4 rfl rfl rfl rfl)).on hb1)
  have FGg0 := hid ((ldN g0 8 f0 (four_at g0 _ 8 rfl rfl rfl rfl)).on hb1)
  have FGB := hid (onbk f0 _ hb1)
  have FGBx := hid (onbk (onbk f0 _ hb1))
  have FZ : Hid (On (W0.alloc (.cells #[.int .u64 0, .int .u64 0, .int .u64 0, .int .u64 0] 26)) fun u => Nm u (w.heap.size + 1) 0) := hid (onNm (nm_zero hz1))
  clear hz1
  generalize W0.alloc (.cells #[.int .u64 0, .int .u64 0, .int .u64 0, .int .u64 0] 26) = w0 at *
  clear hB0 hs0 hb1 f0
  generalize w.heap.size + 1 = g_z at *
  generalize hgp : w.heap.size = g_p at *
  have l1 := FGq.out.here
  go_wp2_with (first | (refine wp_ld rfl _ _ rfl _ rfl _ (by first | exact l1) ?_))
  clear l1
  refine (rcmp3 q c _ HQ.out HC.out).mono ?_
  rintro e w1 ⟨rfl, hb⟩
  have HB := hid (HB.out.trans (hb.mono HB.out.size))
  have FG := hid (FG.out.on hb)
  have FGp := hid (FGp.out.on hb)
  have FGq := hid (FGq.out.on hb)
  have FGg0 := hid (FGg0.out.on hb)
  have FGBx := hid (FGBx.out.on hb)
  have FZ := hid (FZ.out.on hb)
  clear hb
  have hcd := HCD.out
  have HBW := hid (show Below _ w w1 from HFIN.out _ HB.out)
  have HS := hid (HST.out w1 HBW.out)
  have HG := hid (HGW.out w1 HBW.out)
  have HFZ := hid (show w1.heap[g_z]? = some (.cells (cls 0) 26 (0, 0)) from FZ.out.here)
  have NZg := hid (show g_z ≠ g by have := HLG.out; have := HZW.out; omega)
  have HGZ := hid (show w.heap.size ≤ g_z by have := HZW.out; omega)
  have NPg := hid (show g_p ≠ g by have := HLG.out; omega)
  have HGB := hid (show w1.heap[g_p]? = some (.cells (gcs p q g0) 28 (0, 0)) from FGBx.out.here)
  clear HST HGW HBW HFIN HB FG FGp FGq FGg0 FGB FGBx FZ HC HCD
  go_wp2_with fail
  clear hcd
  refine (rnext_st g n bs w1 HS.out HLB.out HN.out).mono ?_
  rintro e w3 ⟨rfl, hq⟩
  rw [KE.out]
  have HS := hid hq.out.2
  have HG := hid (gr_put HG.out hq.out.1)
  have HFZ := hid (bk_grown HFZ.out hq.out.1 NZg.out)
  have HGB := hid (bk_grown HGB.out hq.out.1 NPg.out)
  clear hq
  obtain ⟨hB4, hX4, hs4⟩ := box1 w3 23 kk
  have HS := hid (Sc.on HS.out hB4.out)
  have HG := hid (gr_on HG.out hB4.out)
  have HFZ := hid (onbk HFZ.out _ hB4.out)
  have HGB := hid (onbk HGB.out _ hB4.out)
  have HX := hid hX4.out
  clear hB4 hX4 hs4
  go_upto_region 4 with (refine wpList_store_row rfl 23 (.tmp 6) (.tmp 18) rfl w3.heap.size (bvs kk).toArray rfl rfl 23 _ (heap_alloc_new _ _) HIk.out HOk.out (bvs_all _) ?_; rw [World.setRow_alloc_new])
  generalize w3.alloc (.cells (bvs kk).toArray 23) = w4 at *
  generalize w3.heap.size = g_s at *
  have FZ4 := hid (show g_z < w4.heap.size from lt_of_block HFZ.out)
  have FG4 := hid (show g < w4.heap.size from Sc.lt HS.out)
  have FSS := hid (on_sc HS.out)
  have FZB := hid (onbk HFZ.out)
  have FGq := hid (ldN q 4 HGB.out (four_at q _ 4 rfl rfl rfl rfl))
  have FRS := hid (on_rd (bt_rd HX.out))
  have HB := hid (Below.refl w4.heap.size w4)
  clear HS HFZ HGB HX
  have l2 := FGq.out.here
  go_wp2_with (first | (refine wp_ld rfl _ _ rfl _ rfl _ (by first | exact l2) ?_))
  clear l2
  refine (rsub1 q m _ HQ.out HSB.out HLT.out).mono ?_
  rintro e w2 ⟨rfl, hb⟩
  have HB := hid (HB.out.trans (hb.mono HB.out.size))
  have FSS := hid (FSS.out.on hb)
  have FZB := hid (FZB.out.on hb)
  have FGq := hid (FGq.out.on hb)
  have FRS := hid (FRS.out.on hb)
  clear hb
  go_upto_region 5 with fail
  have hb := (Below.refl w2.heap.size w2).alloc (Nat.le_refl _) (.cells (cls m) 26)
  have hn := heap_alloc_new w2 (.cells (cls m) 26)
  have HB := hid (HB.out.trans (hb.mono HB.out.size))
  have FSS := hid (FSS.out.on hb)
  have FZB := hid (FZB.out.on hb)
  have FGq := hid (FGq.out.on hb)
  have FRS := hid (FRS.out.on hb)
  have FN7 := hid (ldN m 0 hn (all_at _))
  clear hb hn
  generalize w2.alloc (.cells (cls m) 26) = w3 at *
  generalize w2.heap.size = gN7 at *
  go_cut [9, 10] (fun s9 s10 wx => ∃ g9 : Nat, s9 = .pointer (some ⟨g9, 0, none⟩) ∧ s10 = .int .i64 0 ∧ Hid (Below w3.heap.size w3 wx ∧ w3.heap.size ≤ g9 ∧ Nm wx g9 r))
  case first =>
    refine wp_region_noPanic ?_
    refine Goes.region (fun (_ : Array Bool) (u : World) => Below w3.heap.size w3 u) (by as_aux_lemma => kernel_rfl) ?_
    have HB := hid (p := Below w3.heap.size w3 w3.drew) (Below.refl _ _).drew
    generalize w3.drew = w3d at *
    refine Goes.tk (i := 0) (o := ⟨some 27, _, _, _, _, _⟩) [] (y := Or.inl ⟨by rfl, fun u hY => y_ld _ _ rfl (.pointer (some ⟨gN7, 0, none⟩)) _ rfl (FN7.out u (yet_of hY))⟩) (s := HB.out) (H := ?_)
    try simp only [putz]
    refine Goes.tk (i := 1) (o := ⟨some 28, _, _, _, _, _⟩) (v := ?_) [] (y := Or.inl ⟨by rfl, ?_⟩) (s := HB.out) (H := ?_)
    rotate_left
    · intro u hY; have hsl := sl32 g_s; go_simp; try with_reducible rfl
    try simp only [putz]
    refine Goes.two (i := 2) (j := 7) (o := ⟨some 29, _, _, _, _, _⟩) (p := ⟨some 9, _, _, _, _, _⟩) (by as_aux_lemma => kernel_rfl) rfl rfl (fun K hK => ?_) (fun K hK => ?_)
    · skip
      go_simp
      have hb := (Below.refl w3d.heap.size w3d).alloc (Nat.le_refl _) (.cells #[.slice (some ⟨g_s, 0, none⟩) 32 32] 47)
      have hh := Blk.new w3d #[.slice (some ⟨g_s, 0, none⟩) 32 32] 47
      have hz := HB.out.size
      refine hK.out _ _ (HB.out.trans (hb.mono HB.out.size)) ?_
      clear hK K
      try simp only [putz]
      have HB := hid (HB.out.trans (hb.mono HB.out.size))
      generalize w3d.alloc (.cells #[.slice (some ⟨g_s, 0, none⟩) 32 32] 47) = w3_1 at *
      generalize w3d.heap.size = g_1 at *
      have F3 := hid (And.intro hh hz)
      clear hb hh hz
      refine Goes.two (i := 3) (j := 7) (o := ⟨some 30, _, _, _, _, _⟩) (p := ⟨some 9, _, _, _, _, _⟩) (by as_aux_lemma => kernel_rfl) rfl rfl (fun K hK => ?_) (fun K hK => ?_)
      · skip
        go_simp
        refine (rnum_ex m r g_1 g_s kk w3_1 HM.out H0.out F3.out.1 (FRS.out _ HB.out) HL.out HR.out).mono ?_
        rintro e w3_2 ⟨rfl, hb⟩
        go_wp2_with fail
        refine hK.out _ _ (HB.out.trans (hb.mono HB.out.size)) ?_
        clear hK K
        try simp only [putz]
        have HB := hid (HB.out.trans (hb.mono HB.out.size))
        have F3 := hid (And.intro (F3.out.1.on hb) F3.out.2)
        clear hb
        refine Goes.tk (i := 4) (o := ⟨some 26, _, _, _, _, _⟩) (v := ?_) [] (y := Or.inl ⟨by rfl, ?_⟩) (s := HB.out) (H := ?_)
        rotate_left
        · intro u hY; go_simp; try with_reducible rfl
        try simp only [putz]
        refine Goes.tk (i := 5) (o := ⟨some 31, _, _, _, _, _⟩) (v := ?_) [] (y := Or.inl ⟨by rfl, ?_⟩) (s := HB.out) (H := ?_)
        rotate_left
        · intro u hY; go_simp; try with_reducible rfl
        try simp only [putz]
        refine Goes.tk (i := 6) (o := ⟨some 32, _, _, _, _, _⟩) (v := ?_) [] (y := Or.inl ⟨by rfl, ?_⟩) (s := HB.out) (H := ?_)
        rotate_left
        · intro u hY; go_simp; try with_reducible rfl
        try simp only [putz]
        refine Goes.one (i := 7) (o := ⟨some 9, _, _, _, _, _⟩) (by as_aux_lemma => kernel_rfl) rfl (fun K hK => ?_)
        go_simp
        have hb := (Below.refl w3_2.heap.size w3_2).alloc (Nat.le_refl _) (.cells #[.int .u64 0, .int .u64 0, .int .u64 0, .int .u64 0] 26)
        have hh := nm_zero (heap_alloc_new w3_2 (.cells #[.int .u64 0, .int .u64 0, .int .u64 0, .int .u64 0] 26))
        have hz := HB.out.size
        refine hK.out _ _ (HB.out.trans (hb.mono HB.out.size)) ?_
        clear hK K
        try simp only [putz]
        have HB := hid (HB.out.trans (hb.mono HB.out.size))
        have F3 := hid (And.intro (F3.out.1.on hb) F3.out.2)
        generalize w3_2.alloc (.cells #[.int .u64 0, .int .u64 0, .int .u64 0, .int .u64 0] 26) = w3_3 at *
        generalize w3_2.heap.size = gz_3 at *
        have FZ := hid (And.intro hh hz)
        clear hb hh hz
        refine Goes.one (i := 8) (o := ⟨none, _, _, _, _, _⟩) (by as_aux_lemma => kernel_rfl) rfl (fun K hK => ?_)
        rw [if_pos (by rfl)]
        have hz := FZ.out.1
        unfold Nm at hz
        refine wp_store_row 26 (.tmp 9) (.tmp 31) (by rfl) gz_3 (cls r) (by rfl) (by rfl) 26 _ hz (inum r) rfl (clsall r) ?_
        have HW := below_setRow HB.out FZ.out.2 (cls r)
        have HT := hid (nm_row FZ.out.1 r)
        refine hK.out _ _ HW ?_
        clear hK K
        try simp only [putz]
        have HB := hid HW
        refine Goes.tk (i := 9) (o := ⟨some 10, _, _, _, _, _⟩) (v := ?_) [] (y := Or.inl ⟨by rfl, ?_⟩) (s := HB.out) (H := ?_)
        rotate_left
        · intro u hY; go_simp; try with_reducible rfl
        try simp only [putz]
        refine Goes.done (by as_aux_lemma => kernel_rfl) ?_ _
        refine NoPanic.normal ?_
        go_wp2
        go_meet
        exact ⟨_, rfl, rfl, hid ⟨HW, FZ.out.2, HT.out⟩⟩
      · skip
        go_simp
        have hb := (Below.refl w3_1.heap.size w3_1).alloc (Nat.le_refl _) (.cells #[.int .u64 0, .int .u64 0, .int .u64 0, .int .u64 0] 26)
        have hh := nm_zero (heap_alloc_new w3_1 (.cells #[.int .u64 0, .int .u64 0, .int .u64 0, .int .u64 0] 26))
        have hz := HB.out.size
        refine hK.out _ _ (HB.out.trans (hb.mono HB.out.size)) ?_
        clear hK K
        try simp only [putz]
        have HB := hid (HB.out.trans (hb.mono HB.out.size))
        have F3 := hid (And.intro (F3.out.1.on hb) F3.out.2)
        generalize w3_1.alloc (.cells #[.int .u64 0, .int .u64 0, .int .u64 0, .int .u64 0] 26) = w3_4 at *
        generalize w3_1.heap.size = gz_4 at *
        have FZ := hid (And.intro hh hz)
        clear hb hh hz
        refine Goes.one (i := 3) (o := ⟨some 30, _, _, _, _, _⟩) (by as_aux_lemma => kernel_rfl) rfl (fun K hK => ?_)
        go_simp
        refine (rnum_ex m r g_1 g_s kk w3_4 HM.out H0.out F3.out.1 (FRS.out _ HB.out) HL.out HR.out).mono ?_
        rintro e w3_5 ⟨rfl, hb⟩
        go_wp2_with fail
        refine hK.out _ _ (HB.out.trans (hb.mono HB.out.size)) ?_
        clear hK K
        try simp only [putz]
        have HB := hid (HB.out.trans (hb.mono HB.out.size))
        have F3 := hid (And.intro (F3.out.1.on hb) F3.out.2)
        have FZ := hid (And.intro (FZ.out.1.on hb) FZ.out.2)
        clear hb
        refine Goes.tk (i := 4) (o := ⟨some 26, _, _, _, _, _⟩) (v := ?_) [] (y := Or.inl ⟨by rfl, ?_⟩) (s := HB.out) (H := ?_)
        rotate_left
        · intro u hY; go_simp; try with_reducible rfl
        try simp only [putz]
        refine Goes.tk (i := 5) (o := ⟨some 31, _, _, _, _, _⟩) (v := ?_) [] (y := Or.inl ⟨by rfl, ?_⟩) (s := HB.out) (H := ?_)
        rotate_left
        · intro u hY; go_simp; try with_reducible rfl
        try simp only [putz]
        refine Goes.tk (i := 6) (o := ⟨some 32, _, _, _, _, _⟩) (v := ?_) [] (y := Or.inl ⟨by rfl, ?_⟩) (s := HB.out) (H := ?_)
        rotate_left
        · intro u hY; go_simp; try with_reducible rfl
        try simp only [putz]
        refine Goes.one (i := 8) (o := ⟨none, _, _, _, _, _⟩) (by as_aux_lemma => kernel_rfl) rfl (fun K hK => ?_)
        rw [if_pos (by rfl)]
        have hz := FZ.out.1
        unfold Nm at hz
        refine wp_store_row 26 (.tmp 9) (.tmp 31) (by rfl) gz_4 (cls r) (by rfl) (by rfl) 26 _ hz (inum r) rfl (clsall r) ?_
        have HW := below_setRow HB.out FZ.out.2 (cls r)
        have HT := hid (nm_row FZ.out.1 r)
        refine hK.out _ _ HW ?_
        clear hK K
        try simp only [putz]
        have HB := hid HW
        refine Goes.tk (i := 9) (o := ⟨some 10, _, _, _, _, _⟩) (v := ?_) [] (y := Or.inl ⟨by rfl, ?_⟩) (s := HB.out) (H := ?_)
        rotate_left
        · intro u hY; go_simp; try with_reducible rfl
        try simp only [putz]
        refine Goes.done (by as_aux_lemma => kernel_rfl) ?_ _
        refine NoPanic.normal ?_
        go_wp2
        go_meet
        exact ⟨_, rfl, rfl, hid ⟨HW, FZ.out.2, HT.out⟩⟩
    · skip
      go_simp
      have hb := (Below.refl w3d.heap.size w3d).alloc (Nat.le_refl _) (.cells #[.int .u64 0, .int .u64 0, .int .u64 0, .int .u64 0] 26)
      have hh := nm_zero (heap_alloc_new w3d (.cells #[.int .u64 0, .int .u64 0, .int .u64 0, .int .u64 0] 26))
      have hz := HB.out.size
      refine hK.out _ _ (HB.out.trans (hb.mono HB.out.size)) ?_
      clear hK K
      try simp only [putz]
      have HB := hid (HB.out.trans (hb.mono HB.out.size))
      generalize w3d.alloc (.cells #[.int .u64 0, .int .u64 0, .int .u64 0, .int .u64 0] 26) = w3_6 at *
      generalize w3d.heap.size = gz_6 at *
      have FZ := hid (And.intro hh hz)
      clear hb hh hz
      refine Goes.one (i := 2) (o := ⟨some 29, _, _, _, _, _⟩) (by as_aux_lemma => kernel_rfl) rfl (fun K hK => ?_)
      go_simp
      have hb := (Below.refl w3_6.heap.size w3_6).alloc (Nat.le_refl _) (.cells #[.slice (some ⟨g_s, 0, none⟩) 32 32] 47)
      have hh := Blk.new w3_6 #[.slice (some ⟨g_s, 0, none⟩) 32 32] 47
      have hz := HB.out.size
      refine hK.out _ _ (HB.out.trans (hb.mono HB.out.size)) ?_
      clear hK K
      try simp only [putz]
      have HB := hid (HB.out.trans (hb.mono HB.out.size))
      have FZ := hid (And.intro (FZ.out.1.on hb) FZ.out.2)
      generalize w3_6.alloc (.cells #[.slice (some ⟨g_s, 0, none⟩) 32 32] 47) = w3_7 at *
      generalize w3_6.heap.size = g_7 at *
      have F3 := hid (And.intro hh hz)
      clear hb hh hz
      refine Goes.one (i := 3) (o := ⟨some 30, _, _, _, _, _⟩) (by as_aux_lemma => kernel_rfl) rfl (fun K hK => ?_)
      go_simp
      refine (rnum_ex m r g_7 g_s kk w3_7 HM.out H0.out F3.out.1 (FRS.out _ HB.out) HL.out HR.out).mono ?_
      rintro e w3_8 ⟨rfl, hb⟩
      go_wp2_with fail
      refine hK.out _ _ (HB.out.trans (hb.mono HB.out.size)) ?_
      clear hK K
      try simp only [putz]
      have HB := hid (HB.out.trans (hb.mono HB.out.size))
      have FZ := hid (And.intro (FZ.out.1.on hb) FZ.out.2)
      have F3 := hid (And.intro (F3.out.1.on hb) F3.out.2)
      clear hb
      refine Goes.tk (i := 4) (o := ⟨some 26, _, _, _, _, _⟩) (v := ?_) [] (y := Or.inl ⟨by rfl, ?_⟩) (s := HB.out) (H := ?_)
      rotate_left
      · intro u hY; go_simp; try with_reducible rfl
      try simp only [putz]
      refine Goes.tk (i := 5) (o := ⟨some 31, _, _, _, _, _⟩) (v := ?_) [] (y := Or.inl ⟨by rfl, ?_⟩) (s := HB.out) (H := ?_)
      rotate_left
      · intro u hY; go_simp; try with_reducible rfl
      try simp only [putz]
      refine Goes.tk (i := 6) (o := ⟨some 32, _, _, _, _, _⟩) (v := ?_) [] (y := Or.inl ⟨by rfl, ?_⟩) (s := HB.out) (H := ?_)
      rotate_left
      · intro u hY; go_simp; try with_reducible rfl
      try simp only [putz]
      refine Goes.one (i := 8) (o := ⟨none, _, _, _, _, _⟩) (by as_aux_lemma => kernel_rfl) rfl (fun K hK => ?_)
      rw [if_pos (by rfl)]
      have hz := FZ.out.1
      unfold Nm at hz
      refine wp_store_row 26 (.tmp 9) (.tmp 31) (by rfl) gz_6 (cls r) (by rfl) (by rfl) 26 _ hz (inum r) rfl (clsall r) ?_
      have HW := below_setRow HB.out FZ.out.2 (cls r)
      have HT := hid (nm_row FZ.out.1 r)
      refine hK.out _ _ HW ?_
      clear hK K
      try simp only [putz]
      have HB := hid HW
      refine Goes.tk (i := 9) (o := ⟨some 10, _, _, _, _, _⟩) (v := ?_) [] (y := Or.inl ⟨by rfl, ?_⟩) (s := HB.out) (H := ?_)
      rotate_left
      · intro u hY; go_simp; try with_reducible rfl
      try simp only [putz]
      refine Goes.done (by as_aux_lemma => kernel_rfl) ?_ _
      refine NoPanic.normal ?_
      go_wp2
      go_meet
      exact ⟨_, rfl, rfl, hid ⟨HW, FZ.out.2, HT.out⟩⟩
  case rest =>
    obtain ⟨g9, rfl, rfl, HC⟩ := hcut
    have hb := HC.out.1
    have HN9 := hid HC.out.2.2
    have HG9 := hid (Nat.le_trans HB.out.size HC.out.2.1)
    have HB := hid (HB.out.trans (hb.mono HB.out.size))
    have FSS := hid (FSS.out.on hb)
    have FZB := hid (FZB.out.on hb)
    have FGq := hid (FGq.out.on hb)
    have FRS := hid (FRS.out.on hb)
    have FN7 := hid (FN7.out.on hb)
    clear hb HC
    have FN9 := hid (ldN r 0 HN9.out (all_at _))
    have FB9 := hid (onbk HN9.out)
    clear HN9
    have l3 := FN9.out.here
    go_wp2_with (first | (refine wp_ld rfl _ _ rfl _ rfl _ (by first | exact l3) ?_))
    clear l3
    refine (radd1 r d _ HRB.out HA1.out HA2.out).mono ?_
    rintro e w4 ⟨rfl, hb⟩
    have HB := hid (HB.out.trans (hb.mono HB.out.size))
    have FSS := hid (FSS.out.on hb)
    have FZB := hid (FZB.out.on hb)
    have FGq := hid (FGq.out.on hb)
    have FRS := hid (FRS.out.on hb)
    have FN7 := hid (FN7.out.on hb)
    have FN9 := hid (FN9.out.on hb)
    have FB9 := hid (FB9.out.on hb)
    clear hb
    have hz := FB9.out.here
    go_upto_region 7 with (refine wpList_store_row rfl 26 (.tmp 9) (.tmp 37) rfl g9 (cls d) rfl rfl 26 _ hz (inum d) rfl (clsall d) ?_)
    have HBR := below_setRow HB.out HG9.out (cls d)
    have HX9 := hid (nm_row (show Nm w4 g9 r from hz) d)
    have NZ9 := hid (show g_z ≠ g9 by have := lt_of_block FZB.out.here; have := HG9.out; have := FZ4.out; omega)
    have FZR := hid ((setRow_other w4 g9 g_z (cls d) NZ9.out).trans FZB.out.here)
    have HSR := st_row FSS.out.here (show g ≠ g9 by have := FG4.out; have := HG9.out; omega) (cls d)
    have HGR := gr_on HG.out HBR
    have hl := (ldN d 0 HX9.out (all_at _)).here
    have hzz := FZR.out
    clear hz
    generalize w4.setRow g9 (cls d) = w9 at *
    go_wp2_with (first | (refine wp_ld rfl _ _ rfl _ rfl _ hl ?_) | (refine wpList_store_row rfl 26 (.tmp 4) (.tmp 39) rfl g_z (cls d) rfl rfl 26 _ hzz (inum d) rfl (clsall d) ?_))
    have HWR := gr_row HGR HGZ.out (cls d)
    have HT := hid (nm_row (show Nm w9 g_z 0 from hzz) d)
    have HSF := st_row HSR NZg.out.symm (cls d)
    obtain ⟨k0, k1, k2, k3⟩ := HT.out.cell
    exact bodyPost_ret (v := .tuple #[num d, .int .i64 0]) (by simp [results, Tryd.results12, go_sem, k0, k1, k2, k3]) rfl ⟨rfl, hid ⟨HWR, HSF⟩⟩
end Go.Proofs.YtcijnoapjicliaaDoor
namespace Go.Proofs.YtcijnoapjicliaaDoor
open Go.RowKit
set_option linter.unusedVariables false
set_option linter.unusedSimpArgs false

theorem rdrawn_ex (g n : Nat) (z : Int) (bs : List UInt8) (w : World) (h : Sr w g bs n) (hb : bs.length = 32) (hz : (n : Int) = z) : Calls Tryd.prog 16 #[.pointer (some ⟨g, 0, none⟩)] w fun e w' => e = .returned (.int .u64 z) ∧ w = w' := hz ▸ rdrawn_st g n bs w h hb
set_option maxRecDepth 100000 in
set_option maxHeartbeats 4000000 in
theorem play11_law (bs : List UInt8) (p q g0 : Nat) (A : Option Addr) (nn cc : Nat) (B : Nat → Bool) (w : World) (hb : bs.length = 32) (hq : q < 2 ^ 256) (hr : Fl w A nn B) (hk : Kt w) : Calls Tryd.prog 3 #[.agg (bvs bs).toArray, gv p q g0, .slice A nn cc] w fun e w' => e = .returned (.bool true) ∧ Below w.heap.size w w' := by
  have HK := hid hk
  have HB := hid (Below.refl w.heap.size w)
  have HL := hid hb
  have HQ := hid hq
  have HR := hid hr
  have HCX := hid (Nat.lt_or_ge q 3)
  clear hk hb hq hr
  by_cases hlong : nn > 200
  · have hli : (nn : Int) > 200 := by omega
    go_enter Tryd.func3, Tryd.ntmps3
    go_upto_region 1 with fail
    have hb := (Below.refl w.heap.size w).alloc (Nat.le_refl _) (.cells (bvs bs).toArray 23)
    have hn := heap_alloc_new w (.cells (bvs bs).toArray 23)
    have HB := hid (HB.out.trans (hb.mono HB.out.size))
    have HK := hid (HK.out.on hb)
    have HXs := hid hn
    clear hb hn
    have hsz := sz1 w (.cells (bvs bs).toArray 23)
    generalize w.alloc (.cells (bvs bs).toArray 23) = w1 at *
    generalize hgs : w.heap.size = g_s at HXs hsz ⊢
    rw [← hsz]
    clear hsz
    have hb := (Below.refl w1.heap.size w1).alloc (Nat.le_refl _) (.cells (gcs p q g0) 28)
    have hn := heap_alloc_new w1 (.cells (gcs p q g0) 28)
    have HB := hid (HB.out.trans (hb.mono HB.out.size))
    have HK := hid (HK.out.on hb)
    have HXs := hid (onbk HXs.out _ hb)
    have HXp := hid hn
    clear hb hn
    generalize w1.alloc (.cells (gcs p q g0) 28) = w2 at *
    generalize w1.heap.size = g_p at *
    go_wp2_with fail
    refine (lives11_any _ HK.out).mono ?_
    rintro e w3 ⟨rfl, hb⟩
    have HB := hid (HB.out.trans (hb.mono HB.out.size))
    have HK := hid (HK.out.on hb)
    have HXs := hid (onbk HXs.out _ hb)
    have HXp := hid (onbk HXp.out _ hb)
    clear hb
    go_wp2
    go_ret
    exact ⟨rfl, HB.out⟩
  · have hli : ¬ (nn : Int) > 200 := by omega
    have HNL := hid (show nn ≤ 200 by omega)
    clear hlong
    go_enter Tryd.func3, Tryd.ntmps3
    go_upto_region 1 with fail
    have hb := (Below.refl w.heap.size w).alloc (Nat.le_refl _) (.cells (bvs bs).toArray 23)
    have hn := heap_alloc_new w (.cells (bvs bs).toArray 23)
    have HB := hid (HB.out.trans (hb.mono HB.out.size))
    have HK := hid (HK.out.on hb)
    have HXs := hid hn
    clear hb hn
    have hsz := sz1 w (.cells (bvs bs).toArray 23)
    generalize w.alloc (.cells (bvs bs).toArray 23) = w4 at *
    generalize hgs : w.heap.size = g_s at HXs hsz ⊢
    rw [← hsz]
    clear hsz
    have hb := (Below.refl w4.heap.size w4).alloc (Nat.le_refl _) (.cells (gcs p q g0) 28)
    have hn := heap_alloc_new w4 (.cells (gcs p q g0) 28)
    have HB := hid (HB.out.trans (hb.mono HB.out.size))
    have HK := hid (HK.out.on hb)
    have HXs := hid (onbk HXs.out _ hb)
    have HXp := hid hn
    clear hb hn
    generalize w4.alloc (.cells (gcs p q g0) 28) = w5 at *
    generalize w4.heap.size = g_p at *
    have l1 := (ldS bs HL.out 0 HXs.out (fun j v h => by rw [Nat.zero_add]; simpa using h)).here
    go_wp2_with (first | (refine wp_ld rfl _ _ rfl _ rfl _ (by first | exact l1) ?_))
    clear l1
    refine (new_st bs _ HL.out).mono ?_
    rintro e w6 ⟨g_a, rfl, hq⟩
    have hb := hq.out.2.2
    have HGa := hid (Nat.le_trans HB.out.size hq.out.1)
    have N2a := hid (show 2 ≠ g_a by have := HK.out.lt; have := hq.out.1; omega)
    have NXsa := hid (show g_s ≠ g_a by have := lt_of_block HXs.out; have := hq.out.1; omega)
    have NXpa := hid (show g_p ≠ g_a by have := lt_of_block HXp.out; have := hq.out.1; omega)
    have HB := hid (HB.out.trans (hb.mono HB.out.size))
    have HK := hid (HK.out.on hb)
    have HXs := hid (onbk HXs.out _ hb)
    have HXp := hid (onbk HXp.out _ hb)
    have HSa := hid hq.out.2.1
    clear hb hq
    have l2 := (ldS bs HL.out 0 HXs.out (fun j v h => by rw [Nat.zero_add]; simpa using h)).here
    go_wp2_with (first | (refine wp_ld rfl _ _ rfl _ rfl _ (by first | exact l2) ?_))
    clear l2
    refine (rnew_st bs _ HL.out).mono ?_
    rintro e w7 ⟨g_m, rfl, hq⟩
    have hb := hq.out.2.2
    have HGm := hid (Nat.le_trans HB.out.size hq.out.1)
    have N2m := hid (show 2 ≠ g_m by have := HK.out.lt; have := hq.out.1; omega)
    have NEam := hid (show g_a ≠ g_m by have := Sc.lt HSa.out; have := hq.out.1; omega)
    have NXsm := hid (show g_s ≠ g_m by have := lt_of_block HXs.out; have := hq.out.1; omega)
    have NXpm := hid (show g_p ≠ g_m by have := lt_of_block HXp.out; have := hq.out.1; omega)
    have HB := hid (HB.out.trans (hb.mono HB.out.size))
    have HK := hid (HK.out.on hb)
    have HSa := hid (Sc.on HSa.out hb)
    have HXs := hid (onbk HXs.out _ hb)
    have HXp := hid (onbk HXp.out _ hb)
    have HSm := hid hq.out.2.1
    clear hb hq
    go_upto_region 6 with fail
    clear hli
    go_loopw [9] (fun i wr => ∃ k n : Nat, k ≤ nn ∧ n ≤ k ∧ i = .int .i64 k ∧ Hid ((Below w.heap.size w wr) ∧ (Kt wr) ∧ (St wr g_a bs n) ∧ (Sr wr g_m bs n) ∧ (wr.heap[g_s]? = some (.cells (bvs bs).toArray 23 (0, 0))) ∧ (wr.heap[g_p]? = some (.cells (gcs p q g0) 28 (0, 0))))) (fun i _ => nn - (intOf i).toNat)
    case atStart => exact ⟨0, 0, Nat.zero_le _, Nat.le_refl _, rfl, hid ⟨HB.out, HK.out, HSa.out, HSm.out, HXs.out, HXp.out⟩⟩
    case round =>
      clear HB HK HSa HSm HXs HXp
      obtain ⟨k, n, hkm, hnk, rfl, HI⟩ := hrel
      have HB := hid HI.out.1
      have HK := hid HI.out.2.1
      have HSa := hid HI.out.2.2.1
      have HSm := hid HI.out.2.2.2.1
      have HXs := hid HI.out.2.2.2.2.1
      have HXp := hid HI.out.2.2.2.2.2
      clear HI
      by_cases hlt : k < nn
      · have hki : (k : Int) < (nn : Int) := by omega
        have HLTK := hid hlt
        have HNK := hid hnk
        obtain ⟨gt, ot, hA, hgt, hcell⟩ := HR.out (by omega)
        subst hA
        obtain ⟨t, htt⟩ : ∃ t : Bool, B k = t := ⟨_, rfl⟩
        have HTC := hid (show ∀ u, Below w.heap.size w u → u.cell? ⟨gt, ot + k, none⟩ = some (.bool t) from fun u hu => by rw [World.cell?_of_block (a := ⟨gt, ot + k, none⟩) (hu.block gt hgt), ← htt]; exact hcell k hlt)
        clear hcell hgt htt hlt hnk
        obtain ⟨kk, hkk⟩ : ∃ kk, dsum bs n = kk := ⟨_, rfl⟩
        have KE := hid hkk
        have KLkk : Hid (kk.length = 32) := hid (by rw [← hkk]; exact dsum_length _ _)
        clear hkk
        have HKB := hid (show n + 1 < 18446744073709551616 by have := HNL.out; have := HLTK.out; have := HNK.out; omega)
        have hw1 : IntKind.i64.wrap ((k : Int) + 1) = (k : Int) + 1 := by have := HNL.out; rw [IntKind.wrap_i64]; omega
        have hcell := HTC.out _ HB.out
        have hb2 : (0 : Int) ≤ (k : Int) ∧ (k : Int) < (nn : Int) := ⟨by omega, by have := HLTK.out; omega⟩
        cases t
        · skip
          go_upto_region 13 with fail
          clear hcell hb2
          go_wp2_with fail
          refine (next_st g_a n bs _ HSa.out HL.out HKB.out HK.out N2a.out).mono ?_
          rintro e w8 ⟨rfl, hq⟩
          have hg := hq.out.1
          have HB := hid (below_gr HB.out hg HGa.out)
          have HK := hid (HK.out.grown hg N2a.out)
          have HSm := hid (Sc.grown HSm.out hg NEam.out.symm)
          have HXs := hid (bk_grown HXs.out hg NXsa.out)
          have HXp := hid (bk_grown HXp.out hg NXpa.out)
          have HSa := hid hq.out.2
          clear hg hq
          rw [KE.out]
          go_wp2_with fail
          refine (rnext_st g_m n bs _ HSm.out HL.out HKB.out).mono ?_
          rintro e w9 ⟨rfl, hq⟩
          have hg := hq.out.1
          have HB := hid (below_gr HB.out hg HGm.out)
          have HK := hid (HK.out.grown hg N2m.out)
          have HSa := hid (Sc.grown HSa.out hg NEam.out)
          have HXs := hid (bk_grown HXs.out hg NXsm.out)
          have HXp := hid (bk_grown HXp.out hg NXpm.out)
          have HSm := hid hq.out.2
          clear hg hq
          rw [KE.out]
          have hq : ∀ W, (Op.equalIn 10000 23 (.agg (bvs kk).toArray) (.agg (bvs kk).toArray)).run Tryd.prog W = .ok true W := fun W => (by rw [eq_sum kk kk KLkk.out KLkk.out W]; simp)
          go_upto_region 15 with fail
          clear hq
          go_wp2_with fail
          refine (drawn_ex g_a (n + 1) ((n : Int) + 1) bs _ HSa.out HL.out rfl).mono ?_
          rintro e wx ⟨rfl, rfl⟩
          go_wp2_with fail
          refine (rdrawn_ex g_m (n + 1) ((n : Int) + 1) bs _ HSm.out HL.out rfl).mono ?_
          rintro e wx ⟨rfl, rfl⟩
          go_wp2
          go_roundw
          case rel => exact ⟨k + 1, (n + 1), HLTK.out, by have := HNK.out; omega, by go_num, hid ⟨HB.out, HK.out, HSa.out, HSm.out, HXs.out, HXp.out⟩⟩
          case measure => simp [intOf]; have := HLTK.out; omega
        · skip
          go_upto_region 9 with fail
          clear hcell hb2
          rcases HCX.out with h3 | h3
          · have H3 := hid h3
            clear h3
            have l3 := (ldG p q g0 0 HXp.out (all_at _)).here
            go_wp2_with (first | (refine wp_ld rfl _ _ rfl _ rfl _ (by first | exact l3) ?_))
            clear l3
            refine (expo_small g_a n p q g0 bs _ HSa.out HQ.out H3.out).mono ?_
            rintro e w10 ⟨rfl, hb⟩
            have HB := hid (HB.out.trans (hb.mono HB.out.size))
            have HK := hid (HK.out.on hb)
            have HSa := hid (Sc.on HSa.out hb)
            have HSm := hid (Sc.on HSm.out hb)
            have HXs := hid (onbk HXs.out _ hb)
            have HXp := hid (onbk HXp.out _ hb)
            clear hb
            go_upto_region 10 with fail
            have hb := (Below.refl w10.heap.size w10).alloc (Nat.le_refl _) (.cells (cls 0) 26)
            have hn := heap_alloc_new w10 (.cells (cls 0) 26)
            have NXxa := hid (show w10.heap.size ≠ g_a by have := Sc.lt HSa.out; omega)
            have NXxm := hid (show w10.heap.size ≠ g_m by have := Sc.lt HSm.out; omega)
            have HB := hid (HB.out.trans (hb.mono HB.out.size))
            have HK := hid (HK.out.on hb)
            have HSa := hid (Sc.on HSa.out hb)
            have HSm := hid (Sc.on HSm.out hb)
            have HXs := hid (onbk HXs.out _ hb)
            have HXp := hid (onbk HXp.out _ hb)
            have HXx := hid hn
            clear hb hn
            generalize w10.alloc (.cells (cls 0) 26) = w11 at *
            generalize w10.heap.size = g_x at *
            have l4 := (ldG p q g0 0 HXp.out (all_at _)).here
            go_wp2_with (first | (refine wp_ld rfl _ _ rfl _ rfl _ (by first | exact l4) ?_))
            clear l4
            refine (rexpo_small g_m p q g0 _ HQ.out H3.out).mono ?_
            rintro e w12 ⟨rfl, hb⟩
            have HB := hid (HB.out.trans (hb.mono HB.out.size))
            have HK := hid (HK.out.on hb)
            have HSa := hid (Sc.on HSa.out hb)
            have HSm := hid (Sc.on HSm.out hb)
            have HXs := hid (onbk HXs.out _ hb)
            have HXp := hid (onbk HXp.out _ hb)
            have HXx := hid (onbk HXx.out _ hb)
            clear hb
            go_upto_region 11 with fail
            have hb := (Below.refl w12.heap.size w12).alloc (Nat.le_refl _) (.cells (cls 0) 26)
            have hn := heap_alloc_new w12 (.cells (cls 0) 26)
            have NXya := hid (show w12.heap.size ≠ g_a by have := Sc.lt HSa.out; omega)
            have NXym := hid (show w12.heap.size ≠ g_m by have := Sc.lt HSm.out; omega)
            have HB := hid (HB.out.trans (hb.mono HB.out.size))
            have HK := hid (HK.out.on hb)
            have HSa := hid (Sc.on HSa.out hb)
            have HSm := hid (Sc.on HSm.out hb)
            have HXs := hid (onbk HXs.out _ hb)
            have HXp := hid (onbk HXp.out _ hb)
            have HXx := hid (onbk HXx.out _ hb)
            have HXy := hid hn
            clear hb hn
            generalize w12.alloc (.cells (cls 0) 26) = w13 at *
            generalize w12.heap.size = g_y at *
            have hq : ∀ W, (Op.equalIn 10000 26 (num 0) (num 0)).run Tryd.prog W = .ok true W := fun W => eq_yes 0 0 rfl W
            have l5 := (ldN 0 0 HXx.out (all_at _)).here
            have l6 := (ldN 0 0 HXy.out (all_at _)).here
            go_upto_region 15 with (first | (refine wp_ld rfl _ _ rfl _ rfl _ (by first | exact l5 | exact l6) ?_))
            clear l5 l6
            clear hq
            go_wp2_with fail
            refine (drawn_ex g_a n (n : Int) bs _ HSa.out HL.out rfl).mono ?_
            rintro e wx ⟨rfl, rfl⟩
            go_wp2_with fail
            refine (rdrawn_ex g_m n (n : Int) bs _ HSm.out HL.out rfl).mono ?_
            rintro e wx ⟨rfl, rfl⟩
            go_wp2
            go_roundw
            case rel => exact ⟨k + 1, n, HLTK.out, by have := HNK.out; omega, by go_num, hid ⟨HB.out, HK.out, HSa.out, HSm.out, HXs.out, HXp.out⟩⟩
            case measure => simp [intOf]; have := HLTK.out; omega
          · have H3 := hid (show ¬ q < 3 by omega)
            clear h3
            obtain ⟨d, hd⟩ : ∃ d, dexp q (dsum bs n) = d := ⟨_, rfl⟩
            have HDE := hid hd
            have HDB := hid (show d < 2 ^ 256 by rw [← hd]; exact Nat.lt_trans (dexp_lt _ _ (by have := H3.out; omega)) HQ.out)
            clear hd
            have l7 := (ldG p q g0 0 HXp.out (all_at _)).here
            go_wp2_with (first | (refine wp_ld rfl _ _ rfl _ rfl _ (by first | exact l7) ?_))
            clear l7
            refine (expo_st g_a n p q g0 bs _ HSa.out HL.out HKB.out HK.out N2a.out HQ.out H3.out).mono ?_
            rintro e w14 ⟨rfl, hq⟩
            have hg := hq.out.1
            have HB := hid (below_gr HB.out hg HGa.out)
            have HK := hid (HK.out.grown hg N2a.out)
            have HSm := hid (Sc.grown HSm.out hg NEam.out.symm)
            have HXs := hid (bk_grown HXs.out hg NXsa.out)
            have HXp := hid (bk_grown HXp.out hg NXpa.out)
            have HSa := hid hq.out.2
            clear hg hq
            rw [HDE.out]
            go_upto_region 10 with fail
            have hb := (Below.refl w14.heap.size w14).alloc (Nat.le_refl _) (.cells (cls d) 26)
            have hn := heap_alloc_new w14 (.cells (cls d) 26)
            have NXxa := hid (show w14.heap.size ≠ g_a by have := Sc.lt HSa.out; omega)
            have NXxm := hid (show w14.heap.size ≠ g_m by have := Sc.lt HSm.out; omega)
            have HB := hid (HB.out.trans (hb.mono HB.out.size))
            have HK := hid (HK.out.on hb)
            have HSa := hid (Sc.on HSa.out hb)
            have HSm := hid (Sc.on HSm.out hb)
            have HXs := hid (onbk HXs.out _ hb)
            have HXp := hid (onbk HXp.out _ hb)
            have HXx := hid hn
            clear hb hn
            generalize w14.alloc (.cells (cls d) 26) = w15 at *
            generalize w14.heap.size = g_x at *
            have l8 := (ldG p q g0 0 HXp.out (all_at _)).here
            go_wp2_with (first | (refine wp_ld rfl _ _ rfl _ rfl _ (by first | exact l8) ?_))
            clear l8
            refine (rexpo_st g_m n p q g0 bs _ HSm.out HL.out HKB.out HQ.out H3.out).mono ?_
            rintro e w16 ⟨rfl, hq⟩
            have hg := hq.out.1
            have HB := hid (below_gr HB.out hg HGm.out)
            have HK := hid (HK.out.grown hg N2m.out)
            have HSa := hid (Sc.grown HSa.out hg NEam.out)
            have HXs := hid (bk_grown HXs.out hg NXsm.out)
            have HXp := hid (bk_grown HXp.out hg NXpm.out)
            have HXx := hid (bk_grown HXx.out hg NXxm.out)
            have HSm := hid hq.out.2
            clear hg hq
            rw [HDE.out]
            go_upto_region 11 with fail
            have hb := (Below.refl w16.heap.size w16).alloc (Nat.le_refl _) (.cells (cls d) 26)
            have hn := heap_alloc_new w16 (.cells (cls d) 26)
            have NXya := hid (show w16.heap.size ≠ g_a by have := Sc.lt HSa.out; omega)
            have NXym := hid (show w16.heap.size ≠ g_m by have := Sc.lt HSm.out; omega)
            have HB := hid (HB.out.trans (hb.mono HB.out.size))
            have HK := hid (HK.out.on hb)
            have HSa := hid (Sc.on HSa.out hb)
            have HSm := hid (Sc.on HSm.out hb)
            have HXs := hid (onbk HXs.out _ hb)
            have HXp := hid (onbk HXp.out _ hb)
            have HXx := hid (onbk HXx.out _ hb)
            have HXy := hid hn
            clear hb hn
            generalize w16.alloc (.cells (cls d) 26) = w17 at *
            generalize w16.heap.size = g_y at *
            have hq : ∀ W, (Op.equalIn 10000 26 (num d) (num d)).run Tryd.prog W = .ok true W := fun W => eq_yes d d rfl W
            have l9 := (ldN d 0 HXx.out (all_at _)).here
            have l10 := (ldN d 0 HXy.out (all_at _)).here
            go_upto_region 15 with (first | (refine wp_ld rfl _ _ rfl _ rfl _ (by first | exact l9 | exact l10) ?_))
            clear l9 l10
            clear hq
            go_wp2_with fail
            refine (drawn_ex g_a (n + 1) ((n : Int) + 1) bs _ HSa.out HL.out rfl).mono ?_
            rintro e wx ⟨rfl, rfl⟩
            go_wp2_with fail
            refine (rdrawn_ex g_m (n + 1) ((n : Int) + 1) bs _ HSm.out HL.out rfl).mono ?_
            rintro e wx ⟨rfl, rfl⟩
            go_wp2
            go_roundw
            case rel => exact ⟨k + 1, (n + 1), HLTK.out, by have := HNK.out; omega, by go_num, hid ⟨HB.out, HK.out, HSa.out, HSm.out, HXs.out, HXp.out⟩⟩
            case measure => simp [intOf]; have := HLTK.out; omega
      · have hki : ¬ (k : Int) < (nn : Int) := by omega
        go_wp2_with fail
        refine (lives11_any _ HK.out).mono ?_
        rintro e w18 ⟨rfl, hb⟩
        have HB := hid (HB.out.trans (hb.mono HB.out.size))
        have HK := hid (HK.out.on hb)
        have HSa := hid (Sc.on HSa.out hb)
        have HSm := hid (Sc.on HSm.out hb)
        have HXs := hid (onbk HXs.out _ hb)
        have HXp := hid (onbk HXp.out _ hb)
        clear hb
        go_wp2
        go_ret
        exact ⟨rfl, HB.out⟩
end Go.Proofs.YtcijnoapjicliaaDoor
