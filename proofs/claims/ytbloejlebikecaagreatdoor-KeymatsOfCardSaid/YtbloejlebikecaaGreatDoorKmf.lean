/-
  burrowlaw10.lives, walked: it answers true. Condition: the library's table holds what its text lays.
-/
import Derived.Test.YtbloejlebikecaaGreatDoorKmc
import Derived.Test.YtbloejlebikecaaGreatDoorKme
import Derived.Test.YtbloejlebikecaaGreatDoorSame
namespace Go.Proofs.YtbloejlebikecaaGreatDoor
open Go.RowKit
set_option linter.unusedVariables false
set_option linter.unusedSimpArgs false

theorem kky_eq (n0 n1 n2 n3 : Nat) (id : List UInt8) : hm id (nb n0 n1 n2 n3) = kky n0 n1 n2 n3 id := rfl
/-- noughts -/
def z32 : List UInt8 := List.replicate 32 0
theorem lit32z : (bvs z32).toArray = #[.int .u8 0, .int .u8 0, .int .u8 0, .int .u8 0, .int .u8 0, .int .u8 0, .int .u8 0, .int .u8 0, .int .u8 0, .int .u8 0, .int .u8 0, .int .u8 0, .int .u8 0, .int .u8 0, .int .u8 0, .int .u8 0, .int .u8 0, .int .u8 0, .int .u8 0, .int .u8 0, .int .u8 0, .int .u8 0, .int .u8 0, .int .u8 0, .int .u8 0, .int .u8 0, .int .u8 0, .int .u8 0, .int .u8 0, .int .u8 0, .int .u8 0, .int .u8 0] := rfl
theorem bt_zero {w : World} {g t : Nat} (h : Bt w g t (List.replicate 32 0)) : Bt w g t z32 := h
theorem put5 (w : World) : Calls Tryz.prog 15 #[.slice none 0 0, .agg #[.int .u64 5, .int .u64 0, .int .u64 0, .int .u64 0]] w fun e w' => e = .returned (.slice (some ⟨w.heap.size + 1, 0, none⟩) 32 32) ∧ Row w' (w.heap.size + 1) (nb 5 0 0 0) ∧ Below w.heap.size w w' :=
  putLong_any none 0 5 0 0 0 [] w (Rd.nil _ _) (by simp) (by decide) (by decide) (by decide) (by decide)
theorem of5 (w : World) (hK : Kt w) : Calls Tryz.prog 5 #[.agg #[.int .u64 5, .int .u64 0, .int .u64 0, .int .u64 0], .agg #[.int .u8 0, .int .u8 0, .int .u8 0, .int .u8 0, .int .u8 0, .int .u8 0, .int .u8 0, .int .u8 0, .int .u8 0, .int .u8 0, .int .u8 0, .int .u8 0, .int .u8 0, .int .u8 0, .int .u8 0, .int .u8 0, .int .u8 0, .int .u8 0, .int .u8 0, .int .u8 0, .int .u8 0, .int .u8 0, .int .u8 0, .int .u8 0, .int .u8 0, .int .u8 0, .int .u8 0, .int .u8 0, .int .u8 0, .int .u8 0, .int .u8 0, .int .u8 0], .int .i64 32] w fun e w' => ∃ g, e = .returned (.tuple #[.slice (some ⟨g, 0, none⟩) 32 32, .int .i64 0]) ∧ Hid (Row w' g (mat (hm (kky 5 0 0 0 z32)) 32) ∧ w.heap.size ≤ g ∧ Below w.heap.size w w') :=
  kmof_any 5 0 0 0 z32 32 w (by decide) (by decide) (by decide) (by decide) rfl (by decide) hK
theorem of8161 (w : World) : Calls Tryz.prog 5 #[.agg #[.int .u64 0, .int .u64 0, .int .u64 0, .int .u64 0], .agg #[.int .u8 0, .int .u8 0, .int .u8 0, .int .u8 0, .int .u8 0, .int .u8 0, .int .u8 0, .int .u8 0, .int .u8 0, .int .u8 0, .int .u8 0, .int .u8 0, .int .u8 0, .int .u8 0, .int .u8 0, .int .u8 0, .int .u8 0, .int .u8 0, .int .u8 0, .int .u8 0, .int .u8 0, .int .u8 0, .int .u8 0, .int .u8 0, .int .u8 0, .int .u8 0, .int .u8 0, .int .u8 0, .int .u8 0, .int .u8 0, .int .u8 0, .int .u8 0], .int .i64 8161] w fun e w' => e = .returned (.tuple #[.slice none 0 0, .int .i64 3]) ∧ Below w.heap.size w w' :=
  kmof_big 0 0 0 0 z32 8161 w (by decide) (by decide)
theorem make48 (w : World) : (Instr.makeSlice 27 (.int .i64 48) (.int .i64 48)).run Tryz.prog w = .ok (.slice (some ⟨w.heap.size, 0, none⟩) 48 48) (w.alloc (.cells (bvs z48).toArray 5)) := run_make_bytes w 48 (by decide)
theorem cut0 (g : Nat) (w : World) (h : Row w g z48) : Calls Tryz.prog 8 #[.slice (some ⟨g, 0, none⟩) 48 48, .int .i64 0] w fun e w' => e = .returned (.tuple #[.agg (bvs z48).toArray, .int .i64 0]) ∧ Below w.heap.size w w' :=
  kcut_any (some ⟨g, 0, none⟩) 48 48 z48 0 w rfl h.rd0 (by decide) (by decide) (by decide)
/-- the first text -/
def lane1 : List UInt8 := [108, 97, 110, 101, 1]
theorem mat_one (H : List UInt8 → List UInt8) (hH : ∀ x, (H x).length = 32) : mat H 32 = H lane1 := by
  have e : mat H 32 = (lks H 1).take 32 := (mat_of H hH 32 1 (by decide)).symm
  rw [e]
  have e2 : lks H 1 = H lane1 := rfl
  rw [e2, List.take_of_length_le (by rw [hH]; exact Nat.le_refl _)]
theorem parts1 (w : World) : ∃ w4, w4 = (w.alloc (.cells #[.int .u8 108, .int .u8 97, .int .u8 110, .int .u8 101, .int .u8 1] 5 (5, 6))).alloc (.cells #[.slice (some ⟨w.heap.size, 0, none⟩) 5 5] 27) ∧ Hid (Below w.heap.size w w4) ∧ Hid (Rws w4 (some ⟨w.heap.size + 1, 0, none⟩) 1 (fun _ => some ⟨w.heap.size, 0, none⟩) (fun _ => 5) (fun _ => 5) (fun _ => lane1)) := by
  refine ⟨_, rfl, ?_⟩
  have a1 : Below w.heap.size w (w.alloc (.cells (bvs lane1).toArray 5 (5, 6))) := (Below.refl _ _).alloc (Nat.le_refl _) _
  have r1 := rd_mark w lane1 (5, 6)
  have s1 := al_size w (.cells (bvs lane1).toArray 5 (5, 6))
  rw [show (bvs lane1).toArray = #[.int .u8 108, .int .u8 97, .int .u8 110, .int .u8 101, .int .u8 1] from rfl] at a1 r1 s1
  generalize w.alloc (.cells #[.int .u8 108, .int .u8 97, .int .u8 110, .int .u8 101, .int .u8 1] 5 (5, 6)) = w1 at *
  generalize hob : (Obj.cells #[Value.slice (some ⟨w.heap.size, 0, none⟩) 5 5] 27) = ob
  have a4 : Below w1.heap.size w1 (w1.alloc ob) := (Below.refl _ _).alloc (Nat.le_refl _) _
  have hn : (w1.alloc ob).heap[w1.heap.size]? = some ob := heap_alloc_new w1 ob
  generalize w1.alloc ob = w4 at *
  rw [s1] at hn
  subst hob
  exact ⟨hid (a1.trans (a4.mono (by omega))), hid (rws_one hn (r1.below a4 (Nat.le_refl _)) rfl (by decide) (by decide))⟩
theorem same_at (A B : Option Addr) (c d n m : Nat) (bs : List UInt8) (w : World) (hl : bs.length = n) (hm : bs.length = m) (ha : Rd w A bs) (hb : Rd w B bs) (hn : n ≤ 281474976710656) :
    Calls Tryz.prog 11 #[.slice A n c, .slice B m d] w fun e w' => e = .returned (.bool true) ∧ ∃ k, w' = w.drewN k := by
  subst hl; subst hm; exact same_true A B c d bs w ha hb hn
theorem on_row {w : World} {g : Nat} {bs : List UInt8} (h : Row w g bs) : On w fun u => Row u g bs := fun u hu => h.below hu h.lt
set_option maxRecDepth 100000 in
set_option maxHeartbeats 4000000 in
theorem lives10_any (w : World) (hK : Kt w) : Calls Tryz.prog 4 #[] w fun e w' => e = .returned (.bool true) ∧ Below w.heap.size w w' := by
  have HK := hid hK
  clear hK
  have HI := hi48 z48 rfl
  have HO := ho48 z48 rfl
  have HI2 := hi44 z32 rfl
  have HO2 := ho32 z32 rfl
  go_enter Tryz.func4, Tryz.ntmps4
  go_wp2_with fail
  refine (of5 w HK.out).mono ?_
  rintro e w1 ⟨g1, rfl, hq⟩
  have HB1 := hid hq.out.2.2
  have HR1 := hid hq.out.1
  clear hq
  go_wp2_with fail
  refine (of8161 w1).mono ?_
  rintro e w2 ⟨rfl, hb⟩
  have HB2 := hid (HB1.out.trans (hb.mono HB1.out.size))
  have HR2 := hid (HR1.out.below hb HR1.out.lt)
  clear hb HB1 HR1
  have hmk := make48 w2
  have hb := (Below.refl w2.heap.size w2).alloc (Nat.le_refl _) (.cells (bvs z48).toArray 5)
  have HB3 := hid (HB2.out.trans (hb.mono HB2.out.size))
  have HR3 := hid (HR2.out.below hb HR2.out.lt)
  go_wp2_with fail
  clear hmk hb HB2 HR2
  generalize w2.alloc (.cells (bvs z48).toArray 5) = w3 at *
  refine (kcut_short (some ⟨w2.heap.size, 0, none⟩) 48 48 1 w3 (by decide) (by decide) (by decide)).mono ?_
  rintro e w4 ⟨rfl, hb⟩
  have HB4 := hid (HB3.out.trans (hb.mono HB3.out.size))
  have HR4 := hid (HR3.out.below hb HR3.out.lt)
  have hb5 := (Below.refl w4.heap.size w4).alloc (Nat.le_refl _) (.cells (bvs z48).toArray 37)
  have HB5 := hid (HB4.out.trans (hb5.mono HB4.out.size))
  have HR5 := hid (HR4.out.below hb5 HR4.out.lt)
  clear hb hb5 HB3 HR3 HB4 HR4
  go_upto_region 4 with (refine wpList_store_row rfl 37 (.tmp 5) (.tmp 27) rfl w4.heap.size (bvs z48).toArray rfl rfl 37 _ (heap_alloc_new _ _) HI.out HO.out (bvs_all _) ?_; rw [World.setRow_alloc_new])
  generalize w4.alloc (.cells (bvs z48).toArray 37) = w5 at *
  have hmk := make48 w5
  have hb := (Below.refl w5.heap.size w5).alloc (Nat.le_refl _) (.cells (bvs z48).toArray 5)
  have hz := heap_alloc_new w5 (.cells (bvs z48).toArray 5)
  have HB6 := hid (HB5.out.trans (hb.mono HB5.out.size))
  have HR6 := hid (HR5.out.below hb HR5.out.lt)
  have HZ6 := hid (p := Row _ w5.heap.size z48) hz
  go_wp2_with fail
  clear hmk hb hz HB5 HR5
  generalize w5.alloc (.cells (bvs z48).toArray 5) = w6 at *
  refine (cut0 w5.heap.size w6 HZ6.out).mono ?_
  rintro e w8 ⟨rfl, hb⟩
  have HB8 := hid (HB6.out.trans (hb.mono HB6.out.size))
  have HR8 := hid (HR6.out.below hb HR6.out.lt)
  have hb5 := (Below.refl w8.heap.size w8).alloc (Nat.le_refl _) (.cells (bvs z48).toArray 37)
  have HB9 := hid (HB8.out.trans (hb5.mono HB8.out.size))
  have HR9 := hid (HR8.out.below hb5 HR8.out.lt)
  clear hb hb5 HB6 HR6 HZ6 HB8 HR8
  go_upto_region 5 with (refine wpList_store_row rfl 37 (.tmp 7) (.tmp 32) rfl w8.heap.size (bvs z48).toArray rfl rfl 37 _ (heap_alloc_new _ _) HI.out HO.out (bvs_all _) ?_; rw [World.setRow_alloc_new])
  generalize w8.alloc (.cells (bvs z48).toArray 37) = w9 at *
  have hb5 := (Below.refl w9.heap.size w9).alloc (Nat.le_refl _) (.cells (bvs z32).toArray 26)
  have hx := heap_alloc_new w9 (.cells (bvs z32).toArray 26)
  have HB7 := hid (HB9.out.trans (hb5.mono HB9.out.size))
  have HR7 := hid (HR9.out.below hb5 HR9.out.lt)
  have FI := hid (on_bt (show Bt _ w9.heap.size 26 z32 from hx))
  have FK := hid (on_kt (HK.out.on HB7.out))
  have FR := hid (on_row HR7.out)
  clear hb5 hx HB9 HR9 HR7
  go_upto_region 6 with (refine wpList_store_row rfl 26 (.tmp 9) (.tmp 34) rfl w9.heap.size (bvs z32).toArray rfl rfl 26 _ (heap_alloc_new _ _) HI2.out HO2.out (bvs_all _) ?_; rw [World.setRow_alloc_new])
  generalize w9.alloc (.cells (bvs z32).toArray 26) = w7 at *
  generalize w9.heap.size = g9 at *
  have KL := hid (kky_length 5 0 0 0 z32)
  have KE := hid (kky_eq 5 0 0 0 z32)
  generalize kky 5 0 0 0 z32 = kk at *
  simp only [putz]
  go_cut [10] (fun s10 wx => ∃ g8 : Nat, s10 = .pointer (some ⟨g8, 0, none⟩) ∧ Hid (Below w7.heap.size w7 wx ∧ Bt wx g8 26 kk))
  case first =>
    refine wp_region_noPanic ?_
    refine Goes.region (fun (_ : Array Bool) (u : World) => Below w7.heap.size w7 u) (by as_aux_lemma => kernel_rfl) ?_
    have HB := hid (p := Below w7.heap.size w7 w7.drew) (Below.refl _ _).drew
    generalize w7.drew = w7d at *
    refine Goes.tk (i := 0) (o := ⟨some 35, _, _, _, _, _⟩) (v := ?_) [] (y := Or.inl ⟨by rfl, ?_⟩) (s := HB.out) (H := ?_)
    rotate_left
    · intro u hY; have hsl := sl32 g9; go_simp; try with_reducible rfl
    try simp only [putz]
    refine Goes.tk (i := 1) (o := ⟨some 36, _, _, _, _, _⟩) (v := ?_) [] (y := Or.inl ⟨by rfl, ?_⟩) (s := HB.out) (H := ?_)
    rotate_left
    · intro u hY; go_simp; try with_reducible rfl
    try simp only [putz]
    refine Goes.two (i := 2) (j := 5) (o := ⟨some 37, _, _, _, _, _⟩) (p := ⟨some 10, _, _, _, _, _⟩) (by as_aux_lemma => kernel_rfl) rfl rfl (fun K hK => ?_) (fun K hK => ?_)
    · skip
      go_simp
      refine (put5 w7d).mono ?_
      rintro e w7_1 ⟨rfl, hrw, hb⟩
      have hz := HB.out.size
      go_wp2_with fail
      refine hK.out _ _ (HB.out.trans (hb.mono HB.out.size)) ?_
      clear hK K
      try simp only [putz]
      have HB := hid (HB.out.trans (hb.mono HB.out.size))
      have FP := hid (And.intro (show Bt w7_1 (w7d.heap.size + 1) 5 (nb 5 0 0 0) from hrw) (Nat.le_succ_of_le hz))
      generalize w7d.heap.size + 1 = gp at *
      clear hrw hb hz
      refine Goes.two (i := 3) (j := 5) (o := ⟨some 38, _, _, _, _, _⟩) (p := ⟨some 10, _, _, _, _, _⟩) (by as_aux_lemma => kernel_rfl) rfl rfl (fun K hK => ?_) (fun K hK => ?_)
      · skip
        go_simp
        have hb := (Below.refl w7_1.heap.size w7_1).alloc (Nat.le_refl _) (.cells #[.slice (some ⟨gp, 0, none⟩) 32 32] 27)
        have hh := Blk.new w7_1 #[.slice (some ⟨gp, 0, none⟩) 32 32] 27
        have hz := HB.out.size
        refine hK.out _ _ (HB.out.trans (hb.mono HB.out.size)) ?_
        clear hK K
        try simp only [putz]
        have HB := hid (HB.out.trans (hb.mono HB.out.size))
        have FP := hid (And.intro (FP.out.1.on hb) FP.out.2)
        generalize w7_1.alloc (.cells #[.slice (some ⟨gp, 0, none⟩) 32 32] 27) = w7_2 at *
        generalize w7_1.heap.size = g_2 at *
        have F3 := hid (And.intro hh hz)
        clear hb hh hz
        refine Goes.two (i := 4) (j := 5) (o := ⟨some 39, _, _, _, _, _⟩) (p := ⟨some 10, _, _, _, _, _⟩) (by as_aux_lemma => kernel_rfl) rfl rfl (fun K hK => ?_) (fun K hK => ?_)
        · skip
          go_simp
          have hrr : Rws w7_2 (some ⟨g_2, 0, none⟩) 1 (fun _ => some ⟨gp, 0, none⟩) (fun _ => 32) (fun _ => 32) (fun _ => nb 5 0 0 0) := by
            intro r hr
            obtain rfl : r = 0 := by omega
            exact ⟨⟨g_2, 0, rfl, F3.out.1.lt, by rw [F3.out.1.cell]; rfl⟩, nb_length _ _ _ _, bt_rd FP.out.1, Nat.le_refl _, by decide, fun h => by cases h⟩
          refine (macof_any (some ⟨g9, 0, none⟩) 32 z32 32 (some ⟨g_2, 0, none⟩) 1 1 _ _ _ _ w7_2 rfl (bt_rd (FI.out _ HB.out)) (by decide) (by decide) hrr (FK.out _ HB.out) (by decide) (fun r hr => by decide)).mono ?_
          rintro e w7_3 ⟨rfl, hb⟩
          rw [cat1]
          go_wp2_with fail
          refine hK.out _ _ (HB.out.trans (hb.mono HB.out.size)) ?_
          clear hK K hrr
          try simp only [putz]
          have HB := hid (HB.out.trans (hb.mono HB.out.size))
          have FP := hid (And.intro (FP.out.1.on hb) FP.out.2)
          have F3 := hid (And.intro (F3.out.1.on hb) F3.out.2)
          clear hb
          refine Goes.one (i := 5) (o := ⟨some 10, _, _, _, _, _⟩) (by as_aux_lemma => kernel_rfl) rfl (fun K hK => ?_)
          go_simp
          rw [← lit32]
          have hb := (Below.refl w7_3.heap.size w7_3).alloc (Nat.le_refl _) (.cells (bvs (List.replicate 32 0)).toArray 26)
          have hh := heap_alloc_new w7_3 (.cells (bvs (List.replicate 32 0)).toArray 26)
          have hz := HB.out.size
          refine hK.out _ _ (HB.out.trans (hb.mono HB.out.size)) ?_
          clear hK K
          try simp only [putz]
          have HB := hid (HB.out.trans (hb.mono HB.out.size))
          have FP := hid (And.intro (FP.out.1.on hb) FP.out.2)
          have F3 := hid (And.intro (F3.out.1.on hb) F3.out.2)
          generalize w7_3.alloc (.cells (bvs (List.replicate 32 0)).toArray 26) = w7_4 at *
          generalize w7_3.heap.size = g_4 at *
          have FZ := hid (And.intro (show Bt w7_4 g_4 26 _ from hh) hz)
          clear hb hh hz
          refine Goes.one (i := 6) (o := ⟨none, _, _, _, _, _⟩) (by as_aux_lemma => kernel_rfl) rfl (fun K hK => ?_)
          rw [if_pos (by rfl)]
          have hz := FZ.out.1
          unfold Bt at hz
          rw [KE.out]
          refine wp_store_row 26 (.tmp 10) (.tmp 39) (by rfl) g_4 (bvs kk).toArray (by rfl) (by rfl) 26 _ hz (hi44 kk KL.out).out (hsz _ kk (by rw [KL.out, List.length_replicate])).out (bvs_all kk) ?_
          have HW := below_setRow HB.out FZ.out.2 (bvs kk).toArray
          have HT := hid (FZ.out.1.row (m := kk))
          refine hK.out _ _ HW ?_
          clear hK K
          try simp only [putz]
          refine Goes.done (by as_aux_lemma => kernel_rfl) ?_ _
          refine NoPanic.normal ?_
          go_wp2
          go_meet
          exact ⟨_, rfl, hid ⟨HW, HT.out⟩⟩
        · skip
          go_simp
          rw [← lit32]
          have hb := (Below.refl w7_2.heap.size w7_2).alloc (Nat.le_refl _) (.cells (bvs (List.replicate 32 0)).toArray 26)
          have hh := heap_alloc_new w7_2 (.cells (bvs (List.replicate 32 0)).toArray 26)
          have hz := HB.out.size
          refine hK.out _ _ (HB.out.trans (hb.mono HB.out.size)) ?_
          clear hK K
          try simp only [putz]
          have HB := hid (HB.out.trans (hb.mono HB.out.size))
          have FP := hid (And.intro (FP.out.1.on hb) FP.out.2)
          have F3 := hid (And.intro (F3.out.1.on hb) F3.out.2)
          generalize w7_2.alloc (.cells (bvs (List.replicate 32 0)).toArray 26) = w7_5 at *
          generalize w7_2.heap.size = g_5 at *
          have FZ := hid (And.intro (show Bt w7_5 g_5 26 _ from hh) hz)
          clear hb hh hz
          refine Goes.one (i := 4) (o := ⟨some 39, _, _, _, _, _⟩) (by as_aux_lemma => kernel_rfl) rfl (fun K hK => ?_)
          go_simp
          have hrr : Rws w7_5 (some ⟨g_2, 0, none⟩) 1 (fun _ => some ⟨gp, 0, none⟩) (fun _ => 32) (fun _ => 32) (fun _ => nb 5 0 0 0) := by
            intro r hr
            obtain rfl : r = 0 := by omega
            exact ⟨⟨g_2, 0, rfl, F3.out.1.lt, by rw [F3.out.1.cell]; rfl⟩, nb_length _ _ _ _, bt_rd FP.out.1, Nat.le_refl _, by decide, fun h => by cases h⟩
          refine (macof_any (some ⟨g9, 0, none⟩) 32 z32 32 (some ⟨g_2, 0, none⟩) 1 1 _ _ _ _ w7_5 rfl (bt_rd (FI.out _ HB.out)) (by decide) (by decide) hrr (FK.out _ HB.out) (by decide) (fun r hr => by decide)).mono ?_
          rintro e w7_6 ⟨rfl, hb⟩
          rw [cat1]
          go_wp2_with fail
          refine hK.out _ _ (HB.out.trans (hb.mono HB.out.size)) ?_
          clear hK K hrr
          try simp only [putz]
          have HB := hid (HB.out.trans (hb.mono HB.out.size))
          have FP := hid (And.intro (FP.out.1.on hb) FP.out.2)
          have F3 := hid (And.intro (F3.out.1.on hb) F3.out.2)
          have FZ := hid (And.intro (FZ.out.1.on hb) FZ.out.2)
          clear hb
          refine Goes.one (i := 6) (o := ⟨none, _, _, _, _, _⟩) (by as_aux_lemma => kernel_rfl) rfl (fun K hK => ?_)
          rw [if_pos (by rfl)]
          have hz := FZ.out.1
          unfold Bt at hz
          rw [KE.out]
          refine wp_store_row 26 (.tmp 10) (.tmp 39) (by rfl) g_5 (bvs kk).toArray (by rfl) (by rfl) 26 _ hz (hi44 kk KL.out).out (hsz _ kk (by rw [KL.out, List.length_replicate])).out (bvs_all kk) ?_
          have HW := below_setRow HB.out FZ.out.2 (bvs kk).toArray
          have HT := hid (FZ.out.1.row (m := kk))
          refine hK.out _ _ HW ?_
          clear hK K
          try simp only [putz]
          refine Goes.done (by as_aux_lemma => kernel_rfl) ?_ _
          refine NoPanic.normal ?_
          go_wp2
          go_meet
          exact ⟨_, rfl, hid ⟨HW, HT.out⟩⟩
      · skip
        go_simp
        rw [← lit32]
        have hb := (Below.refl w7_1.heap.size w7_1).alloc (Nat.le_refl _) (.cells (bvs (List.replicate 32 0)).toArray 26)
        have hh := heap_alloc_new w7_1 (.cells (bvs (List.replicate 32 0)).toArray 26)
        have hz := HB.out.size
        refine hK.out _ _ (HB.out.trans (hb.mono HB.out.size)) ?_
        clear hK K
        try simp only [putz]
        have HB := hid (HB.out.trans (hb.mono HB.out.size))
        have FP := hid (And.intro (FP.out.1.on hb) FP.out.2)
        generalize w7_1.alloc (.cells (bvs (List.replicate 32 0)).toArray 26) = w7_7 at *
        generalize w7_1.heap.size = g_7 at *
        have FZ := hid (And.intro (show Bt w7_7 g_7 26 _ from hh) hz)
        clear hb hh hz
        refine Goes.one (i := 3) (o := ⟨some 38, _, _, _, _, _⟩) (by as_aux_lemma => kernel_rfl) rfl (fun K hK => ?_)
        go_simp
        have hb := (Below.refl w7_7.heap.size w7_7).alloc (Nat.le_refl _) (.cells #[.slice (some ⟨gp, 0, none⟩) 32 32] 27)
        have hh := Blk.new w7_7 #[.slice (some ⟨gp, 0, none⟩) 32 32] 27
        have hz := HB.out.size
        refine hK.out _ _ (HB.out.trans (hb.mono HB.out.size)) ?_
        clear hK K
        try simp only [putz]
        have HB := hid (HB.out.trans (hb.mono HB.out.size))
        have FP := hid (And.intro (FP.out.1.on hb) FP.out.2)
        have FZ := hid (And.intro (FZ.out.1.on hb) FZ.out.2)
        generalize w7_7.alloc (.cells #[.slice (some ⟨gp, 0, none⟩) 32 32] 27) = w7_8 at *
        generalize w7_7.heap.size = g_8 at *
        have F3 := hid (And.intro hh hz)
        clear hb hh hz
        refine Goes.one (i := 4) (o := ⟨some 39, _, _, _, _, _⟩) (by as_aux_lemma => kernel_rfl) rfl (fun K hK => ?_)
        go_simp
        have hrr : Rws w7_8 (some ⟨g_8, 0, none⟩) 1 (fun _ => some ⟨gp, 0, none⟩) (fun _ => 32) (fun _ => 32) (fun _ => nb 5 0 0 0) := by
          intro r hr
          obtain rfl : r = 0 := by omega
          exact ⟨⟨g_8, 0, rfl, F3.out.1.lt, by rw [F3.out.1.cell]; rfl⟩, nb_length _ _ _ _, bt_rd FP.out.1, Nat.le_refl _, by decide, fun h => by cases h⟩
        refine (macof_any (some ⟨g9, 0, none⟩) 32 z32 32 (some ⟨g_8, 0, none⟩) 1 1 _ _ _ _ w7_8 rfl (bt_rd (FI.out _ HB.out)) (by decide) (by decide) hrr (FK.out _ HB.out) (by decide) (fun r hr => by decide)).mono ?_
        rintro e w7_9 ⟨rfl, hb⟩
        rw [cat1]
        go_wp2_with fail
        refine hK.out _ _ (HB.out.trans (hb.mono HB.out.size)) ?_
        clear hK K hrr
        try simp only [putz]
        have HB := hid (HB.out.trans (hb.mono HB.out.size))
        have FP := hid (And.intro (FP.out.1.on hb) FP.out.2)
        have FZ := hid (And.intro (FZ.out.1.on hb) FZ.out.2)
        have F3 := hid (And.intro (F3.out.1.on hb) F3.out.2)
        clear hb
        refine Goes.one (i := 6) (o := ⟨none, _, _, _, _, _⟩) (by as_aux_lemma => kernel_rfl) rfl (fun K hK => ?_)
        rw [if_pos (by rfl)]
        have hz := FZ.out.1
        unfold Bt at hz
        rw [KE.out]
        refine wp_store_row 26 (.tmp 10) (.tmp 39) (by rfl) g_7 (bvs kk).toArray (by rfl) (by rfl) 26 _ hz (hi44 kk KL.out).out (hsz _ kk (by rw [KL.out, List.length_replicate])).out (bvs_all kk) ?_
        have HW := below_setRow HB.out FZ.out.2 (bvs kk).toArray
        have HT := hid (FZ.out.1.row (m := kk))
        refine hK.out _ _ HW ?_
        clear hK K
        try simp only [putz]
        refine Goes.done (by as_aux_lemma => kernel_rfl) ?_ _
        refine NoPanic.normal ?_
        go_wp2
        go_meet
        exact ⟨_, rfl, hid ⟨HW, HT.out⟩⟩
    · skip
      go_simp
      rw [← lit32]
      have hb := (Below.refl w7d.heap.size w7d).alloc (Nat.le_refl _) (.cells (bvs (List.replicate 32 0)).toArray 26)
      have hh := heap_alloc_new w7d (.cells (bvs (List.replicate 32 0)).toArray 26)
      have hz := HB.out.size
      refine hK.out _ _ (HB.out.trans (hb.mono HB.out.size)) ?_
      clear hK K
      try simp only [putz]
      have HB := hid (HB.out.trans (hb.mono HB.out.size))
      generalize w7d.alloc (.cells (bvs (List.replicate 32 0)).toArray 26) = w7_10 at *
      generalize w7d.heap.size = g_10 at *
      have FZ := hid (And.intro (show Bt w7_10 g_10 26 _ from hh) hz)
      clear hb hh hz
      refine Goes.one (i := 2) (o := ⟨some 37, _, _, _, _, _⟩) (by as_aux_lemma => kernel_rfl) rfl (fun K hK => ?_)
      go_simp
      refine (put5 w7_10).mono ?_
      rintro e w7_11 ⟨rfl, hrw, hb⟩
      have hz := HB.out.size
      go_wp2_with fail
      refine hK.out _ _ (HB.out.trans (hb.mono HB.out.size)) ?_
      clear hK K
      try simp only [putz]
      have HB := hid (HB.out.trans (hb.mono HB.out.size))
      have FZ := hid (And.intro (FZ.out.1.on hb) FZ.out.2)
      have FP := hid (And.intro (show Bt w7_11 (w7_10.heap.size + 1) 5 (nb 5 0 0 0) from hrw) (Nat.le_succ_of_le hz))
      generalize w7_10.heap.size + 1 = gp at *
      clear hrw hb hz
      refine Goes.one (i := 3) (o := ⟨some 38, _, _, _, _, _⟩) (by as_aux_lemma => kernel_rfl) rfl (fun K hK => ?_)
      go_simp
      have hb := (Below.refl w7_11.heap.size w7_11).alloc (Nat.le_refl _) (.cells #[.slice (some ⟨gp, 0, none⟩) 32 32] 27)
      have hh := Blk.new w7_11 #[.slice (some ⟨gp, 0, none⟩) 32 32] 27
      have hz := HB.out.size
      refine hK.out _ _ (HB.out.trans (hb.mono HB.out.size)) ?_
      clear hK K
      try simp only [putz]
      have HB := hid (HB.out.trans (hb.mono HB.out.size))
      have FZ := hid (And.intro (FZ.out.1.on hb) FZ.out.2)
      have FP := hid (And.intro (FP.out.1.on hb) FP.out.2)
      generalize w7_11.alloc (.cells #[.slice (some ⟨gp, 0, none⟩) 32 32] 27) = w7_12 at *
      generalize w7_11.heap.size = g_12 at *
      have F3 := hid (And.intro hh hz)
      clear hb hh hz
      refine Goes.one (i := 4) (o := ⟨some 39, _, _, _, _, _⟩) (by as_aux_lemma => kernel_rfl) rfl (fun K hK => ?_)
      go_simp
      have hrr : Rws w7_12 (some ⟨g_12, 0, none⟩) 1 (fun _ => some ⟨gp, 0, none⟩) (fun _ => 32) (fun _ => 32) (fun _ => nb 5 0 0 0) := by
        intro r hr
        obtain rfl : r = 0 := by omega
        exact ⟨⟨g_12, 0, rfl, F3.out.1.lt, by rw [F3.out.1.cell]; rfl⟩, nb_length _ _ _ _, bt_rd FP.out.1, Nat.le_refl _, by decide, fun h => by cases h⟩
      refine (macof_any (some ⟨g9, 0, none⟩) 32 z32 32 (some ⟨g_12, 0, none⟩) 1 1 _ _ _ _ w7_12 rfl (bt_rd (FI.out _ HB.out)) (by decide) (by decide) hrr (FK.out _ HB.out) (by decide) (fun r hr => by decide)).mono ?_
      rintro e w7_13 ⟨rfl, hb⟩
      rw [cat1]
      go_wp2_with fail
      refine hK.out _ _ (HB.out.trans (hb.mono HB.out.size)) ?_
      clear hK K hrr
      try simp only [putz]
      have HB := hid (HB.out.trans (hb.mono HB.out.size))
      have FZ := hid (And.intro (FZ.out.1.on hb) FZ.out.2)
      have FP := hid (And.intro (FP.out.1.on hb) FP.out.2)
      have F3 := hid (And.intro (F3.out.1.on hb) F3.out.2)
      clear hb
      refine Goes.one (i := 6) (o := ⟨none, _, _, _, _, _⟩) (by as_aux_lemma => kernel_rfl) rfl (fun K hK => ?_)
      rw [if_pos (by rfl)]
      have hz := FZ.out.1
      unfold Bt at hz
      rw [KE.out]
      refine wp_store_row 26 (.tmp 10) (.tmp 39) (by rfl) g_10 (bvs kk).toArray (by rfl) (by rfl) 26 _ hz (hi44 kk KL.out).out (hsz _ kk (by rw [KL.out, List.length_replicate])).out (bvs_all kk) ?_
      have HW := below_setRow HB.out FZ.out.2 (bvs kk).toArray
      have HT := hid (FZ.out.1.row (m := kk))
      refine hK.out _ _ HW ?_
      clear hK K
      try simp only [putz]
      refine Goes.done (by as_aux_lemma => kernel_rfl) ?_ _
      refine NoPanic.normal ?_
      go_wp2
      go_meet
      exact ⟨_, rfl, hid ⟨HW, HT.out⟩⟩
  case rest =>
    obtain ⟨g8, rfl, HC⟩ := hcut
    have HB1 := hid (HB7.out.trans (HC.out.1.mono HB7.out.size))
    have HK1 := hid (FK.out _ HC.out.1)
    have HR1 := hid (FR.out _ HC.out.1)
    have HX1 := hid HC.out.2
    clear HC FK FI FR HB7 HI HO HI2 HO2
    have hs8 := sl32 g8
    have hcv := conv_c wc #[.int .u8 108, .int .u8 97, .int .u8 110, .int .u8 101, .int .u8 1] 5 wc.heap.size rfl rfl
    go_wp2_with fail
    clear hs8 hcv
    obtain ⟨w4, hw4, HB4, HR4⟩ := parts1 wc
    rw [← hw4]
    clear hw4
    refine (macof_any (some ⟨g8, 0, none⟩) 32 kk 32 (some ⟨wc.heap.size + 1, 0, none⟩) 1 1 _ _ _ _ w4 KL.out (bt_rd (HX1.out.on HB4.out)) (by decide) (by decide) HR4.out (HK1.out.on HB4.out) (by decide) (fun r hr => by decide)).mono ?_
    rintro e w5 ⟨rfl, hb5⟩
    rw [cat1]
    have HBB := hid (HB4.out.trans (hb5.mono HB4.out.size))
    have HTL := hid (hm_length kk lane1)
    have HMO := hid (mat_one (hm kk) (fun x => hm_length _ _))
    generalize hm kk lane1 = t at *
    rw [HMO.out] at HR1
    have HI := hi44 t HTL.out
    have HO := ho32 t HTL.out
    obtain ⟨hB6, hX6, hs6⟩ := box1 w5 26 t
    have HB6 := hid (HBB.out.trans (hB6.out.mono HBB.out.size))
    have HX6 := hid hX6.out
    clear hB6 hX6 hs6 hb5 HB4 HR4 HBB
    go_upto_region 8 with (refine wpList_store_row rfl 26 (.tmp 11) (.tmp 44) rfl w5.heap.size (bvs t).toArray rfl rfl 26 _ (heap_alloc_new _ _) HI.out HO.out (bvs_all _) ?_; rw [World.setRow_alloc_new])
    generalize w5.alloc (.cells (bvs t).toArray 26) = w6 at *
    generalize w5.heap.size = g12 at *
    have hs12 := sl32 g12
    go_wp2_with fail
    refine (same_at (some ⟨g1, 0, none⟩) (some ⟨g12, 0, none⟩) 32 32 32 32 t w6 HTL.out HTL.out (HR1.out.below HB6.out HR1.out.lt).rd0 (bt_rd HX6.out) (by decide)).mono ?_
    rintro e w8 ⟨rfl, k8, rfl⟩
    have HB8 := hid (p := Below w.heap.size w (w6.drewN k8)) (below_dN (HB1.out.trans (HB6.out.mono HB1.out.size)) k8)
    go_wp2
    go_ret
    exact ⟨rfl, HB8.out⟩
end Go.Proofs.YtbloejlebikecaaGreatDoor
