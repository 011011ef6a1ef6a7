/-
  macs.Of, walked: the sum by a key. Conditions: the library's table holds what its text lays; a key of 2^46 bytes at most, a thousand parts at most, each of 2^20 bytes at most.
-/
import Derived.Test.YtbloejlebikecaaGreatDoorMcc
import Derived.Test.YtbloejlebikecaaGreatDoorOrdT
import Derived.Laws.EntriesVeiled
namespace Go.Proofs.YtbloejlebikecaaGreatDoor
open Go.RowKit
set_option linter.unusedVariables false
set_option linter.unusedSimpArgs false

theorem rws_one {w : World} {gb l c : Nat} {A : Option Addr} {x : List UInt8} (h : w.heap[gb]? = some (.cells #[.slice A l c] 27 (0, 0))) (hr : Rd w A x) (hl : x.length = l) (hc : l ≤ c) (hm : c ≤ 140737488351232) (hn : A = none → c = 0 := by simp) :
    Rws w (some ⟨gb, 0, none⟩) 1 (fun _ => A) (fun _ => l) (fun _ => c) (fun _ => x) := by
  intro r hr1
  obtain rfl : r = 0 := by omega
  exact ⟨⟨gb, 0, rfl, lt_of_block h, by rw [cell_of_row w gb _ _ 27 (0, 0) h]; rfl⟩, hl, hr, hc, hm, hn⟩
theorem against_n (g : Nat) (x : UInt8) (xi : Int) (k : List UInt8) (w : World) (hx : xi = ((x.toNat : Nat) : Int)) (hk : Bt w g 65 k) (hl : k.length = 64) :
    Calls Tryz.prog 65 #[.int .u8 xi, .pointer (some ⟨g, 0, none⟩)] w fun e w' => e = .returned (.agg (bvs (xr k x)).toArray) ∧ Below w.heap.size w w' := by
  subst hx; exact against_any g x k w hk hl
set_option maxRecDepth 100000 in
set_option maxHeartbeats 4000000 in
theorem macof_any (A0 : Option Addr) (c : Nat) (key : List UInt8) (n : Nat) (a0 : Option Addr) (n0 c0 : Nat) (A : Nat → Option Addr) (L C : Nat → Nat) (xs : Nat → List UInt8) (w : World) (hn : key.length = n) (hr : Rd w A0 key) (hc : n ≤ c) (hlen : n ≤ 70368744177664)
    (hR : Rws w a0 n0 A L C xs) (hK : Kt w) (hn0 : n0 ≤ 1000) (hL : ∀ r, r < n0 → L r ≤ 1048576) :
    Calls Tryz.prog 14 #[.slice A0 n c, .slice a0 n0 c0] w fun e w' => e = .returned (.agg (bvs (hm key (cat xs n0))).toArray) ∧ Below w.heap.size w w' := by
  have hmf : ∀ (fn : Fn) (first cap : Array Value) (w : World), (Instr.makeFunc fn first cap).run Tryz.prog w = .ok (.func fn first cap) w := fun _ _ _ _ => rfl
  obtain ⟨HB1, HZ1, HS1⟩ := box1 w 26 (List.replicate 32 0)
  have HR1 := hid ((on_rws hR).on HB1.out)
  have HF := hid (filled_any A0 c key (w.alloc (.cells (bvs (List.replicate 32 0)).toArray 26)) n hn (hr.below HB1.out (Nat.le_refl _)) hc (hK.on HB1.out) hlen)
  have HK1 := hid (hK.on HB1.out)
  have HN0 := hid hn0
  have HL := hid hL
  clear hn hr hc hlen hR hK hn0 hL
  go_enter Tryz.func14, Tryz.ntmps14
  go_wp2_with fail
  rw [← lit32]
  generalize w.alloc (.cells (bvs (List.replicate 32 0)).toArray 26) = w1 at *
  generalize hgz : w.heap.size = gz at *
  have HGZ := hid (show w.heap.size ≤ gz by omega)
  rw [← hgz] at HB1
  refine HF.out.mono ?_
  rintro e w2 ⟨rfl, hb2⟩
  have HB2 := hid (HB1.out.trans (hb2.mono HB1.out.size))
  have HK2 := hid (HK1.out.on hb2)
  have HR2 := hid (HR1.out.on hb2)
  have HZ2 := hid (HZ1.out.on hb2)
  clear HB1 HZ1 HS1 HR1 HF HK1 hb2
  have HKL := hid (kof_length key)
  have HRE := hid (show hm key (cat xs n0) = sha (xr (kof key) 92 ++ sha (xr (kof key) 54 ++ cat xs n0)) from rfl)
  generalize kof key = kk at *
  have HO := ho64 kk HKL.out
  have HI := hi43 kk HKL.out
  obtain ⟨hB3, hX3, hs3⟩ := box1 w2 65 kk
  have HB3 := hid (HB2.out.trans (hB3.out.mono HB2.out.size))
  have HK3 := hid (HK2.out.on hB3.out)
  have HR3 := hid (HR2.out.on hB3.out)
  have HZ3 := hid (HZ2.out.on hB3.out)
  have HX3 := hid hX3.out
  clear hB3 hX3 hs3 HB2 HK2 HR2 HZ2
  go_upto_region 2 with (refine wpList_store_row rfl 65 (.tmp 5) (.tmp 9) rfl w2.heap.size (bvs kk).toArray rfl rfl 65 _ (heap_alloc_new _ _) HI.out HO.out (bvs_all _) ?_; rw [World.setRow_alloc_new])
  generalize w2.alloc (.cells (bvs kk).toArray 65) = w3 at *
  generalize w2.heap.size = g5 at *
  go_wp2_with fail
  refine (against_n g5 54 54 kk w3 rfl HX3.out HKL.out).mono ?_
  rintro e w4 ⟨rfl, hb4⟩
  have HB4 := hid (HB3.out.trans (hb4.mono HB3.out.size))
  have HK4 := hid (HK3.out.on hb4)
  have HR4 := hid (HR3.out.on hb4)
  have HZ4 := hid (HZ3.out.on hb4)
  have HX4 := hid (HX3.out.on hb4)
  clear HB3 HK3 HR3 HZ3 HX3 hb4
  go_wp2_with fail
  refine (summed_any (xr kk 54) a0 n0 c0 A L C xs w4 (by rw [xr_length, HKL.out]) HR4.out.here HK4.out HN0.out HL.out).mono ?_
  rintro e w5 ⟨rfl, hb5⟩
  have HB5 := hid (HB4.out.trans (hb5.mono HB4.out.size))
  have HK5 := hid (HK4.out.on hb5)
  have HZ5 := hid (HZ4.out.on hb5)
  have HX5 := hid (HX4.out.on hb5)
  clear HB4 HK4 HR4 HZ4 HX4 hb5
  have HIL := hid (sha_length (xr kk 54 ++ cat xs n0))
  generalize sha (xr kk 54 ++ cat xs n0) = inn at *
  have HO2 := ho32 inn HIL.out
  have HI2 := hi44 inn HIL.out
  obtain ⟨hB6, hX6, hs6⟩ := box1 w5 26 inn
  have HB6 := hid (HB5.out.trans (hB6.out.mono HB5.out.size))
  have HK6 := hid (HK5.out.on hB6.out)
  have HZ6 := hid (HZ5.out.on hB6.out)
  have HX6 := hid (HX5.out.on hB6.out)
  have HI6 := hid hX6.out
  clear hB6 hX6 hs6 HB5 HK5 HZ5 HX5
  go_upto_region 4 with (refine wpList_store_row rfl 26 (.tmp 7) (.tmp 14) rfl w5.heap.size (bvs inn).toArray rfl rfl 26 _ (heap_alloc_new _ _) HI2.out HO2.out (bvs_all _) ?_; rw [World.setRow_alloc_new])
  generalize w5.alloc (.cells (bvs inn).toArray 26) = w6 at *
  generalize w5.heap.size = g7 at *
  have HXL := hid (show (xr kk 92).length = 64 by rw [xr_length, HKL.out])
  have HRR := hid (show sha (xr kk 92 ++ cat (fun _ => inn) 1) = hm key (cat xs n0) by rw [HRE.out]; simp [cat])
  have HQ := hid (hm_length key (cat xs n0))
  clear HRE
  generalize hre : hm key (cat xs n0) = r at *
  have HRE := hid hre
  clear hre
  have hsl := sl32 g7
  refine wp_region_noPanic ?_
  refine Goes.region (fun (L : Array Bool) (u : World) => True) (by as_aux_lemma => kernel_rfl) ?_
  have HB := hid (on_below (HB6.out.drew))
  have FK := hid (on_kt (show Kt w6.drew from HK6.out))
  have FI := hid (on_bt (show Bt w6.drew g7 26 inn from HI6.out))
  have FX := hid (on_bt (show Bt w6.drew g5 65 kk from HX6.out))
  have FZ := hid (on_bt (show Bt w6.drew gz 26 (List.replicate 32 0) from HZ6.out))
  clear HB6 HK6 HI6 HX6 HZ6
  generalize w6.drew = wd at *
  refine Goes.take (i := 0) (o := ⟨some 15, _, _, _, _, _⟩) (v := ?_) [] rfl (by as_aux_lemma => kernel_rfl) (by as_aux_lemma => kernel_rfl) (by as_aux_lemma => kernel_rfl) (fun _ _ _ h => h) (by as_aux_lemma => kernel_rfl) (fun L u h => h) (Or.inl ⟨by rfl, ?_⟩) trivial ?_
  rotate_left
  · intro u hY; go_simp; try with_reducible rfl
  try simp only [putz]
  refine Goes.take (i := 2) (o := ⟨some 17, _, _, _, _, _⟩) (v := ?_) [] rfl (by as_aux_lemma => kernel_rfl) (by as_aux_lemma => kernel_rfl) (by as_aux_lemma => kernel_rfl) (fun _ _ _ h => h) (by as_aux_lemma => kernel_rfl) (fun L u h => h) (Or.inl ⟨by rfl, ?_⟩) trivial ?_
  rotate_left
  · intro u hY; go_simp; try with_reducible rfl
  try simp only [putz]
  refine Goes.two (i := 1) (j := 3) (o := ⟨some 16, _, _, _, _, _⟩) (p := ⟨some 18, _, _, _, _, _⟩) (by as_aux_lemma => kernel_rfl) rfl rfl (fun K hK => ?_) (fun K hK => ?_)
  · skip
    go_simp
    refine (against_n g5 92 92 kk wd rfl FX.out.here HKL.out).mono ?_
    rintro e w7 ⟨rfl, hb⟩
    go_wp2_with fail
    refine hK.out _ _ trivial ?_
    clear hK K
    try simp only [putz]
    have HB := hid (HB.out.on hb)
    have FK := hid (FK.out.on hb)
    have FI := hid (FI.out.on hb)
    have FX := hid (FX.out.on hb)
    have FZ := hid (FZ.out.on hb)
    clear hb
    refine Goes.one (i := 3) (o := ⟨some 18, _, _, _, _, _⟩) (by as_aux_lemma => kernel_rfl) rfl (fun K hK => ?_)
    go_simp
    have hb := (Below.refl w7.heap.size w7).alloc (Nat.le_refl _) (.cells #[.slice (some ⟨g7, 0, none⟩) 32 32] 27)
    have hh := heap_alloc_new w7 (.cells #[.slice (some ⟨g7, 0, none⟩) 32 32] 27)
    refine hK.out _ _ trivial ?_
    clear hK K
    try simp only [putz]
    have HB := hid (HB.out.on hb)
    have FK := hid (FK.out.on hb)
    have FI := hid (FI.out.on hb)
    have FX := hid (FX.out.on hb)
    have FZ := hid (FZ.out.on hb)
    generalize w7.alloc (.cells #[.slice (some ⟨g7, 0, none⟩) 32 32] 27) = w8 at *
    generalize w7.heap.size = gb at *
    have FR := hid (on_rws (rws_one hh (bt_rd FI.out.here) HIL.out (by decide) (by decide)))
    clear hb hh
    refine Goes.one (i := 4) (o := ⟨some 19, _, _, _, _, _⟩) (by as_aux_lemma => kernel_rfl) rfl (fun K hK => ?_)
    go_simp
    refine (summed_any (xr kk 92) (some ⟨gb, 0, none⟩) 1 1 _ _ _ _ w8 HXL.out FR.out.here FK.out.here (by decide) (fun r hr => by decide)).mono ?_
    rintro e w9 ⟨rfl, hb⟩
    go_wp2_with fail
    refine hK.out _ _ trivial ?_
    clear hK K
    try simp only [putz]
    have HB := hid (HB.out.on hb)
    have FZ := hid (FZ.out.on hb)
    clear hb
    refine Goes.one (i := 5) (o := ⟨none, _, _, _, _, _⟩) (by as_aux_lemma => kernel_rfl) rfl (fun K hK => ?_)
    rw [if_pos (by rfl)]
    have hz := FZ.out.here
    unfold Bt at hz
    rw [HRR.out]
    refine wp_store_row 26 (.tmp 4) (.tmp 19) (by rfl) gz (bvs r).toArray (by rfl) (by rfl) 26 _ hz (hi44 r HQ.out).out (hsz _ r (by rw [HQ.out, List.length_replicate])).out (bvs_all r) ?_
    have HW := below_setRow HB.out.here HGZ.out (bvs r).toArray
    have HT := hid (FZ.out.here.row (m := r))
    refine hK.out _ _ trivial ?_
    clear hK K
    try simp only [putz]
    refine Goes.done (by as_aux_lemma => kernel_rfl) ?_ _
    refine NoPanic.normal ?_
    go_wp2
    exact bodyPost_ret (v := .agg (bvs r).toArray) (results_cell_row (p := 4) (ty := 26) Tryz.results14 _ _ gz 26 (bvs r).toArray (0, 0) _ rfl HT.out Tryz.underlying26 rfl (hi44 r HQ.out).out) rfl ⟨by rw [HRE.out], HW⟩
  · skip
    go_simp
    have hb := (Below.refl wd.heap.size wd).alloc (Nat.le_refl _) (.cells #[.slice (some ⟨g7, 0, none⟩) 32 32] 27)
    have hh := heap_alloc_new wd (.cells #[.slice (some ⟨g7, 0, none⟩) 32 32] 27)
    refine hK.out _ _ trivial ?_
    clear hK K
    try simp only [putz]
    have HB := hid (HB.out.on hb)
    have FK := hid (FK.out.on hb)
    have FI := hid (FI.out.on hb)
    have FX := hid (FX.out.on hb)
    have FZ := hid (FZ.out.on hb)
    generalize wd.alloc (.cells #[.slice (some ⟨g7, 0, none⟩) 32 32] 27) = w7 at *
    generalize wd.heap.size = gb at *
    have FR := hid (on_rws (rws_one hh (bt_rd FI.out.here) HIL.out (by decide) (by decide)))
    clear hb hh
    refine Goes.one (i := 1) (o := ⟨some 16, _, _, _, _, _⟩) (by as_aux_lemma => kernel_rfl) rfl (fun K hK => ?_)
    go_simp
    refine (against_n g5 92 92 kk w7 rfl FX.out.here HKL.out).mono ?_
    rintro e w8 ⟨rfl, hb⟩
    go_wp2_with fail
    refine hK.out _ _ trivial ?_
    clear hK K
    try simp only [putz]
    have HB := hid (HB.out.on hb)
    have FK := hid (FK.out.on hb)
    have FI := hid (FI.out.on hb)
    have FX := hid (FX.out.on hb)
    have FZ := hid (FZ.out.on hb)
    have FR := hid (FR.out.on hb)
    clear hb
    refine Goes.one (i := 4) (o := ⟨some 19, _, _, _, _, _⟩) (by as_aux_lemma => kernel_rfl) rfl (fun K hK => ?_)
    go_simp
    refine (summed_any (xr kk 92) (some ⟨gb, 0, none⟩) 1 1 _ _ _ _ w8 HXL.out FR.out.here FK.out.here (by decide) (fun r hr => by decide)).mono ?_
    rintro e w9 ⟨rfl, hb⟩
    go_wp2_with fail
    refine hK.out _ _ trivial ?_
    clear hK K
    try simp only [putz]
    have HB := hid (HB.out.on hb)
    have FZ := hid (FZ.out.on hb)
    clear hb
    refine Goes.one (i := 5) (o := ⟨none, _, _, _, _, _⟩) (by as_aux_lemma => kernel_rfl) rfl (fun K hK => ?_)
    rw [if_pos (by rfl)]
    have hz := FZ.out.here
    unfold Bt at hz
    rw [HRR.out]
    refine wp_store_row 26 (.tmp 4) (.tmp 19) (by rfl) gz (bvs r).toArray (by rfl) (by rfl) 26 _ hz (hi44 r HQ.out).out (hsz _ r (by rw [HQ.out, List.length_replicate])).out (bvs_all r) ?_
    have HW := below_setRow HB.out.here HGZ.out (bvs r).toArray
    have HT := hid (FZ.out.here.row (m := r))
    refine hK.out _ _ trivial ?_
    clear hK K
    try simp only [putz]
    refine Goes.done (by as_aux_lemma => kernel_rfl) ?_ _
    refine NoPanic.normal ?_
    go_wp2
    exact bodyPost_ret (v := .agg (bvs r).toArray) (results_cell_row (p := 4) (ty := 26) Tryz.results14 _ _ gz 26 (bvs r).toArray (0, 0) _ rfl HT.out Tryz.underlying26 rfl (hi44 r HQ.out).out) rfl ⟨by rw [HRE.out], HW⟩
end Go.Proofs.YtbloejlebikecaaGreatDoor
