/-
  macs.Of, walked: the sum by a key. Conditions: the library's table holds what its text lays; a key of 2^46 bytes at most, a thousand parts at most, each of 2^20 bytes at most.
  burrowlaw08.lives, walked: it answers true. Condition: the library's table holds what its text lays.
  Words for keys out of what two share: numbers and bytes in boxes, parts in a list, a copy into the middle. Conditions: none.
  Streams of sums, as they lie in memory: what stands ahead of the seed, the seed, how many were drawn. Conditions: none.
  What is drawn of a stream: the next sum; the count grows by one. Condition: the library's table holds what its text lays.
  Next and Drawn of a stream, and of one that is not there. Condition: the library's table holds what its text lays.
  From numbers, sums and slices of bytes, as the reading gives them, to what the walks ask. Conditions: none.
-/
import Derived.Test.YtcijnoapjicliaaDoorPkK
import Derived.Test.YtcijnoapjicliaaDoorPkC
import Derived.Laws.EntriesVeiled
import Derived.Test.YtcijnoapjicliaaDoorPkH
import Derived.Test.YtcijnoapjicliaaDoorPkF
import Derived.Lib.SlBytesConst
import Derived.Test.YtcijnoapjicliaaDoorPkI
import Derived.Test.YtcijnoapjicliaaDoorKma
import Derived.Deep.MidRow
import Derived.Deep.DeepCutAuto
import Derived.Test.YtcijnoapjicliaaDoorOpen
import Derived.Test.YtcijnoapjicliaaDoorLaid
import Derived.SizedLaws
namespace Go.Proofs.YtcijnoapjicliaaDoor
open Go.RowKit
set_option linter.unusedVariables false
set_option linter.unusedSimpArgs false

theorem rws_one {w : World} {gb l c : Nat} {A : Option Addr} {x : List UInt8} (h : w.heap[gb]? = some (.cells #[.slice A l c] 47 (0, 0))) (hr : Rd w A x) (hl : x.length = l) (hc : l ≤ c) (hm : c ≤ 140737488351232) (hn : A = none → c = 0 := by simp) :
    Rws w (some ⟨gb, 0, none⟩) 1 (fun _ => A) (fun _ => l) (fun _ => c) (fun _ => x) := by
  intro r hr1
  obtain rfl : r = 0 := by omega
  exact ⟨⟨gb, 0, rfl, lt_of_block h, by rw [cell_of_row w gb _ _ 47 (0, 0) h]; rfl⟩, hl, hr, hc, hm, hn⟩
theorem against_n (g : Nat) (x : UInt8) (xi : Int) (k : List UInt8) (w : World) (hx : xi = ((x.toNat : Nat) : Int)) (hk : Bt w g 91 k) (hl : k.length = 64) :
    Calls Tryd.prog 61 #[.int .u8 xi, .pointer (some ⟨g, 0, none⟩)] w fun e w' => e = .returned (.agg (bvs (xr k x)).toArray) ∧ Below w.heap.size w w' := by
  subst hx; exact against_any g x k w hk hl
set_option maxRecDepth 100000 in
set_option maxHeartbeats 4000000 in
theorem macof_any (A0 : Option Addr) (c : Nat) (key : List UInt8) (n : Nat) (a0 : Option Addr) (n0 c0 : Nat) (A : Nat → Option Addr) (L C : Nat → Nat) (xs : Nat → List UInt8) (w : World) (hn : key.length = n) (hr : Rd w A0 key) (hc : n ≤ c) (hlen : n ≤ 70368744177664)
    (hR : Rws w a0 n0 A L C xs) (hK : Kt w) (hn0 : n0 ≤ 1000) (hL : ∀ r, r < n0 → L r ≤ 1048576) :
    Calls Tryd.prog 39 #[.slice A0 n c, .slice a0 n0 c0] w fun e w' => e = .returned (.agg (bvs (hm key (cat xs n0))).toArray) ∧ Below w.heap.size w w' := by
  have hmf : ∀ (fn : Fn) (first cap : Array Value) (w : World), (Instr.makeFunc fn first cap).run Tryd.prog w = .ok (.func fn first cap) w := fun _ _ _ _ => rfl
  obtain ⟨HB1, HZ1, HS1⟩ := box1 w 23 (List.replicate 32 0)
  have HR1 := hid ((on_rws hR).on HB1.out)
  have HF := hid (filled_any A0 c key (w.alloc (.cells (bvs (List.replicate 32 0)).toArray 23)) n hn (hr.below HB1.out (Nat.le_refl _)) hc (hK.on HB1.out) hlen)
  have HK1 := hid (hK.on HB1.out)
  have HN0 := hid hn0
  have HL := hid hL
  clear hn hr hc hlen hR hK hn0 hL
  go_enter Tryd.func39, Tryd.ntmps39
  go_wp2_with fail
  rw [← lit32]
  generalize w.alloc (.cells (bvs (List.replicate 32 0)).toArray 23) = w1 at *
  generalize hgz : w.heap.size = gz at *
  have HGZ := hid (show w.heap.size ≤ gz by omega)
  rw [← hgz] at HB1
  refine HF.out.mono ?_
  rintro e w2 ⟨rfl, hb2⟩
  have HB2 := hid (HB1.out.trans (hb2.mono HB1.out.size))
  have HK2 := hid (HK1.out.on hb2)
  have HR2 := hid (HR1.out.on hb2)
  have HZ2 := hid (HZ1.out.on hb2)
  clear HB1 HZ1 HS1 HR1 HF HK1 hb2
  have HKL := hid (kof_length key)
  have HRE := hid (show hm key (cat xs n0) = sha (xr (kof key) 92 ++ sha (xr (kof key) 54 ++ cat xs n0)) from rfl)
  generalize kof key = kk at *
  have HO := ho64 kk HKL.out
  have HI := hi43 kk HKL.out
  obtain ⟨hB3, hX3, hs3⟩ := box1 w2 91 kk
  have HB3 := hid (HB2.out.trans (hB3.out.mono HB2.out.size))
  have HK3 := hid (HK2.out.on hB3.out)
  have HR3 := hid (HR2.out.on hB3.out)
  have HZ3 := hid (HZ2.out.on hB3.out)
  have HX3 := hid hX3.out
  clear hB3 hX3 hs3 HB2 HK2 HR2 HZ2
  go_upto_region 2 with (refine wpList_store_row rfl 91 (.tmp 5) (.tmp 9) rfl w2.heap.size (bvs kk).toArray rfl rfl 91 _ (heap_alloc_new _ _) HI.out HO.out (bvs_all _) ?_; rw [World.setRow_alloc_new])
  generalize w2.alloc (.cells (bvs kk).toArray 91) = w3 at *
  generalize w2.heap.size = g5 at *
  go_wp2_with fail
  refine (against_n g5 54 54 kk w3 rfl HX3.out HKL.out).mono ?_
  rintro e w4 ⟨rfl, hb4⟩
  have HB4 := hid (HB3.out.trans (hb4.mono HB3.out.size))
  have HK4 := hid (HK3.out.on hb4)
  have HR4 := hid (HR3.out.on hb4)
  have HZ4 := hid (HZ3.out.on hb4)
  have HX4 := hid (HX3.out.on hb4)
  clear HB3 HK3 HR3 HZ3 HX3 hb4
  go_wp2_with fail
  refine (summed_any (xr kk 54) a0 n0 c0 A L C xs w4 (by rw [xr_length, HKL.out]) HR4.out.here HK4.out HN0.out HL.out).mono ?_
  rintro e w5 ⟨rfl, hb5⟩
  have HB5 := hid (HB4.out.trans (hb5.mono HB4.out.size))
  have HK5 := hid (HK4.out.on hb5)
  have HZ5 := hid (HZ4.out.on hb5)
  have HX5 := hid (HX4.out.on hb5)
  clear HB4 HK4 HR4 HZ4 HX4 hb5
  have HIL := hid (sha_length (xr kk 54 ++ cat xs n0))
  generalize sha (xr kk 54 ++ cat xs n0) = inn at *
  have HO2 := ho32 inn HIL.out
  have HI2 := hi44 inn HIL.out
  obtain ⟨hB6, hX6, hs6⟩ := box1 w5 23 inn
  have HB6 := hid (HB5.out.trans (hB6.out.mono HB5.out.size))
  have HK6 := hid (HK5.out.on hB6.out)
  have HZ6 := hid (HZ5.out.on hB6.out)
  have HX6 := hid (HX5.out.on hB6.out)
  have HI6 := hid hX6.out
  clear hB6 hX6 hs6 HB5 HK5 HZ5 HX5
  go_upto_region 4 with (refine wpList_store_row rfl 23 (.tmp 7) (.tmp 14) rfl w5.heap.size (bvs inn).toArray rfl rfl 23 _ (heap_alloc_new _ _) HI2.out HO2.out (bvs_all _) ?_; rw [World.setRow_alloc_new])
  generalize w5.alloc (.cells (bvs inn).toArray 23) = w6 at *
  generalize w5.heap.size = g7 at *
  have HXL := hid (show (xr kk 92).length = 64 by rw [xr_length, HKL.out])
  have HRR := hid (show sha (xr kk 92 ++ cat (fun _ => inn) 1) = hm key (cat xs n0) by rw [HRE.out]; simp [cat])
  have HQ := hid (hm_length key (cat xs n0))
  clear HRE
  generalize hre : hm key (cat xs n0) = r at *
  have HRE := hid hre
  clear hre
  have hsl := sl32 g7
  refine wp_region_noPanic ?_
  refine Goes.region (fun (L : Array Bool) (u : World) => True) (by as_aux_lemma => kernel_rfl) ?_
  have HB := hid (on_below (HB6.out.drew))
  have FK := hid (on_kt (show Kt w6.drew from HK6.out))
  have FI := hid (on_bt (show Bt w6.drew g7 23 inn from HI6.out))
  have FX := hid (on_bt (show Bt w6.drew g5 91 kk from HX6.out))
  have FZ := hid (on_bt (show Bt w6.drew gz 23 (List.replicate 32 0) from HZ6.out))
  clear HB6 HK6 HI6 HX6 HZ6
  generalize w6.drew = wd at *
  refine Goes.take (i := 0) (o := ⟨some 15, _, _, _, _, _⟩) (v := ?_) [] rfl (by as_aux_lemma => kernel_rfl) (by as_aux_lemma => kernel_rfl) (by as_aux_lemma => kernel_rfl) (fun _ _ _ h => h) (by as_aux_lemma => kernel_rfl) (fun L u h => h) (Or.inl ⟨by rfl, ?_⟩) trivial ?_
  rotate_left
  · intro u hY; go_simp; try with_reducible rfl
  try simp only [putz]
  refine Goes.take (i := 2) (o := ⟨some 17, _, _, _, _, _⟩) (v := ?_) [] rfl (by as_aux_lemma => kernel_rfl) (by as_aux_lemma => kernel_rfl) (by as_aux_lemma => kernel_rfl) (fun _ _ _ h => h) (by as_aux_lemma => kernel_rfl) (fun L u h => h) (Or.inl ⟨by rfl, ?_⟩) trivial ?_
  rotate_left
  · intro u hY; go_simp; try with_reducible rfl
  try simp only [putz]
  refine Goes.two (i := 1) (j := 3) (o := ⟨some 16, _, _, _, _, _⟩) (p := ⟨some 18, _, _, _, _, _⟩) (by as_aux_lemma => kernel_rfl) rfl rfl (fun K hK => ?_) (fun K hK => ?_)
  · skip
    go_simp
    refine (against_n g5 92 92 kk wd rfl FX.out.here HKL.out).mono ?_
    rintro e w7 ⟨rfl, hb⟩
    go_wp2_with fail
    refine hK.out _ _ trivial ?_
    clear hK K
    try simp only [putz]
    have HB := hid (HB.out.on hb)
    have FK := hid (FK.out.on hb)
    have FI := hid (FI.out.on hb)
    have FX := hid (FX.out.on hb)
    have FZ := hid (FZ.out.on hb)
    clear hb
    refine Goes.one (i := 3) (o := ⟨some 18, _, _, _, _, _⟩) (by as_aux_lemma => kernel_rfl) rfl (fun K hK => ?_)
    go_simp
    have hb := (Below.refl w7.heap.size w7).alloc (Nat.le_refl _) (.cells #[.slice (some ⟨g7, 0, none⟩) 32 32] 47)
    have hh := heap_alloc_new w7 (.cells #[.slice (some ⟨g7, 0, none⟩) 32 32] 47)
    refine hK.out _ _ trivial ?_
    clear hK K
    try simp only [putz]
    have HB := hid (HB.out.on hb)
    have FK := hid (FK.out.on hb)
    have FI := hid (FI.out.on hb)
    have FX := hid (FX.out.on hb)
    have FZ := hid (FZ.out.on hb)
    generalize w7.alloc (.cells #[.slice (some ⟨g7, 0, none⟩) 32 32] 47) = w8 at *
    generalize w7.heap.size = gb at *
    have FR := hid (on_rws (rws_one hh (bt_rd FI.out.here) HIL.out (by decide) (by decide)))
    clear hb hh
    refine Goes.one (i := 4) (o := ⟨some 19, _, _, _, _, _⟩) (by as_aux_lemma => kernel_rfl) rfl (fun K hK => ?_)
    go_simp
    refine (summed_any (xr kk 92) (some ⟨gb, 0, none⟩) 1 1 _ _ _ _ w8 HXL.out FR.out.here FK.out.here (by decide) (fun r hr => by decide)).mono ?_
    rintro e w9 ⟨rfl, hb⟩
    go_wp2_with fail
    refine hK.out _ _ trivial ?_
    clear hK K
    try simp only [putz]
    have HB := hid (HB.out.on hb)
    have FZ := hid (FZ.out.on hb)
    clear hb
    refine Goes.one (i := 5) (o := ⟨none, _, _, _, _, _⟩) (by as_aux_lemma => kernel_rfl) rfl (fun K hK => ?_)
    rw [if_pos (by rfl)]
    have hz := FZ.out.here
    unfold Bt at hz
    rw [HRR.out]
    refine wp_store_row 23 (.tmp 4) (.tmp 19) (by rfl) gz (bvs r).toArray (by rfl) (by rfl) 23 _ hz (hi44 r HQ.out).out (hsz _ r (by rw [HQ.out, List.length_replicate])).out (bvs_all r) ?_
    have HW := below_setRow HB.out.here HGZ.out (bvs r).toArray
    have HT := hid (FZ.out.here.row (m := r))
    refine hK.out _ _ trivial ?_
    clear hK K
    try simp only [putz]
    refine Goes.done (by as_aux_lemma => kernel_rfl) ?_ _
    refine NoPanic.normal ?_
    go_wp2
    exact bodyPost_ret (v := .agg (bvs r).toArray) (results_cell_row (p := 4) (ty := 23) Tryd.results39 _ _ gz 23 (bvs r).toArray (0, 0) _ rfl HT.out Tryd.underlying23 rfl (hi44 r HQ.out).out) rfl ⟨by rw [HRE.out], HW⟩
  · skip
    go_simp
    have hb := (Below.refl wd.heap.size wd).alloc (Nat.le_refl _) (.cells #[.slice (some ⟨g7, 0, none⟩) 32 32] 47)
    have hh := heap_alloc_new wd (.cells #[.slice (some ⟨g7, 0, none⟩) 32 32] 47)
    refine hK.out _ _ trivial ?_
    clear hK K
    try simp only [putz]
    have HB := hid (HB.out.on hb)
    have FK := hid (FK.out.on hb)
    have FI := hid (FI.out.on hb)
    have FX := hid (FX.out.on hb)
    have FZ := hid (FZ.out.on hb)
    generalize wd.alloc (.cells #[.slice (some ⟨g7, 0, none⟩) 32 32] 47) = w7 at *
    generalize wd.heap.size = gb at *
    have FR := hid (on_rws (rws_one hh (bt_rd FI.out.here) HIL.out (by decide) (by decide)))
    clear hb hh
    refine Goes.one (i := 1) (o := ⟨some 16, _, _, _, _, _⟩) (by as_aux_lemma => kernel_rfl) rfl (fun K hK => ?_)
    go_simp
    refine (against_n g5 92 92 kk w7 rfl FX.out.here HKL.out).mono ?_
    rintro e w8 ⟨rfl, hb⟩
    go_wp2_with fail
    refine hK.out _ _ trivial ?_
    clear hK K
    try simp only [putz]
    have HB := hid (HB.out.on hb)
    have FK := hid (FK.out.on hb)
    have FI := hid (FI.out.on hb)
    have FX := hid (FX.out.on hb)
    have FZ := hid (FZ.out.on hb)
    have FR := hid (FR.out.on hb)
    clear hb
    refine Goes.one (i := 4) (o := ⟨some 19, _, _, _, _, _⟩) (by as_aux_lemma => kernel_rfl) rfl (fun K hK => ?_)
    go_simp
    refine (summed_any (xr kk 92) (some ⟨gb, 0, none⟩) 1 1 _ _ _ _ w8 HXL.out FR.out.here FK.out.here (by decide) (fun r hr => by decide)).mono ?_
    rintro e w9 ⟨rfl, hb⟩
    go_wp2_with fail
    refine hK.out _ _ trivial ?_
    clear hK K
    try simp only [putz]
    have HB := hid (HB.out.on hb)
    have FZ := hid (FZ.out.on hb)
    clear hb
    refine Goes.one (i := 5) (o := ⟨none, _, _, _, _, _⟩) (by as_aux_lemma => kernel_rfl) rfl (fun K hK => ?_)
    rw [if_pos (by rfl)]
    have hz := FZ.out.here
    unfold Bt at hz
    rw [HRR.out]
    refine wp_store_row 23 (.tmp 4) (.tmp 19) (by rfl) gz (bvs r).toArray (by rfl) (by rfl) 23 _ hz (hi44 r HQ.out).out (hsz _ r (by rw [HQ.out, List.length_replicate])).out (bvs_all r) ?_
    have HW := below_setRow HB.out.here HGZ.out (bvs r).toArray
    have HT := hid (FZ.out.here.row (m := r))
    refine hK.out _ _ trivial ?_
    clear hK K
    try simp only [putz]
    refine Goes.done (by as_aux_lemma => kernel_rfl) ?_ _
    refine NoPanic.normal ?_
    go_wp2
    exact bodyPost_ret (v := .agg (bvs r).toArray) (results_cell_row (p := 4) (ty := 23) Tryd.results39 _ _ gz 23 (bvs r).toArray (0, 0) _ rfl HT.out Tryd.underlying23 rfl (hi44 r HQ.out).out) rfl ⟨by rw [HRE.out], HW⟩
end Go.Proofs.YtcijnoapjicliaaDoor
namespace Go.Proofs.YtcijnoapjicliaaDoor
open Go.RowKit
set_option linter.unusedVariables false
set_option linter.unusedSimpArgs false

theorem jefe_in : sha (xr (kof [74, 101, 102, 101]) 54 ++ [119, 104, 97, 116, 32, 100, 111, 32, 121, 97, 32, 119, 97, 110, 116, 32, 102, 111, 114, 32, 110, 111, 116, 104, 105, 110, 103, 63]) = [162, 228, 133, 134, 61, 39, 249, 216, 100, 172, 141, 128, 36, 50, 161, 237, 71, 125, 140, 76, 111, 52, 157, 22, 212, 231, 233, 23, 198, 41, 202, 215] := by decide +kernel
theorem jefe_out : sha (xr (kof [74, 101, 102, 101]) 92 ++ [162, 228, 133, 134, 61, 39, 249, 216, 100, 172, 141, 128, 36, 50, 161, 237, 71, 125, 140, 76, 111, 52, 157, 22, 212, 231, 233, 23, 198, 41, 202, 215]) = [91, 220, 193, 70, 191, 96, 117, 78, 106, 4, 36, 38, 8, 149, 117, 199, 90, 0, 63, 8, 157, 39, 57, 131, 157, 236, 88, 185, 100, 236, 56, 67] := by decide +kernel
theorem jefe : hm [74, 101, 102, 101] [119, 104, 97, 116, 32, 100, 111, 32, 121, 97, 32, 119, 97, 110, 116, 32, 102, 111, 114, 32, 110, 111, 116, 104, 105, 110, 103, 63] = [91, 220, 193, 70, 191, 96, 117, 78, 106, 4, 36, 38, 8, 149, 117, 199, 90, 0, 63, 8, 157, 39, 57, 131, 157, 236, 88, 185, 100, 236, 56, 67] := by unfold hm; rw [jefe_in, jefe_out]
theorem hex_jefe : hexs [91, 220, 193, 70, 191, 96, 117, 78, 106, 4, 36, 38, 8, 149, 117, 199, 90, 0, 63, 8, 157, 39, 57, 131, 157, 236, 88, 185, 100, 236, 56, 67] 32 = { data := #[53, 98, 100, 99, 99, 49, 52, 54, 98, 102, 54, 48, 55, 53, 52, 101, 54, 97, 48, 52, 50, 52, 50, 54, 48, 56, 57, 53, 55, 53, 99, 55, 53, 97, 48, 48, 51, 102, 48, 56, 57, 100, 50, 55, 51, 57, 56, 51, 57, 100, 101, 99, 53, 56, 98, 57, 54, 52, 101, 99, 51, 56, 52, 51] } := by kernel_rfl
/-- three constant texts, and a list of the last two -/
theorem texts3 (w : World) (l1 l2 l3 : List UInt8) (f1 f2 f3 : Nat × Nat) (n2 n3 : Nat) (h2 : l2.length = n2) (h3 : l3.length = n3) (b2 : n2 ≤ 1048576) (b3 : n3 ≤ 1048576) :
    ∃ w4, w4 = (((w.alloc (.cells (bvs l1).toArray 5 f1)).alloc (.cells (bvs l2).toArray 5 f2)).alloc (.cells (bvs l3).toArray 5 f3)).alloc (.cells #[.slice (some ⟨w.heap.size + 1, 0, none⟩) n2 n2, .slice (some ⟨w.heap.size + 1 + 1, 0, none⟩) n3 n3] 47) ∧
      Hid (Below w.heap.size w w4) ∧ Hid (Rd w4 (some ⟨w.heap.size, 0, none⟩) l1) ∧
      Hid (Rws w4 (some ⟨w.heap.size + 1 + 1 + 1, 0, none⟩) 2 (fun r => if r = 0 then some ⟨w.heap.size + 1, 0, none⟩ else some ⟨w.heap.size + 1 + 1, 0, none⟩) (fun r => if r = 0 then n2 else n3) (fun r => if r = 0 then n2 else n3) (fun r => if r = 0 then l2 else l3)) := by
  refine ⟨_, rfl, ?_⟩
  have a1 : Below w.heap.size w (w.alloc (.cells (bvs l1).toArray 5 f1)) := (Below.refl _ _).alloc (Nat.le_refl _) _
  have r1 := rd_mark w l1 f1
  have s1 := al_size w (.cells (bvs l1).toArray 5 f1)
  generalize w.alloc (.cells (bvs l1).toArray 5 f1) = w1 at *
  have a2 : Below w1.heap.size w1 (w1.alloc (.cells (bvs l2).toArray 5 f2)) := (Below.refl _ _).alloc (Nat.le_refl _) _
  have r2 := rd_mark w1 l2 f2
  have s2 := al_size w1 (.cells (bvs l2).toArray 5 f2)
  generalize w1.alloc (.cells (bvs l2).toArray 5 f2) = w2 at *
  have a3 : Below w2.heap.size w2 (w2.alloc (.cells (bvs l3).toArray 5 f3)) := (Below.refl _ _).alloc (Nat.le_refl _) _
  have r3 := rd_mark w2 l3 f3
  have s3 := al_size w2 (.cells (bvs l3).toArray 5 f3)
  generalize w2.alloc (.cells (bvs l3).toArray 5 f3) = w3 at *
  rw [s1] at r2 s2
  rw [s2] at r3 s3
  generalize hob : (Obj.cells #[Value.slice (some ⟨w.heap.size + 1, 0, none⟩) n2 n2, Value.slice (some ⟨w.heap.size + 1 + 1, 0, none⟩) n3 n3] 47) = ob
  have a4 : Below w3.heap.size w3 (w3.alloc ob) := (Below.refl _ _).alloc (Nat.le_refl _) _
  have hn : (w3.alloc ob).heap[w3.heap.size]? = some ob := heap_alloc_new w3 ob
  generalize w3.alloc ob = w4 at *
  rw [s3] at hn
  subst hob
  have b1 := (a2.mono (by omega) : Below w.heap.size w1 w2)
  have b3' := (a3.mono (by omega) : Below w.heap.size w2 w3)
  have b4 := (a4.mono (by omega) : Below w.heap.size w3 w4)
  have c12 := Rd.below (Rd.below (Rd.below r1 a2 (Nat.le_refl _)) a3 (Nat.le_refl _)) a4 (Nat.le_refl _)
  have c2 := Rd.below (Rd.below r2 a3 (Nat.le_refl _)) a4 (Nat.le_refl _)
  have c3 := Rd.below r3 a4 (Nat.le_refl _)
  refine ⟨hid (((a1.trans b1).trans b3').trans b4), hid c12, hid fun r hr => ?_⟩
  rcases (show r = 0 ∨ r = 1 by omega) with rfl | rfl
  · exact ⟨⟨_, 0, rfl, lt_of_block hn, by rw [cell_of_row w4 _ _ _ 47 (0, 0) hn]; rfl⟩, h2, c2, Nat.le_refl _, (show n2 ≤ 140737488351232 by omega), fun h => by simp at h⟩
  · exact ⟨⟨_, 0, rfl, lt_of_block hn, by rw [cell_of_row w4 _ _ _ 47 (0, 0) hn]; rfl⟩, h3, c3, Nat.le_refl _, (show n3 ≤ 140737488351232 by omega), fun h => by simp at h⟩
/-- two constant texts -/
theorem texts2 (w : World) (l1 l2 : List UInt8) (f1 f2 : Nat × Nat) : ∃ w4, w4 = (w.alloc (.cells (bvs l1).toArray 5 f1)).alloc (.cells (bvs l2).toArray 5 f2) ∧ Hid (Below w.heap.size w w4) ∧ Hid (Rd w4 (some ⟨w.heap.size, 0, none⟩) l1) ∧ Hid (Rd w4 (some ⟨w.heap.size + 1, 0, none⟩) l2) := by
  refine ⟨_, rfl, ?_⟩
  have a1 : Below w.heap.size w (w.alloc (.cells (bvs l1).toArray 5 f1)) := (Below.refl _ _).alloc (Nat.le_refl _) _
  have r1 := rd_mark w l1 f1
  have s1 := al_size w (.cells (bvs l1).toArray 5 f1)
  generalize w.alloc (.cells (bvs l1).toArray 5 f1) = w1 at *
  have a2 : Below w1.heap.size w1 (w1.alloc (.cells (bvs l2).toArray 5 f2)) := (Below.refl _ _).alloc (Nat.le_refl _) _
  have r2 := rd_mark w1 l2 f2
  rw [s1] at r2
  exact ⟨hid (a1.trans (a2.mono (by omega))), hid (r1.below a2 (Nat.le_refl _)), hid r2⟩
theorem below_dN {B : Nat} {w w' : World} (h : Below B w w') (k : Nat) : Below B w (w'.drewN k) := by
  induction k with
  | zero => exact h
  | succ k ih => exact ih.drew
theorem conv_c (w : World) (C : Array Value) (n s : Nat) (h : w.heap.size = s) (hn : C.size = n) : (convert 47 47 (.slice (some ⟨s, 0, none⟩) n n)).run Tryd.prog (w.alloc (.cells C 5)) = .ok (.slice (some ⟨s, 0, none⟩) n n) (w.alloc (.cells C 5 (n, n + 1))) := by
  subst h; subst hn
  exact Lib.run_convert_bytes_const (P := Tryd.prog) w 47 5 C C.size C.size Tryd.underlying47 Tryd.underlying5
end Go.Proofs.YtcijnoapjicliaaDoor
namespace Go.Proofs.YtcijnoapjicliaaDoor
open Go.RowKit
set_option linter.unusedVariables false
set_option linter.unusedSimpArgs false

/-- a number's bytes; its block -/
def nb (n0 n1 n2 n3 : Nat) : List UInt8 := be (wnum [n0, n1, n2, n3]) 32
theorem nb_length (n0 n1 n2 n3 : Nat) : (nb n0 n1 n2 n3).length = 32 := be_length _ _
def Nb (w : World) (g n0 n1 n2 n3 : Nat) : Prop := w.heap[g]? = some (.cells #[.int .u64 (n0 : Int), .int .u64 (n1 : Int), .int .u64 (n2 : Int), .int .u64 (n3 : Int)] 26 (0, 0))
theorem Nb.lt {w : World} {g n0 n1 n2 n3 : Nat} (h : Nb w g n0 n1 n2 n3) : g < w.heap.size := lt_of_block h
theorem Nb.on {w w' : World} {g n0 n1 n2 n3 : Nat} (h : Nb w g n0 n1 n2 n3) (hb : Below w.heap.size w w') : Nb w' g n0 n1 n2 n3 := (hb.block g h.lt).trans h
theorem on_nb {w : World} {g n0 n1 n2 n3 : Nat} (h : Nb w g n0 n1 n2 n3) : On w fun u => Nb u g n0 n1 n2 n3 := fun u hu => h.on hu
theorem ld_num {w : World} {g n0 n1 n2 n3 : Nat} (h : Nb w g n0 n1 n2 n3) : (Instr.loadAt 26 (.pointer (some ⟨g, 0, none⟩))).run Tryd.prog w = .ok (.agg #[.int .u64 (n0 : Int), .int .u64 (n1 : Int), .int .u64 (n2 : Int), .int .u64 (n3 : Int)]) w := by
  refine run_loadAt_mid w g 0 26 [.int .u64 (n0 : Int), .int .u64 (n1 : Int), .int .u64 (n2 : Int), .int .u64 (n3 : Int)] _ (fun j v hv => ?_) Tryd.underlying26 rfl (by kernel_rfl)
  unfold Nb at h
  rw [cell_of_row w g (0 + j) _ 26 (0, 0) h, Nat.zero_add]
  simpa using hv
theorem bt_range {w : World} {g : Nat} {t : TypeId} {l : List UInt8} (h : Bt w g t l) (o n : Nat) (hn : o + n ≤ l.length) : w.rangeAt g o (bvs ((l.drop o).take n)) := by
  intro j v hv
  have hj : j < ((l.drop o).take n).length := by
    rcases Nat.lt_or_ge j ((l.drop o).take n).length with h | h
    · exact h
    · rw [List.getElem?_eq_none (by rw [bvs_length]; exact h)] at hv; cases hv
  have hj2 : j < n := by simp at hj; omega
  rw [h.cell (o + j) (by omega)]
  simp [bvs, hj2, show o + j < l.length by omega] at hv ⊢
  exact hv
/-- bytes in a block, loaded -/
theorem ld_all {w : World} {g : Nat} {t : TypeId} {l : List UInt8} (h : Bt w g t l) (ty : TypeId) (d : TypeDesc) (hu : Tryd.prog.underlying ty = some d) (hd : d.isRow = true) (n : Nat) (hn : l.length = n) (hi : (Tryd.prog.info? ty).map (·.size) = some n) :
    (Instr.loadAt ty (.pointer (some ⟨g, 0, none⟩))).run Tryd.prog w = .ok (.agg (bvs l).toArray) w := by
  have := run_loadAt_mid w g 0 ty _ d (bt_range h 0 n (by omega)) hu hd (by rw [hi, bvs_length]; simp; omega)
  rwa [List.drop_zero, List.take_of_length_le (by omega)] at this
theorem ld_sum {w : World} {g : Nat} {l : List UInt8} (h : Bt w g 23 l) (hl : l.length = 32) : (Instr.loadAt 23 (.pointer (some ⟨g, 0, none⟩))).run Tryd.prog w = .ok (.agg (bvs l).toArray) w :=
  ld_all h 23 _ Tryd.underlying23 rfl 32 hl (by kernel_rfl)
/-- this list begins with the operation that fills slot d -/
theorem isD {P : Program} {ops : Array Oper} {Q : Exit → Act → World → Prop} {l : List Oper} {o : Oper} {a : Act} {w : World} (d : Nat) (hd : o.dst = some d) (h : wpList P ops Q (o :: l) a w) : wpList P ops Q (o :: l) a w := h
theorem isS {P : Program} {ops : Array Oper} {Q : Exit → Act → World → Prop} {l : List Oper} {o : Oper} {a : Act} {w : World} (ty : TypeId) (x y : Operand) (ho : o.op = .store ty x y) (h : wpList P ops Q (o :: l) a w) : wpList P ops Q (o :: l) a w := h
theorem wp_ld {ops : Array Oper} {rest : List Oper} {o : Oper} {a : Act} {w : World} {Q : Exit → Act → World → Prop} (hw : Region.wanted o (yielded ops a.tmps) = true) (ty : TypeId) (x : Operand) (ho : o.op = .load ty x) (p : Value) (hx : a.eval x = p) (v : Value) (hl : (Instr.loadAt ty p).run Tryd.prog w = .ok v w)
    (h : wpList Tryd.prog ops Q rest (a.put o.dst v) w) : wpList Tryd.prog ops Q (o :: rest) a w := by
  refine Go.BigFrame.wpList_want hw fun K hK => ?_
  unfold Oper.wp execOp
  simp only [ho, hx, Sem.run_bind, Result.andThen_ok, hl]
  exact hK _ _ h
theorem wp_st {ops : Array Oper} {rest : List Oper} {o : Oper} {a : Act} {w w' : World} {Q : Exit → Act → World → Prop} (hw : Region.wanted o (yielded ops a.tmps) = true) (ty : TypeId) (x y : Operand) (ho : o.op = .store ty x y) (p v : Value) (hx : a.eval x = p) (hy : a.eval y = v) (hl : (Instr.storeAt ty p v).run Tryd.prog w = .ok () w')
    (h : wpList Tryd.prog ops Q rest (a.put o.dst undef) w') : wpList Tryd.prog ops Q (o :: rest) a w := by
  refine Go.BigFrame.wpList_want hw fun K hK => ?_
  unfold Oper.wp execOp
  simp only [ho, hx, hy, Sem.run_bind, Result.andThen_ok, hl]
  exact hK _ _ h
theorem y_ld {o : Oper} {a : Act} {u : World} (ty : TypeId) (x : Operand) (ho : o.op = .load ty x) (p v : Value) (hx : a.eval x = p) (hl : (Instr.loadAt ty p).run Tryd.prog u = .ok v u) : (execOp a.eval o).run Tryd.prog u = .ok (.value v) u := by
  unfold execOp
  simp only [ho, hx, Sem.run_bind, Sem.run_pure, Result.andThen_ok, hl]
theorem yet_of {u : World} {P : World → Prop} {W : List Nat} (h : Yet (fun (_ : Array Bool) (u : World) => P u) W u) : P u := by
  obtain ⟨_, _, h⟩ := h; exact h
/-- the greater one of two numbers -/
theorem step_max {ops : Array Oper} {rest : List Oper} {o : Oper} {a : Act} {w : World} {Q : Exit → Act → World → Prop} (hgd : o.guard = none) (x y : Operand)
    (ho : o.op = .call { callee := .builtin .max, args := #[x, y], argTypes := #[3, 3] }) (vx vy : Int) (hx : a.eval x = .int .i64 vx) (hy : a.eval y = .int .i64 vy) (m : Int) (hm : m = if vy > vx then vy else vx)
    (h : wpList Tryd.prog ops Q rest (a.put o.dst (.int .i64 m)) w) : wpList Tryd.prog ops Q (o :: rest) a w := by
  refine wpList_plain hgd fun K hK => ?_
  unfold Oper.wp
  have hr := run_max_int2 (P := Tryd.prog) (w := w) #[3, 3] o.type .i64 .i64 vx vy
  rw [← hm] at hr
  simp [execOp, ho, resolve, invoke, builtin, hx, hy, hr, Result.andThen]
  exact hK _ _ h
theorem slice_lhm (A : Option Addr) (n c f t m : Nat) (h1 : f ≤ t) (h2 : t ≤ m) (h3 : m ≤ c) (w : World) : (Instr.slice 47 (.slice A n c) (some (.int .i64 (f : Int))) (some (.int .i64 (t : Int))) (some (.int .i64 (m : Int)))).run Tryd.prog w = .ok (.slice (past A f m) (t - f) (m - f)) w := by
  have h5 : Tryd.prog.elem 47 = 5 := by kernel_rfl
  rw [run_slice_lhm (P := Tryd.prog) w 47 A n c (by rw [h5]; exact Tryd.underlying47) .i64 .i64 .i64 (f : Int) (t : Int) (m : Int) (by omega) (by omega) (by omega) (by omega)]
  have hs : (sizeOf 5).run Tryd.prog w = .ok 1 w := by kernel_rfl
  rw [h5, hs]
  simp only [Result.andThen, sliced, Int.toNat_natCast, past, Nat.mul_one]
theorem slice_cut1 (A : Option Addr) (n c f t : Nat) (h1 : f ≤ t) (h2 : t ≤ n) (hc : n ≤ c) (w : World) : (Instr.slice 47 (.slice A n c) (some (.int .i64 (f : Int))) (some (.int .i64 (t : Int))) none).run Tryd.prog w = .ok (.slice (past A f c) (t - f) (c - f)) w := by
  have h5 : Tryd.prog.elem 47 = 5 := by kernel_rfl
  rw [run_slice_lh (P := Tryd.prog) w 47 A n c (by rw [h5]; exact Tryd.underlying47) .i64 .i64 (f : Int) (t : Int) (by omega) (by omega) (by omega)]
  have hs : (sizeOf 5).run Tryd.prog w = .ok 1 w := by kernel_rfl
  rw [h5, hs]
  simp only [Result.andThen, sliced, Int.toNat_natCast, past, Nat.mul_one]
theorem slice_from (A : Option Addr) (n c f : Nat) (h1 : f ≤ n) (w : World) : (Instr.slice 47 (.slice A n c) (some (.int .i64 (f : Int))) none none).run Tryd.prog w = .ok (.slice (past A f c) (n - f) (c - f)) w := by
  have h5 : Tryd.prog.elem 47 = 5 := by kernel_rfl
  rw [run_slice_l (P := Tryd.prog) w 47 A n c (by rw [h5]; exact Tryd.underlying47) .i64 (f : Int) (by omega) (by omega)]
  have hs : (sizeOf 5).run Tryd.prog w = .ok 1 w := by kernel_rfl
  rw [h5, hs]
  simp only [Result.andThen, sliced, Int.toNat_natCast, past, Nat.mul_one]
theorem past_in (g f c : Nat) (h : f < c) : past (some ⟨g, 0, none⟩) f c = some ⟨g, f, none⟩ := by
  unfold past
  rw [if_neg (by omega)]
  simp only [Option.map, add_plain, Nat.zero_add]
theorem past_some (g f c : Nat) : past (some ⟨g, 0, none⟩) f c ≠ none := by
  unfold past
  split <;> simp
/-- a copy into the middle of a block -/
theorem run_copy_at (w : World) (g t : Nat) (dst bs : List UInt8) (A : Option Addr) (off d dc n c k : Nat) (hg : Bt w g t dst) (hr : Rd w A bs) (hn : bs.length = n) (hk : k = min n d) (h0 : 0 < k) (hl : off + k ≤ dst.length) :
    ∃ w', (Builtin.copy_ #[47, 47] 3 #[.slice (some ⟨g, off, none⟩) d dc, .slice A n c]).run Tryd.prog w = .ok (goInt k) w' ∧ Bt w' g t (dst.take off ++ bs.take k ++ dst.drop (off + k)) ∧ w.grownBy w' (some g) := by
  have hs : (Tryd.prog.info? 5).map (·.size) = some 1 := u8_size
  have hkl : (bs.take k).length = k := by rw [List.length_take, hn]; omega
  obtain ⟨ad, rfl, hc⟩ := (hr.take k).cells (by omega)
  have hrun := run_copy_row (P := Tryd.prog) w 47 47 3 5 g off d dc ad n c (bvs dst).toArray t (bvs (bs.take k)) Tryd.underlying47 hs hg (by rw [bvs_length, hkl, hk]) hc (by rw [bvs_length, bvs_size, hkl]; omega) (bvs_one _)
  rw [bvs_length, hkl] at hrun
  refine ⟨_, hrun, ?_, ?_⟩
  · have e : ((bvs dst).toArray.toList.take off ++ bvs (bs.take k) ++ (bvs dst).toArray.toList.drop (off + k)) = bvs (dst.take off ++ bs.take k ++ dst.drop (off + k)) := by rw [bvs_append, bvs_append, bvs_drop, bvs_take dst]
    rw [e]
    exact Bt.row hg
  · exact ⟨rfl, rfl, rfl, by simp [World.setRow], fun j hj hne => setRow_other w g j _ (fun e => hne (by rw [e]))⟩
/-- block g holds these cells, marked or not -/
def Blk (w : World) (g : Nat) (cs : Array Value) (t : TypeId) : Prop := ∃ fz, w.heap[g]? = some (.cells cs t fz)
theorem Blk.lt {w : World} {g : Nat} {cs : Array Value} {t : TypeId} (h : Blk w g cs t) : g < w.heap.size := by
  obtain ⟨fz, h⟩ := h
  exact lt_of_block h
theorem Blk.on {w w' : World} {g : Nat} {cs : Array Value} {t : TypeId} (h : Blk w g cs t) (hb : Below w.heap.size w w') : Blk w' g cs t := by
  obtain ⟨fz, h⟩ := h
  exact ⟨fz, (hb.block g (lt_of_block h)).trans h⟩
theorem Blk.new (w : World) (cs : Array Value) (t : TypeId) : Blk (w.alloc (.cells cs t)) w.heap.size cs t := ⟨_, heap_alloc_new w _⟩
theorem Blk.cell {w : World} {g j : Nat} {cs : Array Value} {t : TypeId} (h : Blk w g cs t) : w.cell? ⟨g, j, none⟩ = cs[j]? := by
  obtain ⟨fz, h⟩ := h
  exact cell_of_row w g j cs t fz h
theorem rd_blk {w : World} {g : Nat} (bs : List UInt8) {cs : Array Value} (h : Blk w g cs 5) (e : (bvs bs).toArray = cs) : Rd w (some ⟨g, 0, none⟩) bs := by
  subst e
  intro hp
  refine ⟨g, 0, rfl, h.lt, fun j hj => ?_⟩
  rw [Nat.zero_add, h.cell]
  simp [bvs, hj]
set_option maxRecDepth 100000 in
/-- '[]byte(..)' of a constant text: the row is marked, nothing else -/
theorem conv_mark {w0 w : World} (g n : Nat) (cs : Array Value) (hn : cs.size = n) (h0 : w0.heap.size ≤ g) (h : Blk w g cs 5) (hb : Below w0.heap.size w0 w) :
    ∃ w', Hid ((convert 47 47 (.slice (some ⟨g, 0, none⟩) n n)).run Tryd.prog w = .ok (.slice (some ⟨g, 0, none⟩) n n) w') ∧ Hid (Below w0.heap.size w0 w') ∧ Hid (Blk w' g cs 5) ∧ Hid (w.grownBy w' (some g)) := by
  obtain ⟨fz, hh⟩ := h
  have hsh : w.shape? g = some (5, cs.size) := by unfold World.shape?; rw [hh]
  have hot : ∀ k, k ≠ g → (w.freeze ⟨g, cs.size, none⟩ 1).heap[k]? = w.heap[k]? := fun k hk => by
    unfold World.freeze
    rw [if_neg (by decide)]
    show (w.heap.modify g _)[k]? = _
    rw [Array.getElem?_modify, if_neg (by omega)]
  have hsz : (w.freeze ⟨g, cs.size, none⟩ 1).heap.size = w.heap.size := by
    unfold World.freeze
    rw [if_neg (by decide)]
    simp
  have hos : (w.freeze ⟨g, cs.size, none⟩ 1).os = w.os ∧ (w.freeze ⟨g, cs.size, none⟩ 1).tape = w.tape ∧ (w.freeze ⟨g, cs.size, none⟩ 1).output = w.output := by
    unfold World.freeze
    rw [if_neg (by decide)]
    exact ⟨rfl, rfl, rfl⟩
  refine ⟨w.freeze ⟨g, cs.size, none⟩ 1, hid ?_, hid ?_, hid ?_, hid ?_⟩
  · simp [convert, run_underlying Tryd.underlying47, run_underlying Tryd.underlying5, markStringish, hsh, Addr.add]
  · exact ⟨hos.1.trans hb.os, hos.2.1.trans hb.tape, hos.2.2.trans hb.output, by rw [hsz]; exact hb.size, fun k hk => (hot k (by omega)).trans (hb.block k hk)⟩
  · unfold World.freeze
    rw [if_neg (by decide)]
    show ∃ f2, (w.heap.modify g _)[g]? = _
    rw [Array.getElem?_modify, if_pos rfl, hh]
    exact ⟨_, rfl⟩
  · exact ⟨hos.1, hos.2.1, hos.2.2, by rw [hsz]; exact Nat.le_refl _, fun k _ hne => hot k (fun e => hne (by rw [e]))⟩
theorem Blk.grown {w w' : World} {g b : Nat} {cs : Array Value} {t : TypeId} (h : Blk w b cs t) (hg : w.grownBy w' (some g)) (hne : b ≠ g) : Blk w' b cs t := by
  obtain ⟨fz, h⟩ := h
  exact ⟨fz, (hg.block b (lt_of_block h) (by intro e; injection e with e; exact hne e)).trans h⟩
theorem wp_convert {o : Oper} {a : Act} {w : World} {K : Act → World → Prop} {Q : Exit → Act → World → Prop} (x : Operand) (ho : o.op = .convert 47 47 x) (v : Value) (hx : a.eval x = v) (v' : Value) (w' : World)
    (hrun : (convert 47 47 v).run Tryd.prog w = .ok v' w') (h : K (a.put o.dst v') w') : o.wp Tryd.prog a w K Q := by
  unfold Oper.wp
  simp [execOp, ho, hx, hrun, Result.andThen]
  exact h
/-- three parts in a list -/
theorem rws3 {w : World} {b : Nat} {A0 A1 A2 : Option Addr} {l0 l1 l2 c0 c1 c2 : Nat} {x0 x1 x2 : List UInt8} (h : Blk w b #[.slice A0 l0 c0, .slice A1 l1 c1, .slice A2 l2 c2] 47)
    (r0 : Rd w A0 x0) (e0 : x0.length = l0) (k0 : l0 ≤ c0) (m0 : c0 ≤ 140737488351232) (n0 : A0 = none → c0 = 0) (r1 : Rd w A1 x1) (e1 : x1.length = l1) (k1 : l1 ≤ c1) (m1 : c1 ≤ 140737488351232) (n1 : A1 = none → c1 = 0)
    (r2 : Rd w A2 x2) (e2 : x2.length = l2) (k2 : l2 ≤ c2) (m2 : c2 ≤ 140737488351232) (n2 : A2 = none → c2 = 0) :
    Rws w (some ⟨b, 0, none⟩) 3 (fun r => if r = 0 then A0 else if r = 1 then A1 else A2) (fun r => if r = 0 then l0 else if r = 1 then l1 else l2) (fun r => if r = 0 then c0 else if r = 1 then c1 else c2) (fun r => if r = 0 then x0 else if r = 1 then x1 else x2) := by
  intro r hr
  rcases (show r = 0 ∨ r = 1 ∨ r = 2 by omega) with rfl | rfl | rfl
  · exact ⟨⟨b, 0, rfl, h.lt, by rw [h.cell]; rfl⟩, e0, r0, k0, m0, n0⟩
  · exact ⟨⟨b, 0, rfl, h.lt, by rw [h.cell]; rfl⟩, e1, r1, k1, m1, n1⟩
  · exact ⟨⟨b, 0, rfl, h.lt, by rw [h.cell]; rfl⟩, e2, r2, k2, m2, n2⟩
theorem cat3 (x0 x1 x2 : List UInt8) : cat (fun r => if r = 0 then x0 else if r = 1 then x1 else x2) 3 = x0 ++ x1 ++ x2 := by simp [cat]
theorem cat1 (x : List UInt8) : cat (fun _ => x) 1 = x := by simp [cat]
theorem lane_cells : (bvs lane).toArray = #[.int .u8 108, .int .u8 97, .int .u8 110, .int .u8 101] := rfl
theorem one_cells (x : UInt8) : (bvs [x]).toArray = #[.int .u8 ((x.toNat : Nat) : Int)] := rfl
/-- the parts of the next sum, laid as they come -/
theorem parts3 (w : World) (A : Option Addr) (l c : Nat) (x : List UInt8) (b : UInt8) (hr : Rd w A x) (hl : x.length = l) (hc : l ≤ c) (hm : c ≤ 140737488351232) (hA : A = none → c = 0) :
    ∃ w4, w4 = ((w.alloc (.cells #[.int .u8 108, .int .u8 97, .int .u8 110, .int .u8 101] 5 (4, 5))).alloc (.cells #[.int .u8 ((b.toNat : Nat) : Int)] 5)).alloc (.cells #[.slice A l c, .slice (some ⟨w.heap.size, 0, none⟩) 4 4, .slice (some ⟨w.heap.size + 1, 0, none⟩) 1 1] 47) ∧
      Hid (Below w.heap.size w w4) ∧ Hid (Rws w4 (some ⟨w.heap.size + 1 + 1, 0, none⟩) 3 (fun r => if r = 0 then A else if r = 1 then some ⟨w.heap.size, 0, none⟩ else some ⟨w.heap.size + 1, 0, none⟩) (fun r => if r = 0 then l else if r = 1 then 4 else 1) (fun r => if r = 0 then c else if r = 1 then 4 else 1) (fun r => if r = 0 then x else if r = 1 then lane else [b])) := by
  refine ⟨_, rfl, ?_⟩
  have a1 : Below w.heap.size w (w.alloc (.cells (bvs lane).toArray 5 (4, 5))) := (Below.refl _ _).alloc (Nat.le_refl _) _
  have r1 := rd_mark w lane (4, 5)
  have s1 := al_size w (.cells (bvs lane).toArray 5 (4, 5))
  rw [lane_cells] at a1 r1 s1
  generalize w.alloc (.cells #[.int .u8 108, .int .u8 97, .int .u8 110, .int .u8 101] 5 (4, 5)) = w1 at *
  have a2 : Below w1.heap.size w1 (w1.alloc (.cells (bvs [b]).toArray 5)) := (Below.refl _ _).alloc (Nat.le_refl _) _
  have r2 := rd_new w1 [b]
  have s2 := al_size w1 (.cells (bvs [b]).toArray 5)
  rw [one_cells] at a2 r2 s2
  generalize w1.alloc (.cells #[.int .u8 ((b.toNat : Nat) : Int)] 5) = w2 at *
  rw [s1] at r2 s2
  generalize hob : (Obj.cells #[Value.slice A l c, Value.slice (some ⟨w.heap.size, 0, none⟩) 4 4, Value.slice (some ⟨w.heap.size + 1, 0, none⟩) 1 1] 47) = ob
  have a4 : Below w2.heap.size w2 (w2.alloc ob) := (Below.refl _ _).alloc (Nat.le_refl _) _
  have hn : (w2.alloc ob).heap[w2.heap.size]? = some ob := heap_alloc_new w2 ob
  generalize w2.alloc ob = w4 at *
  rw [s2] at hn
  subst hob
  have b1 := (a2.mono (by omega) : Below w.heap.size w1 w2)
  have b4 := (a4.mono (by omega) : Below w.heap.size w2 w4)
  have hb := (a1.trans b1).trans b4
  exact ⟨hid hb, hid (rws3 ⟨_, hn⟩ (hr.below hb (Nat.le_refl _)) hl hc hm hA ((r1.below a2 (Nat.le_refl _)).below a4 (Nat.le_refl _)) rfl (by decide) (by decide) (by simp) (r2.below a4 (Nat.le_refl _)) rfl (by decide) (by decide) (by simp))⟩
end Go.Proofs.YtcijnoapjicliaaDoor
namespace Go.Proofs.YtcijnoapjicliaaDoor
open Go.RowKit
set_option linter.unusedVariables false
set_option linter.unusedSimpArgs false

/-- a stream's cells: hd stands ahead of the seed -/
def stc (hd : List Value) (bs : List UInt8) (n : Nat) : List Value := hd ++ (bvs bs ++ [.int .u64 (n : Int)])
/-- block g holds a stream of type t -/
def Sc (w : World) (g t : Nat) (hd : List Value) (bs : List UInt8) (n : Nat) : Prop := w.heap[g]? = some (.cells (stc hd bs n).toArray t (0, 0))
section
variable {w w' : World} {g t n : Nat} {hd : List Value} {bs : List UInt8}
theorem Sc.lt (h : Sc w g t hd bs n) : g < w.heap.size := lt_of_block h
theorem Sc.on (h : Sc w g t hd bs n) (hb : Below w.heap.size w w') : Sc w' g t hd bs n := (hb.block g h.lt).trans h
theorem Sc.grown {k : Nat} (h : Sc w g t hd bs n) (hg : w.grownBy w' (some k)) (hne : g ≠ k) : Sc w' g t hd bs n := (hg.block g h.lt (by intro e; injection e with e; exact hne e)).trans h
theorem Sc.at (h : Sc w g t hd bs n) (j : Nat) : w.cell? ⟨g, j, none⟩ = (stc hd bs n)[j]? := by
  rw [cell_of_row w g j _ t (0, 0) h]; simp
theorem Sc.frozen (h : Sc w g t hd bs n) (i : Nat) : w.frozen? ⟨g, i, none⟩ = false := by
  unfold Sc at h; simp [World.frozen?, h]
theorem Sc.seed (h : Sc w g t hd bs n) : w.rangeAt g hd.length (bvs bs) := by
  intro j v hv
  have hj : j < (bvs bs).length := by
    rcases Nat.lt_or_ge j (bvs bs).length with h | h
    · exact h
    · rw [List.getElem?_eq_none h] at hv; cases hv
  rw [h.at, stc, List.getElem?_append_right (by omega), show hd.length + j - hd.length = j by omega, List.getElem?_append_left hj]; exact hv
theorem Sc.rd (h : Sc w g t hd bs n) : Rd w (some ⟨g, hd.length, none⟩) bs := by
  intro hp
  refine ⟨g, hd.length, rfl, h.lt, fun j hj => ?_⟩
  exact h.seed j _ (by simp [bvs, hj])
theorem Sc.count (h : Sc w g t hd bs n) (hb : bs.length = 32) : w.cell? ⟨g, hd.length + 32, none⟩ = some (.int .u64 (n : Int)) := by
  have e : (bvs bs).length = 32 := by rw [bvs_length, hb]
  rw [h.at, stc, List.getElem?_append_right (by omega), show hd.length + 32 - hd.length = 32 by omega, List.getElem?_append_right (by omega), e]; rfl
theorem Sc.setCount (h : Sc w g t hd bs n) (hb : bs.length = 32) (m : Nat) : Sc (w.setCell ⟨g, hd.length + 32, none⟩ (.int .u64 (m : Int))) g t hd bs m := by
  have e : ∀ x : Value, (stc hd bs n).set (hd.length + 32) x = hd ++ (bvs bs ++ [x]) := by
    intro x
    have e2 : (bvs bs).length = 32 := by rw [bvs_length, hb]
    rw [stc, List.set_append_right _ _ (by omega), show hd.length + 32 - hd.length = 32 by omega, List.set_append_right _ _ (by omega), e2]; rfl
  unfold Sc at h ⊢
  simp only [World.setCell, Array.getElem?_modify, h, if_true, Option.map_some]
  rw [List.setIfInBounds_toArray, e]
  rfl
end
/-- the program's streams, and the document's -/
abbrev tru : List Value := [.bool true]
abbrev St (w : World) (g : Nat) (bs : List UInt8) (n : Nat) : Prop := Sc w g 44 tru bs n
theorem St.made {w : World} {g n : Nat} {bs : List UInt8} (h : St w g bs n) : w.cell? ⟨g, 0, none⟩ = some (.bool true) := h.at 0
theorem St.count {w : World} {g n : Nat} {bs : List UInt8} (h : St w g bs n) (hb : bs.length = 32) : w.cell? ⟨g, 33, none⟩ = some (.int .u64 (n : Int)) := Sc.count h hb
theorem St.rd {w : World} {g n : Nat} {bs : List UInt8} (h : St w g bs n) : Rd w (some ⟨g, 1, none⟩) bs := Sc.rd h
/-- what is drawn by the n-th sum -/
def drawT : List UInt8 := [100, 114, 97, 119]
def dsum (bs : List UInt8) (n : Nat) : List UInt8 := hm bs (drawT ++ be n 8)
theorem dsum_length (bs : List UInt8) (n : Nat) : (dsum bs n).length = 32 := hm_length _ _
theorem draw_cells : (bvs drawT).toArray = #[.int .u8 100, .int .u8 114, .int .u8 97, .int .u8 119] := rfl
theorem cat2 (x0 x1 : List UInt8) : cat (fun r => if r = 0 then x0 else x1) 2 = x0 ++ x1 := by simp [cat]
theorem rws2 {w : World} {b : Nat} {A0 A1 : Option Addr} {l0 l1 c0 c1 : Nat} {x0 x1 : List UInt8} (h : Blk w b #[.slice A0 l0 c0, .slice A1 l1 c1] 47)
    (r0 : Rd w A0 x0) (e0 : x0.length = l0) (k0 : l0 ≤ c0) (m0 : c0 ≤ 140737488351232) (n0 : A0 = none → c0 = 0) (r1 : Rd w A1 x1) (e1 : x1.length = l1) (k1 : l1 ≤ c1) (m1 : c1 ≤ 140737488351232) (n1 : A1 = none → c1 = 0) :
    Rws w (some ⟨b, 0, none⟩) 2 (fun r => if r = 0 then A0 else A1) (fun r => if r = 0 then l0 else l1) (fun r => if r = 0 then c0 else c1) (fun r => if r = 0 then x0 else x1) := by
  intro r hr
  have hc : ∀ j, w.cell? ⟨b, 0 + j, none⟩ = #[Value.slice A0 l0 c0, .slice A1 l1 c1][j]? := fun j => by rw [Nat.zero_add]; exact h.cell
  rcases (show r = 0 ∨ r = 1 by omega) with rfl | rfl
  · exact ⟨⟨b, 0, rfl, h.lt, by rw [hc]; rfl⟩, e0, r0, k0, m0, n0⟩
  · exact ⟨⟨b, 0, rfl, h.lt, by rw [hc]; rfl⟩, e1, r1, k1, m1, n1⟩

/- what only looks -/
theorem sthere_none (w : World) : Calls Tryd.prog 19 #[.pointer none] w fun e w' => e = .returned (.bool false) ∧ w = w' := by
  go_enter Tryd.func19, Tryd.ntmps19
  go_wp2
  go_ret
  exact ⟨rfl, rfl⟩
theorem sthere_any (g : Nat) (t : Bool) (w : World) (h : w.cell? ⟨g, 0, none⟩ = some (.bool t)) : Calls Tryd.prog 19 #[.pointer (some ⟨g, 0, none⟩)] w fun e w' => e = .returned (.bool t) ∧ w = w' := by
  go_enter Tryd.func19, Tryd.ntmps19
  go_wp2
  go_ret
  exact ⟨rfl, rfl⟩
theorem far_any (g n : Nat) (w : World) (h : w.cell? ⟨g, 33, none⟩ = some (.int .u64 (n : Int))) : Calls Tryd.prog 30 #[.pointer (some ⟨g, 33, none⟩)] w fun e w' => e = .returned (.int .u64 (n : Int)) ∧ w = w' := by
  go_enter Tryd.func30, Tryd.ntmps30
  go_wp2
  go_ret
  exact ⟨rfl, rfl⟩
theorem take_st (g n : Nat) (bs : List UInt8) (w : World) (h : St w g bs n) (hb : bs.length = 32) (hn : n + 1 < 18446744073709551616) :
    Calls Tryd.prog 41 #[.pointer (some ⟨g, 33, none⟩)] w fun e w' => e = .returned (.int .u64 (n : Int)) ∧ Hid (w.grownBy w' (some g) ∧ St w' g bs (n + 1)) := by
  have h1 := h.count hb
  have h2 := Sc.frozen h 33
  have HG := hid (grown_cell (i := 33) (grown_of (Below.refl w.heap.size w) (some g)) (.int .u64 ((n : Int) + 1)))
  have HS : Hid (St (w.setCell ⟨g, 33, none⟩ (.int .u64 ((n : Int) + 1))) g bs (n + 1)) := hid (Sc.setCount h hb (n + 1))
  have h3 := HS.out.count hb
  have hw2 : IntKind.u64.wrap (n : Int) = (n : Int) := by rw [IntKind.wrap_u64]; omega
  have hw : IntKind.u64.wrap ((n : Int) + 1) = (n : Int) + 1 := by rw [IntKind.wrap_u64]; omega
  clear h hn
  go_enter Tryd.func41, Tryd.ntmps41
  go_upto_region 2 with fail
  generalize w.setCell ⟨g, 33, none⟩ (.int .u64 ((n : Int) + 1)) = w1 at *
  clear h1 h2 hw
  go_wp2
  go_ret
  exact ⟨rfl, hid ⟨HG.out, HS.out⟩⟩
theorem fold_mid (k : Nat) (c : List Value) : ∀ (vs old a : List Value) (i : Nat), a.length = k + i → old.length = vs.length →
    List.foldl (fun (cs : Array Value) (x : Value × Nat) => cs.setIfInBounds (k + x.snd) x.fst) (a ++ (old ++ c)).toArray (vs.zipIdx i) = (a ++ (vs ++ c)).toArray
  | [], old, a, i, _, h => by
    obtain rfl := List.eq_nil_of_length_eq_zero h
    rfl
  | v :: vs, old, a, i, ha, h => by
    rcases old with _ | ⟨o, old⟩
    · simp at h
    · have ih := fold_mid k c vs old (a ++ [v]) (i + 1) (by simp; omega) (by simpa using h)
      rw [List.zipIdx_cons, List.foldl_cons, List.setIfInBounds_toArray, ← ha, List.cons_append, set_mid]
      simpa using ih
set_option maxRecDepth 100000 in
theorem new_st (bs : List UInt8) (w : World) (hb : bs.length = 32) : Calls Tryd.prog 9 #[.agg (bvs bs).toArray] w fun e w' => ∃ g, e = .returned (.pointer (some ⟨g, 0, none⟩)) ∧ Hid (w.heap.size ≤ g ∧ Sc w' g 44 tru bs 0 ∧ Below w.heap.size w w') := by
  have hx : Bt (w.alloc (.cells (bvs bs).toArray 23)) w.heap.size 23 bs := heap_alloc_new w _
  have hl := ld_sum hx hb
  have hv : (bvs bs).length = 32 := by rw [bvs_length, hb]
  have HF : Hid (List.foldl (fun (cs : Array Value) (x : Value × Nat) => cs.setIfInBounds (1 + x.snd) x.fst) #[.bool true, .int .u8 0, .int .u8 0, .int .u8 0, .int .u8 0, .int .u8 0, .int .u8 0, .int .u8 0, .int .u8 0, .int .u8 0, .int .u8 0, .int .u8 0, .int .u8 0, .int .u8 0, .int .u8 0, .int .u8 0, .int .u8 0, .int .u8 0, .int .u8 0, .int .u8 0, .int .u8 0, .int .u8 0, .int .u8 0, .int .u8 0, .int .u8 0, .int .u8 0, .int .u8 0, .int .u8 0, .int .u8 0, .int .u8 0, .int .u8 0, .int .u8 0, .int .u8 0, .int .u64 0] (bvs bs).zipIdx = (stc tru bs 0).toArray) := hid (fold_mid 1 [.int .u64 0] (bvs bs) (bvs (List.replicate 32 0)) tru 0 rfl (by rw [hv]; rfl))
  have HB := hid (((Below.refl w.heap.size w).alloc (Nat.le_refl _) (.cells (bvs bs).toArray 23)).alloc (by simp) (.cells (stc tru bs 0).toArray 44))
  have HS := hid (heap_alloc_new (w.alloc (.cells (bvs bs).toArray 23)) (.cells (stc tru bs 0).toArray 44))
  rw [al_size] at HS
  go_enter Tryd.func9, Tryd.ntmps9
  go_wp2_with (refine wp_ld rfl _ _ rfl _ rfl _ hl ?_)
  rw [HF.out]
  go_ret
  exact ⟨_, rfl, hid ⟨Nat.le_succ _, HS.out, HB.out⟩⟩
end Go.Proofs.YtcijnoapjicliaaDoor
namespace Go.Proofs.YtcijnoapjicliaaDoor
open Go.RowKit
set_option linter.unusedVariables false
set_option linter.unusedSimpArgs false

theorem gr_on {w a b : World} {row : Option Nat} (h : w.grownBy a row) (hb : Below a.heap.size a b) : w.grownBy b row :=
  ⟨hb.os.trans h.os, hb.tape.trans h.tape, hb.output.trans h.output, Nat.le_trans h.size hb.size, fun k hk hn => (hb.block k (Nat.lt_of_lt_of_le hk h.size)).trans (h.block k hk hn)⟩
theorem gr_mark {w a b : World} {g k : Nat} (h : w.grownBy a (some g)) (hb : a.grownBy b (some k)) (hk : w.heap.size ≤ k) : w.grownBy b (some g) :=
  ⟨hb.os.trans h.os, hb.tape.trans h.tape, hb.output.trans h.output, Nat.le_trans h.size hb.size, fun j hj hn => (hb.block j (Nat.lt_of_lt_of_le hj h.size) (by intro e; injection e with e; omega)).trans (h.block j hj hn)⟩
theorem gr_put {w a b : World} {g : Nat} (h : w.grownBy a (some g)) (hb : a.grownBy b (some g)) : w.grownBy b (some g) :=
  ⟨hb.os.trans h.os, hb.tape.trans h.tape, hb.output.trans h.output, Nat.le_trans h.size hb.size, fun j hj hn => (hb.block j (Nat.lt_of_lt_of_le hj h.size) hn).trans (h.block j hj hn)⟩
theorem gr_row {w a : World} {g k : Nat} (h : w.grownBy a (some g)) (hk : w.heap.size ≤ k) (cs : Array Value) : w.grownBy (a.setRow k cs) (some g) :=
  ⟨h.os, h.tape, h.output, by simpa [World.setRow] using h.size, fun j hj hn => (setRow_other a k j cs (by omega)).trans (h.block j hj hn)⟩
theorem below_gr {w a b : World} {k : Nat} (h : Below w.heap.size w a) (hg : a.grownBy b (some k)) (hk : w.heap.size ≤ k) : Below w.heap.size w b := h.grown hg h.size (fun j e => by injection e with e; omega)
theorem st_row {w : World} {g k t n : Nat} {hd : List Value} {bs : List UInt8} (h : Sc w g t hd bs n) (hne : g ≠ k) (cs : Array Value) : Sc (w.setRow k cs) g t hd bs n := (setRow_other w k g cs hne).trans h
theorem conv_gr {w : World} (g n : Nat) (cs : Array Value) (hn : cs.size = n) (h : Blk w g cs 5) :
    ∃ w', Hid ((convert 47 47 (.slice (some ⟨g, 0, none⟩) n n)).run Tryd.prog w = .ok (.slice (some ⟨g, 0, none⟩) n n) w') ∧ Hid (Blk w' g cs 5) ∧ Hid (w.grownBy w' (some g)) := by
  have e : ∃ w0 : World, w0.heap.size = 0 ∧ w0.os = w.os ∧ w0.tape = w.tape ∧ w0.output = w.output := ⟨{ w with heap := #[] }, rfl, rfl, rfl, rfl⟩
  obtain ⟨w0, e0, e1, e2, e3⟩ := e
  obtain ⟨w', h1, h2, h3, h4⟩ := conv_mark (w0 := w0) (w := w) g n cs hn (by omega) h ⟨e1.symm, e2.symm, e3.symm, by omega, fun k hk => by omega⟩
  exact ⟨w', h1, h3, h4⟩
theorem sl32o (g o : Nat) (w : World) : (Instr.sliceAt 23 (.pointer (some ⟨g, o, none⟩)) none none none).run Tryd.prog w = .ok (.slice (some ⟨g, o, none⟩) 32 32) w := by
  have hl : Tryd.prog.arrayLen 23 = 32 := by kernel_rfl
  have h5 : Tryd.prog.elem 23 = 5 := by kernel_rfl
  rw [run_sliceAt_array_all (P := Tryd.prog) w 23 ⟨g, o, none⟩ (by rw [hl, h5]; exact Tryd.underlying23)]
  have hs : (sizeOf 5).run Tryd.prog w = .ok 1 w := by kernel_rfl
  rw [h5, hs, hl]
  simp [Result.andThen, slicedAt, Addr.add]
theorem put8 (n : Nat) (w : World) (hn : n + 1 < 18446744073709551616) : Calls Tryd.prog 40 #[.slice none 0 0, .int .u64 (n : Int), .int .i64 8] w fun e w' => e = .returned (.slice (some ⟨w.heap.size, 0, none⟩) 8 8) ∧ Row w' w.heap.size (be n 8) ∧ Below w.heap.size w w' := by
  refine (put_any none 0 n 8 8 [] w (Rd.nil _ _) (by simp) (by omega) (by decide)).mono ?_
  rintro e w' ⟨rfl, h1, h2⟩
  exact ⟨rfl, by simpa using h1, h2⟩
set_option maxRecDepth 100000 in
set_option maxHeartbeats 4000000 in
theorem draw_st (g n : Nat) (bs : List UInt8) (w : World) (h : St w g bs n) (hb : bs.length = 32) (hn : n + 1 < 18446744073709551616) (hk : Kt w) (h2 : 2 ≠ g) :
    Calls Tryd.prog 26 #[.pointer (some ⟨g, 0, none⟩)] w fun e w' => e = .returned (.agg (bvs (dsum bs n)).toArray) ∧ Hid (w.grownBy w' (some g) ∧ St w' g bs (n + 1)) := by
  have HL := hid hb
  have HN := hid hn
  have HKT := hid hk
  have N2g := hid h2
  have hlt := Sc.lt h
  obtain ⟨hB1, hX1, hs1⟩ := box1 w 23 (List.replicate 32 0)
  have HG := hid (grown_of hB1.out (some g))
  have FS1 := hid (And.intro (Sc.on h hB1.out) hlt)
  have FZ1 := hid hX1.out
  have NZg := hid (Nat.ne_of_gt hlt)
  have KL := hid (dsum_length bs n)
  have KE := hid (show hm bs (drawT ++ be n 8) = dsum bs n from rfl)
  generalize dsum bs n = kk at *
  clear h hb hn hk h2 hlt hB1 hX1 hs1
  go_enter Tryd.func26, Tryd.ntmps26
  go_upto_region 1 with fail
  rw [← lit32]
  generalize w.alloc (.cells (bvs (List.replicate 32 0)).toArray 23) = w1 at *
  have HGZ := hid (Nat.le_refl w.heap.size)
  generalize hgz : w.heap.size = gz at FZ1 NZg HGZ ⊢


  have HGZ : Hid (w.heap.size ≤ gz) := hid (Nat.le_of_eq hgz)
  clear hgz
  refine wp_region_noPanic ?_
  refine Goes.region (fun (_ : Array Bool) (u : World) => True) (by as_aux_lemma => kernel_rfl) ?_
  have HB := hid (grown_drew HG.out)
  have Fs : Hid (St w1.drew g bs n ∧ g < w.heap.size) := hid FS1.out
  have FZ : Hid (Bt w1.drew gz 23 (List.replicate 32 0)) := hid FZ1.out
  clear HG FS1 FZ1
  generalize w1.drew = wd at *
  refine Goes.tk (i := 0) (o := ⟨some 3, _, _, _, _, _⟩) (v := ?_) [] (y := Or.inl ⟨by rfl, ?_⟩) (s := trivial) (H := ?_)
  rotate_left
  · intro u hY; go_simp; try with_reducible rfl
  try simp only [putz]
  refine Goes.tk (i := 1) (o := ⟨some 4, _, _, _, _, _⟩) (v := ?_) [] (y := Or.inl ⟨by rfl, ?_⟩) (s := trivial) (H := ?_)
  rotate_left
  · intro u hY; go_simp; try with_reducible rfl
  try simp only [putz]
  refine Goes.tk (i := 2) (o := ⟨some 5, _, _, _, _, _⟩) (v := ?_) [] (y := Or.inl ⟨by rfl, ?_⟩) (s := trivial) (H := ?_)
  rotate_left
  · intro u hY; go_simp; try with_reducible rfl
  try simp only [putz]
  refine Goes.tk (i := 3) (o := ⟨some 6, _, _, _, _, _⟩) (v := ?_) [] (y := Or.inl ⟨by rfl, ?_⟩) (s := trivial) (H := ?_)
  rotate_left
  · intro u hY; have hsl := sl32o g 1; go_simp; try with_reducible rfl
  try simp only [putz]
  refine Goes.tk (i := 6) (o := ⟨some 9, _, _, _, _, _⟩) (v := ?_) [] (y := Or.inl ⟨by rfl, ?_⟩) (s := trivial) (H := ?_)
  rotate_left
  · intro u hY; go_simp; try with_reducible rfl
  try simp only [putz]
  refine Goes.tk (i := 7) (o := ⟨some 10, _, _, _, _, _⟩) (v := ?_) [] (y := Or.inl ⟨by rfl, ?_⟩) (s := trivial) (H := ?_)
  rotate_left
  · intro u hY; go_simp; try with_reducible rfl
  try simp only [putz]
  refine Goes.tk (i := 8) (o := ⟨some 11, _, _, _, _, _⟩) (v := ?_) [] (y := Or.inl ⟨by rfl, ?_⟩) (s := trivial) (H := ?_)
  rotate_left
  · intro u hY; go_simp; try with_reducible rfl
  try simp only [putz]
  refine Goes.two (i := 4) (j := 9) (o := ⟨some 7, _, _, _, _, _⟩) (p := ⟨some 12, _, _, _, _, _⟩) (by as_aux_lemma => kernel_rfl) rfl rfl (fun K hK => ?_) (fun K hK => ?_)
  · skip
    go_simp
    have hb := (Below.refl wd.heap.size wd).alloc (Nat.le_refl _) (.cells #[.int .u8 100, .int .u8 114, .int .u8 97, .int .u8 119] 5)
    have hh := Blk.new wd #[.int .u8 100, .int .u8 114, .int .u8 97, .int .u8 119] 5
    have hz := HB.out.size
    refine hK.out _ _ trivial ?_
    clear hK K
    try simp only [putz]
    have NZ_gd1 := hid (Nat.ne_of_lt FZ.out.lt)
    have Ng_gd1 := hid (Nat.ne_of_lt Fs.out.1.lt)
    have HB := hid (gr_on HB.out hb)
    have FZ := hid (FZ.out.on hb)
    have Fs := hid (And.intro (Fs.out.1.on hb) Fs.out.2)
    generalize wd.alloc (.cells #[.int .u8 100, .int .u8 114, .int .u8 97, .int .u8 119] 5) = wd_1 at *
    generalize wd.heap.size = gd1 at *
    have FD := hid (And.intro hh hz)
    clear hb hh hz
    refine Goes.two (i := 5) (j := 9) (o := ⟨some 8, _, _, _, _, _⟩) (p := ⟨some 12, _, _, _, _, _⟩) (by as_aux_lemma => kernel_rfl) rfl rfl (fun K hK => ?_) (fun K hK => ?_)
    · skip
      obtain ⟨wd_2, hrun, HBK, HGW⟩ := conv_gr gd1 4 _ rfl FD.out.1
      rw [if_pos (by rfl)]
      refine wp_convert (.tmp 7) rfl _ rfl _ _ hrun.out ?_
      refine hK.out _ _ trivial ?_
      clear hK K
      try simp only [putz]
      have HB := hid (gr_mark HB.out HGW.out FD.out.2)
      have FZ := hid (FZ.out.grown HGW.out NZ_gd1.out)
      have Fs := hid (And.intro (Fs.out.1.grown HGW.out (Ng_gd1.out)) Fs.out.2)
      have FD := hid (And.intro HBK.out FD.out.2)
      clear HBK HGW hrun
      refine Goes.one (i := 9) (o := ⟨some 12, _, _, _, _, _⟩) (by as_aux_lemma => kernel_rfl) rfl (fun K hK => ?_)
      go_simp
      refine (take_st g n bs wd_2 Fs.out.1 HL.out HN.out).mono ?_
      rintro e wd_3 ⟨rfl, hq⟩
      go_wp2_with fail
      refine hK.out _ _ trivial ?_
      clear hK K
      try simp only [putz]
      have HB := hid (gr_put HB.out hq.out.1)
      have FZ := hid (FZ.out.grown hq.out.1 NZg.out)
      have FD := hid (And.intro (FD.out.1.grown hq.out.1 (Ng_gd1.out.symm)) FD.out.2)
      have Fs := hid (And.intro hq.out.2 Fs.out.2)
      clear hq
      refine Goes.one (i := 10) (o := ⟨some 13, _, _, _, _, _⟩) (by as_aux_lemma => kernel_rfl) rfl (fun K hK => ?_)
      go_simp
      refine (put8 n wd_3 HN.out).mono ?_
      rintro e wd_4 ⟨rfl, hrw, hb⟩
      have hz := HB.out.size
      go_wp2_with fail
      refine hK.out _ _ trivial ?_
      clear hK K
      try simp only [putz]
      have Ng_gp4 := hid (Nat.ne_of_lt Fs.out.1.lt)
      have Ngd1_gp4 := hid (Nat.ne_of_lt FD.out.1.lt)
      have HB := hid (gr_on HB.out hb)
      have FZ := hid (FZ.out.on hb)
      have Fs := hid (And.intro (Fs.out.1.on hb) Fs.out.2)
      have FD := hid (And.intro (FD.out.1.on hb) FD.out.2)
      have FP := hid (And.intro (show Bt wd_4 wd_3.heap.size 5 (be n 8) from hrw) hz)
      generalize wd_3.heap.size = gp4 at *
      clear hrw hb hz
      refine Goes.one (i := 11) (o := ⟨some 14, _, _, _, _, _⟩) (by as_aux_lemma => kernel_rfl) rfl (fun K hK => ?_)
      go_simp
      have hb := (Below.refl wd_4.heap.size wd_4).alloc (Nat.le_refl _) (.cells #[.slice (some ⟨gd1, 0, none⟩) 4 4, .slice (some ⟨gp4, 0, none⟩) 8 8] 47)
      have hh := Blk.new wd_4 #[.slice (some ⟨gd1, 0, none⟩) 4 4, .slice (some ⟨gp4, 0, none⟩) 8 8] 47
      have hz := HB.out.size
      refine hK.out _ _ trivial ?_
      clear hK K
      try simp only [putz]
      have Ng_gb5 := hid (Nat.ne_of_lt Fs.out.1.lt)
      have Ngd1_gb5 := hid (Nat.ne_of_lt FD.out.1.lt)
      have Ngp4_gb5 := hid (Nat.ne_of_lt FP.out.1.lt)
      have HB := hid (gr_on HB.out hb)
      have FZ := hid (FZ.out.on hb)
      have Fs := hid (And.intro (Fs.out.1.on hb) Fs.out.2)
      have FD := hid (And.intro (FD.out.1.on hb) FD.out.2)
      have FP := hid (And.intro (FP.out.1.on hb) FP.out.2)
      generalize wd_4.alloc (.cells #[.slice (some ⟨gd1, 0, none⟩) 4 4, .slice (some ⟨gp4, 0, none⟩) 8 8] 47) = wd_5 at *
      generalize wd_4.heap.size = gb5 at *
      have F2 := hid (And.intro hh hz)
      clear hb hh hz
      refine Goes.one (i := 12) (o := ⟨some 15, _, _, _, _, _⟩) (by as_aux_lemma => kernel_rfl) rfl (fun K hK => ?_)
      go_simp
      have hrr := rws2 F2.out.1 (rd_blk drawT FD.out.1 draw_cells) rfl (Nat.le_refl 4) (by decide) (fun h => by cases h) (bt_rd FP.out.1) (be_length n 8) (Nat.le_refl 8) (by decide) (fun h => by cases h)
      refine (macof_any (some ⟨g, 1, none⟩) 32 bs 32 (some ⟨gb5, 0, none⟩) 2 2 _ _ _ _ wd_5 HL.out Fs.out.1.rd (by decide) (by decide) hrr (HKT.out.grown HB.out N2g.out) (by decide) (fun r hr => by split <;> decide)).mono ?_
      rintro e wd_6 ⟨rfl, hb⟩
      rw [cat2]
      go_wp2_with fail
      refine hK.out _ _ trivial ?_
      clear hK K
      try simp only [putz]
      clear hrr
      have HB := hid (gr_on HB.out hb)
      have FZ := hid (FZ.out.on hb)
      have Fs := hid (And.intro (Fs.out.1.on hb) Fs.out.2)
      have FD := hid (And.intro (FD.out.1.on hb) FD.out.2)
      have FP := hid (And.intro (FP.out.1.on hb) FP.out.2)
      have F2 := hid (And.intro (F2.out.1.on hb) F2.out.2)
      clear hb
      refine Goes.one (i := 13) (o := ⟨none, _, _, _, _, _⟩) (by as_aux_lemma => kernel_rfl) rfl (fun K hK => ?_)
      rw [if_pos (by rfl)]
      have hz := FZ.out
      unfold Bt at hz
      rw [KE.out]
      refine wp_store_row 23 (.tmp 2) (.tmp 15) (by rfl) gz (bvs kk).toArray (by rfl) (by rfl) 23 _ hz (hi44 kk KL.out).out (hsz _ kk (by rw [KL.out, List.length_replicate])).out (bvs_all kk) ?_
      have HW := gr_row HB.out HGZ.out (bvs kk).toArray
      have HT := hid (FZ.out.row (m := kk))
      have HS := st_row Fs.out.1 NZg.out.symm (bvs kk).toArray
      refine hK.out _ _ trivial ?_
      clear hK K
      try simp only [putz]
      refine Goes.done (by as_aux_lemma => kernel_rfl) ?_ _
      refine NoPanic.normal ?_
      go_wp2
      exact bodyPost_ret (v := .agg (bvs kk).toArray) (results_cell_row (p := 2) (ty := 23) Tryd.results26 _ _ gz 23 (bvs kk).toArray (0, 0) _ rfl HT.out Tryd.underlying23 rfl (hi44 kk KL.out).out) rfl ⟨rfl, hid ⟨HW, HS⟩⟩
    · skip
      go_simp
      refine (take_st g n bs wd_1 Fs.out.1 HL.out HN.out).mono ?_
      rintro e wd_7 ⟨rfl, hq⟩
      go_wp2_with fail
      refine hK.out _ _ trivial ?_
      clear hK K
      try simp only [putz]
      have HB := hid (gr_put HB.out hq.out.1)
      have FZ := hid (FZ.out.grown hq.out.1 NZg.out)
      have FD := hid (And.intro (FD.out.1.grown hq.out.1 (Ng_gd1.out.symm)) FD.out.2)
      have Fs := hid (And.intro hq.out.2 Fs.out.2)
      clear hq
      refine Goes.two (i := 5) (j := 10) (o := ⟨some 8, _, _, _, _, _⟩) (p := ⟨some 13, _, _, _, _, _⟩) (by as_aux_lemma => kernel_rfl) rfl rfl (fun K hK => ?_) (fun K hK => ?_)
      · skip
        obtain ⟨wd_8, hrun, HBK, HGW⟩ := conv_gr gd1 4 _ rfl FD.out.1
        rw [if_pos (by rfl)]
        refine wp_convert (.tmp 7) rfl _ rfl _ _ hrun.out ?_
        refine hK.out _ _ trivial ?_
        clear hK K
        try simp only [putz]
        have HB := hid (gr_mark HB.out HGW.out FD.out.2)
        have FZ := hid (FZ.out.grown HGW.out NZ_gd1.out)
        have Fs := hid (And.intro (Fs.out.1.grown HGW.out (Ng_gd1.out)) Fs.out.2)
        have FD := hid (And.intro HBK.out FD.out.2)
        clear HBK HGW hrun
        refine Goes.one (i := 10) (o := ⟨some 13, _, _, _, _, _⟩) (by as_aux_lemma => kernel_rfl) rfl (fun K hK => ?_)
        go_simp
        refine (put8 n wd_8 HN.out).mono ?_
        rintro e wd_9 ⟨rfl, hrw, hb⟩
        have hz := HB.out.size
        go_wp2_with fail
        refine hK.out _ _ trivial ?_
        clear hK K
        try simp only [putz]
        have Ng_gp9 := hid (Nat.ne_of_lt Fs.out.1.lt)
        have Ngd1_gp9 := hid (Nat.ne_of_lt FD.out.1.lt)
        have HB := hid (gr_on HB.out hb)
        have FZ := hid (FZ.out.on hb)
        have Fs := hid (And.intro (Fs.out.1.on hb) Fs.out.2)
        have FD := hid (And.intro (FD.out.1.on hb) FD.out.2)
        have FP := hid (And.intro (show Bt wd_9 wd_8.heap.size 5 (be n 8) from hrw) hz)
        generalize wd_8.heap.size = gp9 at *
        clear hrw hb hz
        refine Goes.one (i := 11) (o := ⟨some 14, _, _, _, _, _⟩) (by as_aux_lemma => kernel_rfl) rfl (fun K hK => ?_)
        go_simp
        have hb := (Below.refl wd_9.heap.size wd_9).alloc (Nat.le_refl _) (.cells #[.slice (some ⟨gd1, 0, none⟩) 4 4, .slice (some ⟨gp9, 0, none⟩) 8 8] 47)
        have hh := Blk.new wd_9 #[.slice (some ⟨gd1, 0, none⟩) 4 4, .slice (some ⟨gp9, 0, none⟩) 8 8] 47
        have hz := HB.out.size
        refine hK.out _ _ trivial ?_
        clear hK K
        try simp only [putz]
        have Ng_gb10 := hid (Nat.ne_of_lt Fs.out.1.lt)
        have Ngd1_gb10 := hid (Nat.ne_of_lt FD.out.1.lt)
        have Ngp9_gb10 := hid (Nat.ne_of_lt FP.out.1.lt)
        have HB := hid (gr_on HB.out hb)
        have FZ := hid (FZ.out.on hb)
        have Fs := hid (And.intro (Fs.out.1.on hb) Fs.out.2)
        have FD := hid (And.intro (FD.out.1.on hb) FD.out.2)
        have FP := hid (And.intro (FP.out.1.on hb) FP.out.2)
        generalize wd_9.alloc (.cells #[.slice (some ⟨gd1, 0, none⟩) 4 4, .slice (some ⟨gp9, 0, none⟩) 8 8] 47) = wd_10 at *
        generalize wd_9.heap.size = gb10 at *
        have F2 := hid (And.intro hh hz)
        clear hb hh hz
        refine Goes.one (i := 12) (o := ⟨some 15, _, _, _, _, _⟩) (by as_aux_lemma => kernel_rfl) rfl (fun K hK => ?_)
        go_simp
        have hrr := rws2 F2.out.1 (rd_blk drawT FD.out.1 draw_cells) rfl (Nat.le_refl 4) (by decide) (fun h => by cases h) (bt_rd FP.out.1) (be_length n 8) (Nat.le_refl 8) (by decide) (fun h => by cases h)
        refine (macof_any (some ⟨g, 1, none⟩) 32 bs 32 (some ⟨gb10, 0, none⟩) 2 2 _ _ _ _ wd_10 HL.out Fs.out.1.rd (by decide) (by decide) hrr (HKT.out.grown HB.out N2g.out) (by decide) (fun r hr => by split <;> decide)).mono ?_
        rintro e wd_11 ⟨rfl, hb⟩
        rw [cat2]
        go_wp2_with fail
        refine hK.out _ _ trivial ?_
        clear hK K
        try simp only [putz]
        clear hrr
        have HB := hid (gr_on HB.out hb)
        have FZ := hid (FZ.out.on hb)
        have Fs := hid (And.intro (Fs.out.1.on hb) Fs.out.2)
        have FD := hid (And.intro (FD.out.1.on hb) FD.out.2)
        have FP := hid (And.intro (FP.out.1.on hb) FP.out.2)
        have F2 := hid (And.intro (F2.out.1.on hb) F2.out.2)
        clear hb
        refine Goes.one (i := 13) (o := ⟨none, _, _, _, _, _⟩) (by as_aux_lemma => kernel_rfl) rfl (fun K hK => ?_)
        rw [if_pos (by rfl)]
        have hz := FZ.out
        unfold Bt at hz
        rw [KE.out]
        refine wp_store_row 23 (.tmp 2) (.tmp 15) (by rfl) gz (bvs kk).toArray (by rfl) (by rfl) 23 _ hz (hi44 kk KL.out).out (hsz _ kk (by rw [KL.out, List.length_replicate])).out (bvs_all kk) ?_
        have HW := gr_row HB.out HGZ.out (bvs kk).toArray
        have HT := hid (FZ.out.row (m := kk))
        have HS := st_row Fs.out.1 NZg.out.symm (bvs kk).toArray
        refine hK.out _ _ trivial ?_
        clear hK K
        try simp only [putz]
        refine Goes.done (by as_aux_lemma => kernel_rfl) ?_ _
        refine NoPanic.normal ?_
        go_wp2
        exact bodyPost_ret (v := .agg (bvs kk).toArray) (results_cell_row (p := 2) (ty := 23) Tryd.results26 _ _ gz 23 (bvs kk).toArray (0, 0) _ rfl HT.out Tryd.underlying23 rfl (hi44 kk KL.out).out) rfl ⟨rfl, hid ⟨HW, HS⟩⟩
      · skip
        go_simp
        refine (put8 n wd_7 HN.out).mono ?_
        rintro e wd_12 ⟨rfl, hrw, hb⟩
        have hz := HB.out.size
        go_wp2_with fail
        refine hK.out _ _ trivial ?_
        clear hK K
        try simp only [putz]
        have Ng_gp12 := hid (Nat.ne_of_lt Fs.out.1.lt)
        have Ngd1_gp12 := hid (Nat.ne_of_lt FD.out.1.lt)
        have HB := hid (gr_on HB.out hb)
        have FZ := hid (FZ.out.on hb)
        have Fs := hid (And.intro (Fs.out.1.on hb) Fs.out.2)
        have FD := hid (And.intro (FD.out.1.on hb) FD.out.2)
        have FP := hid (And.intro (show Bt wd_12 wd_7.heap.size 5 (be n 8) from hrw) hz)
        generalize wd_7.heap.size = gp12 at *
        clear hrw hb hz
        refine Goes.one (i := 5) (o := ⟨some 8, _, _, _, _, _⟩) (by as_aux_lemma => kernel_rfl) rfl (fun K hK => ?_)
        obtain ⟨wd_13, hrun, HBK, HGW⟩ := conv_gr gd1 4 _ rfl FD.out.1
        rw [if_pos (by rfl)]
        refine wp_convert (.tmp 7) rfl _ rfl _ _ hrun.out ?_
        refine hK.out _ _ trivial ?_
        clear hK K
        try simp only [putz]
        have HB := hid (gr_mark HB.out HGW.out FD.out.2)
        have FZ := hid (FZ.out.grown HGW.out NZ_gd1.out)
        have Fs := hid (And.intro (Fs.out.1.grown HGW.out (Ng_gd1.out)) Fs.out.2)
        have FP := hid (And.intro (FP.out.1.grown HGW.out (Ngd1_gp12.out.symm)) FP.out.2)
        have FD := hid (And.intro HBK.out FD.out.2)
        clear HBK HGW hrun
        refine Goes.one (i := 11) (o := ⟨some 14, _, _, _, _, _⟩) (by as_aux_lemma => kernel_rfl) rfl (fun K hK => ?_)
        go_simp
        have hb := (Below.refl wd_13.heap.size wd_13).alloc (Nat.le_refl _) (.cells #[.slice (some ⟨gd1, 0, none⟩) 4 4, .slice (some ⟨gp12, 0, none⟩) 8 8] 47)
        have hh := Blk.new wd_13 #[.slice (some ⟨gd1, 0, none⟩) 4 4, .slice (some ⟨gp12, 0, none⟩) 8 8] 47
        have hz := HB.out.size
        refine hK.out _ _ trivial ?_
        clear hK K
        try simp only [putz]
        have Ng_gb14 := hid (Nat.ne_of_lt Fs.out.1.lt)
        have Ngd1_gb14 := hid (Nat.ne_of_lt FD.out.1.lt)
        have Ngp12_gb14 := hid (Nat.ne_of_lt FP.out.1.lt)
        have HB := hid (gr_on HB.out hb)
        have FZ := hid (FZ.out.on hb)
        have Fs := hid (And.intro (Fs.out.1.on hb) Fs.out.2)
        have FD := hid (And.intro (FD.out.1.on hb) FD.out.2)
        have FP := hid (And.intro (FP.out.1.on hb) FP.out.2)
        generalize wd_13.alloc (.cells #[.slice (some ⟨gd1, 0, none⟩) 4 4, .slice (some ⟨gp12, 0, none⟩) 8 8] 47) = wd_14 at *
        generalize wd_13.heap.size = gb14 at *
        have F2 := hid (And.intro hh hz)
        clear hb hh hz
        refine Goes.one (i := 12) (o := ⟨some 15, _, _, _, _, _⟩) (by as_aux_lemma => kernel_rfl) rfl (fun K hK => ?_)
        go_simp
        have hrr := rws2 F2.out.1 (rd_blk drawT FD.out.1 draw_cells) rfl (Nat.le_refl 4) (by decide) (fun h => by cases h) (bt_rd FP.out.1) (be_length n 8) (Nat.le_refl 8) (by decide) (fun h => by cases h)
        refine (macof_any (some ⟨g, 1, none⟩) 32 bs 32 (some ⟨gb14, 0, none⟩) 2 2 _ _ _ _ wd_14 HL.out Fs.out.1.rd (by decide) (by decide) hrr (HKT.out.grown HB.out N2g.out) (by decide) (fun r hr => by split <;> decide)).mono ?_
        rintro e wd_15 ⟨rfl, hb⟩
        rw [cat2]
        go_wp2_with fail
        refine hK.out _ _ trivial ?_
        clear hK K
        try simp only [putz]
        clear hrr
        have HB := hid (gr_on HB.out hb)
        have FZ := hid (FZ.out.on hb)
        have Fs := hid (And.intro (Fs.out.1.on hb) Fs.out.2)
        have FD := hid (And.intro (FD.out.1.on hb) FD.out.2)
        have FP := hid (And.intro (FP.out.1.on hb) FP.out.2)
        have F2 := hid (And.intro (F2.out.1.on hb) F2.out.2)
        clear hb
        refine Goes.one (i := 13) (o := ⟨none, _, _, _, _, _⟩) (by as_aux_lemma => kernel_rfl) rfl (fun K hK => ?_)
        rw [if_pos (by rfl)]
        have hz := FZ.out
        unfold Bt at hz
        rw [KE.out]
        refine wp_store_row 23 (.tmp 2) (.tmp 15) (by rfl) gz (bvs kk).toArray (by rfl) (by rfl) 23 _ hz (hi44 kk KL.out).out (hsz _ kk (by rw [KL.out, List.length_replicate])).out (bvs_all kk) ?_
        have HW := gr_row HB.out HGZ.out (bvs kk).toArray
        have HT := hid (FZ.out.row (m := kk))
        have HS := st_row Fs.out.1 NZg.out.symm (bvs kk).toArray
        refine hK.out _ _ trivial ?_
        clear hK K
        try simp only [putz]
        refine Goes.done (by as_aux_lemma => kernel_rfl) ?_ _
        refine NoPanic.normal ?_
        go_wp2
        exact bodyPost_ret (v := .agg (bvs kk).toArray) (results_cell_row (p := 2) (ty := 23) Tryd.results26 _ _ gz 23 (bvs kk).toArray (0, 0) _ rfl HT.out Tryd.underlying23 rfl (hi44 kk KL.out).out) rfl ⟨rfl, hid ⟨HW, HS⟩⟩
  · skip
    go_simp
    refine (take_st g n bs wd Fs.out.1 HL.out HN.out).mono ?_
    rintro e wd_16 ⟨rfl, hq⟩
    go_wp2_with fail
    refine hK.out _ _ trivial ?_
    clear hK K
    try simp only [putz]
    have HB := hid (gr_put HB.out hq.out.1)
    have FZ := hid (FZ.out.grown hq.out.1 NZg.out)
    have Fs := hid (And.intro hq.out.2 Fs.out.2)
    clear hq
    refine Goes.two (i := 4) (j := 10) (o := ⟨some 7, _, _, _, _, _⟩) (p := ⟨some 13, _, _, _, _, _⟩) (by as_aux_lemma => kernel_rfl) rfl rfl (fun K hK => ?_) (fun K hK => ?_)
    · skip
      go_simp
      have hb := (Below.refl wd_16.heap.size wd_16).alloc (Nat.le_refl _) (.cells #[.int .u8 100, .int .u8 114, .int .u8 97, .int .u8 119] 5)
      have hh := Blk.new wd_16 #[.int .u8 100, .int .u8 114, .int .u8 97, .int .u8 119] 5
      have hz := HB.out.size
      refine hK.out _ _ trivial ?_
      clear hK K
      try simp only [putz]
      have NZ_gd17 := hid (Nat.ne_of_lt FZ.out.lt)
      have Ng_gd17 := hid (Nat.ne_of_lt Fs.out.1.lt)
      have HB := hid (gr_on HB.out hb)
      have FZ := hid (FZ.out.on hb)
      have Fs := hid (And.intro (Fs.out.1.on hb) Fs.out.2)
      generalize wd_16.alloc (.cells #[.int .u8 100, .int .u8 114, .int .u8 97, .int .u8 119] 5) = wd_17 at *
      generalize wd_16.heap.size = gd17 at *
      have FD := hid (And.intro hh hz)
      clear hb hh hz
      refine Goes.two (i := 5) (j := 10) (o := ⟨some 8, _, _, _, _, _⟩) (p := ⟨some 13, _, _, _, _, _⟩) (by as_aux_lemma => kernel_rfl) rfl rfl (fun K hK => ?_) (fun K hK => ?_)
      · skip
        obtain ⟨wd_18, hrun, HBK, HGW⟩ := conv_gr gd17 4 _ rfl FD.out.1
        rw [if_pos (by rfl)]
        refine wp_convert (.tmp 7) rfl _ rfl _ _ hrun.out ?_
        refine hK.out _ _ trivial ?_
        clear hK K
        try simp only [putz]
        have HB := hid (gr_mark HB.out HGW.out FD.out.2)
        have FZ := hid (FZ.out.grown HGW.out NZ_gd17.out)
        have Fs := hid (And.intro (Fs.out.1.grown HGW.out (Ng_gd17.out)) Fs.out.2)
        have FD := hid (And.intro HBK.out FD.out.2)
        clear HBK HGW hrun
        refine Goes.one (i := 10) (o := ⟨some 13, _, _, _, _, _⟩) (by as_aux_lemma => kernel_rfl) rfl (fun K hK => ?_)
        go_simp
        refine (put8 n wd_18 HN.out).mono ?_
        rintro e wd_19 ⟨rfl, hrw, hb⟩
        have hz := HB.out.size
        go_wp2_with fail
        refine hK.out _ _ trivial ?_
        clear hK K
        try simp only [putz]
        have Ng_gp19 := hid (Nat.ne_of_lt Fs.out.1.lt)
        have Ngd17_gp19 := hid (Nat.ne_of_lt FD.out.1.lt)
        have HB := hid (gr_on HB.out hb)
        have FZ := hid (FZ.out.on hb)
        have Fs := hid (And.intro (Fs.out.1.on hb) Fs.out.2)
        have FD := hid (And.intro (FD.out.1.on hb) FD.out.2)
        have FP := hid (And.intro (show Bt wd_19 wd_18.heap.size 5 (be n 8) from hrw) hz)
        generalize wd_18.heap.size = gp19 at *
        clear hrw hb hz
        refine Goes.one (i := 11) (o := ⟨some 14, _, _, _, _, _⟩) (by as_aux_lemma => kernel_rfl) rfl (fun K hK => ?_)
        go_simp
        have hb := (Below.refl wd_19.heap.size wd_19).alloc (Nat.le_refl _) (.cells #[.slice (some ⟨gd17, 0, none⟩) 4 4, .slice (some ⟨gp19, 0, none⟩) 8 8] 47)
        have hh := Blk.new wd_19 #[.slice (some ⟨gd17, 0, none⟩) 4 4, .slice (some ⟨gp19, 0, none⟩) 8 8] 47
        have hz := HB.out.size
        refine hK.out _ _ trivial ?_
        clear hK K
        try simp only [putz]
        have Ng_gb20 := hid (Nat.ne_of_lt Fs.out.1.lt)
        have Ngd17_gb20 := hid (Nat.ne_of_lt FD.out.1.lt)
        have Ngp19_gb20 := hid (Nat.ne_of_lt FP.out.1.lt)
        have HB := hid (gr_on HB.out hb)
        have FZ := hid (FZ.out.on hb)
        have Fs := hid (And.intro (Fs.out.1.on hb) Fs.out.2)
        have FD := hid (And.intro (FD.out.1.on hb) FD.out.2)
        have FP := hid (And.intro (FP.out.1.on hb) FP.out.2)
        generalize wd_19.alloc (.cells #[.slice (some ⟨gd17, 0, none⟩) 4 4, .slice (some ⟨gp19, 0, none⟩) 8 8] 47) = wd_20 at *
        generalize wd_19.heap.size = gb20 at *
        have F2 := hid (And.intro hh hz)
        clear hb hh hz
        refine Goes.one (i := 12) (o := ⟨some 15, _, _, _, _, _⟩) (by as_aux_lemma => kernel_rfl) rfl (fun K hK => ?_)
        go_simp
        have hrr := rws2 F2.out.1 (rd_blk drawT FD.out.1 draw_cells) rfl (Nat.le_refl 4) (by decide) (fun h => by cases h) (bt_rd FP.out.1) (be_length n 8) (Nat.le_refl 8) (by decide) (fun h => by cases h)
        refine (macof_any (some ⟨g, 1, none⟩) 32 bs 32 (some ⟨gb20, 0, none⟩) 2 2 _ _ _ _ wd_20 HL.out Fs.out.1.rd (by decide) (by decide) hrr (HKT.out.grown HB.out N2g.out) (by decide) (fun r hr => by split <;> decide)).mono ?_
        rintro e wd_21 ⟨rfl, hb⟩
        rw [cat2]
        go_wp2_with fail
        refine hK.out _ _ trivial ?_
        clear hK K
        try simp only [putz]
        clear hrr
        have HB := hid (gr_on HB.out hb)
        have FZ := hid (FZ.out.on hb)
        have Fs := hid (And.intro (Fs.out.1.on hb) Fs.out.2)
        have FD := hid (And.intro (FD.out.1.on hb) FD.out.2)
        have FP := hid (And.intro (FP.out.1.on hb) FP.out.2)
        have F2 := hid (And.intro (F2.out.1.on hb) F2.out.2)
        clear hb
        refine Goes.one (i := 13) (o := ⟨none, _, _, _, _, _⟩) (by as_aux_lemma => kernel_rfl) rfl (fun K hK => ?_)
        rw [if_pos (by rfl)]
        have hz := FZ.out
        unfold Bt at hz
        rw [KE.out]
        refine wp_store_row 23 (.tmp 2) (.tmp 15) (by rfl) gz (bvs kk).toArray (by rfl) (by rfl) 23 _ hz (hi44 kk KL.out).out (hsz _ kk (by rw [KL.out, List.length_replicate])).out (bvs_all kk) ?_
        have HW := gr_row HB.out HGZ.out (bvs kk).toArray
        have HT := hid (FZ.out.row (m := kk))
        have HS := st_row Fs.out.1 NZg.out.symm (bvs kk).toArray
        refine hK.out _ _ trivial ?_
        clear hK K
        try simp only [putz]
        refine Goes.done (by as_aux_lemma => kernel_rfl) ?_ _
        refine NoPanic.normal ?_
        go_wp2
        exact bodyPost_ret (v := .agg (bvs kk).toArray) (results_cell_row (p := 2) (ty := 23) Tryd.results26 _ _ gz 23 (bvs kk).toArray (0, 0) _ rfl HT.out Tryd.underlying23 rfl (hi44 kk KL.out).out) rfl ⟨rfl, hid ⟨HW, HS⟩⟩
      · skip
        go_simp
        refine (put8 n wd_17 HN.out).mono ?_
        rintro e wd_22 ⟨rfl, hrw, hb⟩
        have hz := HB.out.size
        go_wp2_with fail
        refine hK.out _ _ trivial ?_
        clear hK K
        try simp only [putz]
        have Ng_gp22 := hid (Nat.ne_of_lt Fs.out.1.lt)
        have Ngd17_gp22 := hid (Nat.ne_of_lt FD.out.1.lt)
        have HB := hid (gr_on HB.out hb)
        have FZ := hid (FZ.out.on hb)
        have Fs := hid (And.intro (Fs.out.1.on hb) Fs.out.2)
        have FD := hid (And.intro (FD.out.1.on hb) FD.out.2)
        have FP := hid (And.intro (show Bt wd_22 wd_17.heap.size 5 (be n 8) from hrw) hz)
        generalize wd_17.heap.size = gp22 at *
        clear hrw hb hz
        refine Goes.one (i := 5) (o := ⟨some 8, _, _, _, _, _⟩) (by as_aux_lemma => kernel_rfl) rfl (fun K hK => ?_)
        obtain ⟨wd_23, hrun, HBK, HGW⟩ := conv_gr gd17 4 _ rfl FD.out.1
        rw [if_pos (by rfl)]
        refine wp_convert (.tmp 7) rfl _ rfl _ _ hrun.out ?_
        refine hK.out _ _ trivial ?_
        clear hK K
        try simp only [putz]
        have HB := hid (gr_mark HB.out HGW.out FD.out.2)
        have FZ := hid (FZ.out.grown HGW.out NZ_gd17.out)
        have Fs := hid (And.intro (Fs.out.1.grown HGW.out (Ng_gd17.out)) Fs.out.2)
        have FP := hid (And.intro (FP.out.1.grown HGW.out (Ngd17_gp22.out.symm)) FP.out.2)
        have FD := hid (And.intro HBK.out FD.out.2)
        clear HBK HGW hrun
        refine Goes.one (i := 11) (o := ⟨some 14, _, _, _, _, _⟩) (by as_aux_lemma => kernel_rfl) rfl (fun K hK => ?_)
        go_simp
        have hb := (Below.refl wd_23.heap.size wd_23).alloc (Nat.le_refl _) (.cells #[.slice (some ⟨gd17, 0, none⟩) 4 4, .slice (some ⟨gp22, 0, none⟩) 8 8] 47)
        have hh := Blk.new wd_23 #[.slice (some ⟨gd17, 0, none⟩) 4 4, .slice (some ⟨gp22, 0, none⟩) 8 8] 47
        have hz := HB.out.size
        refine hK.out _ _ trivial ?_
        clear hK K
        try simp only [putz]
        have Ng_gb24 := hid (Nat.ne_of_lt Fs.out.1.lt)
        have Ngd17_gb24 := hid (Nat.ne_of_lt FD.out.1.lt)
        have Ngp22_gb24 := hid (Nat.ne_of_lt FP.out.1.lt)
        have HB := hid (gr_on HB.out hb)
        have FZ := hid (FZ.out.on hb)
        have Fs := hid (And.intro (Fs.out.1.on hb) Fs.out.2)
        have FD := hid (And.intro (FD.out.1.on hb) FD.out.2)
        have FP := hid (And.intro (FP.out.1.on hb) FP.out.2)
        generalize wd_23.alloc (.cells #[.slice (some ⟨gd17, 0, none⟩) 4 4, .slice (some ⟨gp22, 0, none⟩) 8 8] 47) = wd_24 at *
        generalize wd_23.heap.size = gb24 at *
        have F2 := hid (And.intro hh hz)
        clear hb hh hz
        refine Goes.one (i := 12) (o := ⟨some 15, _, _, _, _, _⟩) (by as_aux_lemma => kernel_rfl) rfl (fun K hK => ?_)
        go_simp
        have hrr := rws2 F2.out.1 (rd_blk drawT FD.out.1 draw_cells) rfl (Nat.le_refl 4) (by decide) (fun h => by cases h) (bt_rd FP.out.1) (be_length n 8) (Nat.le_refl 8) (by decide) (fun h => by cases h)
        refine (macof_any (some ⟨g, 1, none⟩) 32 bs 32 (some ⟨gb24, 0, none⟩) 2 2 _ _ _ _ wd_24 HL.out Fs.out.1.rd (by decide) (by decide) hrr (HKT.out.grown HB.out N2g.out) (by decide) (fun r hr => by split <;> decide)).mono ?_
        rintro e wd_25 ⟨rfl, hb⟩
        rw [cat2]
        go_wp2_with fail
        refine hK.out _ _ trivial ?_
        clear hK K
        try simp only [putz]
        clear hrr
        have HB := hid (gr_on HB.out hb)
        have FZ := hid (FZ.out.on hb)
        have Fs := hid (And.intro (Fs.out.1.on hb) Fs.out.2)
        have FD := hid (And.intro (FD.out.1.on hb) FD.out.2)
        have FP := hid (And.intro (FP.out.1.on hb) FP.out.2)
        have F2 := hid (And.intro (F2.out.1.on hb) F2.out.2)
        clear hb
        refine Goes.one (i := 13) (o := ⟨none, _, _, _, _, _⟩) (by as_aux_lemma => kernel_rfl) rfl (fun K hK => ?_)
        rw [if_pos (by rfl)]
        have hz := FZ.out
        unfold Bt at hz
        rw [KE.out]
        refine wp_store_row 23 (.tmp 2) (.tmp 15) (by rfl) gz (bvs kk).toArray (by rfl) (by rfl) 23 _ hz (hi44 kk KL.out).out (hsz _ kk (by rw [KL.out, List.length_replicate])).out (bvs_all kk) ?_
        have HW := gr_row HB.out HGZ.out (bvs kk).toArray
        have HT := hid (FZ.out.row (m := kk))
        have HS := st_row Fs.out.1 NZg.out.symm (bvs kk).toArray
        refine hK.out _ _ trivial ?_
        clear hK K
        try simp only [putz]
        refine Goes.done (by as_aux_lemma => kernel_rfl) ?_ _
        refine NoPanic.normal ?_
        go_wp2
        exact bodyPost_ret (v := .agg (bvs kk).toArray) (results_cell_row (p := 2) (ty := 23) Tryd.results26 _ _ gz 23 (bvs kk).toArray (0, 0) _ rfl HT.out Tryd.underlying23 rfl (hi44 kk KL.out).out) rfl ⟨rfl, hid ⟨HW, HS⟩⟩
    · skip
      go_simp
      refine (put8 n wd_16 HN.out).mono ?_
      rintro e wd_26 ⟨rfl, hrw, hb⟩
      have hz := HB.out.size
      go_wp2_with fail
      refine hK.out _ _ trivial ?_
      clear hK K
      try simp only [putz]
      have Ng_gp26 := hid (Nat.ne_of_lt Fs.out.1.lt)
      have HB := hid (gr_on HB.out hb)
      have FZ := hid (FZ.out.on hb)
      have Fs := hid (And.intro (Fs.out.1.on hb) Fs.out.2)
      have FP := hid (And.intro (show Bt wd_26 wd_16.heap.size 5 (be n 8) from hrw) hz)
      generalize wd_16.heap.size = gp26 at *
      clear hrw hb hz
      refine Goes.one (i := 4) (o := ⟨some 7, _, _, _, _, _⟩) (by as_aux_lemma => kernel_rfl) rfl (fun K hK => ?_)
      go_simp
      have hb := (Below.refl wd_26.heap.size wd_26).alloc (Nat.le_refl _) (.cells #[.int .u8 100, .int .u8 114, .int .u8 97, .int .u8 119] 5)
      have hh := Blk.new wd_26 #[.int .u8 100, .int .u8 114, .int .u8 97, .int .u8 119] 5
      have hz := HB.out.size
      refine hK.out _ _ trivial ?_
      clear hK K
      try simp only [putz]
      have NZ_gd27 := hid (Nat.ne_of_lt FZ.out.lt)
      have Ng_gd27 := hid (Nat.ne_of_lt Fs.out.1.lt)
      have Ngp26_gd27 := hid (Nat.ne_of_lt FP.out.1.lt)
      have HB := hid (gr_on HB.out hb)
      have FZ := hid (FZ.out.on hb)
      have Fs := hid (And.intro (Fs.out.1.on hb) Fs.out.2)
      have FP := hid (And.intro (FP.out.1.on hb) FP.out.2)
      generalize wd_26.alloc (.cells #[.int .u8 100, .int .u8 114, .int .u8 97, .int .u8 119] 5) = wd_27 at *
      generalize wd_26.heap.size = gd27 at *
      have FD := hid (And.intro hh hz)
      clear hb hh hz
      refine Goes.one (i := 5) (o := ⟨some 8, _, _, _, _, _⟩) (by as_aux_lemma => kernel_rfl) rfl (fun K hK => ?_)
      obtain ⟨wd_28, hrun, HBK, HGW⟩ := conv_gr gd27 4 _ rfl FD.out.1
      rw [if_pos (by rfl)]
      refine wp_convert (.tmp 7) rfl _ rfl _ _ hrun.out ?_
      refine hK.out _ _ trivial ?_
      clear hK K
      try simp only [putz]
      have HB := hid (gr_mark HB.out HGW.out FD.out.2)
      have FZ := hid (FZ.out.grown HGW.out NZ_gd27.out)
      have Fs := hid (And.intro (Fs.out.1.grown HGW.out (Ng_gd27.out)) Fs.out.2)
      have FP := hid (And.intro (FP.out.1.grown HGW.out (Ngp26_gd27.out)) FP.out.2)
      have FD := hid (And.intro HBK.out FD.out.2)
      clear HBK HGW hrun
      refine Goes.one (i := 11) (o := ⟨some 14, _, _, _, _, _⟩) (by as_aux_lemma => kernel_rfl) rfl (fun K hK => ?_)
      go_simp
      have hb := (Below.refl wd_28.heap.size wd_28).alloc (Nat.le_refl _) (.cells #[.slice (some ⟨gd27, 0, none⟩) 4 4, .slice (some ⟨gp26, 0, none⟩) 8 8] 47)
      have hh := Blk.new wd_28 #[.slice (some ⟨gd27, 0, none⟩) 4 4, .slice (some ⟨gp26, 0, none⟩) 8 8] 47
      have hz := HB.out.size
      refine hK.out _ _ trivial ?_
      clear hK K
      try simp only [putz]
      have Ng_gb29 := hid (Nat.ne_of_lt Fs.out.1.lt)
      have Ngp26_gb29 := hid (Nat.ne_of_lt FP.out.1.lt)
      have Ngd27_gb29 := hid (Nat.ne_of_lt FD.out.1.lt)
      have HB := hid (gr_on HB.out hb)
      have FZ := hid (FZ.out.on hb)
      have Fs := hid (And.intro (Fs.out.1.on hb) Fs.out.2)
      have FP := hid (And.intro (FP.out.1.on hb) FP.out.2)
      have FD := hid (And.intro (FD.out.1.on hb) FD.out.2)
      generalize wd_28.alloc (.cells #[.slice (some ⟨gd27, 0, none⟩) 4 4, .slice (some ⟨gp26, 0, none⟩) 8 8] 47) = wd_29 at *
      generalize wd_28.heap.size = gb29 at *
      have F2 := hid (And.intro hh hz)
      clear hb hh hz
      refine Goes.one (i := 12) (o := ⟨some 15, _, _, _, _, _⟩) (by as_aux_lemma => kernel_rfl) rfl (fun K hK => ?_)
      go_simp
      have hrr := rws2 F2.out.1 (rd_blk drawT FD.out.1 draw_cells) rfl (Nat.le_refl 4) (by decide) (fun h => by cases h) (bt_rd FP.out.1) (be_length n 8) (Nat.le_refl 8) (by decide) (fun h => by cases h)
      refine (macof_any (some ⟨g, 1, none⟩) 32 bs 32 (some ⟨gb29, 0, none⟩) 2 2 _ _ _ _ wd_29 HL.out Fs.out.1.rd (by decide) (by decide) hrr (HKT.out.grown HB.out N2g.out) (by decide) (fun r hr => by split <;> decide)).mono ?_
      rintro e wd_30 ⟨rfl, hb⟩
      rw [cat2]
      go_wp2_with fail
      refine hK.out _ _ trivial ?_
      clear hK K
      try simp only [putz]
      clear hrr
      have HB := hid (gr_on HB.out hb)
      have FZ := hid (FZ.out.on hb)
      have Fs := hid (And.intro (Fs.out.1.on hb) Fs.out.2)
      have FP := hid (And.intro (FP.out.1.on hb) FP.out.2)
      have FD := hid (And.intro (FD.out.1.on hb) FD.out.2)
      have F2 := hid (And.intro (F2.out.1.on hb) F2.out.2)
      clear hb
      refine Goes.one (i := 13) (o := ⟨none, _, _, _, _, _⟩) (by as_aux_lemma => kernel_rfl) rfl (fun K hK => ?_)
      rw [if_pos (by rfl)]
      have hz := FZ.out
      unfold Bt at hz
      rw [KE.out]
      refine wp_store_row 23 (.tmp 2) (.tmp 15) (by rfl) gz (bvs kk).toArray (by rfl) (by rfl) 23 _ hz (hi44 kk KL.out).out (hsz _ kk (by rw [KL.out, List.length_replicate])).out (bvs_all kk) ?_
      have HW := gr_row HB.out HGZ.out (bvs kk).toArray
      have HT := hid (FZ.out.row (m := kk))
      have HS := st_row Fs.out.1 NZg.out.symm (bvs kk).toArray
      refine hK.out _ _ trivial ?_
      clear hK K
      try simp only [putz]
      refine Goes.done (by as_aux_lemma => kernel_rfl) ?_ _
      refine NoPanic.normal ?_
      go_wp2
      exact bodyPost_ret (v := .agg (bvs kk).toArray) (results_cell_row (p := 2) (ty := 23) Tryd.results26 _ _ gz 23 (bvs kk).toArray (0, 0) _ rfl HT.out Tryd.underlying23 rfl (hi44 kk KL.out).out) rfl ⟨rfl, hid ⟨HW, HS⟩⟩
end Go.Proofs.YtcijnoapjicliaaDoor
namespace Go.Proofs.YtcijnoapjicliaaDoor
open Go.RowKit
set_option linter.unusedVariables false
set_option linter.unusedSimpArgs false

set_option maxRecDepth 100000 in
set_option maxHeartbeats 4000000 in
theorem told_st (g n : Nat) (bs : List UInt8) (w : World) (h : St w g bs n) (hb : bs.length = 32) (hn : n + 1 < 18446744073709551616) (hk : Kt w) (h2 : 2 ≠ g) :
    Calls Tryd.prog 25 #[.pointer (some ⟨g, 0, none⟩), .func (.func 26) #[] #[]] w fun e w' => e = .returned (.agg (bvs (dsum bs n)).toArray) ∧ Hid (w.grownBy w' (some g) ∧ St w' g bs (n + 1)) := by
  have hlt := Sc.lt h
  obtain ⟨hB1, hX1, hs1⟩ := box1 w 23 (List.replicate 32 0)
  have HG := hid (grown_of hB1.out (some g))
  have NZg := hid (Nat.ne_of_gt hlt)
  have HS1 := hid (Sc.on h hB1.out)
  have HD := hid (draw_st g n bs _ HS1.out hb hn (hk.on hB1.out) h2)
  have HTH := hid (sthere_any g true _ (St.made HS1.out))
  have FZ := hid hX1.out
  have KL := hid (dsum_length bs n)
  generalize dsum bs n = kk at *
  have HI := hi44 kk KL.out
  have HO := ho32 kk KL.out
  clear h hb hn hk h2 hlt hB1 hX1 hs1 HS1
  go_enter Tryd.func25, Tryd.ntmps25
  go_upto_region 1 with fail
  rw [← lit32]
  generalize w.alloc (.cells (bvs (List.replicate 32 0)).toArray 23) = w1 at *
  generalize hgz : w.heap.size = gz at FZ NZg ⊢
  have HGZ := hid (Nat.le_of_eq hgz)
  clear hgz
  go_wp2_with fail
  refine HTH.out.mono ?_
  rintro e w1' ⟨rfl, rfl⟩
  go_wp2_with fail
  refine HD.out.mono ?_
  rintro e w2 ⟨rfl, hq⟩
  have HG := hid (gr_put HG.out hq.out.1)
  have HS := hid hq.out.2
  have FZ := hid (FZ.out.grown hq.out.1 NZg.out)
  clear hq HD HTH
  have hz := FZ.out
  unfold Bt at hz
  rw [lit32] at hz
  go_wp2_with (refine wpList_store_row rfl 23 (.tmp 4) (.tmp 12) rfl gz (bvs kk).toArray rfl rfl 23 _ hz HI.out HO.out (bvs_all _) ?_)
  have HW := gr_row HG.out HGZ.out (bvs kk).toArray
  have HT := hid (FZ.out.row (m := kk))
  have HS := st_row HS.out NZg.out.symm (bvs kk).toArray
  exact bodyPost_ret (v := .agg (bvs kk).toArray) (results_cell_row (p := 4) (ty := 23) Tryd.results25 _ _ gz 23 (bvs kk).toArray (0, 0) _ rfl HT.out Tryd.underlying23 rfl HI.out) rfl ⟨rfl, hid ⟨HW, HS⟩⟩
set_option maxRecDepth 100000 in
set_option maxHeartbeats 4000000 in
theorem next_st (g n : Nat) (bs : List UInt8) (w : World) (h : St w g bs n) (hb : bs.length = 32) (hn : n + 1 < 18446744073709551616) (hk : Kt w) (h2 : 2 ≠ g) :
    Calls Tryd.prog 13 #[.pointer (some ⟨g, 0, none⟩)] w fun e w' => e = .returned (.agg (bvs (dsum bs n)).toArray) ∧ Hid (w.grownBy w' (some g) ∧ St w' g bs (n + 1)) := by
  have hlt := Sc.lt h
  obtain ⟨hB1, hX1, hs1⟩ := box1 w 23 (List.replicate 32 0)
  have HG := hid (grown_of hB1.out (some g))
  have NZg := hid (Nat.ne_of_gt hlt)
  have HS1 := hid (Sc.on h hB1.out)
  have HD := hid (told_st g n bs _ HS1.out hb hn (hk.on hB1.out) h2)
  have HTH := hid (sthere_any g true _ (St.made HS1.out))
  have FZ := hid hX1.out
  have KL := hid (dsum_length bs n)
  generalize dsum bs n = kk at *
  have HI := hi44 kk KL.out
  have HO := ho32 kk KL.out
  clear h hb hn hk h2 hlt hB1 hX1 hs1 HS1
  go_enter Tryd.func13, Tryd.ntmps13
  go_upto_region 1 with fail
  rw [← lit32]
  generalize w.alloc (.cells (bvs (List.replicate 32 0)).toArray 23) = w1 at *
  generalize hgz : w.heap.size = gz at FZ NZg ⊢
  have HGZ := hid (Nat.le_of_eq hgz)
  clear hgz
  go_wp2_with fail
  refine HD.out.mono ?_
  rintro e w2 ⟨rfl, hq⟩
  have HG := hid (gr_put HG.out hq.out.1)
  have HS := hid hq.out.2
  have FZ := hid (FZ.out.grown hq.out.1 NZg.out)
  clear hq HD HTH
  have hz := FZ.out
  unfold Bt at hz
  rw [lit32] at hz
  go_wp2_with (refine wpList_store_row rfl 23 (.tmp 2) (.tmp 4) rfl gz (bvs kk).toArray rfl rfl 23 _ hz HI.out HO.out (bvs_all _) ?_)
  have HW := gr_row HG.out HGZ.out (bvs kk).toArray
  have HT := hid (FZ.out.row (m := kk))
  have HS := st_row HS.out NZg.out.symm (bvs kk).toArray
  exact bodyPost_ret (v := .agg (bvs kk).toArray) (results_cell_row (p := 2) (ty := 23) Tryd.results13 _ _ gz 23 (bvs kk).toArray (0, 0) _ rfl HT.out Tryd.underlying23 rfl HI.out) rfl ⟨rfl, hid ⟨HW, HS⟩⟩
/-- the way to the count that is embedded -/
theorem far_way (g : Nat) (w : World) : (method 253 31 (.pointer (some ⟨g, 0, none⟩)) "burrow/draws.far").run Tryd.prog w = .ok (30, .pointer (some ⟨g, 33, none⟩)) w := by kernel_rfl
set_option maxRecDepth 100000 in
set_option maxHeartbeats 4000000 in
theorem toldn_st (g n : Nat) (bs : List UInt8) (w : World) (h : St w g bs n) (hb : bs.length = 32) :
    Calls Tryd.prog 29 #[.pointer (some ⟨g, 0, none⟩), .func (.methodOf 31 "burrow/draws.far") #[] #[]] w fun e w' => e = .returned (.int .u64 (n : Int)) ∧ w = w' := by
  have HTH := hid (sthere_any g true w h.made)
  have HF := hid (far_any g n w (h.count hb))
  have hfw := far_way g
  go_enter Tryd.func29, Tryd.ntmps29
  go_wp2_with fail
  refine HTH.out.mono ?_
  rintro e w1 ⟨rfl, rfl⟩
  go_wp2_with fail
  refine HF.out.mono ?_
  rintro e w1 ⟨rfl, rfl⟩
  go_wp2
  go_ret
  exact ⟨rfl, rfl⟩
set_option maxRecDepth 100000 in
theorem drawn_st (g n : Nat) (bs : List UInt8) (w : World) (h : St w g bs n) (hb : bs.length = 32) :
    Calls Tryd.prog 15 #[.pointer (some ⟨g, 0, none⟩)] w fun e w' => e = .returned (.int .u64 (n : Int)) ∧ w = w' := by
  have HT := hid (toldn_st g n bs w h hb)
  clear h hb
  go_enter Tryd.func15, Tryd.ntmps15
  go_wp2_with fail
  refine HT.out.mono ?_
  rintro e w1 ⟨rfl, rfl⟩
  go_wp2
  go_ret
  exact ⟨rfl, rfl⟩
/-- not there: none, or none that New made -/
def Nos (w : World) (p : Value) : Prop := ∀ u, Below w.heap.size w u → Calls Tryd.prog 19 #[p] u fun e w' => e = .returned (.bool false) ∧ u = w'
theorem Nos.on {w u : World} {p : Value} (h : Nos w p) (hb : Below w.heap.size w u) : Nos u p := fun v hv => h v (hb.trans (hv.mono hb.size))
theorem nos_none (w : World) : Nos w (.pointer none) := fun u _ => sthere_none u
theorem nos_raw {w : World} {g : Nat} (hg : g < w.heap.size) (h : w.cell? ⟨g, 0, none⟩ = some (.bool false)) : Nos w (.pointer (some ⟨g, 0, none⟩)) := fun u hu => sthere_any g false u (by rw [World.cell?_of_block (a := ⟨g, 0, none⟩) (hu.block g hg)]; exact h)
set_option maxRecDepth 100000 in
theorem toldn_no (p f : Value) (w : World) (h : Nos w p) : Calls Tryd.prog 29 #[p, f] w fun e w' => e = .returned (.int .u64 0) ∧ w = w' := by
  have HTH := hid (h w (Below.refl _ _))
  clear h
  go_enter Tryd.func29, Tryd.ntmps29
  go_wp2_with fail
  refine HTH.out.mono ?_
  rintro e w1 ⟨rfl, rfl⟩
  go_wp2
  go_ret
  exact ⟨rfl, rfl⟩
set_option maxRecDepth 100000 in
theorem drawn_no (p : Value) (w : World) (h : Nos w p) : Calls Tryd.prog 15 #[p] w fun e w' => e = .returned (.int .u64 0) ∧ w = w' := by
  have HT := hid (toldn_no p (.func (.methodOf 31 "burrow/draws.far") #[] #[]) w h)
  clear h
  go_enter Tryd.func15, Tryd.ntmps15
  go_wp2_with fail
  refine HT.out.mono ?_
  rintro e w1 ⟨rfl, rfl⟩
  go_wp2
  go_ret
  exact ⟨rfl, rfl⟩
/-- noughts -/
def z32 : List UInt8 := List.replicate 32 0
set_option maxRecDepth 100000 in
set_option maxHeartbeats 4000000 in
theorem told_no (p f : Value) (w : World) (h : Nos w p) : Calls Tryd.prog 25 #[p, f] w fun e w' => e = .returned (.agg (bvs z32).toArray) ∧ Below w.heap.size w w' := by
  rw [show z32 = List.replicate 32 0 from rfl]
  have KL := hid (show (List.replicate 32 (0 : UInt8)).length = 32 by simp)
  obtain ⟨hB1, hX1, hs1⟩ := box1 w 23 (List.replicate 32 0)
  have HTH := hid (h _ hB1.out)
  have HB := hid hB1.out
  have FZ := hid hX1.out
  have HZL := hid lit32
  clear h hs1
  generalize List.replicate 32 (0 : UInt8) = zz at *
  clear hB1 hX1
  go_enter Tryd.func25, Tryd.ntmps25
  go_upto_region 1 with fail
  rw [← HZL.out]
  generalize w.alloc (.cells (bvs zz).toArray 23) = w1 at *
  generalize hgz : w.heap.size = gz at FZ ⊢
  have HGZ := hid (Nat.le_of_eq hgz)
  clear hgz
  go_wp2_with fail
  refine HTH.out.mono ?_
  rintro e w1' ⟨rfl, rfl⟩
  go_upto_region 3 with fail
  rw [← HZL.out]
  obtain ⟨hB2, hX2, hs2⟩ := box1 w1 23 zz
  have HB2 := hid (HB.out.trans (hB2.out.mono HB.out.size))
  have FZ2 := hid (FZ.out.on hB2.out)
  have hl := ld_sum hX2.out KL.out
  generalize w1.alloc (.cells (bvs zz).toArray 23) = w2 at *
  have HI := hi44 zz KL.out
  have HO := hsz zz zz rfl
  have hz := FZ2.out
  unfold Bt at hz
  clear hB2 hX2 hs2 HB FZ HTH
  go_wp2_with (first | (refine wp_ld rfl _ _ rfl _ rfl _ hl ?_) | (refine wpList_store_row rfl 23 (.tmp 4) (.tmp 9) rfl gz (bvs zz).toArray rfl rfl 23 _ hz HI.out HO.out (bvs_all _) ?_))
  have HW := below_setRow HB2.out HGZ.out (bvs zz).toArray
  have HT := hid (FZ2.out.row (m := zz))
  exact bodyPost_ret (v := .agg (bvs zz).toArray) (results_cell_row (p := 4) (ty := 23) Tryd.results25 _ _ gz 23 (bvs zz).toArray (0, 0) _ rfl HT.out Tryd.underlying23 rfl HI.out) rfl ⟨rfl, HW⟩
set_option maxRecDepth 100000 in
set_option maxHeartbeats 4000000 in
theorem next_no (p : Value) (w : World) (h : Nos w p) : Calls Tryd.prog 13 #[p] w fun e w' => e = .returned (.agg (bvs z32).toArray) ∧ Below w.heap.size w w' := by
  have KL := hid (show (List.replicate 32 (0 : UInt8)).length = 32 by simp)
  obtain ⟨hB1, hX1, hs1⟩ := box1 w 23 (List.replicate 32 0)
  have HD := hid (told_no p (.func (.func 26) #[] #[]) _ (h.on hB1.out))
  rw [show z32 = List.replicate 32 0 from rfl] at HD ⊢
  have HB := hid hB1.out
  have FZ := hid hX1.out
  have HZL := hid lit32
  clear h hs1
  generalize List.replicate 32 (0 : UInt8) = kk at *
  clear hB1 hX1
  have HI := hi44 kk KL.out
  have HO := ho32 kk KL.out
  go_enter Tryd.func13, Tryd.ntmps13
  go_upto_region 1 with fail
  rw [← HZL.out]
  generalize w.alloc (.cells (bvs kk).toArray 23) = w1 at *
  generalize hgz : w.heap.size = gz at FZ ⊢
  have HGZ := hid (Nat.le_of_eq hgz)
  clear hgz
  go_wp2_with fail
  refine HD.out.mono ?_
  rintro e w2 ⟨rfl, hb⟩
  have HB := hid (HB.out.trans (hb.mono HB.out.size))
  have FZ := hid (FZ.out.on hb)
  clear hb HD
  have hz := FZ.out
  unfold Bt at hz
  rw [HZL.out] at hz
  go_wp2_with (refine wpList_store_row rfl 23 (.tmp 2) (.tmp 4) rfl gz (bvs kk).toArray rfl rfl 23 _ hz HI.out HO.out (bvs_all _) ?_)
  have HW := below_setRow HB.out HGZ.out (bvs kk).toArray
  have HT := hid (FZ.out.row (m := kk))
  exact bodyPost_ret (v := .agg (bvs kk).toArray) (results_cell_row (p := 2) (ty := 23) Tryd.results13 _ _ gz 23 (bvs kk).toArray (0, 0) _ rfl HT.out Tryd.underlying23 rfl HI.out) rfl ⟨rfl, HW⟩
end Go.Proofs.YtcijnoapjicliaaDoor
namespace Go.Proofs.YtcijnoapjicliaaDoor
open Go.RowKit Go.ChangeShapes Go.WideShapes Go.ChangeAt
set_option linter.unusedVariables false
set_option linter.unusedSimpArgs false
set_option maxRecDepth 100000

theorem cells_num4 : Tryd.prog.cellsOf 26 = 4 := by kernel_rfl
theorem cells_u64' : Tryd.prog.cellsOf 24 = 1 := by kernel_rfl
theorem cells_sum32 : Tryd.prog.cellsOf 23 = 32 := by kernel_rfl
theorem cells_u8' : Tryd.prog.cellsOf 5 = 1 := by kernel_rfl
theorem cells_sl' : Tryd.prog.cellsOf 47 = 1 := by kernel_rfl
theorem okWide_arr' {P : Program} {W : World} {r : Reach} {b0 : Nat} {t e : TypeId} {n : Nat} {v : Value} (ht : P.underlying t = some (.array n e)) (h : Value.okWide P W r b0 t v) : ∃ cs : Array Value, v = .agg cs ∧ cs.size = P.cellsOf t := by
  simp only [Value.okWide, ht] at h
  obtain ⟨cs, h1, h2, _⟩ := h
  exact ⟨cs, h1, h2⟩
theorem bytes_of' : ∀ (l : List Value), (∀ i, i < l.length → ∃ b : UInt8, l[i]? = some (.int .u8 ((b.toNat : Nat) : Int))) → ∃ bs : List UInt8, l = bvs bs
  | [], _ => ⟨[], rfl⟩
  | c :: l, h => by
    obtain ⟨b, hb⟩ := h 0 (by simp)
    obtain ⟨bs, hbs⟩ := bytes_of' l (fun i hi => by have := h (i + 1) (by simpa using hi); simpa using this)
    refine ⟨b :: bs, ?_⟩
    simp at hb
    simp [bvs, hb]
    simpa [bvs] using hbs
theorem part_at' {l cs : List Value} {o n : Nat} (h : (l.drop o).take n = cs) : ∀ j v, cs[j]? = some v → l[o + j]? = some v := by
  intro j v hj
  rw [← h, List.getElem?_take] at hj
  split at hj
  · rw [List.getElem?_drop] at hj; exact hj
  · cases hj
section
variable {H : Type} {enc : TypeId × Value → H} {W : World} {base : Nat} {spare : Nat → Bool} {held : Bool} {r : Reach} {b0 : Nat} {v : Value} {d : DataW H} {p : List MemPlace}
theorem word_at' {m : Nat} {cs : List Value} {y : DataW H × List MemPlace} (h : DataW.trod enc Tryd.prog W base spare held m 24 cs = some y) : ∃ n : Nat, cs = [.int .u64 (n : Int)] ∧ n < 18446744073709551616 := by
  obtain ⟨z, rfl, _, hw⟩ := DataW.trod_int Tryd.underlying24 h
  have hb : 0 ≤ z ∧ z ≤ 18446744073709551615 := by simpa [Lit.wf, IntKind.min, IntKind.max, IntKind.signed, IntKind.bits] using hw
  obtain ⟨n, rfl⟩ := Int.eq_ofNat_of_zero_le hb.1
  exact ⟨n, rfl, by omega⟩
theorem u8_at' {m : Nat} {cs : List Value} {y : DataW H × List MemPlace} (h : DataW.trod enc Tryd.prog W base spare held m 5 cs = some y) : ∃ n : Nat, cs = [.int .u8 (n : Int)] ∧ n < 256 := by
  obtain ⟨z, rfl, _, hw⟩ := DataW.trod_int Tryd.underlying5 h
  have hb : 0 ≤ z ∧ z ≤ 255 := by simpa [Lit.wf, IntKind.min, IntKind.max, IntKind.signed, IntKind.bits] using hw
  obtain ⟨n, rfl⟩ := Int.eq_ofNat_of_zero_le hb.1
  exact ⟨n, rfl, by omega⟩
theorem int_at' {m : Nat} {cs : List Value} {y : DataW H × List MemPlace} (h : DataW.trod enc Tryd.prog W base spare held m 3 cs = some y) : ∃ z : Int, cs = [.int .i64 z] ∧ -9223372036854775808 ≤ z ∧ z ≤ 9223372036854775807 := by
  obtain ⟨z, rfl, _, hw⟩ := DataW.trod_int Tryd.underlying3 h
  have hb : -9223372036854775808 ≤ z ∧ z ≤ 9223372036854775807 := by simpa [Lit.wf, IntKind.min, IntKind.max, IntKind.signed, IntKind.bits] using hw
  exact ⟨z, rfl, hb.1, hb.2⟩
theorem num_list' {m : Nat} {l : List Value} {y : DataW H × List MemPlace} (h : DataW.trod enc Tryd.prog W base spare held m 26 l = some y) :
    ∃ n0 n1 n2 n3 : Nat, l = [.int .u64 (n0 : Int), .int .u64 (n1 : Int), .int .u64 (n2 : Int), .int .u64 (n3 : Int)] ∧ n0 < 18446744073709551616 ∧ n1 < 18446744073709551616 ∧ n2 < 18446744073709551616 ∧ n3 < 18446744073709551616 := by
  obtain ⟨xs, m', _, _, hlen, hl, hx⟩ := DataW.trod_array Tryd.underlying26 h
  rw [cells_num4] at hlen
  obtain ⟨c0, c1, c2, c3, rfl⟩ : ∃ c0 c1 c2 c3, l = [c0, c1, c2, c3] := by
    match l, hlen with
    | [c0, c1, c2, c3], _ => exact ⟨c0, c1, c2, c3, rfl⟩
  rw [cells_u64'] at hx
  have g0 := hx 0 (by omega)
  have g1 := hx 1 (by omega)
  have g2 := hx 2 (by omega)
  have g3 := hx 3 (by omega)
  rw [List.getElem?_eq_getElem (by omega)] at g0 g1 g2 g3
  obtain ⟨n0, e0, h0⟩ := word_at' g0
  obtain ⟨n1, e1, h1⟩ := word_at' g1
  obtain ⟨n2, e2, h2⟩ := word_at' g2
  obtain ⟨n3, e3, h3⟩ := word_at' g3
  simp at e0 e1 e2 e3
  subst e0; subst e1; subst e2; subst e3
  exact ⟨n0, n1, n2, n3, rfl, h0, h1, h2, h3⟩
theorem open_num4 (hv : Value.okWide Tryd.prog W r b0 26 v) (h : DataW.Trod enc Tryd.prog W base spare held 26 v d p) :
    ∃ n0 n1 n2 n3 : Nat, v = .agg #[.int .u64 (n0 : Int), .int .u64 (n1 : Int), .int .u64 (n2 : Int), .int .u64 (n3 : Int)] ∧ n0 < 18446744073709551616 ∧ n1 < 18446744073709551616 ∧ n2 < 18446744073709551616 ∧ n3 < 18446744073709551616 := by
  obtain ⟨cs, rfl, hs⟩ := okWide_arr' Tryd.underlying26 hv
  obtain ⟨fuel, hf⟩ := h
  obtain ⟨n0, n1, n2, n3, e, hh⟩ := num_list' (l := cs.toList) (by simpa [Value.cells] using hf)
  exact ⟨n0, n1, n2, n3, by rw [show cs = cs.toList.toArray from by simp, e], hh⟩
set_option maxRecDepth 100000 in
theorem sum_list' {m : Nat} {l : List Value} {y : DataW H × List MemPlace} (h : DataW.trod enc Tryd.prog W base spare held m 23 l = some y) : ∃ bs : List UInt8, l = bvs bs ∧ bs.length = 32 := by
  obtain ⟨xs, m', _, _, hlen, hl, hx⟩ := DataW.trod_array Tryd.underlying23 h
  rw [cells_sum32] at hlen
  rw [cells_u8'] at hx
  obtain ⟨bs, rfl⟩ := bytes_of' l (fun i hi => by
    have g := hx i (by omega)
    rw [List.getElem?_eq_getElem (by omega)] at g
    obtain ⟨n, e, hn⟩ := u8_at' g
    refine ⟨UInt8.ofNat n, ?_⟩
    have e2 := congrArg (fun x : List Value => x[0]?) e
    have e3 : l[i]? = some (.int .u8 (n : Int)) := by simpa using e2
    rw [e3, UInt8.toNat_ofNat', Nat.mod_eq_of_lt (by omega)])
  exact ⟨bs, rfl, by rw [← bvs_length]; exact hlen⟩
theorem open_sum (hv : Value.okWide Tryd.prog W r b0 23 v) (h : DataW.Trod enc Tryd.prog W base spare held 23 v d p) : ∃ bs : List UInt8, v = .agg (bvs bs).toArray ∧ bs.length = 32 := by
  obtain ⟨cs, rfl, hs⟩ := okWide_arr' Tryd.underlying23 hv
  obtain ⟨fuel, hf⟩ := h
  obtain ⟨bs, hb, hl⟩ := sum_list' (l := cs.toList) (by simpa [Value.cells] using hf)
  exact ⟨bs, by rw [← hb], hl⟩
theorem open_u8 (hv : Value.okWide Tryd.prog W r b0 5 v) (h : DataW.Trod enc Tryd.prog W base spare held 5 v d p) : ∃ n : Nat, v = .int .u8 (n : Int) ∧ n < 256 := by
  obtain ⟨z, rfl⟩ := okWide_int Tryd.underlying5 hv
  obtain ⟨fuel, hf⟩ := h
  obtain ⟨n, e, hn⟩ := u8_at' hf
  simp [Value.cells] at e
  subst e
  exact ⟨n, rfl, hn⟩
/-- a slice of bytes, by its cell -/
theorem sl_at' {m : Nat} {c : Value} {y : DataW H × List MemPlace} (h : DataW.trod enc Tryd.prog W base (fun _ => true) held m 47 [c] = some y) :
    ∃ a len cap zs, c = .slice a len cap ∧ IsRow .u8 W a len cap zs := by
  rcases open_ints Tryd.underlying47 Tryd.underlying5 (by kernel_rfl) h with ⟨hcs, _⟩ | ⟨x, l, c', zs, hcs, _, hl, hm, hz, hx, hcell, hwz⟩
  · simp at hcs
    subst hcs
    exact ⟨none, 0, 0, [], rfl, .inl ⟨rfl, rfl, rfl, rfl⟩⟩
  · simp at hcs
    subst hcs
    exact ⟨_, _, _, zs, rfl, .inr ⟨_, rfl, hl, hm, by simpa using hz, hcell, hwz⟩⟩
end
end Go.Proofs.YtcijnoapjicliaaDoor
