/-
  macs.filled, macs.Of's closure, walked: K of a key; K against a byte. Conditions: the library's table holds what its text lays; 2^46 bytes at most.
-/
import Derived.Test.YtbloejlebikecaaGreatDoorMca
import Derived.Deep.Cut
namespace Go.Proofs.YtbloejlebikecaaGreatDoor
open Go.RowKit
set_option linter.unusedVariables false
set_option linter.unusedSimpArgs false

theorem kof_long (key : List UInt8) (h : 64 < key.length) : sha key ++ (List.replicate 64 (0 : UInt8)).drop 32 = kof key := by
  have e : kin key = sha key := by unfold kin; rw [if_pos h]
  unfold kof
  rw [e, sha_length]; rfl
theorem kof_short (key : List UInt8) (h : ¬ 64 < key.length) : key ++ (List.replicate 64 (0 : UInt8)).drop key.length = kof key := by
  have e : kin key = key := by unfold kin; rw [if_neg h]
  unfold kof
  rw [e, List.drop_replicate]
theorem sl32 (g : Nat) (w : World) : (Instr.sliceAt 26 (.pointer (some ⟨g, 0, none⟩)) none none none).run Tryz.prog w = .ok (.slice (some ⟨g, 0, none⟩) 32 32) w := by
  have hl : Tryz.prog.arrayLen 26 = 32 := by kernel_rfl
  have h5 : Tryz.prog.elem 26 = 5 := by kernel_rfl
  rw [run_sliceAt_array_all (P := Tryz.prog) w 26 ⟨g, 0, none⟩ (by rw [hl, h5]; exact Tryz.underlying26)]
  have hs : (sizeOf 5).run Tryz.prog w = .ok 1 w := by kernel_rfl
  rw [h5, hs, hl]
  simp [Result.andThen, slicedAt, Addr.add]
theorem sl64 (g : Nat) (w : World) : (Instr.sliceAt 65 (.pointer (some ⟨g, 0, none⟩)) none none none).run Tryz.prog w = .ok (.slice (some ⟨g, 0, none⟩) 64 64) w := by
  have hl : Tryz.prog.arrayLen 65 = 64 := by kernel_rfl
  have h5 : Tryz.prog.elem 65 = 5 := by kernel_rfl
  rw [run_sliceAt_array_all (P := Tryz.prog) w 65 ⟨g, 0, none⟩ (by rw [hl, h5]; exact Tryz.underlying65)]
  have hs : (sizeOf 5).run Tryz.prog w = .ok 1 w := by kernel_rfl
  rw [h5, hs, hl]
  simp [Result.andThen, slicedAt, Addr.add]
theorem bt_at {w : World} {g t : Nat} {a b : List UInt8} (h : Bt w g t a) (e : a = b) : Bt w g t b := e ▸ h
set_option maxRecDepth 100000 in
set_option maxHeartbeats 2000000 in
theorem filled_any (A : Option Addr) (c : Nat) (key : List UInt8) (w : World) (n : Nat) (hn : key.length = n) (hr : Rd w A key) (hc : n ≤ c) (hK : Kt w) (hlen : n ≤ 70368744177664) :
    Calls Tryz.prog 64 #[.slice A n c] w fun e w' => e = .returned (.agg (bvs (kof key)).toArray) ∧ Below w.heap.size w w' := by
  have HN := hid hn
  have HR := hid hr
  have HC := hid hc
  have HK := hid hK
  have HL := hid hlen
  clear hn hr hc hK hlen
  obtain ⟨HB1, HZ1, HM1, HS1⟩ := box2 w 65 65 (List.replicate 64 0) (List.replicate 64 0)
  by_cases hb : 64 < n
  · have HBG := hid hb
    go_enter Tryz.func64, Tryz.ntmps64
    go_wp2_with fail
    rw [← lit64]
    generalize (w.alloc (.cells (bvs (List.replicate 64 0)).toArray 65)).alloc (.cells (bvs (List.replicate 64 0)).toArray 65) = w1 at *
    refine (of_any A c key w1 n HN.out (HR.out.below HB1.out (Nat.le_refl _)) HC.out (HK.out.on HB1.out) HL.out).mono ?_
    rintro e w2 ⟨rfl, hb2⟩
    have HB2 := hid (HB1.out.trans (hb2.mono HB1.out.size))
    have HZ2 := hid (HZ1.out.on hb2)
    have HM2 := hid (HM1.out.on hb2)
    have HS2 := hid (Nat.lt_of_lt_of_le (show w.heap.size + 1 < w1.heap.size by rw [HS1.out]; omega) hb2.size)
    clear HB1 HZ1 HM1 HS1 hb2 hb
    have hbx := hi44 (sha key) (sha_length _)
    have hox := ho32 (sha key) (sha_length _)
    obtain ⟨hB3, hX3, hs3⟩ := box1 w2 26 (sha key)
    have HZ3 := hid (HZ2.out.on hB3.out)
    have HM3 := hid (HM2.out.on hB3.out)
    have HB3 := hid (HB2.out.trans (hB3.out.mono HB2.out.size))
    have hsl := sl32 w2.heap.size
    have hsk := sl64 (w.heap.size + 1)
    obtain ⟨w4, hrun, hbt4, hg4⟩ := run_copy_bt (w2.alloc (.cells (bvs (sha key)).toArray 26)) (w.heap.size + 1) 65 (List.replicate 64 0) (sha key) (some ⟨w2.heap.size, 0, none⟩) 32 32 64 64 HM3.out (bt_rd hX3.out) (sha_length _) (by decide) (by rw [List.length_replicate])
    have HM4 := hid (bt_at hbt4 (kof_long key (by rw [HN.out]; exact HBG.out)))
    have HZ4 := hid (show Bt w4 w.heap.size 65 (List.replicate 64 0) from (hg4.block _ HZ3.out.lt (by intro e; injection e with e; omega)).trans HZ3.out)
    have HB4 := hid (below_grown HB3.out hg4 (Nat.le_succ _) HB3.out.size)
    clear hbt4 hg4 HZ3 HM3 HB3 hX3 hs3 hB3 HZ2 HM2 HB2
    have HKL := hid (kof_length key)
    generalize hr : kof key = r at *
    have HRR := hid hr
    clear hr
    have HI := hi43 r HKL.out
    have HO := hsz (List.replicate 64 0) r (by rw [HKL.out, List.length_replicate])
    have HZR := hid (HZ4.out.row (m := r))
    have HBR := hid (p := Below w.heap.size w (w4.setRow w.heap.size (bvs r).toArray)) (below_setRow HB4.out (Nat.le_refl _) _)
    have HDA := bvs_all r
    have HZZ := HZ4.out
    have HMM := HM4.out
    unfold Bt at HZZ HMM
    have HZZ := hid HZZ
    have HMM := hid HMM
    go_wp2_with (first | (refine wpList_store_row rfl 26 (.tmp 4) (.tmp 9) rfl w2.heap.size (bvs (sha key)).toArray rfl rfl 26 _ (heap_alloc_new _ _) hbx.out hox.out (bvs_all _) ?_; rw [World.setRow_alloc_new]) | (refine wpList_load_row rfl 65 (.tmp 3) rfl (w.heap.size + 1) rfl 65 (bvs r).toArray (0, 0) _ HMM.out Tryz.underlying65 rfl HI.out ?_) | (refine wpList_store_row rfl 65 (.tmp 2) (.tmp 14) rfl w.heap.size (bvs r).toArray rfl rfl 65 _ HZZ.out HI.out HO.out HDA ?_))
    exact bodyPost_ret (v := .agg (bvs r).toArray) (results_cell_row (p := 2) (ty := 65) Tryz.results64 _ _ w.heap.size 65 (bvs r).toArray (0, 0) _ rfl HZR.out Tryz.underlying65 rfl HI.out) rfl ⟨by rw [HRR.out], HBR.out⟩
  · have HBG := hid hb
    go_enter Tryz.func64, Tryz.ntmps64
    go_upto_region 5 with fail
    rw [← lit64]
    generalize (w.alloc (.cells (bvs (List.replicate 64 0)).toArray 65)).alloc (.cells (bvs (List.replicate 64 0)).toArray 65) = w1 at *
    have hsk := sl64 (w.heap.size + 1)
    obtain ⟨w4, hrun, hbt4, hg4⟩ := run_copy_bt w1 (w.heap.size + 1) 65 (List.replicate 64 0) key A n c 64 64 HM1.out (HR.out.below HB1.out (Nat.le_refl _)) HN.out (by have := HBG.out; omega) (by rw [List.length_replicate])
    have HM4 := hid (bt_at hbt4 ((congrArg (fun z => key ++ (List.replicate 64 (0 : UInt8)).drop z) HN.out.symm).trans (kof_short key (by rw [HN.out]; exact HBG.out))))
    have HZ4 := hid (show Bt w4 w.heap.size 65 (List.replicate 64 0) from (hg4.block _ HZ1.out.lt (by intro e; injection e with e; omega)).trans HZ1.out)
    have HB4 := hid (below_grown HB1.out hg4 (Nat.le_succ _) HB1.out.size)
    clear hbt4 hg4 HZ1 HM1 HB1 hb
    have HKL := hid (kof_length key)
    generalize hr : kof key = r at *
    have HRR := hid hr
    clear hr
    have HI := hi43 r HKL.out
    have HO := hsz (List.replicate 64 0) r (by rw [HKL.out, List.length_replicate])
    have HZR := hid (HZ4.out.row (m := r))
    have HBR := hid (p := Below w.heap.size w (w4.setRow w.heap.size (bvs r).toArray)) (below_setRow HB4.out (Nat.le_refl _) _)
    have HDA := bvs_all r
    have HZZ := HZ4.out
    have HMM := HM4.out
    unfold Bt at HZZ HMM
    have HZZ := hid HZZ
    have HMM := hid HMM
    go_wp2_with (first | (refine wpList_load_row rfl 65 (.tmp 3) rfl (w.heap.size + 1) rfl 65 (bvs r).toArray (0, 0) _ HMM.out Tryz.underlying65 rfl HI.out ?_) | (refine wpList_store_row rfl 65 (.tmp 2) (.tmp 14) rfl w.heap.size (bvs r).toArray rfl rfl 65 _ HZZ.out HI.out HO.out HDA ?_))
    exact bodyPost_ret (v := .agg (bvs r).toArray) (results_cell_row (p := 2) (ty := 65) Tryz.results64 _ _ w.heap.size 65 (bvs r).toArray (0, 0) _ rfl HZR.out Tryz.underlying65 rfl HI.out) rfl ⟨by rw [HRR.out], HBR.out⟩
/-- the first i bytes against another one, the others as they were -/
def mxk (k : List UInt8) (x : UInt8) (i : Nat) : List UInt8 := xr (k.take i) x ++ k.drop i
theorem mxk_length (k : List UInt8) (x : UInt8) (i : Nat) : (mxk k x i).length = k.length := by simp [mxk, xr]; omega
theorem mxk_at (k : List UInt8) (x : UInt8) (i : Nat) (h : i < k.length) : (mxk k x i)[i]'(by rw [mxk_length]; exact h) = k[i] := by
  unfold mxk
  rw [List.getElem_append_right (by simp [xr]; omega)]
  have e : min i k.length = i := by omega
  simp [xr, e]
theorem mxk_set (k : List UInt8) (x : UInt8) (i : Nat) (h : i < k.length) : (mxk k x i).set i (k[i] ^^^ x) = mxk k x (i + 1) := by
  unfold mxk
  have e : (xr (k.take i) x).length = i := by simp [xr]; omega
  rw [List.set_append_right _ _ (by rw [e]; exact Nat.le_refl _), e, Nat.sub_self, List.drop_eq_getElem_cons h, List.set_cons_zero, List.take_succ_eq_append_getElem h]
  simp only [xr, List.map_append, List.map_cons, List.map_nil, List.append_assoc, List.singleton_append]
theorem mxk_all (k : List UInt8) (x : UInt8) (i : Nat) (h : k.length ≤ i) : mxk k x i = xr k x := by
  unfold mxk
  rw [List.take_of_length_le h, List.drop_eq_nil_of_le h, List.append_nil]
structure Ag (w : World) (l : List UInt8) (w' : World) : Prop where
  below : Below w.heap.size w w'
  z : Bt w' w.heap.size 65 (List.replicate 64 0)
  m : Bt w' (w.heap.size + 1) 65 l
theorem Ag.set {w w' : World} {l : List UInt8} (h : Ag w l w') (k : Nat) (b : UInt8) : Ag w (l.set k b) (w'.setCell ⟨w.heap.size + 1, k, none⟩ (.int .u8 ((b.toNat : Nat) : Int))) :=
  ⟨h.below.setCell (by simp) _, h.z.other _ (by omega), h.m.set k b⟩
theorem ho64 (x : List UInt8) (h : x.length = 64) : Hid ((#[.int .u8 0, .int .u8 0, .int .u8 0, .int .u8 0, .int .u8 0, .int .u8 0, .int .u8 0, .int .u8 0, .int .u8 0, .int .u8 0, .int .u8 0, .int .u8 0, .int .u8 0, .int .u8 0, .int .u8 0, .int .u8 0, .int .u8 0, .int .u8 0, .int .u8 0, .int .u8 0, .int .u8 0, .int .u8 0, .int .u8 0, .int .u8 0, .int .u8 0, .int .u8 0, .int .u8 0, .int .u8 0, .int .u8 0, .int .u8 0, .int .u8 0, .int .u8 0, .int .u8 0, .int .u8 0, .int .u8 0, .int .u8 0, .int .u8 0, .int .u8 0, .int .u8 0, .int .u8 0, .int .u8 0, .int .u8 0, .int .u8 0, .int .u8 0, .int .u8 0, .int .u8 0, .int .u8 0, .int .u8 0, .int .u8 0, .int .u8 0, .int .u8 0, .int .u8 0, .int .u8 0, .int .u8 0, .int .u8 0, .int .u8 0, .int .u8 0, .int .u8 0, .int .u8 0, .int .u8 0, .int .u8 0, .int .u8 0, .int .u8 0, .int .u8 0] : Array Value).size = (bvs x).toArray.size) := hid (by rw [bvs_size, h]; rfl)
set_option maxRecDepth 100000 in
set_option maxHeartbeats 2000000 in
theorem against_any (g : Nat) (x : UInt8) (k : List UInt8) (w : World) (hk : Bt w g 65 k) (hl : k.length = 64) :
    Calls Tryz.prog 65 #[.int .u8 ((x.toNat : Nat) : Int), .pointer (some ⟨g, 0, none⟩)] w fun e w' => e = .returned (.agg (bvs (xr k x)).toArray) ∧ Below w.heap.size w w' := by
  have HK := hid hk
  have HL := hid hl
  clear hk hl
  obtain ⟨HB1, HZ1, HS1⟩ := box1 w 65 (List.replicate 64 0)
  go_enter Tryz.func65, Tryz.ntmps65
  go_upto_region 1 with fail
  rw [← lit64]
  have HK1 := hid (HK.out.on HB1.out)
  generalize w.alloc (.cells (bvs (List.replicate 64 0)).toArray 65) = w1 at *
  obtain ⟨HB2, HM2, HS2⟩ := box1 w1 65 k
  have hT := hid (p := Ag w (mxk k x 0) (w1.alloc (.cells (bvs k).toArray 65))) ⟨HB1.out.trans (HB2.out.mono HB1.out.size), HZ1.out.on HB2.out, by rw [← HS1.out]; exact bt_at HM2.out (by simp [mxk, xr])⟩
  have HKK := HK1.out
  unfold Bt at HKK
  have HKK := hid HKK
  have HI := hi43 k HL.out
  have HO := ho64 k HL.out
  go_upto_region 2 with (first | (refine wpList_load_row rfl 65 (.tmp 1) rfl g rfl 65 (bvs k).toArray (0, 0) _ HKK.out Tryz.underlying65 rfl HI.out ?_) | (refine wpList_store_row rfl 65 (.tmp 4) (.tmp 6) rfl w1.heap.size (bvs k).toArray rfl rfl 65 _ (heap_alloc_new _ _) HI.out HO.out (bvs_all _) ?_; rw [World.setRow_alloc_new]))
  have hsx := HS1.out
  generalize w1.alloc (.cells (bvs k).toArray 65) = w2 at *
  simp only [hsx]
  clear hsx HKK HK1 HB1 HZ1 HS1 HB2 HM2 HS2
  go_wp2_with fail
  go_loopw [7] (fun i wr => ∃ j : Nat, j ≤ 64 ∧ i = .int .i64 j ∧ Hid (Ag w (mxk k x j) wr)) (fun i _ => 64 - (intOf i).toNat)
  case atStart => exact ⟨0, Nat.zero_le _, rfl, hT⟩
  case round =>
    clear hT
    obtain ⟨j, hj, rfl, HT⟩ := hrel
    by_cases hlt : j < 64
    · have HJ := hid (show j < k.length by rw [HL.out]; exact hlt)
      have hc := HT.out.m.cell j (by rw [mxk_length]; exact HJ.out)
      rw [mxk_at k x j HJ.out] at hc
      have hf := HT.out.m.frozen j
      have hx := xor_u8 k[j] x
      have HN := hid (p := Ag w (mxk k x (j + 1)) (wr.setCell ⟨w.heap.size + 1, j, none⟩ (.int .u8 (((k[j] ^^^ x).toNat : Nat) : Int)))) (by rw [← mxk_set k x j HJ.out]; exact HT.out.set j (k[j] ^^^ x))
      generalize (((k[j] ^^^ x).toNat : Nat) : Int) = y at *
      generalize ((k[j].toNat : Nat) : Int) = old at *
      generalize ((x.toNat : Nat) : Int) = xi at *
      go_wp2
      go_roundw
      case rel => exact ⟨j + 1, by omega, by go_num, HN⟩
      case measure => simp [intOf]; omega
    · obtain rfl : j = 64 := by omega
      have HT2 := hid (p := Ag w (xr k x) wr) (by rw [← mxk_all k x 64 (by rw [HL.out]; exact Nat.le_refl _)]; exact HT.out)
      have HKL := hid (show (xr k x).length = 64 by rw [xr_length, HL.out])
      clear HT
      generalize hr : xr k x = r at *
      have HRR := hid hr
      clear hr
      have HI := hi43 r HKL.out
      have HO := hsz (List.replicate 64 0) r (by rw [HKL.out, List.length_replicate])
      have HZR := hid (HT2.out.z.row (m := r))
      have HBR := hid (p := Below w.heap.size w (wr.setRow w.heap.size (bvs r).toArray)) (below_setRow HT2.out.below (Nat.le_refl _) _)
      have HDA := bvs_all r
      have HZZ := HT2.out.z
      have HMM := HT2.out.m
      unfold Bt at HZZ HMM
      have HZZ := hid HZZ
      have HMM := hid HMM
      go_wp2_with (first | (refine wpList_load_row rfl 65 (.tmp 4) rfl (w.heap.size + 1) rfl 65 (bvs r).toArray (0, 0) _ HMM.out Tryz.underlying65 rfl HI.out ?_) | (refine wpList_store_row rfl 65 (.tmp 3) (.tmp 17) rfl w.heap.size (bvs r).toArray rfl rfl 65 _ HZZ.out HI.out HO.out HDA ?_))
      exact bodyPost_ret (v := .agg (bvs r).toArray) (results_cell_row (p := 3) (ty := 65) Tryz.results65 _ _ w.heap.size 65 (bvs r).toArray (0, 0) _ rfl HZR.out Tryz.underlying65 rfl HI.out) rfl ⟨by rw [HRR.out], HBR.out⟩
end Go.Proofs.YtbloejlebikecaaGreatDoor
