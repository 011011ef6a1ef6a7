/-
  macs.summed, walked: the sum of a block and of all parts behind it. Conditions: the library's table holds what its text lays; a thousand parts at most, each of 2^20 bytes at most.
-/
import Derived.Test.YtbloejlebikecaaGreatDoorMcb
import Derived.Test.YtbloejlebikecaaGreatDoorPkA
namespace Go.Proofs.YtbloejlebikecaaGreatDoor
open Go.RowKit
set_option linter.unusedVariables false
set_option linter.unusedSimpArgs false

set_option maxRecDepth 100000 in
set_option maxHeartbeats 2000000 in
theorem summed_any (k : List UInt8) (a0 : Option Addr) (n0 c0 : Nat) (A : Nat → Option Addr) (L C : Nat → Nat) (xs : Nat → List UInt8) (w : World) (hk : k.length = 64) (hR : Rws w a0 n0 A L C xs) (hK : Kt w) (hn : n0 ≤ 1000) (hL : ∀ r, r < n0 → L r ≤ 1048576) :
    Calls Tryz.prog 66 #[.agg (bvs k).toArray, .slice a0 n0 c0] w fun e w' => e = .returned (.agg (bvs (sha (k ++ cat xs n0))).toArray) ∧ Below w.heap.size w w' := by
  have HKL := hid hk
  have HR := hid hR
  have HK := hid hK
  have HL := hid hL
  have HN := hid hn
  clear hk hR hK hL
  obtain ⟨HB1, HX1, HZ1, HS1⟩ := box2 w 65 26 k (List.replicate 32 0)
  go_enter Tryz.func66, Tryz.ntmps66
  go_wp2_with fail
  rw [← lit32]
  generalize (w.alloc (.cells (bvs k).toArray 65)).alloc (.cells (bvs (List.replicate 32 0)).toArray 26) = w1 at *
  refine (new_at w1 (HK.out.on HB1.out)).mono ?_
  rintro e w2 ⟨g, rfl, H2⟩
  have hge := H2.out.new
  have HC2 := hid (p := Cb w1 g [] [(w.heap.size + 1, List.replicate 32 0)] w2) ⟨H2.out, fun p hp => by
    obtain rfl := List.mem_singleton.1 hp
    have hs := HS1.out
    exact ⟨HZ1.out.on H2.out.below, by show w.heap.size + 1 ≠ g; omega⟩⟩
  have HGW := hid (show w.heap.size < g by have := HS1.out; omega)
  have HX2 := hid (HX1.out.on H2.out.below)
  have hsl := sl64 w.heap.size
  clear H2 hge
  go_wp2_with fail
  refine (write_cb HC2 (some ⟨w.heap.size, 0, none⟩) 64 64 k HKL.out (bt_rd HX2.out) (fun _ ad e => by injection e with e; subst e; exact Nat.ne_of_lt HGW.out) (Nat.le_refl _) (by simp)).mono ?_
  rintro e w3 ⟨rfl, HC3⟩
  have HC4 := hid (p := Cb w1 g (k ++ cat xs 0) [(w.heap.size + 1, List.replicate 32 0)] w3) (by have := HC3.out; simpa [cat] using this)
  clear hsl HC2 HC3 HX2
  go_wp2_with fail
  go_loopw [14] (fun i wr => ∃ j : Nat, j ≤ n0 ∧ i = .int .i64 j ∧ Hid (Cb w1 g (k ++ cat xs j) [(w.heap.size + 1, List.replicate 32 0)] wr)) (fun i _ => n0 - (intOf i).toNat)
  case atStart => exact ⟨0, Nat.zero_le _, rfl, HC4⟩
  case round =>
    clear HC4
    obtain ⟨j, hj, rfl, HC⟩ := hrel
    have HBW := hid (p := Below w.heap.size w wr) (HB1.out.trans (HC.out.old.mono HB1.out.size))
    by_cases hlt : j < n0
    · obtain ⟨⟨go, o, rfl, hgo, hcell⟩, hl1, hrd1, hlc, hcb, hac⟩ := HR.out j hlt
      have hcell2 := (HBW.out.cell (p := ⟨go, o + j, none⟩) hgo).trans hcell
      have HL1 := hid hl1
      have HRD0 := hid hrd1
      have HRD := hid (hrd1.below HBW.out (Nat.le_refl _))
      have HLk := hid (HL.out j hlt)
      have HLT := hid hlt
      have HLC := hid hlc
      have HSP := hid (cat_length xs j (fun r hr => by rw [(HR.out r (by omega)).2.1]; exact HL.out r (by omega)))
      clear hcell hl1 hrd1 hlc hcb hac hgo
      have hlti : (j : Int) < (n0 : Int) := by omega
      go_wp2_with fail
      refine (write_cb HC (A j) (C j) (L j) (xs j) HL1.out HRD.out (fun hp => par_block HRD0.out (by rw [HL1.out]; exact hp) (Nat.le_of_lt HGW.out)) HLC.out (by rw [List.length_append, HKL.out]; have h1 := HSP.out; have h2 := HLk.out; have h3 := HLT.out; have h4 := HN.out; omega)).mono ?_
      rintro e w10 ⟨rfl, HC10⟩
      have HC11 := hid (p := Cb w1 g (k ++ cat xs (j + 1)) [(w.heap.size + 1, List.replicate 32 0)] w10) (by have := HC10.out; simpa [cat] using this)
      clear HC HC10 hcell2
      go_wp2
      exact ⟨⟨j + 1, HLT.out, by go_num, HC11⟩, by have := HLT.out; simp [intOf]; omega⟩
    · obtain rfl : j = n0 := by omega
      have HSP := hid (cat_length xs j (fun r hr => by rw [(HR.out r hr).2.1]; exact HL.out r hr))
      go_wp2_with fail
      refine (sum_cb HC (by rw [List.length_append, HKL.out]; have h1 := HSP.out; have h4 := HN.out; omega)).mono ?_
      rintro e w12 ⟨rfl, HC12⟩
      have HB12 := hid (p := Below w.heap.size w w12) (HB1.out.trans (HC12.out.old.mono HB1.out.size))
      have HZ12 := hid (HC12.out.2 (w.heap.size + 1, List.replicate 32 0) (by simp)).1
      have HQ := hid (sha_length (k ++ cat xs j))
      generalize hr : sha (k ++ cat xs j) = r at *
      have HRR := hid hr
      clear hr
      have HI44 := hi44 r HQ.out
      have HO8 := hsz (List.replicate 32 0) r (by rw [HQ.out, List.length_replicate])
      have HZR := hid (HZ12.out.row (m := r))
      have HBR := hid (p := Below w.heap.size w (w12.setRow (w.heap.size + 1) (bvs r).toArray)) (below_setRow HB12.out (Nat.le_succ _) _)
      have HDA := bvs_all r
      have HZZ := HZ12.out
      unfold Bt at HZZ
      have HZZ := hid HZZ
      go_wp2_with (refine wpList_store_row rfl 26 (.tmp 4) (.tmp 23) rfl (w.heap.size + 1) (bvs r).toArray rfl rfl 26 _ HZZ.out HI44.out HO8.out HDA ?_)
      exact bodyPost_ret (v := .agg (bvs r).toArray) (results_cell_row (p := 4) (ty := 26) Tryz.results66 _ _ (w.heap.size + 1) 26 (bvs r).toArray (0, 0) _ rfl HZR.out Tryz.underlying26 rfl HI44.out) rfl ⟨by rw [HRR.out], HBR.out⟩
end Go.Proofs.YtbloejlebikecaaGreatDoor
