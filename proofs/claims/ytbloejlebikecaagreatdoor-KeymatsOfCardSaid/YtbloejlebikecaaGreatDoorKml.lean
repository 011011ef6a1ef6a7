/-
  burrowref10.Cut, walked: the document's keys at a place. Conditions: a slice of 2^47 bytes at most.
-/
import Derived.Test.YtbloejlebikecaaGreatDoorKme
namespace Go.Proofs.YtbloejlebikecaaGreatDoor
open Go.RowKit
set_option linter.unusedVariables false
set_option linter.unusedSimpArgs false

/-- the first i bytes from s on, noughts behind them -/
def cto (b : List UInt8) (s i : Nat) : List UInt8 := (b.drop s).take i ++ List.replicate (48 - i) 0
theorem cto_none (b : List UInt8) (s : Nat) : cto b s 0 = z48 := rfl
theorem cto_length (b : List UInt8) (s i : Nat) (hi : i ≤ 48) (h : s + 48 ≤ b.length) : (cto b s i).length = 48 := by simp [cto]; omega
theorem cto_all (b : List UInt8) (s : Nat) : cto b s 48 = (b.drop s).take 48 := by simp [cto]
theorem cto_set (b : List UInt8) (s i : Nat) (hi : i < 48) (h : s + 48 ≤ b.length) : (cto b s i).set i (b.getD (s + i) 0) = cto b s (i + 1) := by
  have hl : ((b.drop s).take i).length = i := by rw [List.length_take, List.length_drop]; omega
  unfold cto
  rw [List.set_append_right _ _ (by omega), hl, Nat.sub_self, show 48 - i = (48 - (i + 1)) + 1 by omega, List.replicate_succ, List.set_cons_zero]
  have e : (b.drop s).take (i + 1) = (b.drop s).take i ++ [b.getD (s + i) 0] := by
    rw [List.take_succ_eq_append_getElem (by rw [List.length_drop]; omega), List.getElem_drop]
    have : s + i < b.length := by omega
    simp [this]
  rw [e, List.append_assoc]; rfl
set_option maxRecDepth 100000 in
theorem rcut_neg (A : Option Addr) (c n : Nat) (p : Int) (w : World) (hp : p < 0) :
    Calls Tryz.prog 9 #[.slice A n c, .int .i64 p] w fun e w' => e = .returned (.tuple #[.agg (bvs z48).toArray, .int .i64 1]) ∧ Below w.heap.size w w' := by
  have hZ := hid (heap_alloc_new w (.cells (bvs z48).toArray 37))
  have hB := hid ((Below.refl w.heap.size w).alloc (Nat.le_refl _) (.cells (bvs z48).toArray 37))
  have HI := hi48 z48 rfl
  have HS := hid (p := ((w.alloc (.cells (bvs z48).toArray 37)).setRow w.heap.size (bvs z48).toArray) = w.alloc (.cells (bvs z48).toArray 37)) (by rw [World.setRow_alloc_new])
  go_enter Tryz.func9, Tryz.ntmps9
  go_upto_region 2 with fail
  rw [← lit48]
  generalize w.alloc (.cells (bvs z48).toArray 37) = w1 at *
  have HO := hsz z48 z48 rfl
  have HDA := bvs_all z48
  go_wp2_with (refine wpList_store_row rfl 37 (.tmp 4) (.tmp 11) rfl w.heap.size (bvs z48).toArray rfl rfl 37 _ hZ.out HI.out HO.out HDA ?_; rw [HS.out])
  exact bodyPost_ret (v := .tuple #[.agg (bvs z48).toArray, .int .i64 1]) (res_cell_tmp (p := 4) (u := 5) Tryz.results9 _ _ w.heap.size (bvs z48).toArray _ rfl hZ.out HI.out rfl) rfl ⟨rfl, hB.out⟩
set_option maxRecDepth 100000 in
theorem rcut_far (A : Option Addr) (c n : Nat) (p : Int) (w : World) (h0 : ¬ p < 0) (hp : (n : Int) < p) :
    Calls Tryz.prog 9 #[.slice A n c, .int .i64 p] w fun e w' => e = .returned (.tuple #[.agg (bvs z48).toArray, .int .i64 5]) ∧ Below w.heap.size w w' := by
  have hZ := hid (heap_alloc_new w (.cells (bvs z48).toArray 37))
  have hB := hid ((Below.refl w.heap.size w).alloc (Nat.le_refl _) (.cells (bvs z48).toArray 37))
  have h2 : p > (n : Int) := hp
  have HI := hi48 z48 rfl
  have HS := hid (p := ((w.alloc (.cells (bvs z48).toArray 37)).setRow w.heap.size (bvs z48).toArray) = w.alloc (.cells (bvs z48).toArray 37)) (by rw [World.setRow_alloc_new])
  go_enter Tryz.func9, Tryz.ntmps9
  go_upto_region 4 with fail
  rw [← lit48]
  generalize w.alloc (.cells (bvs z48).toArray 37) = w1 at *
  have HO := hsz z48 z48 rfl
  have HDA := bvs_all z48
  go_wp2_with (refine wpList_store_row rfl 37 (.tmp 4) (.tmp 24) rfl w.heap.size (bvs z48).toArray rfl rfl 37 _ hZ.out HI.out HO.out HDA ?_; rw [HS.out])
  exact bodyPost_ret (v := .tuple #[.agg (bvs z48).toArray, .int .i64 5]) (res_cell_tmp (p := 4) (u := 5) Tryz.results9 _ _ w.heap.size (bvs z48).toArray _ rfl hZ.out HI.out rfl) rfl ⟨rfl, hB.out⟩
set_option maxRecDepth 100000 in
theorem rcut_short (A : Option Addr) (c n : Nat) (p : Int) (w : World) (h0 : ¬ p < 0) (hq : ¬ (n : Int) < p) (hlen : n ≤ 140737488355328) (hp : (n : Int) < 48 * p + 48) :
    Calls Tryz.prog 9 #[.slice A n c, .int .i64 p] w fun e w' => e = .returned (.tuple #[.agg (bvs z48).toArray, .int .i64 5]) ∧ Below w.heap.size w w' := by
  have hZ := hid (heap_alloc_new w (.cells (bvs z48).toArray 37))
  have hB := hid ((Below.refl w.heap.size w).alloc (Nat.le_refl _) (.cells (bvs z48).toArray 37))
  have h2 : ¬ p > (n : Int) := hq
  obtain ⟨s, hs⟩ : ∃ s : Int, s = 48 * p := ⟨_, rfl⟩
  obtain ⟨t, ht⟩ : ∃ t : Int, t = s + 48 := ⟨_, rfl⟩
  have q4 : IntKind.i64.wrap (48 * p) = s := by rw [IntKind.wrap_i64]; omega
  have q5 : IntKind.i64.wrap (s + 48) = t := by rw [IntKind.wrap_i64]; omega
  have h3 : t > (n : Int) := by omega
  clear hs ht hp hlen
  have HI := hi48 z48 rfl
  have HS := hid (p := ((w.alloc (.cells (bvs z48).toArray 37)).setRow w.heap.size (bvs z48).toArray) = w.alloc (.cells (bvs z48).toArray 37)) (by rw [World.setRow_alloc_new])
  go_enter Tryz.func9, Tryz.ntmps9
  go_upto_region 4 with fail
  rw [← lit48]
  generalize w.alloc (.cells (bvs z48).toArray 37) = w1 at *
  have HO := hsz z48 z48 rfl
  have HDA := bvs_all z48
  go_wp2_with (refine wpList_store_row rfl 37 (.tmp 4) (.tmp 24) rfl w.heap.size (bvs z48).toArray rfl rfl 37 _ hZ.out HI.out HO.out HDA ?_; rw [HS.out])
  exact bodyPost_ret (v := .tuple #[.agg (bvs z48).toArray, .int .i64 5]) (res_cell_tmp (p := 4) (u := 5) Tryz.results9 _ _ w.heap.size (bvs z48).toArray _ rfl hZ.out HI.out rfl) rfl ⟨rfl, hB.out⟩
set_option maxRecDepth 100000 in
set_option maxHeartbeats 4000000 in
theorem rcut_any (A : Option Addr) (c n : Nat) (b : List UInt8) (p : Nat) (w : World) (hn : b.length = n) (hr : Rd w A b) (hlen : n ≤ 140737488355328) (hp : 48 * p + 48 ≤ n) :
    Calls Tryz.prog 9 #[.slice A n c, .int .i64 (p : Int)] w fun e w' => e = .returned (.tuple #[.agg (bvs ((b.drop (48 * p)).take 48)).toArray, .int .i64 0]) ∧ Below w.heap.size w w' := by
  have HN := hid hn
  have HR := hid hr
  have HL0 := hid hlen
  obtain ⟨HB1, HZ1, HM1, HS1⟩ := box2 w 37 37 z48 z48
  obtain ⟨s, hs⟩ : ∃ s, s = 48 * p := ⟨_, rfl⟩
  obtain ⟨t, ht⟩ : ∃ t, t = s + 48 := ⟨_, rfl⟩
  obtain ⟨u, hu⟩ : ∃ u, u = s + 32 := ⟨_, rfl⟩
  have h1 : ¬ (p : Int) < 0 := by omega
  have h2 : ¬ (p : Int) > (n : Int) := by omega
  have q4 : IntKind.i64.wrap (48 * (p : Int)) = (s : Int) := by rw [IntKind.wrap_i64]; omega
  have q5 : IntKind.i64.wrap ((s : Int) + 48) = (t : Int) := by rw [IntKind.wrap_i64]; omega
  have q6 : IntKind.i64.wrap ((s : Int) + 32) = (u : Int) := by rw [IntKind.wrap_i64]; omega
  have h3 : ¬ (t : Int) > (n : Int) := by omega
  have HS := hid hs
  have HU := hid hu
  have HSN := hid (p := s + 48 ≤ n) (by omega)
  clear hn hr hlen hp hs ht hu
  go_enter Tryz.func9, Tryz.ntmps9
  go_upto_region 7 with fail
  clear h1 h2 h3 q5
  rw [← lit48]
  generalize (w.alloc (.cells (bvs z48).toArray 37)).alloc (.cells (bvs z48).toArray 37) = w1 at *
  have HA := hid (p := Below w.heap.size w w1 ∧ Bt w1 w.heap.size 37 z48 ∧ Bt w1 (w.heap.size + 1) 37 (cto b s 0)) ⟨HB1.out, HZ1.out, HM1.out⟩
  clear HB1 HZ1 HM1 HS1
  go_loopw [7] (fun i wr => ∃ k : Nat, k ≤ 32 ∧ i = .int .i64 k ∧ Hid (Below w.heap.size w wr ∧ Bt wr w.heap.size 37 z48 ∧ Bt wr (w.heap.size + 1) 37 (cto b s (k)))) (fun i _ => 32 - (intOf i).toNat)
  case atStart => exact ⟨0, Nat.zero_le _, rfl, HA⟩
  case round =>
    clear HA
    obtain ⟨k, hk, rfl, HL⟩ := hrel
    by_cases hlt : k < 32
    · have HLT := hid hlt
      have hki : (k : Int) < 32 := by omega
      have hk0 : (0 : Int) ≤ (k : Int) := by omega
      obtain ⟨x, hx⟩ : ∃ x, x = s + k := ⟨_, rfl⟩
      have HXN := hid (p := x < b.length ∧ x = s + (k)) (by have := HSN.out; have := HU.out; rw [HN.out]; omega)
      have q1 : IntKind.i64.wrap ((s : Int) + (k : Int)) = (x : Int) := by have := HXN.out; have := HN.out; have := HL0.out; rw [IntKind.wrap_i64]; omega
      have q2 : (x : Int) < (n : Int) := by have := HXN.out; have := HN.out; omega
      have q3 : (0 : Int) ≤ (x : Int) := by omega
      have hw1 : IntKind.i64.wrap ((k : Int) + 1) = ((k + 1 : Nat) : Int) := by rw [IntKind.wrap_i64]; omega
      obtain ⟨ga, o, rfl, hga, hcell⟩ := (HR.out.below HL.out.1 (Nat.le_refl _)) (by have := HXN.out; omega)
      have hgd : b.getD x 0 = b[x]'HXN.out.1 := by simp [HXN.out.1]
      obtain ⟨y, hy⟩ : ∃ y : Int, y = (((b.getD x 0).toNat : Nat) : Int) := ⟨_, rfl⟩
      have hcl : wr.cell? ⟨ga, o + x, none⟩ = some (.int .u8 y) := by rw [hcell x HXN.out.1, hy, hgd]
      have hfz := HL.out.2.2.frozen (k)
      have hold := HL.out.2.2.cell (k) (by rw [cto_length b s _ (by omega) (by rw [HN.out]; exact HSN.out)]; omega)
      have HNB := hid (HL.out.1.setCell (p := ⟨w.heap.size + 1, k, none⟩) (Nat.le_succ _) (.int .u8 y))
      have HNZ := hid (HL.out.2.1.other (i := k) (.int .u8 y) (show w.heap.size ≠ w.heap.size + 1 by omega))
      have HNM := hid (p := Bt (wr.setCell ⟨w.heap.size + 1, k, none⟩ (.int .u8 y)) (w.heap.size + 1) 37 (cto b s ((k + 1)))) (by
        have h := Bt.set HL.out.2.2 (k) (b.getD x 0)
        rw [← hy, HXN.out.2, cto_set b s (k) (by omega) (by rw [HN.out]; exact HSN.out)] at h
        exact h)
      clear hx hgd hy hcell hga
      go_wp2_with fail
      go_roundw
      case rel => exact ⟨k + 1, HLT.out, by go_num, hid ⟨HNB.out, HNZ.out, HNM.out⟩⟩
      case measure => have := HLT.out; simp [intOf]; omega
    · obtain rfl : k = 32 := by omega
      have HMD := hid (p := Below w.heap.size w wr ∧ Bt wr w.heap.size 37 z48 ∧ Bt wr (w.heap.size + 1) 37 (cto b s (32 + 0))) HL.out
      clear HL
      go_upto_region 11 with fail
      generalize wr = wr0 at *
      go_loopw [8] (fun i wr => ∃ k : Nat, k ≤ 16 ∧ i = .int .i64 k ∧ Hid (Below w.heap.size w wr ∧ Bt wr w.heap.size 37 z48 ∧ Bt wr (w.heap.size + 1) 37 (cto b s (32 + k)))) (fun i _ => 16 - (intOf i).toNat)
      case atStart => exact ⟨0, Nat.zero_le _, rfl, HMD⟩
      case round =>
        clear HMD
        obtain ⟨k, hk, rfl, HL⟩ := hrel
        by_cases hlt : k < 16
        · have HLT := hid hlt
          have hki : (k : Int) < 16 := by omega
          have hk0 : (0 : Int) ≤ (k : Int) := by omega
          obtain ⟨x, hx⟩ : ∃ x, x = u + k := ⟨_, rfl⟩
          have HXN := hid (p := x < b.length ∧ x = s + (32 + k)) (by have := HSN.out; have := HU.out; rw [HN.out]; omega)
          have q1 : IntKind.i64.wrap ((u : Int) + (k : Int)) = (x : Int) := by have := HXN.out; have := HN.out; have := HL0.out; rw [IntKind.wrap_i64]; omega
          have q2 : (x : Int) < (n : Int) := by have := HXN.out; have := HN.out; omega
          have q3 : (0 : Int) ≤ (x : Int) := by omega
          have hw1 : IntKind.i64.wrap ((k : Int) + 1) = ((k + 1 : Nat) : Int) := by rw [IntKind.wrap_i64]; omega
          obtain ⟨ga, o, rfl, hga, hcell⟩ := (HR.out.below HL.out.1 (Nat.le_refl _)) (by have := HXN.out; omega)
          have hgd : b.getD x 0 = b[x]'HXN.out.1 := by simp [HXN.out.1]
          obtain ⟨y, hy⟩ : ∃ y : Int, y = (((b.getD x 0).toNat : Nat) : Int) := ⟨_, rfl⟩
          have hcl : wr.cell? ⟨ga, o + x, none⟩ = some (.int .u8 y) := by rw [hcell x HXN.out.1, hy, hgd]
          have hfz := HL.out.2.2.frozen (32 + k)
          have hold := HL.out.2.2.cell (32 + k) (by rw [cto_length b s _ (by omega) (by rw [HN.out]; exact HSN.out)]; omega)
          have HNB := hid (HL.out.1.setCell (p := ⟨w.heap.size + 1, 32 + k, none⟩) (Nat.le_succ _) (.int .u8 y))
          have HNZ := hid (HL.out.2.1.other (i := 32 + k) (.int .u8 y) (show w.heap.size ≠ w.heap.size + 1 by omega))
          have HNM := hid (p := Bt (wr.setCell ⟨w.heap.size + 1, 32 + k, none⟩ (.int .u8 y)) (w.heap.size + 1) 37 (cto b s (32 + (k + 1)))) (by
            have h := Bt.set HL.out.2.2 (32 + k) (b.getD x 0)
            rw [← hy, HXN.out.2, cto_set b s (32 + k) (by omega) (by rw [HN.out]; exact HSN.out)] at h
            exact h)
          clear hx hgd hy hcell hga
          go_wp2_with fail
          go_roundw
          case rel => exact ⟨k + 1, HLT.out, by go_num, hid ⟨HNB.out, HNZ.out, HNM.out⟩⟩
          case measure => have := HLT.out; simp [intOf]; omega
        · obtain rfl : k = 16 := by omega
          have HLR := hid (p := ((b.drop s).take 48).length = 48) (by rw [List.length_take, List.length_drop, HN.out]; have := HSN.out; omega)
          have HM5 := hid (p := Bt wr (w.heap.size + 1) 37 ((b.drop s).take 48)) (by have := HL.out.2.2; rwa [cto_all] at this)
          have HZ5 := hid HL.out.2.1
          have HB5 := hid HL.out.1
          have HRR := hid (show (b.drop s).take 48 = (b.drop (48 * p)).take 48 by rw [HS.out])
          generalize (b.drop s).take 48 = r at *
          have HI := hi48 r HLR.out
          have HO := hsz z48 r (by rw [HLR.out]; rfl)
          have HDA := bvs_all r
          have HZR := hid (HZ5.out.row (m := r))
          have HBR := hid (p := Below w.heap.size w (wr.setRow w.heap.size (bvs r).toArray)) (below_setRow HB5.out (Nat.le_refl _) _)
          have HZZ := HZ5.out
          have HMM := HM5.out
          unfold Bt at HZZ HMM
          have HZZ := hid HZZ
          have HMM := hid HMM
          go_wp2_with (first | (refine wpList_load_row rfl 37 (.tmp 6) rfl (w.heap.size + 1) rfl 37 (bvs r).toArray (0, 0) _ HMM.out Tryz.underlying37 rfl HI.out ?_) | (refine wpList_store_row rfl 37 (.tmp 4) (.tmp 54) rfl w.heap.size (bvs r).toArray rfl rfl 37 _ HZZ.out HI.out HO.out HDA ?_))
          exact bodyPost_ret (v := .tuple #[.agg (bvs r).toArray, .int .i64 0]) (res_cell_tmp (p := 4) (u := 5) Tryz.results9 _ _ w.heap.size (bvs r).toArray _ rfl HZR.out HI.out rfl) rfl ⟨by rw [HRR.out], HBR.out⟩
end Go.Proofs.YtbloejlebikecaaGreatDoor
