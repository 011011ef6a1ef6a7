/-
  keymats.Cut, walked. Conditions: a slice of 2^47 bytes at most.
-/
import Derived.Test.YtbloejlebikecaaGreatDoorKmb
import Derived.Laws.ResultCell
namespace Go.Proofs.YtbloejlebikecaaGreatDoor
open Go.RowKit
set_option linter.unusedVariables false
set_option linter.unusedSimpArgs false

/-- noughts -/
def z48 : List UInt8 := List.replicate 48 0
theorem z48_length : z48.length = 48 := rfl
theorem lit48 : (bvs z48).toArray = #[.int .u8 0, .int .u8 0, .int .u8 0, .int .u8 0, .int .u8 0, .int .u8 0, .int .u8 0, .int .u8 0, .int .u8 0, .int .u8 0, .int .u8 0, .int .u8 0, .int .u8 0, .int .u8 0, .int .u8 0, .int .u8 0, .int .u8 0, .int .u8 0, .int .u8 0, .int .u8 0, .int .u8 0, .int .u8 0, .int .u8 0, .int .u8 0, .int .u8 0, .int .u8 0, .int .u8 0, .int .u8 0, .int .u8 0, .int .u8 0, .int .u8 0, .int .u8 0, .int .u8 0, .int .u8 0, .int .u8 0, .int .u8 0, .int .u8 0, .int .u8 0, .int .u8 0, .int .u8 0, .int .u8 0, .int .u8 0, .int .u8 0, .int .u8 0, .int .u8 0, .int .u8 0, .int .u8 0, .int .u8 0] := rfl
theorem hi48 (b : List UInt8) (h : b.length = 48) : Hid ((Tryz.prog.info? 37).map (·.size) = some (bvs b).toArray.size) := by rw [bvs_size, h]; exact hid (by kernel_rfl)
theorem ho48 (b : List UInt8) (h : b.length = 48) : Hid ((#[.int .u8 0, .int .u8 0, .int .u8 0, .int .u8 0, .int .u8 0, .int .u8 0, .int .u8 0, .int .u8 0, .int .u8 0, .int .u8 0, .int .u8 0, .int .u8 0, .int .u8 0, .int .u8 0, .int .u8 0, .int .u8 0, .int .u8 0, .int .u8 0, .int .u8 0, .int .u8 0, .int .u8 0, .int .u8 0, .int .u8 0, .int .u8 0, .int .u8 0, .int .u8 0, .int .u8 0, .int .u8 0, .int .u8 0, .int .u8 0, .int .u8 0, .int .u8 0, .int .u8 0, .int .u8 0, .int .u8 0, .int .u8 0, .int .u8 0, .int .u8 0, .int .u8 0, .int .u8 0, .int .u8 0, .int .u8 0, .int .u8 0, .int .u8 0, .int .u8 0, .int .u8 0, .int .u8 0, .int .u8 0] : Array Value).size = (bvs b).toArray.size) := by rw [bvs_size, h]; exact hid rfl
theorem res_cell_tmp {fn : Func} {p u : Tmp} (h : fn.results = #[.cell p 37, .tmp u]) (tmps : Array Value) (w : World) (g : Nat) (cs : Array Value) (v : Value)
    (hp : tmps.getD p undef = .pointer (some ⟨g, 0, none⟩)) (hg : w.heap[g]? = some (.cells cs 37 (0, 0))) (hi : (Tryz.prog.info? 37).map (·.size) = some cs.size)
    (hv : tmps.getD u undef = v) : (results fn tmps).run Tryz.prog w = .ok (.tuple #[.agg cs, v]) w := by
  rw [results_cell_tmp h, hp, hv]
  have hl := run_loadVar_row w g 37 37 cs (0, 0) _ hg Tryz.underlying37 rfl hi
  simp [asAddr, hl, Result.andThen]
theorem sl16 (g o : Nat) (w : World) : (Instr.sliceAt 35 (.pointer (some ⟨g, o, none⟩)) none none none).run Tryz.prog w = .ok (.slice (some ⟨g, o, none⟩) 16 16) w := by
  have hl : Tryz.prog.arrayLen 35 = 16 := by kernel_rfl
  have h5 : Tryz.prog.elem 35 = 5 := by kernel_rfl
  rw [run_sliceAt_array_all (P := Tryz.prog) w 35 ⟨g, o, none⟩ (by rw [hl, h5]; exact Tryz.underlying35)]
  have hs : (sizeOf 5).run Tryz.prog w = .ok 1 w := by kernel_rfl
  rw [h5, hs, hl]
  simp [Result.andThen, slicedAt, Addr.add]
theorem rd_sub {w : World} {A : Option Addr} {b : List UInt8} (h : Rd w A b) (f k m : Nat) (hm : f + k ≤ m) : Rd w (past A f m) ((b.drop f).take k) := by
  rcases Nat.eq_zero_or_pos k with rfl | hk
  · rw [List.take_zero]; exact Rd.nil _ _
  · refine (h.cut f (past A f m) (fun ad e _ => ?_)).take k
    unfold past
    rw [if_neg (by omega), e]; rfl
theorem two_cut (b : List UInt8) (f : Nat) (h : f + 48 ≤ b.length) : z48.take 0 ++ ((b.drop f).take 32).take 32 ++ z48.drop (0 + 32) = (b.drop f).take 32 ++ List.replicate 16 0 := by
  unfold z48; rw [List.take_zero, List.nil_append, List.take_take, List.drop_replicate]; rfl
theorem two_cut2 (b : List UInt8) (f : Nat) (h : f + 48 ≤ b.length) : ((b.drop f).take 32 ++ List.replicate 16 (0 : UInt8)).take 32 ++ ((b.drop (f + 32)).take 16).take 16 ++ ((b.drop f).take 32 ++ List.replicate 16 (0 : UInt8)).drop (32 + 16) = (b.drop f).take 48 := by
  have hl : ((b.drop f).take 32).length = 32 := by rw [List.length_take, List.length_drop]; omega
  rw [List.take_append_of_le_length (by omega), List.take_take, List.take_take, List.drop_of_length_le (l := (b.drop f).take 32 ++ List.replicate 16 0) (by rw [List.length_append, hl, List.length_replicate]; omega), List.append_nil, show (48 : Nat) = 32 + 16 from rfl, List.take_add, List.drop_drop]
  simp
set_option maxRecDepth 100000 in
theorem kcut_neg (A : Option Addr) (c n : Nat) (p : Int) (w : World) (hp : p < 0) :
    Calls Tryz.prog 8 #[.slice A n c, .int .i64 p] w fun e w' => e = .returned (.tuple #[.agg (bvs z48).toArray, .int .i64 1]) ∧ Below w.heap.size w w' := by
  have hZ := hid (heap_alloc_new w (.cells (bvs z48).toArray 37))
  have hB := hid ((Below.refl w.heap.size w).alloc (Nat.le_refl _) (.cells (bvs z48).toArray 37))
  have HI := hi48 z48 rfl
  have HS := hid (p := ((w.alloc (.cells (bvs z48).toArray 37)).setRow w.heap.size (bvs z48).toArray) = w.alloc (.cells (bvs z48).toArray 37)) (by rw [World.setRow_alloc_new])
  go_enter Tryz.func8, Tryz.ntmps8
  go_upto_region 2 with fail
  rw [← lit48]
  generalize w.alloc (.cells (bvs z48).toArray 37) = w1 at *
  have HO := hsz z48 z48 rfl
  have HDA := bvs_all z48
  go_wp2_with (first | (refine wpList_store_row rfl 37 (.tmp 4) (.tmp 12) rfl w.heap.size (bvs z48).toArray rfl rfl 37 _ hZ.out HI.out HO.out HDA ?_; rw [HS.out]) | (refine wpList_store_row rfl 37 (.tmp 4) (.tmp 12) rfl w.heap.size (bvs z48).toArray rfl rfl 37 _ hZ.out HI.out HO.out HDA ?_; rw [HS.out]))
  exact bodyPost_ret (v := .tuple #[.agg (bvs z48).toArray, .int .i64 1]) (res_cell_tmp (p := 4) (u := 5) Tryz.results8 _ _ w.heap.size (bvs z48).toArray _ rfl hZ.out HI.out rfl) rfl ⟨rfl, hB.out⟩
set_option maxRecDepth 100000 in
theorem kcut_short (A : Option Addr) (c n : Nat) (p : Int) (w : World) (h0 : ¬ p < 0) (hlen : n ≤ 140737488355328) (hp : ((n / 48 : Nat) : Int) ≤ p) :
    Calls Tryz.prog 8 #[.slice A n c, .int .i64 p] w fun e w' => e = .returned (.tuple #[.agg (bvs z48).toArray, .int .i64 5]) ∧ Below w.heap.size w w' := by
  have hZ := hid (heap_alloc_new w (.cells (bvs z48).toArray 37))
  have hB := hid ((Below.refl w.heap.size w).alloc (Nat.le_refl _) (.cells (bvs z48).toArray 37))
  obtain ⟨q, hq⟩ : ∃ q, q = n / 48 := ⟨_, rfl⟩
  have h2 : Int.tdiv (n : Int) 48 = (q : Int) := by rw [Int.tdiv_eq_ediv_of_nonneg (by omega)]; omega
  have h2b : (n : Int) / 48 = (q : Int) := by omega
  have h2c : IntKind.i64.wrap (q : Int) = (q : Int) := by rw [IntKind.wrap_i64]; omega
  have h2d : p ≥ (q : Int) := by omega
  clear hq hp
  have HI := hi48 z48 rfl
  have HS := hid (p := ((w.alloc (.cells (bvs z48).toArray 37)).setRow w.heap.size (bvs z48).toArray) = w.alloc (.cells (bvs z48).toArray 37)) (by rw [World.setRow_alloc_new])
  go_enter Tryz.func8, Tryz.ntmps8
  go_upto_region 4 with fail
  rw [← lit48]
  generalize w.alloc (.cells (bvs z48).toArray 37) = w1 at *
  have HO := hsz z48 z48 rfl
  have HDA := bvs_all z48
  go_wp2_with (first | (refine wpList_store_row rfl 37 (.tmp 4) (.tmp 18) rfl w.heap.size (bvs z48).toArray rfl rfl 37 _ hZ.out HI.out HO.out HDA ?_; rw [HS.out]) | (refine wpList_store_row rfl 37 (.tmp 4) (.tmp 18) rfl w.heap.size (bvs z48).toArray rfl rfl 37 _ hZ.out HI.out HO.out HDA ?_; rw [HS.out]))
  exact bodyPost_ret (v := .tuple #[.agg (bvs z48).toArray, .int .i64 5]) (res_cell_tmp (p := 4) (u := 5) Tryz.results8 _ _ w.heap.size (bvs z48).toArray _ rfl hZ.out HI.out rfl) rfl ⟨rfl, hB.out⟩
set_option maxRecDepth 100000 in
set_option maxHeartbeats 4000000 in
theorem kcut_any (A : Option Addr) (c n : Nat) (b : List UInt8) (p : Nat) (w : World) (hn : b.length = n) (hr : Rd w A b) (hc : n ≤ c) (hlen : n ≤ 140737488355328) (hp : 48 * p + 48 ≤ n) :
    Calls Tryz.prog 8 #[.slice A n c, .int .i64 (p : Int)] w fun e w' => e = .returned (.tuple #[.agg (bvs ((b.drop (48 * p)).take 48)).toArray, .int .i64 0]) ∧ Below w.heap.size w w' := by
  have HN := hid hn
  have HR := hid hr
  have HC := hid hc
  have HP := hid hp
  have HL := hid hlen
  obtain ⟨HB1, HZ1, HM1, HS1⟩ := box2 w 37 37 z48 z48
  obtain ⟨f, hf⟩ : ∃ f, f = 48 * p := ⟨_, rfl⟩
  have h1 : ¬ (p : Int) < 0 := by omega
  obtain ⟨q, hq⟩ : ∃ q, q = n / 48 := ⟨_, rfl⟩
  have h2 : Int.tdiv (n : Int) 48 = (q : Int) := by rw [Int.tdiv_eq_ediv_of_nonneg (by omega)]; omega
  have h2b : (n : Int) / 48 = (q : Int) := by omega
  have h2c : IntKind.i64.wrap (q : Int) = (q : Int) := by rw [IntKind.wrap_i64]; omega
  have h2d : ¬ (p : Int) ≥ (q : Int) := by omega
  clear hq
  have hw1 : IntKind.i64.wrap ((p : Int) * 48) = (f : Int) := by rw [IntKind.wrap_i64]; omega
  obtain ⟨t, ht⟩ : ∃ t, t = f + 32 := ⟨_, rfl⟩
  obtain ⟨u, hu⟩ : ∃ u, u = f + 48 := ⟨_, rfl⟩
  have hw2 : IntKind.i64.wrap ((f : Int) + 32) = (t : Int) := by rw [IntKind.wrap_i64]; omega
  have hw3 : IntKind.i64.wrap ((f : Int) + 48) = (u : Int) := by rw [IntKind.wrap_i64]; omega
  have HT := hid ht
  have HU := hid hu
  have HF := hid hf
  have HFN := hid (p := f + 48 ≤ n) (by omega)
  clear hn hr hc hp hlen hf ht hu
  go_enter Tryz.func8, Tryz.ntmps8
  go_upto_region 8 with fail
  clear h1 h2 h2b h2c h2d hw1 hw2 hw3
  rw [← lit48]
  generalize (w.alloc (.cells (bvs z48).toArray 37)).alloc (.cells (bvs z48).toArray 37) = w1 at *
  have hs1 := sl32 (w.heap.size + 1)
  have hs2 := slice_lhm A n c f t t (by have := HT.out; omega) (Nat.le_refl _) (by have := HFN.out; have := HC.out; have := HT.out; omega)
  rw [show t - f = 32 by have := HT.out; omega] at hs2
  go_still_tail 7, (by kernel_rfl)
  change wpList _ _ _ _ _ w1.drew
  have HB2 := hid (p := Below w.heap.size w w1.drew) HB1.out.drew
  have HZ2 := hid (p := Bt w1.drew w.heap.size 37 z48) HZ1.out
  have HM2 := hid (p := Bt w1.drew (w.heap.size + 1) 37 z48) HM1.out
  clear HB1 HZ1 HM1 hs1 hs2
  generalize w1.drew = w2 at *
  obtain ⟨w3, hrun, hbt, hgr⟩ := run_copy_at w2 (w.heap.size + 1) 37 z48 ((b.drop f).take 32) (past A f t) 0 32 32 32 32 32 HM2.out (rd_sub (HR.out.below HB2.out (Nat.le_refl _)) f 32 t (by have := HT.out; omega)) (by rw [List.length_take, List.length_drop, HN.out]; have := HFN.out; omega) rfl (by decide) (by decide)
  rw [two_cut b f (by rw [HN.out]; exact HFN.out)] at hbt
  have HB3 := hid (below_grown HB2.out hgr (Nat.le_succ _) HB2.out.size)
  have HZ3 := hid (p := Bt w3 w.heap.size 37 z48) ((hgr.block _ HZ2.out.lt (by intro e; injection e with e; omega)).trans HZ2.out)
  have HM3 := hid hbt
  clear HB2 HZ2 HM2 hbt hgr
  go_upto_region 9 with fail
  clear hrun
  have hs1 := sl16 (w.heap.size + 1) 32
  have hs2 := slice_lhm A n c t u u (by have := HT.out; have := HU.out; omega) (Nat.le_refl _) (by have := HFN.out; have := HC.out; have := HU.out; omega)
  rw [show u - t = 16 by have := HT.out; have := HU.out; omega] at hs2
  go_still_tail 7, (by kernel_rfl)
  change wpList _ _ _ _ _ w3.drew
  have HB4 := hid (p := Below w.heap.size w w3.drew) HB3.out.drew
  have HZ4 := hid (p := Bt w3.drew w.heap.size 37 z48) HZ3.out
  have HM4 := hid (p := Bt w3.drew (w.heap.size + 1) 37 ((b.drop f).take 32 ++ List.replicate 16 0)) HM3.out
  clear HB3 HZ3 HM3 hs1 hs2
  generalize w3.drew = w4 at *
  obtain ⟨w5, hrun, hbt, hgr⟩ := run_copy_at w4 (w.heap.size + 1) 37 ((b.drop f).take 32 ++ List.replicate 16 0) ((b.drop t).take 16) (past A t u) 32 16 16 16 16 16 HM4.out (rd_sub (HR.out.below HB4.out (Nat.le_refl _)) t 16 u (by have := HT.out; have := HU.out; omega)) (by rw [List.length_take, List.length_drop, HN.out]; have := HFN.out; have := HT.out; omega) rfl (by decide) (by simp; rw [HN.out]; have := HFN.out; omega)
  rw [HT.out, two_cut2 b f (by rw [HN.out]; exact HFN.out)] at hbt
  have HB5 := hid (below_grown HB4.out hgr (Nat.le_succ _) HB4.out.size)
  have HZ5 := hid (p := Bt w5 w.heap.size 37 z48) ((hgr.block _ HZ4.out.lt (by intro e; injection e with e; omega)).trans HZ4.out)
  have HM5 := hid hbt
  clear HB4 HZ4 HM4 hbt hgr
  have HLR := hid (p := ((b.drop f).take 48).length = 48) (by rw [List.length_take, List.length_drop, HN.out]; have := HFN.out; omega)
  have HRR := hid (show (b.drop f).take 48 = (b.drop (48 * p)).take 48 by rw [HF.out])
  generalize (b.drop f).take 48 = r at *
  have HI := hi48 r HLR.out
  have HO := hsz z48 r (by rw [HLR.out]; rfl)
  have HDA := bvs_all r
  have HZR := hid (HZ5.out.row (m := r))
  have HBR := hid (p := Below w.heap.size w (w5.setRow w.heap.size (bvs r).toArray)) (below_setRow HB5.out (Nat.le_refl _) _)
  have HZZ := HZ5.out
  have HMM := HM5.out
  unfold Bt at HZZ HMM
  have HZZ := hid HZZ
  have HMM := hid HMM
  go_upto_region 10 with fail
  clear hrun
  go_wp2_with (first | (refine wpList_load_row rfl 37 (.tmp 9) rfl (w.heap.size + 1) rfl 37 (bvs r).toArray (0, 0) _ HMM.out Tryz.underlying37 rfl HI.out ?_) | (refine wpList_store_row rfl 37 (.tmp 4) (.tmp 41) rfl w.heap.size (bvs r).toArray rfl rfl 37 _ HZZ.out HI.out HO.out HDA ?_))
  exact bodyPost_ret (v := .tuple #[.agg (bvs r).toArray, .int .i64 0]) (res_cell_tmp (p := 4) (u := 5) Tryz.results8 _ _ w.heap.size (bvs r).toArray _ rfl HZR.out HI.out rfl) rfl ⟨by rw [HRR.out], HBR.out⟩
end Go.Proofs.YtbloejlebikecaaGreatDoor
