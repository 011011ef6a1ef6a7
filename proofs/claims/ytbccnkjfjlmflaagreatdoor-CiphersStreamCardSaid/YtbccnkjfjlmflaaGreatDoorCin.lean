/-
  ciphers.Stream, walked. Conditions: 2^46 bytes at most.
-/
import Derived.Test.YtbccnkjfjlmflaaGreatDoorCim
import Derived.Test.YtbccnkjfjlmflaaGreatDoorCig
import Derived.Test.YtbccnkjfjlmflaaGreatDoorSame
namespace Go.Proofs.YtbccnkjfjlmflaaGreatDoor
open Go.RowKit
set_option linter.unusedVariables false
set_option linter.unusedSimpArgs false

/-- the block that a stream is against at byte k, and the number behind it -/
def sw (key first : List UInt8) (k : Nat) : List UInt8 := if k = 0 then List.replicate 16 0 else enc key (nth16 first ((k - 1) / 16))
def sf (first : List UInt8) (k : Nat) : List UInt8 := nth16 first ((k + 15) / 16)
theorem sw_length (key first : List UInt8) (k : Nat) : (sw key first k).length = 16 := by
  unfold sw
  split
  · simp
  · exact enc_length _ _
theorem sf_length (first : List UInt8) (k : Nat) (h : first.length = 16) : (sf first k).length = 16 := by rw [sf, nth16_length, h]
theorem sw_in (key first : List UInt8) (k : Nat) (h : k % 16 = 0) : enc key (sf first k) = sw key first (k + 1) := by
  unfold sf sw
  rw [if_neg (by omega), show (k + 15) / 16 = (k + 1 - 1) / 16 by omega]
theorem sf_in (first : List UInt8) (k : Nat) (h : k % 16 = 0) : nxt (sf first k) = sf first (k + 1) := by
  unfold sf
  rw [show (k + 1 + 15) / 16 = (k + 15) / 16 + 1 by omega]; rfl
theorem sw_on (key first : List UInt8) (k : Nat) (h : ¬ k % 16 = 0) : sw key first k = sw key first (k + 1) := by
  unfold sw
  rw [if_neg (by omega), if_neg (by omega), show (k - 1) / 16 = (k + 1 - 1) / 16 by omega]
theorem sf_on (first : List UInt8) (k : Nat) (h : ¬ k % 16 = 0) : sf first k = sf first (k + 1) := by
  unfold sf
  rw [show (k + 15) / 16 = (k + 1 + 15) / 16 by omega]
theorem sw_ks (key first : List UInt8) (k : Nat) : gb (sw key first (k + 1)) (k % 16) = ks key first k := by
  unfold sw ks
  rw [if_neg (by omega)]; rfl
set_option maxRecDepth 100000 in
set_option maxHeartbeats 4000000 in
theorem stream_any (key first : List UInt8) (A : Option Addr) (c : Nat) (b : List UInt8) (n : Nat) (w : World) (hk : key.length = 16) (hf : first.length = 16) (hn : b.length = n) (hr : Rd w A b) (hl : n ≤ 70368744177664) :
    Calls Tryz.prog 6 #[.agg (bvs key).toArray, .agg (bvs first).toArray, .slice A n c] w fun e w' => ∃ g, e = .returned (.slice (some ⟨g, 0, none⟩) n n) ∧ Hid (Bt w' g 5 (strm key first b) ∧ w.heap.size ≤ g ∧ Below w.heap.size w w') := by
  have HKE := hid hk
  have HFI := hid hf
  have HN := hid hn
  have HR := hid hr
  have HLN := hid hl
  clear hk hf hn hr hl
  have B1 := hid (bx2 w 22 22 key first)
  go_enter Tryz.func6, Tryz.ntmps6
  go_upto_region 1 with fail
  generalize (w.alloc (.cells (bvs key).toArray 22)).alloc (.cells (bvs first).toArray 22) = w1 at *
  go_wp2_with fail
  refine (substitutes_any w1).mono ?_
  rintro e w2 ⟨rfl, hb2⟩
  have B2 := hid (B1.out.on hb2)
  clear hb2 B1
  have B3 := hid (p := Bx w ((w2.heap.size, 49, List.replicate 256 0) :: [(w.heap.size + 1, 22, first), (w.heap.size, 22, key)]) (w2.alloc (.cells Tryz.zeroCells49 49))) (by rw [z256E]; exact B2.out.add 49 (List.replicate 256 0))
  have hst := st_all (B3.out.bt 0 rfl) 49 SB 256 rfl (by simp) tb256
  have B4 := hid (p := Bx w ((w2.heap.size, 49, SB) :: [(w.heap.size + 1, 22, first), (w.heap.size, 22, key)]) ((w2.alloc (.cells Tryz.zeroCells49 49)).setRow w2.heap.size (bvs SB).toArray)) (B3.out.row 0 rfl SB)
  clear B2 B3
  go_upto_region 2 with (((with_reducible refine isS 49 (.tmp 7) (.tmp 12) rfl ?_); refine wp_st (by kernel_rfl) 49 (.tmp 7) (.tmp 12) rfl _ _ rfl rfl hst ?_))
  clear hst
  generalize hg7 : w2.heap.size = g7 at *
  clear hg7
  generalize (w2.alloc (.cells Tryz.zeroCells49 49)).setRow g7 (bvs SB).toArray = w3 at *
  have hld := ld_all (B4.out.bt 2 rfl) 22 _ Tryz.underlying22 rfl 16 HKE.out row16
  go_wp2_with (((with_reducible refine isD 13 rfl ?_); refine wp_ld (by kernel_rfl) 22 (.tmp 3) rfl _ rfl _ hld ?_))
  refine (spread_any g7 key w3 (B4.out.bt 0 rfl) HKE.out).mono ?_
  rintro e w4 ⟨rfl, hb4⟩
  have B5 := hid (B4.out.on hb4)
  clear hb4 B4 hld
  have HWL := hid (wk_length key HKE.out 10 (by decide))
  have B6 := hid (p := Bx w ((w4.heap.size, 53, List.replicate 176 0) :: (g7, 49, SB) :: [(w.heap.size + 1, 22, first), (w.heap.size, 22, key)]) (w4.alloc (.cells Tryz.zeroCells53 53))) (by rw [z176E]; exact B5.out.add 53 (List.replicate 176 0))
  have hst := st_all (B6.out.bt 0 rfl) 53 (wk key 10) 176 HWL.out (by simp) wd176
  have B7 := hid (p := Bx w ((w4.heap.size, 53, wk key 10) :: (g7, 49, SB) :: [(w.heap.size + 1, 22, first), (w.heap.size, 22, key)]) ((w4.alloc (.cells Tryz.zeroCells53 53)).setRow w4.heap.size (bvs (wk key 10)).toArray)) (B6.out.row 0 rfl (wk key 10))
  clear B5 B6
  go_upto_region 3 with (((with_reducible refine isS 53 (.tmp 8) (.tmp 14) rfl ?_); refine wp_st (by kernel_rfl) 53 (.tmp 8) (.tmp 14) rfl _ _ rfl rfl hst ?_))
  clear hst
  generalize hg8 : w4.heap.size = g8 at *
  clear hg8
  generalize (w4.alloc (.cells Tryz.zeroCells53 53)).setRow g8 (bvs (wk key 10)).toArray = w5 at *
  have hmk := run_make_bytes w5 n (by have := HLN.out; omega)
  have B8 := hid (p := Bx w ((w5.heap.size, 5, List.replicate n 0) :: (g8, 53, wk key 10) :: (g7, 49, SB) :: [(w.heap.size + 1, 22, first), (w.heap.size, 22, key)]) (w5.alloc (.cells (bvs (List.replicate n 0)).toArray 5))) (B7.out.add 5 (List.replicate n 0))
  clear B7
  go_upto_region 4 with fail
  clear hmk
  generalize hgl : w5.heap.size = gl at *
  clear hgl
  generalize w5.alloc (.cells (bvs (List.replicate n 0)).toArray 5) = w6 at *
  have B9 := hid (p := Bx w ((w6.heap.size, 51, List.replicate 16 0) :: (gl, 5, List.replicate n 0) :: (g8, 53, wk key 10) :: (g7, 49, SB) :: [(w.heap.size + 1, 22, first), (w.heap.size, 22, key)]) (w6.alloc (.cells (bvs (List.replicate 16 0)).toArray 51))) (B8.out.add 51 (List.replicate 16 0))
  clear B8
  go_upto_region 5 with fail
  rw [← z16]
  generalize hgw : w6.heap.size = gw at *
  clear hgw
  generalize w6.alloc (.cells (bvs (List.replicate 16 0)).toArray 51) = w7 at *
  have BS := hid (p := Bx w [(gw, 51, sw key first 0), (gl, 5, upto n (fun i => gb b i ^^^ ks key first i) (List.replicate n 0) 0), (g8, 53, wk key 10), (g7, 49, SB), (w.heap.size + 1, 22, sf first 0), (w.heap.size, 22, key)] w7) (by rw [upto_none _ _ _ (by simp)]; exact B9.out)
  clear B9
  go_wp2_with fail
  go_loopw [20] (fun i wr => ∃ k : Nat, k ≤ n ∧ i = .int .i64 k ∧ Hid (Bx w [(gw, 51, sw key first k), (gl, 5, upto n (fun i => gb b i ^^^ ks key first i) (List.replicate n 0) k), (g8, 53, wk key 10), (g7, 49, SB), (w.heap.size + 1, 22, sf first k), (w.heap.size, 22, key)] wr)) (fun i _ => n - (intOf i).toNat)
  case atStart => exact ⟨0, Nat.zero_le _, rfl, BS⟩
  case round =>
    clear BS
    obtain ⟨k, hk, rfl, BJ⟩ := hrel
    by_cases hlt : k < n
    · have HK := hid hlt
      obtain ⟨ga, o, rfl, hga, hcell⟩ := HR.out (by have := HN.out; omega)
      have HCB := hid (p := ∀ W, Below w.heap.size w W → W.cell? ⟨ga, o + k, none⟩ = some (bv (gb b k))) (fun W hW => by
        have hkb : k < b.length := by have := HN.out; omega
        rw [gb_lt hkb]
        exact (hW.cell (p := ⟨ga, o + k, none⟩) hga).trans (hcell k hkb))
      clear hcell hga
      have hki0 : (k : Int) < (n : Int) := by omega
      have HSF := hid (sf_length first k HFI.out)
      have HW := hid (p := k % 16 = 0 → encw (wk key 10) (sf first k) = sw key first (k + 1)) (fun h => by rw [wk_all key HKE.out, ← sw_in key first k h]; rfl)
      have HF := hid (p := k % 16 = 0 → nxt (sf first k) = sf first (k + 1)) (sf_in first k)
      by_cases h16 : k % 16 = 0
      · have HW := hid (HW.out h16)
        have HF := hid (HF.out h16)
        have h16i : (k : Int) % 16 = 0 := by omega
        go_upto_region 9 with fail
        clear h16i
        refine wp_region_noPanic ?_
        refine Goes.region (SBx w [(gw, 51, sw key first k), (gl, 5, upto n (fun i => gb b i ^^^ ks key first i) (List.replicate n 0) k), (g8, 53, wk key 10), (g7, 49, SB), (w.heap.size + 1, 22, sf first k), (w.heap.size, 22, key)] [2, 4]) (by as_aux_lemma => kernel_rfl) ?_
        have BJ := hid (BJ.out.drew)
        refine Goes.take (i := 0) (o := ⟨some 26, _, _, _, _, _⟩) [2] rfl (by as_aux_lemma => kernel_rfl) (by as_aux_lemma => kernel_rfl) (by as_aux_lemma => kernel_rfl) (fun _ _ _ h => h) (by as_aux_lemma => kernel_rfl) (fun L u h => SBx.quiet (by decide) h) (Or.inl ⟨by rfl, fun u hY => y_ld _ _ rfl _ _ rfl (have hX := SBx.yet hY (by decide); ld_all (hX.bt 4 rfl) 22 _ Tryz.underlying22 rfl 16 HSF.out row16)⟩) (SBx.of BJ.out) ?_
        try simp only [putz]
        refine Goes.take (i := 1) (o := ⟨some 27, _, _, _, _, _⟩) [2] rfl (by as_aux_lemma => kernel_rfl) (by as_aux_lemma => kernel_rfl) (by as_aux_lemma => kernel_rfl) (fun _ _ _ h => h) (by as_aux_lemma => kernel_rfl) (fun L u h => SBx.quiet (by decide) h) (Or.inl ⟨by rfl, fun u hY => y_ld _ _ rfl _ _ rfl (have hX := SBx.yet hY (by decide); ld_all (hX.bt 2 rfl) 53 _ Tryz.underlying53 rfl 176 HWL.out wd176)⟩) (SBx.of BJ.out) ?_
        try simp only [putz]
        refine Goes.take (i := 3) (o := ⟨some 29, _, _, _, _, _⟩) [4] rfl (by as_aux_lemma => kernel_rfl) (by as_aux_lemma => kernel_rfl) (by as_aux_lemma => kernel_rfl) (fun _ _ _ h => h) (by as_aux_lemma => kernel_rfl) (fun L u h => SBx.quiet (by decide) h) (Or.inl ⟨by rfl, fun u hY => y_ld _ _ rfl _ _ rfl (have hX := SBx.yet hY (by decide); ld_all (hX.bt 4 rfl) 22 _ Tryz.underlying22 rfl 16 HSF.out row16)⟩) (SBx.of BJ.out) ?_
        try simp only [putz]
        refine Goes.one (i := 2) (o := ⟨some 28, _, _, _, _, _⟩) (by as_aux_lemma => kernel_rfl) rfl (fun K hK => ?_)
        go_simp
        with_reducible refine (in_any g7 (sf first k) (wk key 10) _ (BJ.out.bt 3 rfl) HSF.out HWL.out).mono ?_
        rintro e wa ⟨rfl, hba⟩
        have BJ := hid (BJ.out.on hba)
        clear hba
        rw [HW.out]
        go_wp2_with fail
        refine hK.out _ _ (SBx.of BJ.out) ?_
        clear hK K
        try simp only [putz]
        refine Goes.one (i := 4) (o := ⟨some 30, _, _, _, _, _⟩) (by as_aux_lemma => kernel_rfl) rfl (fun K hK => ?_)
        go_simp
        with_reducible refine (risen_any (sf first k) _ HSF.out).mono ?_
        rintro e wb ⟨rfl, hba⟩
        have BJ := hid (BJ.out.on hba)
        clear hba
        rw [HF.out]
        go_wp2_with fail
        refine hK.out _ _ (SBx.of BJ.out) ?_
        clear hK K
        try simp only [putz]
        refine Goes.one (i := 5) (o := ⟨none, _, _, _, _, _⟩) (by as_aux_lemma => kernel_rfl) rfl (fun K hK => ?_)
        have hst := st_all (BJ.out.bt 0 rfl) 51 (sw key first (k + 1)) 16 (sw_length _ _ _) (sw_length _ _ _) st16
        have BA := hid (p := Bx w [(gw, 51, sw key first (k + 1)), (gl, 5, upto n (fun i => gb b i ^^^ ks key first i) (List.replicate n 0) k), (g8, 53, wk key 10), (g7, 49, SB), (w.heap.size + 1, 22, sf first k), (w.heap.size, 22, key)] _) (BJ.out.row 0 rfl (sw key first (k + 1)))
        refine step_st (by kernel_rfl) 51 (.tmp 10) (.tmp 28) rfl _ _ rfl rfl hst ?_
        clear hst BJ
        refine hK.out _ _ (SBx.off (by decide)) ?_
        clear hK K
        try simp only [putz]
        refine Goes.one (i := 6) (o := ⟨none, _, _, _, _, _⟩) (by as_aux_lemma => kernel_rfl) rfl (fun K hK => ?_)
        have hst := st_all (BA.out.bt 4 rfl) 22 (sf first (k + 1)) 16 (sf_length _ _ HFI.out) HSF.out row16
        have BK := hid (p := Bx w [(gw, 51, sw key first (k + 1)), (gl, 5, upto n (fun i => gb b i ^^^ ks key first i) (List.replicate n 0) k), (g8, 53, wk key 10), (g7, 49, SB), (w.heap.size + 1, 22, sf first (k + 1)), (w.heap.size, 22, key)] _) (BA.out.row 4 rfl (sf first (k + 1)))
        refine step_st (by kernel_rfl) 22 (.tmp 4) (.tmp 30) rfl _ _ rfl rfl hst ?_
        clear hst BA
        refine hK.out _ _ (SBx.off (by decide)) ?_
        clear hK K
        try simp only [putz]
        refine Goes.done (by as_aux_lemma => kernel_rfl) ?_ _
        refine NoPanic.normal ?_
        clear h16
        generalize (wb.setRow gw (bvs (sw key first (k + 1))).toArray).setRow (w.heap.size + 1) (bvs (sf first (k + 1))).toArray = w8 at *
        go_upto_region 10 with fail
        have hlw := sw_ks key first k
        have HLW := hid hlw
        clear hlw
        have hx := xor_u8 (gb b k) (ks key first k)
        have BN := hid (BK.out.drew.set 1 rfl k (gb b k ^^^ ks key first k))
        rw [upto_set n (fun i => gb b i ^^^ ks key first i)] at BN
        have BN2 := hid (p := Bx w [(gw, 51, sw key first (k + 1)), (gl, 5, upto n (fun i => gb b i ^^^ ks key first i) (List.replicate n 0) (k + 1)), (g8, 53, wk key 10), (g7, 49, SB), (w.heap.size + 1, 22, sf first (k + 1)), (w.heap.size, 22, key)] _) BN.out
        clear BN
        generalize gb b k ^^^ ks key first k = y at *
        have hki : Int.tmod (k : Int) 16 = ((k % 16 : Nat) : Int) := by rw [Int.tmod_eq_emod_of_nonneg (by omega)]; omega
        have hki2 : (k : Int) % 16 = ((k % 16 : Nat) : Int) := by omega
        have hk16 : k % 16 < 16 := Nat.mod_lt _ (by decide)
        have hw1 : IntKind.i64.wrap ((k : Int) + 1) = ((k + 1 : Nat) : Int) := by have := HK.out; have := HLN.out; rw [IntKind.wrap_i64]; omega
        generalize k % 16 = r at *
        have hri : (r : Int) < 16 := by omega
        have hr0 : (0 : Int) ≤ (r : Int) := by omega
        have hk0 : (0 : Int) ≤ (k : Int) := by omega
        refine wp_region_noPanic ?_
        refine Goes.region (SBx w [(gw, 51, sw key first (k + 1)), (gl, 5, upto n (fun i => gb b i ^^^ ks key first i) (List.replicate n 0) k), (g8, 53, wk key 10), (g7, 49, SB), (w.heap.size + 1, 22, sf first (k + 1)), (w.heap.size, 22, key)] [12]) (by as_aux_lemma => kernel_rfl) ?_
        have BK := hid (BK.out.drew)
        refine Goes.take (i := 0) (o := ⟨some 31, _, _, _, _, _⟩) (v := ?_) [] rfl (by as_aux_lemma => kernel_rfl) (by as_aux_lemma => kernel_rfl) (by as_aux_lemma => kernel_rfl) (fun _ _ _ h => h) (by as_aux_lemma => kernel_rfl) (fun L u h => SBx.quiet (by decide) h) (Or.inl ⟨by rfl, ?_⟩) (SBx.of BK.out) ?_
        rotate_left
        · intro u hY; go_simp; try with_reducible rfl
        try simp only [putz]
        refine Goes.take (i := 1) (o := ⟨some 32, _, _, _, _, _⟩) (v := ?_) [] rfl (by as_aux_lemma => kernel_rfl) (by as_aux_lemma => kernel_rfl) (by as_aux_lemma => kernel_rfl) (fun _ _ _ h => h) (by as_aux_lemma => kernel_rfl) (fun L u h => SBx.quiet (by decide) h) (Or.inl ⟨by rfl, ?_⟩) (SBx.of BK.out) ?_
        rotate_left
        · intro u hY; go_simp; try with_reducible rfl
        try simp only [putz]
        refine Goes.take (i := 2) (o := ⟨some 33, _, _, _, _, _⟩) (v := ?_) [] rfl (by as_aux_lemma => kernel_rfl) (by as_aux_lemma => kernel_rfl) (by as_aux_lemma => kernel_rfl) (fun _ _ _ h => h) (by as_aux_lemma => kernel_rfl) (fun L u h => SBx.quiet (by decide) h) (Or.inl ⟨by rfl, ?_⟩) (SBx.of BK.out) ?_
        rotate_left
        · intro u hY; go_simp; try with_reducible rfl
        try simp only [putz]
        refine Goes.take (i := 3) (o := ⟨some 34, _, _, _, _, _⟩) (v := ?_) [] rfl (by as_aux_lemma => kernel_rfl) (by as_aux_lemma => kernel_rfl) (by as_aux_lemma => kernel_rfl) (fun _ _ _ h => h) (by as_aux_lemma => kernel_rfl) (fun L u h => SBx.quiet (by decide) h) (Or.inl ⟨by rfl, ?_⟩) (SBx.of BK.out) ?_
        rotate_left
        · intro u hY; go_simp; try with_reducible rfl
        try simp only [putz]
        refine Goes.take (i := 4) (o := ⟨some 35, _, _, _, _, _⟩) (v := ?_) [] rfl (by as_aux_lemma => kernel_rfl) (by as_aux_lemma => kernel_rfl) (by as_aux_lemma => kernel_rfl) (fun _ _ _ h => h) (by as_aux_lemma => kernel_rfl) (fun L u h => SBx.quiet (by decide) h) (Or.inl ⟨by rfl, ?_⟩) (SBx.of BK.out) ?_
        rotate_left
        · intro u hY; go_simp; try with_reducible rfl
        try simp only [putz]
        refine Goes.take (i := 5) (o := ⟨some 36, _, _, _, _, _⟩) (v := ?_) [12] rfl (by as_aux_lemma => kernel_rfl) (by as_aux_lemma => kernel_rfl) (by as_aux_lemma => kernel_rfl) (fun _ _ _ h => h) (by as_aux_lemma => kernel_rfl) (fun L u h => SBx.quiet (by decide) h) (Or.inl ⟨by rfl, ?_⟩) (SBx.of BK.out) ?_
        rotate_left
        · intro u hY; have hX := SBx.yet hY (by decide); have hcb := HCB.out u hX.below; clear hY hX; go_simp; try with_reducible rfl
        try simp only [putz]
        refine Goes.take (i := 6) (o := ⟨some 37, _, _, _, _, _⟩) (v := ?_) [] rfl (by as_aux_lemma => kernel_rfl) (by as_aux_lemma => kernel_rfl) (by as_aux_lemma => kernel_rfl) (fun _ _ _ h => h) (by as_aux_lemma => kernel_rfl) (fun L u h => SBx.quiet (by decide) h) (Or.inl ⟨by rfl, ?_⟩) (SBx.of BK.out) ?_
        rotate_left
        · intro u hY; go_simp; try with_reducible rfl
        try simp only [putz]
        refine Goes.take (i := 7) (o := ⟨some 38, _, _, _, _, _⟩) (v := ?_) [] rfl (by as_aux_lemma => kernel_rfl) (by as_aux_lemma => kernel_rfl) (by as_aux_lemma => kernel_rfl) (fun _ _ _ h => h) (by as_aux_lemma => kernel_rfl) (fun L u h => SBx.quiet (by decide) h) (Or.inl ⟨by rfl, ?_⟩) (SBx.of BK.out) ?_
        rotate_left
        · intro u hY; go_simp; try with_reducible rfl
        try simp only [putz]
        refine Goes.take (i := 8) (o := ⟨some 39, _, _, _, _, _⟩) (v := ?_) [] rfl (by as_aux_lemma => kernel_rfl) (by as_aux_lemma => kernel_rfl) (by as_aux_lemma => kernel_rfl) (fun _ _ _ h => h) (by as_aux_lemma => kernel_rfl) (fun L u h => SBx.quiet (by decide) h) (Or.inl ⟨by rfl, ?_⟩) (SBx.of BK.out) ?_
        rotate_left
        · intro u hY; go_simp; try with_reducible rfl
        try simp only [putz]
        refine Goes.take (i := 9) (o := ⟨some 40, _, _, _, _, _⟩) (v := ?_) [12] rfl (by as_aux_lemma => kernel_rfl) (by as_aux_lemma => kernel_rfl) (by as_aux_lemma => kernel_rfl) (fun _ _ _ h => h) (by as_aux_lemma => kernel_rfl) (fun L u h => SBx.quiet (by decide) h) (Or.inl ⟨by rfl, ?_⟩) (SBx.of BK.out) ?_
        rotate_left
        · intro u hY; have hX := SBx.yet hY (by decide); have hcw := hX.cell 0 rfl r (by rw [sw_length]; exact hk16); rw [HLW.out] at hcw; clear hY hX; go_simp; try with_reducible rfl
        try simp only [putz]
        refine Goes.take (i := 10) (o := ⟨some 41, _, _, _, _, _⟩) (v := ?_) [] rfl (by as_aux_lemma => kernel_rfl) (by as_aux_lemma => kernel_rfl) (by as_aux_lemma => kernel_rfl) (fun _ _ _ h => h) (by as_aux_lemma => kernel_rfl) (fun L u h => SBx.quiet (by decide) h) (Or.inl ⟨by rfl, ?_⟩) (SBx.of BK.out) ?_
        rotate_left
        · intro u hY; go_simp; try with_reducible rfl
        try simp only [putz]
        refine Goes.take (i := 11) (o := ⟨some 42, _, _, _, _, _⟩) (v := ?_) [] rfl (by as_aux_lemma => kernel_rfl) (by as_aux_lemma => kernel_rfl) (by as_aux_lemma => kernel_rfl) (fun _ _ _ h => h) (by as_aux_lemma => kernel_rfl) (fun L u h => SBx.quiet (by decide) h) (Or.inl ⟨by rfl, ?_⟩) (SBx.of BK.out) ?_
        rotate_left
        · intro u hY; go_simp; try with_reducible rfl
        try simp only [putz]
        refine Goes.one (i := 12) (o := ⟨none, _, _, _, _, _⟩) (by as_aux_lemma => kernel_rfl) rfl (fun K hK => ?_)
        have hcl := BK.out.cell 1 rfl k (by rw [upto_length]; exact HK.out)
        have hfl := BK.out.frozen 1 rfl k
        go_simp
        go_wp2_with fail
        refine hK.out _ _ (SBx.off (by decide)) ?_
        clear hK K
        try simp only [putz]
        refine Goes.done (by as_aux_lemma => kernel_rfl) ?_ _
        refine NoPanic.normal ?_
        go_wp2
        go_roundw
        case rel => exact ⟨k + 1, HK.out, rfl, BN2⟩
        case measure => have := HK.out; simp [intOf]; omega
      · have h16i : ¬ (k : Int) % 16 = 0 := by omega
        have BK := hid BJ.out
        rw [sw_on key first k h16, sf_on first k h16] at BK
        clear h16i
        have hlw := sw_ks key first k
        have HLW := hid hlw
        clear hlw
        have hx := xor_u8 (gb b k) (ks key first k)
        have BN := hid (BK.out.drew.set 1 rfl k (gb b k ^^^ ks key first k))
        rw [upto_set n (fun i => gb b i ^^^ ks key first i)] at BN
        have BN2 := hid (p := Bx w [(gw, 51, sw key first (k + 1)), (gl, 5, upto n (fun i => gb b i ^^^ ks key first i) (List.replicate n 0) (k + 1)), (g8, 53, wk key 10), (g7, 49, SB), (w.heap.size + 1, 22, sf first (k + 1)), (w.heap.size, 22, key)] _) BN.out
        clear BN
        generalize gb b k ^^^ ks key first k = y at *
        have hki : Int.tmod (k : Int) 16 = ((k % 16 : Nat) : Int) := by rw [Int.tmod_eq_emod_of_nonneg (by omega)]; omega
        have hki2 : (k : Int) % 16 = ((k % 16 : Nat) : Int) := by omega
        have hk16 : k % 16 < 16 := Nat.mod_lt _ (by decide)
        have hw1 : IntKind.i64.wrap ((k : Int) + 1) = ((k + 1 : Nat) : Int) := by have := HK.out; have := HLN.out; rw [IntKind.wrap_i64]; omega
        generalize k % 16 = r at *
        have hri : (r : Int) < 16 := by omega
        have hr0 : (0 : Int) ≤ (r : Int) := by omega
        have hk0 : (0 : Int) ≤ (k : Int) := by omega
        have hrn : ((r : Int) == 0) = false := by rw [beq_eq_false_iff_ne]; omega
        have hrd : decide ((r : Int) = 0) = false := decide_eq_false (by omega)
        clear h16
        go_upto_region 10 with fail
        refine wp_region_noPanic ?_
        refine Goes.region (SBx w [(gw, 51, sw key first (k + 1)), (gl, 5, upto n (fun i => gb b i ^^^ ks key first i) (List.replicate n 0) k), (g8, 53, wk key 10), (g7, 49, SB), (w.heap.size + 1, 22, sf first (k + 1)), (w.heap.size, 22, key)] [12]) (by as_aux_lemma => kernel_rfl) ?_
        have BK := hid (BK.out.drew)
        refine Goes.take (i := 0) (o := ⟨some 31, _, _, _, _, _⟩) (v := ?_) [] rfl (by as_aux_lemma => kernel_rfl) (by as_aux_lemma => kernel_rfl) (by as_aux_lemma => kernel_rfl) (fun _ _ _ h => h) (by as_aux_lemma => kernel_rfl) (fun L u h => SBx.quiet (by decide) h) (Or.inl ⟨by rfl, ?_⟩) (SBx.of BK.out) ?_
        rotate_left
        · intro u hY; go_simp; try with_reducible rfl
        try simp only [putz]
        refine Goes.take (i := 1) (o := ⟨some 32, _, _, _, _, _⟩) (v := ?_) [] rfl (by as_aux_lemma => kernel_rfl) (by as_aux_lemma => kernel_rfl) (by as_aux_lemma => kernel_rfl) (fun _ _ _ h => h) (by as_aux_lemma => kernel_rfl) (fun L u h => SBx.quiet (by decide) h) (Or.inl ⟨by rfl, ?_⟩) (SBx.of BK.out) ?_
        rotate_left
        · intro u hY; go_simp; try with_reducible rfl
        try simp only [putz]
        refine Goes.take (i := 2) (o := ⟨some 33, _, _, _, _, _⟩) (v := ?_) [] rfl (by as_aux_lemma => kernel_rfl) (by as_aux_lemma => kernel_rfl) (by as_aux_lemma => kernel_rfl) (fun _ _ _ h => h) (by as_aux_lemma => kernel_rfl) (fun L u h => SBx.quiet (by decide) h) (Or.inl ⟨by rfl, ?_⟩) (SBx.of BK.out) ?_
        rotate_left
        · intro u hY; go_simp; try with_reducible rfl
        try simp only [putz]
        refine Goes.take (i := 3) (o := ⟨some 34, _, _, _, _, _⟩) (v := ?_) [] rfl (by as_aux_lemma => kernel_rfl) (by as_aux_lemma => kernel_rfl) (by as_aux_lemma => kernel_rfl) (fun _ _ _ h => h) (by as_aux_lemma => kernel_rfl) (fun L u h => SBx.quiet (by decide) h) (Or.inl ⟨by rfl, ?_⟩) (SBx.of BK.out) ?_
        rotate_left
        · intro u hY; go_simp; try with_reducible rfl
        try simp only [putz]
        refine Goes.take (i := 4) (o := ⟨some 35, _, _, _, _, _⟩) (v := ?_) [] rfl (by as_aux_lemma => kernel_rfl) (by as_aux_lemma => kernel_rfl) (by as_aux_lemma => kernel_rfl) (fun _ _ _ h => h) (by as_aux_lemma => kernel_rfl) (fun L u h => SBx.quiet (by decide) h) (Or.inl ⟨by rfl, ?_⟩) (SBx.of BK.out) ?_
        rotate_left
        · intro u hY; go_simp; try with_reducible rfl
        try simp only [putz]
        refine Goes.take (i := 5) (o := ⟨some 36, _, _, _, _, _⟩) (v := ?_) [12] rfl (by as_aux_lemma => kernel_rfl) (by as_aux_lemma => kernel_rfl) (by as_aux_lemma => kernel_rfl) (fun _ _ _ h => h) (by as_aux_lemma => kernel_rfl) (fun L u h => SBx.quiet (by decide) h) (Or.inl ⟨by rfl, ?_⟩) (SBx.of BK.out) ?_
        rotate_left
        · intro u hY; have hX := SBx.yet hY (by decide); have hcb := HCB.out u hX.below; clear hY hX; go_simp; try with_reducible rfl
        try simp only [putz]
        refine Goes.take (i := 6) (o := ⟨some 37, _, _, _, _, _⟩) (v := ?_) [] rfl (by as_aux_lemma => kernel_rfl) (by as_aux_lemma => kernel_rfl) (by as_aux_lemma => kernel_rfl) (fun _ _ _ h => h) (by as_aux_lemma => kernel_rfl) (fun L u h => SBx.quiet (by decide) h) (Or.inl ⟨by rfl, ?_⟩) (SBx.of BK.out) ?_
        rotate_left
        · intro u hY; go_simp; try with_reducible rfl
        try simp only [putz]
        refine Goes.take (i := 7) (o := ⟨some 38, _, _, _, _, _⟩) (v := ?_) [] rfl (by as_aux_lemma => kernel_rfl) (by as_aux_lemma => kernel_rfl) (by as_aux_lemma => kernel_rfl) (fun _ _ _ h => h) (by as_aux_lemma => kernel_rfl) (fun L u h => SBx.quiet (by decide) h) (Or.inl ⟨by rfl, ?_⟩) (SBx.of BK.out) ?_
        rotate_left
        · intro u hY; go_simp; try with_reducible rfl
        try simp only [putz]
        refine Goes.take (i := 8) (o := ⟨some 39, _, _, _, _, _⟩) (v := ?_) [] rfl (by as_aux_lemma => kernel_rfl) (by as_aux_lemma => kernel_rfl) (by as_aux_lemma => kernel_rfl) (fun _ _ _ h => h) (by as_aux_lemma => kernel_rfl) (fun L u h => SBx.quiet (by decide) h) (Or.inl ⟨by rfl, ?_⟩) (SBx.of BK.out) ?_
        rotate_left
        · intro u hY; go_simp; try with_reducible rfl
        try simp only [putz]
        refine Goes.take (i := 9) (o := ⟨some 40, _, _, _, _, _⟩) (v := ?_) [12] rfl (by as_aux_lemma => kernel_rfl) (by as_aux_lemma => kernel_rfl) (by as_aux_lemma => kernel_rfl) (fun _ _ _ h => h) (by as_aux_lemma => kernel_rfl) (fun L u h => SBx.quiet (by decide) h) (Or.inl ⟨by rfl, ?_⟩) (SBx.of BK.out) ?_
        rotate_left
        · intro u hY; have hX := SBx.yet hY (by decide); have hcw := hX.cell 0 rfl r (by rw [sw_length]; exact hk16); rw [HLW.out] at hcw; clear hY hX; go_simp; try with_reducible rfl
        try simp only [putz]
        refine Goes.take (i := 10) (o := ⟨some 41, _, _, _, _, _⟩) (v := ?_) [] rfl (by as_aux_lemma => kernel_rfl) (by as_aux_lemma => kernel_rfl) (by as_aux_lemma => kernel_rfl) (fun _ _ _ h => h) (by as_aux_lemma => kernel_rfl) (fun L u h => SBx.quiet (by decide) h) (Or.inl ⟨by rfl, ?_⟩) (SBx.of BK.out) ?_
        rotate_left
        · intro u hY; go_simp; try with_reducible rfl
        try simp only [putz]
        refine Goes.take (i := 11) (o := ⟨some 42, _, _, _, _, _⟩) (v := ?_) [] rfl (by as_aux_lemma => kernel_rfl) (by as_aux_lemma => kernel_rfl) (by as_aux_lemma => kernel_rfl) (fun _ _ _ h => h) (by as_aux_lemma => kernel_rfl) (fun L u h => SBx.quiet (by decide) h) (Or.inl ⟨by rfl, ?_⟩) (SBx.of BK.out) ?_
        rotate_left
        · intro u hY; go_simp; try with_reducible rfl
        try simp only [putz]
        refine Goes.one (i := 12) (o := ⟨none, _, _, _, _, _⟩) (by as_aux_lemma => kernel_rfl) rfl (fun K hK => ?_)
        have hcl := BK.out.cell 1 rfl k (by rw [upto_length]; exact HK.out)
        have hfl := BK.out.frozen 1 rfl k
        go_simp
        go_wp2_with fail
        refine hK.out _ _ (SBx.off (by decide)) ?_
        clear hK K
        try simp only [putz]
        refine Goes.done (by as_aux_lemma => kernel_rfl) ?_ _
        refine NoPanic.normal ?_
        go_wp2
        go_roundw
        case rel => exact ⟨k + 1, HK.out, rfl, BN2⟩
        case measure => have := HK.out; simp [intOf]; omega
    · obtain rfl : k = n := by omega
      have HS := hid (p := upto k (fun i => gb b i ^^^ ks key first i) (List.replicate k 0) k = strm key first b) (by rw [upto_all, strm, HN.out])
      rw [HS.out] at BJ
      have HE := hid (p := Bt wr gl 5 (strm key first b) ∧ w.heap.size ≤ gl ∧ Below w.heap.size w wr) ⟨BJ.out.bt 1 rfl, BJ.out.ge 1 rfl, BJ.out.below⟩
      clear BJ HS
      go_wp2
      go_ret
      exact ⟨gl, rfl, HE⟩
end Go.Proofs.YtbccnkjfjlmflaaGreatDoor
