/-
  TagsSum, walked. Condition: the library's tables hold what their texts lay.
-/
import Derived.Test.YtgmnpkgnedngjaaDoorPkP
namespace Go.Proofs.YtgmnpkgnedngjaaDoor
open Go.RowKit
set_option linter.unusedVariables false
set_option linter.unusedSimpArgs false

theorem bt_drewN {w : World} {g : Nat} {t : TypeId} {b : List UInt8} (h : Bt w g t b) (n : Nat) : Bt (w.drewN n) g t b := h
set_option maxRecDepth 100000 in
set_option maxHeartbeats 4000000 in
theorem sum_law (n0 n1 n2 n3 : Nat) (w : World) (h0 : n0 < 18446744073709551616) (h1 : n1 < 18446744073709551616) (h2 : n2 < 18446744073709551616) (h3 : n3 < 18446744073709551616) (hk : Kt w) (hd : Dg w) :
    Calls Tryd.prog 6 #[.agg #[.int .u64 (n0 : Int), .int .u64 (n1 : Int), .int .u64 (n2 : Int), .int .u64 (n3 : Int)]] w fun e w' => e = .returned (.bool true) ∧ Below w.heap.size w w' := by
  have H0 := hid h0
  have H1 := hid h1
  have H2 := hid h2
  have H3 := hid h3
  have HKT := hid hk
  have HD := hid hd
  have HB := hid (below_new w (.cells #[.int .u64 (n0 : Int), .int .u64 (n1 : Int), .int .u64 (n2 : Int), .int .u64 (n3 : Int)] 24))
  have FN : Hid (Nb (w.alloc (.cells #[.int .u64 (n0 : Int), .int .u64 (n1 : Int), .int .u64 (n2 : Int), .int .u64 (n3 : Int)] 24)) w.heap.size n0 n1 n2 n3) := hid (heap_alloc_new w (.cells #[.int .u64 (n0 : Int), .int .u64 (n1 : Int), .int .u64 (n2 : Int), .int .u64 (n3 : Int)] 24))
  clear h0 h1 h2 h3 hk hd
  go_enter Tryd.func6, Tryd.ntmps6
  go_upto_region 1 with fail
  generalize w.alloc (.cells #[.int .u64 (n0 : Int), .int .u64 (n1 : Int), .int .u64 (n2 : Int), .int .u64 (n3 : Int)] 24) = w1 at *
  generalize hgK : w.heap.size = gK at FN ⊢
  clear hgK
  have hln := ld_num FN.out
  go_wp2_with ((with_reducible refine isD 6 rfl ?_); refine wp_ld (by kernel_rfl) 24 (.tmp 1) rfl _ rfl _ hln ?_)
  clear hln
  refine (tagof_any n0 n1 n2 n3 w1 H0.out H1.out H2.out H3.out (HKT.out.on HB.out)).mono ?_
  rintro e w2 ⟨rfl, hb⟩
  have FN := hid (FN.out.on hb)
  have HB := hid (HB.out.trans (hb.mono HB.out.size))
  clear hb
  have HSL := hid (ksum_length n0 n1 n2 n3)
  have HTL := hid (tago_length (ksum n0 n1 n2 n3) HSL.out)
  obtain ⟨TT, hTT⟩ : ∃ TT, TT = tago (ksum n0 n1 n2 n3) := ⟨_, rfl⟩
  rw [← hTT] at HTL ⊢
  have HTT := hid hTT
  clear hTT
  have hb := below_new w2 (.cells (bvs TT).toArray 26)
  have FT := hid (bt_new w2 26 TT)
  have FN := hid (FN.out.on hb)
  have HB := hid (HB.out.trans (hb.mono HB.out.size))
  have hi := (hi16 TT HTL.out).out
  have ho := (ho16 TT HTL.out).out
  clear hb
  go_upto_region 2 with (refine wpList_store_row rfl 26 (.tmp 3) (.tmp 7) rfl w2.heap.size (bvs TT).toArray rfl rfl 26 _ (heap_alloc_new _ _) hi ho (bvs_all TT) ?_; rw [World.setRow_alloc_new])
  clear hi ho
  generalize w2.alloc (.cells (bvs TT).toArray 26) = w3 at *
  generalize w2.heap.size = gT at *
  have hln := ld_num FN.out
  go_wp2_with ((with_reducible refine isD 8 rfl ?_); refine wp_ld (by kernel_rfl) 24 (.tmp 1) rfl _ rfl _ hln ?_)
  clear hln
  refine (putLong_any none 0 n0 n1 n2 n3 [] w3 (Rd.nil _ _) (by simp) H0.out H1.out H2.out H3.out).mono ?_
  rintro e w4 ⟨rfl, hrw, hb⟩
  simp only [List.nil_append, List.length_nil, Nat.zero_add] at hrw ⊢
  have HRW := hid (show Bt w4 (w3.heap.size + 1) 5 (nb n0 n1 n2 n3) from hrw)
  clear hrw FN
  have FT := hid (FT.out.on hb)
  have HB := hid (HB.out.trans (hb.mono HB.out.size))
  clear hb
  generalize w3.heap.size + 1 = gp at *
  go_wp2_with fail
  have hb := below_new w4 (.cells #[.slice (some ⟨gp, 0, none⟩) 32 32] 37)
  have hx := heap_alloc_new w4 (.cells #[.slice (some ⟨gp, 0, none⟩) 32 32] 37)
  have FT := hid (FT.out.on hb)
  have HRW := hid (HRW.out.on hb)
  have HB := hid (HB.out.trans (hb.mono HB.out.size))
  clear hb
  generalize w4.alloc (.cells #[.slice (some ⟨gp, 0, none⟩) 32 32] 37) = w5 at *
  generalize w4.heap.size = gq at *
  refine (key_as w5 gq 32 32 n0 n1 n2 n3 (some ⟨gp, 0, none⟩) hx (bt_rd HRW.out) (nb_length _ _ _ _) (by decide) (by decide) (fun h => by cases h) (HKT.out.on HB.out)).mono ?_
  rintro e w6 ⟨rfl, hb⟩
  clear hx HRW
  have FT := hid (FT.out.on hb)
  have HB := hid (HB.out.trans (hb.mono HB.out.size))
  clear hb
  generalize ksum n0 n1 n2 n3 = SS at *
  have hb := below_new w6 (.cells (bvs SS).toArray 40)
  have FSm := hid (bt_new w6 40 SS)
  have hi := (hi44 SS HSL.out).out
  have ho := (ho32 SS HSL.out).out
  have FT := hid (FT.out.on hb)
  have HB := hid (HB.out.trans (hb.mono HB.out.size))
  clear hb
  go_upto_region 3 with (refine wpList_store_row rfl 40 (.tmp 4) (.tmp 11) rfl w6.heap.size (bvs SS).toArray rfl rfl 40 _ (heap_alloc_new _ _) hi ho (bvs_all SS) ?_; rw [World.setRow_alloc_new])
  clear hi ho
  generalize w6.alloc (.cells (bvs SS).toArray 40) = w7 at *
  generalize w6.heap.size = gS at *
  go_wp2_with fail
  go_loopw [5] (fun i wr => ∃ n m : Nat, 4 ≤ n ∧ n ≤ 16 ∧ i = .int .i64 n ∧ Hid (wr = w7.drewN m)) (fun i _ => 16 - (intOf i).toNat)
  case atStart => exact ⟨4, 0, by decide, by decide, rfl, hid rfl⟩
  case round =>
    obtain ⟨n, m, h4, hn, rfl, HW⟩ := hrel
    by_cases hlt : n < 16
    · have HLT := hid hlt
      have HN4 := hid h4
      obtain ⟨q, hq⟩ : ∃ q, q = n + 6 := ⟨_, rfl⟩
      have f1 : (n : Int) + 6 = (q : Int) := by omega
      have v1 : IntKind.i64.wrap (q : Int) = (q : Int) := by rw [IntKind.wrap_i64]; omega
      have b1 : (n : Int) < 16 := by omega
      have b2 : (q : Int) < 32 := by omega
      have cx : wr.cell? ⟨gT, n, none⟩ = some (bv (gb SS q)) := by
        rw [HW.out, hq, ← tago_at SS HSL.out n h4 hlt, ← HTT.out]
        exact Bt.at_ (bt_drewN FT.out m) n (by rw [HTL.out]; exact hlt)
      have cy : wr.cell? ⟨gS, q, none⟩ = some (bv (gb SS q)) := by
        rw [HW.out]; exact Bt.at_ (bt_drewN FSm.out m) q (by rw [HSL.out]; omega)
      clear hq h4
      go_wp2
      go_quiet (fail)
      clear cx cy f1 v1 b1 b2
      go_wp2
      go_roundw
      case rel => exact ⟨n + 1, m + nq, by have := HN4.out; omega, HLT.out, by go_num, by rw [HW.out]; exact hid (World.drewN_drewN ..)⟩
      case measure => have := HLT.out; simp [intOf]; omega
    · obtain rfl : n = 16 := by omega
      have FTw := hid (show Bt wr gT 26 TT by rw [HW.out]; exact bt_drewN FT.out m)
      have HBw := hid (show Below w.heap.size w wr by rw [HW.out]; exact below_dr HB.out m)
      have e0 : gb TT 0 = 32 ∧ gb TT 1 = 1 ∧ gb TT 2 = 0 ∧ gb TT 3 = 33 := by rw [HTT.out]; exact tago_head SS
      have c0 : wr.cell? ⟨gT, 0, none⟩ = some (.int .u8 32) := by have h := FTw.out.at_ 0 (by rw [HTL.out]; decide); rw [e0.1] at h; exact h
      have c1 : wr.cell? ⟨gT, 1, none⟩ = some (.int .u8 1) := by have h := FTw.out.at_ 1 (by rw [HTL.out]; decide); rw [e0.2.1] at h; exact h
      have c2 : wr.cell? ⟨gT, 2, none⟩ = some (.int .u8 0) := by have h := FTw.out.at_ 2 (by rw [HTL.out]; decide); rw [e0.2.2.1] at h; exact h
      have c3 : wr.cell? ⟨gT, 3, none⟩ = some (.int .u8 33) := by have h := FTw.out.at_ 3 (by rw [HTL.out]; decide); rw [e0.2.2.2] at h; exact h
      clear e0 h4 hn
      go_wp2_with fail
      refine (lives_any wr (HD.out.on HBw.out)).mono ?_
      rintro e wz ⟨rfl, hb⟩
      have HBz := hid (HBw.out.trans (hb.mono HBw.out.size))
      clear hb c0 c1 c2 c3
      go_wp2
      go_ret
      exact ⟨rfl, HBz.out⟩

end Go.Proofs.YtgmnpkgnedngjaaDoor
