/-
  shas.spread, walked: a block's numbers. Conditions: none.
-/
import Derived.Test.YtbloejlebikecaaDoorSp11
import Derived.Deep.DeepCutAuto
import Derived.Deep.Cut
namespace Go.Proofs.YtbloejlebikecaaDoor
open Go.RowKit
set_option linter.unusedVariables false
theorem hi132 (b : List UInt8) : Hid ((Tryd.prog.info? 74).map (·.size) = some (dv (wof b)).toArray.size) := by
  have h : (dv (wof b)).toArray.size = 64 := by rw [dv_size]; exact wof_length b
  rw [h]; exact hid i132
theorem ho132 (b : List UInt8) : Hid ((dv (List.replicate 64 0)).toArray.size = (dv (wof b)).toArray.size) := by
  have h : (dv (wof b)).toArray.size = 64 := by rw [dv_size]; exact wof_length b
  rw [h]; exact hid rfl
set_option maxRecDepth 100000 in
set_option maxHeartbeats 1000000 in
theorem spread_any (b : List UInt8) (w : World) (hb : b.length = 64) :
    Calls Tryd.prog 29 #[.agg (bvs b).toArray] w fun e w' => e = .returned (.agg (dv (wof b)).toArray) ∧ Below w.heap.size w w' := by
  have HB := hid hb
  clear hb
  go_enter Tryd.func29, Tryd.ntmps29
  go_wp2_with fail
  have HS := hid (Spr.init w b)
  have hlit : (dv (List.replicate 64 0)).toArray = #[.int .u32 0, .int .u32 0, .int .u32 0, .int .u32 0, .int .u32 0, .int .u32 0, .int .u32 0, .int .u32 0, .int .u32 0, .int .u32 0, .int .u32 0, .int .u32 0, .int .u32 0, .int .u32 0, .int .u32 0, .int .u32 0, .int .u32 0, .int .u32 0, .int .u32 0, .int .u32 0, .int .u32 0, .int .u32 0, .int .u32 0, .int .u32 0, .int .u32 0, .int .u32 0, .int .u32 0, .int .u32 0, .int .u32 0, .int .u32 0, .int .u32 0, .int .u32 0, .int .u32 0, .int .u32 0, .int .u32 0, .int .u32 0, .int .u32 0, .int .u32 0, .int .u32 0, .int .u32 0, .int .u32 0, .int .u32 0, .int .u32 0, .int .u32 0, .int .u32 0, .int .u32 0, .int .u32 0, .int .u32 0, .int .u32 0, .int .u32 0, .int .u32 0, .int .u32 0, .int .u32 0, .int .u32 0, .int .u32 0, .int .u32 0, .int .u32 0, .int .u32 0, .int .u32 0, .int .u32 0, .int .u32 0, .int .u32 0, .int .u32 0, .int .u32 0] := rfl
  rw [← hlit]
  clear hlit
  generalize ((w.alloc (.cells (bvs b).toArray 67)).alloc (.cells (dv (List.replicate 64 0)).toArray 74)).alloc (.cells (dv (List.replicate 64 0)).toArray 74) = w0 at *
  go_loopw [8] (fun i wr => ∃ (k : Nat) (l : List Nat), k ≤ 64 ∧ i = .int .i64 k ∧ Hid (Spr w b l wr) ∧ Hid (l.length = 64) ∧ Hid (∀ j, j < 64 → at' l j = part b k j)) (fun i _ => 64 - (intOf i).toNat)
  case atStart => exact ⟨0, List.replicate 64 0, by omega, rfl, HS, hid (by simp), hid (fun j hj => by rw [part_none, at_lt (by simpa using hj), List.getElem_replicate])⟩
  case round =>
    obtain ⟨k, l, hk, rfl, HS, HL, HA⟩ := hrel
    by_cases hlt : k < 64
    · obtain ⟨q, hq⟩ : ∃ q : Nat, q = k / 4 := ⟨_, rfl⟩
      have hqi : (k : Int) / 4 = (q : Int) := by omega
      have hq16 : q < 16 := by omega
      have HQ := hid hq
      clear hq
      have cw := HS.out.l.cell q (by have := HL.out; omega)
      have cf := HS.out.l.frozen q
      have cb := HS.out.b.cell k (by have := HB.out; omega)
      rw [HA.out q (by omega)] at cw
      have HP := hid (p := part b k q < 16777216) (by rw [HQ.out]; exact part_lt b k)
      have HST := hid (part_step b k (by have := HB.out; omega))
      have HBL := hid ((b[k]'(by have := HB.out; omega)).toNat_lt)
      generalize (b[k]'(by have := HB.out; omega)).toNat = x at *
      have HPE := hid (p := part b k q = part b k q) rfl
      generalize hpe : part b k q = t at cw HP
      have HT := hid hpe
      clear hpe HPE
      have HO := hid (or_step t x HP.out HBL.out)
      go_wp2
      go_region
      go_wp2
      go_roundw
      case rel =>
        refine ⟨k + 1, l.set q (t * 256 + x), by omega, by go_num, ?_, hid (by rw [List.length_set]; exact HL.out), hid ?_⟩
        · have := (HS.out.set q (t * 256 + x)).drew
          rw [← HO.out] at this
          exact hid this
        · intro j hj
          rw [at_set _ _ _ _ (by have := HL.out; omega), HST.out j, HA.out j hj, ← HQ.out]
          by_cases h : j = q
          · subst h; rw [if_pos rfl, if_pos rfl, HT.out]
          · rw [if_neg h, if_neg h]
      case measure => simp [intOf]; omega
    · obtain rfl : k = 64 := by omega
      have HA2 := hid (p := ∀ j, j < 64 → at' l j = at' (ext (own b 16) 0) j) (fun j hj => by rw [HA.out j hj, part_all b HB.out]; rfl)
      clear HA
      go_wp2
      go_loopw [5] (fun i wr => ∃ (k : Nat) (l : List Nat), 16 ≤ k ∧ k ≤ 64 ∧ i = .int .i64 k ∧ Hid (Spr w b l wr) ∧ Hid (l.length = 64) ∧ Hid (∀ j, j < 64 → at' l j = at' (ext (own b 16) (k - 16)) j)) (fun i _ => 64 - (intOf i).toNat)
      case atStart => exact ⟨16, l, by omega, by omega, rfl, HS, HL, HA2⟩
      case round =>
        clear HS HL HA2
        obtain ⟨k, l, hk0, hk, rfl, HS, HL, HA⟩ := hrel
        by_cases hlt : k < 64
        · have HF := spr_facts HS.out HL.out HA.out hk0 hlt
          have HK := hid hk0
          have HK2 := hid hk
          clear hk0 hk
          obtain ⟨p15, p16, p7, p2, x, v16, v7, y, zx, zy, hp15, hp16, hp7, hp2, l15, l2, c15, c2, b15, b2, hzx, hzy, bx7, bx18, bzx, by17, by19, bzy, w16, w7, i16, i7, ik, j16, j7, jk, hS, HC, HKA, HKC, HV⟩ := HF
          go_wp2
          go_region
          go_wp2_with fail
          refine sp11_ok (hid HS.out.drew) p16 p7 x v16 v7 y zx zy hp16 hp7 b15 b2 hzx hzy bx7 bx18 bzx by17 by19 bzy w16 w7 i16 i7 ik j16 j7 jk hS HC HKA HKC _ _ _ _ _ _ _ _ _ _ _ _ _ _ _ _ _ _ _ _ _ _ _ _ _ _ _ _ _ _ _ _ _ _ _ _ _ _ _ _ _ _ _ _ _ _ _ _ _ _ _ _ _ _ _ _ _ _ _ _ _ _ _ (hid ?_)
          intro d37 d38 d39 d40 d41 d42 d43 d44 d45 d46 d47 d48 d49 d50 d51 d52 d53 d54 d55 d56 d57 d58 d59 d60 d61 d62 d63 d64 d65 wn HN
          rw [HV.out]
          go_wp2
          go_roundw
          case rel =>
            have h0 := HK.out
            refine ⟨k + 1, l.set k (nxw (ext (own b 16) (k - 16))), by omega, by omega, by go_num, hid (HN.out.set _ _), hid (by rw [List.length_set]; exact HL.out), hid ?_⟩
            intro j hj
            rw [at_set _ _ _ _ (by have := HL.out; omega), show k + 1 - 16 = (k - 16) + 1 by omega, ext, at_end, ext_length, own_length, show 16 + (k - 16) = k by omega]
            by_cases h : j = k
            · rw [if_pos h, if_pos h]
            · rw [if_neg h, if_neg h, HA.out j hj]
          case measure => simp [intOf]; omega
        · obtain rfl : k = 64 := by omega
          have hl : l = wof b := by
            refine eq_of_at (by rw [HL.out, wof_length]) (fun j hj => ?_)
            rw [HA.out j (by have := HL.out; omega)]; rfl
          have HS2 : Hid (Spr w b (wof b) wr) := hid (hl ▸ HS.out)
          clear HA HL HS hl
          have HS := HS2
          clear HS2
          have HI := hi132 b
          have HO := ho132 b
          have HZ := hid (HS.out.z.row (m := wof b))
          have HBW := hid (p := Below w.heap.size w (wr.setRow (w.heap.size + 1) (dv (wof b)).toArray)) (below_setRow HS.out.below (Nat.le_succ _) _)
          go_upto_region 12 with fail
          have HDA := dv_all (wof b)
          have HZL := HS.out.l
          have HZZ := HS.out.z
          unfold Us at HZL HZZ
          have HZL := hid HZL
          have HZZ := hid HZZ
          generalize (dv (wof b)).toArray = dw at *
          go_wp2_with (first | (refine wpList_load_row rfl 74 (.tmp 3) rfl (w.heap.size + 1 + 1) rfl 74 dw (0, 0) _ HZL.out Tryd.underlying74 rfl HI.out ?_) | (refine wpList_store_row rfl 74 (.tmp 2) (.tmp 66) rfl (w.heap.size + 1) dw rfl rfl 74 _ HZZ.out HI.out HO.out (by assumption) ?_))
          exact bodyPost_ret (v := .agg (dv (wof b)).toArray) (results_cell_row (p := 2) (ty := 74) Tryd.results29 _ _ (w.heap.size + 1) 74 (dv (wof b)).toArray (0, 0) _ rfl HZ.out Tryd.underlying74 rfl (hi132 b).out) rfl ⟨rfl, HBW.out⟩
end Go.Proofs.YtbloejlebikecaaDoor
