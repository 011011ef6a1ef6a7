/-
  ciphers.risen, the laws' next, walked. Conditions: none.
-/
import Derived.Test.YtbccnkjfjlmflaaGreatDoorCif
namespace Go.Proofs.YtbccnkjfjlmflaaGreatDoor
open Go.RowKit
set_option linter.unusedVariables false
set_option linter.unusedSimpArgs false

/-- the last k bytes were 255 and are 0  -/
def rs (b : List UInt8) (k : Nat) : List UInt8 := tab 16 fun i => if 16 ≤ i + k then 0 else gb b i
theorem rs_length (b : List UInt8) (k : Nat) : (rs b k).length = 16 := tab_length _ _
theorem rs_none (b : List UInt8) (h : b.length = 16) : rs b 0 = b := tab_eq 16 _ b h fun i hi => if_neg (by omega)
theorem inc_app (a r : List UInt8) (h : ∀ x ∈ a, x + 1 = 0) : inc (a ++ r) = List.replicate a.length 0 ++ inc r := by
  induction a with
  | nil => rfl
  | cons x a ih =>
    rw [List.cons_append, inc, if_pos (h x (by simp)), ih (fun y hy => h y (by simp [hy]))]
    rfl
/-- the byte at which it stops  -/
theorem nxt_at (b : List UInt8) (hb : b.length = 16) (k : Nat) (hk : k < 16) (h : ∀ i, i < 16 → 16 ≤ i + k → gb b i + 1 = 0) (hx : gb b (15 - k) + 1 ≠ 0) : (rs b k).set (15 - k) (gb b (15 - k) + 1) = nxt b := by
  have e : b = b.take (15 - k) ++ (gb b (15 - k) :: b.drop (16 - k)) := by
    rw [gb_lt (by omega), show 16 - k = (15 - k) + 1 by omega, ← List.drop_eq_getElem_cons, List.take_append_drop]
  have hr : inc b.reverse = List.replicate k 0 ++ ((gb b (15 - k) + 1) :: (b.take (15 - k)).reverse) := by
    conv => lhs; rw [e]
    rw [List.reverse_append, List.reverse_cons, List.append_assoc, inc_app]
    · rw [List.length_reverse, List.length_drop, show b.length - (16 - k) = k by omega]
      congr 1
      rw [List.singleton_append, inc, if_neg hx]
    · intro x hx
      rw [List.mem_reverse] at hx
      obtain ⟨i, hi, rfl⟩ := List.getElem_of_mem hx
      have hi2 : 16 - k + i < b.length := by simp at hi; omega
      have := h (16 - k + i) (by omega) (by omega)
      rw [gb_lt hi2] at this
      rw [List.getElem_drop]; exact this
  unfold nxt
  rw [hr, List.reverse_append, List.reverse_cons, List.reverse_reverse, List.reverse_replicate]
  unfold rs
  rw [tab_set]
  refine tab_eq 16 _ _ (by simp; omega) fun i hi => ?_
  unfold gb
  simp only [List.getD_eq_getElem?_getD]
  rcases Nat.lt_trichotomy i (15 - k) with hl | hl | hl
  · rw [if_neg (by omega), if_neg (by omega), List.append_assoc, List.getElem?_append_left (by simp; omega), List.getElem?_take_of_lt hl]
  · subst hl
    rw [if_pos rfl, List.append_assoc, List.getElem?_append_right (by simp; omega), List.singleton_append]
    simp [show min (15 - k) b.length = 15 - k by omega]
  · rw [if_neg (by omega), if_pos (by omega), List.getElem?_append_right (by simp; omega)]
    simp [show min (15 - k) b.length = 15 - k by omega]
    rw [List.getElem?_replicate]
    split <;> rfl
theorem nxt_all (b : List UInt8) (hb : b.length = 16) (h : ∀ i, i < 16 → gb b i + 1 = 0) : rs b 16 = nxt b := by
  have hr : inc b.reverse = List.replicate 16 0 := by
    have := inc_app b.reverse [] (fun x hx => by
      rw [List.mem_reverse] at hx
      obtain ⟨i, hi, rfl⟩ := List.getElem_of_mem hx
      have := h i (by omega)
      rwa [gb_lt hi] at this)
    rw [List.append_nil, List.length_reverse, hb] at this
    rw [this]; rfl
  unfold nxt
  rw [hr]
  refine list_gb _ _ (by rw [rs_length]; simp) fun i hi => ?_
  rw [rs_length] at hi
  rw [rs, gb_tab _ _ _ hi, if_pos (by omega), List.reverse_replicate, gb_lt (by simpa using hi), List.getElem_replicate]
theorem rs_step (b : List UInt8) (k : Nat) (hk : k < 16) : (rs b k).set (15 - k) 0 = rs b (k + 1) := by
  unfold rs
  rw [tab_set]
  refine tab_congr _ _ _ fun i hi => ?_
  by_cases h : i = 15 - k
  · rw [if_pos h, if_pos (by omega)]
  · rw [if_neg h]
    by_cases h2 : 16 ≤ i + k
    · rw [if_pos h2, if_pos (by omega)]
    · rw [if_neg h2, if_neg (by omega)]
theorem iv_succ (x : UInt8) : (iv x + 1) % 256 = iv (x + 1) := all_u8 (p := fun x => (iv x + 1) % 256 = iv (x + 1)) (by decide +kernel) x
theorem iv_zero (x : UInt8) (h : x ≠ 0) : ¬ iv x = 0 := fun e => h (iv_inj e)
set_option maxRecDepth 100000 in
set_option maxHeartbeats 4000000 in
theorem risen_any (b : List UInt8) (w : World) (hb : b.length = 16) :
    Calls Tryz.prog 17 #[.agg (bvs b).toArray] w fun e w' => e = .returned (.agg (bvs (nxt b)).toArray) ∧ Below w.heap.size w w' := by
  have HB := hid hb
  clear hb
  have B3 := hid (bx2 w 51 51 b (List.replicate 16 0))
  go_enter Tryz.func17, Tryz.ntmps17
  go_upto_region 1 with fail
  rw [← z16]
  generalize (w.alloc (.cells (bvs b).toArray 51)).alloc (.cells (bvs (List.replicate 16 0)).toArray 51) = w1 at *
  have B4 := hid (p := Bx w [(w.heap.size + 1, 51, List.replicate 16 0), (w.heap.size, 51, rs b 0)] w1) (by rw [rs_none _ HB.out]; exact B3.out)
  clear B3
  go_wp2_with fail
  go_loopw [3] (fun i wr => ∃ k : Nat, k ≤ 16 ∧ i = .int .i64 (15 - (k : Int)) ∧ Hid (∀ i, i < 16 → 16 ≤ i + k → gb b i + 1 = 0) ∧ Hid (Bx w [(w.heap.size + 1, 51, List.replicate 16 0), (w.heap.size, 51, rs b k)] wr)) (fun i _ => (intOf i + 1).toNat)
  case atStart => exact ⟨0, Nat.zero_le _, rfl, hid (fun i h1 h2 => by omega), B4⟩
  case round =>
    clear B4
    obtain ⟨k, hk, rfl, HZ, BJ⟩ := hrel
    by_cases hlt : k < 16
    · have HK := hid hlt
      obtain ⟨j, hj⟩ : ∃ j, j = 15 - k := ⟨_, rfl⟩
      have hji : (15 : Int) - (k : Int) = (j : Int) := by omega
      have hc := BJ.out.cell 1 rfl j (by rw [rs_length]; omega)
      rw [show gb (rs b k) j = gb b j by rw [rs, gb_tab _ _ _ (by omega), if_neg (by omega)]] at hc
      have hf := BJ.out.frozen 1 rfl j
      have hs := iv_succ (gb b j)
      have HJ := hid hj
      have hj16 : j < 16 := by omega
      clear hj
      rw [hji]
      clear hji
      have BN := hid (BJ.out.set 1 rfl j (gb b j + 1))
      by_cases hx : gb b j + 1 = 0
      · have HZ2 := hid (p := ∀ i, i < 16 → 16 ≤ i + (k + 1) → gb b i + 1 = 0) (fun i h1 h2 => by
          by_cases h : i = j
          · subst h; exact hx
          · exact HZ.out i h1 (by have := HJ.out; omega))
        rw [hx] at BN hs
        have e0 : iv 0 = 0 := rfl
        rw [show (rs b k).set j 0 = rs b (k + 1) by rw [HJ.out]; exact rs_step b k HK.out] at BN
        rw [e0] at hs
        have hc2 := BN.out.cell 1 rfl j (by rw [rs_length]; exact hj16)
        rw [show gb (rs b (k + 1)) j = 0 by rw [rs, gb_tab _ _ _ hj16, if_pos (by have := HJ.out; omega)]] at hc2
        have hc3 : (wr.setCell ⟨w.heap.size, j, none⟩ (.int .u8 0)).cell? ⟨w.heap.size, j, none⟩ = some (.int .u8 0) := hc2
        clear hc2
        have BN2 := hid (p := Bx w [(w.heap.size + 1, 51, List.replicate 16 0), (w.heap.size, 51, rs b (k + 1))] (wr.setCell ⟨w.heap.size, j, none⟩ (.int .u8 0))) BN.out
        generalize gb b j = p at *
        clear BN
        go_upto_region 5 with fail
        clear hc hf hs
        generalize wr.setCell ⟨w.heap.size, j, none⟩ (.int .u8 0) = w2 at *
        go_wp2
        go_roundw
        case rel => exact ⟨k + 1, by omega, by congr 1; have := HJ.out; omega, HZ2, BN2⟩
        case measure => simp [intOf]
      · have hz := iv_zero _ hx
        have hn : (rs b k).set j (gb b j + 1) = nxt b := by
          have := nxt_at b HB.out k HK.out HZ.out (by rw [← HJ.out]; exact hx)
          rwa [← HJ.out] at this
        rw [hn] at BN
        have hc2 := BN.out.cell 1 rfl j (by rw [nxt_length, HB.out]; exact hj16)
        rw [show gb (nxt b) j = gb b j + 1 by rw [← hn, gb_set _ _ _ _ (by rw [rs_length]; exact hj16), if_pos rfl]] at hc2
        clear hn hx
        generalize gb b j + 1 = y at *
        generalize gb b j = p at *
        go_upto_region 5 with fail
        clear hc hf hs
        generalize wr.setCell ⟨w.heap.size, j, none⟩ (bv y) = w2 at *
        go_upto_region 6 with fail
        clear hc2 BJ
        have hl2 := ld_all (l := nxt b) (BN.out.bt 1 rfl) 51 _ Tryz.underlying51 rfl 16 (by rw [nxt_length, HB.out]) st16
        have hs2 := st_all (BN.out.bt 0 rfl) 51 (nxt b) 16 (by rw [nxt_length, HB.out]) (by simp) st16
        have hrow := BN.out.row 0 rfl (nxt b)
        have HZ2 := hid (hrow.bt 0 rfl)
        have HB2 := hid hrow.below
        clear hrow
        unfold Bt at HZ2
        generalize hz : (bvs (nxt b)).toArray = z at *
        have HZ := hid hz
        have HI := hid (p := (Tryz.prog.info? 51).map (·.size) = some z.size) (by rw [← hz, bsz, (show (nxt b).length = 16 from by rw [nxt_length, HB.out])]; exact st16)
        clear hz
        go_wp2_with (first | ((with_reducible refine isD 17 rfl ?_); refine wp_ld (by kernel_rfl) 51 (.tmp 1) rfl _ rfl _ hl2 ?_) | ((with_reducible refine isS 51 (.tmp 2) (.tmp 17) rfl ?_); refine wp_st (by kernel_rfl) 51 (.tmp 2) (.tmp 17) rfl _ _ rfl rfl hs2 ?_))
        exact bodyPost_ret (v := .agg z) (results_cell_row (p := 2) (ty := 51) Tryz.results17 _ _ _ 51 z (0, 0) _ rfl HZ2.out Tryz.underlying51 rfl HI.out) rfl ⟨by rw [HZ.out], HB2.out⟩
    · obtain rfl : k = 16 := by omega
      rw [nxt_all b HB.out (fun i hi => HZ.out i hi (by omega))] at BJ
      have hl2 := ld_all (l := nxt b) (BJ.out.bt 1 rfl) 51 _ Tryz.underlying51 rfl 16 (by rw [nxt_length, HB.out]) st16
      have hs2 := st_all (BJ.out.bt 0 rfl) 51 (nxt b) 16 (by rw [nxt_length, HB.out]) (by simp) st16
      have hrow := BJ.out.row 0 rfl (nxt b)
      have HZ2 := hid (hrow.bt 0 rfl)
      have HB2 := hid hrow.below
      clear hrow
      unfold Bt at HZ2
      generalize hz : (bvs (nxt b)).toArray = z at *
      have HZ := hid hz
      have HI := hid (p := (Tryz.prog.info? 51).map (·.size) = some z.size) (by rw [← hz, bsz, (show (nxt b).length = 16 from by rw [nxt_length, HB.out])]; exact st16)
      clear hz
      go_wp2_with (first | ((with_reducible refine isD 17 rfl ?_); refine wp_ld (by kernel_rfl) 51 (.tmp 1) rfl _ rfl _ hl2 ?_) | ((with_reducible refine isS 51 (.tmp 2) (.tmp 17) rfl ?_); refine wp_st (by kernel_rfl) 51 (.tmp 2) (.tmp 17) rfl _ _ rfl rfl hs2 ?_))
      exact bodyPost_ret (v := .agg z) (results_cell_row (p := 2) (ty := 51) Tryz.results17 _ _ _ 51 z (0, 0) _ rfl HZ2.out Tryz.underlying51 rfl HI.out) rfl ⟨by rw [HZ.out], HB2.out⟩
end Go.Proofs.YtbccnkjfjlmflaaGreatDoor
