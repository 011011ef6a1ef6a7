/-
  ciphers.mixedBack, following, risen, walked. Conditions: none.
-/
import Derived.Test.YtbccnkjfjlmflaaGreatDoorCie
namespace Go.Proofs.YtbccnkjfjlmflaaGreatDoor
open Go.RowKit
set_option linter.unusedVariables false
set_option linter.unusedSimpArgs false

theorem tm4a (x : UInt8) : tm (tm x 2) 2 ^^^ x = tm x 5 := all_u8 (p := fun x => tm (tm x 2) 2 ^^^ x = tm x 5) (by decide +kernel) x
theorem tm4b (x : UInt8) : tm (tm x 3) 2 = tm (tm x 2) 3 := all_u8 (p := fun x => tm (tm x 3) 2 = tm (tm x 2) 3) (by decide +kernel) x
theorem tm4c (x : UInt8) : tm x 2 ^^^ tm (tm x 3) 3 ^^^ tm x 2 = tm x 5 := all_u8 (p := fun x => tm x 2 ^^^ tm (tm x 3) 3 ^^^ tm x 2 = tm x 5) (by decide +kernel) x
theorem fx0 (x : UInt8) : tm (tm x 2) 2 ^^^ tm x 3 ^^^ x ^^^ tm x 3 = tm x 5 := all_u8 (p := fun x => tm (tm x 2) 2 ^^^ tm x 3 ^^^ x ^^^ tm x 3 = tm x 5) (by decide +kernel) x
theorem fx1 (x : UInt8) : tm (tm x 3) 2 ^^^ tm (tm x 2) 3 ^^^ x ^^^ x = 0 := all_u8 (p := fun x => tm (tm x 3) 2 ^^^ tm (tm x 2) 3 ^^^ x ^^^ x = 0) (by decide +kernel) x
theorem fx2 (x : UInt8) : tm x 2 ^^^ tm (tm x 3) 3 ^^^ tm x 2 ^^^ x = tm x 4 := all_u8 (p := fun x => tm x 2 ^^^ tm (tm x 3) 3 ^^^ tm x 2 ^^^ x = tm x 4) (by decide +kernel) x
theorem fx3 (x : UInt8) : tm x 2 ^^^ tm x 3 ^^^ tm x 3 ^^^ tm x 2 = 0 := all_u8 (p := fun x => tm x 2 ^^^ tm x 3 ^^^ tm x 3 ^^^ tm x 2 = 0) (by decide +kernel) x
theorem fy0 (x : UInt8) : tm (tm x 5) 5 ^^^ tm (tm x 4) 4 = x := all_u8 (p := fun x => tm (tm x 5) 5 ^^^ tm (tm x 4) 4 = x) (by decide +kernel) x
theorem fy2 (x : UInt8) : tm (tm x 4) 5 ^^^ tm (tm x 5) 4 = 0 := all_u8 (p := fun x => tm (tm x 4) 5 ^^^ tm (tm x 5) 4 = 0) (by decide +kernel) x
theorem mm2 (b : List UInt8) : mixc (mixc b) = tab 16 fun i => tm (cb b i 0) 5 ^^^ tm (cb b i 2) 4 := by
  refine tab_congr _ _ _ fun i hi => ?_
  unfold mixc
  simp only [cb_tab _ _ _ hi, cb_cb, cb_c0, Nat.add_zero, Nat.reduceAdd]
  rw [show cb b i 4 = cb b i 0 from cb_4 b i 0, show cb b i 5 = cb b i 1 from cb_4 b i 1, show cb b i 6 = cb b i 2 from cb_4 b i 2]
  generalize cb b i 0 = p
  generalize cb b i 1 = q
  generalize cb b i 2 = r
  generalize cb b i 3 = t
  have e : tm (tm p 2 ^^^ tm q 3 ^^^ r ^^^ t) 2 ^^^ tm (tm q 2 ^^^ tm r 3 ^^^ t ^^^ p) 3 ^^^ (tm r 2 ^^^ tm t 3 ^^^ p ^^^ q) ^^^ (tm t 2 ^^^ tm p 3 ^^^ q ^^^ r) = (tm (tm p 2) 2 ^^^ tm p 3 ^^^ p ^^^ tm p 3) ^^^ (tm (tm q 3) 2 ^^^ tm (tm q 2) 3 ^^^ q ^^^ q) ^^^ (tm r 2 ^^^ tm (tm r 3) 3 ^^^ tm r 2 ^^^ r) ^^^ (tm t 2 ^^^ tm t 3 ^^^ tm t 3 ^^^ tm t 2) := by
    simp only [tm_xor]
    ac_rfl
  rw [e, fx0, fx1, fx2, fx3]; simp
theorem mm4 (b : List UInt8) (h : b.length = 16) : mixc (mixc (mixc (mixc b))) = b := by
  rw [mm2, mm2]
  refine tab_eq 16 _ b h fun i hi => ?_
  simp only [cb_tab _ _ _ hi, cb_cb, cb_c0, Nat.add_zero, Nat.reduceAdd]
  rw [show cb b i 4 = cb b i 0 from cb_4 b i 0]
  generalize hp : cb b i 0 = p
  generalize cb b i 2 = r
  have e : tm (tm p 5 ^^^ tm r 4) 5 ^^^ tm (tm r 5 ^^^ tm p 4) 4 = (tm (tm p 5) 5 ^^^ tm (tm p 4) 4) ^^^ (tm (tm r 4) 5 ^^^ tm (tm r 5) 4) := by
    simp only [tm_xor]
    ac_rfl
  rw [e, fy0, fy2, UInt8.xor_zero, ← hp]
  unfold cb; congr 1; omega
theorem mm3 (b : List UInt8) (h : b.length = 16) : mixc (mixc (mixc b)) = imix b := by
  have := mm4 (imix b) (imix_length b)
  rwa [mixc_imix b h] at this
set_option maxRecDepth 100000 in
set_option maxHeartbeats 4000000 in
theorem mixedBack_any (b : List UInt8) (w : World) (hb : b.length = 16) :
    Calls Tryz.prog 109 #[.agg (bvs b).toArray] w fun e w' => e = .returned (.agg (bvs (imix b)).toArray) ∧ Below w.heap.size w w' := by
  have HB := hid hb
  clear hb
  have B1 := hid (bx2 w 51 51 b (List.replicate 16 0))
  go_enter Tryz.func109, Tryz.ntmps109
  go_upto_region 1 with fail
  rw [← z16]
  generalize (w.alloc (.cells (bvs b).toArray 51)).alloc (.cells (bvs (List.replicate 16 0)).toArray 51) = w1 at *
  have hld := ld_all (B1.out.bt 1 rfl) 51 _ Tryz.underlying51 rfl 16 HB.out st16
  go_wp2_with (((with_reducible refine isD 3 rfl ?_); refine wp_ld (by kernel_rfl) 51 (.tmp 1) rfl _ rfl _ hld ?_))
  clear hld
  refine (mixed_any b w1 HB.out).mono ?_
  rintro e w2 ⟨rfl, hb2⟩
  have B2 := hid (B1.out.on hb2)
  clear hb2 B1
  go_wp2_with fail
  refine (mixed_any _ w2 (mixc_length _)).mono ?_
  rintro e w3 ⟨rfl, hb2⟩
  have B3 := hid (B2.out.on hb2)
  clear hb2 B2
  go_wp2_with fail
  refine (mixed_any _ w3 (mixc_length _)).mono ?_
  rintro e w4 ⟨rfl, hb2⟩
  have B4 := hid (B3.out.on hb2)
  clear hb2 B3
  rw [mm3 b HB.out]
  have hs2 := st_all (B4.out.bt 0 rfl) 51 (imix b) 16 (imix_length b) (by simp) st16
  have hrow := B4.out.row 0 rfl (imix b)
  have HZ2 := hid (hrow.bt 0 rfl)
  have HB2 := hid hrow.below
  clear hrow
  unfold Bt at HZ2
  generalize hz : (bvs (imix b)).toArray = z at *
  have HZ := hid hz
  have HI := hid (p := (Tryz.prog.info? 51).map (·.size) = some z.size) (by rw [← hz, bsz, imix_length b]; exact st16)
  clear hz
  go_wp2_with (((with_reducible refine isS 51 (.tmp 2) (.tmp 6) rfl ?_); refine wp_st (by kernel_rfl) 51 (.tmp 2) (.tmp 6) rfl _ _ rfl rfl hs2 ?_))
  exact bodyPost_ret (v := .agg z) (results_cell_row (p := 2) (ty := 51) Tryz.results109 _ _ _ 51 z (0, 0) _ rfl HZ2.out Tryz.underlying51 rfl HI.out) rfl ⟨by rw [HZ.out], HB2.out⟩
/-- the first four of the next round's words -/
def fo1 (t w : List UInt8) (i : Nat) : UInt8 := gb w i ^^^ gb t (gb w (12 + (i + 1) % 4)).toNat
/-- the others, n of them -/
def fo2 (v : List UInt8) : Nat → List UInt8
  | 0 => v
  | n + 1 => (fo2 v n).set (n + 4) (gb (fo2 v n) (n + 4) ^^^ gb (fo2 v n) n)
theorem fo2_length (v : List UInt8) (n : Nat) : (fo2 v n).length = v.length := by
  induction n with
  | zero => rfl
  | succ n ih => rw [fo2, List.length_set, ih]
def fo (t : List UInt8) (by_ : UInt8) (w : List UInt8) : List UInt8 := (upto 16 (fo1 t w) w 4).set 0 (fo1 t w 0 ^^^ by_)
/-- the next round's words -/
def fol (t : List UInt8) (by_ : UInt8) (w : List UInt8) : List UInt8 := fo2 (fo t by_ w) 12
theorem fo_length (t : List UInt8) (y : UInt8) (w : List UInt8) : (fo t y w).length = 16 := by rw [fo, List.length_set, upto_length]
theorem fol_length (t : List UInt8) (y : UInt8) (w : List UInt8) : (fol t y w).length = 16 := by rw [fol, fo2_length, fo_length]
set_option maxRecDepth 100000 in
set_option maxHeartbeats 4000000 in
theorem following_any (g : Nat) (t b : List UInt8) (y : UInt8) (w : World) (ht : Bt w g 49 t) (htl : t.length = 256) (hb : b.length = 16) :
    Calls Tryz.prog 70 #[.agg (bvs b).toArray, bv y, .pointer (some ⟨g, 0, none⟩)] w fun e w' => e = .returned (.agg (bvs (fol t y b)).toArray) ∧ Below w.heap.size w w' := by
  have HT := hid ht
  have HTL := hid htl
  have HB := hid hb
  clear ht hb htl
  have B3 := hid (bx2 w 51 51 b (List.replicate 16 0))
  go_enter Tryz.func70, Tryz.ntmps70
  go_upto_region 1 with fail
  rw [← z16]
  generalize (w.alloc (.cells (bvs b).toArray 51)).alloc (.cells (bvs (List.replicate 16 0)).toArray 51) = w1 at *
  have B4 := hid (p := Bx w [(w.heap.size + 1, 51, List.replicate 16 0), (w.heap.size, 51, upto 16 (fo1 t b) b 0)] w1) (by rw [upto_none _ _ _ HB.out]; exact B3.out)
  clear B3
  go_wp2_with fail
  go_loopw [9] (fun i wr => ∃ j : Nat, j ≤ 4 ∧ i = .int .i64 j ∧ Hid (Bx w [(w.heap.size + 1, 51, List.replicate 16 0), (w.heap.size, 51, upto 16 (fo1 t b) b j)] wr)) (fun i _ => 4 - (intOf i).toNat)
  case atStart => exact ⟨0, Nat.zero_le _, rfl, B4⟩
  case round =>
    clear B4
    obtain ⟨j, hj, rfl, BJ⟩ := hrel
    by_cases hlt : j < 4
    · have HJ := hid hlt
      obtain ⟨k, hk⟩ : ∃ k, k = 12 + (j + 1) % 4 := ⟨_, rfl⟩
      have hk2 : k < 16 := by omega
      have HK := hid (show j ≤ k by omega)
      have hki : (12 : Int) + ((j : Int) + 1) % 4 = (k : Int) := by omega
      have BN := hid (BJ.out.drew.set 1 rfl j (fo1 t b j))
      rw [upto_set 16 (fo1 t b)] at BN
      have HF := hid (p := fo1 t b j = gb b j ^^^ gb t (gb b k).toNat) (by rw [hk]; rfl)
      clear hk
      have hc := BJ.out.cell 1 rfl j (by rw [upto_length]; omega)
      have hc2 := BJ.out.cell 1 rfl k (by rw [upto_length]; omega)
      rw [upto_at _ _ _ _ _ (by omega) (Nat.le_refl _)] at hc
      rw [upto_at _ _ _ _ _ hk2 HK.out] at hc2
      have hf := BJ.out.frozen 1 rfl j
      have HQ := hid ((gb b k).toNat_lt)
      have h0 := iv_ge (gb b k)
      have h1 := iv_lt (gb b k)
      have hct : wr.cell? ⟨g, (iv (gb b k)).toNat, none⟩ = some (bv (gb t (gb b k).toNat)) := (HT.out.on BJ.out.below).at_ _ (by rw [HTL.out]; exact HQ.out)
      have hx := xor_u8 (gb b j) (gb t (gb b k).toNat)
      rw [← HF.out] at hx
      generalize fo1 t b j = z at *
      generalize gb t (gb b k).toNat = m at *
      generalize gb b k = q at *
      generalize gb b j = p at *
      go_wp2
      go_region
      go_wp2
      go_roundw
      case rel => exact ⟨j + 1, by omega, by go_num, BN⟩
      case measure => simp [intOf]; omega
    · obtain rfl : j = 4 := by omega
      have c0 := BJ.out.cell 1 rfl 0 (by rw [upto_length]; decide)
      have e0 : gb (upto 16 (fo1 t b) b 4) 0 = fo1 t b 0 := by rw [upto, gb_tab _ _ _ (by decide), if_pos (by decide)]
      rw [e0] at c0
      have f0 := BJ.out.frozen 1 rfl 0
      have hx := xor_u8 (fo1 t b 0) y
      have B5 := hid (BJ.out.set 1 rfl 0 (fo1 t b 0 ^^^ y))
      clear e0 BJ
      have B6 := hid (p := Bx w [(w.heap.size + 1, 51, List.replicate 16 0), (w.heap.size, 51, fo2 (fo t y b) 0)] (wr.setCell ⟨w.heap.size, 0, none⟩ (bv (fo1 t b 0 ^^^ y)))) B5.out
      clear B5
      generalize fo1 t b 0 ^^^ y = z at *
      generalize fo1 t b 0 = p at *
      go_upto_region 7 with fail
      clear c0 f0 hx
      generalize wr.setCell ⟨w.heap.size, 0, none⟩ (bv z) = w2 at *
      go_wp2_with fail
      go_loopw [8] (fun i wr => ∃ j : Nat, j ≤ 12 ∧ i = .int .i64 ((j + 4 : Nat) : Int) ∧ Hid (Bx w [(w.heap.size + 1, 51, List.replicate 16 0), (w.heap.size, 51, fo2 (fo t y b) j)] wr)) (fun i _ => 16 - (intOf i).toNat)
      case atStart => exact ⟨0, Nat.zero_le _, rfl, B6⟩
      case round =>
        clear B6
        obtain ⟨j, hj, rfl, BJ⟩ := hrel
        by_cases hlt : j < 12
        · have HJ := hid hlt
          have BN := hid (BJ.out.drew.set 1 rfl (j + 4) (gb (fo2 (fo t y b) j) (j + 4) ^^^ gb (fo2 (fo t y b) j) j))
          have BN := hid (p := Bx w [(w.heap.size + 1, 51, List.replicate 16 0), (w.heap.size, 51, fo2 (fo t y b) (j + 1))] _) BN.out
          have hc := BJ.out.cell 1 rfl (j + 4) (by rw [fo2_length, fo_length]; omega)
          have hc2 := BJ.out.cell 1 rfl j (by rw [fo2_length, fo_length]; omega)
          have hf := BJ.out.frozen 1 rfl (j + 4)
          have hx := xor_u8 (gb (fo2 (fo t y b) j) (j + 4)) (gb (fo2 (fo t y b) j) j)
          generalize gb (fo2 (fo t y b) j) (j + 4) ^^^ gb (fo2 (fo t y b) j) j = z at *
          generalize gb (fo2 (fo t y b) j) (j + 4) = p at *
          generalize gb (fo2 (fo t y b) j) j = q at *
          go_wp2
          go_region
          go_wp2
          go_roundw
          case rel => exact ⟨j + 1, by omega, by go_num, BN⟩
          case measure => simp [intOf]; omega
        · obtain rfl : j = 12 := by omega
          have hl2 := ld_all (l := fol t y b) (BJ.out.bt 1 rfl) 51 _ Tryz.underlying51 rfl 16 (fol_length t y b) st16
          have hs2 := st_all (BJ.out.bt 0 rfl) 51 (fol t y b) 16 (fol_length t y b) (by simp) st16
          have hrow := BJ.out.row 0 rfl (fol t y b)
          have HZ2 := hid (hrow.bt 0 rfl)
          have HB2 := hid hrow.below
          clear hrow
          unfold Bt at HZ2
          generalize hz : (bvs (fol t y b)).toArray = z at *
          have HZ := hid hz
          have HI := hid (p := (Tryz.prog.info? 51).map (·.size) = some z.size) (by rw [← hz, bsz, fol_length t y b]; exact st16)
          clear hz
          go_wp2_with (first | ((with_reducible refine isD 46 rfl ?_); refine wp_ld (by kernel_rfl) 51 (.tmp 3) rfl _ rfl _ hl2 ?_) | ((with_reducible refine isS 51 (.tmp 6) (.tmp 46) rfl ?_); refine wp_st (by kernel_rfl) 51 (.tmp 6) (.tmp 46) rfl _ _ rfl rfl hs2 ?_))
          exact bodyPost_ret (v := .agg z) (results_cell_row (p := 6) (ty := 51) Tryz.results70 _ _ _ 51 z (0, 0) _ rfl HZ2.out Tryz.underlying51 rfl HI.out) rfl ⟨by rw [HZ.out], HB2.out⟩
end Go.Proofs.YtbccnkjfjlmflaaGreatDoor
