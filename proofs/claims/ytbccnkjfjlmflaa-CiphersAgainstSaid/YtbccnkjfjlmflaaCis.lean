/-
  burrowlaw09.CiphersAgainst, walked: it answers true. Condition: the slices are within the form's own reach.
-/
import Derived.Test.YtbccnkjfjlmflaaCiq
namespace Go.Proofs.Ytbccnkjfjlmflaa
open Go.RowKit
set_option linter.unusedVariables false
set_option linter.unusedSimpArgs false

set_option maxRecDepth 100000 in
set_option maxHeartbeats 4000000 in
theorem against_law (key first : List UInt8) (A A1 : Option Addr) (c c1 : Nat) (b b1 : List UInt8) (n n1 : Nat) (w : World) (hk : key.length = 16) (hf : first.length = 16) (hn : b.length = n) (hr : Rd w A b) (hn1 : b1.length = n1) (hr1 : Rd w A1 b1) :
    Calls Try.prog 7 #[.agg (bvs key).toArray, .agg (bvs first).toArray, .agg #[.slice A n c, .slice A1 n1 c1]] w fun e w' => e = .returned (.bool true) ∧ Below w.heap.size w w' := by
  have HK := hid hk
  have HF := hid hf
  have HN := hid hn
  have HN1 := hid hn1
  have HW0 := hid (((bx2 w 22 22 key first).below).alloc (by rw [al_size, al_size]; omega) (.cells #[.slice A n c, .slice A1 n1 c1] 38))
  have FK := hid ((bx2 w 22 22 key first).bt 1 rfl |>.alloc (.cells #[.slice A n c, .slice A1 n1 c1] 38))
  have FF := hid ((bx2 w 22 22 key first).bt 0 rfl |>.alloc (.cells #[.slice A n c, .slice A1 n1 c1] 38))
  have FC := hid (heap_alloc_new ((w.alloc (.cells (bvs key).toArray 22)).alloc (.cells (bvs first).toArray 22)) (.cells #[.slice A n c, .slice A1 n1 c1] 38))
  rw [al_size, al_size] at FC
  have HR := hid (hr.below HW0.out (Nat.le_refl _))
  have HR1 := hid (hr1.below HW0.out (Nat.le_refl _))
  clear hk hf hn hr hn1 hr1
  go_enter Try.func7, Try.ntmps7
  go_upto_region 1 with fail
  generalize ((w.alloc (.cells (bvs key).toArray 22)).alloc (.cells (bvs first).toArray 22)).alloc (.cells #[.slice A n c, .slice A1 n1 c1] 38) = W at *
  have CS0 := hid (p := W.cell? ⟨w.heap.size + 1 + 1, 0, none⟩ = some (.slice A n c)) (by rw [cell_of_row W _ 0 _ 38 (0, 0) FC.out]; rfl)
  have CS1 := hid (p := W.cell? ⟨w.heap.size + 1 + 1, 1, none⟩ = some (.slice A1 n1 c1)) (by rw [cell_of_row W _ 1 _ 38 (0, 0) FC.out]; rfl)
  have GL := hid (lt_of_block FC.out)
  have hcs0 := CS0.out
  have hcs1 := CS1.out
  by_cases hb0 : (3000 : Int) < (n : Int)
  · go_wp2_with fail
    clear hcs0 hcs1
    refine (lives_any W).mono ?_
    rintro e w1 ⟨rfl, hb1⟩
    have HE := hid (HW0.out.trans (hb1.mono HW0.out.size))
    clear hb1
    go_wp2
    go_ret
    exact ⟨rfl, HE.out⟩
  by_cases hb1 : (3000 : Int) < (n1 : Int)
  · go_wp2_with fail
    clear hcs0 hcs1
    refine (lives_any W).mono ?_
    rintro e w1 ⟨rfl, hb1⟩
    have HE := hid (HW0.out.trans (hb1.mono HW0.out.size))
    clear hb1
    go_wp2
    go_ret
    exact ⟨rfl, HE.out⟩
  have HM := hid (show n ≤ 3000 by omega)
  have HM1 := hid (show n1 ≤ 3000 by omega)
  have hk := ld_all FK.out 22 _ Try.underlying22 rfl 16 HK.out row16
  have hf := ld_all FF.out 22 _ Try.underlying22 rfl 16 HF.out row16
  go_wp2_with (first | ((with_reducible refine isD 21 rfl ?_); refine wp_ld (by kernel_rfl) 22 (.tmp 3) rfl _ rfl _ hk ?_) | ((with_reducible refine isD 22 rfl ?_); refine wp_ld (by kernel_rfl) 22 (.tmp 4) rfl _ rfl _ hf ?_))
  clear hcs0 hcs1 hb0 hb1 hk hf
  refine (stream_any key first A c b n W HK.out HF.out HN.out HR.out (by have := HM.out; omega)).mono ?_
  rintro e w1 ⟨gx, rfl, hs⟩
  have B1 := hid ((Bx.nil W).take hs.out.2.2 hs.out.2.1 hs.out.1)
  clear hs
  have SL := hid (p := (strm key first b).length = n) (by rw [strm_length, HN.out])
  have hk := ld_all (FK.out.on B1.out.below) 22 _ Try.underlying22 rfl 16 HK.out row16
  have hf := ld_all (FF.out.on B1.out.below) 22 _ Try.underlying22 rfl 16 HF.out row16
  have hcs0 := (B1.out.below.cell (p := ⟨w.heap.size + 1 + 1, 0, none⟩) GL.out).trans CS0.out
  have hcs1 := (B1.out.below.cell (p := ⟨w.heap.size + 1 + 1, 1, none⟩) GL.out).trans CS1.out
  go_upto_region 4 with fail
  go_wp2_with (first | ((with_reducible refine isD 26 rfl ?_); refine wp_ld (by kernel_rfl) 22 (.tmp 3) rfl _ rfl _ hk ?_) | ((with_reducible refine isD 27 rfl ?_); refine wp_ld (by kernel_rfl) 22 (.tmp 4) rfl _ rfl _ hf ?_))
  clear hk hf hcs0 hcs1
  refine (stream_any key first A1 c1 b1 n1 w1 HK.out HF.out HN1.out (HR1.out.below B1.out.below (Nat.le_refl _)) (by have := HM1.out; omega)).mono ?_
  rintro e w2 ⟨gy, rfl, hs⟩
  have B2 := hid (B1.out.take hs.out.2.2 hs.out.2.1 hs.out.1)
  clear hs B1
  have SL1 := hid (p := (strm key first b1).length = n1) (by rw [strm_length, HN1.out])
  have hcs0 := (B2.out.below.cell (p := ⟨w.heap.size + 1 + 1, 0, none⟩) GL.out).trans CS0.out
  have hcs1 := (B2.out.below.cell (p := ⟨w.heap.size + 1 + 1, 1, none⟩) GL.out).trans CS1.out
  go_wp2_with fail
  clear hcs0 hcs1
  go_loopw [9] (fun i wr => ∃ k : Nat, k ≤ n ∧ i = .int .i64 k ∧ Hid (Bx W [(gy, 5, strm key first b1), (gx, 5, strm key first b)] wr)) (fun i _ => n - (intOf i).toNat)
  case atStart => exact ⟨0, Nat.zero_le _, rfl, B2⟩
  case round =>
    clear B2
    obtain ⟨k, hk, rfl, BJ⟩ := hrel
    by_cases hlt : k < n ∧ k < n1
    · obtain ⟨hkn, hkn1⟩ := hlt
      have hkb : k < b.length := by rw [HN.out]; exact hkn
      have hkb1 : k < b1.length := by rw [HN1.out]; exact hkn1
      have hrr := HR.out.below BJ.out.below (Nat.le_refl _)
      have hrr1 := HR1.out.below BJ.out.below (Nat.le_refl _)
      obtain ⟨ga, o, rfl, hga, hcell⟩ := hrr (by omega)
      obtain ⟨gc, o1, rfl, hgc, hcell1⟩ := hrr1 (by omega)
      have hcb : wr.cell? ⟨ga, o + k, none⟩ = some (bv (gb b k)) := by rw [gb_lt hkb]; exact hcell k hkb
      have hcb1 : wr.cell? ⟨gc, o1 + k, none⟩ = some (bv (gb b1 k)) := by rw [gb_lt hkb1]; exact hcell1 k hkb1
      have hcx := BJ.out.cell 1 rfl k (by rw [SL.out]; exact hkn)
      have hcy := BJ.out.cell 0 rfl k (by rw [SL1.out]; exact hkn1)
      rw [gb_strm _ _ _ _ hkb] at hcx
      rw [gb_strm _ _ _ _ hkb1] at hcy
      have hx := xor_u8 (gb b k ^^^ ks key first k) (gb b1 k ^^^ ks key first k)
      rw [show gb b k ^^^ ks key first k ^^^ (gb b1 k ^^^ ks key first k) = gb b k ^^^ gb b1 k by rw [xor_mid, UInt8.xor_self, UInt8.xor_zero]] at hx
      have hx2 := xor_u8 (gb b k) (gb b1 k)
      have hcs0 := (BJ.out.below.cell (p := ⟨w.heap.size + 1 + 1, 0, none⟩) GL.out).trans CS0.out
      have hcs1 := (BJ.out.below.cell (p := ⟨w.heap.size + 1 + 1, 1, none⟩) GL.out).trans CS1.out
      have hki : (k : Int) < (n : Int) := by omega
      have hki1 : (k : Int) < (n1 : Int) := by omega
      have hk0 : (0 : Int) ≤ (k : Int) := by omega
      have HK1 := hid hkn
      have hw1 : IntKind.i64.wrap ((k : Int) + 1) = ((k + 1 : Nat) : Int) := by have := HM.out; rw [IntKind.wrap_i64]; omega
      clear hcell hga hcell1 hgc hrr hrr1 hkb hkb1 hkn hkn1
      generalize gb b k ^^^ gb b1 k = z at *
      generalize gb b k ^^^ ks key first k = p at *
      generalize gb b1 k ^^^ ks key first k = q at *
      generalize gb b k = r at *
      generalize gb b1 k = s at *
      go_wp2
      go_quiet (fail)
      have BN := hid (BJ.out.drewN nq)
      go_wp2
      go_roundw
      case rel => exact ⟨k + 1, HK1.out, rfl, BN⟩
      case measure => have := HK1.out; simp [intOf]; omega
    · by_cases hkn : k < n
      · have hki : (k : Int) < (n : Int) := by omega
        have hki1 : ¬ (k : Int) < (n1 : Int) := by omega
        go_wp2_with fail
        refine (lives_any wr).mono ?_
        rintro e w3 ⟨rfl, hb3⟩
        have HE := hid (HW0.out.trans ((BJ.out.on hb3).below.mono HW0.out.size))
        clear hb3
        go_wp2
        go_ret
        exact ⟨rfl, HE.out⟩
      · have hki : ¬ (k : Int) < (n : Int) := by omega
        go_wp2_with fail
        refine (lives_any wr).mono ?_
        rintro e w3 ⟨rfl, hb3⟩
        have HE := hid (HW0.out.trans ((BJ.out.on hb3).below.mono HW0.out.size))
        clear hb3
        go_wp2
        go_ret
        exact ⟨rfl, HE.out⟩
end Go.Proofs.Ytbccnkjfjlmflaa
