/-
  burrowlaw08.great, burrowlaw08.MacsOf, walked: it answers true. Condition: the library's table holds what its text lays.
-/
import Derived.Test.YtaejcifpipegnaaDoorMcl
import Derived.Test.YtaejcifpipegnaaDoorMck
import Derived.Test.YtaejcifpipegnaaDoorMcf
import Derived.Test.YtaejcifpipegnaaDoorPkB
namespace Go.Proofs.YtaejcifpipegnaaDoor
open Go.RowKit
set_option linter.unusedVariables false
set_option linter.unusedSimpArgs false

theorem great8_any (a0 : Option Addr) (n0 c0 : Nat) (A : Nat → Option Addr) (L C : Nat → Nat) (xs : Nat → List UInt8) (w : World) (hR : Rws w a0 n0 A L C xs) :
    Calls Tryd.prog 7 #[.slice a0 n0 c0] w fun e w' => (∃ p : Bool, e = .returned (.bool p) ∧ Hid (p = false → n0 ≤ 60 ∧ ∀ r, r < n0 → L r ≤ 1048576)) ∧ w = w' := by
  have HR := hid hR
  clear hR
  by_cases h60 : (60 : Int) < (n0 : Int)
  · go_enter Tryd.func7, Tryd.ntmps7
    go_wp2
    go_ret
    exact ⟨⟨true, rfl, hid (fun h => by cases h)⟩, rfl⟩
  · have HN := hid (show n0 ≤ 60 by omega)
    go_enter Tryd.func7, Tryd.ntmps7
    go_wp2_with fail
    clear h60
    refine (recSize_any a0 n0 c0 A L C xs w HR.out (by have := HN.out; omega)).mono ?_
    rintro e w1 ⟨⟨z, rfl, hz1, hz2⟩, rfl⟩
    have HZ := hid hz2
    by_cases h2 : (20000 : Int) < (z : Int)
    · go_wp2
      go_ret
      exact ⟨⟨true, rfl, hid (fun h => by cases h)⟩, rfl⟩
    · have HQ := hid (HZ.out (by omega))
      have hd : decide ((20000 : Int) < (z : Int)) = false := decide_eq_false h2
      go_wp2
      go_ret
      exact ⟨⟨false, rfl, hid (fun _ => ⟨HN.out, HQ.out⟩)⟩, rfl⟩
theorem hmk_eq (key msg : List UInt8) : hmk (kof key) msg = hm key msg := rfl
set_option maxRecDepth 100000 in
set_option maxHeartbeats 4000000 in
theorem of8_law (A0 : Option Addr) (c : Nat) (key : List UInt8) (n : Nat) (a0 : Option Addr) (n0 c0 : Nat) (A : Nat → Option Addr) (L C : Nat → Nat) (xs : Nat → List UInt8) (w : World) (hn : key.length = n) (hr : Rd w A0 key) (hc : n ≤ c) (hA : A0 = none → c = 0)
    (hR : Rws w a0 n0 A L C xs) (hK : Kt w) :
    Calls Tryd.prog 3 #[.slice A0 n c, .slice a0 n0 c0] w fun e w' => e = .returned (.bool true) ∧ Below w.heap.size w w' := by
  have HN := hid hn
  have HR := hid hr
  have HC := hid hc
  have HA := hid hA
  have HW := hid hR
  have HK := hid hK
  clear hr hc hA hR hK
  have HB0 := hid (Below.refl w.heap.size w)
  go_enter Tryd.func3, Tryd.ntmps3
  go_wp2_with fail
  refine (great8_any a0 n0 c0 A L C xs w HW.out).mono ?_
  rintro e w0 ⟨⟨p, rfl, HP⟩, rfl⟩
  rcases p with _ | _
  · by_cases hx1 : (20000 : Int) < (n : Int)
    · go_wp2_with fail
      refine (lives8_any w (HK.out.on HB0.out)).mono ?_
      rintro e wl ⟨rfl, hbl⟩
      go_wp2
      go_ret
      exact ⟨rfl, HB0.out.trans (hbl.mono HB0.out.size)⟩
    have HNB := hid (show n ≤ 20000 by omega)
    have HPN := hid ((HP.out rfl).1)
    have HPL := hid ((HP.out rfl).2)
    have HTW := hid (twin_any A0 c key w HR.out (by omega))
    rw [hn] at HTW
    clear hn HP
    go_wp2_with fail
    clear hx1
    refine HTW.out.mono ?_
    rintro e w1 ⟨rfl, hrow1, hb1⟩
    have HB1 := hid hb1
    have HR1 := hid hrow1
    have HG1 := hid hrow1.lt
    clear HTW hrow1 hb1
    generalize hg1 : w.heap.size = g1 at HR1 HG1 ⊢
    clear hg1
    go_wp2_with fail
    refine (twinrec_any a0 n0 c0 A L C xs w1 ((on_rws HW.out) w1 HB1.out) (by have := HPN.out; omega) HPL.out).mono ?_
    rintro e w2 ⟨g2, cap, tb, rfl, HT2, hb2⟩
    have HB2 := hid (HB1.out.trans (hb2.out.mono HB1.out.size))
    have HR2 := hid (HR1.out.below hb2.out HG1.out)
    clear HB1 HR1 HG1 hb2
    have HWL := hid (p := ∀ r, r < n0 → (xs r).length = L r ∧ L r ≤ 1048576) (fun r hr => ⟨(HW.out r hr).2.1, HPL.out r hr⟩)
    go_wp2_with fail
    refine (macof_any (some ⟨g1, 0, none⟩) (n + 1) key n (some ⟨g2, 0, none⟩) n0 cap _ _ _ _ w2 HN.out (by have := HR2.out.rd0.take key.length; rwa [List.take_left] at this) (Nat.le_succ _) (by have := HNB.out; omega) (HT2.out.rws HWL.out) (HK.out.on HB2.out) (by have := HPN.out; omega) HPL.out).mono ?_
    rintro e w3 ⟨rfl, hb3⟩
    have HB3 := hid (HB2.out.trans (hb3.mono HB2.out.size))
    have HR3 := hid (HR2.out.below hb3 HR2.out.lt)
    have HT3 := hid (HT2.out.on hb3)
    clear HB2 HR2 HT2 hb3
    go_wp2_with fail
    refine (rof_any A0 c key n a0 n0 c0 A L C xs w3 HN.out (HR.out.below HB3.out (Nat.le_refl _)) HC.out HA.out (by have := HNB.out; omega) ((on_rws HW.out) w3 HB3.out) (by have := HPN.out; omega) HPL.out).mono ?_
    rintro e w4 ⟨rfl, hb4⟩
    rw [hmk_eq]
    have HB4 := hid (HB3.out.trans (hb4.mono HB3.out.size))
    have HR4 := hid (HR3.out.below hb4 HR3.out.lt)
    have HT4 := hid (HT3.out.on hb4)
    clear HB3 HR3 HT3 hb4
    have heq := fun W : World => eq_sum (hm key (cat xs n0)) (hm key (cat xs n0)) (hm_length _ _) (hm_length _ _) W
    simp only [decide_true] at heq
    go_wp2_with fail
    clear heq
    have HLE := hid (left_any A0 g1 c key w4 HR4.out (HR.out.below HB4.out (Nat.le_refl _)) (by rw [HN.out]; have := HNB.out; omega))
    rw [HN.out] at HLE
    refine HLE.out.mono ?_
    rintro e w5 ⟨rfl, k5, rfl⟩
    have HB5 := hid (below_dN HB4.out k5)
    have HT5 := hid (show Twn (w4.drewN k5) g2 n0 cap tb L xs from HT4.out)
    clear HB4 HR4 HT4 HLE
    generalize w4.drewN k5 = w5 at *
    go_wp2_with fail
    refine (leftrec_any g2 cap n0 tb L xs a0 c0 A C w5 HT5.out ((on_rws HW.out) w5 HB5.out) (by have := HPN.out; omega) HPL.out).mono ?_
    rintro e w6 ⟨rfl, k6, rfl⟩
    have HB6 := hid (below_dN HB5.out k6)
    clear HB5 HT5
    generalize w5.drewN k6 = w6 at *
    go_wp2_with fail
    go_loopw [7] (fun i wr => ∃ k j : Nat, j ≤ n0 ∧ i = .int .i64 j ∧ Hid (wr = w6.drewN k)) (fun i _ => n0 - (intOf i).toNat)
    case atStart => exact ⟨0, 0, Nat.zero_le _, rfl, hid rfl⟩
    case round =>
      obtain ⟨k, j, hj, rfl, HE⟩ := hrel
      have HBW := hid (p := Below w.heap.size w wr) (by rw [HE.out]; exact below_dN HB6.out k)
      by_cases hlt : j < n0
      · have HLT := hid hlt
        have hji : (j : Int) < (n0 : Int) := by omega
        have hj0 : (0 : Int) ≤ (j : Int) := by omega
        have hw1 : IntKind.i64.wrap ((j : Int) + 1) = (j : Int) + 1 := by have := HPN.out; rw [IntKind.wrap_i64]; omega
        obtain ⟨⟨go, o, rfl, hgo, hcell⟩, hl1, hrd1, hlc, hcb, hac⟩ := HW.out j hlt
        have hcell2 := (HBW.out.cell (p := ⟨go, o + j, none⟩) hgo).trans hcell
        have HRJ := hid (hrd1.below HBW.out (Nat.le_refl _))
        have HRK := hid (HR.out.below HBW.out (Nat.le_refl _))
        have HLJ := hid hl1
        have HS1 : Hid (∀ m, Calls Tryd.prog 15 #[.slice A0 n c, .slice (A j) (L j) (C j)] (wr.drewN m) fun e w' => e = .returned (.bool (decide (key = xs j))) ∧ ∃ i, w' = (wr.drewN m).drewN i) := hid fun m =>
          macsame_any A0 (A j) n c (L j) (C j) key (xs j) (wr.drewN m) HN.out HLJ.out HRK.out HRJ.out (by have := HNB.out; omega) (by have := HPL.out j HLT.out; omega)
        have HS2 : Hid (∀ m, Calls Tryd.prog 16 #[.slice A0 n c, .slice (A j) (L j) (C j)] (wr.drewN m) fun e w' => e = .returned (.bool (decide (key = xs j))) ∧ ∃ i, w' = (wr.drewN m).drewN i) := hid fun m =>
          (rsame_any A0 (A j) n (c := c) (L j) (d := C j) key (xs j) (wr.drewN m) HN.out HLJ.out HRK.out HRJ.out).mono (fun e w' h => ⟨h.1, 0, h.2.symm⟩)
        generalize decide (key = xs j) = b at *
        clear hcell hl1 hrd1 hlc hcb hac hgo
        go_wp2
        go_quiet (first | (go_at_call 15; exact Calls.quiet_of (HS1.out _)) | (go_at_call 16; exact Calls.quiet_of (HS2.out _)))
        go_wp2
        go_roundw
        case rel => exact ⟨k + nq, j + 1, HLT.out, by go_num, by rw [HE.out]; exact hid (World.drewN_drewN ..)⟩
        case measure => have := HLT.out; simp [intOf]; omega
      · obtain rfl : j = n0 := by omega
        go_wp2_with fail
        refine (lives8_any wr (HK.out.on HBW.out)).mono ?_
        rintro e wl ⟨rfl, hbl⟩
        go_wp2
        go_ret
        exact ⟨rfl, HBW.out.trans (hbl.mono HBW.out.size)⟩

  · go_wp2_with fail
    refine (lives8_any w (HK.out.on HB0.out)).mono ?_
    rintro e wl ⟨rfl, hbl⟩
    go_wp2
    go_ret
    exact ⟨rfl, HB0.out.trans (hbl.mono HB0.out.size)⟩
end Go.Proofs.YtaejcifpipegnaaDoor
