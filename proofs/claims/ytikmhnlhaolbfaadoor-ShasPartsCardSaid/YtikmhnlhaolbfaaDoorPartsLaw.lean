/-
  burrowlaw05.ShasParts, walked: it answers true. Conditions: the library's table holds what its text lays.
-/
import Derived.Test.YtikmhnlhaolbfaaDoorPa
namespace Go.Proofs.YtikmhnlhaolbfaaDoor
open Go.RowKit
set_option linter.unusedVariables false
set_option linter.unusedSimpArgs false

set_option maxRecDepth 100000 in
set_option maxHeartbeats 4000000 in
theorem parts_law (a0 : Option Addr) (c0 n0 : Nat) (A : Nat → Option Addr) (L C : Nat → Nat) (xs : Nat → List UInt8) (w : World) (hR : Rws w a0 n0 A L C xs) (hc0 : n0 ≤ c0) (hK : Kt w) :
    Calls Tryd.prog 7 #[.slice a0 n0 c0] w fun e w' => e = .returned (.bool true) ∧ Below w.heap.size w w' := by
  by_cases hbig : 60 < n0
  · go_enter Tryd.func7, Tryd.ntmps7
    go_wp2
    go_ret
    exact ⟨rfl, Below.refl _ _⟩
  have hn60 : n0 ≤ 60 := by omega
  have HR := hid hR
  have HK := hid hK
  clear hR hc0 hK hbig
  go_enter Tryd.func7, Tryd.ntmps7
  go_wp2_with fail
  refine (recSize_any a0 n0 c0 A L C xs w HR.out (by omega)).mono ?_
  rintro e w1 ⟨⟨z, rfl, hz, hzl⟩, rfl⟩
  have HZ := hid hz
  have HZL := hid hzl
  clear hz hzl
  go_wp2_with fail
  have hcz : (w.alloc (.cells #[.int .i64 (z : Int)] 3)).cell? ⟨w.heap.size, 0, none⟩ = some (.int .i64 (z : Int)) := by rw [cell_of_row _ _ 0 _ 3 (0, 0) (heap_alloc_new w _)]; rfl
  have HB0 : Hid (Below w.heap.size w (w.alloc (.cells #[.int .i64 (z : Int)] 3))) := hid ((Below.refl _ _).alloc (Nat.le_refl _) _)
  generalize w.alloc (.cells #[.int .i64 (z : Int)] 3) = wa at *
  refine (beyond_any w.heap.size z wa HZ.out hcz).mono ?_
  rintro e w1 ⟨rfl, rfl⟩
  clear hcz
  by_cases hbz : 1048576 < z
  · have hd : decide (1048576 < z) = true := decide_eq_true hbz
    go_wp2
    go_ret
    exact ⟨rfl, HB0.out⟩
  have hd : decide (1048576 < z) = false := decide_eq_false hbz
  have HLL := hid (HZL.out (by omega))
  clear HZL HZ hbz
  go_wp2_with fail
  refine (new_any wa).mono ?_
  rintro e w2 ⟨⟨g, rfl, hg, hr⟩, hb2⟩
  have HT0 := hid (p := Pa w w2.heap.size g [] (.slice none 0 0) w2) (by
    have h1 := HB0.out.size; have h2 := hb2.size
    exact ⟨HB0.out.trans (hb2.mono h1), hr, Ow.nil _ _, by omega, hr.lt, Nat.le_refl _, HK.out⟩)
  clear HB0 hg hr hb2 hd
  generalize w2.heap.size = B at *
  go_wp2_with fail
  go_loopw [4, 5] (fun x i wr => ∃ (k nx cx : Nat) (Ax : Option Addr) (X : List UInt8), x = .slice Ax nx cx ∧ i = .int .i64 k ∧ k ≤ n0 ∧ nx ≤ 100000000 ∧ Hid (X.length = nx) ∧ Hid (Pa w B g X (.slice Ax nx cx) wr)) (fun _ i _ => n0 - (intOf i).toNat)
  case atStart => exact ⟨0, 0, 0, none, [], rfl, rfl, Nat.zero_le _, by decide, hid rfl, HT0⟩
  case round =>
    clear HT0
    obtain ⟨k, nx, cx, Ax, X, rfl, rfl, hk, hnx, HX, HT⟩ := hrel
    by_cases hlt : k < n0
    · by_cases hmore : 20000 < nx
      · have hmi : (20000 : Int) < (nx : Int) := by omega
        go_wp2
        go_ret
        exact ⟨rfl, HT.out.old⟩
      · have hmi : ¬ (20000 : Int) < (nx : Int) := by omega
        have HNX := hid (show nx ≤ 20000 by omega)
        obtain ⟨go, o, rfl, hcell⟩ := HR.out.at HT.out.old k hlt
        obtain ⟨_, hl1, hrd1, hlc, hcb, hac⟩ := HR.out k hlt
        have HL1 := hid hl1
        have HRD := hid hrd1
        have HLC := hid hlc
        have HAC := hid hac
        have HLk := hid (HLL.out k hlt)
        have HLT := hid hlt
        have HCE := hid (p := ∀ W : World, Below w.heap.size w W → W.cell? ⟨go, o + k, none⟩ = some (.slice (A k) (L k) (C k))) (fun W hb => by
          obtain ⟨g', o', he, h3⟩ := HR.out.at hb k HLT.out
          injection he with he; injection he with h1 h2
          subst h1; subst h2
          exact h3)
        clear hl1 hrd1 hlc hcb hac hmore
        have htw := twin_any (A k) (C k) (xs k) wr (HRD.out.below HT.out.old (Nat.le_refl _)) (by rw [HL1.out]; have := HLk.out; omega)
        rw [HL1.out] at htw
        have HTW := hid htw
        clear htw
        go_wp2_with fail
        refine HTW.out.mono ?_
        rintro e w3 ⟨rfl, hrow, hb3⟩
        clear HTW
        have HVT := hid (p := ∀ k', (Value.slice Ax nx cx).ownBlock = some k' → k' ≠ wr.heap.size) (fun k' hk' => Nat.ne_of_lt (World.ownsRow.lt HT.out.o k' hk').2)
        have HT3 := hid (HT.out.on hb3)
        have HGT := hid (Nat.ne_of_lt HT.out.r.lt)
        have HWT := hid HT.out.old.size
        have HROW := hid hrow
        have HRT := hid (p := Rd w3 (some ⟨wr.heap.size, 0, none⟩) (xs k)) (by have := HROW.out.rd 0 (L k); rw [← HL1.out] at this; simpa using this)
        clear hrow hb3 HT
        generalize wr.heap.size = gt at *
        go_wp2_with fail
        refine (write_any g (some ⟨gt, 0, none⟩) (L k + 1) X (xs k) w3 (L k) HL1.out HT3.out.r HRT.out (fun _ ad e => by injection e with e; subst e; exact HGT.out.symm) (Nat.le_succ _) HT3.out.kt HT3.out.n3 (by rw [HX.out]; have h1 := HNX.out; have h2 := HLk.out; omega)).mono ?_
        rintro e w4 ⟨rfl, hr4, hg4⟩
        have HB4 := hid (below_grown HT3.out.old hg4 HT3.out.hg HT3.out.old.size)
        have HROW4 := hid (p := Row w4 gt (xs k ++ [77])) ((hg4.block gt HROW.out.lt (by intro e; injection e with e; exact HGT.out e.symm)).trans HROW.out)
        have HR4 := hid hr4
        have HG4 := hid hg4
        have hcell4 := HCE.out w4 HB4.out
        have hle := left_any (A k) gt (C k) (xs k) w4 HROW4.out (HRD.out.below HB4.out (Nat.le_refl _)) (by rw [HL1.out]; have := HLk.out; omega)
        rw [HL1.out] at hle
        have HLE := hid hle
        clear hle hr4 hg4
        go_wp2_with fail
        refine HLE.out.mono ?_
        rintro e w5 ⟨rfl, j5, rfl⟩
        clear HLE hcell4
        have HB5 := hid (below_drewN HB4.out j5)
        have HR5 := hid (p := RunIs (w4.drewN j5) g (X ++ xs k)) HR4.out
        have HG5 := hid (p := w3.grownBy (w4.drewN j5) (some g)) ⟨HG4.out.os, HG4.out.tape, HG4.out.output, HG4.out.size, HG4.out.block⟩
        have HROW5 := hid (p := Row (w4.drewN j5) gt (xs k ++ [77])) HROW4.out
        clear HB4 HROW4 HR4 HG4
        generalize w4.drewN j5 = w5 at *
        obtain ⟨A2, c2, n2, w6, R6, HP6, HN6, HROW6, HOB6⟩ := HT3.out.step HR5.out HG5.out (HRD.out.below HB5.out (Nat.le_refl _)) HL1.out HAC.out (by rw [HX.out]; have h1 := HNX.out; have h2 := HLk.out; omega) HROW5.out HVT.out
        have hcell5 := HCE.out w5 HB5.out
        have hlt := HLT.out
        go_wp2_with (at_builtin; refine step_append rfl (.tmp 45) (.tmp 49) rfl rfl _ _ rfl rfl (.slice A2 n2 c2) w6 R6.out ?_)
        have hLb := HLk.out
        go_loopw [7] (fun i wr => ∃ (m : Nat) (q : List UInt8), m ≤ L k ∧ i = .int .i64 m ∧ Hid (q.length = L k + 1) ∧ Hid (Row wr gt q) ∧ Hid (w6.grownBy wr (some gt))) (fun i _ => L k - (intOf i).toNat)
        case atStart => exact ⟨0, xs k ++ [77], Nat.zero_le _, rfl, hid (by simp [HL1.out]), HROW6, hid (World.grownBy.refl _ _)⟩
        case round =>
          obtain ⟨m, q, hm, rfl, HQ, HRq, HGq⟩ := hrel
          by_cases hml : m < L k
          · have hcm := HRq.out.cell m (by rw [HQ.out]; omega)
            have hfm := HRq.out.frozen m
            have hq8 := (q[m]'(by rw [HQ.out]; omega)).toNat_lt
            generalize (q[m]'(by rw [HQ.out]; omega)).toNat = x at *
            have HV := hid (p := (((UInt8.ofNat (x + 1)).toNat : Nat) : Int) = ((x : Int) + 1) % 256) (by rw [UInt8.toNat_ofNat']; omega)
            clear hq8
            go_wp2
            refine ⟨⟨m + 1, q.set m (UInt8.ofNat (x + 1)), by omega, by go_num, hid (by rw [List.length_set]; exact HQ.out), ?_, hid (grown_cell HGq.out _)⟩, by simp [intOf]; omega⟩
            have := HRq.out.set m (UInt8.ofNat (x + 1))
            rw [HV.out] at this
            exact hid this
          · obtain rfl : m = L k := by omega
            have HP7 := hid (HP6.out.grown HGq.out HWT.out HGT.out HOB6.out)
            go_wp2_with fail
            refine (sum_any g (X ++ xs k) wr HP7.out.r HP7.out.kt (by rw [List.length_append, HX.out, HL1.out]; have h1 := HNX.out; have h2 := HLk.out; omega)).mono ?_
            rintro e wS ⟨rfl, hbS⟩
            have HPS := hid (HP7.out.on hbS)
            clear hbS
            obtain ⟨AS, cS, hvS, h1S, _, h2S, h3S⟩ := HPS.out.o.form
            injection hvS with e1S e2S e3S
            subst e1S; subst e3S
            have H1S := hid h1S
            have H2S := hid h2S
            have H3S := hid h3S
            have HES := hid e2S
            clear h1S h2S h3S e2S
            go_wp2_with fail
            refine (refof_any A2 c2 (X ++ xs k) n2 wS HES.out.symm H2S.out (by rw [HES.out]; exact H1S.out) H3S.out (by rw [HES.out]; rw [List.length_append, HX.out, HL1.out]; have h1 := HNX.out; have h2 := HLk.out; omega)).mono ?_
            rintro e wU ⟨rfl, hbU⟩
            have HPU := hid (HPS.out.on hbU)
            clear hbU
            have qS := sha_length (X ++ xs k)
            have heq := fun W : World => eq_sum (sha (X ++ xs k)) (sha (X ++ xs k)) qS qS W
            simp only [decide_true] at heq
            clear qS
            generalize sha (X ++ xs k) = zS at *
            go_wp2
            exact ⟨⟨k + 1, n2, c2, A2, X ++ xs k, rfl, by go_num, HLT.out, by rw [HN6.out, HX.out]; have h1 := HNX.out; have h2 := HLk.out; omega, hid (by rw [List.length_append, HL1.out, HN6.out]), HPU⟩, by have := HLT.out; simp [intOf]; omega⟩
    · obtain rfl : k = n0 := by omega
      go_wp2_with fail
      refine (sum_any g (X) wr HT.out.r HT.out.kt (by rw [HX.out]; omega)).mono ?_
      rintro e wS ⟨rfl, hbS⟩
      have HPS := hid (HT.out.on hbS)
      clear hbS
      obtain ⟨AS, cS, hvS, h1S, _, h2S, h3S⟩ := HPS.out.o.form
      injection hvS with e1S e2S e3S
      subst e1S; subst e3S
      have H1S := hid h1S
      have H2S := hid h2S
      have H3S := hid h3S
      have HES := hid e2S
      clear h1S h2S h3S e2S
      go_wp2_with fail
      refine (refof_any Ax cx (X) nx wS HES.out.symm H2S.out (by rw [HES.out]; exact H1S.out) H3S.out (by rw [HES.out]; rw [HX.out]; omega)).mono ?_
      rintro e wU ⟨rfl, hbU⟩
      have HPU := hid (HPS.out.on hbU)
      clear hbU
      have qS := sha_length (X)
      have heq := fun W : World => eq_sum (sha (X)) (sha (X)) qS qS W
      simp only [decide_true] at heq
      clear qS
      generalize sha (X) = zS at *
      go_wp2
      go_ret
      exact ⟨rfl, HPU.out.old⟩
end Go.Proofs.YtikmhnlhaolbfaaDoor
