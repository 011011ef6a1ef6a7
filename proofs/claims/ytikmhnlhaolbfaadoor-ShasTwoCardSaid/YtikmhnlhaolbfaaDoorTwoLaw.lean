/-
  burrowlaw05.ShasTwo, walked: it answers true. Conditions: the library's table holds what its text lays.
-/
import Derived.Test.YtikmhnlhaolbfaaDoorTw
import Derived.Test.YtikmhnlhaolbfaaDoorCb
import Derived.Test.YtikmhnlhaolbfaaDoorOpenRows
import Derived.Deep.Cut
namespace Go.Proofs.YtikmhnlhaolbfaaDoor
open Go.RowKit
set_option linter.unusedVariables false
set_option linter.unusedSimpArgs false

/-- a row of the list, still as it came -/
theorem Rws.at {w wr : World} {a0 : Option Addr} {n : Nat} {A : Nat → Option Addr} {L C : Nat → Nat} {xs : Nat → List UInt8} (h : Rws w a0 n A L C xs) (hb : Below w.heap.size w wr) (r : Nat) (hr : r < n) :
    ∃ g o, a0 = some ⟨g, o, none⟩ ∧ wr.cell? ⟨g, o + r, none⟩ = some (.slice (A r) (L r) (C r)) := by
  obtain ⟨⟨g, o, h1, h2, h3⟩, _⟩ := h r hr
  exact ⟨g, o, h1, (hb.cell (p := ⟨g, o + r, none⟩) h2).trans h3⟩
theorem two_alive (w : World) (hK : Kt w) (a0 at' : Option Addr) (n0 c0 nt ct : Nat) (hbig : 40 < n0 ∨ (n0 ≤ 40 ∧ 10000 < nt)) : Calls Tryd.prog 11 #[.slice a0 n0 c0, .slice at' nt ct] w fun e w' => e = .returned (.bool true) ∧ Below w.heap.size w w' := by
  have HK := hid hK
  clear hK
  rcases hbig with h | ⟨h, h2⟩
  all_goals
    go_enter Tryd.func11, Tryd.ntmps11
    go_wp2_with fail
    refine (alive_any w HK.out).mono ?_
    rintro e w1 ⟨rfl, hb1⟩
    have HB := hid hb1
    clear hb1
    go_wp2_with fail
    refine (alive_any w1 (HK.out.on HB.out)).mono ?_
    rintro e w2 ⟨rfl, hb2⟩
    have HB2 := hid (HB.out.trans (hb2.mono HB.out.size))
    clear hb2
    go_wp2
    go_ret
    exact ⟨rfl, HB2.out⟩
set_option maxRecDepth 100000 in
set_option maxHeartbeats 4000000 in
theorem two_law (a0 : Option Addr) (c0 n0 : Nat) (A : Nat → Option Addr) (L C : Nat → Nat) (xs : Nat → List UInt8) (at0 : Option Addr) (ct : Nat) (tb : List UInt8) (nt : Nat) (w : World)
    (hR : Rws w a0 n0 A L C xs) (hc0 : n0 ≤ c0) (hlt : tb.length = nt) (hrt : Rd w at0 tb) (hct : nt ≤ ct) (hcm : ct ≤ 140737488351232) (hAc : at0 = none → ct = 0) (hK : Kt w) :
    Calls Tryd.prog 11 #[.slice a0 n0 c0, .slice at0 nt ct] w fun e w' => e = .returned (.bool true) ∧ Below w.heap.size w w' := by
  by_cases hbig : 40 < n0 ∨ (n0 ≤ 40 ∧ 10000 < nt)
  · exact two_alive w hK a0 at0 n0 c0 nt ct hbig
  have hn40 : n0 ≤ 40 := by omega
  have hnt : nt ≤ 10000 := by omega
  have HR := hid hR
  have HLT := hid hlt
  have HRT := hid hrt
  have HK := hid hK
  have HN0 := hid hn40
  have HNT := hid hnt
  clear hR hc0 hlt hrt hct hcm hAc hK hbig
  go_enter Tryd.func11, Tryd.ntmps11
  go_wp2_with fail
  refine (alive_any w HK.out).mono ?_
  rintro e wa ⟨rfl, hba⟩
  have HBA := hid hba
  clear hba
  go_wp2_with fail
  refine (new_any wa).mono ?_
  rintro e w1 ⟨⟨ga, rfl, hga, hra⟩, hb1⟩
  have HGA := hid hga
  have HRA := hid hra
  have HB1 := hid hb1
  clear hga hra hb1
  go_wp2_with fail
  refine (new_any w1).mono ?_
  rintro e w2 ⟨⟨gb, rfl, hgb, hrb⟩, hb2⟩
  have HT0 := hid (p := Tw w w2.heap.size ga gb [] [] (.slice none 0 0) (.slice none 0 0) w2) (by
    have h1 := HBA.out.size; have h2 := HB1.out.size; have h3 := hb2.size; have h4 := HGA.out; have h5 := HRA.out.lt; have h6 := hrb.lt
    exact ⟨(HBA.out.trans (HB1.out.mono h1)).trans (hb2.mono (by omega)), HRA.out.heap (hb2.block _ h5), hrb, Ow.nil _ _, Ow.nil _ _, by omega, by omega, by omega, by omega, hrb.lt, Nat.le_refl _, HK.out, fun k hk => by cases hk⟩)
  clear HBA HGA HRA HB1 hgb hrb hb2
  generalize w2.heap.size = B at *
  go_wp2_with fail
  go_loopw [7, 8, 9] (fun x y i wr => ∃ (k nx cx ny cy : Nat) (Ax Ay : Option Addr) (X Y : List UInt8), x = .slice Ax nx cx ∧ y = .slice Ay ny cy ∧ i = .int .i64 k ∧ k ≤ n0 ∧ nx + ny ≤ 30000 ∧ Hid (X.length = nx) ∧ Hid (Y.length = ny) ∧ Hid (Tw w B ga gb X Y (.slice Ax nx cx) (.slice Ay ny cy) wr)) (fun _ _ i _ => n0 - (intOf i).toNat)
  case atStart => exact ⟨0, 0, 0, 0, 0, none, none, [], [], rfl, rfl, rfl, Nat.zero_le _, by decide, hid rfl, hid rfl, HT0⟩
  case round =>
    clear HT0
    obtain ⟨k, nx, cx, ny, cy, Ax, Ay, X, Y, rfl, rfl, rfl, hk, hxy, HX, HY, HT⟩ := hrel
    by_cases hlt : k < n0
    · obtain ⟨g, o, rfl, hcell⟩ := HR.out.at HT.out.old k hlt
      obtain ⟨_, hl1, hrd1, hlc, hcb, hac⟩ := HR.out k hlt
      have HL1 := hid hl1
      have HRD := hid hrd1
      have HLC := hid hlc
      have HAC := hid hac
      clear hl1 hrd1 hac
      have hw1 : IntKind.i64.wrap ((nx : Int) + (ny : Int)) = ((nx : Int) + (ny : Int)) := by rw [IntKind.wrap_i64]; omega
      have hw2 : IntKind.i64.wrap ((nx : Int) + (ny : Int) + (L k : Int)) = ((nx : Int) + (ny : Int) + (L k : Int)) := by rw [IntKind.wrap_i64]; omega
      clear hlc hcb
      by_cases hmore : 30000 < nx + ny + L k
      · have hmi : (30000 : Int) < (nx : Int) + (ny : Int) + (L k : Int) := by omega
        go_wp2
        go_ret
        exact ⟨rfl, HT.out.old⟩
      · have hmi : ¬ (30000 : Int) < (nx : Int) + (ny : Int) + (L k : Int) := by omega
        have HSM := hid (show nx + ny + L k ≤ 30000 by omega)
        have HLTk := hid hlt
        have HXY := hid hxy
        clear hmore
        by_cases hto : k < nt
        · obtain ⟨gt, ot, rfl, hgt, hby⟩ := HRT.out (by rw [HLT.out]; omega)
          have hbk := (HT.out.old.cell (p := ⟨gt, ot + k, none⟩) hgt).trans (hby k (by rw [HLT.out]; exact hto))
          clear hby hgt
          have hx8 := (tb[k]'(by rw [HLT.out]; exact hto)).toNat_lt
          generalize (tb[k]'(by rw [HLT.out]; exact hto)).toNat = x at *
          by_cases hodd : x % 2 = 1
          · have hxi : (x : Int) % 2 = 1 := by omega
            have hxt : (x : Int).tmod 2 = 1 := by rw [Int.tmod_eq_emod_of_nonneg (by omega)]; exact hxi
            clear hodd hx8
            go_wp2_with fail
            refine (writeB_tw HT (A k) (C k) (L k) (xs k) HL1.out (HRD.out.below HT.out.old (Nat.le_refl _)) (fun hp => par_block HRD.out (by rw [HL1.out]; exact hp) HT.out.hb) HLC.out (by rw [HY.out]; have := HSM.out; omega)).mono ?_
            rintro e w3 ⟨rfl, hr3, hg3⟩
            have HB3 := hid (below_grown HT.out.old hg3.out HT.out.hb HT.out.old.size)
            obtain ⟨A2, c2, n2, w4, R, HT4, HN2⟩ := HT.out.stepB hr3.out hg3.out (HRD.out.below HB3.out (Nat.le_refl _)) HL1.out HAC.out (by rw [HY.out]; have := HSM.out; omega)
            have hcell3 : w3.cell? ⟨g, o + k, none⟩ = some (.slice (A k) (L k) (C k)) := by
              obtain ⟨g', o', he, h3⟩ := HR.out.at HB3.out k HLTk.out
              injection he with he; injection he with h1 h2
              subst h1; subst h2
              exact h3
            have hlt := HLTk.out
            go_wp2_with (at_builtin; refine step_append rfl (.tmp 61) (.tmp 65) rfl rfl _ _ rfl rfl (.slice A2 n2 c2) w4 R.out ?_)
            exact ⟨⟨k + 1, nx, cx, n2, c2, Ax, A2, X, Y ++ xs k, rfl, rfl, by go_num, HLTk.out, by rw [HN2.out, HY.out]; have := HSM.out; omega, HX, hid (by rw [List.length_append, HL1.out, HN2.out]), HT4⟩, by have := HLTk.out; simp [intOf]; omega⟩
          · have hxi : (x : Int) % 2 = 0 := by omega
            have hxt : (x : Int).tmod 2 = 0 := by rw [Int.tmod_eq_emod_of_nonneg (by omega)]; exact hxi
            clear hodd hx8
            go_wp2_with fail
            refine (writeA_tw HT (A k) (C k) (L k) (xs k) HL1.out (HRD.out.below HT.out.old (Nat.le_refl _)) (fun hp => par_block HRD.out (by rw [HL1.out]; exact hp) HT.out.ha) HLC.out (by rw [HX.out]; have := HSM.out; omega)).mono ?_
            rintro e w3 ⟨rfl, hr3, hg3⟩
            have HB3 := hid (below_grown HT.out.old hg3.out HT.out.ha HT.out.old.size)
            obtain ⟨A2, c2, n2, w4, R, HT4, HN2⟩ := HT.out.stepA hr3.out hg3.out (HRD.out.below HB3.out (Nat.le_refl _)) HL1.out HAC.out (by rw [HX.out]; have := HSM.out; omega)
            have hcell3 : w3.cell? ⟨g, o + k, none⟩ = some (.slice (A k) (L k) (C k)) := by
              obtain ⟨g', o', he, h3⟩ := HR.out.at HB3.out k HLTk.out
              injection he with he; injection he with h1 h2
              subst h1; subst h2
              exact h3
            have hlt := HLTk.out
            go_wp2_with (at_builtin; refine step_append rfl (.tmp 73) (.tmp 77) rfl rfl _ _ rfl rfl (.slice A2 n2 c2) w4 R.out ?_)
            exact ⟨⟨k + 1, n2, c2, ny, cy, A2, Ay, X ++ xs k, Y, rfl, rfl, by go_num, HLTk.out, by rw [HN2.out, HX.out]; have := HSM.out; omega, hid (by rw [List.length_append, HL1.out, HN2.out]), HY, HT4⟩, by have := HLTk.out; simp [intOf]; omega⟩
        · have hti : ¬ (k : Int) < (nt : Int) := by omega
          go_wp2_with fail
          refine (writeA_tw HT (A k) (C k) (L k) (xs k) HL1.out (HRD.out.below HT.out.old (Nat.le_refl _)) (fun hp => par_block HRD.out (by rw [HL1.out]; exact hp) HT.out.ha) HLC.out (by rw [HX.out]; have := HSM.out; omega)).mono ?_
          rintro e w3 ⟨rfl, hr3, hg3⟩
          have HB3 := hid (below_grown HT.out.old hg3.out HT.out.ha HT.out.old.size)
          obtain ⟨A2, c2, n2, w4, R, HT4, HN2⟩ := HT.out.stepA hr3.out hg3.out (HRD.out.below HB3.out (Nat.le_refl _)) HL1.out HAC.out (by rw [HX.out]; have := HSM.out; omega)
          have hcell3 : w3.cell? ⟨g, o + k, none⟩ = some (.slice (A k) (L k) (C k)) := by
            obtain ⟨g', o', he, h3⟩ := HR.out.at HB3.out k HLTk.out
            injection he with he; injection he with h1 h2
            subst h1; subst h2
            exact h3
          have hlt := HLTk.out
          go_wp2_with (at_builtin; refine step_append rfl (.tmp 73) (.tmp 77) rfl rfl _ _ rfl rfl (.slice A2 n2 c2) w4 R.out ?_)
          exact ⟨⟨k + 1, n2, c2, ny, cy, A2, Ay, X ++ xs k, Y, rfl, rfl, by go_num, HLTk.out, by rw [HN2.out, HX.out]; have := HSM.out; omega, hid (by rw [List.length_append, HL1.out, HN2.out]), HY, HT4⟩, by have := HLTk.out; simp [intOf]; omega⟩
    · obtain rfl : k = n0 := by omega
      go_wp2_with fail
      refine (sumA_tw HT (by rw [HX.out]; omega)).mono ?_
      rintro e w3 ⟨rfl, H3⟩
      go_wp2_with fail
      refine (of_tw H3 Ax cx nx X H3.out.ox (by rw [HX.out]; omega)).mono ?_
      rintro e w4 ⟨rfl, H4⟩
      have q1 := sha_length X
      have q2 := sha_length Y
      have heq1 := fun W : World => eq_sum (sha X) (sha X) q1 q1 W
      have heq2 := fun W : World => eq_sum (sha Y) (sha Y) q2 q2 W
      simp only [decide_true] at heq1 heq2
      clear q1 q2 H3
      go_wp2_with fail
      refine (sumB_tw H4 (by rw [HY.out]; omega)).mono ?_
      rintro e w5 ⟨rfl, H5⟩
      go_wp2_with fail
      refine (of_tw H5 Ay cy ny Y H5.out.oy (by rw [HY.out]; omega)).mono ?_
      rintro e w6 ⟨rfl, H6⟩
      go_wp2
      go_ret
      exact ⟨rfl, H6.out.old⟩
end Go.Proofs.YtikmhnlhaolbfaaDoor
