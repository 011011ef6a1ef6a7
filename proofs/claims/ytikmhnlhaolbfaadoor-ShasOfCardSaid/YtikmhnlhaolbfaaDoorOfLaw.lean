/-
  burrowlaw05.ShasOf, walked: it answers true. Conditions: the library's table holds what its text lays.
-/
import Derived.Test.YtikmhnlhaolbfaaDoorRefOf
import Derived.Test.YtikmhnlhaolbfaaDoorTwin
import Derived.Deep.Cut
namespace Go.Proofs.YtikmhnlhaolbfaaDoor
open Go.RowKit
set_option linter.unusedVariables false
set_option linter.unusedSimpArgs false

set_option maxRecDepth 100000 in
set_option maxHeartbeats 4000000 in
theorem of_law (A : Option Addr) (c : Nat) (bs : List UInt8) (n : Nat) (w : World) (hl : bs.length = n) (hr : Rd w A bs) (hcn : n ≤ c) (hcm : c ≤ 140737488351232) (hAc : A = none → c = 0) (hK : Kt w) :
    Calls Tryd.prog 6 #[.slice A n c] w fun e w' => e = .returned (.bool true) ∧ Below w.heap.size w w' := by
  subst hl
  have HR := hid hr
  have HCN := hid hcn
  have HAC := hid hAc
  have HK := hid hK
  clear hr hcn hcm hAc hK
  by_cases hbig : 50000 < bs.length
  · go_enter Tryd.func6, Tryd.ntmps6
    go_wp2
    go_ret
    exact ⟨rfl, Below.refl _ _⟩
  have HNB := hid (show bs.length ≤ 50000 by omega)
  go_enter Tryd.func6, Tryd.ntmps6
  go_wp2_with fail
  clear hbig
  refine (twin_any A c bs w HR.out (by have := HNB.out; omega)).mono ?_
  rintro e w1 ⟨rfl, hrow, hb1⟩
  have HROW := hid hrow
  have HB1 := hid hb1
  clear hrow hb1
  have HRT := hid (p := Rd w1 (some ⟨w.heap.size, 0, none⟩) bs) (by have := HROW.out.rd 0 bs.length; simpa using this)
  generalize hg0 : w.heap.size = g0 at *
  have HG0 := hid hg0
  clear hg0
  go_wp2_with fail
  refine (of_any (some ⟨g0, 0, none⟩) (bs.length + 1) bs w1 bs.length rfl HRT.out (Nat.le_succ _) (HK.out.on (by rw [HG0.out]; exact HB1.out)) (by have := HNB.out; omega)).mono ?_
  rintro e w2 ⟨rfl, hb2⟩
  have HB2 := hid hb2
  clear hb2
  go_wp2_with fail
  have hB2 : Below w.heap.size w w2 := by
    have h1 := HB1.out
    rw [← HG0.out] at h1
    exact h1.trans (HB2.out.mono h1.size)
  have HBW := hid hB2
  refine (refof_any A c bs bs.length w2 rfl (HR.out.below hB2 (Nat.le_refl _)) HCN.out HAC.out (by have := HNB.out; omega)).mono ?_
  rintro e w3 ⟨rfl, hb3⟩
  have HB3 := hid (HBW.out.trans (hb3.mono HBW.out.size))
  have HROW3 := hid (p := Row w3 g0 (bs ++ [77])) ((HROW.out.below HB2.out HROW.out.lt).below hb3 (Nat.lt_of_lt_of_le HROW.out.lt HB2.out.size))
  clear hb3 hB2
  have q := sha_length bs
  have heq := fun W : World => eq_sum (sha bs) (sha bs) q q W
  simp only [decide_true] at heq
  clear q
  generalize sha bs = z at *
  go_wp2_with fail
  refine (left_any A g0 c bs w3 HROW3.out (HR.out.below HB3.out (Nat.le_refl _)) (by have := HNB.out; omega)).mono ?_
  rintro e w4 ⟨rfl, k, rfl⟩
  clear heq
  go_wp2
  go_ret
  exact ⟨rfl, below_drewN HB3.out k⟩
end Go.Proofs.YtikmhnlhaolbfaaDoor
