/-
  burrowlaw02.turned and burrowlaw02.all, walked. Conditions: none.
-/
import Derived.Test.YtmhpeeicclbcmaaShift
namespace Go.Proofs.Ytmhpeeicclbcmaa
open Go.RowKit
set_option linter.unusedVariables false

theorem xor_word (a : Nat) (ha : a < 18446744073709551616) : bits .xor .u64 IntKind.u64.max (a : Int) = ((18446744073709551615 - a : Nat) : Int) := by
  have e : IntKind.u64.max = ((18446744073709551615 : Nat) : Int) := by decide
  rw [e, u64_xor_nat _ _ (by decide) ha]
  congr 1
  have h : (BitVec.allOnes 64 ^^^ BitVec.ofNat 64 a).toNat = (~~~(BitVec.ofNat 64 a)).toNat := by rw [BitVec.allOnes_xor]
  rw [BitVec.toNat_xor, BitVec.toNat_not, BitVec.toNat_allOnes, BitVec.toNat_ofNat, Nat.mod_eq_of_lt (by exact ha)] at h
  exact h
theorem turned_words (x : Nat) (hx : x < 2 ^ 256) : wd (2 ^ 256 - 1 - x) 0 = 18446744073709551615 - wd x 0 ∧ wd (2 ^ 256 - 1 - x) 1 = 18446744073709551615 - wd x 1 ∧ wd (2 ^ 256 - 1 - x) 2 = 18446744073709551615 - wd x 2 ∧ wd (2 ^ 256 - 1 - x) 3 = 18446744073709551615 - wd x 3 := by
  have t := v4_turned (wd_lt x 0) (wd_lt x 1) (wd_lt x 2) (wd_lt x 3)
  rw [v4_wd x hx] at t
  have e : 2 ^ 256 - 1 - x = v4 (18446744073709551615 - wd x 0) (18446744073709551615 - wd x 1) (18446744073709551615 - wd x 2) (18446744073709551615 - wd x 3) := by
    rw [← t]; omega
  rw [e]
  exact wd_v4 (by omega) (by omega) (by omega) (by omega)

set_option maxRecDepth 100000 in
set_option maxHeartbeats 800000 in
theorem turned_any (x : Nat) (w : World) (hx : x < 2 ^ 256) : Calls Try.prog 26 #[num x] w fun e w' => e = .returned (num (2 ^ 256 - 1 - x)) ∧ Below w.heap.size w w' := by
  have turned_word := turned_words x hx
  have v0 : bits .xor .u64 IntKind.u64.max (wd x 0 : Int) = (wd (2 ^ 256 - 1 - x) 0 : Int) := by rw [xor_word _ (wd_lt x 0), turned_word.1]
  have v1 : bits .xor .u64 IntKind.u64.max (wd x 1 : Int) = (wd (2 ^ 256 - 1 - x) 1 : Int) := by rw [xor_word _ (wd_lt x 1), turned_word.2.1]
  have v2 : bits .xor .u64 IntKind.u64.max (wd x 2 : Int) = (wd (2 ^ 256 - 1 - x) 2 : Int) := by rw [xor_word _ (wd_lt x 2), turned_word.2.2.1]
  have v3 : bits .xor .u64 IntKind.u64.max (wd x 3 : Int) = (wd (2 ^ 256 - 1 - x) 3 : Int) := by rw [xor_word _ (wd_lt x 3), turned_word.2.2.2]
  generalize 2 ^ 256 - 1 - x = y at *
  clear turned_word
  go_enter Try.func26, Try.ntmps26
  go_wp2
  refine wp_loop_rounds 5 ?_
  rw [rounds_succ]
  go_wp2
  rw [rounds_succ]
  go_wp2
  rw [rounds_succ]
  go_wp2
  rw [rounds_succ]
  go_wp2
  rw [rounds_succ]
  go_wp2
  refine bodyPost_ret (v := num y) (by simp [results, Try.results26, go_sem]) rfl ⟨rfl, ?_⟩
  repeat (first | exact Below.refl _ _ | refine Below.drew ?_ | refine bal ?_ _)

/-- a long number stored into a box -/
abbrev fil (w : World) (g x : Nat) : World := (((w.setCell ⟨g, 0, none⟩ (.int .u64 (wd x 0 : Int))).setCell ⟨g, 1, none⟩ (.int .u64 (wd x 1 : Int))).setCell ⟨g, 2, none⟩ (.int .u64 (wd x 2 : Int))).setCell ⟨g, 3, none⟩ (.int .u64 (wd x 3 : Int))
theorem fil_nm {w : World} {g : Nat} {a b c d : Value} (x : Nat) (h : Fr w g a b c d) : Nm (fil w g x) g x := (((h.set0 _).set1 _).set2 _).set3 _
theorem fil_below {w0 w : World} {g B : Nat} (x : Nat) (hb : Below B w0 w) (hg : B ≤ g) : Below B w0 (fil w g x) := (((hb.setCell (p := ⟨g, 0, none⟩) hg _).setCell (p := ⟨g, 1, none⟩) hg _).setCell (p := ⟨g, 2, none⟩) hg _).setCell (p := ⟨g, 3, none⟩) hg _
theorem fil_other {w : World} {g g' : Nat} (x y : Nat) (h : Nm w g y) (hne : g ≠ g') : Nm (fil w g' x) g y :=
  ((((Below.heap_setCell _ ⟨g', 3, none⟩ _ g hne).trans (Below.heap_setCell _ ⟨g', 2, none⟩ _ g hne)).trans (Below.heap_setCell _ ⟨g', 1, none⟩ _ g hne)).trans (Below.heap_setCell _ ⟨g', 0, none⟩ _ g hne)).trans h
theorem Nm.fr {w : World} {g x : Nat} (h : Nm w g x) : Fr w g (.int .u64 (wd x 0 : Int)) (.int .u64 (wd x 1 : Int)) (.int .u64 (wd x 2 : Int)) (.int .u64 (wd x 3 : Int)) := h

theorem all_any (w : World) : Calls Try.prog 27 #[] w fun e w' => e = .returned (num (2 ^ 256 - 1)) ∧ Below w.heap.size w w' := by
  go_enter Try.func27, Try.ntmps27
  go_wp2_with fail
  refine (none_any _).mono ?_
  rintro e w1 ⟨rfl, hb⟩
  go_wp2_with fail
  refine (turned_any 0 _ (by decide)).mono ?_
  rintro e w2 ⟨rfl, hb2⟩
  rw [Nat.sub_zero]
  generalize hy : 2 ^ 256 - 1 = y at *
  have HY := hid hy
  clear hy
  have HF := hid (((Fr.new w (.int .u64 0) (.int .u64 0) (.int .u64 0) (.int .u64 0)).on hb).on hb2)
  have HB := hid (bthen (bthen (bal (Below.refl w.heap.size w) (.cells #[.int .u64 0, .int .u64 0, .int .u64 0, .int .u64 0] 24)) hb) hb2)
  obtain ⟨c0, c1, c2, c3⟩ := HF.out.cell
  have cf := HF.out.frozen
  go_wp2
  have HN := hid (fil_nm y HF.out)
  have HB2 := hid (fil_below y HB.out (Nat.le_refl w.heap.size))
  change bodyPost _ _ _ _ _ (fil w2 w.heap.size y)
  generalize fil w2 w.heap.size y = wz at *
  obtain ⟨g0, g1, g2, g3⟩ := HN.out.cell
  exact bodyPost_ret (v := num y) (by simp [results, Try.results27, go_sem, g0, g1, g2, g3]) rfl ⟨by rw [HY.out], HB2.out⟩
end Go.Proofs.Ytmhpeeicclbcmaa
