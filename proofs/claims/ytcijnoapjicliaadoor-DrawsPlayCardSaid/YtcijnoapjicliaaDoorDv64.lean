/-
  math/bits.LeadingZeros64, Div64, Rem64, Mul64, walked. Conditions: Div64's: the high word is below what is divided by.
-/
import Derived.Test.YtcijnoapjicliaaDoorLen
import Derived.Test.YtcijnoapjicliaaDoorPkA
import Derived.Shelf.Small.Bits
import Derived.Shelf.Bits.Mul64
import Derived.Deep.DeepCutAuto
import Derived.Deep.CutBlock
namespace Go.Proofs.YtcijnoapjicliaaDoor
open Go.RowKit Go.Shelf
set_option linter.unusedVariables false

def lz_ren : Go.Shelf.Ren := ⟨fun | 129 => 93 | 134 => 89 | n => n, fun | 53 => 24 | 3 => 3 | 4 => 4 | 46 => 77 | 5 => 5 | 9 => 9 | n => n, fun | n => n⟩
theorem lz_lays : Go.Proofs.Lays.n134 Tryd.prog lz_ren := {
  mixed := by kernel_rfl
  f129 := Tryd.func93.trans (congrArg some (by kernel_rfl))
  f134 := Tryd.func89.trans (congrArg some (by kernel_rfl))
  t3 := Tryd.underlying3
  a3 := Tryd.isAgg3
  z3 := Tryd.sizeOf3
  v3 := Tryd.zeroValue3
  t4 := Tryd.underlying4
  a4 := Tryd.isAgg4
  z4 := Tryd.sizeOf4
  v4 := Tryd.zeroValue4
  t5 := Tryd.underlying5
  a5 := Tryd.isAgg5
  z5 := Tryd.sizeOf5
  v5 := Tryd.zeroValue5
  t9 := Tryd.underlying9
  a9 := Tryd.isAgg9
  z9 := Tryd.sizeOf9
  v9 := Tryd.zeroValue9
  t46 := Tryd.underlying77
  a46 := Tryd.isAgg77
  z46 := Tryd.sizeOf77
  v46 := Tryd.zeroValue77
  t53 := Tryd.underlying24
  a53 := Tryd.isAgg24
  z53 := Tryd.sizeOf24
  v53 := Tryd.zeroValue24 }
theorem lz_any (x s : Nat) (w : World) (hx : x < 18446744073709551616) (hs : s + nbits x = 64) : Calls Tryd.prog 89 #[.int .u64 (x : Int)] w fun e w' => e = .returned (.int .i64 (s : Int)) ∧ w' = w := by
  refine (Any.bits_LeadingZeros64 lz_lays (x : Int) w (by omega) (by omega)).mono fun e w' ⟨he, hw⟩ => ?_
  rw [he, hw, Int.toNat_natCast, bitLen_nbits x hx]
  refine ⟨?_, rfl⟩
  rw [show (64 : Int) - (nbits x : Int) = (s : Int) by omega]
/-- a round's numbers do not go round -/
theorem half_wraps {y1 y0 q r u1 : Nat} (hq : q ≤ 4294967297) (hr : r < 4294967296) (h1 : y1 < 4294967296) (h0 : y0 < 4294967296) (hu : u1 < 4294967296) :
    ∃ z1 z2 : Nat, IntKind.u64.wrap ((q : Int) * (y0 : Int)) = (z2 : Int) ∧ IntKind.u64.wrap (4294967296 * (r : Int)) = 4294967296 * (r : Int) ∧ IntKind.u64.wrap (4294967296 * (r : Int) + (u1 : Int)) = (z1 : Int) ∧ z1 = r * 4294967296 + u1 ∧ z2 = q * y0 := by
  have a : q * y0 ≤ 4294967297 * 4294967295 := Nat.mul_le_mul hq (by omega)
  refine ⟨_, _, ?_, ?_, ?_, rfl, rfl⟩
  · rw [← Int.natCast_mul, IntWalk.u64_in _ (by omega)]
  · rw [IntWalk.u64_in _ (by omega)]
  · rw [IntWalk.u64_in _ (by omega)]; omega
theorem half_down {u u1 y1 y0 q r d : Nat} (X : y1 < 4294967296 ∧ y0 < 4294967296 ∧ 2147483648 ≤ y1 ∧ u1 < 4294967296 ∧ u < y1 * 4294967296 + y0 ∧ (u * 4294967296 + u1) / (y1 * 4294967296 + y0) = d) (L : u = q * y1 + r ∧ d ≤ q ∧ q ≤ 4294967297 ∧ r < 4294967296) (ht : 4294967296 ≤ q ∨ r * 4294967296 + u1 < q * y0) :
    ∃ q' r' : Nat, IntKind.u64.wrap ((q : Int) - 1) = (q' : Int) ∧ IntKind.u64.wrap ((r : Int) + (y1 : Int)) = (r' : Int) ∧ q' < q ∧ (4294967296 ≤ r' → d = q') ∧ (r' < 4294967296 → u = q' * y1 + r' ∧ d ≤ q' ∧ q' ≤ 4294967297 ∧ r' < 4294967296) := by
  obtain ⟨x1, x2, x3, x4, x5, x6⟩ := X
  obtain ⟨l1, l2, l3, l4⟩ := L
  have hp : 0 < y1 * 4294967296 + y0 := by omega
  have hm := half_most x5 x4
  have hl : d ≤ q - 1 ∧ 1 ≤ q := by
    rw [← x6] at l2 ⊢
    refine half_less hp hm l2 ?_
    rcases ht with ht | ht
    · exact Or.inl ht
    · exact Or.inr ((half_test l1).1 ht)
  obtain ⟨k, rfl⟩ : ∃ k, q = k + 1 := ⟨q - 1, by omega⟩
  rw [Nat.add_sub_cancel] at hl
  have e : u = k * y1 + (r + y1) := by rw [l1, Nat.succ_mul]; omega
  refine ⟨k, r + y1, ?_, ?_, by omega, fun hr => ?_, fun hr => ⟨e, hl.1, by omega, hr⟩⟩
  · rw [IntWalk.u64_in _ (by omega)]; omega
  · rw [IntWalk.u64_in _ (by omega)]; omega
  · have := half_broken (u1 := u1) e hp x2 (by omega) hr (by rw [x6]; exact hl.1)
    rw [this, x6]
theorem half_stop {u u1 y1 y0 q r d : Nat} (X : y1 < 4294967296 ∧ y0 < 4294967296 ∧ 2147483648 ≤ y1 ∧ u1 < 4294967296 ∧ u < y1 * 4294967296 + y0 ∧ (u * 4294967296 + u1) / (y1 * 4294967296 + y0) = d) (L : u = q * y1 + r ∧ d ≤ q ∧ q ≤ 4294967297 ∧ r < 4294967296) (hq : q < 4294967296) (ht : ¬ r * 4294967296 + u1 < q * y0) : d = q := by
  obtain ⟨x1, x2, x3, x4, x5, x6⟩ := X
  obtain ⟨l1, l2, l3, l4⟩ := L
  rw [← x6] at l2
  have := half_done (by omega) l2 (by have := mt (half_test (u1 := u1) (y0 := y0) l1).2 ht; omega)
  rw [this, x6]
/-- what stands at the beginning of a half -/
theorem half_start {u u1 y1 y0 d : Nat} (x1 : y1 < 4294967296) (x2 : y0 < 4294967296) (x3 : 2147483648 ≤ y1) (x4 : u1 < 4294967296) (x5 : u < y1 * 4294967296 + y0) (x6 : (u * 4294967296 + u1) / (y1 * 4294967296 + y0) = d) :
    ∃ q r : Nat, IntKind.u64.wrap ((u : Int) / (y1 : Int)) = (q : Int) ∧ IntKind.u64.wrap ((u : Int) - IntKind.u64.wrap ((q : Int) * (y1 : Int))) = (r : Int) ∧ (u = q * y1 + r ∧ d ≤ q ∧ q ≤ 4294967297 ∧ r < 4294967296) := by
  obtain ⟨f1, f2, f3⟩ := half_first x3 x2 x5
  have e0 : ((u : Int) / (y1 : Int)) = ((u / y1 : Nat) : Int) := by simp
  have hlast : d ≤ u / y1 := by
    rw [← x6]
    refine Nat.le_of_lt_succ (Nat.div_lt_of_lt_mul ?_)
    have : u + 1 ≤ (u / y1 + 1) * y1 := by rw [Nat.add_mul]; omega
    have h2 : (u + 1) * 4294967296 ≤ (u / y1 + 1) * y1 * 4294967296 := Nat.mul_le_mul_right _ this
    have h3 : (u / y1 + 1) * (y1 * 4294967296 + y0) = (u / y1 + 1) * y1 * 4294967296 + (u / y1 + 1) * y0 := by rw [Nat.mul_add, Nat.mul_assoc]
    have h4 : Nat.succ (u / y1) = u / y1 + 1 := rfl
    rw [h4, Nat.mul_comm (y1 * 4294967296 + y0), h3]
    omega
  rw [e0]
  generalize u / y1 = q at *
  generalize u % y1 = r at *
  have hz : IntKind.u64.wrap ((q : Int) * (y1 : Int)) = ((q * y1 : Nat) : Int) := by
    rw [← Int.natCast_mul]
    generalize q * y1 = z at *
    rw [IntWalk.u64_in _ (by omega)]
  refine ⟨q, r, ?_, ?_, f2, hlast, f1, by omega⟩
  · rw [IntWalk.u64_in _ (by omega)]
  · rw [hz]
    generalize q * y1 = z at *
    rw [IntWalk.u64_in _ (by omega)]; omega
theorem half_parts (Y : Nat) (h : Y < 18446744073709551616) : ∃ a b : Nat, (Y : Int) / 4294967296 = (a : Int) ∧ bits .and .u64 (Y : Int) 4294967295 = (b : Int) ∧ a * 4294967296 + b = Y ∧ a < 4294967296 ∧ b < 4294967296 := by
  refine ⟨Y / 4294967296, Y % 4294967296, by omega, Mul64.maskN Y h, by omega, by omega, by omega⟩
theorem two_halves (u u1 u0 : Nat) : u * 18446744073709551616 + (u1 * 4294967296 + u0) = (u * 4294967296 + u1) * 4294967296 + u0 := by omega
/-- what is divided, and what by, moved up so that the highest bit is set -/
theorem moved_up {hi lo y s t : Nat} (hy : hi < y) (hl : lo < 18446744073709551616) (hs : s + nbits y = 64) (ht : t + s = 64) :
    ∃ Y u l : Nat, IntKind.u64.wrap ((y : Int) * 2 ^ s) = (Y : Int) ∧ bits .or .u64 (IntKind.u64.wrap ((hi : Int) * 2 ^ s)) ((lo : Int) / 2 ^ t) = (u : Int) ∧ IntKind.u64.wrap ((lo : Int) * 2 ^ s) = (l : Int) ∧ Y = y * 2 ^ s ∧ 9223372036854775808 ≤ Y ∧ Y < 18446744073709551616 ∧ u < Y ∧ l < 18446744073709551616 ∧ (hi * 18446744073709551616 + lo) * 2 ^ s = u * 18446744073709551616 + l := by
  have h1 := nbits_lt y
  have h2 := nbits_le y (by omega)
  have hW : (18446744073709551616 : Nat) = 2 ^ t * 2 ^ s := by rw [← Nat.pow_add, ht]
  have hps := Nat.two_pow_pos s
  have hpt := Nat.two_pow_pos t
  have hY1 : y * 2 ^ s < 18446744073709551616 := by
    have := Nat.mul_lt_mul_of_pos_right h1 hps
    rwa [← Nat.pow_add, show nbits y + s = 64 by omega] at this
  have hb := nbits_pos y (by omega)
  have hY2 : 9223372036854775808 ≤ y * 2 ^ s := by
    have := Nat.mul_le_mul_right (2 ^ s) h2
    rwa [← Nat.pow_add, show nbits y - 1 + s = 63 by omega] at this
  have hu : hi * 2 ^ s < 18446744073709551616 := Nat.lt_of_le_of_lt (Nat.mul_le_mul_right _ (Nat.le_of_lt hy)) hY1
  have hlo : lo / 2 ^ t < 2 ^ s := by rw [Nat.div_lt_iff_lt_mul hpt, Nat.mul_comm, ← hW]; exact hl
  have hlo2 : lo / 2 ^ t < 18446744073709551616 := Nat.lt_of_le_of_lt (Nat.div_le_self _ _) hl
  have e1 : lo * 2 ^ s = lo / 2 ^ t * 18446744073709551616 + lo % 2 ^ t * 2 ^ s := by
    rw [hW, ← Nat.mul_assoc, ← Nat.add_mul]
    congr 1
    have := Nat.div_add_mod lo (2 ^ t)
    rw [Nat.mul_comm] at this; exact this.symm
  have hlw : lo % 2 ^ t * 2 ^ s < 18446744073709551616 := by
    rw [hW]; exact Nat.mul_lt_mul_of_pos_right (Nat.mod_lt _ hpt) hps
  have e2 : (hi * 18446744073709551616 + lo) * 2 ^ s = (hi * 2 ^ s + lo / 2 ^ t) * 18446744073709551616 + lo % 2 ^ t * 2 ^ s := by
    rw [Nat.add_mul, e1, Nat.add_mul, Nat.mul_right_comm]; omega
  have hw : ∀ a : Nat, a * 2 ^ s < 18446744073709551616 → IntKind.u64.wrap ((a : Int) * 2 ^ s) = ((a * 2 ^ s : Nat) : Int) := fun a ha => by
    have : ((a : Int) * 2 ^ s) = ((a * 2 ^ s : Nat) : Int) := by simp
    rw [this, IntWalk.u64_in _ (by omega)]
  refine ⟨y * 2 ^ s, hi * 2 ^ s + lo / 2 ^ t, lo % 2 ^ t * 2 ^ s, hw y hY1, ?_, ?_, rfl, hY2, hY1, ?_, hlw, e2⟩
  · rw [hw hi hu, show ((lo : Int) / 2 ^ t) = ((lo / 2 ^ t : Nat) : Int) by simp, u64_or_nat _ _ hu hlo2]
    congr 1
    have h := Nat.shiftLeft_add_eq_or_of_lt hlo hi
    rw [Nat.shiftLeft_eq] at h
    omega
  · have : ((lo : Int) * 2 ^ s) = ((lo * 2 ^ s : Nat) : Int) := by simp
    rw [this, IntKind.wrap_u64, e1]
    omega
  · have hle : (hi * 18446744073709551616 + lo) < y * 18446744073709551616 := by
      have := Nat.mul_le_mul_right 18446744073709551616 (Nat.succ_le_of_lt hy)
      rw [Nat.succ_mul] at this; omega
    have h3 := Nat.mul_lt_mul_of_pos_right hle hps
    rw [e2, Nat.mul_right_comm] at h3
    omega
set_option maxRecDepth 100000 in
set_option maxHeartbeats 4000000 in
theorem div64_none (lo y : Nat) (w : World) (hy : 0 < y) (hl : lo < 18446744073709551616) (hY : y < 18446744073709551616) : Calls Tryd.prog 76 #[.int .u64 0, .int .u64 (lo : Int), .int .u64 (y : Int)] w fun e w' => e = .returned (.tuple #[.int .u64 ((lo / y : Nat) : Int), .int .u64 ((lo % y : Nat) : Int)]) ∧ Below w.heap.size w w' := by
  have n0 : ((y : Int) = 0) = False := eq_false (by omega)
  have n1 : ((y : Int) ≤ 0) = False := eq_false (by omega)
  have hd : lo / y ≤ lo := Nat.div_le_self _ _
  have hr : lo % y < y := Nat.mod_lt _ hy
  obtain ⟨q, eq⟩ : ∃ q, lo / y = q := ⟨_, rfl⟩
  obtain ⟨r, er⟩ : ∃ r, lo % y = r := ⟨_, rfl⟩
  have A1 : IntKind.u64.wrap ((lo : Int) / (y : Int)) = (q : Int) := by
    rw [← Int.natCast_ediv, eq, IntWalk.u64_in _ (by omega)]
  have A3 : (lo : Int) % (y : Int) = (r : Int) := by rw [← Int.natCast_emod, er]
  have A4 : (lo : Int).tmod (y : Int) = (r : Int) := by rw [Int.tmod_eq_emod_of_nonneg (by omega), ← Int.natCast_emod, er]
  have EQ := hid eq
  have ER := hid er
  clear eq er hd hr
  go_enter Tryd.func76, Tryd.ntmps76
  go_upto_region 6 with fail
  go_region
  all_goals
    go_wp2
    exact bodyPost_ret (v := .tuple #[.int .u64 (q : Int), .int .u64 (r : Int)]) (by simp [results, Tryd.results76, go_sem]) rfl ⟨by rw [EQ.out, ER.out], (Below.refl _ _).drew⟩
set_option maxRecDepth 100000 in
set_option maxHeartbeats 4000000 in
theorem div64_some (hi lo y : Nat) (w : World) (hy : hi < y) (h0 : hi ≠ 0) (hl : lo < 18446744073709551616) (hY : y < 18446744073709551616) : Calls Tryd.prog 76 #[.int .u64 (hi : Int), .int .u64 (lo : Int), .int .u64 (y : Int)] w fun e w' => e = .returned (.tuple #[.int .u64 (((hi * 18446744073709551616 + lo) / y : Nat) : Int), .int .u64 (((hi * 18446744073709551616 + lo) % y : Nat) : Int)]) ∧ Below w.heap.size w w' := by
  have hnb := nbits_up y 64 hY
  obtain ⟨s, hs⟩ : ∃ s, s + nbits y = 64 := ⟨64 - nbits y, by omega⟩
  obtain ⟨t, ht⟩ : ∃ t, t + s = 64 := ⟨64 - s, by omega⟩
  obtain ⟨Y, u, l, E1, E2, E3, e4, e5, e6, e7, e8, e9⟩ := moved_up hy hl hs ht
  have n0 : ((y : Int) = 0) = False := eq_false (by omega)
  have n1 : ((y : Int) ≤ (hi : Int)) = False := eq_false (by omega)
  have n2 : ((hi : Int) = 0) = False := eq_false (by omega)
  have n4 : ((hi : Int) == 0) = false := by simpa using h0
  have n5 : ((y : Int) == 0) = false := by have : ¬ y = 0 := by omega
                                           simpa using this
  have s1 : IntKind.u64.wrap (s : Int) = (s : Int) := IntWalk.u64_in _ (by omega)
  have s2 : min s 64 = s := by omega
  have s3 : IntKind.u64.wrap (64 - (s : Int)) = (t : Int) := by rw [IntWalk.u64_in _ (by omega)]; omega
  have s4 : min t 64 = t := by omega
  obtain ⟨y1, y0, Y1, Y0, hYs, l1, l2⟩ := half_parts Y e6
  obtain ⟨u1, u0, U1, U0, hls, l4, l5⟩ := half_parts l e8
  have l3 : 2147483648 ≤ y1 := by clear e9 e4 hs ht; omega
  have hy0 : 0 < y := Nat.lt_of_le_of_lt (Nat.zero_le _) hy
  obtain ⟨d1, ed1⟩ : ∃ z, (u * 4294967296 + u1) / (y1 * 4294967296 + y0) = z := ⟨_, rfl⟩
  obtain ⟨r1, er1⟩ : ∃ z, (u * 4294967296 + u1) % (y1 * 4294967296 + y0) = z := ⟨_, rfl⟩
  have hd1 := half_most (u1 := u1) (show u < y1 * 4294967296 + y0 by omega) l4
  have hr1 := Nat.mod_lt (u * 4294967296 + u1) (show 0 < y1 * 4294967296 + y0 by omega)
  have hdm1 := Nat.div_add_mod (u * 4294967296 + u1) (y1 * 4294967296 + y0)
  rw [ed1] at hd1
  rw [er1] at hr1
  rw [ed1, er1] at hdm1
  obtain ⟨d2, ed2⟩ : ∃ z, (r1 * 4294967296 + u0) / (y1 * 4294967296 + y0) = z := ⟨_, rfl⟩
  obtain ⟨r2, er2⟩ : ∃ z, (r1 * 4294967296 + u0) % (y1 * 4294967296 + y0) = z := ⟨_, rfl⟩
  have hd2 := half_most (u1 := u0) hr1 l5
  have hr2 := Nat.mod_lt (r1 * 4294967296 + u0) (show 0 < y1 * 4294967296 + y0 by omega)
  have hdm2 := Nat.div_add_mod (r1 * 4294967296 + u0) (y1 * 4294967296 + y0)
  rw [ed2] at hd2
  rw [er2] at hr2
  rw [ed2, er2] at hdm2
  have X1 := hid (show y1 < 4294967296 ∧ y0 < 4294967296 ∧ 2147483648 ≤ y1 ∧ u1 < 4294967296 ∧ u < y1 * 4294967296 + y0 ∧ (u * 4294967296 + u1) / (y1 * 4294967296 + y0) = d1 from ⟨l1, l2, l3, l4, by omega, ed1⟩)
  have X2 := hid (show y1 < 4294967296 ∧ y0 < 4294967296 ∧ 2147483648 ≤ y1 ∧ u0 < 4294967296 ∧ r1 < y1 * 4294967296 + y0 ∧ (r1 * 4294967296 + u0) / (y1 * 4294967296 + y0) = d2 from ⟨l1, l2, l3, l5, hr1, ed2⟩)
  obtain ⟨q1, r1', F1, G1, hL1⟩ := half_start l1 l2 l3 l4 (show u < y1 * 4294967296 + y0 by omega) ed1
  obtain ⟨q2, r2', F2, G2, hL2⟩ := half_start l1 l2 l3 l5 hr1 ed2
  rw [hYs] at hdm1 hdm2 hr1 hr2
  have V1 : IntKind.u64.wrap (IntKind.u64.wrap (IntKind.u64.wrap ((u : Int) * 4294967296) + (u1 : Int)) - IntKind.u64.wrap ((d1 : Int) * (Y : Int))) = (r1 : Int) := by
    have : ((d1 : Int) * (Y : Int)) = ((Y * d1 : Nat) : Int) := by rw [Int.natCast_mul]; exact Int.mul_comm _ _
    rw [this]
    simp only [IntKind.wrap_u64]
    omega
  have V2 : IntKind.u64.wrap (IntKind.u64.wrap (IntKind.u64.wrap ((r1 : Int) * 4294967296) + (u0 : Int)) - IntKind.u64.wrap ((d2 : Int) * (Y : Int))) = (r2 : Int) := by
    have : ((d2 : Int) * (Y : Int)) = ((Y * d2 : Nat) : Int) := by rw [Int.natCast_mul]; exact Int.mul_comm _ _
    rw [this]
    simp only [IntKind.wrap_u64]
    omega
  have V3 : IntKind.u64.wrap (IntKind.u64.wrap ((d1 : Int) * 4294967296) + (d2 : Int)) = ((d1 * 4294967296 + d2 : Nat) : Int) := by
    simp only [IntKind.wrap_u64]
    omega
  have hboth := half_both (u := u) (u1 := u1) (u0 := u0) (y := Y) (q1 := d1) (q0 := d2) (r1 := r1) (r0 := r2) (by rw [Nat.mul_comm d1]; exact hdm1.symm) (by rw [Nat.mul_comm d2]; exact hdm2.symm)
  have hmv := moved_div (n := hi * 18446744073709551616 + lo) (y := y) (s := s) (q := d1 * 4294967296 + d2) (r := r2) hy0 (by rw [e9, ← e4, ← hboth, ← hls]; exact two_halves u u1 u0) (by rw [← e4]; exact hr2)
  obtain ⟨o1, o2⟩ := hmv
  have V4 : (r2 : Int) / 2 ^ s = (((hi * 18446744073709551616 + lo) % y : Nat) : Int) := by rw [← o2]; simp
  rw [o1] at V3
  obtain ⟨O1, eO1⟩ : ∃ z, (hi * 18446744073709551616 + lo) / y = z := ⟨_, rfl⟩
  obtain ⟨O2, eO2⟩ : ∃ z, (hi * 18446744073709551616 + lo) % y = z := ⟨_, rfl⟩
  rw [eO1] at V3
  rw [eO2] at V4
  have L1 := hid hL1
  have L2 := hid hL2
  clear hL1 hL2
  have P1 := hid eO1
  have P2 := hid eO2
  have HY := hid hY
  have HS := hid hs
  have ny1 : ((y1 : Int) = 0) = False := eq_false (by omega)
  have ny2 : ¬ y1 = 0 := by omega
  clear hnb hs ht e4 e5 e6 e7 e8 e9 hYs hls l1 l2 l3 l4 l5 ed1 er1 hd1 hr1 hdm1 ed2 er2 hd2 hr2 hdm2 hboth o1 o2 eO1 eO2 hy h0 hl hY
  go_enter Tryd.func76, Tryd.ntmps76
  go_upto_block 0 with (go_at_call 89; refine (lz_any y s _ HY.out HS.out).mono ?_; rintro e w' ⟨rfl, rfl⟩)
  go_cut [15, 16] (fun s15 s16 wx => s15 = .int .u64 (d1 : Int) ∧ (∃ x : Nat, s16 = .int .u64 (x : Int)) ∧ wx = w')
  case first =>
    go_wp2_with fail
    go_loop [15, 16] (fun a b => ∃ q r : Nat, a = .int .u64 (q : Int) ∧ b = .int .u64 (r : Int) ∧ Hid (u = q * y1 + r ∧ d1 ≤ q ∧ q ≤ 4294967297 ∧ r < 4294967296)) (fun a _ => (intOf a).toNat)
    case atStart => exact ⟨q1, r1', rfl, rfl, L1⟩
    case round =>
      obtain ⟨q, r, rfl, rfl, HL⟩ := hrel
      have X := X1.out
      obtain ⟨z1, z2, w1, w2, w4, ez1, ez2⟩ := half_wraps HL.out.2.2.1 HL.out.2.2.2 X.1 X.2.1 X.2.2.2.1
      by_cases c0 : (4294967296 : Int) ≤ (q : Int)
      · clear w1 w2 w4
        obtain ⟨q', r', v1, v2, HLt, S5, S6⟩ := half_down X HL.out (Or.inl (by omega))
        have HLt := hid HLt
        have S5 := hid S5
        have S6 := hid S6
        clear X HL ez1 ez2
        by_cases hr : 4294967296 ≤ r'
        · have c2 : (4294967296 : Int) ≤ (r' : Int) := by omega
          have e := hid (S5.out hr)
          clear S5 S6 hr
          go_wp2
          go_meet
          exact ⟨by rw [e.out], ⟨r', rfl⟩, rfl⟩
        · have c2 : ¬ (4294967296 : Int) ≤ (r' : Int) := by omega
          have e := hid (S6.out (by omega))
          clear S5 S6 hr
          go_wp2
          go_round
          case rel => exact ⟨q', r', rfl, rfl, e⟩
          case measure => have := HLt.out; simp [intOf]; omega
      · by_cases c1 : (z1 : Int) < (z2 : Int)
        · obtain ⟨q', r', v1, v2, HLt, S5, S6⟩ := half_down X HL.out (Or.inr (by rw [← ez1, ← ez2]; omega))
          have HLt := hid HLt
          have S5 := hid S5
          have S6 := hid S6
          clear X HL ez1 ez2
          by_cases hr : 4294967296 ≤ r'
          · have c2 : (4294967296 : Int) ≤ (r' : Int) := by omega
            have e := hid (S5.out hr)
            clear S5 S6 hr
            go_wp2
            go_meet
            exact ⟨by rw [e.out], ⟨r', rfl⟩, rfl⟩
          · have c2 : ¬ (4294967296 : Int) ≤ (r' : Int) := by omega
            have e := hid (S6.out (by omega))
            clear S5 S6 hr
            go_wp2
            go_round
            case rel => exact ⟨q', r', rfl, rfl, e⟩
            case measure => have := HLt.out; simp [intOf]; omega
        · have e := hid (half_stop X HL.out (by omega) (by rw [← ez1, ← ez2]; omega))
          clear X HL ez1 ez2
          go_wp2
          go_meet
          exact ⟨by rw [e.out], ⟨r, rfl⟩, rfl⟩
  case rest =>
    obtain ⟨rfl, ⟨x1, rfl⟩, hwc⟩ := hcut
    have hwc' := hwc.symm
    clear hwc
    subst hwc'
    go_upto_block 2 with fail
    go_cut [18, 16] (fun s18 s16 wx => s18 = .int .u64 (d2 : Int) ∧ (∃ x : Nat, s16 = .int .u64 (x : Int)) ∧ wx = w')
    case first =>
      go_wp2_with fail
      go_loop [18, 16] (fun a b => ∃ q r : Nat, a = .int .u64 (q : Int) ∧ b = .int .u64 (r : Int) ∧ Hid (r1 = q * y1 + r ∧ d2 ≤ q ∧ q ≤ 4294967297 ∧ r < 4294967296)) (fun a _ => (intOf a).toNat)
      case atStart => exact ⟨q2, r2', rfl, rfl, L2⟩
      case round =>
        obtain ⟨q, r, rfl, rfl, HL⟩ := hrel
        have X := X2.out
        obtain ⟨z1, z2, w1, w2, w4, ez1, ez2⟩ := half_wraps HL.out.2.2.1 HL.out.2.2.2 X.1 X.2.1 X.2.2.2.1
        by_cases c0 : (4294967296 : Int) ≤ (q : Int)
        · clear w1 w2 w4
          obtain ⟨q', r', v1, v2, HLt, S5, S6⟩ := half_down X HL.out (Or.inl (by omega))
          have HLt := hid HLt
          have S5 := hid S5
          have S6 := hid S6
          clear X HL ez1 ez2
          by_cases hr : 4294967296 ≤ r'
          · have c2 : (4294967296 : Int) ≤ (r' : Int) := by omega
            have e := hid (S5.out hr)
            clear S5 S6 hr
            go_wp2
            go_meet
            exact ⟨by rw [e.out], ⟨r', rfl⟩, rfl⟩
          · have c2 : ¬ (4294967296 : Int) ≤ (r' : Int) := by omega
            have e := hid (S6.out (by omega))
            clear S5 S6 hr
            go_wp2
            go_round
            case rel => exact ⟨q', r', rfl, rfl, e⟩
            case measure => have := HLt.out; simp [intOf]; omega
        · by_cases c1 : (z1 : Int) < (z2 : Int)
          · obtain ⟨q', r', v1, v2, HLt, S5, S6⟩ := half_down X HL.out (Or.inr (by rw [← ez1, ← ez2]; omega))
            have HLt := hid HLt
            have S5 := hid S5
            have S6 := hid S6
            clear X HL ez1 ez2
            by_cases hr : 4294967296 ≤ r'
            · have c2 : (4294967296 : Int) ≤ (r' : Int) := by omega
              have e := hid (S5.out hr)
              clear S5 S6 hr
              go_wp2
              go_meet
              exact ⟨by rw [e.out], ⟨r', rfl⟩, rfl⟩
            · have c2 : ¬ (4294967296 : Int) ≤ (r' : Int) := by omega
              have e := hid (S6.out (by omega))
              clear S5 S6 hr
              go_wp2
              go_round
              case rel => exact ⟨q', r', rfl, rfl, e⟩
              case measure => have := HLt.out; simp [intOf]; omega
          · have e := hid (half_stop X HL.out (by omega) (by rw [← ez1, ← ez2]; omega))
            clear X HL ez1 ez2
            go_wp2
            go_meet
            exact ⟨by rw [e.out], ⟨r, rfl⟩, rfl⟩
    case rest =>
      obtain ⟨rfl, ⟨x2, rfl⟩, hwc⟩ := hcut
      have hwc' := hwc.symm
      clear hwc
      subst hwc'
      go_wp2
      exact bodyPost_ret (v := .tuple #[.int .u64 (O1 : Int), .int .u64 (O2 : Int)]) (by simp [results, Tryd.results76, go_sem]) rfl ⟨by rw [P1.out, P2.out], Below.refl _ _⟩
theorem div64_any (hi lo y q r : Nat) (w : World) (hy : hi < y) (hl : lo < 18446744073709551616) (hY : y < 18446744073709551616) (hq : (hi * 18446744073709551616 + lo) / y = q) (hr : (hi * 18446744073709551616 + lo) % y = r) : Calls Tryd.prog 76 #[.int .u64 (hi : Int), .int .u64 (lo : Int), .int .u64 (y : Int)] w fun e w' => e = .returned (.tuple #[.int .u64 (q : Int), .int .u64 (r : Int)]) ∧ Below w.heap.size w w' := by
  subst hq; subst hr
  by_cases h0 : hi = 0
  · subst h0
    rw [Nat.zero_mul, Nat.zero_add]
    exact div64_none lo y w hy hl hY
  · exact div64_some hi lo y w hy h0 hl hY
end Go.Proofs.YtcijnoapjicliaaDoor
