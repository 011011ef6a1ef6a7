/-
  shas.turn, walked: bits moved round. Conditions: none.
-/
import Derived.Test.YtbloejlebikecaaDoorWords
import Derived.Test.YtbloejlebikecaaDoorSha
import Derived.Laws.BitsAllLaws
namespace Go.Proofs.YtbloejlebikecaaDoor
open Go.RowKit
set_option linter.unusedVariables false

theorem rot_eq (x s : Nat) (hx : x < 4294967296) (hs : s < 32) : bits .or .u32 (IntKind.u32.wrap ((x : Int) * ((2 ^ s : Nat) : Int))) ((x : Int) / ((2 ^ (32 - s) : Nat) : Int)) = ((rot x (32 - s) : Nat) : Int) := by
  have e1 : IntKind.u32.wrap ((x : Int) * ((2 ^ s : Nat) : Int)) = ((x * 2 ^ s % 4294967296 : Nat) : Int) := by rw [IntKind.wrap_u32]; omega
  have e2 : (x : Int) / ((2 ^ (32 - s) : Nat) : Int) = ((x / 2 ^ (32 - s) : Nat) : Int) := by omega
  rw [e1, e2, u32_or_nat _ _ (Nat.mod_lt _ (by decide)) (dn_lt _ hx), rot, Nat.or_comm, show 32 - (32 - s) = s by omega]

theorem rotl_2 (x : Nat) (w : World) (hx : x < 4294967296) : Calls Tryd.prog 32 #[.int .u32 x, .int .i64 (-2)] w fun e w' => e = .returned (.int .u32 (rot x 2 : Nat)) ∧ w = w' := by
  have hb : bits BinOp.and IntKind.u64 (IntKind.u64.wrap (-2)) 31 = 30 := by decide +kernel
  go_enter Tryd.func32, Tryd.ntmps32
  go_wp2_with (simp only [hb])
  go_ret
  exact ⟨by rw [← rot_eq x 30 hx (by decide)]; rfl, rfl⟩
theorem turn_2 (x : Nat) (w : World) (hx : x < 4294967296) : Calls Tryd.prog 31 #[.int .u32 x, .int .i64 2] w fun e w' => e = .returned (.int .u32 (rot x 2 : Nat)) ∧ w = w' := by
  go_enter Tryd.func31, Tryd.ntmps31
  go_wp2_with fail
  refine (rotl_2 x w hx).mono ?_
  rintro e w1 ⟨rfl, rfl⟩
  go_wp2
  go_ret
  exact ⟨rfl, rfl⟩
theorem rotl_6 (x : Nat) (w : World) (hx : x < 4294967296) : Calls Tryd.prog 32 #[.int .u32 x, .int .i64 (-6)] w fun e w' => e = .returned (.int .u32 (rot x 6 : Nat)) ∧ w = w' := by
  have hb : bits BinOp.and IntKind.u64 (IntKind.u64.wrap (-6)) 31 = 26 := by decide +kernel
  go_enter Tryd.func32, Tryd.ntmps32
  go_wp2_with (simp only [hb])
  go_ret
  exact ⟨by rw [← rot_eq x 26 hx (by decide)]; rfl, rfl⟩
theorem turn_6 (x : Nat) (w : World) (hx : x < 4294967296) : Calls Tryd.prog 31 #[.int .u32 x, .int .i64 6] w fun e w' => e = .returned (.int .u32 (rot x 6 : Nat)) ∧ w = w' := by
  go_enter Tryd.func31, Tryd.ntmps31
  go_wp2_with fail
  refine (rotl_6 x w hx).mono ?_
  rintro e w1 ⟨rfl, rfl⟩
  go_wp2
  go_ret
  exact ⟨rfl, rfl⟩
theorem rotl_7 (x : Nat) (w : World) (hx : x < 4294967296) : Calls Tryd.prog 32 #[.int .u32 x, .int .i64 (-7)] w fun e w' => e = .returned (.int .u32 (rot x 7 : Nat)) ∧ w = w' := by
  have hb : bits BinOp.and IntKind.u64 (IntKind.u64.wrap (-7)) 31 = 25 := by decide +kernel
  go_enter Tryd.func32, Tryd.ntmps32
  go_wp2_with (simp only [hb])
  go_ret
  exact ⟨by rw [← rot_eq x 25 hx (by decide)]; rfl, rfl⟩
theorem turn_7 (x : Nat) (w : World) (hx : x < 4294967296) : Calls Tryd.prog 31 #[.int .u32 x, .int .i64 7] w fun e w' => e = .returned (.int .u32 (rot x 7 : Nat)) ∧ w = w' := by
  go_enter Tryd.func31, Tryd.ntmps31
  go_wp2_with fail
  refine (rotl_7 x w hx).mono ?_
  rintro e w1 ⟨rfl, rfl⟩
  go_wp2
  go_ret
  exact ⟨rfl, rfl⟩
theorem rotl_11 (x : Nat) (w : World) (hx : x < 4294967296) : Calls Tryd.prog 32 #[.int .u32 x, .int .i64 (-11)] w fun e w' => e = .returned (.int .u32 (rot x 11 : Nat)) ∧ w = w' := by
  have hb : bits BinOp.and IntKind.u64 (IntKind.u64.wrap (-11)) 31 = 21 := by decide +kernel
  go_enter Tryd.func32, Tryd.ntmps32
  go_wp2_with (simp only [hb])
  go_ret
  exact ⟨by rw [← rot_eq x 21 hx (by decide)]; rfl, rfl⟩
theorem turn_11 (x : Nat) (w : World) (hx : x < 4294967296) : Calls Tryd.prog 31 #[.int .u32 x, .int .i64 11] w fun e w' => e = .returned (.int .u32 (rot x 11 : Nat)) ∧ w = w' := by
  go_enter Tryd.func31, Tryd.ntmps31
  go_wp2_with fail
  refine (rotl_11 x w hx).mono ?_
  rintro e w1 ⟨rfl, rfl⟩
  go_wp2
  go_ret
  exact ⟨rfl, rfl⟩
theorem rotl_13 (x : Nat) (w : World) (hx : x < 4294967296) : Calls Tryd.prog 32 #[.int .u32 x, .int .i64 (-13)] w fun e w' => e = .returned (.int .u32 (rot x 13 : Nat)) ∧ w = w' := by
  have hb : bits BinOp.and IntKind.u64 (IntKind.u64.wrap (-13)) 31 = 19 := by decide +kernel
  go_enter Tryd.func32, Tryd.ntmps32
  go_wp2_with (simp only [hb])
  go_ret
  exact ⟨by rw [← rot_eq x 19 hx (by decide)]; rfl, rfl⟩
theorem turn_13 (x : Nat) (w : World) (hx : x < 4294967296) : Calls Tryd.prog 31 #[.int .u32 x, .int .i64 13] w fun e w' => e = .returned (.int .u32 (rot x 13 : Nat)) ∧ w = w' := by
  go_enter Tryd.func31, Tryd.ntmps31
  go_wp2_with fail
  refine (rotl_13 x w hx).mono ?_
  rintro e w1 ⟨rfl, rfl⟩
  go_wp2
  go_ret
  exact ⟨rfl, rfl⟩
theorem rotl_17 (x : Nat) (w : World) (hx : x < 4294967296) : Calls Tryd.prog 32 #[.int .u32 x, .int .i64 (-17)] w fun e w' => e = .returned (.int .u32 (rot x 17 : Nat)) ∧ w = w' := by
  have hb : bits BinOp.and IntKind.u64 (IntKind.u64.wrap (-17)) 31 = 15 := by decide +kernel
  go_enter Tryd.func32, Tryd.ntmps32
  go_wp2_with (simp only [hb])
  go_ret
  exact ⟨by rw [← rot_eq x 15 hx (by decide)]; rfl, rfl⟩
theorem turn_17 (x : Nat) (w : World) (hx : x < 4294967296) : Calls Tryd.prog 31 #[.int .u32 x, .int .i64 17] w fun e w' => e = .returned (.int .u32 (rot x 17 : Nat)) ∧ w = w' := by
  go_enter Tryd.func31, Tryd.ntmps31
  go_wp2_with fail
  refine (rotl_17 x w hx).mono ?_
  rintro e w1 ⟨rfl, rfl⟩
  go_wp2
  go_ret
  exact ⟨rfl, rfl⟩
theorem rotl_18 (x : Nat) (w : World) (hx : x < 4294967296) : Calls Tryd.prog 32 #[.int .u32 x, .int .i64 (-18)] w fun e w' => e = .returned (.int .u32 (rot x 18 : Nat)) ∧ w = w' := by
  have hb : bits BinOp.and IntKind.u64 (IntKind.u64.wrap (-18)) 31 = 14 := by decide +kernel
  go_enter Tryd.func32, Tryd.ntmps32
  go_wp2_with (simp only [hb])
  go_ret
  exact ⟨by rw [← rot_eq x 14 hx (by decide)]; rfl, rfl⟩
theorem turn_18 (x : Nat) (w : World) (hx : x < 4294967296) : Calls Tryd.prog 31 #[.int .u32 x, .int .i64 18] w fun e w' => e = .returned (.int .u32 (rot x 18 : Nat)) ∧ w = w' := by
  go_enter Tryd.func31, Tryd.ntmps31
  go_wp2_with fail
  refine (rotl_18 x w hx).mono ?_
  rintro e w1 ⟨rfl, rfl⟩
  go_wp2
  go_ret
  exact ⟨rfl, rfl⟩
theorem rotl_19 (x : Nat) (w : World) (hx : x < 4294967296) : Calls Tryd.prog 32 #[.int .u32 x, .int .i64 (-19)] w fun e w' => e = .returned (.int .u32 (rot x 19 : Nat)) ∧ w = w' := by
  have hb : bits BinOp.and IntKind.u64 (IntKind.u64.wrap (-19)) 31 = 13 := by decide +kernel
  go_enter Tryd.func32, Tryd.ntmps32
  go_wp2_with (simp only [hb])
  go_ret
  exact ⟨by rw [← rot_eq x 13 hx (by decide)]; rfl, rfl⟩
theorem turn_19 (x : Nat) (w : World) (hx : x < 4294967296) : Calls Tryd.prog 31 #[.int .u32 x, .int .i64 19] w fun e w' => e = .returned (.int .u32 (rot x 19 : Nat)) ∧ w = w' := by
  go_enter Tryd.func31, Tryd.ntmps31
  go_wp2_with fail
  refine (rotl_19 x w hx).mono ?_
  rintro e w1 ⟨rfl, rfl⟩
  go_wp2
  go_ret
  exact ⟨rfl, rfl⟩
theorem rotl_22 (x : Nat) (w : World) (hx : x < 4294967296) : Calls Tryd.prog 32 #[.int .u32 x, .int .i64 (-22)] w fun e w' => e = .returned (.int .u32 (rot x 22 : Nat)) ∧ w = w' := by
  have hb : bits BinOp.and IntKind.u64 (IntKind.u64.wrap (-22)) 31 = 10 := by decide +kernel
  go_enter Tryd.func32, Tryd.ntmps32
  go_wp2_with (simp only [hb])
  go_ret
  exact ⟨by rw [← rot_eq x 10 hx (by decide)]; rfl, rfl⟩
theorem turn_22 (x : Nat) (w : World) (hx : x < 4294967296) : Calls Tryd.prog 31 #[.int .u32 x, .int .i64 22] w fun e w' => e = .returned (.int .u32 (rot x 22 : Nat)) ∧ w = w' := by
  go_enter Tryd.func31, Tryd.ntmps31
  go_wp2_with fail
  refine (rotl_22 x w hx).mono ?_
  rintro e w1 ⟨rfl, rfl⟩
  go_wp2
  go_ret
  exact ⟨rfl, rfl⟩
theorem rotl_25 (x : Nat) (w : World) (hx : x < 4294967296) : Calls Tryd.prog 32 #[.int .u32 x, .int .i64 (-25)] w fun e w' => e = .returned (.int .u32 (rot x 25 : Nat)) ∧ w = w' := by
  have hb : bits BinOp.and IntKind.u64 (IntKind.u64.wrap (-25)) 31 = 7 := by decide +kernel
  go_enter Tryd.func32, Tryd.ntmps32
  go_wp2_with (simp only [hb])
  go_ret
  exact ⟨by rw [← rot_eq x 7 hx (by decide)]; rfl, rfl⟩
theorem turn_25 (x : Nat) (w : World) (hx : x < 4294967296) : Calls Tryd.prog 31 #[.int .u32 x, .int .i64 25] w fun e w' => e = .returned (.int .u32 (rot x 25 : Nat)) ∧ w = w' := by
  go_enter Tryd.func31, Tryd.ntmps31
  go_wp2_with fail
  refine (rotl_25 x w hx).mono ?_
  rintro e w1 ⟨rfl, rfl⟩
  go_wp2
  go_ret
  exact ⟨rfl, rfl⟩
end Go.Proofs.YtbloejlebikecaaDoor
