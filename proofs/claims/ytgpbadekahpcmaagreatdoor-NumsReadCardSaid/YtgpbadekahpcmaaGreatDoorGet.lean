/-
  nums.Get, walked: refused, or the number that the first bytes tell. Conditions: none on the count.
-/
import Derived.Test.YtgpbadekahpcmaaGreatDoorTold
namespace Go.Proofs.YtgpbadekahpcmaaGreatDoor
open Go.RowKit
set_option linter.unusedVariables false

theorem get_arg (A : Option Addr) (n c : Nat) (k : Int) (w : World) (hk : k < 0 ∨ 8 < k) :
    Calls Tryz.prog 17 #[.slice A n c, .int .i64 k] w fun e w' => e = .returned (.tuple #[.int .u64 0, .int .i64 1]) ∧ w = w' := by
  rcases hk with hk | hk
  · go_enter Tryz.func17, Tryz.ntmps17
    go_wp2
    go_ret2
    exact ⟨rfl, rfl⟩
  · have h' : ¬ k < 0 := by omega
    go_enter Tryz.func17, Tryz.ntmps17
    go_wp2
    go_ret2
    exact ⟨rfl, rfl⟩

theorem get_short (A : Option Addr) (n c : Nat) (k : Int) (w : World) (h0 : 0 ≤ k) (h8 : k ≤ 8) (hk : (n : Int) < k) :
    Calls Tryz.prog 17 #[.slice A n c, .int .i64 k] w fun e w' => e = .returned (.tuple #[.int .u64 0, .int .i64 5]) ∧ w = w' := by
  go_enter Tryz.func17, Tryz.ntmps17
  go_wp2
  go_ret2
  exact ⟨rfl, rfl⟩

theorem get_ok (A : Option Addr) (c K : Nat) (bs : List UInt8) (w : World) (hr : Rd w A bs) (hc : bs.length ≤ c) (hc2 : c ≤ 9223372036854775807) (h8 : K ≤ 8) (hk : K ≤ bs.length) :
    Calls Tryz.prog 17 #[.slice A bs.length c, .int .i64 (K : Int)] w fun e w' => e = .returned (.tuple #[.int .u64 (tell (bs.take K) : Int), .int .i64 0]) ∧ w = w' := by
  have HL := hid (p := (bs.take K).length = K) (by rw [List.length_take]; omega)
  have HT := hid (told_any A c (bs.take K) w (hr.take K) (by rw [List.length_take]; omega))
  rw [HL.out] at HT
  go_enter Tryz.func17, Tryz.ntmps17
  go_wp2_with fail
  refine HT.out.mono ?_
  rintro e w' ⟨rfl, rfl⟩
  go_wp2
  go_ret2
  exact ⟨rfl, rfl⟩
end Go.Proofs.YtgpbadekahpcmaaGreatDoor
