/-
  nums.told, walked: it answers the number that the bytes tell. Condition: at most eight bytes.
-/
import Derived.Test.YtioebjbjpjbodaaDoorPkWords
import Derived.Outline
import Derived.WalkLawsBesides
import Derived.WalkSpells
namespace Go.Proofs.YtioebjbjpjbodaaDoor
open Go.RowKit

set_option maxHeartbeats 400000 in
theorem told_any (A : Option Addr) (c : Nat) (bs : List UInt8) (w : World) (hr : Rd w A bs) (hn : bs.length ≤ 8) :
    Calls Tryd.prog 68 #[.slice A bs.length c] w fun e w' => e = .returned (.int .u64 (tell bs : Int)) ∧ w = w' := by
  go_enter Tryd.func68, Tryd.ntmps68
  go_wp2
  go_loop [3, 8] (fun n i => ∃ k : Nat, k ≤ bs.length ∧ i = .int .i64 k ∧ n = .int .u64 (tell (bs.take k) : Int)) (fun _ i => bs.length - (intOf i).toNat)
  case atStart => exact ⟨0, Nat.zero_le _, rfl, rfl⟩
  case round =>
    obtain ⟨k, hk, rfl, rfl⟩ := hrel
    by_cases hlt : k < bs.length
    · obtain ⟨g, o, rfl, hg, hc⟩ := hr (by omega)
      have hck := hc k hlt
      clear hc
      have HS := hid (tell_take_succ bs k hlt)
      have HB := hid (bs[k].toNat_lt)
      have HT := hid (Nat.lt_of_lt_of_le (tell_lt (bs.take k)) (pow256_le (k := (bs.take k).length) (by rw [List.length_take]; omega)))
      generalize bs[k].toNat = x at hck HS HB
      generalize tell (bs.take k) = t at HS HT
      go_wp2
      go_round
      case rel => exact ⟨k + 1, by omega, by go_num, by rw [HS.out, or_byte t x HT.out HB.out]⟩
      case measure => simp [intOf]; omega
    · obtain rfl : k = bs.length := by omega
      rw [List.take_length]
      go_wp2
      go_ret
      exact ⟨rfl, rfl⟩
end Go.Proofs.YtioebjbjpjbodaaDoor
