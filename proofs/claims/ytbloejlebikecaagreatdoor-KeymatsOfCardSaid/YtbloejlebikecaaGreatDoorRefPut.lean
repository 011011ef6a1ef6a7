/-
  The document's own answers (burrowref01), walked: Put, PutLong, PutBytes. Conditions: sizes within 2^46.
-/
import Derived.Test.YtbloejlebikecaaGreatDoorRef
import Derived.Test.YtbloejlebikecaaGreatDoorPkA
namespace Go.Proofs.YtbloejlebikecaaGreatDoor
open Go.RowKit
set_option linter.unusedVariables false

theorem row_none (n : Nat) (ki : Int) (w : World) (hn : n < 18446744073709551616) (hk : ki ≤ 0) (h1 : -9223372036854775808 ≤ ki) : Calls Tryz.prog 71 #[.int .u64 (n : Int), .int .i64 ki] w (OutO w []) := by
  have HO := hid (p := OutO w [] (.returned (.slice none 0 0)) w) ⟨_, rfl, Ow.nil _ _, Below.refl _ _⟩
  go_enter Tryz.func71, Tryz.ntmps71
  go_wp2
  go_ret
  exact HO.out

/-- at any count -/
theorem row_at (n K : Nat) (ki : Int) (w : World) (hn : n < 18446744073709551616) (hK : K = (max ki 0).toNat) (h8 : ki ≤ 8) (h1 : -9223372036854775808 ≤ ki) : Calls Tryz.prog 71 #[.int .u64 (n : Int), .int .i64 ki] w (OutO w (be n K)) := by
  rcases (show ki ≤ 0 ∨ 0 < ki from by omega) with h | h
  · obtain rfl : K = 0 := by omega
    exact row_none n ki w hn h h1
  · exact row_any K n ki w hn (by omega) (by omega)

theorem OutO.trans {w w1 w2 : World} {bs : List UInt8} {e : Ending} (h : OutO w1 bs e w2) (hb : Below w.heap.size w w1) : OutO w bs e w2 := by
  obtain ⟨v, rfl, how, hb2⟩ := h
  refine ⟨v, rfl, ?_, hb.trans (hb2.mono hb.size)⟩
  refine ⟨how.1, ?_⟩
  rcases how.2 with h | ⟨g, cap, cur, h1, h2, h3⟩
  · exact .inl h
  · exact .inr ⟨g, cap, cur, h1, Nat.le_trans hb.size h2, h3⟩

end Go.Proofs.YtbloejlebikecaaGreatDoor
