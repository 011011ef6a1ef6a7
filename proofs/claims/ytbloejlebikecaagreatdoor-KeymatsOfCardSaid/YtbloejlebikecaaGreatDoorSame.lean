/-
  burrowlaw01.SameBytes and Beyond, walked. Conditions: none on the bytes; Beyond: at most four numbers, none below 0.
-/
import Derived.Test.YtbloejlebikecaaGreatDoorWords
import Derived.Outline
import Derived.WalkLawsBesides
import Derived.WalkSpells
import Derived.Deep.QuietTactic
import Derived.BigQuiet
namespace Go.Proofs.YtbloejlebikecaaGreatDoor
open Go.RowKit
set_option linter.unusedVariables false

theorem same_len (A B : Option Addr) (n m c d : Nat) (w : World) (h : n ≠ m) :
    Calls Tryz.prog 11 #[.slice A n c, .slice B m d] w fun e w' => e = .returned (.bool false) ∧ ∃ k, w' = w.drewN k := by
  have h1 : ((n : Int) != (m : Int)) = true := by simp; omega
  go_enter Tryz.func11, Tryz.ntmps11
  go_wp2
  go_ret
  exact ⟨rfl, 0, rfl⟩

set_option maxHeartbeats 400000 in
theorem same_true (A B : Option Addr) (c d : Nat) (bs : List UInt8) (w : World) (ha : Rd w A bs) (hb : Rd w B bs) (hn : bs.length ≤ 281474976710656) :
    Calls Tryz.prog 11 #[.slice A bs.length c, .slice B bs.length d] w fun e w' => e = .returned (.bool true) ∧ ∃ k, w' = w.drewN k := by
  go_enter Tryz.func11, Tryz.ntmps11
  go_wp2
  go_loopw [5] (fun i wr => ∃ k n : Nat, k ≤ bs.length ∧ i = .int .i64 k ∧ Hid (wr = w.drewN n)) (fun i _ => bs.length - (intOf i).toNat)
  case atStart => exact ⟨0, 0, Nat.zero_le _, rfl, rfl⟩
  case round =>
    obtain ⟨k, n, hk, rfl, HW⟩ := hrel
    by_cases hlt : k < bs.length
    · obtain ⟨g, o, rfl, hg, hc⟩ := ha (by omega)
      obtain ⟨g2, o2, rfl, hg2, hc2⟩ := hb (by omega)
      have h1 := hc k hlt
      have h2 := hc2 k hlt
      clear hc hc2
      have h3 : wr.cell? ⟨g, o + k, none⟩ = some (.int .u8 ((bs[k].toNat : Nat) : Int)) := by rw [HW.out]; exact h1
      have h4 : wr.cell? ⟨g2, o2 + k, none⟩ = some (.int .u8 ((bs[k].toNat : Nat) : Int)) := by rw [HW.out]; exact h2
      clear h1 h2
      generalize bs[k].toNat = x at h3 h4
      go_wp2
      go_quiet (fail)
      go_wp2
      go_roundw
      case rel => exact ⟨k + 1, n + nq, by omega, by go_num, by rw [HW.out]; exact hid (World.drewN_drewN ..)⟩
      case measure => simp [intOf]; omega
    · go_wp2
      go_ret
      exact ⟨rfl, n, HW.out⟩

end Go.Proofs.YtbloejlebikecaaGreatDoor
