/-
  shas.mix, walked: numbers taken against each other. Conditions: none.
-/
import Derived.Test.YtbloejlebikecaaDoorWords
import Derived.Test.YtbloejlebikecaaDoorSha
import Derived.Laws.BitsAllLaws
import Derived.Outline
import Derived.WalkLawsBesides
import Derived.WalkSpells
namespace Go.Proofs.YtbloejlebikecaaDoor
open Go.RowKit
set_option linter.unusedVariables false

/-- the first k of three numbers, taken against each other -/
def mx (x y z : Nat) : Nat → Nat
  | 0 => 0
  | 1 => x
  | 2 => x ^^^ y
  | _ => (x ^^^ y) ^^^ z
def nth3 (x y z : Nat) : Nat → Nat
  | 0 => x
  | 1 => y
  | _ => z
/-- three numbers in a block -/
def Tri (w : World) (g x y z : Nat) : Prop := w.cell? ⟨g, 0, none⟩ = some (.int .u32 (x : Int)) ∧ w.cell? ⟨g, 1, none⟩ = some (.int .u32 (y : Int)) ∧ w.cell? ⟨g, 2, none⟩ = some (.int .u32 (z : Int))
theorem Tri.at {w : World} {g x y z : Nat} (h : Tri w g x y z) (k : Nat) (hk : k < 3) : w.cell? ⟨g, k, none⟩ = some (.int .u32 (nth3 x y z k : Int)) := by
  match k, hk with
  | 0, _ => exact h.1
  | 1, _ => exact h.2.1
  | 2, _ => exact h.2.2
theorem mx_step (x y z k : Nat) (hk : k < 3) (hx : x < 4294967296) (hy : y < 4294967296) (hz : z < 4294967296) : bits .xor .u32 (mx x y z k : Int) (nth3 x y z k : Int) = ((mx x y z (k + 1) : Nat) : Int) := by
  match k, hk with
  | 0, _ => rw [mx, nth3, mx, u32_xor_nat _ _ (by decide) hx, Nat.zero_xor]
  | 1, _ => rw [mx, nth3, mx, u32_xor_nat _ _ hx hy]
  | 2, _ => rw [mx, nth3, mx, u32_xor_nat _ _ (xor_lt hx hy) hz] <;> simp
theorem mix_any (g x y z : Nat) (w : World) (h : Tri w g x y z) (hx : x < 4294967296) (hy : y < 4294967296) (hz : z < 4294967296) :
    Calls Tryd.prog 30 #[.slice (some ⟨g, 0, none⟩) 3 3] w fun e w' => e = .returned (.int .u32 ((x ^^^ y) ^^^ z : Nat)) ∧ w = w' := by
  have HT := hid h
  have HX := hid hx
  have HY := hid hy
  have HZ := hid hz
  clear h hx hy hz
  go_enter Tryd.func30, Tryd.ntmps30
  go_wp2
  go_loop [3, 8] (fun n i => ∃ k : Nat, k ≤ 3 ∧ i = .int .i64 k ∧ n = .int .u32 (mx x y z k : Int)) (fun _ i => 3 - (intOf i).toNat)
  case atStart => exact ⟨0, Nat.zero_le _, rfl, rfl⟩
  case round =>
    obtain ⟨k, hk, rfl, rfl⟩ := hrel
    by_cases hlt : k < 3
    · have hck := HT.out.at k hlt
      have HS := hid (mx_step x y z k hlt HX.out HY.out HZ.out)
      generalize nth3 x y z k = v at hck HS
      generalize mx x y z k = t at HS
      go_wp2
      go_round
      case rel => exact ⟨k + 1, by omega, by go_num, by rw [HS.out]⟩
      case measure => simp [intOf]; omega
    · obtain rfl : k = 3 := by omega
      rw [mx]
      go_wp2
      go_ret
      exact ⟨rfl, rfl⟩
end Go.Proofs.YtbloejlebikecaaDoor
