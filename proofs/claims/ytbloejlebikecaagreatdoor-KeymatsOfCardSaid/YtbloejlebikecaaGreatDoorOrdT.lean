/-
  A region that draws its order: two laws of Ord said shorter. Conditions: none.
-/
import Derived.Test.YtbloejlebikecaaGreatDoorOrd
namespace Go.Proofs.YtbloejlebikecaaGreatDoor
open Go.RowKit
set_option linter.unusedVariables false
/-- one put into the registers that are written out: what it leaves -/
theorem putz : (∀ (a : Act) (d : Nat) (v : Value), a.put (some d) v = { a with tmps := a.tmps.setIfInBounds d v }) ∧ (∀ (a : Act) (v : Value), a.put none v = a) ∧ (∀ (l : List Value) (i : Nat) (v : Value), l.toArray.setIfInBounds i v = (l.set i v).toArray) ∧ (∀ (a : Value) (l : List Value) (v : Value), (a :: l).set 0 v = v :: l) ∧ (∀ (a : Value) (l : List Value) (n : Nat) (v : Value), (a :: l).set (n + 1) v = a :: l.set n v) :=
  ⟨fun _ _ _ => rfl, fun _ _ => rfl, fun l i v => List.setIfInBounds_toArray l i v, fun _ _ _ => rfl, fun _ _ _ _ => rfl⟩
section
variable {P : Program} {md : Region.Mode} {ops : Array Oper} {Q : Exit → Act → World → Prop} {S : Array Bool → World → Prop}
/-- the same, what can be reckoned left out -/
theorem Goes.tk {i : Nat} {o : Oper} {v : Value} (W : List Nat) {n : Nat} {up : Array Bool} {a : Act} {w : World} (ho : ops[i]? = some o := by exact rfl) (hn : Region.noSelect ops = true := by kernel_rfl) (hf : Region.free md ops up i = true := by kernel_rfl) (hr : (Region.ready md ops up).contains i = true := by kernel_rfl)
    (hp : ∀ c a w, Q (.panic c) (a.put o.dst v) w → Q (.panic c) a w := by exact fun _ _ _ h => h) (hW : (W.all fun j => Region.waitsFor md ops j i && !(up.getD j true)) = true := by kernel_rfl) (hS : ∀ (L : Array Bool) (u : World), S (L.setIfInBounds i true) u → S L u := by exact fun L u h => h)
    (y : YieldsIf P ops (Yet S W) o v a) (s : S (up.setIfInBounds i true) w) (H : Goes P md ops Q S n (up.setIfInBounds i true) (a.put o.dst v) w) : Goes P md ops Q S (n + 1) up a w :=
  Goes.take W ho hn hf hr hp hW hS y s H
end
end Go.Proofs.YtbloejlebikecaaGreatDoor
