/-
  From a slice of bytes as the reading gives it to 'Rd'. Conditions: none.
-/
import Derived.Test.YtgmnpkgnedngjaaDoorPkB
import Derived.ProofKit
import Derived.OpenShut
namespace Go.Proofs.YtgmnpkgnedngjaaDoor
open Go.RowKit
set_option linter.unusedVariables false

/-- a slice of integers that came in: nil, or a row of 'cap' cells -/
def IsRow (k : IntKind) (w : World) (a : Option Addr) (len cap : Nat) (zs : List Int) : Prop :=
  (a = none ∧ len = 0 ∧ cap = 0 ∧ zs = []) ∨
  ∃ x, a = some x ∧ len ≤ cap ∧ cap ≤ maxLen ∧ zs.length = cap ∧ (∀ i, i < zs.length → w.cell? (x.add i) = some (.int k (zs.getD i 0))) ∧ ∀ n ∈ zs, (Lit.int k n).wf = true

theorem IsRow.rd {w : World} {a : Option Addr} {len cap : Nat} {zs : List Int} (h : IsRow .u8 w a len cap zs) : ∃ bs : List UInt8, bs.length = len ∧ Rd w a bs ∧ len ≤ cap ∧ cap ≤ 9223372036854775807 := by
  rcases h with ⟨rfl, rfl, rfl, rfl⟩ | ⟨x, rfl, hl, hm, hz, hc, hw⟩
  · exact ⟨[], rfl, Rd.nil _ _, Nat.le_refl _, by omega⟩
  · refine ⟨(zs.take len).map fun z => UInt8.ofNat z.toNat, by simp; omega, ?_, hl, hm⟩
    intro hp
    have hp' : 0 < zs.length := by simp at hp; omega
    obtain ⟨b, off, rfl, hcc⟩ := ints_at hc hp'
    refine ⟨b, off, rfl, ?_, fun j hj => ?_⟩
    · exact World.block_lt_of_cell? w _ (hcc 0 hp')
    · have hj' : j < zs.length := by simp at hj; omega
      rw [hcc j hj']
      have hb := bounds_u8 (hw zs[j] (List.getElem_mem hj'))
      have e : zs.getD j 0 = zs[j] := by simp [hj']
      rw [e]
      congr 2
      simp only [List.getElem_map, List.getElem_take, UInt8.toNat_ofNat']
      have e8 : (2 : Nat) ^ 8 = 256 := by decide
      rw [e8]
      omega
end Go.Proofs.YtgmnpkgnedngjaaDoor
