/-
  From a slice of slices of bytes, as the reading gives it, to what the walks ask. Conditions: none (the form's own reach is used).
-/
import Derived.Test.YtgmnpkgnedngjaaDoorLaid
import Derived.Deep.Matrix
namespace Go.Proofs.YtgmnpkgnedngjaaDoor
open Go.RowKit Go.ChangeShapes Go.WideShapes Go.ChangeAt Go.Deep
set_option linter.unusedVariables false

/-- a slice of slices of bytes: what its cells hold, and what lies there -/
def Rws (w : World) (a0 : Option Addr) (n : Nat) (A : Nat → Option Addr) (L C : Nat → Nat) (xs : Nat → List UInt8) : Prop :=
  ∀ r, r < n → (∃ g o, a0 = some ⟨g, o, none⟩ ∧ g < w.heap.size ∧ w.cell? ⟨g, o + r, none⟩ = some (.slice (A r) (L r) (C r))) ∧ (xs r).length = L r ∧ Rd w (A r) (xs r) ∧ L r ≤ C r ∧ C r ≤ 9223372036854775807 ∧ (A r = none → C r = 0)
theorem weightsAll_mem {H : Type} {P : Program} {e : TypeId} {d : DataW H} {n : Nat} : ∀ {l : List (DataW H)}, d ∈ l → n ∈ d.weights P e → n ∈ DataW.weightsAll P e l
  | [], h, _ => by cases h
  | x :: l, h, hn => by
    simp only [DataW.weightsAll, List.mem_append]
    rcases List.mem_cons.1 h with rfl | h
    · exact .inl hn
    · exact .inr (weightsAll_mem h hn)
section
variable {H : Type} {enc : TypeId × Value → H} {W : World} {base : Nat} {held : Bool} {d : DataW H} {p : List MemPlace}
set_option maxRecDepth 100000 in
theorem open_rows {a0 : Option Addr} {len0 cap0 : Nat} {ts : List TypeId} {ds : List (DataW H)} (h : DataW.Trod enc Tryd.prog W base (fun _ => true) held 50 (.slice a0 len0 cap0) d p)
    (hsz : (DataW.weightsEach Tryd.prog ts ds).all (· ≤ reachBytes) = true) (j : Nat) (ht : ts[j]? = some 50) (hj : ds[j]? = some d) : ∃ A L C xs, Rws W a0 len0 A L C xs ∧ len0 ≤ cap0 ∧ cap0 ≤ 9223372036854775807 := by
  obtain ⟨fuel, hf⟩ := h
  rcases open_int_rows Tryd.underlying50 Tryd.underlying37 Tryd.underlying5 (by kernel_rfl) (by kernel_rfl) hf with ⟨hcs, _⟩ | ⟨a, len, cap, A, L, C, Z, hcs, _, hl, hm, hx, hall⟩
  · simp [Value.cells] at hcs
    obtain ⟨rfl, rfl, rfl⟩ := hcs
    exact ⟨fun _ => none, fun _ => 0, fun _ => 0, fun _ => [], fun r hr => absurd hr (Nat.not_lt_zero _), Nat.le_refl _, by omega⟩
  · simp [Value.cells] at hcs
    obtain ⟨rfl, rfl, rfl⟩ := hcs
    have hrow : ∀ r, r < cap0 → IsRow .u8 W (A r) (L r) (C r) (Z r) := by
      intro r hr
      obtain ⟨_, h1, h2, h3, h4, h5, h6⟩ := hall r hr
      cases hA : A r with
      | none =>
        have hc := h5 hA
        have hz : Z r = [] := List.eq_nil_of_length_eq_zero (by omega)
        exact .inl ⟨rfl, by omega, hc, hz⟩
      | some x =>
        refine .inr ⟨x, rfl, h1, h2, h3, fun i hi => (h6 x hA).2 i (by omega), h4⟩
    have hex : ∀ r, ∃ bs : List UInt8, r < cap0 → bs.length = L r ∧ Rd W (A r) bs := by
      intro r
      by_cases hr : r < cap0
      · obtain ⟨bs, h1, h2, _⟩ := (hrow r hr).rd
        exact ⟨bs, fun _ => ⟨h1, h2⟩⟩
      · exact ⟨[], fun h => absurd h hr⟩
    have hd : d = .slice ((List.range len0).map fun r => intRow .u8 (A r) (L r) (Z r)) ((List.range (cap0 - len0)).map fun j => intRow .u8 (A (len0 + j)) (L (len0 + j)) (Z (len0 + j))) := congrArg Prod.fst hx
    refine ⟨A, L, C, fun r => Classical.choose (hex r), fun r hr => ?_, hl, hm⟩
    have hrc : r < cap0 := by omega
    obtain ⟨hcell, h1, h2, h3, h4, h5, h6⟩ := hall r hrc
    obtain ⟨e1, e2⟩ := Classical.choose_spec (hex r) hrc
    refine ⟨?_, e1, e2, h1, ?_, h5⟩
    · obtain ⟨b, off, spot⟩ := a
      have h0 := (hall 0 (by omega)).1
      have hspot : spot = none := by simpa [Addr.add] using World.cell?_spot h0
      subst hspot
      refine ⟨b, off, rfl, ?_, ?_⟩
      · have := World.block_lt_of_cell? W _ h0
        simpa [Addr.add] using this
      · rw [← Go.WideShapes.add_plain]; exact hcell
    · cases hA : A r with
      | none => have := h5 hA; omega
      | some x =>
        have hmem : (C r) ∈ DataW.weightsEach Tryd.prog ts ds := by
          refine DataW.weights_mem_each ht hj (C r) ?_
          rw [hd]
          simp only [DataW.weights, Tryd.underlying50]
          refine List.mem_cons_of_mem _ (List.mem_append_left _ (weightsAll_mem (d := intRow .u8 (A r) (L r) (Z r)) (List.mem_map.2 ⟨r, List.mem_range.2 hr, rfl⟩) ?_))
          simp only [intRow, hA, DataW.weights, Tryd.underlying37, bytes_u8]
          refine List.mem_cons.2 (.inl ?_)
          simp [lits]
          omega
        have h9 : C r ≤ reachBytes := of_decide_eq_true (List.all_eq_true.1 hsz _ hmem)
        unfold reachBytes at h9
        omega
end
end Go.Proofs.YtgmnpkgnedngjaaDoor
