/-
  What a loop over two boxes carries. Conditions: none.
-/
import Derived.Test.YtaggegknnnembaaDoorBox
namespace Go.Proofs.YtaggegknnnembaaDoor
open Go.RowKit
set_option linter.unusedVariables false

/-- what the loop carries: the two numbers' boxes, and those of what is gathered -/
def Sp (w : World) (ga gb gl gh a b lo hi : Nat) (w' : World) : Prop := Env w [(gh, hi), (gl, lo), (gb, b), (ga, a)] w' ∧ gl ≠ ga ∧ gl ≠ gb ∧ gl ≠ gh ∧ gh ≠ ga ∧ gh ≠ gb ∧ w.heap.size ≤ gl ∧ w.heap.size ≤ gh
section
variable {w w' w2 : World} {ga gb gl gh a b lo hi : Nat}
theorem Sp.on (h : Sp w ga gb gl gh a b lo hi w') (hb : Below w'.heap.size w' w2) : Sp w ga gb gl gh a b lo hi w2 := ⟨h.1.on hb, h.2⟩
theorem Sp.drew (h : Sp w ga gb gl gh a b lo hi w') : Sp w ga gb gl gh a b lo hi w'.drew := ⟨h.1.drew, h.2⟩
theorem Sp.setLo (h : Sp w ga gb gl gh a b lo hi w') (x : Nat) : Sp w ga gb gl gh a b x hi (fil w' gl x) := by
  obtain ⟨⟨hb, hm⟩, h1, h2, h3, h4, h5, h6, h7⟩ := h
  refine ⟨⟨fil_below x hb h6, fun p hp => ?_⟩, h1, h2, h3, h4, h5, h6, h7⟩
  simp only [List.mem_cons, List.not_mem_nil, or_false] at hp
  rcases hp with rfl | rfl | rfl | rfl
  · exact fil_other x hi (hm (gh, hi) (by simp)) (Ne.symm h3)
  · exact fil_nm x (hm (gl, lo) (by simp)).fr
  · exact fil_other x b (hm (gb, b) (by simp)) (Ne.symm h2)
  · exact fil_other x a (hm (ga, a) (by simp)) (Ne.symm h1)
theorem Sp.setHi (h : Sp w ga gb gl gh a b lo hi w') (x : Nat) : Sp w ga gb gl gh a b lo x (fil w' gh x) := by
  obtain ⟨⟨hb, hm⟩, h1, h2, h3, h4, h5, h6, h7⟩ := h
  refine ⟨⟨fil_below x hb h7, fun p hp => ?_⟩, h1, h2, h3, h4, h5, h6, h7⟩
  simp only [List.mem_cons, List.not_mem_nil, or_false] at hp
  rcases hp with rfl | rfl | rfl | rfl
  · exact fil_nm x (hm (gh, hi) (by simp)).fr
  · exact fil_other x lo (hm (gl, lo) (by simp)) h3
  · exact fil_other x b (hm (gb, b) (by simp)) (Ne.symm h5)
  · exact fil_other x a (hm (ga, a) (by simp)) (Ne.symm h4)
theorem sp_of {f : FuncId} {args : Array Value} {v : Value} (hc : Calls Tryd.prog f args w' fun e w2 => e = .returned v ∧ Below w'.heap.size w' w2) (h : Sp w ga gb gl gh a b lo hi w') : Calls Tryd.prog f args w' fun e w2 => e = .returned v ∧ Sp w ga gb gl gh a b lo hi w2 :=
  hc.mono fun e w2 ⟨he, hb⟩ => ⟨he, h.on hb⟩
theorem Sp.cells (h : Sp w ga gb gl gh a b lo hi w') : (w'.cell? ⟨ga, 0, none⟩ = some (.int .u64 (wd a 0 : Int)) ∧ w'.cell? ⟨ga, 1, none⟩ = some (.int .u64 (wd a 1 : Int)) ∧ w'.cell? ⟨ga, 2, none⟩ = some (.int .u64 (wd a 2 : Int)) ∧ w'.cell? ⟨ga, 3, none⟩ = some (.int .u64 (wd a 3 : Int)))
    ∧ (w'.cell? ⟨gl, 0, none⟩ = some (.int .u64 (wd lo 0 : Int)) ∧ w'.cell? ⟨gl, 1, none⟩ = some (.int .u64 (wd lo 1 : Int)) ∧ w'.cell? ⟨gl, 2, none⟩ = some (.int .u64 (wd lo 2 : Int)) ∧ w'.cell? ⟨gl, 3, none⟩ = some (.int .u64 (wd lo 3 : Int)))
    ∧ (w'.cell? ⟨gh, 0, none⟩ = some (.int .u64 (wd hi 0 : Int)) ∧ w'.cell? ⟨gh, 1, none⟩ = some (.int .u64 (wd hi 1 : Int)) ∧ w'.cell? ⟨gh, 2, none⟩ = some (.int .u64 (wd hi 2 : Int)) ∧ w'.cell? ⟨gh, 3, none⟩ = some (.int .u64 (wd hi 3 : Int)))
    ∧ (∀ i, w'.frozen? ⟨gl, i, none⟩ = false) ∧ (∀ i, w'.frozen? ⟨gh, i, none⟩ = false) :=
  ⟨h.1.cell ga a (by simp), h.1.cell gl lo (by simp), h.1.cell gh hi (by simp), (h.1.nm gl lo (by simp)).fr.frozen, (h.1.nm gh hi (by simp)).fr.frozen⟩
end
end Go.Proofs.YtaggegknnnembaaDoor
