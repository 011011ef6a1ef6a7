/-
  Boxes that hold long numbers, and what is stored into them. Conditions: none.
-/
import Derived.Test.YtioebjbjpjbodaaAt
import Derived.Deep.RegionWith
import Derived.Deep.RegionHeld3
import Derived.Deep.DeepCutAuto
namespace Go.Proofs.Ytioebjbjpjbodaa
open Go.RowKit
set_option linter.unusedVariables false

/-- x stored into box g -/
abbrev fil (w : World) (g x : Nat) : World := (((w.setCell ⟨g, 0, none⟩ (.int .u64 (wd x 0 : Int))).setCell ⟨g, 1, none⟩ (.int .u64 (wd x 1 : Int))).setCell ⟨g, 2, none⟩ (.int .u64 (wd x 2 : Int))).setCell ⟨g, 3, none⟩ (.int .u64 (wd x 3 : Int))
theorem fil_nm {w : World} {g : Nat} {a b c d : Value} (x : Nat) (h : Fr w g a b c d) : Nm (fil w g x) g x := (((h.set0 _).set1 _).set2 _).set3 _
theorem fil_below {w0 w : World} {g B : Nat} (x : Nat) (hb : Below B w0 w) (hg : B ≤ g) : Below B w0 (fil w g x) := (((hb.setCell (p := ⟨g, 0, none⟩) hg _).setCell (p := ⟨g, 1, none⟩) hg _).setCell (p := ⟨g, 2, none⟩) hg _).setCell (p := ⟨g, 3, none⟩) hg _
theorem Nm.fr {w : World} {g x : Nat} (h : Nm w g x) : Fr w g (.int .u64 (wd x 0 : Int)) (.int .u64 (wd x 1 : Int)) (.int .u64 (wd x 2 : Int)) (.int .u64 (wd x 3 : Int)) := h
theorem fil_other {w : World} {g g' : Nat} (x y : Nat) (h : Nm w g y) (hne : g ≠ g') : Nm (fil w g' x) g y :=
  (((h.fr.setOther _ hne).setOther _ hne).setOther _ hne).setOther _ hne
theorem cls_zero : (#[.int .u64 0, .int .u64 0, .int .u64 0, .int .u64 0] : Array Value) = cls 0 := by have := num_zero; injection this

theorem Env.perm {w w' : World} {l l' : List (Nat × Nat)} (h : Env w l w') (hs : ∀ p ∈ l', p ∈ l) : Env w l' w' := ⟨h.1, fun p hp => h.2 p (hs p hp)⟩
theorem Env.frozen {w w' : World} {l : List (Nat × Nat)} (h : Env w l w') (g x : Nat) (hm : (g, x) ∈ l) (i : Nat) : w'.frozen? ⟨g, i, none⟩ = false := (h.nm g x hm).fr.frozen i
/-- a box is filled anew: the others are as they were -/
theorem Env.set {w w' : World} {l : List (Nat × Nat)} (h : Env w l w') (g x y : Nat) (l' : List (Nat × Nat)) (hm : (g, x) ∈ l) (hg : w.heap.size ≤ g) (hl : ∀ p ∈ l', p ∈ l ∧ p.1 ≠ g) : Env w ((g, y) :: l') (fil w' g y) := by
  refine ⟨fil_below y h.1 hg, fun p hp => ?_⟩
  rcases List.mem_cons.1 hp with rfl | hp
  · exact fil_nm y (h.nm g x hm).fr
  · exact fil_other y p.2 (h.2 p (hl p hp).1) (hl p hp).2
theorem Env.zero {w w' : World} {l : List (Nat × Nat)} (h : Env w l w') : Env w ((w'.heap.size, 0) :: l) (w'.alloc (.cells #[.int .u64 0, .int .u64 0, .int .u64 0, .int .u64 0] 24)) := by
  rw [cls_zero]; exact h.new 0
theorem env_of {w w' : World} {l : List (Nat × Nat)} {f : FuncId} {args : Array Value} {v : Value} (hc : Calls Try.prog f args w' fun e w2 => e = .returned v ∧ Below w'.heap.size w' w2) (h : Env w l w') : Calls Try.prog f args w' fun e w2 => e = .returned v ∧ Env w l w2 :=
  hc.mono fun e w2 ⟨he, hb⟩ => ⟨he, h.on hb⟩
theorem add_b (x y s : Nat) (k : Int) (w : World) (hx : x < 2 ^ 256) (hy : y < 2 ^ 256) (hs : (x + y) % 2 ^ 256 = s) (hk : (((x + y) / 2 ^ 256 : Nat) : Int) = k) : Calls Try.prog 6 #[num x, num y] w fun e w2 => e = .returned (.tuple #[num s, .int .u64 k]) ∧ Below w.heap.size w w2 := by
  subst hs; subst hk; exact ladd_any x y w hx hy
theorem sub_b (x y s : Nat) (k : Int) (w : World) (hx : x < 2 ^ 256) (hy : y < 2 ^ 256) (hs : dif x y = s) (hk : ((lent x y : Nat) : Int) = k) : Calls Try.prog 29 #[num x, num y] w fun e w2 => e = .returned (.tuple #[num s, .int .u64 k]) ∧ Below w.heap.size w w2 := by
  subst hs; subst hk; exact sub_any x y w hx hy
end Go.Proofs.Ytioebjbjpjbodaa
