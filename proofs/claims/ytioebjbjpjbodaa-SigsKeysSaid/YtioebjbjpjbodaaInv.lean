/-
  mods.Inv, walked: the one whose product is 1, or none. Conditions: none.
-/
import Derived.Test.YtioebjbjpjbodaaAsm
import Derived.Test.YtioebjbjpjbodaaOrdT
import Derived.Deep.LoopGhost
namespace Go.Proofs.Ytioebjbjpjbodaa
open Go.RowKit
set_option linter.unusedVariables false

theorem Env.below {w w' : World} {l : List (Nat × Nat)} (h : Env w l w') : Below w.heap.size w w' := h.1
/-- two boxes are filled anew, in whatever order -/
theorem Env.two {w w' : World} {l : List (Nat × Nat)} (h : Env w l w') (g1 x1 y1 g2 x2 y2 : Nat) (l' : List (Nat × Nat)) (h1 : (g1, x1) ∈ l) (h2 : (g2, x2) ∈ l) (b1 : w.heap.size ≤ g1) (b2 : w.heap.size ≤ g2) (hne : g1 ≠ g2) (hl : ∀ p ∈ l', p ∈ l ∧ p.1 ≠ g1 ∧ p.1 ≠ g2) :
    Env w ((g1, y1) :: (g2, y2) :: l') (fil (fil w' g1 y1) g2 y2) ∧ Env w ((g1, y1) :: (g2, y2) :: l') (fil (fil w' g2 y2) g1 y1) ∧ Env w ((g1, y1) :: (g2, x2) :: l') (fil w' g1 y1) ∧ Env w ((g2, y2) :: (g1, x1) :: l') (fil w' g2 y2) := by
  have A : Env w ((g1, y1) :: (g2, x2) :: l') (fil w' g1 y1) := h.set g1 x1 y1 ((g2, x2) :: l') h1 b1 (fun p hp => by
    rcases List.mem_cons.1 hp with rfl | hp
    · exact ⟨h2, Ne.symm hne⟩
    · exact ⟨(hl p hp).1, (hl p hp).2.1⟩)
  have B : Env w ((g2, y2) :: (g1, x1) :: l') (fil w' g2 y2) := h.set g2 x2 y2 ((g1, x1) :: l') h2 b2 (fun p hp => by
    rcases List.mem_cons.1 hp with rfl | hp
    · exact ⟨h1, hne⟩
    · exact ⟨(hl p hp).1, (hl p hp).2.2⟩)
  refine ⟨?_, ?_, A, B⟩
  · exact (A.set g2 x2 y2 ((g1, y1) :: l') (by simp) b2 (fun p hp => by
      rcases List.mem_cons.1 hp with rfl | hp
      · exact ⟨by simp, hne⟩
      · exact ⟨by simp [hp], (hl p hp).2.2⟩)).perm (by intro p hp; simp only [List.mem_cons] at hp ⊢; rcases hp with h | h | h <;> simp [h])
  · exact B.set g1 x1 y1 ((g2, y2) :: l') (by simp) b1 (fun p hp => by
      rcases List.mem_cons.1 hp with rfl | hp
      · exact ⟨by simp, Ne.symm hne⟩
      · exact ⟨by simp [hp], (hl p hp).2.1⟩)
/-- what a round of Inv carries -/
def InvP (a m wh re la ne : Nat) : Prop := re < wh ∧ wh ≤ m ∧ la < m ∧ ne < m ∧ Cg m ((a : Int) * la) wh ∧ Cg m ((a : Int) * ne) re ∧ Nat.gcd wh re = Nat.gcd a m ∧ wh ≠ 1
theorem InvP.step {a m wh re la ne t z : Nat} (h : InvP a m wh re la ne) (h0 : re ≠ 0) (h1 : re ≠ 1) (ht : wh / re * ne % m = t) (hz : (la + (m - t)) % m = z) : InvP a m re (wh % re) ne z := by
  obtain ⟨p1, p2, p3, p4, p5, p6, p7, p8⟩ := h
  have hm : 0 < m := by omega
  refine ⟨Nat.mod_lt _ (by omega), by omega, p4, by rw [← hz]; exact Nat.mod_lt _ hm, p6, ?_, by rw [gcd_step]; exact p7, h1⟩
  refine ivs_step p5 p6 ht.symm ?_
  rw [← hz]
  exact Cg.of_sub (by rw [← ht]; exact Nat.le_of_lt (Nat.mod_lt _ hm))
theorem InvP.no {a m wh la ne : Nat} (h : InvP a m wh 0 la ne) : Nat.gcd a m ≠ 1 := by
  rw [← h.2.2.2.2.2.2.1, Nat.gcd_zero_right]; exact h.2.2.2.2.2.2.2
/-- what Inv answers -/
def InvE (a m : Nat) (e : Ending) : Prop := (∃ v, Ivs a m v ∧ e = .returned (.tuple #[num v, .int .i64 0])) ∨ (Nat.gcd a m ≠ 1 ∧ e = .returned (.tuple #[num 0, .int .i64 7]))
theorem rsub_b (a b m r g : Nat) (w : World) (hg : Nm w g m) (ha : a < m) (hb : b < m) (hm : m < 2 ^ 256) (hr : (a + (m - b)) % m = r) : Calls Try.prog 30 #[num a, num b, .pointer (some ⟨g, 0, none⟩)] w fun e w' => e = .returned (num r) ∧ Below w.heap.size w w' := by
  subst hr; exact rsub_any a b m g w hg ha hb hm
theorem rmul_b (a b m r g : Nat) (w : World) (hg : Nm w g m) (ha : a < 2 ^ 256) (hb : b < 2 ^ 256) (hm : m < 2 ^ 256) (h0 : m ≠ 0) (hr : a * b % m = r) : Calls Try.prog 31 #[num a, num b, .pointer (some ⟨g, 0, none⟩)] w fun e w' => e = .returned (num r) ∧ Below w.heap.size w w' := by
  subst hr; exact rmul_any a b m g w hg ha hb hm h0
end Go.Proofs.Ytioebjbjpjbodaa
