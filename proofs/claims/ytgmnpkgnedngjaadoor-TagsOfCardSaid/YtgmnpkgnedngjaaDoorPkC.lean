/-
  A region that draws its order: what holds of the world may hang on what has come up (a box that is loaded, then stored into). Conditions: none.
  A region that draws its order: two laws of Ord said shorter. Conditions: none.
-/
import Derived.Test.YtgmnpkgnedngjaaDoorUs
import Derived.Deep.RegionHeld3
import Derived.StillTail
namespace Go.Proofs.YtgmnpkgnedngjaaDoor
open Go.RowKit
set_option linter.unusedVariables false

section
variable {P : Program} {md : Region.Mode} {ops : Array Oper} {Q : Exit → Act → World → Prop} {S : Array Bool → World → Prop}
/-- all goes well from here on, in whatever order; S holds behind each operation -/
def Goes (P : Program) (md : Region.Mode) (ops : Array Oper) (Q : Exit → Act → World → Prop) (S : Array Bool → World → Prop) : Nat → Array Bool → Act → World → Prop
  | 0, up, a, w => Region.ready md ops up = [] ∧ Q .normal a w
  | n + 1, up, a, w => (Region.ready md ops up = [] → Q .normal a w) ∧ ∀ j ∈ Region.ready md ops up, wpOp P ops Q j (fun b u => S (up.setIfInBounds j true) u ∧ Goes P md ops Q S n (up.setIfInBounds j true) b u) a w
theorem Goes.any (n : Nat) : ∀ (up : Array Bool) (a : Act) (w : World), Goes P md ops Q S n up a w → wpAny P md ops Q n up a w := by
  induction n with
  | zero => exact fun _ _ _ h => h
  | succ n ih => exact fun up a w h => ⟨h.1, fun j hj => wpOp_mono (fun b u g => ih _ b u g.2) (h.2 j hj)⟩
/-- S at a time when none of these has come up -/
def Yet (S : Array Bool → World → Prop) (W : List Nat) (w : World) : Prop := ∃ up : Array Bool, (∀ j ∈ W, up.getD j true = false) ∧ S up w
theorem Goes.early {i : Nat} {o : Oper} {v : Value} {W : List Nat} (ho : ops[i]? = some o) (hn : Region.noSelect ops = true) (hp : ∀ c a w, Q (.panic c) (a.put o.dst v) w → Q (.panic c) a w)
    (hW : ∀ j ∈ W, Region.waitsFor md ops j i = true) (hS : ∀ (L : Array Bool) (u : World), S (L.setIfInBounds i true) u → S L u) (n : Nat) :
    ∀ (up : Array Bool) (a : Act) (w : World),
      (∀ j p, ops[j]? = some p → j ≠ i → up.getD j true = false → (∀ e ∈ p.after, Region.binds md e = true → e.on ≠ i) → o.apart ops p = true) →
      i ∈ Region.ready md ops up → (∀ j ∈ W, up.getD j true = false) → YieldsIf P ops (Yet S W) o v a → S (up.setIfInBounds i true) w →
      Goes P md ops Q S n (up.setIfInBounds i true) (a.put o.dst v) w → Goes P md ops Q S (n + 1) up a w := by
  have sel := Region.noSelect_spec hn
  induction n with
  | zero =>
    intro up a w hf hr hU hy hs H
    refine ⟨fun h => (by rw [h] at hr; cases hr), fun j hj => ?_⟩
    rcases Nat.decEq j i with h | h
    · have := ready_mono hj h
      rw [H.1] at this
      cases this
    · subst h
      exact hy.wpOp ho ⟨up, hU, hS up w hs⟩ ⟨hs, H⟩
  | succ n ih =>
    intro up a w hf hr hU hy hs H
    refine ⟨fun h => (by rw [h] at hr; cases hr), fun j hj => ?_⟩
    rcases Nat.decEq j i with h | h
    · obtain ⟨un, p, hp2, hall⟩ := mem_ready.1 hj
      have late : ∀ e ∈ p.after, Region.binds md e = true → e.on ≠ i := by
        intro e he hb heq
        have g1 := hall e he hb
        have g0 := (mem_ready.1 hr).1
        rw [heq] at g1
        rcases Nat.lt_or_ge i up.size with h' | h'
        · simp [h'] at g0 g1; rw [g0] at g1; cases g1
        · simp [Array.getElem?_eq_none h'] at g1
      have notW : ∀ k ∈ W, k ≠ j := by
        intro k hk e
        subst e
        obtain ⟨q, hq, e, he, hb, hon⟩ := Region.waitsFor_spec (hW _ hk)
        rw [hp2] at hq
        cases hq
        exact late e he hb hon
      have st := wpOp_putIf hp2 (hf j p hp2 h un late) (fun cs b => sel i o cs b ho) (fun cs b => sel j p cs b hp2) hp hy (H.2 j (ready_mono hj h))
      refine wpOp_mono (fun b u g => ?_) st
      have gs := g.2.1
      rw [Array.setIfInBounds_comm _ _ (Ne.symm h)] at gs
      refine ⟨hS _ _ gs, ih _ b u ?_ (ready_mono hr (Ne.symm h)) ?_ g.1 gs ?_⟩
      · intro k q hk hki hun hno
        refine hf k q hk hki ?_ hno
        rcases Nat.decEq j k with e | e
        · rwa [getD_set_ne true e] at hun
        · subst e; exact un
      · intro k hk
        rw [getD_set_ne true (Ne.symm (notW k hk))]
        exact hU k hk
      · have := g.2.2
        rwa [Array.setIfInBounds_comm _ _ (Ne.symm h)] at this
    · subst h
      exact hy.wpOp ho ⟨up, hU, hS up w hs⟩ ⟨hs, H⟩
/-- number i is taken first -/
theorem Goes.take {i : Nat} {o : Oper} {v : Value} (W : List Nat) {n : Nat} {up : Array Bool} {a : Act} {w : World} (ho : ops[i]? = some o) (hn : Region.noSelect ops = true) (hf : Region.free md ops up i = true) (hr : (Region.ready md ops up).contains i = true)
    (hp : ∀ c a w, Q (.panic c) (a.put o.dst v) w → Q (.panic c) a w) (hW : (W.all fun j => Region.waitsFor md ops j i && !(up.getD j true)) = true) (hS : ∀ (L : Array Bool) (u : World), S (L.setIfInBounds i true) u → S L u)
    (hy : YieldsIf P ops (Yet S W) o v a) (hs : S (up.setIfInBounds i true) w) (H : Goes P md ops Q S n (up.setIfInBounds i true) (a.put o.dst v) w) : Goes P md ops Q S (n + 1) up a w := by
  have hW2 := List.all_eq_true.1 hW
  refine Goes.early (W := W) ho hn hp (fun j hj => ?_) hS n up a w (Region.free_spec ho hf) (by simpa using hr) (fun j hj => ?_) hy hs H
  · have := hW2 j hj; simp only [Bool.and_eq_true] at this; exact this.1
  · have := hW2 j hj; simp only [Bool.and_eq_true, Bool.not_eq_true'] at this; exact this.2
/-- no other than number i may come up -/
theorem Goes.one {i : Nat} {o : Oper} {n : Nat} {up : Array Bool} {a : Act} {w : World} (hr : Region.ready md ops up = [i]) (ho : ops[i]? = some o)
    (h : ∀ K : Act → World → Prop, Shut (∀ b u, S (up.setIfInBounds i true) u → Goes P md ops Q S n (up.setIfInBounds i true) b u → K b u) → if Region.wanted o (yielded ops a.tmps) = true then Oper.wp P o a w K Q else K (a.put o.dst undef) w) : Goes P md ops Q S (n + 1) up a w := by
  refine ⟨fun e => (by rw [hr] at e; cases e), fun j hj => ?_⟩
  rw [hr] at hj
  obtain rfl := List.mem_singleton.1 hj
  exact wpOp_step ho (fun K hK => h K (fun b u h1 h2 => hK b u ⟨h1, h2⟩))
/-- a step of number i, handed over -/
def Hand (P : Program) (md : Region.Mode) (ops : Array Oper) (Q : Exit → Act → World → Prop) (S : Array Bool → World → Prop) (n : Nat) (up : Array Bool) (a : Act) (w : World) (i : Nat) (o : Oper) : Prop :=
  ∀ K : Act → World → Prop, Shut (∀ b u, S (up.setIfInBounds i true) u → Goes P md ops Q S n (up.setIfInBounds i true) b u → K b u) → if Region.wanted o (yielded ops a.tmps) = true then Oper.wp P o a w K Q else K (a.put o.dst undef) w
theorem Goes.two {i j : Nat} {o p : Oper} {n : Nat} {up : Array Bool} {a : Act} {w : World} (hr : Region.ready md ops up = [i, j]) (ho : ops[i]? = some o) (hp : ops[j]? = some p)
    (h1 : Hand P md ops Q S n up a w i o) (h2 : Hand P md ops Q S n up a w j p) : Goes P md ops Q S (n + 1) up a w := by
  refine ⟨fun e => (by rw [hr] at e; cases e), fun k hk => ?_⟩
  rw [hr] at hk
  rcases List.mem_cons.1 hk with rfl | hk
  · exact wpOp_step ho (fun K hK => h1 K (fun b u h1 h2 => hK b u ⟨h1, h2⟩))
  · obtain rfl := List.mem_singleton.1 hk
    exact wpOp_step hp (fun K hK => h2 K (fun b u h1 h2 => hK b u ⟨h1, h2⟩))
theorem Goes.three {i j k : Nat} {o p q : Oper} {n : Nat} {up : Array Bool} {a : Act} {w : World} (hr : Region.ready md ops up = [i, j, k]) (ho : ops[i]? = some o) (hp : ops[j]? = some p) (hq : ops[k]? = some q)
    (h1 : Hand P md ops Q S n up a w i o) (h2 : Hand P md ops Q S n up a w j p) (h3 : Hand P md ops Q S n up a w k q) : Goes P md ops Q S (n + 1) up a w := by
  refine ⟨fun e => (by rw [hr] at e; cases e), fun m hm => ?_⟩
  rw [hr] at hm
  rcases List.mem_cons.1 hm with rfl | hm
  · exact wpOp_step ho (fun K hK => h1 K (fun b u h1 h2 => hK b u ⟨h1, h2⟩))
  rcases List.mem_cons.1 hm with rfl | hm
  · exact wpOp_step hp (fun K hK => h2 K (fun b u h1 h2 => hK b u ⟨h1, h2⟩))
  · obtain rfl := List.mem_singleton.1 hm
    exact wpOp_step hq (fun K hK => h3 K (fun b u h1 h2 => hK b u ⟨h1, h2⟩))
theorem Goes.done {up : Array Bool} {a : Act} {w : World} (hr : Region.ready md ops up = []) (h : Q .normal a w) : ∀ n, Goes P md ops Q S n up a w
  | 0 => ⟨hr, h⟩
  | _ + 1 => ⟨fun _ => h, by rw [hr]; simp⟩
theorem Goes.region {id : Nat} {a : Act} {w : World} (S : Array Bool → World → Prop) (hm : P.follows .mixedOrders = true) (h : Goes P .any ops Q S ops.size (Array.replicate ops.size false) a w.drew) : (Code.region id ops true).wp P Q a w :=
  wp_region_any hm (h.any _ _ _ _)
end
end Go.Proofs.YtgmnpkgnedngjaaDoor
namespace Go.Proofs.YtgmnpkgnedngjaaDoor
open Go.RowKit
set_option linter.unusedVariables false
/-- one put into the registers that are written out: what it leaves -/
theorem putz : (∀ (a : Act) (d : Nat) (v : Value), a.put (some d) v = { a with tmps := a.tmps.setIfInBounds d v }) ∧ (∀ (a : Act) (v : Value), a.put none v = a) ∧ (∀ (l : List Value) (i : Nat) (v : Value), l.toArray.setIfInBounds i v = (l.set i v).toArray) ∧ (∀ (a : Value) (l : List Value) (v : Value), (a :: l).set 0 v = v :: l) ∧ (∀ (a : Value) (l : List Value) (n : Nat) (v : Value), (a :: l).set (n + 1) v = a :: l.set n v) :=
  ⟨fun _ _ _ => rfl, fun _ _ => rfl, fun l i v => List.setIfInBounds_toArray l i v, fun _ _ _ => rfl, fun _ _ _ _ => rfl⟩
section
variable {P : Program} {md : Region.Mode} {ops : Array Oper} {Q : Exit → Act → World → Prop} {S : Array Bool → World → Prop}
/-- the same, what can be reckoned left out -/
theorem Goes.tk {i : Nat} {o : Oper} {v : Value} (W : List Nat) {n : Nat} {up : Array Bool} {a : Act} {w : World} (ho : ops[i]? = some o := by exact rfl) (hn : Region.noSelect ops = true := by kernel_rfl) (hf : Region.free md ops up i = true := by kernel_rfl) (hr : (Region.ready md ops up).contains i = true := by kernel_rfl)
    (hp : ∀ c a w, Q (.panic c) (a.put o.dst v) w → Q (.panic c) a w := by exact fun _ _ _ h => h) (hW : (W.all fun j => Region.waitsFor md ops j i && !(up.getD j true)) = true := by kernel_rfl) (hS : ∀ (L : Array Bool) (u : World), S (L.setIfInBounds i true) u → S L u := by exact fun L u h => h)
    (y : YieldsIf P ops (Yet S W) o v a) (s : S (up.setIfInBounds i true) w) (H : Goes P md ops Q S n (up.setIfInBounds i true) (a.put o.dst v) w) : Goes P md ops Q S (n + 1) up a w :=
  Goes.take W ho hn hf hr hp hW hS y s H
end
end Go.Proofs.YtgmnpkgnedngjaaDoor
