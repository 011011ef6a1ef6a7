/-
  A region that draws its order: what holds of the world may hang on what has come up (a box that is loaded, then stored into). Conditions: none.
  A region that draws its order: two laws of Ord said shorter. Conditions: none.
  math/bits.LeadingZeros64, Div64, Rem64, Mul64, walked. Conditions: Div64's: the high word is below what is divided by.
  From a slice of bytes as the reading gives it to 'Rd'. Conditions: none.
  shas.mix, walked: numbers taken against each other. Conditions: none.
  shas.turn, walked: bits moved round. Conditions: none.
-/
import Derived.Test.YtioebjbjpjbodaaDoorPkAc
import Derived.Deep.RegionHeld3
import Derived.StillTail
import Derived.Test.YtioebjbjpjbodaaDoorPkAb
import Derived.Shelf.Small.Bits
import Derived.Shelf.Bits.Mul64
import Derived.Deep.DeepCutAuto
import Derived.Deep.CutBlock
import Derived.Test.YtioebjbjpjbodaaDoorPkWords
import Derived.ProofKit
import Derived.OpenShut
import Derived.Laws.BitsAllLaws
import Derived.Outline
import Derived.WalkLawsBesides
import Derived.WalkSpells
namespace Go.Proofs.YtioebjbjpjbodaaDoor
open Go.RowKit
set_option linter.unusedVariables false

section
variable {P : Program} {md : Region.Mode} {ops : Array Oper} {Q : Exit → Act → World → Prop} {S : Array Bool → World → Prop}
/-- all goes well from here on, in whatever order; S holds behind each operation -/
def Goes (P : Program) (md : Region.Mode) (ops : Array Oper) (Q : Exit → Act → World → Prop) (S : Array Bool → World → Prop) : Nat → Array Bool → Act → World → Prop
  | 0, up, a, w => Region.ready md ops up = [] ∧ Q .normal a w
  | n + 1, up, a, w => (Region.ready md ops up = [] → Q .normal a w) ∧ ∀ j ∈ Region.ready md ops up, wpOp P ops Q j (fun b u => S (up.setIfInBounds j true) u ∧ Goes P md ops Q S n (up.setIfInBounds j true) b u) a w
theorem Goes.any (n : Nat) : ∀ (up : Array Bool) (a : Act) (w : World), Goes P md ops Q S n up a w → wpAny P md ops Q n up a w := by
  induction n with
  | zero => exact fun _ _ _ h => h
  | succ n ih => exact fun up a w h => ⟨h.1, fun j hj => wpOp_mono (fun b u g => ih _ b u g.2) (h.2 j hj)⟩
/-- S at a time when none of these has come up -/
def Yet (S : Array Bool → World → Prop) (W : List Nat) (w : World) : Prop := ∃ up : Array Bool, (∀ j ∈ W, up.getD j true = false) ∧ S up w
theorem Goes.early {i : Nat} {o : Oper} {v : Value} {W : List Nat} (ho : ops[i]? = some o) (hn : Region.noSelect ops = true) (hp : ∀ c a w, Q (.panic c) (a.put o.dst v) w → Q (.panic c) a w)
    (hW : ∀ j ∈ W, Region.waitsFor md ops j i = true) (hS : ∀ (L : Array Bool) (u : World), S (L.setIfInBounds i true) u → S L u) (n : Nat) :
    ∀ (up : Array Bool) (a : Act) (w : World),
      (∀ j p, ops[j]? = some p → j ≠ i → up.getD j true = false → (∀ e ∈ p.after, Region.binds md e = true → e.on ≠ i) → o.apart ops p = true) →
      i ∈ Region.ready md ops up → (∀ j ∈ W, up.getD j true = false) → YieldsIf P ops (Yet S W) o v a → S (up.setIfInBounds i true) w →
      Goes P md ops Q S n (up.setIfInBounds i true) (a.put o.dst v) w → Goes P md ops Q S (n + 1) up a w := by
  have sel := Region.noSelect_spec hn
  induction n with
  | zero =>
    intro up a w hf hr hU hy hs H
    refine ⟨fun h => (by rw [h] at hr; cases hr), fun j hj => ?_⟩
    rcases Nat.decEq j i with h | h
    · have := ready_mono hj h
      rw [H.1] at this
      cases this
    · subst h
      exact hy.wpOp ho ⟨up, hU, hS up w hs⟩ ⟨hs, H⟩
  | succ n ih =>
    intro up a w hf hr hU hy hs H
    refine ⟨fun h => (by rw [h] at hr; cases hr), fun j hj => ?_⟩
    rcases Nat.decEq j i with h | h
    · obtain ⟨un, p, hp2, hall⟩ := mem_ready.1 hj
      have late : ∀ e ∈ p.after, Region.binds md e = true → e.on ≠ i := by
        intro e he hb heq
        have g1 := hall e he hb
        have g0 := (mem_ready.1 hr).1
        rw [heq] at g1
        rcases Nat.lt_or_ge i up.size with h' | h'
        · simp [h'] at g0 g1; rw [g0] at g1; cases g1
        · simp [Array.getElem?_eq_none h'] at g1
      have notW : ∀ k ∈ W, k ≠ j := by
        intro k hk e
        subst e
        obtain ⟨q, hq, e, he, hb, hon⟩ := Region.waitsFor_spec (hW _ hk)
        rw [hp2] at hq
        cases hq
        exact late e he hb hon
      have st := wpOp_putIf hp2 (hf j p hp2 h un late) (fun cs b => sel i o cs b ho) (fun cs b => sel j p cs b hp2) hp hy (H.2 j (ready_mono hj h))
      refine wpOp_mono (fun b u g => ?_) st
      have gs := g.2.1
      rw [Array.setIfInBounds_comm _ _ (Ne.symm h)] at gs
      refine ⟨hS _ _ gs, ih _ b u ?_ (ready_mono hr (Ne.symm h)) ?_ g.1 gs ?_⟩
      · intro k q hk hki hun hno
        refine hf k q hk hki ?_ hno
        rcases Nat.decEq j k with e | e
        · rwa [getD_set_ne true e] at hun
        · subst e; exact un
      · intro k hk
        rw [getD_set_ne true (Ne.symm (notW k hk))]
        exact hU k hk
      · have := g.2.2
        rwa [Array.setIfInBounds_comm _ _ (Ne.symm h)] at this
    · subst h
      exact hy.wpOp ho ⟨up, hU, hS up w hs⟩ ⟨hs, H⟩
/-- number i is taken first -/
theorem Goes.take {i : Nat} {o : Oper} {v : Value} (W : List Nat) {n : Nat} {up : Array Bool} {a : Act} {w : World} (ho : ops[i]? = some o) (hn : Region.noSelect ops = true) (hf : Region.free md ops up i = true) (hr : (Region.ready md ops up).contains i = true)
    (hp : ∀ c a w, Q (.panic c) (a.put o.dst v) w → Q (.panic c) a w) (hW : (W.all fun j => Region.waitsFor md ops j i && !(up.getD j true)) = true) (hS : ∀ (L : Array Bool) (u : World), S (L.setIfInBounds i true) u → S L u)
    (hy : YieldsIf P ops (Yet S W) o v a) (hs : S (up.setIfInBounds i true) w) (H : Goes P md ops Q S n (up.setIfInBounds i true) (a.put o.dst v) w) : Goes P md ops Q S (n + 1) up a w := by
  have hW2 := List.all_eq_true.1 hW
  refine Goes.early (W := W) ho hn hp (fun j hj => ?_) hS n up a w (Region.free_spec ho hf) (by simpa using hr) (fun j hj => ?_) hy hs H
  · have := hW2 j hj; simp only [Bool.and_eq_true] at this; exact this.1
  · have := hW2 j hj; simp only [Bool.and_eq_true, Bool.not_eq_true'] at this; exact this.2
/-- no other than number i may come up -/
theorem Goes.one {i : Nat} {o : Oper} {n : Nat} {up : Array Bool} {a : Act} {w : World} (hr : Region.ready md ops up = [i]) (ho : ops[i]? = some o)
    (h : ∀ K : Act → World → Prop, Shut (∀ b u, S (up.setIfInBounds i true) u → Goes P md ops Q S n (up.setIfInBounds i true) b u → K b u) → if Region.wanted o (yielded ops a.tmps) = true then Oper.wp P o a w K Q else K (a.put o.dst undef) w) : Goes P md ops Q S (n + 1) up a w := by
  refine ⟨fun e => (by rw [hr] at e; cases e), fun j hj => ?_⟩
  rw [hr] at hj
  obtain rfl := List.mem_singleton.1 hj
  exact wpOp_step ho (fun K hK => h K (fun b u h1 h2 => hK b u ⟨h1, h2⟩))
/-- a step of number i, handed over -/
def Hand (P : Program) (md : Region.Mode) (ops : Array Oper) (Q : Exit → Act → World → Prop) (S : Array Bool → World → Prop) (n : Nat) (up : Array Bool) (a : Act) (w : World) (i : Nat) (o : Oper) : Prop :=
  ∀ K : Act → World → Prop, Shut (∀ b u, S (up.setIfInBounds i true) u → Goes P md ops Q S n (up.setIfInBounds i true) b u → K b u) → if Region.wanted o (yielded ops a.tmps) = true then Oper.wp P o a w K Q else K (a.put o.dst undef) w
theorem Goes.two {i j : Nat} {o p : Oper} {n : Nat} {up : Array Bool} {a : Act} {w : World} (hr : Region.ready md ops up = [i, j]) (ho : ops[i]? = some o) (hp : ops[j]? = some p)
    (h1 : Hand P md ops Q S n up a w i o) (h2 : Hand P md ops Q S n up a w j p) : Goes P md ops Q S (n + 1) up a w := by
  refine ⟨fun e => (by rw [hr] at e; cases e), fun k hk => ?_⟩
  rw [hr] at hk
  rcases List.mem_cons.1 hk with rfl | hk
  · exact wpOp_step ho (fun K hK => h1 K (fun b u h1 h2 => hK b u ⟨h1, h2⟩))
  · obtain rfl := List.mem_singleton.1 hk
    exact wpOp_step hp (fun K hK => h2 K (fun b u h1 h2 => hK b u ⟨h1, h2⟩))
theorem Goes.three {i j k : Nat} {o p q : Oper} {n : Nat} {up : Array Bool} {a : Act} {w : World} (hr : Region.ready md ops up = [i, j, k]) (ho : ops[i]? = some o) (hp : ops[j]? = some p) (hq : ops[k]? = some q)
    (h1 : Hand P md ops Q S n up a w i o) (h2 : Hand P md ops Q S n up a w j p) (h3 : Hand P md ops Q S n up a w k q) : Goes P md ops Q S (n + 1) up a w := by
  refine ⟨fun e => (by rw [hr] at e; cases e), fun m hm => ?_⟩
  rw [hr] at hm
  rcases List.mem_cons.1 hm with rfl | hm
  · exact wpOp_step ho (fun K hK => h1 K (fun b u h1 h2 => hK b u ⟨h1, h2⟩))
  rcases List.mem_cons.1 hm with rfl | hm
  · exact wpOp_step hp (fun K hK => h2 K (fun b u h1 h2 => hK b u ⟨h1, h2⟩))
  · obtain rfl := List.mem_singleton.1 hm
    exact wpOp_step hq (fun K hK => h3 K (fun b u h1 h2 => hK b u ⟨h1, h2⟩))
theorem Goes.done {up : Array Bool} {a : Act} {w : World} (hr : Region.ready md ops up = []) (h : Q .normal a w) : ∀ n, Goes P md ops Q S n up a w
  | 0 => ⟨hr, h⟩
  | _ + 1 => ⟨fun _ => h, by rw [hr]; simp⟩
theorem Goes.region {id : Nat} {a : Act} {w : World} (S : Array Bool → World → Prop) (hm : P.follows .mixedOrders = true) (h : Goes P .any ops Q S ops.size (Array.replicate ops.size false) a w.drew) : (Code.region id ops true).wp P Q a w :=
  wp_region_any hm (h.any _ _ _ _)
end
end Go.Proofs.YtioebjbjpjbodaaDoor
namespace Go.Proofs.YtioebjbjpjbodaaDoor
open Go.RowKit
set_option linter.unusedVariables false
/-- one put into the registers that are written out: what it leaves -/
theorem putz : (∀ (a : Act) (d : Nat) (v : Value), a.put (some d) v = { a with tmps := a.tmps.setIfInBounds d v }) ∧ (∀ (a : Act) (v : Value), a.put none v = a) ∧ (∀ (l : List Value) (i : Nat) (v : Value), l.toArray.setIfInBounds i v = (l.set i v).toArray) ∧ (∀ (a : Value) (l : List Value) (v : Value), (a :: l).set 0 v = v :: l) ∧ (∀ (a : Value) (l : List Value) (n : Nat) (v : Value), (a :: l).set (n + 1) v = a :: l.set n v) :=
  ⟨fun _ _ _ => rfl, fun _ _ => rfl, fun l i v => List.setIfInBounds_toArray l i v, fun _ _ _ => rfl, fun _ _ _ _ => rfl⟩
section
variable {P : Program} {md : Region.Mode} {ops : Array Oper} {Q : Exit → Act → World → Prop} {S : Array Bool → World → Prop}
/-- the same, what can be reckoned left out -/
theorem Goes.tk {i : Nat} {o : Oper} {v : Value} (W : List Nat) {n : Nat} {up : Array Bool} {a : Act} {w : World} (ho : ops[i]? = some o := by exact rfl) (hn : Region.noSelect ops = true := by kernel_rfl) (hf : Region.free md ops up i = true := by kernel_rfl) (hr : (Region.ready md ops up).contains i = true := by kernel_rfl)
    (hp : ∀ c a w, Q (.panic c) (a.put o.dst v) w → Q (.panic c) a w := by exact fun _ _ _ h => h) (hW : (W.all fun j => Region.waitsFor md ops j i && !(up.getD j true)) = true := by kernel_rfl) (hS : ∀ (L : Array Bool) (u : World), S (L.setIfInBounds i true) u → S L u := by exact fun L u h => h)
    (y : YieldsIf P ops (Yet S W) o v a) (s : S (up.setIfInBounds i true) w) (H : Goes P md ops Q S n (up.setIfInBounds i true) (a.put o.dst v) w) : Goes P md ops Q S (n + 1) up a w :=
  Goes.take W ho hn hf hr hp hW hS y s H
end
end Go.Proofs.YtioebjbjpjbodaaDoor
namespace Go.Proofs.YtioebjbjpjbodaaDoor
open Go.RowKit Go.Shelf
set_option linter.unusedVariables false

def lz_ren : Go.Shelf.Ren := ⟨fun | 129 => 24 | 134 => 79 | n => n, fun | 53 => 22 | 3 => 3 | 4 => 4 | 46 => 70 | 5 => 5 | 9 => 9 | n => n, fun | n => n⟩
theorem lz_lays : Go.Proofs.Lays.n134 Tryd.prog lz_ren := {
  mixed := by kernel_rfl
  f129 := Tryd.func24.trans (congrArg some (by kernel_rfl))
  f134 := Tryd.func79.trans (congrArg some (by kernel_rfl))
  t3 := Tryd.underlying3
  a3 := Tryd.isAgg3
  z3 := Tryd.sizeOf3
  v3 := Tryd.zeroValue3
  t4 := Tryd.underlying4
  a4 := Tryd.isAgg4
  z4 := Tryd.sizeOf4
  v4 := Tryd.zeroValue4
  t5 := Tryd.underlying5
  a5 := Tryd.isAgg5
  z5 := Tryd.sizeOf5
  v5 := Tryd.zeroValue5
  t9 := Tryd.underlying9
  a9 := Tryd.isAgg9
  z9 := Tryd.sizeOf9
  v9 := Tryd.zeroValue9
  t46 := Tryd.underlying70
  a46 := Tryd.isAgg70
  z46 := Tryd.sizeOf70
  v46 := Tryd.zeroValue70
  t53 := Tryd.underlying22
  a53 := Tryd.isAgg22
  z53 := Tryd.sizeOf22
  v53 := Tryd.zeroValue22 }
theorem lz_any (x s : Nat) (w : World) (hx : x < 18446744073709551616) (hs : s + nbits x = 64) : Calls Tryd.prog 79 #[.int .u64 (x : Int)] w fun e w' => e = .returned (.int .i64 (s : Int)) ∧ w' = w := by
  refine (Any.bits_LeadingZeros64 lz_lays (x : Int) w (by omega) (by omega)).mono fun e w' ⟨he, hw⟩ => ?_
  rw [he, hw, Int.toNat_natCast, bitLen_nbits x hx]
  refine ⟨?_, rfl⟩
  rw [show (64 : Int) - (nbits x : Int) = (s : Int) by omega]
theorem mul64_any (x y h l : Nat) (w : World) (hx : x < 18446744073709551616) (hy : y < 18446744073709551616) (eh : x * y / 18446744073709551616 = h) (el : x * y % 18446744073709551616 = l) : Calls Tryd.prog 58 #[.int .u64 (x : Int), .int .u64 (y : Int)] w fun e w' => e = .returned (.tuple #[.int .u64 (h : Int), .int .u64 (l : Int)]) ∧ w' = w := by
  subst eh; subst el
  exact Any.bits_Mul64 (ρ := ⟨fun | 264 => 58 | n => n, fun | 53 => 22 | 46 => 70 | n => n, fun | n => n⟩) {
    mixed := by kernel_rfl
    f264 := Tryd.func58.trans (congrArg some (by kernel_rfl))
    t46 := Tryd.underlying70
    a46 := Tryd.isAgg70
    z46 := Tryd.sizeOf70
    v46 := Tryd.zeroValue70
    t53 := Tryd.underlying22
    a53 := Tryd.isAgg22
    z53 := Tryd.sizeOf22
    v53 := Tryd.zeroValue22 } x y hx hy w
/-- a round's numbers do not go round -/
theorem half_wraps {y1 y0 q r u1 : Nat} (hq : q ≤ 4294967297) (hr : r < 4294967296) (h1 : y1 < 4294967296) (h0 : y0 < 4294967296) (hu : u1 < 4294967296) :
    ∃ z1 z2 : Nat, IntKind.u64.wrap ((q : Int) * (y0 : Int)) = (z2 : Int) ∧ IntKind.u64.wrap (4294967296 * (r : Int)) = 4294967296 * (r : Int) ∧ IntKind.u64.wrap (4294967296 * (r : Int) + (u1 : Int)) = (z1 : Int) ∧ z1 = r * 4294967296 + u1 ∧ z2 = q * y0 := by
  have a : q * y0 ≤ 4294967297 * 4294967295 := Nat.mul_le_mul hq (by omega)
  refine ⟨_, _, ?_, ?_, ?_, rfl, rfl⟩
  · rw [← Int.natCast_mul, IntWalk.u64_in _ (by omega)]
  · rw [IntWalk.u64_in _ (by omega)]
  · rw [IntWalk.u64_in _ (by omega)]; omega
theorem half_down {u u1 y1 y0 q r d : Nat} (X : y1 < 4294967296 ∧ y0 < 4294967296 ∧ 2147483648 ≤ y1 ∧ u1 < 4294967296 ∧ u < y1 * 4294967296 + y0 ∧ (u * 4294967296 + u1) / (y1 * 4294967296 + y0) = d) (L : u = q * y1 + r ∧ d ≤ q ∧ q ≤ 4294967297 ∧ r < 4294967296) (ht : 4294967296 ≤ q ∨ r * 4294967296 + u1 < q * y0) :
    ∃ q' r' : Nat, IntKind.u64.wrap ((q : Int) - 1) = (q' : Int) ∧ IntKind.u64.wrap ((r : Int) + (y1 : Int)) = (r' : Int) ∧ q' < q ∧ (4294967296 ≤ r' → d = q') ∧ (r' < 4294967296 → u = q' * y1 + r' ∧ d ≤ q' ∧ q' ≤ 4294967297 ∧ r' < 4294967296) := by
  obtain ⟨x1, x2, x3, x4, x5, x6⟩ := X
  obtain ⟨l1, l2, l3, l4⟩ := L
  have hp : 0 < y1 * 4294967296 + y0 := by omega
  have hm := half_most x5 x4
  have hl : d ≤ q - 1 ∧ 1 ≤ q := by
    rw [← x6] at l2 ⊢
    refine half_less hp hm l2 ?_
    rcases ht with ht | ht
    · exact Or.inl ht
    · exact Or.inr ((half_test l1).1 ht)
  obtain ⟨k, rfl⟩ : ∃ k, q = k + 1 := ⟨q - 1, by omega⟩
  rw [Nat.add_sub_cancel] at hl
  have e : u = k * y1 + (r + y1) := by rw [l1, Nat.succ_mul]; omega
  refine ⟨k, r + y1, ?_, ?_, by omega, fun hr => ?_, fun hr => ⟨e, hl.1, by omega, hr⟩⟩
  · rw [IntWalk.u64_in _ (by omega)]; omega
  · rw [IntWalk.u64_in _ (by omega)]; omega
  · have := half_broken (u1 := u1) e hp x2 (by omega) hr (by rw [x6]; exact hl.1)
    rw [this, x6]
theorem half_stop {u u1 y1 y0 q r d : Nat} (X : y1 < 4294967296 ∧ y0 < 4294967296 ∧ 2147483648 ≤ y1 ∧ u1 < 4294967296 ∧ u < y1 * 4294967296 + y0 ∧ (u * 4294967296 + u1) / (y1 * 4294967296 + y0) = d) (L : u = q * y1 + r ∧ d ≤ q ∧ q ≤ 4294967297 ∧ r < 4294967296) (hq : q < 4294967296) (ht : ¬ r * 4294967296 + u1 < q * y0) : d = q := by
  obtain ⟨x1, x2, x3, x4, x5, x6⟩ := X
  obtain ⟨l1, l2, l3, l4⟩ := L
  rw [← x6] at l2
  have := half_done (by omega) l2 (by have := mt (half_test (u1 := u1) (y0 := y0) l1).2 ht; omega)
  rw [this, x6]
/-- what stands at the beginning of a half -/
theorem half_start {u u1 y1 y0 d : Nat} (x1 : y1 < 4294967296) (x2 : y0 < 4294967296) (x3 : 2147483648 ≤ y1) (x4 : u1 < 4294967296) (x5 : u < y1 * 4294967296 + y0) (x6 : (u * 4294967296 + u1) / (y1 * 4294967296 + y0) = d) :
    ∃ q r : Nat, IntKind.u64.wrap ((u : Int) / (y1 : Int)) = (q : Int) ∧ IntKind.u64.wrap ((u : Int) - IntKind.u64.wrap ((q : Int) * (y1 : Int))) = (r : Int) ∧ (u = q * y1 + r ∧ d ≤ q ∧ q ≤ 4294967297 ∧ r < 4294967296) := by
  obtain ⟨f1, f2, f3⟩ := half_first x3 x2 x5
  have e0 : ((u : Int) / (y1 : Int)) = ((u / y1 : Nat) : Int) := by simp
  have hlast : d ≤ u / y1 := by
    rw [← x6]
    refine Nat.le_of_lt_succ (Nat.div_lt_of_lt_mul ?_)
    have : u + 1 ≤ (u / y1 + 1) * y1 := by rw [Nat.add_mul]; omega
    have h2 : (u + 1) * 4294967296 ≤ (u / y1 + 1) * y1 * 4294967296 := Nat.mul_le_mul_right _ this
    have h3 : (u / y1 + 1) * (y1 * 4294967296 + y0) = (u / y1 + 1) * y1 * 4294967296 + (u / y1 + 1) * y0 := by rw [Nat.mul_add, Nat.mul_assoc]
    have h4 : Nat.succ (u / y1) = u / y1 + 1 := rfl
    rw [h4, Nat.mul_comm (y1 * 4294967296 + y0), h3]
    omega
  rw [e0]
  generalize u / y1 = q at *
  generalize u % y1 = r at *
  have hz : IntKind.u64.wrap ((q : Int) * (y1 : Int)) = ((q * y1 : Nat) : Int) := by
    rw [← Int.natCast_mul]
    generalize q * y1 = z at *
    rw [IntWalk.u64_in _ (by omega)]
  refine ⟨q, r, ?_, ?_, f2, hlast, f1, by omega⟩
  · rw [IntWalk.u64_in _ (by omega)]
  · rw [hz]
    generalize q * y1 = z at *
    rw [IntWalk.u64_in _ (by omega)]; omega
theorem half_parts (Y : Nat) (h : Y < 18446744073709551616) : ∃ a b : Nat, (Y : Int) / 4294967296 = (a : Int) ∧ bits .and .u64 (Y : Int) 4294967295 = (b : Int) ∧ a * 4294967296 + b = Y ∧ a < 4294967296 ∧ b < 4294967296 := by
  refine ⟨Y / 4294967296, Y % 4294967296, by omega, Mul64.maskN Y h, by omega, by omega, by omega⟩
theorem two_halves (u u1 u0 : Nat) : u * 18446744073709551616 + (u1 * 4294967296 + u0) = (u * 4294967296 + u1) * 4294967296 + u0 := by omega
/-- what is divided, and what by, moved up so that the highest bit is set -/
theorem moved_up {hi lo y s t : Nat} (hy : hi < y) (hl : lo < 18446744073709551616) (hs : s + nbits y = 64) (ht : t + s = 64) :
    ∃ Y u l : Nat, IntKind.u64.wrap ((y : Int) * 2 ^ s) = (Y : Int) ∧ bits .or .u64 (IntKind.u64.wrap ((hi : Int) * 2 ^ s)) ((lo : Int) / 2 ^ t) = (u : Int) ∧ IntKind.u64.wrap ((lo : Int) * 2 ^ s) = (l : Int) ∧ Y = y * 2 ^ s ∧ 9223372036854775808 ≤ Y ∧ Y < 18446744073709551616 ∧ u < Y ∧ l < 18446744073709551616 ∧ (hi * 18446744073709551616 + lo) * 2 ^ s = u * 18446744073709551616 + l := by
  have h1 := nbits_lt y
  have h2 := nbits_le y (by omega)
  have hW : (18446744073709551616 : Nat) = 2 ^ t * 2 ^ s := by rw [← Nat.pow_add, ht]
  have hps := Nat.two_pow_pos s
  have hpt := Nat.two_pow_pos t
  have hY1 : y * 2 ^ s < 18446744073709551616 := by
    have := Nat.mul_lt_mul_of_pos_right h1 hps
    rwa [← Nat.pow_add, show nbits y + s = 64 by omega] at this
  have hb := nbits_pos y (by omega)
  have hY2 : 9223372036854775808 ≤ y * 2 ^ s := by
    have := Nat.mul_le_mul_right (2 ^ s) h2
    rwa [← Nat.pow_add, show nbits y - 1 + s = 63 by omega] at this
  have hu : hi * 2 ^ s < 18446744073709551616 := Nat.lt_of_le_of_lt (Nat.mul_le_mul_right _ (Nat.le_of_lt hy)) hY1
  have hlo : lo / 2 ^ t < 2 ^ s := by rw [Nat.div_lt_iff_lt_mul hpt, Nat.mul_comm, ← hW]; exact hl
  have hlo2 : lo / 2 ^ t < 18446744073709551616 := Nat.lt_of_le_of_lt (Nat.div_le_self _ _) hl
  have e1 : lo * 2 ^ s = lo / 2 ^ t * 18446744073709551616 + lo % 2 ^ t * 2 ^ s := by
    rw [hW, ← Nat.mul_assoc, ← Nat.add_mul]
    congr 1
    have := Nat.div_add_mod lo (2 ^ t)
    rw [Nat.mul_comm] at this; exact this.symm
  have hlw : lo % 2 ^ t * 2 ^ s < 18446744073709551616 := by
    rw [hW]; exact Nat.mul_lt_mul_of_pos_right (Nat.mod_lt _ hpt) hps
  have e2 : (hi * 18446744073709551616 + lo) * 2 ^ s = (hi * 2 ^ s + lo / 2 ^ t) * 18446744073709551616 + lo % 2 ^ t * 2 ^ s := by
    rw [Nat.add_mul, e1, Nat.add_mul, Nat.mul_right_comm]; omega
  have hw : ∀ a : Nat, a * 2 ^ s < 18446744073709551616 → IntKind.u64.wrap ((a : Int) * 2 ^ s) = ((a * 2 ^ s : Nat) : Int) := fun a ha => by
    have : ((a : Int) * 2 ^ s) = ((a * 2 ^ s : Nat) : Int) := by simp
    rw [this, IntWalk.u64_in _ (by omega)]
  refine ⟨y * 2 ^ s, hi * 2 ^ s + lo / 2 ^ t, lo % 2 ^ t * 2 ^ s, hw y hY1, ?_, ?_, rfl, hY2, hY1, ?_, hlw, e2⟩
  · rw [hw hi hu, show ((lo : Int) / 2 ^ t) = ((lo / 2 ^ t : Nat) : Int) by simp, u64_or_nat _ _ hu hlo2]
    congr 1
    have h := Nat.shiftLeft_add_eq_or_of_lt hlo hi
    rw [Nat.shiftLeft_eq] at h
    omega
  · have : ((lo : Int) * 2 ^ s) = ((lo * 2 ^ s : Nat) : Int) := by simp
    rw [this, IntKind.wrap_u64, e1]
    omega
  · have hle : (hi * 18446744073709551616 + lo) < y * 18446744073709551616 := by
      have := Nat.mul_le_mul_right 18446744073709551616 (Nat.succ_le_of_lt hy)
      rw [Nat.succ_mul] at this; omega
    have h3 := Nat.mul_lt_mul_of_pos_right hle hps
    rw [e2, Nat.mul_right_comm] at h3
    omega
set_option maxRecDepth 100000 in
set_option maxHeartbeats 4000000 in
theorem div64_none (lo y : Nat) (w : World) (hy : 0 < y) (hl : lo < 18446744073709551616) (hY : y < 18446744073709551616) : Calls Tryd.prog 71 #[.int .u64 0, .int .u64 (lo : Int), .int .u64 (y : Int)] w fun e w' => e = .returned (.tuple #[.int .u64 ((lo / y : Nat) : Int), .int .u64 ((lo % y : Nat) : Int)]) ∧ Below w.heap.size w w' := by
  have n0 : ((y : Int) = 0) = False := eq_false (by omega)
  have n1 : ((y : Int) ≤ 0) = False := eq_false (by omega)
  have hd : lo / y ≤ lo := Nat.div_le_self _ _
  have hr : lo % y < y := Nat.mod_lt _ hy
  obtain ⟨q, eq⟩ : ∃ q, lo / y = q := ⟨_, rfl⟩
  obtain ⟨r, er⟩ : ∃ r, lo % y = r := ⟨_, rfl⟩
  have A1 : IntKind.u64.wrap ((lo : Int) / (y : Int)) = (q : Int) := by
    rw [← Int.natCast_ediv, eq, IntWalk.u64_in _ (by omega)]
  have A3 : (lo : Int) % (y : Int) = (r : Int) := by rw [← Int.natCast_emod, er]
  have A4 : (lo : Int).tmod (y : Int) = (r : Int) := by rw [Int.tmod_eq_emod_of_nonneg (by omega), ← Int.natCast_emod, er]
  have EQ := hid eq
  have ER := hid er
  clear eq er hd hr
  go_enter Tryd.func71, Tryd.ntmps71
  go_upto_region 6 with fail
  go_region
  all_goals
    go_wp2
    exact bodyPost_ret (v := .tuple #[.int .u64 (q : Int), .int .u64 (r : Int)]) (by simp [results, Tryd.results71, go_sem]) rfl ⟨by rw [EQ.out, ER.out], (Below.refl _ _).drew⟩
set_option maxRecDepth 100000 in
set_option maxHeartbeats 4000000 in
theorem div64_some (hi lo y : Nat) (w : World) (hy : hi < y) (h0 : hi ≠ 0) (hl : lo < 18446744073709551616) (hY : y < 18446744073709551616) : Calls Tryd.prog 71 #[.int .u64 (hi : Int), .int .u64 (lo : Int), .int .u64 (y : Int)] w fun e w' => e = .returned (.tuple #[.int .u64 (((hi * 18446744073709551616 + lo) / y : Nat) : Int), .int .u64 (((hi * 18446744073709551616 + lo) % y : Nat) : Int)]) ∧ Below w.heap.size w w' := by
  have hnb := nbits_up y 64 hY
  obtain ⟨s, hs⟩ : ∃ s, s + nbits y = 64 := ⟨64 - nbits y, by omega⟩
  obtain ⟨t, ht⟩ : ∃ t, t + s = 64 := ⟨64 - s, by omega⟩
  obtain ⟨Y, u, l, E1, E2, E3, e4, e5, e6, e7, e8, e9⟩ := moved_up hy hl hs ht
  have n0 : ((y : Int) = 0) = False := eq_false (by omega)
  have n1 : ((y : Int) ≤ (hi : Int)) = False := eq_false (by omega)
  have n2 : ((hi : Int) = 0) = False := eq_false (by omega)
  have n4 : ((hi : Int) == 0) = false := by simpa using h0
  have n5 : ((y : Int) == 0) = false := by have : ¬ y = 0 := by omega
                                           simpa using this
  have s1 : IntKind.u64.wrap (s : Int) = (s : Int) := IntWalk.u64_in _ (by omega)
  have s2 : min s 64 = s := by omega
  have s3 : IntKind.u64.wrap (64 - (s : Int)) = (t : Int) := by rw [IntWalk.u64_in _ (by omega)]; omega
  have s4 : min t 64 = t := by omega
  obtain ⟨y1, y0, Y1, Y0, hYs, l1, l2⟩ := half_parts Y e6
  obtain ⟨u1, u0, U1, U0, hls, l4, l5⟩ := half_parts l e8
  have l3 : 2147483648 ≤ y1 := by clear e9 e4 hs ht; omega
  have hy0 : 0 < y := Nat.lt_of_le_of_lt (Nat.zero_le _) hy
  obtain ⟨d1, ed1⟩ : ∃ z, (u * 4294967296 + u1) / (y1 * 4294967296 + y0) = z := ⟨_, rfl⟩
  obtain ⟨r1, er1⟩ : ∃ z, (u * 4294967296 + u1) % (y1 * 4294967296 + y0) = z := ⟨_, rfl⟩
  have hd1 := half_most (u1 := u1) (show u < y1 * 4294967296 + y0 by omega) l4
  have hr1 := Nat.mod_lt (u * 4294967296 + u1) (show 0 < y1 * 4294967296 + y0 by omega)
  have hdm1 := Nat.div_add_mod (u * 4294967296 + u1) (y1 * 4294967296 + y0)
  rw [ed1] at hd1
  rw [er1] at hr1
  rw [ed1, er1] at hdm1
  obtain ⟨d2, ed2⟩ : ∃ z, (r1 * 4294967296 + u0) / (y1 * 4294967296 + y0) = z := ⟨_, rfl⟩
  obtain ⟨r2, er2⟩ : ∃ z, (r1 * 4294967296 + u0) % (y1 * 4294967296 + y0) = z := ⟨_, rfl⟩
  have hd2 := half_most (u1 := u0) hr1 l5
  have hr2 := Nat.mod_lt (r1 * 4294967296 + u0) (show 0 < y1 * 4294967296 + y0 by omega)
  have hdm2 := Nat.div_add_mod (r1 * 4294967296 + u0) (y1 * 4294967296 + y0)
  rw [ed2] at hd2
  rw [er2] at hr2
  rw [ed2, er2] at hdm2
  have X1 := hid (show y1 < 4294967296 ∧ y0 < 4294967296 ∧ 2147483648 ≤ y1 ∧ u1 < 4294967296 ∧ u < y1 * 4294967296 + y0 ∧ (u * 4294967296 + u1) / (y1 * 4294967296 + y0) = d1 from ⟨l1, l2, l3, l4, by omega, ed1⟩)
  have X2 := hid (show y1 < 4294967296 ∧ y0 < 4294967296 ∧ 2147483648 ≤ y1 ∧ u0 < 4294967296 ∧ r1 < y1 * 4294967296 + y0 ∧ (r1 * 4294967296 + u0) / (y1 * 4294967296 + y0) = d2 from ⟨l1, l2, l3, l5, hr1, ed2⟩)
  obtain ⟨q1, r1', F1, G1, hL1⟩ := half_start l1 l2 l3 l4 (show u < y1 * 4294967296 + y0 by omega) ed1
  obtain ⟨q2, r2', F2, G2, hL2⟩ := half_start l1 l2 l3 l5 hr1 ed2
  rw [hYs] at hdm1 hdm2 hr1 hr2
  have V1 : IntKind.u64.wrap (IntKind.u64.wrap (IntKind.u64.wrap ((u : Int) * 4294967296) + (u1 : Int)) - IntKind.u64.wrap ((d1 : Int) * (Y : Int))) = (r1 : Int) := by
    have : ((d1 : Int) * (Y : Int)) = ((Y * d1 : Nat) : Int) := by rw [Int.natCast_mul]; exact Int.mul_comm _ _
    rw [this]
    simp only [IntKind.wrap_u64]
    omega
  have V2 : IntKind.u64.wrap (IntKind.u64.wrap (IntKind.u64.wrap ((r1 : Int) * 4294967296) + (u0 : Int)) - IntKind.u64.wrap ((d2 : Int) * (Y : Int))) = (r2 : Int) := by
    have : ((d2 : Int) * (Y : Int)) = ((Y * d2 : Nat) : Int) := by rw [Int.natCast_mul]; exact Int.mul_comm _ _
    rw [this]
    simp only [IntKind.wrap_u64]
    omega
  have V3 : IntKind.u64.wrap (IntKind.u64.wrap ((d1 : Int) * 4294967296) + (d2 : Int)) = ((d1 * 4294967296 + d2 : Nat) : Int) := by
    simp only [IntKind.wrap_u64]
    omega
  have hboth := half_both (u := u) (u1 := u1) (u0 := u0) (y := Y) (q1 := d1) (q0 := d2) (r1 := r1) (r0 := r2) (by rw [Nat.mul_comm d1]; exact hdm1.symm) (by rw [Nat.mul_comm d2]; exact hdm2.symm)
  have hmv := moved_div (n := hi * 18446744073709551616 + lo) (y := y) (s := s) (q := d1 * 4294967296 + d2) (r := r2) hy0 (by rw [e9, ← e4, ← hboth, ← hls]; exact two_halves u u1 u0) (by rw [← e4]; exact hr2)
  obtain ⟨o1, o2⟩ := hmv
  have V4 : (r2 : Int) / 2 ^ s = (((hi * 18446744073709551616 + lo) % y : Nat) : Int) := by rw [← o2]; simp
  rw [o1] at V3
  obtain ⟨O1, eO1⟩ : ∃ z, (hi * 18446744073709551616 + lo) / y = z := ⟨_, rfl⟩
  obtain ⟨O2, eO2⟩ : ∃ z, (hi * 18446744073709551616 + lo) % y = z := ⟨_, rfl⟩
  rw [eO1] at V3
  rw [eO2] at V4
  have L1 := hid hL1
  have L2 := hid hL2
  clear hL1 hL2
  have P1 := hid eO1
  have P2 := hid eO2
  have HY := hid hY
  have HS := hid hs
  have ny1 : ((y1 : Int) = 0) = False := eq_false (by omega)
  have ny2 : ¬ y1 = 0 := by omega
  clear hnb hs ht e4 e5 e6 e7 e8 e9 hYs hls l1 l2 l3 l4 l5 ed1 er1 hd1 hr1 hdm1 ed2 er2 hd2 hr2 hdm2 hboth o1 o2 eO1 eO2 hy h0 hl hY
  go_enter Tryd.func71, Tryd.ntmps71
  go_upto_block 0 with (go_at_call 79; refine (lz_any y s _ HY.out HS.out).mono ?_; rintro e w' ⟨rfl, rfl⟩)
  go_cut [15, 16] (fun s15 s16 wx => s15 = .int .u64 (d1 : Int) ∧ (∃ x : Nat, s16 = .int .u64 (x : Int)) ∧ wx = w')
  case first =>
    go_wp2_with fail
    go_loop [15, 16] (fun a b => ∃ q r : Nat, a = .int .u64 (q : Int) ∧ b = .int .u64 (r : Int) ∧ Hid (u = q * y1 + r ∧ d1 ≤ q ∧ q ≤ 4294967297 ∧ r < 4294967296)) (fun a _ => (intOf a).toNat)
    case atStart => exact ⟨q1, r1', rfl, rfl, L1⟩
    case round =>
      obtain ⟨q, r, rfl, rfl, HL⟩ := hrel
      have X := X1.out
      obtain ⟨z1, z2, w1, w2, w4, ez1, ez2⟩ := half_wraps HL.out.2.2.1 HL.out.2.2.2 X.1 X.2.1 X.2.2.2.1
      by_cases c0 : (4294967296 : Int) ≤ (q : Int)
      · clear w1 w2 w4
        obtain ⟨q', r', v1, v2, HLt, S5, S6⟩ := half_down X HL.out (Or.inl (by omega))
        have HLt := hid HLt
        have S5 := hid S5
        have S6 := hid S6
        clear X HL ez1 ez2
        by_cases hr : 4294967296 ≤ r'
        · have c2 : (4294967296 : Int) ≤ (r' : Int) := by omega
          have e := hid (S5.out hr)
          clear S5 S6 hr
          go_wp2
          go_meet
          exact ⟨by rw [e.out], ⟨r', rfl⟩, rfl⟩
        · have c2 : ¬ (4294967296 : Int) ≤ (r' : Int) := by omega
          have e := hid (S6.out (by omega))
          clear S5 S6 hr
          go_wp2
          go_round
          case rel => exact ⟨q', r', rfl, rfl, e⟩
          case measure => have := HLt.out; simp [intOf]; omega
      · by_cases c1 : (z1 : Int) < (z2 : Int)
        · obtain ⟨q', r', v1, v2, HLt, S5, S6⟩ := half_down X HL.out (Or.inr (by rw [← ez1, ← ez2]; omega))
          have HLt := hid HLt
          have S5 := hid S5
          have S6 := hid S6
          clear X HL ez1 ez2
          by_cases hr : 4294967296 ≤ r'
          · have c2 : (4294967296 : Int) ≤ (r' : Int) := by omega
            have e := hid (S5.out hr)
            clear S5 S6 hr
            go_wp2
            go_meet
            exact ⟨by rw [e.out], ⟨r', rfl⟩, rfl⟩
          · have c2 : ¬ (4294967296 : Int) ≤ (r' : Int) := by omega
            have e := hid (S6.out (by omega))
            clear S5 S6 hr
            go_wp2
            go_round
            case rel => exact ⟨q', r', rfl, rfl, e⟩
            case measure => have := HLt.out; simp [intOf]; omega
        · have e := hid (half_stop X HL.out (by omega) (by rw [← ez1, ← ez2]; omega))
          clear X HL ez1 ez2
          go_wp2
          go_meet
          exact ⟨by rw [e.out], ⟨r, rfl⟩, rfl⟩
  case rest =>
    obtain ⟨rfl, ⟨x1, rfl⟩, hwc⟩ := hcut
    have hwc' := hwc.symm
    clear hwc
    subst hwc'
    go_upto_block 2 with fail
    go_cut [18, 16] (fun s18 s16 wx => s18 = .int .u64 (d2 : Int) ∧ (∃ x : Nat, s16 = .int .u64 (x : Int)) ∧ wx = w')
    case first =>
      go_wp2_with fail
      go_loop [18, 16] (fun a b => ∃ q r : Nat, a = .int .u64 (q : Int) ∧ b = .int .u64 (r : Int) ∧ Hid (r1 = q * y1 + r ∧ d2 ≤ q ∧ q ≤ 4294967297 ∧ r < 4294967296)) (fun a _ => (intOf a).toNat)
      case atStart => exact ⟨q2, r2', rfl, rfl, L2⟩
      case round =>
        obtain ⟨q, r, rfl, rfl, HL⟩ := hrel
        have X := X2.out
        obtain ⟨z1, z2, w1, w2, w4, ez1, ez2⟩ := half_wraps HL.out.2.2.1 HL.out.2.2.2 X.1 X.2.1 X.2.2.2.1
        by_cases c0 : (4294967296 : Int) ≤ (q : Int)
        · clear w1 w2 w4
          obtain ⟨q', r', v1, v2, HLt, S5, S6⟩ := half_down X HL.out (Or.inl (by omega))
          have HLt := hid HLt
          have S5 := hid S5
          have S6 := hid S6
          clear X HL ez1 ez2
          by_cases hr : 4294967296 ≤ r'
          · have c2 : (4294967296 : Int) ≤ (r' : Int) := by omega
            have e := hid (S5.out hr)
            clear S5 S6 hr
            go_wp2
            go_meet
            exact ⟨by rw [e.out], ⟨r', rfl⟩, rfl⟩
          · have c2 : ¬ (4294967296 : Int) ≤ (r' : Int) := by omega
            have e := hid (S6.out (by omega))
            clear S5 S6 hr
            go_wp2
            go_round
            case rel => exact ⟨q', r', rfl, rfl, e⟩
            case measure => have := HLt.out; simp [intOf]; omega
        · by_cases c1 : (z1 : Int) < (z2 : Int)
          · obtain ⟨q', r', v1, v2, HLt, S5, S6⟩ := half_down X HL.out (Or.inr (by rw [← ez1, ← ez2]; omega))
            have HLt := hid HLt
            have S5 := hid S5
            have S6 := hid S6
            clear X HL ez1 ez2
            by_cases hr : 4294967296 ≤ r'
            · have c2 : (4294967296 : Int) ≤ (r' : Int) := by omega
              have e := hid (S5.out hr)
              clear S5 S6 hr
              go_wp2
              go_meet
              exact ⟨by rw [e.out], ⟨r', rfl⟩, rfl⟩
            · have c2 : ¬ (4294967296 : Int) ≤ (r' : Int) := by omega
              have e := hid (S6.out (by omega))
              clear S5 S6 hr
              go_wp2
              go_round
              case rel => exact ⟨q', r', rfl, rfl, e⟩
              case measure => have := HLt.out; simp [intOf]; omega
          · have e := hid (half_stop X HL.out (by omega) (by rw [← ez1, ← ez2]; omega))
            clear X HL ez1 ez2
            go_wp2
            go_meet
            exact ⟨by rw [e.out], ⟨r, rfl⟩, rfl⟩
    case rest =>
      obtain ⟨rfl, ⟨x2, rfl⟩, hwc⟩ := hcut
      have hwc' := hwc.symm
      clear hwc
      subst hwc'
      go_wp2
      exact bodyPost_ret (v := .tuple #[.int .u64 (O1 : Int), .int .u64 (O2 : Int)]) (by simp [results, Tryd.results71, go_sem]) rfl ⟨by rw [P1.out, P2.out], Below.refl _ _⟩
theorem div64_any (hi lo y q r : Nat) (w : World) (hy : hi < y) (hl : lo < 18446744073709551616) (hY : y < 18446744073709551616) (hq : (hi * 18446744073709551616 + lo) / y = q) (hr : (hi * 18446744073709551616 + lo) % y = r) : Calls Tryd.prog 71 #[.int .u64 (hi : Int), .int .u64 (lo : Int), .int .u64 (y : Int)] w fun e w' => e = .returned (.tuple #[.int .u64 (q : Int), .int .u64 (r : Int)]) ∧ Below w.heap.size w w' := by
  subst hq; subst hr
  by_cases h0 : hi = 0
  · subst h0
    rw [Nat.zero_mul, Nat.zero_add]
    exact div64_none lo y w hy hl hY
  · exact div64_some hi lo y w hy h0 hl hY
set_option maxRecDepth 100000 in
theorem rem64_any (hi lo y r : Nat) (w : World) (hh : hi < 18446744073709551616) (hl : lo < 18446744073709551616) (h0 : 0 < y) (hY : y < 18446744073709551616) (hr : (hi * 18446744073709551616 + lo) % y = r) : Calls Tryd.prog 59 #[.int .u64 (hi : Int), .int .u64 (lo : Int), .int .u64 (y : Int)] w fun e w' => e = .returned (.int .u64 (r : Int)) ∧ Below w.heap.size w w' := by
  have n0 : ((y : Int) = 0) = False := eq_false (by omega)
  have n3 : ¬ y = 0 := by omega
  obtain ⟨m, em⟩ : ∃ m, hi % y = m := ⟨_, rfl⟩
  have hm : m < y := by rw [← em]; exact Nat.mod_lt _ h0
  have M1 : (hi : Int).tmod (y : Int) = (m : Int) := by rw [Int.tmod_eq_emod_of_nonneg (by omega), ← Int.natCast_emod, em]
  have hr2 : (m * 18446744073709551616 + lo) % y = r := by rw [← hr, ← em, Nat.add_mod, Nat.mod_mul_mod, ← Nat.add_mod]
  have HM := hid hm
  have HL := hid hl
  have HY := hid hY
  have HR := hid hr2
  clear em hm hr hr2 hl hY hh h0
  go_enter Tryd.func59, Tryd.ntmps59
  go_wp2_with (go_at_call 71; refine (div64_any m lo y _ r _ HM.out HL.out HY.out rfl HR.out).mono ?_; rintro e w' ⟨rfl, hb⟩)
  exact bodyPost_ret (v := .int .u64 (r : Int)) (by simp [results, Tryd.results59, go_sem]) rfl ⟨rfl, hb⟩
end Go.Proofs.YtioebjbjpjbodaaDoor
namespace Go.Proofs.YtioebjbjpjbodaaDoor
open Go.RowKit
set_option linter.unusedVariables false

/-- a slice of integers that came in: nil, or a row of 'cap' cells -/
def IsRow (k : IntKind) (w : World) (a : Option Addr) (len cap : Nat) (zs : List Int) : Prop :=
  (a = none ∧ len = 0 ∧ cap = 0 ∧ zs = []) ∨
  ∃ x, a = some x ∧ len ≤ cap ∧ cap ≤ maxLen ∧ zs.length = cap ∧ (∀ i, i < zs.length → w.cell? (x.add i) = some (.int k (zs.getD i 0))) ∧ ∀ n ∈ zs, (Lit.int k n).wf = true

theorem IsRow.rd {w : World} {a : Option Addr} {len cap : Nat} {zs : List Int} (h : IsRow .u8 w a len cap zs) : ∃ bs : List UInt8, bs.length = len ∧ Rd w a bs ∧ len ≤ cap ∧ cap ≤ 9223372036854775807 := by
  rcases h with ⟨rfl, rfl, rfl, rfl⟩ | ⟨x, rfl, hl, hm, hz, hc, hw⟩
  · exact ⟨[], rfl, Rd.nil _ _, Nat.le_refl _, by omega⟩
  · refine ⟨(zs.take len).map fun z => UInt8.ofNat z.toNat, by simp; omega, ?_, hl, hm⟩
    intro hp
    have hp' : 0 < zs.length := by simp at hp; omega
    obtain ⟨b, off, rfl, hcc⟩ := ints_at hc hp'
    refine ⟨b, off, rfl, ?_, fun j hj => ?_⟩
    · exact World.block_lt_of_cell? w _ (hcc 0 hp')
    · have hj' : j < zs.length := by simp at hj; omega
      rw [hcc j hj']
      have hb := bounds_u8 (hw zs[j] (List.getElem_mem hj'))
      have e : zs.getD j 0 = zs[j] := by simp [hj']
      rw [e]
      congr 2
      simp only [List.getElem_map, List.getElem_take, UInt8.toNat_ofNat']
      have e8 : (2 : Nat) ^ 8 = 256 := by decide
      rw [e8]
      omega
end Go.Proofs.YtioebjbjpjbodaaDoor
namespace Go.Proofs.YtioebjbjpjbodaaDoor
open Go.RowKit
set_option linter.unusedVariables false

/-- the first k of three numbers, taken against each other -/
def mx (x y z : Nat) : Nat → Nat
  | 0 => 0
  | 1 => x
  | 2 => x ^^^ y
  | _ => (x ^^^ y) ^^^ z
def nth3 (x y z : Nat) : Nat → Nat
  | 0 => x
  | 1 => y
  | _ => z
/-- three numbers in a block -/
def Tri (w : World) (g x y z : Nat) : Prop := w.cell? ⟨g, 0, none⟩ = some (.int .u32 (x : Int)) ∧ w.cell? ⟨g, 1, none⟩ = some (.int .u32 (y : Int)) ∧ w.cell? ⟨g, 2, none⟩ = some (.int .u32 (z : Int))
theorem Tri.at {w : World} {g x y z : Nat} (h : Tri w g x y z) (k : Nat) (hk : k < 3) : w.cell? ⟨g, k, none⟩ = some (.int .u32 (nth3 x y z k : Int)) := by
  match k, hk with
  | 0, _ => exact h.1
  | 1, _ => exact h.2.1
  | 2, _ => exact h.2.2
theorem mx_step (x y z k : Nat) (hk : k < 3) (hx : x < 4294967296) (hy : y < 4294967296) (hz : z < 4294967296) : bits .xor .u32 (mx x y z k : Int) (nth3 x y z k : Int) = ((mx x y z (k + 1) : Nat) : Int) := by
  match k, hk with
  | 0, _ => rw [mx, nth3, mx, u32_xor_nat _ _ (by decide) hx, Nat.zero_xor]
  | 1, _ => rw [mx, nth3, mx, u32_xor_nat _ _ hx hy]
  | 2, _ => rw [mx, nth3, mx, u32_xor_nat _ _ (xor_lt hx hy) hz] <;> simp
theorem mix_any (g x y z : Nat) (w : World) (h : Tri w g x y z) (hx : x < 4294967296) (hy : y < 4294967296) (hz : z < 4294967296) :
    Calls Tryd.prog 87 #[.slice (some ⟨g, 0, none⟩) 3 3] w fun e w' => e = .returned (.int .u32 ((x ^^^ y) ^^^ z : Nat)) ∧ w = w' := by
  have HT := hid h
  have HX := hid hx
  have HY := hid hy
  have HZ := hid hz
  clear h hx hy hz
  go_enter Tryd.func87, Tryd.ntmps87
  go_wp2
  go_loop [3, 8] (fun n i => ∃ k : Nat, k ≤ 3 ∧ i = .int .i64 k ∧ n = .int .u32 (mx x y z k : Int)) (fun _ i => 3 - (intOf i).toNat)
  case atStart => exact ⟨0, Nat.zero_le _, rfl, rfl⟩
  case round =>
    obtain ⟨k, hk, rfl, rfl⟩ := hrel
    by_cases hlt : k < 3
    · have hck := HT.out.at k hlt
      have HS := hid (mx_step x y z k hlt HX.out HY.out HZ.out)
      generalize nth3 x y z k = v at hck HS
      generalize mx x y z k = t at HS
      go_wp2
      go_round
      case rel => exact ⟨k + 1, by omega, by go_num, by rw [HS.out]⟩
      case measure => simp [intOf]; omega
    · obtain rfl : k = 3 := by omega
      rw [mx]
      go_wp2
      go_ret
      exact ⟨rfl, rfl⟩
end Go.Proofs.YtioebjbjpjbodaaDoor
namespace Go.Proofs.YtioebjbjpjbodaaDoor
open Go.RowKit
set_option linter.unusedVariables false

theorem rot_eq (x s : Nat) (hx : x < 4294967296) (hs : s < 32) : bits .or .u32 (IntKind.u32.wrap ((x : Int) * ((2 ^ s : Nat) : Int))) ((x : Int) / ((2 ^ (32 - s) : Nat) : Int)) = ((rot x (32 - s) : Nat) : Int) := by
  have e1 : IntKind.u32.wrap ((x : Int) * ((2 ^ s : Nat) : Int)) = ((x * 2 ^ s % 4294967296 : Nat) : Int) := by rw [IntKind.wrap_u32]; omega
  have e2 : (x : Int) / ((2 ^ (32 - s) : Nat) : Int) = ((x / 2 ^ (32 - s) : Nat) : Int) := by omega
  rw [e1, e2, u32_or_nat _ _ (Nat.mod_lt _ (by decide)) (dn_lt _ hx), rot, Nat.or_comm, show 32 - (32 - s) = s by omega]

theorem rotl_2 (x : Nat) (w : World) (hx : x < 4294967296) : Calls Tryd.prog 89 #[.int .u32 x, .int .i64 (-2)] w fun e w' => e = .returned (.int .u32 (rot x 2 : Nat)) ∧ w = w' := by
  have hb : bits BinOp.and IntKind.u64 (IntKind.u64.wrap (-2)) 31 = 30 := by decide +kernel
  go_enter Tryd.func89, Tryd.ntmps89
  go_wp2_with (simp only [hb])
  go_ret
  exact ⟨by rw [← rot_eq x 30 hx (by decide)]; rfl, rfl⟩
theorem turn_2 (x : Nat) (w : World) (hx : x < 4294967296) : Calls Tryd.prog 88 #[.int .u32 x, .int .i64 2] w fun e w' => e = .returned (.int .u32 (rot x 2 : Nat)) ∧ w = w' := by
  go_enter Tryd.func88, Tryd.ntmps88
  go_wp2_with fail
  refine (rotl_2 x w hx).mono ?_
  rintro e w1 ⟨rfl, rfl⟩
  go_wp2
  go_ret
  exact ⟨rfl, rfl⟩
theorem rotl_6 (x : Nat) (w : World) (hx : x < 4294967296) : Calls Tryd.prog 89 #[.int .u32 x, .int .i64 (-6)] w fun e w' => e = .returned (.int .u32 (rot x 6 : Nat)) ∧ w = w' := by
  have hb : bits BinOp.and IntKind.u64 (IntKind.u64.wrap (-6)) 31 = 26 := by decide +kernel
  go_enter Tryd.func89, Tryd.ntmps89
  go_wp2_with (simp only [hb])
  go_ret
  exact ⟨by rw [← rot_eq x 26 hx (by decide)]; rfl, rfl⟩
theorem turn_6 (x : Nat) (w : World) (hx : x < 4294967296) : Calls Tryd.prog 88 #[.int .u32 x, .int .i64 6] w fun e w' => e = .returned (.int .u32 (rot x 6 : Nat)) ∧ w = w' := by
  go_enter Tryd.func88, Tryd.ntmps88
  go_wp2_with fail
  refine (rotl_6 x w hx).mono ?_
  rintro e w1 ⟨rfl, rfl⟩
  go_wp2
  go_ret
  exact ⟨rfl, rfl⟩
theorem rotl_7 (x : Nat) (w : World) (hx : x < 4294967296) : Calls Tryd.prog 89 #[.int .u32 x, .int .i64 (-7)] w fun e w' => e = .returned (.int .u32 (rot x 7 : Nat)) ∧ w = w' := by
  have hb : bits BinOp.and IntKind.u64 (IntKind.u64.wrap (-7)) 31 = 25 := by decide +kernel
  go_enter Tryd.func89, Tryd.ntmps89
  go_wp2_with (simp only [hb])
  go_ret
  exact ⟨by rw [← rot_eq x 25 hx (by decide)]; rfl, rfl⟩
theorem turn_7 (x : Nat) (w : World) (hx : x < 4294967296) : Calls Tryd.prog 88 #[.int .u32 x, .int .i64 7] w fun e w' => e = .returned (.int .u32 (rot x 7 : Nat)) ∧ w = w' := by
  go_enter Tryd.func88, Tryd.ntmps88
  go_wp2_with fail
  refine (rotl_7 x w hx).mono ?_
  rintro e w1 ⟨rfl, rfl⟩
  go_wp2
  go_ret
  exact ⟨rfl, rfl⟩
theorem rotl_11 (x : Nat) (w : World) (hx : x < 4294967296) : Calls Tryd.prog 89 #[.int .u32 x, .int .i64 (-11)] w fun e w' => e = .returned (.int .u32 (rot x 11 : Nat)) ∧ w = w' := by
  have hb : bits BinOp.and IntKind.u64 (IntKind.u64.wrap (-11)) 31 = 21 := by decide +kernel
  go_enter Tryd.func89, Tryd.ntmps89
  go_wp2_with (simp only [hb])
  go_ret
  exact ⟨by rw [← rot_eq x 21 hx (by decide)]; rfl, rfl⟩
theorem turn_11 (x : Nat) (w : World) (hx : x < 4294967296) : Calls Tryd.prog 88 #[.int .u32 x, .int .i64 11] w fun e w' => e = .returned (.int .u32 (rot x 11 : Nat)) ∧ w = w' := by
  go_enter Tryd.func88, Tryd.ntmps88
  go_wp2_with fail
  refine (rotl_11 x w hx).mono ?_
  rintro e w1 ⟨rfl, rfl⟩
  go_wp2
  go_ret
  exact ⟨rfl, rfl⟩
theorem rotl_13 (x : Nat) (w : World) (hx : x < 4294967296) : Calls Tryd.prog 89 #[.int .u32 x, .int .i64 (-13)] w fun e w' => e = .returned (.int .u32 (rot x 13 : Nat)) ∧ w = w' := by
  have hb : bits BinOp.and IntKind.u64 (IntKind.u64.wrap (-13)) 31 = 19 := by decide +kernel
  go_enter Tryd.func89, Tryd.ntmps89
  go_wp2_with (simp only [hb])
  go_ret
  exact ⟨by rw [← rot_eq x 19 hx (by decide)]; rfl, rfl⟩
theorem turn_13 (x : Nat) (w : World) (hx : x < 4294967296) : Calls Tryd.prog 88 #[.int .u32 x, .int .i64 13] w fun e w' => e = .returned (.int .u32 (rot x 13 : Nat)) ∧ w = w' := by
  go_enter Tryd.func88, Tryd.ntmps88
  go_wp2_with fail
  refine (rotl_13 x w hx).mono ?_
  rintro e w1 ⟨rfl, rfl⟩
  go_wp2
  go_ret
  exact ⟨rfl, rfl⟩
theorem rotl_17 (x : Nat) (w : World) (hx : x < 4294967296) : Calls Tryd.prog 89 #[.int .u32 x, .int .i64 (-17)] w fun e w' => e = .returned (.int .u32 (rot x 17 : Nat)) ∧ w = w' := by
  have hb : bits BinOp.and IntKind.u64 (IntKind.u64.wrap (-17)) 31 = 15 := by decide +kernel
  go_enter Tryd.func89, Tryd.ntmps89
  go_wp2_with (simp only [hb])
  go_ret
  exact ⟨by rw [← rot_eq x 15 hx (by decide)]; rfl, rfl⟩
theorem turn_17 (x : Nat) (w : World) (hx : x < 4294967296) : Calls Tryd.prog 88 #[.int .u32 x, .int .i64 17] w fun e w' => e = .returned (.int .u32 (rot x 17 : Nat)) ∧ w = w' := by
  go_enter Tryd.func88, Tryd.ntmps88
  go_wp2_with fail
  refine (rotl_17 x w hx).mono ?_
  rintro e w1 ⟨rfl, rfl⟩
  go_wp2
  go_ret
  exact ⟨rfl, rfl⟩
theorem rotl_18 (x : Nat) (w : World) (hx : x < 4294967296) : Calls Tryd.prog 89 #[.int .u32 x, .int .i64 (-18)] w fun e w' => e = .returned (.int .u32 (rot x 18 : Nat)) ∧ w = w' := by
  have hb : bits BinOp.and IntKind.u64 (IntKind.u64.wrap (-18)) 31 = 14 := by decide +kernel
  go_enter Tryd.func89, Tryd.ntmps89
  go_wp2_with (simp only [hb])
  go_ret
  exact ⟨by rw [← rot_eq x 14 hx (by decide)]; rfl, rfl⟩
theorem turn_18 (x : Nat) (w : World) (hx : x < 4294967296) : Calls Tryd.prog 88 #[.int .u32 x, .int .i64 18] w fun e w' => e = .returned (.int .u32 (rot x 18 : Nat)) ∧ w = w' := by
  go_enter Tryd.func88, Tryd.ntmps88
  go_wp2_with fail
  refine (rotl_18 x w hx).mono ?_
  rintro e w1 ⟨rfl, rfl⟩
  go_wp2
  go_ret
  exact ⟨rfl, rfl⟩
theorem rotl_19 (x : Nat) (w : World) (hx : x < 4294967296) : Calls Tryd.prog 89 #[.int .u32 x, .int .i64 (-19)] w fun e w' => e = .returned (.int .u32 (rot x 19 : Nat)) ∧ w = w' := by
  have hb : bits BinOp.and IntKind.u64 (IntKind.u64.wrap (-19)) 31 = 13 := by decide +kernel
  go_enter Tryd.func89, Tryd.ntmps89
  go_wp2_with (simp only [hb])
  go_ret
  exact ⟨by rw [← rot_eq x 13 hx (by decide)]; rfl, rfl⟩
theorem turn_19 (x : Nat) (w : World) (hx : x < 4294967296) : Calls Tryd.prog 88 #[.int .u32 x, .int .i64 19] w fun e w' => e = .returned (.int .u32 (rot x 19 : Nat)) ∧ w = w' := by
  go_enter Tryd.func88, Tryd.ntmps88
  go_wp2_with fail
  refine (rotl_19 x w hx).mono ?_
  rintro e w1 ⟨rfl, rfl⟩
  go_wp2
  go_ret
  exact ⟨rfl, rfl⟩
theorem rotl_22 (x : Nat) (w : World) (hx : x < 4294967296) : Calls Tryd.prog 89 #[.int .u32 x, .int .i64 (-22)] w fun e w' => e = .returned (.int .u32 (rot x 22 : Nat)) ∧ w = w' := by
  have hb : bits BinOp.and IntKind.u64 (IntKind.u64.wrap (-22)) 31 = 10 := by decide +kernel
  go_enter Tryd.func89, Tryd.ntmps89
  go_wp2_with (simp only [hb])
  go_ret
  exact ⟨by rw [← rot_eq x 10 hx (by decide)]; rfl, rfl⟩
theorem turn_22 (x : Nat) (w : World) (hx : x < 4294967296) : Calls Tryd.prog 88 #[.int .u32 x, .int .i64 22] w fun e w' => e = .returned (.int .u32 (rot x 22 : Nat)) ∧ w = w' := by
  go_enter Tryd.func88, Tryd.ntmps88
  go_wp2_with fail
  refine (rotl_22 x w hx).mono ?_
  rintro e w1 ⟨rfl, rfl⟩
  go_wp2
  go_ret
  exact ⟨rfl, rfl⟩
theorem rotl_25 (x : Nat) (w : World) (hx : x < 4294967296) : Calls Tryd.prog 89 #[.int .u32 x, .int .i64 (-25)] w fun e w' => e = .returned (.int .u32 (rot x 25 : Nat)) ∧ w = w' := by
  have hb : bits BinOp.and IntKind.u64 (IntKind.u64.wrap (-25)) 31 = 7 := by decide +kernel
  go_enter Tryd.func89, Tryd.ntmps89
  go_wp2_with (simp only [hb])
  go_ret
  exact ⟨by rw [← rot_eq x 7 hx (by decide)]; rfl, rfl⟩
theorem turn_25 (x : Nat) (w : World) (hx : x < 4294967296) : Calls Tryd.prog 88 #[.int .u32 x, .int .i64 25] w fun e w' => e = .returned (.int .u32 (rot x 25 : Nat)) ∧ w = w' := by
  go_enter Tryd.func88, Tryd.ntmps88
  go_wp2_with fail
  refine (rotl_25 x w hx).mono ?_
  rintro e w1 ⟨rfl, rfl⟩
  go_wp2
  go_ret
  exact ⟨rfl, rfl⟩
end Go.Proofs.YtioebjbjpjbodaaDoor
