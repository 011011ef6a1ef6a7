/-
  What holds from a time on; shas.Number's closure: the region that sums the parts and one byte more, in all its orders. Conditions: as written.
  append of a whole list of parts onto nothing, and of one more part onto a list of one's own. Condition: a thousand parts at most.
  macs.summed, walked: the sum of a block and of all parts behind it. Conditions: the library's table holds what its text lays; a thousand parts at most, each of 2^20 bytes at most.
-/
import Derived.Test.YtgmnpkgnedngjaaDoorPkJ
import Derived.Test.YtgmnpkgnedngjaaDoorPkC
import Derived.Test.YtgmnpkgnedngjaaDoorNum
import Derived.Deep.CutRange
import Derived.Test.YtgmnpkgnedngjaaDoorPkH
namespace Go.Proofs.YtgmnpkgnedngjaaDoor
open Go.RowKit
set_option linter.unusedVariables false
set_option linter.unusedSimpArgs false

/-- from here on -/
def On (w : World) (P : World → Prop) : Prop := ∀ w', Below w.heap.size w w' → P w'
section
variable {w w2 w' : World} {P Q : World → Prop}
theorem On.on (h : On w P) (hb : Below w.heap.size w w2) : On w2 P := fun w' h' => h w' (hb.trans (h'.mono hb.size))
theorem On.here (h : On w P) : P w := h w (Below.refl _ _)
theorem On.both (h : On w P) (k : On w Q) : On w fun u => P u ∧ Q u := fun u hu => ⟨h u hu, k u hu⟩
theorem on_below {w0 : World} (h : Below w0.heap.size w0 w) : On w fun u => Below w0.heap.size w0 u := fun u hu => h.trans (hu.mono h.size)
theorem on_cell {g i : Nat} {v : Value} (hg : g < w.heap.size) (h : w.cell? ⟨g, i, none⟩ = some v) : On w fun u => u.cell? ⟨g, i, none⟩ = some v := fun u hu => (hu.cell (p := ⟨g, i, none⟩) hg).trans h
theorem on_rd {A : Option Addr} {bs : List UInt8} (h : Rd w A bs) : On w fun u => Rd u A bs := fun u hu => h.below hu (Nat.le_refl _)
theorem on_bt {g : Nat} {t : TypeId} {bs : List UInt8} (h : Bt w g t bs) : On w fun u => Bt u g t bs := fun u hu => h.on hu
theorem on_nm {g x : Nat} (h : Nm w g x) : On w fun u => Nm u g x := fun u hu => (hu.block g (lt_of_block h)).trans h
theorem on_rws {a0 : Option Addr} {n : Nat} {A : Nat → Option Addr} {L C : Nat → Nat} {xs : Nat → List UInt8} (h : Rws w a0 n A L C xs) : On w fun u => Rws u a0 n A L C xs := by
 intro u hu r hr
 obtain ⟨⟨go, o, h1, h2, h3⟩, h4, h5, h6, h7, h8⟩ := h r hr
 exact ⟨⟨go, o, h1, Nat.lt_of_lt_of_le h2 hu.size, (hu.cell (p := ⟨go, o + r, none⟩) h2).trans h3⟩, h4, h5.below hu (Nat.le_refl _), h6, h7, h8⟩
theorem on_kt (h : Kt w) : On w Kt := fun u hu => h.on hu
end
theorem wp_append {o : Oper} {a : Act} {w : World} {K : Act → World → Prop} {Q : Exit → Act → World → Prop} (t : TypeId) (s x : Operand) (ho : o.op = .call { callee := .builtin .append, args := #[s, x], argTypes := #[t, t] }) (hty : o.type = t) (vs vx : Value) (hs : a.eval s = vs) (hx : a.eval x = vx) (v' : Value) (w' : World)
  (hrun : (Builtin.append_ #[t, t] t #[vs, vx]).run Tryd.prog w = .ok v' w') (h : K (a.put o.dst v') w') : o.wp Tryd.prog a w K Q := by
 unfold Oper.wp
 simp [execOp, ho, hty, resolve, invoke, builtin, hs, hx, hrun, Result.andThen]
 exact h
theorem nx_le (n : Nat) (L : Nat → Nat) (h : ∀ r, r < n → L r ≤ 1048576) : ∀ r, r < n + 1 → nx n L 1 r ≤ 1048576 := by
 intro r hr
 unfold nx
 split
 ·exact h r ‹_›
 ·decide
theorem rd_one (w : World) (g : Nat) (x : UInt8) (t : TypeId) (h : w.heap[g]? = some (.cells #[.int .u8 (x.toNat : Int)] t (0, 0))) : Rd w (some ⟨g, 0, none⟩) [x] := by
 intro hp
 refine ⟨g, 0, rfl, lt_of_block h, fun j hj => ?_⟩
 obtain rfl : j = 0 := by simpa using hj
 rw [cell_of_row _ _ _ _ t _ h]
 simp
/-- shas.As, what is summed named -/
theorem as_r (st : ByteArray) (a0 : Option Addr) (n0 c0 : Nat) (A : Nat → Option Addr) (L C : Nat → Nat) (xs : Nat → List UInt8) (r : List UInt8) (w : World) (hR : Rws w a0 n0 A L C xs) (hK : Kt w) (hn : n0 ≤ 1000) (hL : ∀ r, r < n0 → L r ≤ 1048576) (hs : st.size ≤ 1000000) (hr : sha (spelt st.data.toList n0 xs n0) = r) :
  Calls Tryd.prog 16 #[.string st, .slice a0 n0 c0] w fun e w' => e = .returned (.agg (bvs r).toArray) ∧ Below w.heap.size w w' := by
 subst hr
 exact as_any st a0 n0 c0 A L C xs w hR hK hn hL hs
theorem hb0_le {w0 w : World} {o : Obj} (h : On w fun u => Below w0.heap.size w0 u) (hb : Below w.heap.size w (w.alloc o)) : w0.heap.size ≤ w.heap.size := h.here.size
theorem cells_old {w0 u : World} {ga gp : Nat} {st : ByteArray} {a0 : Option Addr} {n0 c0 : Nat} (h1 : ga < w0.heap.size) (h2 : gp < w0.heap.size) (k1 : w0.cell? ⟨ga, 0, none⟩ = some (.string st)) (k2 : w0.cell? ⟨gp, 0, none⟩ = some (.slice a0 n0 c0)) (h : Below w0.heap.size w0 u) :
  u.cell? ⟨ga, 0, none⟩ = some (.string st) ∧ u.cell? ⟨gp, 0, none⟩ = some (.slice a0 n0 c0) := ⟨(h.cell (p := ⟨ga, 0, none⟩) h1).trans k1, (h.cell (p := ⟨gp, 0, none⟩) h2).trans k2⟩
end Go.Proofs.YtgmnpkgnedngjaaDoor
namespace Go.Proofs.YtgmnpkgnedngjaaDoor
open Go.RowKit
set_option linter.unusedVariables false
theorem rowo_below {w w' : World} {B : Nat} {v : Value} {n : Nat} {l : List Value} (h : w.ownsRow B 37 1 v n l) (hb : Below w.heap.size w w') : w'.ownsRow B 37 1 v n l := by
  refine ⟨h.1, ?_⟩
  rcases h.2 with h | ⟨g, cap, cur, e, h1, h2, h3⟩
  · exact .inl h
  · exact .inr ⟨g, cap, cur, e, h1, (hb.block g (lt_of_block h2)).trans h2, h3⟩
theorem on_own {w : World} {B : Nat} {v : Value} {n : Nat} {l : List Value} (h : w.ownsRow B 37 1 v n l) : On w fun u => u.ownsRow B 37 1 v n l := fun u hu => rowo_below h hu
theorem on_blk {w : World} {g : Nat} {o : Obj} (h : w.heap[g]? = some o) : On w fun u => u.heap[g]? = some o := fun u hu => (hu.block g (lt_of_block h)).trans h
theorem cells_one (n : Nat) (A : Nat → Option Addr) (L C : Nat → Nat) : ∀ u ∈ cellsOf n A L C, u.oneCell' = true := by
  intro u hu
  obtain ⟨r, _, rfl⟩ := List.mem_map.1 hu
  rfl
set_option maxRecDepth 100000 in
theorem rows_all (w : World) (a0 : Option Addr) (n0 c0 : Nat) (A : Nat → Option Addr) (L C : Nat → Nat) (xs : Nat → List UInt8) (hR : Rws w a0 n0 A L C xs) (hn : n0 ≤ 1000) (hc : n0 ≤ c0) (h0 : a0 = none → c0 = 0) :
    ∃ v w', (Builtin.append_ #[50, 50] 50 #[.slice none 0 0, .slice a0 n0 c0]).run Tryd.prog w = .ok v w' ∧ w'.ownsRow w.heap.size 37 1 v n0 (cellsOf n0 A L C) ∧ Below w.heap.size w w' := by
  obtain ⟨i0, hi, hz0, hz1, hz2⟩ := info_parts row_info
  rcases a0 with _ | ad
  · obtain rfl := h0 rfl
    obtain rfl : n0 = 0 := by omega
    refine ⟨_, w, run_append_owned_none (P := Tryd.prog) (w := w) w.heap.size 50 50 37 i0 1 Tryd.underlying50 hi (.slice none 0 0) 0 [] (World.ownsRow_nil w _ 37 1), World.ownsRow_nil w _ 37 1, Below.refl _ _⟩
  · obtain ⟨v', w', hrun, h2, h3, _⟩ := run_append_own_at (P := Tryd.prog) w w.heap.size 50 50 37 i0 (.slice none 0 0) 1 24 Tryd.underlying50 hi hz0 hz1 hz2 rfl (by omega) (.slice none 0 0) 0 [] (World.ownsRow_nil w _ 37 1) ad n0 c0 (cellsOf n0 A L C) (by rw [cellsOf_length, Nat.mul_one])
      (fun j u hj => by
        have hj2 : j < n0 := by
          rcases Nat.lt_or_ge j n0 with h | h
          · exact h
          · rw [List.getElem?_eq_none (by rw [cellsOf_length]; exact h)] at hj; cases hj
        rw [cellsOf_at A L C hj2] at hj
        injection hj with hj; subst hj
        obtain ⟨⟨go, o, e1, _, hc⟩, _⟩ := hR j hj2
        injection e1 with e1; subst e1
        rw [Addr.add_lit]; exact hc) (cells_one n0 A L C) (by simp only [maxLen]; omega) (by omega) (Nat.le_refl _)
    rw [Nat.zero_add, List.nil_append] at h2
    exact ⟨v', w', hrun, h2, below_grown (Below.refl _ _) (h3.but (some w.heap.size)) (Nat.le_refl _) (Nat.le_refl _)⟩
set_option maxRecDepth 100000 in
theorem rows_put (w0 w : World) (B : Nat) (a0 : Option Addr) (v : Value) (n : Nat) (A : Nat → Option Addr) (L C : Nat → Nat) (xs : Nat → List UInt8) (hB0 : w0.heap.size ≤ B) (hB : Below w0.heap.size w0 w) (hBw : B ≤ w.heap.size)
    (ho : w.ownsRow B 37 1 v n (cellsOf n A L C)) (hR : Rws w0 a0 n A L C xs) (hn : n ≤ 1000) (b d b1 : Nat) (x : UInt8) (hb : w.cell? ⟨b, 0, none⟩ = some (.slice (some ⟨b1, 0, none⟩) 1 1)) (hr : w.heap[b1]? = some (.cells #[.int .u8 (x.toNat : Int)] 5 (0, 0))) (hne : v.ownBlock ≠ some b1) :
    ∃ g c w', (Builtin.append_ #[50, 50] 50 #[v, .slice (some ⟨b, 0, none⟩) 1 d]).run Tryd.prog w = .ok (.slice (some ⟨g, 0, none⟩) (n + 1) c) w' ∧ Below w0.heap.size w0 w' ∧ w.heap.size ≤ w'.heap.size ∧ n + 1 ≤ c ∧
      Rws w' (some ⟨g, 0, none⟩) (n + 1) (nx n A (some ⟨b1, 0, none⟩)) (nx n L 1) (nx n C 1) (nx n xs [x]) ∧ (∀ k, k < w.heap.size → v.ownBlock ≠ some k → w'.heap[k]? = w.heap[k]?) := by
  obtain ⟨i0, hi, hz0, hz1, hz2⟩ := info_parts row_info
  have hnew : ∀ j u, ([Value.slice (some ⟨b1, 0, none⟩) 1 1] : List Value)[j]? = some u → w.cell? ((⟨b, 0, none⟩ : Addr).add j) = some u := by
    intro j u hj
    rcases j with _ | j
    · simp only [List.getElem?_cons_zero, Option.some.injEq] at hj
      subst hj
      rw [Addr.add_lit]; exact hb
    · simp at hj
  obtain ⟨v', w', hrun, hown, hgr, _⟩ := run_append_own_at (P := Tryd.prog) w B 50 50 37 i0 (.slice none 0 0) 1 24 Tryd.underlying50 hi hz0 hz1 hz2 rfl (by omega) v n (cellsOf n A L C) ho ⟨b, 0, none⟩ 1 d _ rfl hnew (by simp [Value.oneCell']) (by simp only [maxLen]; omega) (by omega) hBw
  have hkeep : ∀ k, k < w.heap.size → v.ownBlock ≠ some k → w'.heap[k]? = w.heap[k]? := fun k hk hv => hgr.block k hk (by intro e; exact hv e.symm)
  have hlo : ∀ k, v.ownBlock = some k → B ≤ k ∧ k < w.heap.size := World.ownsRow.lt ho
  have hB2 : Below w0.heap.size w0 w' := hB.trans ⟨hgr.os, hgr.tape, hgr.output, hgr.size, fun k hk => hkeep k (by have := hB.size; omega) (fun e => by have := (hlo k e).1; omega)⟩
  have hb1 : w'.heap[b1]? = some (.cells #[.int .u8 (x.toNat : Int)] 5 (0, 0)) := (hkeep b1 (lt_of_block hr) hne).trans hr
  rcases hown.2 with ⟨_, h⟩ | ⟨g, cap, cur, rfl, hbg, hh, hnc, hm, hs, ht⟩
  · omega
  · refine ⟨g, cap, w', hrun, hB2, hgr.size, hnc, fun r hr2 => ?_, hkeep⟩
    have hcell := World.ownsRow.cellAt hown r (by omega)
    rcases Nat.lt_or_ge r n with hlt | hge
    · obtain ⟨_, k1, k2, k3, k4, k5⟩ := hR r hlt
      simp only [nx, hlt, if_true]
      refine ⟨⟨g, 0, rfl, lt_of_block hh, ?_⟩, k1, k2.below hB2 (Nat.le_refl _), k3, k4, k5⟩
      rw [Nat.zero_add, hcell, List.getElem?_append_left (by rw [cellsOf_length]; exact hlt), cellsOf_at A L C hlt]
    · obtain rfl : r = n := by omega
      simp only [nx, Nat.lt_irrefl, if_false]
      refine ⟨⟨g, 0, rfl, lt_of_block hh, ?_⟩, rfl, rd_one w' b1 x 5 hb1, Nat.le_refl _, by omega, fun h => by cases h⟩
      rw [Nat.zero_add, hcell, List.getElem?_append_right (by rw [cellsOf_length]; exact Nat.le_refl _), cellsOf_length]
      simp
end Go.Proofs.YtgmnpkgnedngjaaDoor
namespace Go.Proofs.YtgmnpkgnedngjaaDoor
open Go.RowKit
set_option linter.unusedVariables false
set_option linter.unusedSimpArgs false

end Go.Proofs.YtgmnpkgnedngjaaDoor
