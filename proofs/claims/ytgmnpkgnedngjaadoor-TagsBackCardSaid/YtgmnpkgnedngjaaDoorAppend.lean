/-
  append onto a slice of bytes of the call's lown. Conditions: no more than 2^47 bytes in all.
-/
import Derived.Test.YtgmnpkgnedngjaaDoorPkB
import Derived.Maps.AppendAt
import Derived.Laws.AppendOwnNone
namespace Go.Proofs.YtgmnpkgnedngjaaDoor
open Go.RowKit
set_option linter.unusedVariables false

/-- a slice of the call's lown that holds these bytes -/
def Ow (w : World) (base : Nat) (v : Value) (bs : List UInt8) : Prop := w.ownsRow base 5 1 v bs.length (bvs bs)

theorem Ow.nil (w : World) (base : Nat) : Ow w base (.slice none 0 0) [] := World.ownsRow_nil w base 5 1

/-- what it looks like, and what it reads as -/
theorem Ow.form {w : World} {base : Nat} {v : Value} {bs : List UInt8} (h : Ow w base v bs) :
    ∃ A c, v = .slice A bs.length c ∧ bs.length ≤ c ∧ c ≤ 9223372036854775807 ∧ Rd w A bs ∧ (A = none → c = 0) := by
  rcases h.2 with ⟨rfl, hn⟩ | ⟨g, cap, cur, rfl, hb, hh, hnc, hm, hs, ht⟩
  · have : bs = [] := List.eq_nil_of_length_eq_zero hn
    subst this
    exact ⟨none, 0, rfl, Nat.le_refl _, by omega, Rd.nil _ _, fun _ => rfl⟩
  · refine ⟨_, cap, rfl, hnc, hm, fun hp => ⟨g, 0, rfl, lt_of_block hh, fun j hj => ?_⟩, fun h => by cases h⟩
    have := World.ownsRow.cellAt h j (by simpa using hj)
    rw [Nat.zero_add, this]
    simp [bvs, hj]

set_option maxRecDepth 100000 in
theorem append_bytes (w : World) (base : Nat) (v : Value) (bs ls : List UInt8) (A : Option Addr) (m c : Nat) (hown : Ow w base v bs) (hr : Rd w A ls) (hl : ls.length = m) (hA : A = none → c = 0)
    (hsz : bs.length + m ≤ 140737488355328) (hbase : base ≤ w.heap.size) :
    ∃ v' w', (Builtin.append_ #[37, 37] 37 #[v, .slice A m c]).run Tryd.prog w = .ok v' w' ∧ Ow w' base v' (bs ++ ls) ∧ w.grownBy w' v.ownBlock ∧
      (v'.ownBlock = v.ownBlock ∨ v'.ownBlock = some w.heap.size) := by
  obtain ⟨i0, hi, hz0, hz1, hz2⟩ := info_parts u8_info
  rcases A with _ | ad
  · have hm : ls = [] := by
      rcases Nat.eq_zero_or_pos ls.length with h0 | h0
      · exact List.eq_nil_of_length_eq_zero h0
      · obtain ⟨_, _, h, _⟩ := hr h0; cases h
    subst hm
    subst hl
    obtain rfl := hA rfl
    exact ⟨v, w, run_append_owned_none (P := Tryd.prog) (w := w) base 37 37 5 i0 1 Tryd.underlying37 hi v bs.length _ hown, by simpa using hown, World.grownBy.refl w _, .inl rfl⟩
  · have hc : ∀ j u, (bvs ls)[j]? = some u → w.cell? (ad.add j) = some u := by
      intro j u hu
      rcases Nat.eq_zero_or_pos ls.length with h0 | h0
      · have : ls = [] := List.eq_nil_of_length_eq_zero h0
        subst this; simp [bvs] at hu
      · obtain ⟨ad', h, hc⟩ := hr.cells h0
        injection h with h
        subst h
        exact hc j u hu
    obtain ⟨v', w', hrun, h2, h3, _, h5⟩ := run_append_own_at (P := Tryd.prog) w base 37 37 5 i0 (.int .u8 0) 1 1 Tryd.underlying37 hi hz0 hz1 hz2 rfl (by omega) v bs.length (bvs bs) hown ad m c (bvs ls) (by rw [bvs_length, hl, Nat.mul_one]) hc (bvs_one ls)
      (by simp only [maxLen]; omega) (by omega) hbase
    refine ⟨v', w', hrun, ?_, h3, h5⟩
    unfold Ow
    rw [bvs_append, List.length_append, hl]
    exact h2

/-- the walk's step at an append whose run is known -/
theorem step_append {ops : Array Oper} {rest : List Oper} {o : Oper} {a : Act} {w : World} {Q : Exit → Act → World → Prop} (hgd : o.guard = none) (s x : Operand)
    (ho : o.op = .call { callee := .builtin .append, args := #[s, x], argTypes := #[37, 37] }) (hty : o.type = 37) (vs vx : Value) (hs : a.eval s = vs) (hx : a.eval x = vx) (v' : Value) (w' : World)
    (hrun : (Builtin.append_ #[37, 37] 37 #[vs, vx]).run Tryd.prog w = .ok v' w') (h : wpList Tryd.prog ops Q rest (a.put o.dst v') w') : wpList Tryd.prog ops Q (o :: rest) a w := by
  refine wpList_plain hgd fun K hK => ?_
  unfold Oper.wp
  simp [execOp, ho, hty, resolve, invoke, builtin, hs, hx, hrun, Result.andThen]
  exact hK _ _ h
end Go.Proofs.YtgmnpkgnedngjaaDoor
