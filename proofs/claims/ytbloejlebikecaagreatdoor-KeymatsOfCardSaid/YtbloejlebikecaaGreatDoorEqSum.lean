/-
  What '==' says of two sums. Conditions: none.
-/
import Derived.Test.YtbloejlebikecaaGreatDoorWords
import Derived.WalkLawsBesides
import Derived.WalkSpells
namespace Go.Proofs.YtbloejlebikecaaGreatDoor
open Go.RowKit
set_option linter.unusedVariables false

/-- a step of the comparison -/
def eqStep (a b : List UInt8) (i : Nat) (_s : Option Bool × Unit) : Sem (ForInStep (Option Bool × Unit)) := do
  let x ← part 5 (bvs a).toArray (i * 1)
  let y ← part 5 (bvs b).toArray (i * 1)
  let r ← Op.equalIn 9999 5 x y
  if (!r) = true then pure (ForInStep.done (some false, ())) else pure (ForInStep.yield (none, ()))
theorem run_part5 (a : List UInt8) (i : Nat) (h : i < a.length) (w : World) : (part 5 (bvs a).toArray (i * 1)).run Tryz.prog w = .ok (.int .u8 ((a[i].toNat : Nat) : Int)) w := by
  have a5 := Tryz.isAgg5
  have e : (bvs a).toArray[i]? = some (.int .u8 ((a[i].toNat : Nat) : Int)) := by simp [bvs, h]
  unfold part
  rw [Nat.mul_one]
  go_simp
theorem run_eqStep (a b : List UInt8) (i : Nat) (ha : i < a.length) (hb : i < b.length) (s : Option Bool × Unit) (w : World) :
    (eqStep a b i s).run Tryz.prog w = .ok (if a[i] = b[i] then ForInStep.yield (none, ()) else ForInStep.done (some false, ())) w := by
  have u5 := Tryz.underlying5
  unfold eqStep
  rw [Sem.run_bind, run_part5 a i ha w, Result.andThen_ok, Sem.run_bind, run_part5 b i hb w, Result.andThen_ok, Sem.run_bind]
  have e : (Op.equalIn 9999 5 (.int .u8 ((a[i].toNat : Nat) : Int)) (.int .u8 ((b[i].toNat : Nat) : Int))).run Tryz.prog w = .ok (decide (a[i] = b[i])) w := by
    rw [show (9999 : Nat) = 9998 + 1 from rfl, Op.equalIn]
    simp only [Sem.run_bind, run_underlying Tryz.underlying5, Result.andThen_ok]
    go_simp
    by_cases h : a[i] = b[i]
    · simp [h]
    · have : a[i].toNat ≠ b[i].toNat := fun e => h (UInt8.toNat.inj e)
      simp [h]
      omega
  rw [e, Result.andThen_ok]
  by_cases h : a[i] = b[i] <;> simp [h]
theorem run_eqLoop (a b : List UInt8) (w : World) : ∀ (n s : Nat), s + n = a.length → s + n = b.length →
    (forIn (List.range' s n) ((none, ()) : Option Bool × Unit) (eqStep a b)).run Tryz.prog w = .ok (if a.drop s = b.drop s then (none, ()) else (some false, ())) w
  | 0, s, ha, hb => by
    rw [List.drop_eq_nil_of_le (by omega), List.drop_eq_nil_of_le (by omega), if_pos rfl]
    simp
  | n + 1, s, ha, hb => by
    have h1 : s < a.length := by omega
    have h2 : s < b.length := by omega
    rw [List.range'_succ, List.forIn_cons, Sem.run_bind, run_eqStep a b s h1 h2, Result.andThen_ok]
    have ea : a.drop s = a[s] :: a.drop (s + 1) := List.drop_eq_getElem_cons h1
    have eb : b.drop s = b[s] :: b.drop (s + 1) := List.drop_eq_getElem_cons h2
    rw [ea, eb]
    by_cases h : a[s] = b[s]
    · rw [if_pos h]
      simp only []
      rw [run_eqLoop a b w n (s + 1) (by omega) (by omega), h]
      by_cases hh : a.drop (s + 1) = b.drop (s + 1)
      · rw [if_pos hh, if_pos (by rw [hh])]
      · rw [if_neg hh, if_neg (by intro e; injection e with e1 e2; exact hh e2)]
    · rw [if_neg h]
      have hn : ¬ (a[s] :: a.drop (s + 1) = b[s] :: b.drop (s + 1)) := by intro e; injection e with e1 e2; exact h e1
      rw [if_neg hn]
      simp
theorem eq_sum (a b : List UInt8) (ha : a.length = 32) (hb : b.length = 32) (w : World) : (Op.equalIn 10000 26 (.agg (bvs a).toArray) (.agg (bvs b).toArray)).run Tryz.prog w = .ok (decide (a = b)) w := by
  have hs : (sizeOf 5).run Tryz.prog w = .ok 1 w := by kernel_rfl
  rw [show (10000 : Nat) = 9999 + 1 from rfl, Op.equalIn]
  simp only [Sem.run_bind, run_underlying Tryz.underlying26, Result.andThen_ok]
  simp only [Std.Legacy.Range.forIn_eq_forIn_range', Std.Legacy.Range.size, Nat.sub_zero, Nat.add_sub_cancel, Nat.div_one]
  rw [hs, Result.andThen_ok]
  have hl := run_eqLoop a b w 32 0 (by omega) (by omega)
  rw [List.drop_zero, List.drop_zero] at hl
  refine (congrArg (fun r => Result.andThen r _) hl).trans ?_
  by_cases h : a = b <;> simp [h, Result.andThen]
end Go.Proofs.YtbloejlebikecaaGreatDoor
