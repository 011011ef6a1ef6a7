/-
  What '==' says of two keys: arrays of bytes at whatever depth, a struct of two. Conditions: none.
-/
import Derived.Test.YtbloejlebikecaaGreatDoorKmb
import Derived.Laws.StructEq
import Derived.WalkLawsBesides
import Derived.WalkSpells
namespace Go.Proofs.YtbloejlebikecaaGreatDoor
open Go.RowKit
set_option linter.unusedVariables false
set_option linter.unusedSimpArgs false

/-- a step of the comparison -/
def qStep (d : Nat) (a b : List UInt8) (i : Nat) (_s : Option Bool × Unit) : Sem (ForInStep (Option Bool × Unit)) := do
  let x ← Go.part 5 (bvs a).toArray (i * 1)
  let y ← Go.part 5 (bvs b).toArray (i * 1)
  let r ← Op.equalIn (d + 1) 5 x y
  if (!r) = true then pure (ForInStep.done (some false, ())) else pure (ForInStep.yield (none, ()))
theorem q_part5 (a : List UInt8) (i : Nat) (h : i < a.length) (w : World) : (Go.part 5 (bvs a).toArray (i * 1)).run Tryz.prog w = .ok (.int .u8 ((a[i].toNat : Nat) : Int)) w := by
  have a5 := Tryz.isAgg5
  have e : (bvs a).toArray[i]? = some (.int .u8 ((a[i].toNat : Nat) : Int)) := by simp [bvs, h]
  unfold Go.part
  rw [Nat.mul_one]
  go_simp
theorem run_qStep (d : Nat) (a b : List UInt8) (i : Nat) (ha : i < a.length) (hb : i < b.length) (s : Option Bool × Unit) (w : World) :
    (qStep d a b i s).run Tryz.prog w = .ok (if a[i] = b[i] then ForInStep.yield (none, ()) else ForInStep.done (some false, ())) w := by
  have u5 := Tryz.underlying5
  unfold qStep
  rw [Sem.run_bind, q_part5 a i ha w, Result.andThen_ok, Sem.run_bind, q_part5 b i hb w, Result.andThen_ok, Sem.run_bind]
  have e : (Op.equalIn (d + 1) 5 (.int .u8 ((a[i].toNat : Nat) : Int)) (.int .u8 ((b[i].toNat : Nat) : Int))).run Tryz.prog w = .ok (decide (a[i] = b[i])) w := by
    rw [Op.equalIn]
    simp only [Sem.run_bind, run_underlying Tryz.underlying5, Result.andThen_ok]
    go_simp
    by_cases h : a[i] = b[i]
    · simp [h]
    · have : a[i].toNat ≠ b[i].toNat := fun e => h (UInt8.toNat.inj e)
      simp [h]
      omega
  rw [e, Result.andThen_ok]
  by_cases h : a[i] = b[i] <;> simp [h]
theorem run_qLoop (d : Nat) (a b : List UInt8) (w : World) : ∀ (n s : Nat), s + n = a.length → s + n = b.length →
    (forIn (List.range' s n) ((none, ()) : Option Bool × Unit) (qStep d a b)).run Tryz.prog w = .ok (if a.drop s = b.drop s then (none, ()) else (some false, ())) w
  | 0, s, ha, hb => by
    rw [List.drop_eq_nil_of_le (by omega), List.drop_eq_nil_of_le (by omega), if_pos rfl]
    simp
  | n + 1, s, ha, hb => by
    have h1 : s < a.length := by omega
    have h2 : s < b.length := by omega
    rw [List.range'_succ, List.forIn_cons, Sem.run_bind, run_qStep d a b s h1 h2, Result.andThen_ok]
    have ea : a.drop s = a[s] :: a.drop (s + 1) := List.drop_eq_getElem_cons h1
    have eb : b.drop s = b[s] :: b.drop (s + 1) := List.drop_eq_getElem_cons h2
    rw [ea, eb]
    by_cases h : a[s] = b[s]
    · rw [if_pos h]
      simp only []
      rw [run_qLoop d a b w n (s + 1) (by omega) (by omega), h]
      by_cases hh : a.drop (s + 1) = b.drop (s + 1)
      · rw [if_pos hh, if_pos (by rw [hh])]
      · rw [if_neg hh, if_neg (by intro e; injection e with e1 e2; exact hh e2)]
    · rw [if_neg h]
      have hn : ¬ (a[s] :: a.drop (s + 1) = b[s] :: b.drop (s + 1)) := by intro e; injection e with e1 e2; exact h e1
      rw [if_neg hn]
      simp
theorem eq_arr (d t n : Nat) (hu : Tryz.prog.underlying t = some (.array n 5)) (a b : List UInt8) (ha : a.length = n) (hb : b.length = n) (w : World) : (Op.equalIn (d + 2) t (.agg (bvs a).toArray) (.agg (bvs b).toArray)).run Tryz.prog w = .ok (decide (a = b)) w := by
  have hs : (sizeOf 5).run Tryz.prog w = .ok 1 w := by kernel_rfl
  rw [show d + 2 = (d + 1) + 1 from rfl, Op.equalIn]
  simp only [Sem.run_bind, run_underlying hu, Result.andThen_ok]
  simp only [Std.Legacy.Range.forIn_eq_forIn_range', Std.Legacy.Range.size, Nat.sub_zero, Nat.add_sub_cancel, Nat.div_one]
  rw [hs, Result.andThen_ok]
  have hl := run_qLoop d a b w n 0 (by omega) (by omega)
  rw [List.drop_zero, List.drop_zero] at hl
  refine (congrArg (fun r => Result.andThen r _) hl).trans ?_
  by_cases h : a = b <;> simp [h, Result.andThen]
theorem bvs_ext (a : List UInt8) (o n : Nat) : (bvs a).toArray.extract o (o + n) = (bvs ((a.drop o).take n)).toArray := by
  apply Array.ext'
  simp [bvs, List.map_take, List.map_drop, List.drop_take]
theorem part_mac (a : List UInt8) (w : World) : (Go.part 26 (bvs a).toArray 0).run Tryz.prog w = .ok (.agg (bvs (a.take 32)).toArray) w := by
  have h1 : (isAgg 26).run Tryz.prog w = .ok true w := by kernel_rfl
  have h2 : (sizeOf 26).run Tryz.prog w = .ok 32 w := by kernel_rfl
  unfold Go.part
  rw [Sem.run_bind, h1, Result.andThen_ok]
  simp only [if_true, Sem.run_bind, h2, Result.andThen_ok, Sem.run_pure]
  rw [bvs_ext, List.drop_zero]
theorem part_cip (a : List UInt8) (w : World) : (Go.part 35 (bvs a).toArray 32).run Tryz.prog w = .ok (.agg (bvs ((a.drop 32).take 16)).toArray) w := by
  have h1 : (isAgg 35).run Tryz.prog w = .ok true w := by kernel_rfl
  have h2 : (sizeOf 35).run Tryz.prog w = .ok 16 w := by kernel_rfl
  unfold Go.part
  rw [Sem.run_bind, h1, Result.andThen_ok]
  simp only [if_true, Sem.run_bind, h2, Result.andThen_ok, Sem.run_pure]
  rw [bvs_ext]
theorem keys_fields : ∃ f g : Field, (Tryz.prog.fieldsOf 37).toList = [f, g] ∧ f.name ≠ "_" ∧ g.name ≠ "_" ∧ f.type = 26 ∧ g.type = 35 ∧ f.offset = 0 ∧ g.offset = 32 := by
  have h : ((Tryz.prog.fieldsOf 37).toList.map fun f => (f.name, f.type, f.offset)) = [("Mac", 26, 0), ("Cipher", 35, 32)] := by kernel_rfl
  generalize (Tryz.prog.fieldsOf 37).toList = l at h ⊢
  rcases l with _ | ⟨f, _ | ⟨g, _ | ⟨x, l⟩⟩⟩
  · simp at h
  · simp at h
  · simp only [List.map_cons, List.map_nil, List.cons.injEq, Prod.mk.injEq, and_true] at h
    exact ⟨f, g, rfl, by rw [h.1.1]; decide, by rw [h.2.1]; decide, h.1.2.1, h.2.2.1, h.1.2.2, h.2.2.2⟩
  · simp at h
theorem eq_keys (a b : List UInt8) (ha : a.length = 48) (hb : b.length = 48) (w : World) : (Op.equalIn 10000 37 (.agg (bvs a).toArray) (.agg (bvs b).toArray)).run Tryz.prog w = .ok (decide (a = b)) w := by
  rw [show (10000 : Nat) = 9999 + 1 from rfl, run_equalIn_struct w 9999 37 _ _ (by kernel_rfl) (by kernel_rfl)]
  obtain ⟨f, g, hfs, hf, hg, tf, tg, of, og⟩ := keys_fields
  rw [hfs]
  simp only [Op.eqFields, hf, hg, ne_eq, not_false_eq_true, if_true, tf, tg, of, og, Sem.run_bind, part_mac, part_cip, Result.andThen_ok]
  rw [show (9999 : Nat) = 9997 + 2 from rfl, eq_arr 9997 26 32 Tryz.underlying26 _ _ (by rw [List.length_take]; omega) (by rw [List.length_take]; omega) w, Result.andThen_ok]
  have hc : (Op.equalIn 9999 35 (.agg (bvs ((a.drop 32).take 16)).toArray) (.agg (bvs ((b.drop 32).take 16)).toArray)).run Tryz.prog w = .ok (decide ((a.drop 32).take 16 = (b.drop 32).take 16)) w := eq_arr 9997 35 16 Tryz.underlying35 ((a.drop 32).take 16) ((b.drop 32).take 16) (by rw [List.length_take, List.length_drop]; omega) (by rw [List.length_take, List.length_drop]; omega) w
  have ea : a = a.take 32 ++ (a.drop 32).take 16 := by rw [List.take_of_length_le (l := a.drop 32) (by rw [List.length_drop]; omega), List.take_append_drop]
  have eb : b = b.take 32 ++ (b.drop 32).take 16 := by rw [List.take_of_length_le (l := b.drop 32) (by rw [List.length_drop]; omega), List.take_append_drop]
  by_cases h1 : a.take 32 = b.take 32
  · have e1 : decide (a.take 32 = b.take 32) = true := decide_eq_true h1
    rw [e1]
    simp only [Bool.not_true, Bool.false_eq_true, if_false, Sem.run_bind, part_cip, hc, Result.andThen_ok]
    by_cases h2 : (a.drop 32).take 16 = (b.drop 32).take 16
    · have e2 : a = b := by rw [ea, eb, h1, h2]
      rw [decide_eq_true h2, decide_eq_true e2]
      simp
    · have e2 : ¬ a = b := fun e => h2 (by rw [e])
      rw [decide_eq_false h2, decide_eq_false e2]
      simp
  · have e2 : ¬ a = b := fun e => h1 (by rw [e])
    rw [decide_eq_false h1, decide_eq_false e2]
    simp
end Go.Proofs.YtbloejlebikecaaGreatDoor
