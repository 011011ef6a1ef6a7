/-
  shas.mix, walked: numbers taken against each other. Conditions: none.
  nums.longer, walked: the bytes in new memory, and noughts behind them. Condition: no more than 2^48 of them in all.
  What '==' says of two sums. Conditions: none.
  nums.told, walked: it answers the number that the bytes tell. Condition: at most eight bytes.
-/
import Derived.Test.YtgmnpkgnedngjaaDoorPkB
import Derived.Test.YtgmnpkgnedngjaaDoorPkA
import Derived.Laws.BitsAllLaws
import Derived.Outline
import Derived.WalkLawsBesides
import Derived.WalkSpells
namespace Go.Proofs.YtgmnpkgnedngjaaDoor
open Go.RowKit
set_option linter.unusedVariables false

/-- the first k of three numbers, taken against each other -/
def mx (x y z : Nat) : Nat → Nat
  | 0 => 0
  | 1 => x
  | 2 => x ^^^ y
  | _ => (x ^^^ y) ^^^ z
def nth3 (x y z : Nat) : Nat → Nat
  | 0 => x
  | 1 => y
  | _ => z
/-- three numbers in a block -/
def Tri (w : World) (g x y z : Nat) : Prop := w.cell? ⟨g, 0, none⟩ = some (.int .u32 (x : Int)) ∧ w.cell? ⟨g, 1, none⟩ = some (.int .u32 (y : Int)) ∧ w.cell? ⟨g, 2, none⟩ = some (.int .u32 (z : Int))
theorem Tri.at {w : World} {g x y z : Nat} (h : Tri w g x y z) (k : Nat) (hk : k < 3) : w.cell? ⟨g, k, none⟩ = some (.int .u32 (nth3 x y z k : Int)) := by
  match k, hk with
  | 0, _ => exact h.1
  | 1, _ => exact h.2.1
  | 2, _ => exact h.2.2
theorem mx_step (x y z k : Nat) (hk : k < 3) (hx : x < 4294967296) (hy : y < 4294967296) (hz : z < 4294967296) : bits .xor .u32 (mx x y z k : Int) (nth3 x y z k : Int) = ((mx x y z (k + 1) : Nat) : Int) := by
  match k, hk with
  | 0, _ => rw [mx, nth3, mx, u32_xor_nat _ _ (by decide) hx, Nat.zero_xor]
  | 1, _ => rw [mx, nth3, mx, u32_xor_nat _ _ hx hy]
  | 2, _ => rw [mx, nth3, mx, u32_xor_nat _ _ (xor_lt hx hy) hz] <;> simp
theorem mix_any (g x y z : Nat) (w : World) (h : Tri w g x y z) (hx : x < 4294967296) (hy : y < 4294967296) (hz : z < 4294967296) :
    Calls Tryd.prog 45 #[.slice (some ⟨g, 0, none⟩) 3 3] w fun e w' => e = .returned (.int .u32 ((x ^^^ y) ^^^ z : Nat)) ∧ w = w' := by
  have HT := hid h
  have HX := hid hx
  have HY := hid hy
  have HZ := hid hz
  clear h hx hy hz
  go_enter Tryd.func45, Tryd.ntmps45
  go_wp2
  go_loop [3, 8] (fun n i => ∃ k : Nat, k ≤ 3 ∧ i = .int .i64 k ∧ n = .int .u32 (mx x y z k : Int)) (fun _ i => 3 - (intOf i).toNat)
  case atStart => exact ⟨0, Nat.zero_le _, rfl, rfl⟩
  case round =>
    obtain ⟨k, hk, rfl, rfl⟩ := hrel
    by_cases hlt : k < 3
    · have hck := HT.out.at k hlt
      have HS := hid (mx_step x y z k hlt HX.out HY.out HZ.out)
      generalize nth3 x y z k = v at hck HS
      generalize mx x y z k = t at HS
      go_wp2
      go_round
      case rel => exact ⟨k + 1, by omega, by go_num, by rw [HS.out]⟩
      case measure => simp [intOf]; omega
    · obtain rfl : k = 3 := by omega
      rw [mx]
      go_wp2
      go_ret
      exact ⟨rfl, rfl⟩
end Go.Proofs.YtgmnpkgnedngjaaDoor
namespace Go.Proofs.YtgmnpkgnedngjaaDoor
open Go.RowKit

theorem splice_head (m : Nat) (bs : List UInt8) : splice (bvs (List.replicate (bs.length + m) 0)) 0 (bvs bs) = bvs (bs ++ List.replicate m 0) := by
  simp [splice, bvs, List.drop_replicate]

set_option maxHeartbeats 400000 in
theorem longer_any (A : Option Addr) (c m : Nat) (bs : List UInt8) (w : World) (hr : Rd w A bs) (hn : bs.length + m ≤ 281474976710656) :
    Calls Tryd.prog 28 #[.slice A bs.length c, .int .i64 (m : Int)] w fun e w' => e = .returned (.slice (some ⟨w.heap.size, 0, none⟩) (bs.length + m) (bs.length + m)) ∧
      Row w' w.heap.size (bs ++ List.replicate m 0) ∧ Below w.heap.size w w' := by
  have hmk := run_make_bytes w (bs.length + m) hn
  rw [Int.natCast_add] at hmk
  have HG := hid (heap_alloc_new w (.cells (bvs (List.replicate (bs.length + m) 0)).toArray 5))
  have HB := hid ((Below.refl w.heap.size w).alloc (Nat.le_refl _) (.cells (bvs (List.replicate (bs.length + m) 0)).toArray 5))
  have HN : Hid ((bvs bs).length = Nat.min bs.length (bs.length + m)) := by rw [bvs_length]; exact hid (Nat.min_eq_left (Nat.le_add_right _ _)).symm
  have HP : Hid (0 < (bvs bs).length → some (⟨w.heap.size, 0, none⟩ : Addr) = some ⟨w.heap.size, 0, none⟩ ∧ ∃ ad, A = some ad ∧ ∀ j v, (bvs bs)[j]? = some v → (w.alloc (.cells (bvs (List.replicate (bs.length + m) 0)).toArray 5)).cell? (ad.add j) = some v) :=
    hid fun hp => ⟨rfl, (hr.below HB.out (Nat.le_refl _)).cells (by rw [bvs_length] at hp; exact hp)⟩
  have HF : Hid (0 + (bvs bs).length ≤ (bvs (List.replicate (bs.length + m) 0)).length) := hid (by simp [bvs_length])
  have HS := hid (splice_head m bs)
  go_enter Tryd.func28, Tryd.ntmps28
  go_wp2_with (with_reducible refine wpList_copy_splice rfl (.tmp 11) (.tmp 12) 37 37 rfl 5 Tryd.underlying37 u8_size _ _ _ _ _ _ rfl rfl w.heap.size 0 (bvs (List.replicate (bs.length + m) 0)) 5 HG.out (bvs bs) HN.out HP.out HF.out (bvs_one bs) w.heap.size w HB.out (Nat.le_refl _) ?_; intro w1 HR hb1)
  go_ret
  refine ⟨rfl, ?_, hb1⟩
  have := HR.out
  rw [HS.out] at this
  exact this
end Go.Proofs.YtgmnpkgnedngjaaDoor
namespace Go.Proofs.YtgmnpkgnedngjaaDoor
open Go.RowKit
set_option linter.unusedVariables false

/-- a step of the comparison -/
def eqStep (a b : List UInt8) (i : Nat) (_s : Option Bool × Unit) : Sem (ForInStep (Option Bool × Unit)) := do
  let x ← part 5 (bvs a).toArray (i * 1)
  let y ← part 5 (bvs b).toArray (i * 1)
  let r ← Op.equalIn 9999 5 x y
  if (!r) = true then pure (ForInStep.done (some false, ())) else pure (ForInStep.yield (none, ()))
theorem run_part5 (a : List UInt8) (i : Nat) (h : i < a.length) (w : World) : (part 5 (bvs a).toArray (i * 1)).run Tryd.prog w = .ok (.int .u8 ((a[i].toNat : Nat) : Int)) w := by
  have a5 := Tryd.isAgg5
  have e : (bvs a).toArray[i]? = some (.int .u8 ((a[i].toNat : Nat) : Int)) := by simp [bvs, h]
  unfold part
  rw [Nat.mul_one]
  go_simp
theorem run_eqStep (a b : List UInt8) (i : Nat) (ha : i < a.length) (hb : i < b.length) (s : Option Bool × Unit) (w : World) :
    (eqStep a b i s).run Tryd.prog w = .ok (if a[i] = b[i] then ForInStep.yield (none, ()) else ForInStep.done (some false, ())) w := by
  have u5 := Tryd.underlying5
  unfold eqStep
  rw [Sem.run_bind, run_part5 a i ha w, Result.andThen_ok, Sem.run_bind, run_part5 b i hb w, Result.andThen_ok, Sem.run_bind]
  have e : (Op.equalIn 9999 5 (.int .u8 ((a[i].toNat : Nat) : Int)) (.int .u8 ((b[i].toNat : Nat) : Int))).run Tryd.prog w = .ok (decide (a[i] = b[i])) w := by
    rw [show (9999 : Nat) = 9998 + 1 from rfl, Op.equalIn]
    simp only [Sem.run_bind, run_underlying Tryd.underlying5, Result.andThen_ok]
    go_simp
    by_cases h : a[i] = b[i]
    · simp [h]
    · have : a[i].toNat ≠ b[i].toNat := fun e => h (UInt8.toNat.inj e)
      simp [h]
      omega
  rw [e, Result.andThen_ok]
  by_cases h : a[i] = b[i] <;> simp [h]
theorem run_eqLoop (a b : List UInt8) (w : World) : ∀ (n s : Nat), s + n = a.length → s + n = b.length →
    (forIn (List.range' s n) ((none, ()) : Option Bool × Unit) (eqStep a b)).run Tryd.prog w = .ok (if a.drop s = b.drop s then (none, ()) else (some false, ())) w
  | 0, s, ha, hb => by
    rw [List.drop_eq_nil_of_le (by omega), List.drop_eq_nil_of_le (by omega), if_pos rfl]
    simp
  | n + 1, s, ha, hb => by
    have h1 : s < a.length := by omega
    have h2 : s < b.length := by omega
    rw [List.range'_succ, List.forIn_cons, Sem.run_bind, run_eqStep a b s h1 h2, Result.andThen_ok]
    have ea : a.drop s = a[s] :: a.drop (s + 1) := List.drop_eq_getElem_cons h1
    have eb : b.drop s = b[s] :: b.drop (s + 1) := List.drop_eq_getElem_cons h2
    rw [ea, eb]
    by_cases h : a[s] = b[s]
    · rw [if_pos h]
      simp only []
      rw [run_eqLoop a b w n (s + 1) (by omega) (by omega), h]
      by_cases hh : a.drop (s + 1) = b.drop (s + 1)
      · rw [if_pos hh, if_pos (by rw [hh])]
      · rw [if_neg hh, if_neg (by intro e; injection e with e1 e2; exact hh e2)]
    · rw [if_neg h]
      have hn : ¬ (a[s] :: a.drop (s + 1) = b[s] :: b.drop (s + 1)) := by intro e; injection e with e1 e2; exact h e1
      rw [if_neg hn]
      simp
theorem eq_sum (a b : List UInt8) (ha : a.length = 32) (hb : b.length = 32) (w : World) : (Op.equalIn 10000 40 (.agg (bvs a).toArray) (.agg (bvs b).toArray)).run Tryd.prog w = .ok (decide (a = b)) w := by
  have hs : (sizeOf 5).run Tryd.prog w = .ok 1 w := by kernel_rfl
  rw [show (10000 : Nat) = 9999 + 1 from rfl, Op.equalIn]
  simp only [Sem.run_bind, run_underlying Tryd.underlying40, Result.andThen_ok]
  simp only [Std.Legacy.Range.forIn_eq_forIn_range', Std.Legacy.Range.size, Nat.sub_zero, Nat.add_sub_cancel, Nat.div_one]
  rw [hs, Result.andThen_ok]
  have hl := run_eqLoop a b w 32 0 (by omega) (by omega)
  rw [List.drop_zero, List.drop_zero] at hl
  refine (congrArg (fun r => Result.andThen r _) hl).trans ?_
  by_cases h : a = b <;> simp [h, Result.andThen]
end Go.Proofs.YtgmnpkgnedngjaaDoor
namespace Go.Proofs.YtgmnpkgnedngjaaDoor
open Go.RowKit

end Go.Proofs.YtgmnpkgnedngjaaDoor
