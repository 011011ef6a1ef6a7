/-
  burrowref02.Mul, walked. Conditions: none.
-/
import Derived.Test.YtaggegknnnembaaDoorSp
import Derived.Deep.RegionWith
import Derived.Deep.DeepCutAuto
import Derived.Test.YtaggegknnnembaaDoorRefAdd
import Derived.Test.YtaggegknnnembaaDoorRefSmall
namespace Go.Proofs.YtaggegknnnembaaDoor
open Go.RowKit
set_option linter.unusedVariables false

theorem fil_fr {w : World} {g g' : Nat} {a b c d : Value} (x : Nat) (h : Fr w g a b c d) (hne : g ≠ g') : Fr (fil w g' x) g a b c d :=
  (((h.setOther _ hne).setOther _ hne).setOther _ hne).setOther _ hne
/-- what the loop carries, and the answers' boxes -/
def Sq (w : World) (ga gb g4 g5 gl gh a b lo hi : Nat) (w' : World) : Prop := Sp w ga gb gl gh a b lo hi w' ∧ Fr w' g4 (.int .u64 0) (.int .u64 0) (.int .u64 0) (.int .u64 0) ∧ Fr w' g5 (.int .u64 0) (.int .u64 0) (.int .u64 0) (.int .u64 0) ∧ g4 ≠ gl ∧ g4 ≠ gh ∧ g5 ≠ gl ∧ g5 ≠ gh ∧ g4 ≠ g5 ∧ w.heap.size ≤ g4 ∧ w.heap.size ≤ g5
section
variable {w w' w2 : World} {ga gb g4 g5 gl gh a b lo hi : Nat}
theorem Sq.on (h : Sq w ga gb g4 g5 gl gh a b lo hi w') (hb : Below w'.heap.size w' w2) : Sq w ga gb g4 g5 gl gh a b lo hi w2 := ⟨h.1.on hb, h.2.1.on hb, h.2.2.1.on hb, h.2.2.2⟩
theorem Sq.drew (h : Sq w ga gb g4 g5 gl gh a b lo hi w') : Sq w ga gb g4 g5 gl gh a b lo hi w'.drew := ⟨h.1.drew, h.2⟩
theorem Sq.setLo (h : Sq w ga gb g4 g5 gl gh a b lo hi w') (x : Nat) : Sq w ga gb g4 g5 gl gh a b x hi (fil w' gl x) := ⟨h.1.setLo x, fil_fr x h.2.1 h.2.2.2.1, fil_fr x h.2.2.1 h.2.2.2.2.2.1, h.2.2.2⟩
theorem Sq.setHi (h : Sq w ga gb g4 g5 gl gh a b lo hi w') (x : Nat) : Sq w ga gb g4 g5 gl gh a b lo x (fil w' gh x) := ⟨h.1.setHi x, fil_fr x h.2.1 h.2.2.2.2.1, fil_fr x h.2.2.1 h.2.2.2.2.2.2.1, h.2.2.2⟩
theorem sq_of {f : FuncId} {args : Array Value} {v : Value} (hc : Calls Tryd.prog f args w' fun e w2 => e = .returned v ∧ Below w'.heap.size w' w2) (h : Sq w ga gb g4 g5 gl gh a b lo hi w') : Calls Tryd.prog f args w' fun e w2 => e = .returned v ∧ Sq w ga gb g4 g5 gl gh a b lo hi w2 :=
  hc.mono fun e w2 ⟨he, hb⟩ => ⟨he, h.on hb⟩
end
theorem Sq.init (w : World) (a b : Nat) : Sq w w.heap.size (w.heap.size + 1) (w.heap.size + 1 + 1) (w.heap.size + 1 + 1 + 1) (w.heap.size + 1 + 1 + 1 + 1) (w.heap.size + 1 + 1 + 1 + 1 + 1) a b 0 0 ((((((w.alloc (.cells (cls a) 24)).alloc (.cells (cls b) 24)).alloc (.cells #[.int .u64 0, .int .u64 0, .int .u64 0, .int .u64 0] 24)).alloc (.cells #[.int .u64 0, .int .u64 0, .int .u64 0, .int .u64 0] 24)).alloc (.cells #[.int .u64 0, .int .u64 0, .int .u64 0, .int .u64 0] 24)).alloc (.cells #[.int .u64 0, .int .u64 0, .int .u64 0, .int .u64 0] 24)) := by
  have hE := ((((((Env.refl w).new2 a b).new 0).new 0).new 0).new 0)
  simp only [World.size_alloc] at hE
  simp only [← cls_zero] at hE
  refine ⟨⟨⟨hE.1, fun p hp => hE.2 p ?_⟩, by omega, by omega, by omega, by omega, by omega, by omega, by omega⟩, ?_, ?_, by omega, by omega, by omega, by omega, by omega, by omega, by omega⟩
  · simp only [List.mem_cons, List.not_mem_nil, or_false] at hp ⊢
    rcases hp with h | h | h | h <;> simp [h]
  · have := (hE.nm (w.heap.size + 1 + 1) 0 (by simp)).fr
    exact this
  · have := (hE.nm (w.heap.size + 1 + 1 + 1) 0 (by simp)).fr
    exact this
theorem r2add_b (x y s : Nat) (k : Int) (w : World) (hx : x < 2 ^ 256) (hy : y < 2 ^ 256) (hs : (x + y) % 2 ^ 256 = s) (hk : (((x + y) / 2 ^ 256 : Nat) : Int) = k) : Calls Tryd.prog 61 #[num x, num y] w fun e w2 => e = .returned (.tuple #[num s, .int .u64 k]) ∧ Below w.heap.size w w2 := by
  subst hs; subst hk; exact r2add_any x y w hx hy
/-- a round: doubled, and what goes beyond taken over -/
theorem dbl_round {lo hi T : Nat} (hl : lo < 2 ^ 256) (h : lo + 2 ^ 256 * hi = T) (hT : 2 * T < 2 ^ 256 * 2 ^ 256) :
    (hi + hi) % 2 ^ 256 = hi + hi ∧ hi + hi < 2 ^ 256 ∧ (lo + lo) / 2 ^ 256 < 18446744073709551616 ∧ (hi + hi + (lo + lo) / 2 ^ 256) % 2 ^ 256 = hi + hi + (lo + lo) / 2 ^ 256 ∧ hi + hi + (lo + lo) / 2 ^ 256 < 2 ^ 256
    ∧ (lo + lo) % 2 ^ 256 + 2 ^ 256 * (hi + hi + (lo + lo) / 2 ^ 256) = 2 * T := by
  obtain ⟨r1, r2, r3⟩ := mul_dbl (Nat.two_pow_pos 256) h hT
  rw [Nat.two_mul, Nat.two_mul] at r1 r2
  rw [Nat.two_mul] at r3
  have hz : (lo + lo) / 2 ^ 256 < 18446744073709551616 := by rw [p256] at *; omega
  exact ⟨Nat.mod_eq_of_lt r3, r3, hz, Nat.mod_eq_of_lt r2, r2, by rw [r1, Nat.two_mul]⟩
theorem add_round {lo hi T a : Nat} (hl : lo < 2 ^ 256) (ha : a < 2 ^ 256) (h : lo + 2 ^ 256 * hi = T) (hT : T + a < 2 ^ 256 * 2 ^ 256) :
    (lo + a) / 2 ^ 256 < 18446744073709551616 ∧ (hi + (lo + a) / 2 ^ 256) % 2 ^ 256 = hi + (lo + a) / 2 ^ 256 ∧ hi + (lo + a) / 2 ^ 256 < 2 ^ 256
    ∧ (lo + a) % 2 ^ 256 + 2 ^ 256 * (hi + (lo + a) / 2 ^ 256) = T + a := by
  obtain ⟨r1, r2⟩ := mul_add (Nat.two_pow_pos 256) h hT
  have hz : (lo + a) / 2 ^ 256 < 18446744073709551616 := by rw [p256] at *; omega
  exact ⟨hz, Nat.mod_eq_of_lt r2, r2, r1⟩
theorem div_zero_of {x : Nat} (h : x < 2 ^ 256) : ((x / 2 ^ 256 : Nat) : Int) = 0 := by have := Nat.div_eq_of_lt h; omega

end Go.Proofs.YtaggegknnnembaaDoor
