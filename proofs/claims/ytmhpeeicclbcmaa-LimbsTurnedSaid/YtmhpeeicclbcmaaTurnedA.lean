/-
  A region that makes a box between two calls: what is kept. Conditions: none.
-/
import Derived.Test.YtmhpeeicclbcmaaAlive
import Derived.Deep.DeepCutAuto
import Derived.Test.YtmhpeeicclbcmaaFacts
namespace Go.Proofs.Ytmhpeeicclbcmaa
open Go.RowKit
set_option linter.unusedVariables false

theorem Env.cons {w w' : World} {l : List (Nat × Nat)} {g x : Nat} (h : Env w l w') (hn : Nm w' g x) : Env w ((g, x) :: l) w' := by
  refine ⟨h.1, fun p hp => ?_⟩
  rcases List.mem_cons.1 hp with rfl | hp
  · exact hn
  · exact h.2 p hp
theorem Env.alloc {w w' : World} {l : List (Nat × Nat)} (h : Env w l w') (o : Obj) : Env w l (w'.alloc o) := h.on (bal (Below.refl _ _) o)
/-- a block that is known stays so -/
def Kp (w w' : World) : Prop := ∀ (g : Nat) (a b c d : Value), Fr w g a b c d → Fr w' g a b c d
theorem ez_of {w w' : World} {l : List (Nat × Nat)} {f : FuncId} {args : Array Value} {v : Value} (hc : Calls Try.prog f args w' fun e w2 => e = .returned v ∧ Below w'.heap.size w' w2) (h : Env w l w') : Calls Try.prog f args w' fun e w2 => e = .returned v ∧ Env w l w2 ∧ Kp w' w2 :=
  hc.mono fun e w2 ⟨he, hb⟩ => ⟨he, h.on hb, fun g a b c d hf => hf.on hb⟩
theorem Env.filNew {w w' w0 : World} {l : List (Nat × Nat)} {x : Nat} (h : Env w l w') (h0 : Env w l w0) : Env w l (fil w' w0.heap.size x) :=
  ⟨fil_below x h.1 h0.1.size, fun p hp => fil_other x p.2 (h.2 p hp) (Nat.ne_of_lt (h0.2 p hp).lt)⟩
theorem all_t (w : World) : Calls Try.prog 27 #[] w fun e w' => e = .returned (num top) ∧ Below w.heap.size w w' := all_any w
theorem sub_b (x y s : Nat) (k : Int) (w : World) (hx : x < 2 ^ 256) (hy : y < 2 ^ 256) (hs : dif x y = s) (hk : ((lent x y : Nat) : Int) = k) : Calls Try.prog 12 #[num x, num y] w fun e w2 => e = .returned (.tuple #[num s, .int .u64 k]) ∧ Below w.heap.size w w2 := by
  subst hs; subst hk; exact sub_any x y w hx hy
theorem add_b (x y s : Nat) (k : Int) (w : World) (hx : x < 2 ^ 256) (hy : y < 2 ^ 256) (hs : (x + y) % 2 ^ 256 = s) (hk : (((x + y) / 2 ^ 256 : Nat) : Int) = k) : Calls Try.prog 10 #[num x, num y] w fun e w2 => e = .returned (.tuple #[num s, .int .u64 k]) ∧ Below w.heap.size w w2 := by
  subst hs; subst hk; exact add_any x y w hx hy
theorem of_b (n : Nat) (z : Int) (w : World) (hn : n < 18446744073709551616) (hz : (n : Int) = z) : Calls Try.prog 24 #[.int .u64 z] w fun e w' => e = .returned (num n) ∧ Below w.heap.size w w' := by
  subst hz; exact of_any n w hn

end Go.Proofs.Ytmhpeeicclbcmaa
