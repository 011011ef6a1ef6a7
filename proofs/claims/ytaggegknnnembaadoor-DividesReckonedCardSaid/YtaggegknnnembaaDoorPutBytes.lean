/-
  nums.PutBytes, walked: the bytes, then in four how many others there are, then these, in new memory. Condition: no more than 2^46 bytes came in, either time.
-/
import Derived.Test.YtaggegknnnembaaDoorPutLong
namespace Go.Proofs.YtaggegknnnembaaDoor
open Go.RowKit
set_option linter.unusedVariables false

theorem laid_mid (bs : List UInt8) (N K m : Nat) : laid (bs ++ List.replicate (K + m) 0) (bs.length + K) N K = (bs ++ be N K) ++ List.replicate m 0 := by
  have e : bs.length + K - K = bs.length := by omega
  simp [laid, e]

theorem splice_tail (X : List UInt8) (ls : List UInt8) : splice (bvs (X ++ List.replicate ls.length 0)) X.length (bvs ls) = bvs (X ++ ls) := by
  simp [splice, bvs]

/-- copy(dst, src), dst in a block that is known whole -/
theorem copy_bytes (w : World) (g off dLen dCap sCap : Nat) (D B : Option Addr) (cur ls : List UInt8) (hD : 0 < ls.length → D = some ⟨g, off, none⟩) (hg : Row w g cur) (hl : Rd w B ls)
    (hfit : off + ls.length ≤ cur.length) (hd : ls.length ≤ dLen) :
    ∃ w3, (Builtin.copy_ #[52, 52] 3 #[.slice D dLen dCap, .slice B ls.length sCap]).run Tryd.prog w = .ok (goInt ls.length) w3 ∧
      Row w3 g (cur.take off ++ (ls ++ cur.drop (off + ls.length))) ∧ w.grownBy w3 (some g) := by
  rcases Nat.eq_zero_or_pos ls.length with h0 | h0
  · have hn : ls = [] := List.eq_nil_of_length_eq_zero h0
    subst hn
    refine ⟨w, ?_, by simpa using hg, World.grownBy.refl w _⟩
    exact run_copy_none (P := Tryd.prog) w 52 52 3 5 D B dLen dCap 0 sCap Tryd.underlying52 u8_size (Nat.zero_min _)
  · obtain rfl := hD h0
    obtain ⟨ad, rfl, hc⟩ := hl.cells h0
    have hrun := run_copy_row (P := Tryd.prog) w 52 52 3 5 g off dLen dCap ad ls.length sCap (bvs cur).toArray 5 (bvs ls) Tryd.underlying52 u8_size hg
      (by rw [bvs_length]; exact (Nat.min_eq_left hd).symm) hc (by simpa [bvs_length] using hfit) (bvs_one ls)
    rw [bvs_length] at hrun
    refine ⟨_, hrun, ?_, ?_⟩
    · have := setRow_heap w g _ ((bvs cur).take off ++ bvs ls ++ (bvs cur).drop (off + ls.length)).toArray 5 (0, 0) hg
      unfold Row
      rw [bvs_append, bvs_append, bvs_take, bvs_drop, ← List.append_assoc]
      exact this
    · exact ⟨rfl, rfl, rfl, by simp [World.setRow], fun k hk hne => setRow_other w g k _ (fun e => hne (by rw [e]))⟩

end Go.Proofs.YtaggegknnnembaaDoor
