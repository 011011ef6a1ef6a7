/-
  nums.Put, walked: the bytes, then the number's last ones, in new memory. Condition: no more than 2^47 bytes came in.
-/
import Derived.Test.YtbccnkjfjlmflaaGreatDoorLonger
import Derived.Test.YtbccnkjfjlmflaaGreatDoorLay
namespace Go.Proofs.YtbccnkjfjlmflaaGreatDoor
open Go.RowKit

theorem laid_tail (bs : List UInt8) (N K : Nat) : laid (bs ++ List.replicate K 0) (bs.length + K) N K = bs ++ be N K := by
  have e : bs.length + K - K = bs.length := by omega
  simp [laid, e]

theorem Row.alloc {w : World} {g : Nat} {bs : List UInt8} (h : Row w g bs) (o : Obj) : Row (w.alloc o) g bs := (Below.heap_alloc w o g h.lt).trans h

/-- a new block of words -/
theorem RdW.new (w : World) (g : Nat) (hg : g < w.heap.size) (ws : List Nat) (hw : ∀ x ∈ ws, x < 18446744073709551616) :
    RdW (w.alloc (.cells (ws.map fun (x : Nat) => Value.int .u64 (x : Int)).toArray 87)) g (some ⟨w.heap.size, 0, none⟩) ws := by
  refine ⟨hw, fun hp => ⟨w.heap.size, 0, rfl, by simp, by omega, fun j hj => ?_⟩⟩
  rw [cell_of_row _ _ _ _ 87 (0, 0) (heap_alloc_new w _)]
  simp [hj]

end Go.Proofs.YtbccnkjfjlmflaaGreatDoor
