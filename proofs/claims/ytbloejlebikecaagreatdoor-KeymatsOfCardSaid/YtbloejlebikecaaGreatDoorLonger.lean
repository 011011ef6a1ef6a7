/-
  nums.longer, walked: the bytes in new memory, and noughts behind them. Condition: no more than 2^48 of them in all.
-/
import Derived.Test.YtbloejlebikecaaGreatDoorWords
import Derived.Outline
import Derived.WalkLawsBesides
import Derived.WalkSpells
namespace Go.Proofs.YtbloejlebikecaaGreatDoor
open Go.RowKit

theorem splice_head (m : Nat) (bs : List UInt8) : splice (bvs (List.replicate (bs.length + m) 0)) 0 (bvs bs) = bvs (bs ++ List.replicate m 0) := by
  simp [splice, bvs, List.drop_replicate]

set_option maxHeartbeats 400000 in
theorem longer_any (A : Option Addr) (c m : Nat) (bs : List UInt8) (w : World) (hr : Rd w A bs) (hn : bs.length + m ≤ 281474976710656) :
    Calls Tryz.prog 67 #[.slice A bs.length c, .int .i64 (m : Int)] w fun e w' => e = .returned (.slice (some ⟨w.heap.size, 0, none⟩) (bs.length + m) (bs.length + m)) ∧
      Row w' w.heap.size (bs ++ List.replicate m 0) ∧ Below w.heap.size w w' := by
  have hmk := run_make_bytes w (bs.length + m) hn
  rw [Int.natCast_add] at hmk
  have HG := hid (heap_alloc_new w (.cells (bvs (List.replicate (bs.length + m) 0)).toArray 5))
  have HB := hid ((Below.refl w.heap.size w).alloc (Nat.le_refl _) (.cells (bvs (List.replicate (bs.length + m) 0)).toArray 5))
  have HN : Hid ((bvs bs).length = Nat.min bs.length (bs.length + m)) := by rw [bvs_length]; exact hid (Nat.min_eq_left (Nat.le_add_right _ _)).symm
  have HP : Hid (0 < (bvs bs).length → some (⟨w.heap.size, 0, none⟩ : Addr) = some ⟨w.heap.size, 0, none⟩ ∧ ∃ ad, A = some ad ∧ ∀ j v, (bvs bs)[j]? = some v → (w.alloc (.cells (bvs (List.replicate (bs.length + m) 0)).toArray 5)).cell? (ad.add j) = some v) :=
    hid fun hp => ⟨rfl, (hr.below HB.out (Nat.le_refl _)).cells (by rw [bvs_length] at hp; exact hp)⟩
  have HF : Hid (0 + (bvs bs).length ≤ (bvs (List.replicate (bs.length + m) 0)).length) := hid (by simp [bvs_length])
  have HS := hid (splice_head m bs)
  go_enter Tryz.func67, Tryz.ntmps67
  go_wp2_with (with_reducible refine wpList_copy_splice rfl (.tmp 11) (.tmp 12) 27 27 rfl 5 Tryz.underlying27 u8_size _ _ _ _ _ _ rfl rfl w.heap.size 0 (bvs (List.replicate (bs.length + m) 0)) 5 HG.out (bvs bs) HN.out HP.out HF.out (bvs_one bs) w.heap.size w HB.out (Nat.le_refl _) ?_; intro w1 HR hb1)
  go_ret
  refine ⟨rfl, ?_, hb1⟩
  have := HR.out
  rw [HS.out] at this
  exact this
end Go.Proofs.YtbloejlebikecaaGreatDoor
