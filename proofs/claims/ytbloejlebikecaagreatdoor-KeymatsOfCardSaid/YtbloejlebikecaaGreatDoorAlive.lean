/-
  burrowlaw05.alive, walked: it answers true. Condition: the library's table holds what its text lays.
-/
import Derived.Test.YtbloejlebikecaaGreatDoorSum
import Derived.Test.YtbloejlebikecaaGreatDoorText
import Derived.Test.YtbloejlebikecaaGreatDoorEqSum
import Derived.Deep.Cut
import Derived.Lib.SlBytesConst
namespace Go.Proofs.YtbloejlebikecaaGreatDoor
open Go.RowKit
set_option linter.unusedVariables false
set_option linter.unusedSimpArgs false

theorem hex_none : hexs (sha []) 32 = { data := #[101, 51, 98, 48, 99, 52, 52, 50, 57, 56, 102, 99, 49, 99, 49, 52, 57, 97, 102, 98, 102, 52, 99, 56, 57, 57, 54, 102, 98, 57, 50, 52, 50, 55, 97, 101, 52, 49, 101, 52, 54, 52, 57, 98, 57, 51, 52, 99, 97, 52, 57, 53, 57, 57, 49, 98, 55, 56, 53, 50, 98, 56, 53, 53] } := by rw [sha_none]; kernel_rfl
theorem hex_abc : hexs (sha [97, 98, 99]) 32 = { data := #[98, 97, 55, 56, 49, 54, 98, 102, 56, 102, 48, 49, 99, 102, 101, 97, 52, 49, 52, 49, 52, 48, 100, 101, 53, 100, 97, 101, 50, 50, 50, 51, 98, 48, 48, 51, 54, 49, 97, 51, 57, 54, 49, 55, 55, 97, 57, 99, 98, 52, 49, 48, 102, 102, 54, 49, 102, 50, 48, 48, 49, 53, 97, 100] } := by rw [sha_abc]; kernel_rfl
/-- a run of these bytes, that was made since; all older things stand -/
structure Al (w : World) (g : Nat) (bs : List UInt8) (w' : World) : Prop where
  run : RunIs w' g bs
  below : Below w.heap.size w w'
  k : Kt w
  new : w.heap.size ≤ g
theorem Al.kt {w w' : World} {g : Nat} {bs : List UInt8} (h : Al w g bs w') : Kt w' := h.k.on h.below
theorem Al.n3 {w w' : World} {g : Nat} {bs : List UInt8} (h : Al w g bs w') : 0 ≠ g := by have := h.k.lt; have := h.new; omega
theorem Al.on {w w' w2 : World} {g : Nat} {bs : List UInt8} (h : Al w g bs w') (hb : Below w'.heap.size w' w2) : Al w g bs w2 := ⟨h.run.heap (hb.block g h.run.lt), h.below.trans (hb.mono h.below.size), h.k, h.new⟩
theorem Al.alloc {w w' : World} {g : Nat} {bs : List UInt8} (h : Al w g bs w') (o : Obj) : Al w g bs (w'.alloc o) := h.on ((Below.refl _ _).alloc (Nat.le_refl _) o)
theorem Al.drew {w w' : World} {g : Nat} {bs : List UInt8} (h : Al w g bs w') : Al w g bs w'.drew := ⟨h.run, h.below.drew, h.k, h.new⟩
theorem Al.put {w w' w2 : World} {g : Nat} {bs bs' : List UInt8} (h : Al w g bs w') (hr : RunIs w2 g bs') (hg : w'.grownBy w2 (some g)) : Al w g bs' w2 := ⟨hr, below_grown h.below hg h.new h.below.size, h.k, h.new⟩
/-- bytes of a constant text, made anew: marked behind their end -/
theorem rd_mark (w : World) (l : List UInt8) (fr : Nat × Nat) : Rd (w.alloc (.cells (bvs l).toArray 5 fr)) (some ⟨w.heap.size, 0, none⟩) l := by
  intro hp
  refine ⟨w.heap.size, 0, rfl, by simp, fun j hj => ?_⟩
  rw [cell_of_row _ _ _ _ 5 fr (heap_alloc_new w _)]
  simp [bvs, hj]
/-- a new block of bytes -/
theorem rd_new (w : World) (l : List UInt8) : Rd (w.alloc (.cells (bvs l).toArray 5)) (some ⟨w.heap.size, 0, none⟩) l := Row.rd0 (heap_alloc_new w _)
theorem new_at (w : World) (hK : Kt w) : Calls Tryz.prog 103 #[] w fun e w' => ∃ g, e = .returned (.pointer (some ⟨g, 0, none⟩)) ∧ Hid (Al w g [] w') := by
  refine (new_any w).mono ?_
  rintro e w1 ⟨⟨g, rfl, hg, hr⟩, hb⟩
  exact ⟨g, rfl, hid ⟨hr, hb, hK, hg⟩⟩
theorem write_at {w wr : World} {g : Nat} {bs : List UInt8} (H : Hid (Al w g bs wr)) (A : Option Addr) (c n : Nat) (part : List UInt8) (hn : part.length = n) (hr : Rd wr A part) (hA : 0 < n → ∀ ad, A = some ad → ad.block ≠ g) (hc : n ≤ c) (hlen : bs.length + n ≤ 140737488355328) :
    Calls Tryz.prog 104 #[.pointer (some ⟨g, 0, none⟩), .slice A n c] wr fun e w' => e = .returned (.int .i64 0) ∧ Hid (Al w g (bs ++ part) w') ∧ Hid (wr.grownBy w' (some g)) := by
  refine (write_any g A c bs part wr n hn H.out.run hr hA hc H.out.kt H.out.n3 hlen).mono ?_
  rintro e w1 ⟨rfl, hr1, hg1⟩
  exact ⟨rfl, hid (H.out.put hr1 hg1), hid hg1⟩
theorem sum_at {w wr : World} {g : Nat} {bs : List UInt8} (H : Hid (Al w g bs wr)) (hl : bs.length ≤ 70368744177664) :
    Calls Tryz.prog 105 #[.pointer (some ⟨g, 0, none⟩)] wr fun e w' => e = .returned (.agg (bvs (sha bs)).toArray) ∧ Hid (Al w g bs w') ∧ Hid (Below wr.heap.size wr w') := by
  refine (sum_any g bs wr H.out.run H.out.kt hl).mono ?_
  rintro e w1 ⟨rfl, hb⟩
  exact ⟨rfl, hid (H.out.on hb), hid hb⟩
theorem of_at {w wr : World} {g : Nat} {bs : List UInt8} (H : Hid (Al w g bs wr)) (A : Option Addr) (c n : Nat) (part : List UInt8) (hn : part.length = n) (hr : Rd wr A part) (hc : n ≤ c) (hl : n ≤ 70368744177664) :
    Calls Tryz.prog 102 #[.slice A n c] wr fun e w' => e = .returned (.agg (bvs (sha part)).toArray) ∧ Hid (Al w g bs w') ∧ Hid (Below wr.heap.size wr w') := by
  refine (of_any A c part wr n hn hr hc H.out.kt hl).mono ?_
  rintro e w1 ⟨rfl, hb⟩
  exact ⟨rfl, hid (H.out.on hb), hid hb⟩
end Go.Proofs.YtbloejlebikecaaGreatDoor
