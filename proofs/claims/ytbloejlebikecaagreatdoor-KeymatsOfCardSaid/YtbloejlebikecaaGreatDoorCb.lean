/-
  A run, and boxes of sums, as a law carries them. Conditions: none.
-/
import Derived.Test.YtbloejlebikecaaGreatDoorAlive
namespace Go.Proofs.YtbloejlebikecaaGreatDoor
open Go.RowKit
set_option linter.unusedVariables false
set_option linter.unusedSimpArgs false

/-- a run of these bytes, and boxes that hold these sums -/
def Cb (w : World) (g : Nat) (bs : List UInt8) (l : List (Nat × List UInt8)) (w' : World) : Prop := Al w g bs w' ∧ ∀ p ∈ l, Bt w' p.1 26 p.2 ∧ p.1 ≠ g
theorem Cb.old {w w' : World} {g : Nat} {bs : List UInt8} {l : List (Nat × List UInt8)} (h : Cb w g bs l w') : Below w.heap.size w w' := h.1.below
theorem Cb.on {w w' w2 : World} {g : Nat} {bs : List UInt8} {l : List (Nat × List UInt8)} (h : Cb w g bs l w') (hb : Below w'.heap.size w' w2) : Cb w g bs l w2 := ⟨h.1.on hb, fun p hp => ⟨(h.2 p hp).1.on hb, (h.2 p hp).2⟩⟩
theorem Cb.drew {w w' : World} {g : Nat} {bs : List UInt8} {l : List (Nat × List UInt8)} (h : Cb w g bs l w') : Cb w g bs l w'.drew := ⟨h.1.drew, h.2⟩
theorem Bt.grown {w w' : World} {g b : Nat} {t : TypeId} {l : List UInt8} (h : Bt w b t l) (hg : w.grownBy w' (some g)) (hne : b ≠ g) : Bt w' b t l := (hg.block b h.lt (by intro e; injection e with e; exact hne e)).trans h
theorem Cb.box {w w' : World} {g : Nat} {bs x : List UInt8} {l : List (Nat × List UInt8)} (h : Cb w g bs l w') : Cb w g bs ((w'.heap.size, x) :: l) (w'.alloc (.cells (bvs x).toArray 26)) := by
  have h2 := h.on ((Below.refl w'.heap.size w').alloc (Nat.le_refl _) (.cells (bvs x).toArray 26))
  refine ⟨h2.1, fun p hp => ?_⟩
  rcases List.mem_cons.1 hp with rfl | hp
  · exact ⟨heap_alloc_new _ _, Nat.ne_of_gt h.1.run.lt⟩
  · exact h2.2 p hp
theorem Cb.set {w w' : World} {g : Nat} {bs x : List UInt8} {l : List (Nat × List UInt8)} (h : Cb w g bs l w') : Cb w g bs ((w'.heap.size, x) :: l) ((w'.alloc (.cells #[.int .u8 0, .int .u8 0, .int .u8 0, .int .u8 0, .int .u8 0, .int .u8 0, .int .u8 0, .int .u8 0, .int .u8 0, .int .u8 0, .int .u8 0, .int .u8 0, .int .u8 0, .int .u8 0, .int .u8 0, .int .u8 0, .int .u8 0, .int .u8 0, .int .u8 0, .int .u8 0, .int .u8 0, .int .u8 0, .int .u8 0, .int .u8 0, .int .u8 0, .int .u8 0, .int .u8 0, .int .u8 0, .int .u8 0, .int .u8 0, .int .u8 0, .int .u8 0] 26)).setRow w'.heap.size (bvs x).toArray) := by
  rw [World.setRow_alloc_new]; exact h.box
theorem Cb.setx {w w' : World} {g : Nat} {bs : List UInt8} {l : List (Nat × List UInt8)} (h : Cb w g bs l w') (x : List UInt8) : ∃ w2, (w'.alloc (.cells #[.int .u8 0, .int .u8 0, .int .u8 0, .int .u8 0, .int .u8 0, .int .u8 0, .int .u8 0, .int .u8 0, .int .u8 0, .int .u8 0, .int .u8 0, .int .u8 0, .int .u8 0, .int .u8 0, .int .u8 0, .int .u8 0, .int .u8 0, .int .u8 0, .int .u8 0, .int .u8 0, .int .u8 0, .int .u8 0, .int .u8 0, .int .u8 0, .int .u8 0, .int .u8 0, .int .u8 0, .int .u8 0, .int .u8 0, .int .u8 0, .int .u8 0, .int .u8 0] 26)).setRow w'.heap.size (bvs x).toArray = w2 ∧ Hid (Cb w g bs ((w'.heap.size, x) :: l) w2) := ⟨_, rfl, hid h.set⟩
theorem ho32 (x : List UInt8) (h : x.length = 32) : Hid ((#[.int .u8 0, .int .u8 0, .int .u8 0, .int .u8 0, .int .u8 0, .int .u8 0, .int .u8 0, .int .u8 0, .int .u8 0, .int .u8 0, .int .u8 0, .int .u8 0, .int .u8 0, .int .u8 0, .int .u8 0, .int .u8 0, .int .u8 0, .int .u8 0, .int .u8 0, .int .u8 0, .int .u8 0, .int .u8 0, .int .u8 0, .int .u8 0, .int .u8 0, .int .u8 0, .int .u8 0, .int .u8 0, .int .u8 0, .int .u8 0, .int .u8 0, .int .u8 0] : Array Value).size = (bvs x).toArray.size) := hid (by rw [bvs_size, h]; rfl)
theorem new_cb (w : World) (hK : Kt w) : Calls Tryz.prog 103 #[] w fun e w' => ∃ g, e = .returned (.pointer (some ⟨g, 0, none⟩)) ∧ Hid (Cb w g [] [] w') := by
  refine (new_at w hK).mono ?_
  rintro e w1 ⟨g, rfl, h⟩
  exact ⟨g, rfl, hid ⟨h.out, fun p hp => by cases hp⟩⟩
theorem write_cb {w wr : World} {g : Nat} {bs : List UInt8} {l : List (Nat × List UInt8)} (H : Hid (Cb w g bs l wr)) (A : Option Addr) (c n : Nat) (part : List UInt8) (hn : part.length = n) (hr : Rd wr A part) (hA : 0 < n → ∀ ad, A = some ad → ad.block ≠ g) (hc : n ≤ c) (hlen : bs.length + n ≤ 140737488355328) :
    Calls Tryz.prog 104 #[.pointer (some ⟨g, 0, none⟩), .slice A n c] wr fun e w' => e = .returned (.int .i64 0) ∧ Hid (Cb w g (bs ++ part) l w') := by
  refine (write_at (hid H.out.1) A c n part hn hr hA hc hlen).mono ?_
  rintro e w1 ⟨rfl, h1, h2⟩
  exact ⟨rfl, hid ⟨h1.out, fun p hp => ⟨(H.out.2 p hp).1.grown h2.out (H.out.2 p hp).2, (H.out.2 p hp).2⟩⟩⟩
theorem sum_cb {w wr : World} {g : Nat} {bs : List UInt8} {l : List (Nat × List UInt8)} (H : Hid (Cb w g bs l wr)) (hl : bs.length ≤ 70368744177664) :
    Calls Tryz.prog 105 #[.pointer (some ⟨g, 0, none⟩)] wr fun e w' => e = .returned (.agg (bvs (sha bs)).toArray) ∧ Hid (Cb w g bs l w') := by
  refine (sum_at (hid H.out.1) hl).mono ?_
  rintro e w1 ⟨rfl, h1, h2⟩
  exact ⟨rfl, hid (H.out.on h2.out)⟩
theorem of_cb {w wr : World} {g : Nat} {bs : List UInt8} {l : List (Nat × List UInt8)} (H : Hid (Cb w g bs l wr)) (A : Option Addr) (c n : Nat) (part : List UInt8) (hn : part.length = n) (hr : Rd wr A part) (hc : n ≤ c) (hl : n ≤ 70368744177664) :
    Calls Tryz.prog 102 #[.slice A n c] wr fun e w' => e = .returned (.agg (bvs (sha part)).toArray) ∧ Hid (Cb w g bs l w') := by
  refine (of_at (hid H.out.1) A c n part hn hr hc hl).mono ?_
  rintro e w1 ⟨rfl, h1, h2⟩
  exact ⟨rfl, hid (H.out.on h2.out)⟩
theorem slice_head (A : Option Addr) (n c k : Nat) (hk : k ≤ c) (w : World) : (Instr.slice 27 (.slice A n c) none (some (.int .i64 (k : Int))) none).run Tryz.prog w = .ok (.slice (past A 0 c) k c) w := by
  have h5 : Tryz.prog.elem 27 = 5 := by kernel_rfl
  rw [run_slice_h (P := Tryz.prog) w 27 A n c (by rw [h5]; exact Tryz.underlying27) .i64 (k : Int) (by omega) (by omega)]
  have hs : (sizeOf 5).run Tryz.prog w = .ok 1 w := by kernel_rfl
  rw [h5, hs]
  simp only [Result.andThen, sliced, Int.toNat_natCast, past, Nat.zero_mul, Nat.sub_zero]
/-- an argument's address lies below what is made since -/
theorem par_block {w : World} {A : Option Addr} {bs : List UInt8} {g : Nat} (h : Rd w A bs) (hp : 0 < bs.length) (hg : w.heap.size ≤ g) : ∀ ad, A = some ad → ad.block ≠ g := by
  intro ad e
  obtain ⟨gp, o, h1, h2, _⟩ := h hp
  rw [h1] at e; injection e with e; subst e
  show gp ≠ g
  omega
end Go.Proofs.YtbloejlebikecaaGreatDoor
