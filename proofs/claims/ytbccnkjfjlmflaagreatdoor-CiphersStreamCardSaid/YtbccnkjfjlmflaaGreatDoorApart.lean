/-
  The Book's Apart, walked: it answers true where no two of the lists that are held share a block. Conditions: at least one list, and lists of bytes alone.
-/
import Derived.Test.YtbccnkjfjlmflaaGreatDoorIdle
namespace Go.Proofs.YtbccnkjfjlmflaaGreatDoor
open Go.RowKit
set_option linter.unusedVariables false

theorem fil_filled (w : World) (base : Nat) (its : List It) (D : Nat → List UInt8) (h : Held w base its (filled its D its.length)) : Fil its (filled its D its.length) := by
  intro i g n c hi
  have hlt : i < its.length := by
    rcases Nat.lt_or_ge i its.length with h | h
    · exact h
    · rw [List.getElem?_eq_none h] at hi; cases hi
  have hget : its.getD i ⟨none, 0, 0⟩ = ⟨some g, n, c⟩ := by simp [List.getD, hi]
  simp only [filled]
  rw [if_pos hlt, hget]
  simp only [It.len]
  rw [List.take_append_of_le_length (by simp), List.take_of_length_le (by simp)]

set_option maxRecDepth 100000 in
set_option maxHeartbeats 6400000 in
theorem apart_any (base gb gv cv : Nat) (its : List It) (lg0 : Nat → Option Addr × Nat × Nat) (D : Nat → List UInt8) (w : World) (hp : 0 < its.length) (hm : its.length ≤ 1048576)
    (hk : Bk w base gb its.length (.slice (some ⟨gv, 0, none⟩) its.length cv) (flat its lg0)) (hh : Held w base its D) (hs : Sep its) (hbase : base ≤ w.heap.size) (hgb : base ≤ gb) :
    Calls Tryz.prog 11 #[.pointer (some ⟨gb, 0, none⟩)] w fun e w' => e = .returned (.bool true) ∧ Below base w w' := by
  have HK := hid hk
  have HH := hid hh
  clear hk hh
  go_enter Tryz.func11, Tryz.ntmps11
  go_wp2_with fail
  refine (fill_any base gb gv cv its lg0 D w hp hm HK.out HH.out hs hbase).mono ?_
  rintro e w1 ⟨rfl, hk1, hh1, hb1⟩
  have HK1 := hid hk1
  have HF1 := hid (p := ∃ E, Held w1 base its E ∧ Fil its E) ⟨_, hh1, fil_filled w1 base its D hh1⟩
  have HB1 := hid hb1
  clear hk1 hh1 hb1 HK HH
  go_wp2_with fail
  refine (idle29 gb w1 (HK1.out.cell 2 _ rfl)).mono ?_
  rintro e w' ⟨rfl, rfl⟩
  go_wp2_with fail
  refine (idle30 gb w1 (HK1.out.cell 3 _ rfl)).mono ?_
  rintro e w' ⟨rfl, rfl⟩
  go_wp2_with fail
  refine (idle31 gb w1 (HK1.out.cell 4 _ rfl)).mono ?_
  rintro e w' ⟨rfl, rfl⟩
  go_wp2_with fail
  refine (idle32 gb w1 (HK1.out.cell 5 _ rfl)).mono ?_
  rintro e w' ⟨rfl, rfl⟩
  go_wp2_with fail
  refine (idle33 gb w1 (HK1.out.cell 6 _ rfl)).mono ?_
  rintro e w' ⟨rfl, rfl⟩
  go_wp2_with fail
  refine (idle34 gb w1 (HK1.out.cell 7 _ rfl)).mono ?_
  rintro e w' ⟨rfl, rfl⟩
  go_wp2_with fail
  refine (idle35 gb w1 (HK1.out.cell 8 _ rfl)).mono ?_
  rintro e w' ⟨rfl, rfl⟩
  go_wp2_with fail
  refine (idle36 gb w1 (HK1.out.cell 9 _ rfl)).mono ?_
  rintro e w' ⟨rfl, rfl⟩
  go_wp2_with fail
  refine (idle37 gb w1 (HK1.out.cell 10 _ rfl)).mono ?_
  rintro e w' ⟨rfl, rfl⟩
  go_wp2_with fail
  refine (idle38 gb w1 (HK1.out.cell 11 _ rfl)).mono ?_
  rintro e w' ⟨rfl, rfl⟩
  go_wp2_with fail
  refine (idle39 gb w1 (HK1.out.cell 12 _ rfl)).mono ?_
  rintro e w' ⟨rfl, rfl⟩
  go_wp2_with fail
  refine (idle40 gb w1 (HK1.out.cell 13 _ rfl)).mono ?_
  rintro e w' ⟨rfl, rfl⟩
  go_wp2_with fail
  refine (idle41 gb w1 (HK1.out.cell 14 _ rfl)).mono ?_
  rintro e w' ⟨rfl, rfl⟩
  go_wp2_with fail
  refine (idle42 gb w1 (HK1.out.cell 15 _ rfl)).mono ?_
  rintro e w' ⟨rfl, rfl⟩
  go_wp2_with fail
  refine (grow_any base gb gv cv its lg0 w1 hp hm HK1.out HF1.out hs (Nat.le_trans hbase HB1.out.size) hgb).mono ?_
  rintro e w2 ⟨rfl, lg, hk2, hh2, hl2, hb2⟩
  have HK2 := hid hk2
  have HF2 := hid hh2
  have HL2 := hid hl2
  have HB2 := hid (HB1.out.trans hb2)
  clear hk2 hh2 hl2 hb2 HK1 HF1 HB1
  go_wp2_with fail
  refine (idle44 gb w2 (HK2.out.cell 2 _ rfl)).mono ?_
  rintro e w' ⟨rfl, rfl⟩
  go_wp2_with fail
  refine (idle45 gb w2 (HK2.out.cell 3 _ rfl)).mono ?_
  rintro e w' ⟨rfl, rfl⟩
  go_wp2_with fail
  refine (idle46 gb w2 (HK2.out.cell 4 _ rfl)).mono ?_
  rintro e w' ⟨rfl, rfl⟩
  go_wp2_with fail
  refine (idle47 gb w2 (HK2.out.cell 5 _ rfl)).mono ?_
  rintro e w' ⟨rfl, rfl⟩
  go_wp2_with fail
  refine (idle48 gb w2 (HK2.out.cell 6 _ rfl)).mono ?_
  rintro e w' ⟨rfl, rfl⟩
  go_wp2_with fail
  refine (idle49 gb w2 (HK2.out.cell 7 _ rfl)).mono ?_
  rintro e w' ⟨rfl, rfl⟩
  go_wp2_with fail
  refine (idle50 gb w2 (HK2.out.cell 8 _ rfl)).mono ?_
  rintro e w' ⟨rfl, rfl⟩
  go_wp2_with fail
  refine (idle51 gb w2 (HK2.out.cell 9 _ rfl)).mono ?_
  rintro e w' ⟨rfl, rfl⟩
  go_wp2_with fail
  refine (idle52 gb w2 (HK2.out.cell 10 _ rfl)).mono ?_
  rintro e w' ⟨rfl, rfl⟩
  go_wp2_with fail
  refine (idle53 gb w2 (HK2.out.cell 11 _ rfl)).mono ?_
  rintro e w' ⟨rfl, rfl⟩
  go_wp2_with fail
  refine (idle54 gb w2 (HK2.out.cell 12 _ rfl)).mono ?_
  rintro e w' ⟨rfl, rfl⟩
  go_wp2_with fail
  refine (idle55 gb w2 (HK2.out.cell 13 _ rfl)).mono ?_
  rintro e w' ⟨rfl, rfl⟩
  go_wp2_with fail
  refine (idle56 gb w2 (HK2.out.cell 14 _ rfl)).mono ?_
  rintro e w' ⟨rfl, rfl⟩
  go_wp2_with fail
  refine (idle57 gb w2 (HK2.out.cell 15 _ rfl)).mono ?_
  rintro e w' ⟨rfl, rfl⟩
  go_wp2_with fail
  refine (look_any base gb gv cv w1.heap.size its lg w2 hp hm HK2.out HF2.out HL2.out).mono ?_
  rintro e w3 ⟨rfl, hb3⟩
  have HK3 := hid (HK2.out.below hb3)
  have HB3 := hid (HB2.out.trans (hb3.mono (Nat.le_trans hbase HB2.out.size)))
  clear hb3 HK2 HF2 HL2 HB2
  go_wp2_with fail
  refine (idle59 gb w3 (HK3.out.cell 2 _ rfl)).mono ?_
  rintro e w' ⟨rfl, rfl⟩
  go_wp2_with fail
  refine (idle60 gb w3 (HK3.out.cell 3 _ rfl)).mono ?_
  rintro e w' ⟨rfl, rfl⟩
  go_wp2_with fail
  refine (idle61 gb w3 (HK3.out.cell 4 _ rfl)).mono ?_
  rintro e w' ⟨rfl, rfl⟩
  go_wp2_with fail
  refine (idle62 gb w3 (HK3.out.cell 5 _ rfl)).mono ?_
  rintro e w' ⟨rfl, rfl⟩
  go_wp2_with fail
  refine (idle63 gb w3 (HK3.out.cell 6 _ rfl)).mono ?_
  rintro e w' ⟨rfl, rfl⟩
  go_wp2_with fail
  refine (idle64 gb w3 (HK3.out.cell 7 _ rfl)).mono ?_
  rintro e w' ⟨rfl, rfl⟩
  go_wp2_with fail
  refine (idle65 gb w3 (HK3.out.cell 8 _ rfl)).mono ?_
  rintro e w' ⟨rfl, rfl⟩
  go_wp2_with fail
  refine (idle66 gb w3 (HK3.out.cell 9 _ rfl)).mono ?_
  rintro e w' ⟨rfl, rfl⟩
  go_wp2_with fail
  refine (idle67 gb w3 (HK3.out.cell 10 _ rfl)).mono ?_
  rintro e w' ⟨rfl, rfl⟩
  go_wp2_with fail
  refine (idle68 gb w3 (HK3.out.cell 11 _ rfl)).mono ?_
  rintro e w' ⟨rfl, rfl⟩
  go_wp2_with fail
  refine (idle69 gb w3 (HK3.out.cell 12 _ rfl)).mono ?_
  rintro e w' ⟨rfl, rfl⟩
  go_wp2_with fail
  refine (idle70 gb w3 (HK3.out.cell 13 _ rfl)).mono ?_
  rintro e w' ⟨rfl, rfl⟩
  go_wp2_with fail
  refine (idle71 gb w3 (HK3.out.cell 14 _ rfl)).mono ?_
  rintro e w' ⟨rfl, rfl⟩
  go_wp2_with fail
  refine (idle72 gb w3 (HK3.out.cell 15 _ rfl)).mono ?_
  rintro e w' ⟨rfl, rfl⟩
  go_wp2
  go_ret
  exact ⟨rfl, HB3.out⟩
end Go.Proofs.YtbccnkjfjlmflaaGreatDoor
