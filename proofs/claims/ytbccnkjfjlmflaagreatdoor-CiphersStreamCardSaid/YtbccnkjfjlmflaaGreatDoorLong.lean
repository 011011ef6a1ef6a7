/-
  One more byte behind a list that is held: what becomes of the longer list, and of all lists. Conditions: no two lists share a block.
-/
import Derived.Test.YtbccnkjfjlmflaaGreatDoorFill
namespace Go.Proofs.YtbccnkjfjlmflaaGreatDoor
open Go.RowKit
set_option linter.unusedVariables false

/-- each list begins with its mark, as long as it is -/
def Fil (its : List It) (E : Nat → List UInt8) : Prop := ∀ (i g n c : Nat), its[i]? = some (It.mk (some g) n c) → (E i).take n = List.replicate n (mk i)

/-- w' is w with new blocks from S on, and with writes to block 'row' alone below S -/
structure Chg (S : Nat) (row : Option Nat) (w w' : World) : Prop where
  os : w'.os = w.os
  tape : w'.tape = w.tape
  output : w'.output = w.output
  size : w.heap.size ≤ w'.heap.size
  block : ∀ b, b < S → some b ≠ row → w'.heap[b]? = w.heap[b]?
theorem Chg.refl (S : Nat) (row : Option Nat) (w : World) : Chg S row w w := ⟨rfl, rfl, rfl, Nat.le_refl _, fun _ _ _ => rfl⟩
theorem Chg.trans {S : Nat} {row : Option Nat} {a b c : World} (h : Chg S row a b) (k : Chg S row b c) : Chg S row a c :=
  ⟨k.os.trans h.os, k.tape.trans h.tape, k.output.trans h.output, Nat.le_trans h.size k.size, fun i hi hr => (k.block i hi hr).trans (h.block i hi hr)⟩
theorem Chg.of_below {S : Nat} {row : Option Nat} {a b : World} (h : Below S a b) : Chg S row a b := ⟨h.os, h.tape, h.output, h.size, fun i hi _ => h.block i hi⟩

/-- the longer list behind j more bytes: in the list's own block, or in a block of its own -/
def LongSt (w : World) (base S : Nat) (its : List It) (k : Nat) (it : It) (v : Value) (j : Nat) : Prop :=
  ∃ E, Held w base its E ∧ Fil its E ∧
    ((∃ g n c, it = ⟨some g, n, c⟩ ∧ v = .slice (some ⟨g, 0, none⟩) (n + j) c ∧ n + j ≤ c ∧ (E k).take (n + j) = List.replicate (n + j) (mk k)) ∨
     Ow w S v (List.replicate (it.len + j) (mk k)))

theorem Held.grown {w w' : World} {base S : Nat} {its : List It} {D : Nat → List UInt8} {row : Option Nat} (h : Held w base its D) (hS : ∀ (i g n c : Nat), its[i]? = some (It.mk (some g) n c) → g < S) (hg : w.grownBy w' row) (hr : ∀ b, row = some b → S ≤ b) : Held w' base its D := by
  intro i g n c hi
  obtain ⟨h1, h2⟩ := h i g n c hi
  refine ⟨(hg.block g h1.lt (fun e => ?_)).trans h1, h2⟩
  have := hr g e.symm
  have := hS i g n c hi
  omega

theorem LongSt.alloc {w : World} {base S : Nat} {its : List It} {k : Nat} {it : It} {v : Value} {j : Nat} (h : LongSt w base S its k it v j) (o : Obj) : LongSt (w.alloc o) base S its k it v j := by
  obtain ⟨E, h1, h2, h3⟩ := h
  exact ⟨E, h1.alloc o, h2, h3.imp id fun h => World.ownsRow.alloc h o⟩

theorem ow_weaken {w : World} {b b' : Nat} {v : Value} {bs : List UInt8} (h : Ow w b v bs) (hb : b' ≤ b) : Ow w b' v bs := by
  refine ⟨h.1, ?_⟩
  rcases h.2 with h | ⟨g, cap, cur, h1, h2, h3⟩
  · exact .inl h
  · exact .inr ⟨g, cap, cur, h1, Nat.le_trans hb h2, h3⟩

set_option maxRecDepth 100000 in
theorem long_step (w : World) (base S : Nat) (its : List It) (k : Nat) (it : It) (v : Value) (j : Nat) (a : Addr) (hk : its[k]? = some it) (hs : Sep its) (hS : ∀ (i g n c : Nat), its[i]? = some (It.mk (some g) n c) → g < S) (hSw : S ≤ w.heap.size)
    (h : LongSt w base S its k it v j) (hr : Rd w (some a) [mk k]) (hn : it.len + j + 1 ≤ 140737488355328) :
    ∃ v' w', (Builtin.append_ #[23, 23] 23 #[v, .slice (some a) 1 1]).run Tryz.prog w = .ok v' w' ∧ LongSt w' base S its k it v' (j + 1) ∧ Chg S it.g w w' := by
  obtain ⟨E, hh, hf, h⟩ := h
  obtain ⟨i0, hi, hz0, hz1, hz2⟩ := info_parts u8_info
  rcases h with ⟨g, n, c, rfl, rfl, hc, ht⟩ | how
  · obtain ⟨h1, h2, h3, h4, h5⟩ := hh k g n c hk
    have hgS := hS k g n c hk
    rcases Nat.lt_or_ge (n + j) c with hlt | hge
    · obtain ⟨w', hrun, hrow, hgr⟩ := append_room w g (n + j) c 1 1 (E k) [mk k] (some a) h1 hr rfl (by omega) (by omega) (by omega)
      refine ⟨_, w', hrun, ⟨setD E k ((E k).take (n + j) ++ ([mk k] ++ (E k).drop (n + j + 1))), ?_, ?_, .inl ⟨g, n, c, rfl, by rw [Nat.add_assoc], by omega, ?_⟩⟩, ?_⟩
      · intro i g' n' c' hi'
        by_cases he : i = k
        · subst he
          rw [hk] at hi'
          obtain ⟨rfl, rfl, rfl⟩ : g = g' ∧ n = n' ∧ c = c' := by simpa using hi'
          rw [setD_at]
          refine ⟨hrow, ?_, h3, h4, h5⟩
          simp
          omega
        · obtain ⟨q1, q2⟩ := hh i g' n' c' hi'
          have hne : g' ≠ g := by
            rintro rfl
            exact he (hs i k _ _ _ _ _ hi' hk)
          simp only [setD, he, if_false]
          exact ⟨(hgr.block g' q1.lt (fun e => hne (by injection e))).trans q1, q2⟩
      · intro i g' n' c' hi'
        by_cases he : i = k
        · subst he
          rw [hk] at hi'
          obtain ⟨rfl, rfl, rfl⟩ : g = g' ∧ n = n' ∧ c = c' := by simpa using hi'
          rw [setD_at, List.take_append_of_le_length (by simp; omega), List.take_take, Nat.min_eq_left (by omega)]
          exact hf i g n c hk
        · simp only [setD, he, if_false]
          exact hf i g' n' c' hi'
      · rw [setD_at, ht, ← Nat.add_assoc]
        have e : (List.replicate (n + j) (mk k) ++ ([mk k] ++ (E k).drop (n + j + 1))) = List.replicate (n + j + 1) (mk k) ++ (E k).drop (n + j + 1) := by
          rw [← List.append_assoc, List.replicate_succ']
        rw [e, List.take_append_of_le_length (by simp), List.take_of_length_le (by simp)]
      · exact ⟨hgr.os, hgr.tape, hgr.output, hgr.size, fun b hb hne => hgr.block b (by omega) hne⟩
    · have hcn : n + j = c := by omega
      have hfull : E k = List.replicate (n + j) (mk k) := by
        rw [← ht]
        exact (List.take_of_length_le (by omega)).symm
      have hrow := h1
      rw [hfull] at hrow
      obtain ⟨ad, had, hcell⟩ := hr.cells (by simp)
      obtain rfl : a = ad := by injection had
      obtain ⟨ad2, had2, hcell2⟩ : ∃ ad, some (⟨g, 0, none⟩ : Addr) = some ad ∧ ∀ j' v, (bvs (List.replicate (n + j) (mk k)))[j']? = some v → w.cell? (ad.add j') = some v := by
        rcases Nat.eq_zero_or_pos (n + j) with h0 | h0
        · refine ⟨_, rfl, fun j' v hv => ?_⟩
          rw [h0] at hv
          simp [bvs] at hv
        · exact hrow.rd0.cells (by simp; omega)
      obtain rfl : (⟨g, 0, none⟩ : Addr) = ad2 := by injection had2
      obtain ⟨v', w', hrun, how', hgr⟩ := run_append_arg_grows (P := Tryz.prog) w 23 23 5 i0 (.int .u8 0) 1 1 Tryz.underlying23 hi hz0 hz1 hz2 rfl (by omega) ⟨g, 0, none⟩ (n + j) c (bvs (List.replicate (n + j) (mk k))) (by rw [bvs_length]; simp) hcell2 a 1 1 (bvs [mk k]) rfl hcell (by omega) (by simp only [maxLen]; simp only [It.len] at hn; omega) (by simp only [It.len] at hn; omega)
      have hown : Ow w' w.heap.size v' (List.replicate (n + (j + 1)) (mk k)) := by
        have e : List.replicate (n + (j + 1)) (mk k) = List.replicate (n + j) (mk k) ++ [mk k] := by rw [← Nat.add_assoc, List.replicate_succ']
        unfold Ow
        rw [e, bvs_append]
        simpa using how'
      refine ⟨v', w', hrun, ⟨E, hh.grown hS hgr (fun b hb => by cases hb), hf, .inr (ow_weaken hown hSw)⟩, ?_⟩
      exact ⟨hgr.os, hgr.tape, hgr.output, hgr.size, fun b hb _ => hgr.block b (by omega) (by simp)⟩
  · obtain ⟨v', w', hrun, how', hgr, _⟩ := append_bytes w S v (List.replicate (it.len + j) (mk k)) [mk k] (some a) 1 1 how hr rfl (fun h => by cases h) (by simp; omega) hSw
    have hrow : ∀ b, v.ownBlock = some b → S ≤ b := fun b hb => (World.ownsRow.lt how b hb).1
    refine ⟨v', w', hrun, ⟨E, hh.grown hS hgr hrow, hf, .inr ?_⟩, ?_⟩
    · have e : List.replicate (it.len + (j + 1)) (mk k) = List.replicate (it.len + j) (mk k) ++ [mk k] := by rw [← Nat.add_assoc, List.replicate_succ']
      rw [e]
      exact how'
    · refine ⟨hgr.os, hgr.tape, hgr.output, hgr.size, fun b hb _ => hgr.block b (by omega) (fun e => ?_)⟩
      have := hrow b e.symm
      omega
end Go.Proofs.YtbccnkjfjlmflaaGreatDoor
