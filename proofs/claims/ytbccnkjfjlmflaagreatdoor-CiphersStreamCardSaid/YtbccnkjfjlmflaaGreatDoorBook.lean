/-
  The Book's keepByte, walked: one more list is held. Conditions: fewer than 2^20 lists.
-/
import Derived.Test.YtbccnkjfjlmflaaGreatDoorTwin
import Derived.Deep.RegionLaw
import Derived.Deep.RegionHeld3
namespace Go.Proofs.YtbccnkjfjlmflaaGreatDoor
open Go.RowKit
set_option linter.unusedVariables false

/-- a nil list -/
abbrev nl : Value := .slice none 0 0
/-- the cells of a Book that holds m lists of bytes, and no others -/
def bookCells (m : Int) (V : Value) : Array Value := #[.int .i64 m, V, nl, nl, nl, nl, nl, nl, nl, nl, nl, nl, nl, nl, nl, nl]

structure Bk (w : World) (base gb m : Nat) (V : Value) (xs : List Value) : Prop where
  blk : w.heap[gb]? = some (.cells (bookCells m V) 43 (0, 0))
  own : w.ownsRow base 67 3 V m xs

/-- w' is w with new blocks, and with writes to the Book and to its list of lists alone -/
structure Kp (gb : Nat) (V : Value) (w w' : World) : Prop where
  os : w'.os = w.os
  tape : w'.tape = w.tape
  output : w'.output = w.output
  size : w.heap.size ≤ w'.heap.size
  block : ∀ k, k < w.heap.size → k ≠ gb → some k ≠ V.ownBlock → w'.heap[k]? = w.heap[k]?

theorem Bk.cell {w : World} {base gb m : Nat} {V : Value} {xs : List Value} (h : Bk w base gb m V xs) (i : Nat) (v : Value) (hv : (bookCells m V)[i]? = some v) : w.cell? ⟨gb, i, none⟩ = some v := by
  rw [cell_of_row w gb i _ 43 (0, 0) h.blk, hv]
theorem Bk.frozen {w : World} {base gb m : Nat} {V : Value} {xs : List Value} (h : Bk w base gb m V xs) (i : Nat) : w.frozen? ⟨gb, i, none⟩ = false := by
  have := h.blk
  simp [World.frozen?, this]
theorem Bk.ne {w : World} {base gb m : Nat} {V : Value} {xs : List Value} (h : Bk w base gb m V xs) : V.ownBlock ≠ some gb := by
  rcases h.own.2 with ⟨rfl, _⟩ | ⟨g, cap, cur, rfl, _, hh, _⟩
  · simp [Value.ownBlock]
  · intro he
    have : g = gb := by simpa [Value.ownBlock] using he
    subst this
    rw [h.blk] at hh
    simp at hh

theorem held_info : (Tryz.prog.info? 67).map (fun i => (i.zero, i.size, i.bytes)) = some (some (.agg #[nl, nl, .int .i64 0]), 3, 56) := by kernel_rfl

theorem step_append70 {ops : Array Oper} {o : Oper} {a : Act} {w : World} {K : Act → World → Prop} {Q : Exit → Act → World → Prop} {E : Prop} (hgd : o.guard = none) (s x : Operand)
    (ho : o.op = .call { callee := .builtin .append, args := #[s, x], argTypes := #[27, 27] }) (hty : o.type = 27) (vs vx : Value) (hs : a.eval s = vs) (hx : a.eval x = vx) (v' : Value) (w' : World)
    (hrun : (Builtin.append_ #[27, 27] 27 #[vs, vx]).run Tryz.prog w = .ok v' w') (h : K (a.put o.dst v') w') :
    if Region.wanted o (yielded ops a.tmps) = true then Oper.wp Tryz.prog o a w K Q else E := by
  have hw : Region.wanted o (yielded ops a.tmps) = true := by simp [Region.wanted, hgd]
  rw [if_pos hw]
  unfold Oper.wp
  simp [execOp, ho, hty, resolve, invoke, builtin, hs, hx, hrun, Result.andThen]
  exact h

set_option maxRecDepth 100000 in
set_option maxHeartbeats 1600000 in
theorem keep_any (A : Option Addr) (n c base gb m : Nat) (V : Value) (xs : List Value) (w : World) (hk : Bk w base gb m V xs) (hm : m ≤ 1048576) (hbase : base ≤ w.heap.size) :
    Calls Tryz.prog 18 #[.pointer (some ⟨gb, 0, none⟩), .slice A n c] w fun e w' => e = .returned (.tuple #[]) ∧ ∃ V', Bk w' base gb (m + 1) V' (xs ++ [.slice A n c, nl, .int .i64 ((m + 1 : Nat) : Int)]) ∧ Kp gb V w w' := by
  have k0 : w.cell? ⟨gb, 0, none⟩ = some (.int .i64 (m : Int)) := hk.cell 0 _ rfl
  have f0 := hk.frozen 0
  have hlt : gb < w.heap.size := lt_of_block hk.blk
  have hB1 : (w.setCell ⟨gb, 0, none⟩ (.int .i64 ((m : Int) + 1))).heap[gb]? = some (.cells (bookCells ((m : Int) + 1) V) 43 (0, 0)) := by
    have := hk.blk
    simp [World.setCell, Array.getElem?_modify, this, bookCells]
  have hO1 : (w.setCell ⟨gb, 0, none⟩ (.int .i64 ((m : Int) + 1))).ownsRow base 67 3 V m xs := hk.own.kept (row := some gb) ⟨rfl, rfl, rfl, by simp, fun k _ hne => Below.heap_setCell w ⟨gb, 0, none⟩ _ k (fun e => hne (by rw [e]))⟩ (.inr hk.ne)
  have hK1 : Kp gb V w (w.setCell ⟨gb, 0, none⟩ (.int .i64 ((m : Int) + 1))) := ⟨rfl, rfl, rfl, by simp, fun k _ hne _ => Below.heap_setCell w ⟨gb, 0, none⟩ _ k hne⟩
  have HB1 := hid hB1
  have HO1 := hid hO1
  have HK1 := hid hK1
  have HNE := hid hk.ne
  clear hB1 hO1 hK1
  go_enter Tryz.func18, Tryz.ntmps18
  go_wp2_with fail
  clear k0 f0
  generalize w.setCell ⟨gb, 0, none⟩ (.int .i64 ((m : Int) + 1)) = w1 at *
  have hs1 : base ≤ w1.heap.size := Nat.le_trans hbase HK1.out.size
  have k0 : w1.cell? ⟨gb, 0, none⟩ = some (.int .i64 ((m : Int) + 1)) := by rw [cell_of_row w1 gb 0 _ 43 (0, 0) HB1.out]; rfl
  have k1 : w1.cell? ⟨gb, 1, none⟩ = some V := by rw [cell_of_row w1 gb 1 _ 43 (0, 0) HB1.out]; rfl
  obtain ⟨i0, hi, hz0, hz1, hz2⟩ := info_parts held_info
  obtain ⟨V', w2, hrun, hown, hgr, _, hat⟩ := run_append_own_at (P := Tryz.prog) (w1.drew.alloc (.cells #[.slice A n c, nl, .int .i64 ((m : Int) + 1)] 67)) base 27 27 67 i0 _ 3 56 Tryz.underlying27 hi hz0 hz1 hz2 rfl (by omega) V m xs (HO1.out.drew.alloc _) ⟨w1.heap.size, 0, none⟩ 1 1 [.slice A n c, nl, .int .i64 ((m : Int) + 1)] rfl
    (by
      intro j u hu
      rw [add_plain, Nat.zero_add]
      have hh := cell_of_row _ _ j _ 67 (0, 0) (heap_alloc_new w1.drew (.cells #[.slice A n c, nl, .int .i64 ((m : Int) + 1)] 67))
      have hh' : (w1.drew.alloc (.cells #[.slice A n c, nl, .int .i64 ((m : Int) + 1)] 67)).cell? ⟨w1.heap.size, j, none⟩ = _ := hh
      rw [hh']
      simpa using hu) (by intro u hu; simp at hu; rcases hu with rfl | rfl | rfl <;> rfl) (by simp only [maxLen]; omega) (by omega) (by simp; omega)
  obtain ⟨gv, cv, cur, rfl, hgb, hcur, hcv, _⟩ : ∃ g cap cur, V' = .slice (some ⟨g, 0, none⟩) (m + 1) cap ∧ base ≤ g ∧ w2.heap[g]? = some (.cells cur 67 (0, 0)) ∧ m + 1 ≤ cap ∧ True := by
    rcases hown.2 with ⟨_, h⟩ | ⟨g, cap, cur, h1, h2, h3, h4, _⟩
    · omega
    · exact ⟨g, cap, cur, h1, h2, h3, h4, trivial⟩
  have hb2 : w2.heap[gb]? = some (.cells (bookCells ((m : Int) + 1) V) 43 (0, 0)) := by
    have hl1 : gb < w1.heap.size := lt_of_block HB1.out
    rw [hgr.block gb (by simp; omega) (fun e => HNE.out e.symm)]
    exact (Below.heap_alloc w1.drew _ gb hl1).trans HB1.out
  have hne2 : gv ≠ gb := by
    rintro rfl
    rw [hb2] at hcur
    simp at hcur
  have HRN := hid hrun
  have HOW := hid hown
  have HGR := hid hgr
  have HB2 := hid hb2
  have HNE2 := hid hne2
  have f1 : w2.frozen? ⟨gb, 1, none⟩ = false := by simp [World.frozen?, hb2]
  have c1 : w2.cell? ⟨gb, 1, none⟩ = some V := by rw [cell_of_row w2 gb 1 _ 43 (0, 0) hb2]; rfl
  clear hrun hown hgr hat hi hz0 hz1 hz2 hcur hb2 hne2
  have hl1 : gb < w1.heap.size := lt_of_block HB1.out
  have k0a : (w1.alloc (.cells #[.slice A n c, .slice none 0 0, .int .i64 ((m : Int) + 1)] 67)).cell? ⟨gb, 0, none⟩ = some (.int .i64 ((m : Int) + 1)) := (World.cell?_alloc_lt w1 _ ⟨gb, 0, none⟩ hl1).trans k0
  have k1a : (w1.alloc (.cells #[.slice A n c, .slice none 0 0, .int .i64 ((m : Int) + 1)] 67)).cell? ⟨gb, 1, none⟩ = some V := (World.cell?_alloc_lt w1 _ ⟨gb, 1, none⟩ hl1).trans k1
  have HF := hid (p := ∃ V', Bk (w2.setCell ⟨gb, 1, none⟩ (.slice (some ⟨gv, 0, none⟩) (m + 1) cv)) base gb (m + 1) V' (xs ++ [.slice A n c, nl, .int .i64 ((m + 1 : Nat) : Int)]) ∧ Kp gb V w (w2.setCell ⟨gb, 1, none⟩ (.slice (some ⟨gv, 0, none⟩) (m + 1) cv))) (by
    refine ⟨.slice (some ⟨gv, 0, none⟩) (m + 1) cv, ⟨?_, ?_⟩, ?_⟩
    · have := HB2.out
      simp [World.setCell, Array.getElem?_modify, this, bookCells]
    · have := ownsRow_setCell_other HOW.out (a := ⟨gb, 1, none⟩) (fun e => HNE2.out (by simpa [Value.ownBlock] using e)) (.slice (some ⟨gv, 0, none⟩) (m + 1) cv)
      rw [Int.natCast_add]
      exact this
    · refine ⟨?_, ?_, ?_, ?_, fun k hk1 hk2 hk3 => ?_⟩
      · exact HGR.out.os.trans HK1.out.os
      · exact HGR.out.tape.trans HK1.out.tape
      · exact HGR.out.output.trans HK1.out.output
      · have h1 := HGR.out.size
        have h2 := HK1.out.size
        simp at h1 ⊢
        omega
      · rw [Below.heap_setCell w2 ⟨gb, 1, none⟩ _ k hk2, HGR.out.block k (by have := HK1.out.size; simp; omega) hk3]
        exact (Below.heap_alloc w1.drew _ k (Nat.lt_of_lt_of_le hk1 HK1.out.size)).trans (HK1.out.block k hk1 hk2 hk3))
  go_region_law (refine step_append70 (by rfl) (.tmp 15) (.tmp 22) (by rfl) (by rfl) _ _ (by rfl) (by rfl) _ w2 HRN.out ?_)
  all_goals go_wp2
  all_goals go_end0
  all_goals exact ⟨rfl, HF.out⟩
end Go.Proofs.YtbccnkjfjlmflaaGreatDoor
