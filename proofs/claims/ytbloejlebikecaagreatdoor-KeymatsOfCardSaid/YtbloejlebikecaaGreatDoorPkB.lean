/-
  The Book's keepByte, walked: one more list is held. Conditions: fewer than 2^20 lists.
  The Book's fillByte, walked: each list that is held is filled with its mark. Conditions: no two lists share a block; each lies at its block's head.
  One more byte behind a list that is held: what becomes of the longer list, and of all lists. Conditions: no two lists share a block.
  The Book's growByte, walked: behind each list forty more marks. Conditions: no two lists share a block.
  The Book's lookByte, walked: each list, and what was put behind it, still bears its mark. Conditions: as growByte leaves them.
  The Book's other fills, grows and looks, walked where no such list is held: nothing is done; a look says yes. Conditions: the list is nil.
  The Book's Apart, walked: it answers true where no two of the lists that are held share a block. Conditions: at least one list, and lists of bytes alone.
  What the laws carry from call to call: blocks of bytes that were made, and the Book with lists in it. Conditions: none.
-/
import Derived.Test.YtbloejlebikecaaGreatDoorTwin
import Derived.Deep.RegionLaw
import Derived.Deep.RegionHeld3
import Derived.Test.YtbloejlebikecaaGreatDoorPkA
import Derived.Deep.QuietTactic
import Derived.BigQuiet
namespace Go.Proofs.YtbloejlebikecaaGreatDoor
open Go.RowKit
set_option linter.unusedVariables false

/-- a nil list -/
abbrev nl : Value := .slice none 0 0
/-- the cells of a Book that holds m lists of bytes, and no others -/
def bookCells (m : Int) (V : Value) : Array Value := #[.int .i64 m, V, nl, nl, nl, nl, nl, nl, nl, nl, nl, nl, nl, nl, nl, nl]

structure Bk (w : World) (base gb m : Nat) (V : Value) (xs : List Value) : Prop where
  blk : w.heap[gb]? = some (.cells (bookCells m V) 56 (0, 0))
  own : w.ownsRow base 76 3 V m xs

/-- w' is w with new blocks, and with writes to the Book and to its list of lists alone -/
structure Kp (gb : Nat) (V : Value) (w w' : World) : Prop where
  os : w'.os = w.os
  tape : w'.tape = w.tape
  output : w'.output = w.output
  size : w.heap.size ≤ w'.heap.size
  block : ∀ k, k < w.heap.size → k ≠ gb → some k ≠ V.ownBlock → w'.heap[k]? = w.heap[k]?

theorem Bk.cell {w : World} {base gb m : Nat} {V : Value} {xs : List Value} (h : Bk w base gb m V xs) (i : Nat) (v : Value) (hv : (bookCells m V)[i]? = some v) : w.cell? ⟨gb, i, none⟩ = some v := by
  rw [cell_of_row w gb i _ 56 (0, 0) h.blk, hv]
theorem Bk.frozen {w : World} {base gb m : Nat} {V : Value} {xs : List Value} (h : Bk w base gb m V xs) (i : Nat) : w.frozen? ⟨gb, i, none⟩ = false := by
  have := h.blk
  simp [World.frozen?, this]
theorem Bk.ne {w : World} {base gb m : Nat} {V : Value} {xs : List Value} (h : Bk w base gb m V xs) : V.ownBlock ≠ some gb := by
  rcases h.own.2 with ⟨rfl, _⟩ | ⟨g, cap, cur, rfl, _, hh, _⟩
  · simp [Value.ownBlock]
  · intro he
    have : g = gb := by simpa [Value.ownBlock] using he
    subst this
    rw [h.blk] at hh
    simp at hh

theorem held_info : (Tryz.prog.info? 76).map (fun i => (i.zero, i.size, i.bytes)) = some (some (.agg #[nl, nl, .int .i64 0]), 3, 56) := by kernel_rfl

theorem step_append70 {ops : Array Oper} {o : Oper} {a : Act} {w : World} {K : Act → World → Prop} {Q : Exit → Act → World → Prop} {E : Prop} (hgd : o.guard = none) (s x : Operand)
    (ho : o.op = .call { callee := .builtin .append, args := #[s, x], argTypes := #[40, 40] }) (hty : o.type = 40) (vs vx : Value) (hs : a.eval s = vs) (hx : a.eval x = vx) (v' : Value) (w' : World)
    (hrun : (Builtin.append_ #[40, 40] 40 #[vs, vx]).run Tryz.prog w = .ok v' w') (h : K (a.put o.dst v') w') :
    if Region.wanted o (yielded ops a.tmps) = true then Oper.wp Tryz.prog o a w K Q else E := by
  have hw : Region.wanted o (yielded ops a.tmps) = true := by simp [Region.wanted, hgd]
  rw [if_pos hw]
  unfold Oper.wp
  simp [execOp, ho, hty, resolve, invoke, builtin, hs, hx, hrun, Result.andThen]
  exact h

set_option maxRecDepth 100000 in
set_option maxHeartbeats 1600000 in
theorem keep_any (A : Option Addr) (n c base gb m : Nat) (V : Value) (xs : List Value) (w : World) (hk : Bk w base gb m V xs) (hm : m ≤ 1048576) (hbase : base ≤ w.heap.size) :
    Calls Tryz.prog 18 #[.pointer (some ⟨gb, 0, none⟩), .slice A n c] w fun e w' => e = .returned (.tuple #[]) ∧ ∃ V', Bk w' base gb (m + 1) V' (xs ++ [.slice A n c, nl, .int .i64 ((m + 1 : Nat) : Int)]) ∧ Kp gb V w w' := by
  have k0 : w.cell? ⟨gb, 0, none⟩ = some (.int .i64 (m : Int)) := hk.cell 0 _ rfl
  have f0 := hk.frozen 0
  have hlt : gb < w.heap.size := lt_of_block hk.blk
  have hB1 : (w.setCell ⟨gb, 0, none⟩ (.int .i64 ((m : Int) + 1))).heap[gb]? = some (.cells (bookCells ((m : Int) + 1) V) 56 (0, 0)) := by
    have := hk.blk
    simp [World.setCell, Array.getElem?_modify, this, bookCells]
  have hO1 : (w.setCell ⟨gb, 0, none⟩ (.int .i64 ((m : Int) + 1))).ownsRow base 76 3 V m xs := hk.own.kept (row := some gb) ⟨rfl, rfl, rfl, by simp, fun k _ hne => Below.heap_setCell w ⟨gb, 0, none⟩ _ k (fun e => hne (by rw [e]))⟩ (.inr hk.ne)
  have hK1 : Kp gb V w (w.setCell ⟨gb, 0, none⟩ (.int .i64 ((m : Int) + 1))) := ⟨rfl, rfl, rfl, by simp, fun k _ hne _ => Below.heap_setCell w ⟨gb, 0, none⟩ _ k hne⟩
  have HB1 := hid hB1
  have HO1 := hid hO1
  have HK1 := hid hK1
  have HNE := hid hk.ne
  clear hB1 hO1 hK1
  go_enter Tryz.func18, Tryz.ntmps18
  go_wp2_with fail
  clear k0 f0
  generalize w.setCell ⟨gb, 0, none⟩ (.int .i64 ((m : Int) + 1)) = w1 at *
  have hs1 : base ≤ w1.heap.size := Nat.le_trans hbase HK1.out.size
  have k0 : w1.cell? ⟨gb, 0, none⟩ = some (.int .i64 ((m : Int) + 1)) := by rw [cell_of_row w1 gb 0 _ 56 (0, 0) HB1.out]; rfl
  have k1 : w1.cell? ⟨gb, 1, none⟩ = some V := by rw [cell_of_row w1 gb 1 _ 56 (0, 0) HB1.out]; rfl
  obtain ⟨i0, hi, hz0, hz1, hz2⟩ := info_parts held_info
  obtain ⟨V', w2, hrun, hown, hgr, _, hat⟩ := run_append_own_at (P := Tryz.prog) (w1.drew.alloc (.cells #[.slice A n c, nl, .int .i64 ((m : Int) + 1)] 76)) base 40 40 76 i0 _ 3 56 Tryz.underlying40 hi hz0 hz1 hz2 rfl (by omega) V m xs (HO1.out.drew.alloc _) ⟨w1.heap.size, 0, none⟩ 1 1 [.slice A n c, nl, .int .i64 ((m : Int) + 1)] rfl
    (by
      intro j u hu
      rw [add_plain, Nat.zero_add]
      have hh := cell_of_row _ _ j _ 76 (0, 0) (heap_alloc_new w1.drew (.cells #[.slice A n c, nl, .int .i64 ((m : Int) + 1)] 76))
      have hh' : (w1.drew.alloc (.cells #[.slice A n c, nl, .int .i64 ((m : Int) + 1)] 76)).cell? ⟨w1.heap.size, j, none⟩ = _ := hh
      rw [hh']
      simpa using hu) (by intro u hu; simp at hu; rcases hu with rfl | rfl | rfl <;> rfl) (by simp only [maxLen]; omega) (by omega) (by simp; omega)
  obtain ⟨gv, cv, cur, rfl, hgb, hcur, hcv, _⟩ : ∃ g cap cur, V' = .slice (some ⟨g, 0, none⟩) (m + 1) cap ∧ base ≤ g ∧ w2.heap[g]? = some (.cells cur 76 (0, 0)) ∧ m + 1 ≤ cap ∧ True := by
    rcases hown.2 with ⟨_, h⟩ | ⟨g, cap, cur, h1, h2, h3, h4, _⟩
    · omega
    · exact ⟨g, cap, cur, h1, h2, h3, h4, trivial⟩
  have hb2 : w2.heap[gb]? = some (.cells (bookCells ((m : Int) + 1) V) 56 (0, 0)) := by
    have hl1 : gb < w1.heap.size := lt_of_block HB1.out
    rw [hgr.block gb (by simp; omega) (fun e => HNE.out e.symm)]
    exact (Below.heap_alloc w1.drew _ gb hl1).trans HB1.out
  have hne2 : gv ≠ gb := by
    rintro rfl
    rw [hb2] at hcur
    simp at hcur
  have HRN := hid hrun
  have HOW := hid hown
  have HGR := hid hgr
  have HB2 := hid hb2
  have HNE2 := hid hne2
  have f1 : w2.frozen? ⟨gb, 1, none⟩ = false := by simp [World.frozen?, hb2]
  have c1 : w2.cell? ⟨gb, 1, none⟩ = some V := by rw [cell_of_row w2 gb 1 _ 56 (0, 0) hb2]; rfl
  clear hrun hown hgr hat hi hz0 hz1 hz2 hcur hb2 hne2
  have hl1 : gb < w1.heap.size := lt_of_block HB1.out
  have k0a : (w1.alloc (.cells #[.slice A n c, .slice none 0 0, .int .i64 ((m : Int) + 1)] 76)).cell? ⟨gb, 0, none⟩ = some (.int .i64 ((m : Int) + 1)) := (World.cell?_alloc_lt w1 _ ⟨gb, 0, none⟩ hl1).trans k0
  have k1a : (w1.alloc (.cells #[.slice A n c, .slice none 0 0, .int .i64 ((m : Int) + 1)] 76)).cell? ⟨gb, 1, none⟩ = some V := (World.cell?_alloc_lt w1 _ ⟨gb, 1, none⟩ hl1).trans k1
  have HF := hid (p := ∃ V', Bk (w2.setCell ⟨gb, 1, none⟩ (.slice (some ⟨gv, 0, none⟩) (m + 1) cv)) base gb (m + 1) V' (xs ++ [.slice A n c, nl, .int .i64 ((m + 1 : Nat) : Int)]) ∧ Kp gb V w (w2.setCell ⟨gb, 1, none⟩ (.slice (some ⟨gv, 0, none⟩) (m + 1) cv))) (by
    refine ⟨.slice (some ⟨gv, 0, none⟩) (m + 1) cv, ⟨?_, ?_⟩, ?_⟩
    · have := HB2.out
      simp [World.setCell, Array.getElem?_modify, this, bookCells]
    · have := ownsRow_setCell_other HOW.out (a := ⟨gb, 1, none⟩) (fun e => HNE2.out (by simpa [Value.ownBlock] using e)) (.slice (some ⟨gv, 0, none⟩) (m + 1) cv)
      rw [Int.natCast_add]
      exact this
    · refine ⟨?_, ?_, ?_, ?_, fun k hk1 hk2 hk3 => ?_⟩
      · exact HGR.out.os.trans HK1.out.os
      · exact HGR.out.tape.trans HK1.out.tape
      · exact HGR.out.output.trans HK1.out.output
      · have h1 := HGR.out.size
        have h2 := HK1.out.size
        simp at h1 ⊢
        omega
      · rw [Below.heap_setCell w2 ⟨gb, 1, none⟩ _ k hk2, HGR.out.block k (by have := HK1.out.size; simp; omega) hk3]
        exact (Below.heap_alloc w1.drew _ k (Nat.lt_of_lt_of_le hk1 HK1.out.size)).trans (HK1.out.block k hk1 hk2 hk3))
  go_region_law (refine step_append70 (by rfl) (.tmp 15) (.tmp 22) (by rfl) (by rfl) _ _ (by rfl) (by rfl) _ w2 HRN.out ?_)
  all_goals go_wp2
  all_goals go_end0
  all_goals exact ⟨rfl, HF.out⟩
end Go.Proofs.YtbloejlebikecaaGreatDoor
namespace Go.Proofs.YtbloejlebikecaaGreatDoor
open Go.RowKit
set_option linter.unusedVariables false

/-- a list that is held: its block (none: nil), how long, what room -/
structure It where
  g : Option Nat
  n : Nat
  c : Nat

def It.val : It → Value
  | ⟨some g, n, c⟩ => .slice (some ⟨g, 0, none⟩) n c
  | ⟨none, _, _⟩ => .slice none 0 0
def It.len : It → Nat
  | ⟨some _, n, _⟩ => n
  | ⟨none, _, _⟩ => 0

/-- the cells of the list of lists -/
def flatk (its : List It) (lg : Nat → Option Addr × Nat × Nat) : List Value := (List.range its.length).flatMap fun i => [(its.getD i ⟨none, 0, 0⟩).val, .slice (lg i).1 (lg i).2.1 (lg i).2.2, .int .i64 ((i + 1 : Nat) : Int)]

/-- what the lists' blocks hold -/
def Held (w : World) (base : Nat) (its : List It) (D : Nat → List UInt8) : Prop :=
  ∀ i g n c, its[i]? = some ⟨some g, n, c⟩ → Row w g (D i) ∧ (D i).length = c ∧ n ≤ c ∧ base ≤ g ∧ c ≤ 70368744177664
/-- no two lists share a block -/
def Sep (its : List It) : Prop := ∀ (i j g n c n' c' : Nat), its[i]? = some (It.mk (some g) n c) → its[j]? = some (It.mk (some g) n' c') → i = j

def mk (i : Nat) : UInt8 := UInt8.ofNat (i + 1)
def setD (D : Nat → List UInt8) (k : Nat) (x : List UInt8) : Nat → List UInt8 := fun i => if i = k then x else D i
theorem setD_at (D : Nat → List UInt8) (k : Nat) (x : List UInt8) : setD D k x k = x := by simp [setD]
theorem setD_setD (D : Nat → List UInt8) (k : Nat) (x y : List UInt8) : setD (setD D k x) k y = setD D k y := by funext i; simp only [setD]; split <;> rfl

theorem Held.below {w w' : World} {base : Nat} {its : List It} {D : Nat → List UInt8} (h : Held w base its D) (hb : Below w.heap.size w w') : Held w' base its D := fun i g n c hi =>
  let ⟨h1, h2⟩ := h i g n c hi
  ⟨h1.below hb h1.lt, h2⟩
theorem Held.alloc {w : World} {base : Nat} {its : List It} {D : Nat → List UInt8} (h : Held w base its D) (o : Obj) : Held (w.alloc o) base its D := h.below ((Below.refl _ _).alloc (Nat.le_refl _) o)
theorem Held.set {w : World} {base : Nat} {its : List It} {D : Nat → List UInt8} (h : Held w base its D) (hs : Sep its) (k g n c j : Nat) (hk : its[k]? = some ⟨some g, n, c⟩) (b : UInt8) :
    Held (w.setCell ⟨g, j, none⟩ (.int .u8 ((b.toNat : Nat) : Int))) base its (setD D k ((D k).set j b)) := by
  intro i g' n' c' hi
  obtain ⟨h1, h2, h3, h4, h5⟩ := h i g' n' c' hi
  by_cases he : i = k
  · subst he
    rw [hk] at hi
    obtain ⟨rfl, rfl, rfl⟩ : g = g' ∧ n = n' ∧ c = c' := by simpa using hi
    rw [setD_at]
    exact ⟨h1.set j b, by rw [List.length_set]; exact h2, h3, h4, h5⟩
  · have hne : g' ≠ g := by
      rintro rfl
      exact he (hs i k _ _ _ _ _ hi hk)
    refine ⟨?_, ?_, h3, h4, h5⟩
    · simp only [setD, he, if_false]
      exact (Below.heap_setCell w ⟨g, j, none⟩ _ g' hne).trans h1
    · simp only [setD, he, if_false]
      exact h2
theorem Held.congr {w : World} {base : Nat} {its : List It} {D E : Nat → List UInt8} (h : Held w base its D) (he : ∀ i g n c, its[i]? = some ⟨some g, n, c⟩ → D i = E i) : Held w base its E := fun i g n c hi => by
  have := h i g n c hi
  rw [he i g n c hi] at this
  exact this

theorem Bk.below {w w' : World} {base gb m : Nat} {V : Value} {xs : List Value} (h : Bk w base gb m V xs) (hb : Below w.heap.size w w') : Bk w' base gb m V xs :=
  ⟨(hb.block gb (lt_of_block h.blk)).trans h.blk, by
    refine ⟨h.own.1, ?_⟩
    rcases h.own.2 with h' | ⟨g, cap, cur, h1, h2, h3, r⟩
    · exact .inl h'
    · exact .inr ⟨g, cap, cur, h1, h2, (hb.block g (lt_of_block h3)).trans h3, r⟩⟩
theorem Bk.alloc {w : World} {base gb m : Nat} {V : Value} {xs : List Value} (h : Bk w base gb m V xs) (o : Obj) : Bk (w.alloc o) base gb m V xs := h.below ((Below.refl _ _).alloc (Nat.le_refl _) o)
/-- a store into a block of bytes leaves the Book alone -/
theorem Bk.set {w : World} {base gb m : Nat} {V : Value} {xs : List Value} (h : Bk w base gb m V xs) {g : Nat} {bs : List UInt8} (hr : Row w g bs) (j : Nat) (u : Value) : Bk (w.setCell ⟨g, j, none⟩ u) base gb m V xs := by
  refine ⟨?_, ownsRow_setCell_other h.own (fun e => ?_) u⟩
  · rw [Below.heap_setCell w ⟨g, j, none⟩ u gb (by
      rintro rfl
      have h1 := h.blk
      have h2 : w.heap[gb]? = some (.cells (bvs bs).toArray 5 (0, 0)) := hr
      rw [h2] at h1
      simp at h1)]
    exact h.blk
  · rcases h.own.2 with ⟨rfl, _⟩ | ⟨g', cap, cur, rfl, _, h3, _⟩
    · simp [Value.ownBlock] at e
    · obtain rfl : g' = g := by simpa [Value.ownBlock] using e
      have h2 : w.heap[g']? = some (.cells (bvs bs).toArray 5 (0, 0)) := hr
      rw [h2] at h3
      simp at h3

theorem sum3 (n : Nat) : (List.map (fun _ => 3) (List.range n)).sum = n * 3 := by
  induction n with
  | zero => rfl
  | succ n ih => rw [List.range_succ, List.map_append, List.sum_append, ih]; simp; omega

theorem flatk_length (its : List It) (lg : Nat → Option Addr × Nat × Nat) : (flatk its lg).length = its.length * 3 := by
  simp [flatk, List.length_flatMap, sum3]

theorem flat_get (its : List It) (lg : Nat → Option Addr × Nat × Nat) (i : Nat) (hi : i < its.length) :
    (flatk its lg)[i * 3]? = some (its.getD i ⟨none, 0, 0⟩).val ∧ (flatk its lg)[i * 3 + 1]? = some (.slice (lg i).1 (lg i).2.1 (lg i).2.2) ∧ (flatk its lg)[i * 3 + 2]? = some (.int .i64 ((i + 1 : Nat) : Int)) := by
  have key : ∀ (n : Nat) (f : Nat → List Value), (∀ j, (f j).length = 3) → ∀ i < n, ∀ r < 3, ((List.range n).flatMap f)[i * 3 + r]? = (f i)[r]? := by
    intro n f hf
    induction n with
    | zero => intro i hi; omega
    | succ n ih =>
      intro i hi r hr
      rw [List.range_succ, List.flatMap_append]
      have hl : ((List.range n).flatMap f).length = n * 3 := by simp [List.length_flatMap, hf, sum3]
      by_cases h : i < n
      · rw [List.getElem?_append_left (by rw [hl]; omega)]
        exact ih i h r hr
      · obtain rfl : i = n := by omega
        rw [List.getElem?_append_right (by rw [hl]; omega), hl]
        simp
  have k := key its.length (fun i => [(its.getD i ⟨none, 0, 0⟩).val, .slice (lg i).1 (lg i).2.1 (lg i).2.2, .int .i64 ((i + 1 : Nat) : Int)]) (fun _ => rfl) i hi
  exact ⟨by simpa [flatk] using k 0 (by omega), by simpa [flatk] using k 1 (by omega), by simpa [flatk] using k 2 (by omega)⟩

/-- the list of lists, once it is not empty -/
theorem Bk.form {w : World} {base gb m : Nat} {V : Value} {xs : List Value} (h : Bk w base gb m V xs) (hm : 0 < m) : ∃ gv cv, V = .slice (some ⟨gv, 0, none⟩) m cv ∧ base ≤ gv ∧ gv < w.heap.size ∧ (∀ j, j < m * 3 → w.cell? ⟨gv, j, none⟩ = xs[j]?) := by
  rcases h.own.2 with ⟨_, h0⟩ | ⟨g, cap, cur, rfl, hb, hh, _⟩
  · omega
  · exact ⟨g, cap, rfl, hb, lt_of_block hh, fun j hj => World.ownsRow.cellAt h.own j hj⟩

theorem ret_u8 {k : IntKind} {a b : Int} (h : a = b) : Ending.returned (.int k a) = .returned (.int k b) := by rw [h]

theorem mark_any (i : Nat) (ii : Int) (w : World) (hi : i ≤ 1048576) (hii : ii = ((i + 1 : Nat) : Int)) : Calls Tryz.prog 72 #[.int .i64 ii] w fun e w' => e = .returned (.int .u8 (((mk i).toNat : Nat) : Int)) ∧ w = w' := by
  subst hii
  have HB := hid (p := (((i + 1 : Nat) : Int) % 256) = (((mk i).toNat : Nat) : Int)) (by simp only [mk, UInt8.toNat_ofNat']; omega)
  go_enter Tryz.func72, Tryz.ntmps72
  go_wp2
  go_ret
  exact ⟨ret_u8 (by have := HB.out; omega), rfl⟩

/-- the lists behind k of them were filled -/
def filled (its : List It) (D : Nat → List UInt8) (k : Nat) : Nat → List UInt8 := fun i =>
  if i < k then List.replicate (its.getD i ⟨none, 0, 0⟩).len (mk i) ++ (D i).drop (its.getD i ⟨none, 0, 0⟩).len else D i

set_option maxRecDepth 100000 in
set_option maxHeartbeats 3200000 in
theorem fill_any (base gb gv cv : Nat) (its : List It) (lg : Nat → Option Addr × Nat × Nat) (D : Nat → List UInt8) (w : World) (hp : 0 < its.length) (hm : its.length ≤ 1048576)
    (hk : Bk w base gb its.length (.slice (some ⟨gv, 0, none⟩) its.length cv) (flatk its lg)) (hh : Held w base its D) (hs : Sep its) (hbase : base ≤ w.heap.size) :
    Calls Tryz.prog 19 #[.pointer (some ⟨gb, 0, none⟩)] w fun e w' => e = .returned (.tuple #[]) ∧ Bk w' base gb its.length (.slice (some ⟨gv, 0, none⟩) its.length cv) (flatk its lg) ∧ Held w' base its (filled its D its.length) ∧ Below base w w' := by
  obtain ⟨m, hmm⟩ : ∃ m, its.length = m := ⟨_, rfl⟩
  rw [hmm] at hk hp hm ⊢
  have HM := hid hmm
  clear hmm
  have HK0 := hid hk
  have HH0 := hid (p := Held w base its (filled its D 0)) (hh.congr (fun i g n c _ => by simp [filled]))
  go_enter Tryz.func19, Tryz.ntmps19
  go_wp2
  go_loopw [2] (fun i wr => ∃ k : Nat, k ≤ m ∧ i = .int .i64 k ∧ Hid (Bk wr base gb m (.slice (some ⟨gv, 0, none⟩) m cv) (flatk its lg)) ∧ Hid (Held wr base its (filled its D k)) ∧ Hid (Below base w wr)) (fun i _ => m - (intOf i).toNat)
  case atStart => exact ⟨0, Nat.zero_le _, rfl, HK0.out, HH0.out, Below.refl _ _⟩
  case round =>
    obtain ⟨k, hkm, rfl, HK, HH, HB⟩ := hrel
    clear HK0 HH0 hk hh
    have c1 : wr.cell? ⟨gb, 1, none⟩ = some (.slice (some ⟨gv, 0, none⟩) m cv) := HK.out.cell 1 _ rfl
    by_cases hlt : k < m
    · obtain ⟨gv', cv', hV, hbv, hgv, hcell⟩ := HK.out.form hp
      have hVe : gv' = gv := by injection hV with h1 h2 h3; injection h1 with h1; injection h1 with h1; exact h1.symm
      rw [hVe] at hcell hgv hbv
      clear hV hVe
      obtain ⟨t0, t1, t2⟩ := flat_get its lg k (by rw [HM.out]; exact hlt)
      have v0 := (hcell (k * 3) (by omega)).trans t0
      have v1 := (hcell (k * 3 + 1) (by omega)).trans t1
      have v2 := (hcell (k * 3 + 2) (by omega)).trans t2
      clear hcell t0 t1 t2
      obtain ⟨it, hit⟩ : ∃ it, its[k]? = some it := ⟨_, List.getElem?_eq_getElem (by rw [HM.out]; exact hlt)⟩
      have hget : its.getD k ⟨none, 0, 0⟩ = it := by simp [List.getD, hit]
      rw [hget] at v0
      have HIT := hid hit
      have HGET := hid hget
      clear hit hget
      obtain ⟨_ | g, n, c⟩ := it
      · have v0' : wr.cell? ⟨gv, k * 3, none⟩ = some (.slice none 0 0) := v0
        clear v0
        go_wp2
        refine wp_loop_rounds 1 ?_
        rw [rounds_succ]
        go_wp2
        go_roundw
        case rel =>
          refine ⟨k + 1, by omega, by go_num, HK.out.alloc _, (HH.out.alloc _).congr ?_, HB.out.alloc (Nat.le_trans hbase HB.out.size) _⟩
          intro i g n c hi
          simp only [filled]
          by_cases h1 : i < k
          · rw [if_pos h1, if_pos (by omega)]
          · rw [if_neg h1, if_neg]
            intro h2
            obtain rfl : i = k := by omega
            rw [HIT.out] at hi
            simp at hi
        case measure => simp [intOf]; omega
      · have v0' : wr.cell? ⟨gv, k * 3, none⟩ = some (.slice (some ⟨g, 0, none⟩) n c) := v0
        clear v0
        go_wp2
        clear v0' v1 v2 c1
        have HK1 := hid (HK.out.alloc (.cells #[.slice (some ⟨g, 0, none⟩) n c, .slice (lg k).1 (lg k).2.1 (lg k).2.2, .int .i64 ((k : Int) + 1)] 76))
        have HH1 := hid (p := Held (wr.alloc (.cells #[.slice (some ⟨g, 0, none⟩) n c, .slice (lg k).1 (lg k).2.1 (lg k).2.2, .int .i64 ((k : Int) + 1)] 76)) base its (setD (filled its D k) k (List.replicate 0 (mk k) ++ (D k).drop 0))) ((HH.out.alloc _).congr (fun i g n c _ => by
          simp only [setD]
          by_cases h : i = k
          · subst h; simp [filled]
          · simp [h]))
        have HX1 := hid (heap_alloc_new wr (.cells #[.slice (some ⟨g, 0, none⟩) n c, .slice (lg k).1 (lg k).2.1 (lg k).2.2, .int .i64 ((k : Int) + 1)] 76))
        have HB1 := hid (HB.out.alloc (Nat.le_trans hbase HB.out.size) (.cells #[.slice (some ⟨g, 0, none⟩) n c, .slice (lg k).1 (lg k).2.1 (lg k).2.2, .int .i64 ((k : Int) + 1)] 76))
        generalize wr.alloc (.cells #[.slice (some ⟨g, 0, none⟩) n c, .slice (lg k).1 (lg k).2.1 (lg k).2.2, .int .i64 ((k : Int) + 1)] 76) = w1 at *
        generalize wr.heap.size = gh at *
        clear HK HH HB
        go_loopw [4] (fun i wi => ∃ j : Nat, j ≤ n ∧ i = .int .i64 j ∧ Hid (Bk wi base gb m (.slice (some ⟨gv, 0, none⟩) m cv) (flatk its lg)) ∧ Hid (Held wi base its (setD (filled its D k) k (List.replicate j (mk k) ++ (D k).drop j))) ∧ Hid (wi.heap[gh]? = some (.cells #[.slice (some ⟨g, 0, none⟩) n c, .slice (lg k).1 (lg k).2.1 (lg k).2.2, .int .i64 ((k : Int) + 1)] 76 (0, 0))) ∧ Hid (Below base w wi)) (fun i _ => n - (intOf i).toNat)
        case atStart => exact ⟨0, Nat.zero_le _, rfl, HK1.out, HH1.out, HX1.out, HB1.out⟩
        case round =>
          obtain ⟨j, hjn, rfl, HKi, HHi, HXi, HBi⟩ := hrel
          clear HK1 HH1 HX1 HB1
          have b0 : wr.cell? ⟨gh, 0, none⟩ = some (.slice (some ⟨g, 0, none⟩) n c) := by rw [cell_of_row _ _ _ _ 76 (0, 0) HXi.out]; rfl
          have b2 : wr.cell? ⟨gh, 2, none⟩ = some (.int .i64 ((k : Int) + 1)) := by rw [cell_of_row _ _ _ _ 76 (0, 0) HXi.out]; rfl
          obtain ⟨hrow, hlen, hnc, hbg, hcc⟩ := HHi.out k g n c HIT.out
          have HROW := hid hrow
          have HLEN := hid hlen
          clear hrow hlen
          by_cases hjlt : j < n
          · have hjl : j < (setD (filled its D k) k (List.replicate j (mk k) ++ (D k).drop j) k).length := by rw [HLEN.out]; omega
            have x0 := HROW.out.cell j hjl
            have x1 := HROW.out.frozen j
            have HH2 := hid (HHi.out.set hs k g n c j HIT.out (mk k))
            have HK2 := hid (HKi.out.set HROW.out j (.int .u8 (((mk k).toNat : Nat) : Int)))
            have HX2 := hid ((Below.heap_setCell wr ⟨g, j, none⟩ (.int .u8 (((mk k).toNat : Nat) : Int)) gh (by
              rintro rfl
              have h1 := HXi.out
              have h2 : wr.heap[gh]? = some (.cells (bvs _).toArray 5 (0, 0)) := HROW.out
              rw [h2] at h1
              simp at h1)).trans HXi.out)
            have HB2 := hid (HBi.out.setCell (p := ⟨g, j, none⟩) hbg (.int .u8 (((mk k).toNat : Nat) : Int)))
            generalize (setD (filled its D k) k (List.replicate j (mk k) ++ (D k).drop j) k)[j].toNat = y at x0
            clear hjl
            go_wp2_with fail
            have b0' : (wr.setCell ⟨g, j, none⟩ (.int .u8 (((mk k).toNat : Nat) : Int))).cell? ⟨gh, 0, none⟩ = some (.slice (some ⟨g, 0, none⟩) n c) := by rw [cell_of_row _ _ _ _ 76 (0, 0) HX2.out]; rfl
            have b2' : (wr.setCell ⟨g, j, none⟩ (.int .u8 (((mk k).toNat : Nat) : Int))).cell? ⟨gh, 2, none⟩ = some (.int .i64 ((k : Int) + 1)) := by rw [cell_of_row _ _ _ _ 76 (0, 0) HX2.out]; rfl
            go_region_held3 (fun w' => w'.cell? ⟨gh, 0, none⟩ = some (.slice (some ⟨g, 0, none⟩) n c) ∧ w'.cell? ⟨gh, 2, none⟩ = some (.int .i64 ((k : Int) + 1)))
              (first | exact ⟨b0, b2⟩ | exact ⟨b0', b2'⟩ | go_keep)
              (first | (go_at_call 72; refine (mark_any k _ _ (by omega) (by omega)).mono ?_; rintro e w' ⟨rfl, rfl⟩))
            clear b0 b2 b0' b2' x0 x1
            go_wp2
            go_roundw
            case rel =>
              refine ⟨j + 1, by omega, by go_num, hid ⟨HK2.out.blk, HK2.out.own⟩, ?_, HX2.out, HB2.out.drew⟩
              have := HH2.out
              rw [setD_setD, setD_at] at this
              have e : (List.replicate j (mk k) ++ (D k).drop j).set j (mk k) = List.replicate (j + 1) (mk k) ++ (D k).drop (j + 1) := by
                have hl : j < (D k).length := by
                  have h1 := HLEN.out
                  rw [setD_at, List.length_append, List.length_replicate, List.length_drop] at h1
                  omega
                rw [List.set_append, if_neg (by simp), List.length_replicate, Nat.sub_self, List.drop_eq_getElem_cons hl, List.set_cons_zero, List.replicate_succ', List.append_assoc]
                rfl
              rw [e] at this
              exact this
            case measure => simp [intOf]; omega
          · obtain rfl : j = n := by omega
            go_wp2
            go_roundw
            case rel =>
              refine ⟨k + 1, by omega, by go_num, HKi.out, HHi.out.congr ?_, HBi.out⟩
              intro i g' n' c' hi
              simp only [setD, filled]
              by_cases h1 : i = k
              · subst h1
                rw [if_pos rfl, if_pos (by omega), HGET.out]
                rfl
              · rw [if_neg h1]
                by_cases h2 : i < k
                · rw [if_pos h2, if_pos (by omega)]
                · rw [if_neg h2, if_neg (by omega)]
            case measure => simp [intOf]; omega
    · go_wp2
      go_end0
      obtain rfl : k = m := by omega
      exact ⟨rfl, HK.out, HH.out, HB.out⟩
end Go.Proofs.YtbloejlebikecaaGreatDoor
namespace Go.Proofs.YtbloejlebikecaaGreatDoor
open Go.RowKit
set_option linter.unusedVariables false

/-- each list begins with its mark, as long as it is -/
def Fil (its : List It) (E : Nat → List UInt8) : Prop := ∀ (i g n c : Nat), its[i]? = some (It.mk (some g) n c) → (E i).take n = List.replicate n (mk i)

/-- w' is w with new blocks from S on, and with writes to block 'row' alone below S -/
structure Chg (S : Nat) (row : Option Nat) (w w' : World) : Prop where
  os : w'.os = w.os
  tape : w'.tape = w.tape
  output : w'.output = w.output
  size : w.heap.size ≤ w'.heap.size
  block : ∀ b, b < S → some b ≠ row → w'.heap[b]? = w.heap[b]?
theorem Chg.refl (S : Nat) (row : Option Nat) (w : World) : Chg S row w w := ⟨rfl, rfl, rfl, Nat.le_refl _, fun _ _ _ => rfl⟩
theorem Chg.trans {S : Nat} {row : Option Nat} {a b c : World} (h : Chg S row a b) (k : Chg S row b c) : Chg S row a c :=
  ⟨k.os.trans h.os, k.tape.trans h.tape, k.output.trans h.output, Nat.le_trans h.size k.size, fun i hi hr => (k.block i hi hr).trans (h.block i hi hr)⟩
theorem Chg.of_below {S : Nat} {row : Option Nat} {a b : World} (h : Below S a b) : Chg S row a b := ⟨h.os, h.tape, h.output, h.size, fun i hi _ => h.block i hi⟩

/-- the longer list behind j more bytes: in the list's own block, or in a block of its own -/
def LongSt (w : World) (base S : Nat) (its : List It) (k : Nat) (it : It) (v : Value) (j : Nat) : Prop :=
  ∃ E, Held w base its E ∧ Fil its E ∧
    ((∃ g n c, it = ⟨some g, n, c⟩ ∧ v = .slice (some ⟨g, 0, none⟩) (n + j) c ∧ n + j ≤ c ∧ (E k).take (n + j) = List.replicate (n + j) (mk k)) ∨
     Ow w S v (List.replicate (it.len + j) (mk k)))

theorem Held.grown {w w' : World} {base S : Nat} {its : List It} {D : Nat → List UInt8} {row : Option Nat} (h : Held w base its D) (hS : ∀ (i g n c : Nat), its[i]? = some (It.mk (some g) n c) → g < S) (hg : w.grownBy w' row) (hr : ∀ b, row = some b → S ≤ b) : Held w' base its D := by
  intro i g n c hi
  obtain ⟨h1, h2⟩ := h i g n c hi
  refine ⟨(hg.block g h1.lt (fun e => ?_)).trans h1, h2⟩
  have := hr g e.symm
  have := hS i g n c hi
  omega

theorem LongSt.alloc {w : World} {base S : Nat} {its : List It} {k : Nat} {it : It} {v : Value} {j : Nat} (h : LongSt w base S its k it v j) (o : Obj) : LongSt (w.alloc o) base S its k it v j := by
  obtain ⟨E, h1, h2, h3⟩ := h
  exact ⟨E, h1.alloc o, h2, h3.imp id fun h => World.ownsRow.alloc h o⟩

theorem ow_weaken {w : World} {b b' : Nat} {v : Value} {bs : List UInt8} (h : Ow w b v bs) (hb : b' ≤ b) : Ow w b' v bs := by
  refine ⟨h.1, ?_⟩
  rcases h.2 with h | ⟨g, cap, cur, h1, h2, h3⟩
  · exact .inl h
  · exact .inr ⟨g, cap, cur, h1, Nat.le_trans hb h2, h3⟩

set_option maxRecDepth 100000 in
theorem long_step (w : World) (base S : Nat) (its : List It) (k : Nat) (it : It) (v : Value) (j : Nat) (a : Addr) (hk : its[k]? = some it) (hs : Sep its) (hS : ∀ (i g n c : Nat), its[i]? = some (It.mk (some g) n c) → g < S) (hSw : S ≤ w.heap.size)
    (h : LongSt w base S its k it v j) (hr : Rd w (some a) [mk k]) (hn : it.len + j + 1 ≤ 140737488355328) :
    ∃ v' w', (Builtin.append_ #[27, 27] 27 #[v, .slice (some a) 1 1]).run Tryz.prog w = .ok v' w' ∧ LongSt w' base S its k it v' (j + 1) ∧ Chg S it.g w w' := by
  obtain ⟨E, hh, hf, h⟩ := h
  obtain ⟨i0, hi, hz0, hz1, hz2⟩ := info_parts u8_info
  rcases h with ⟨g, n, c, rfl, rfl, hc, ht⟩ | how
  · obtain ⟨h1, h2, h3, h4, h5⟩ := hh k g n c hk
    have hgS := hS k g n c hk
    rcases Nat.lt_or_ge (n + j) c with hlt | hge
    · obtain ⟨w', hrun, hrow, hgr⟩ := append_room w g (n + j) c 1 1 (E k) [mk k] (some a) h1 hr rfl (by omega) (by omega) (by omega)
      refine ⟨_, w', hrun, ⟨setD E k ((E k).take (n + j) ++ ([mk k] ++ (E k).drop (n + j + 1))), ?_, ?_, .inl ⟨g, n, c, rfl, by rw [Nat.add_assoc], by omega, ?_⟩⟩, ?_⟩
      · intro i g' n' c' hi'
        by_cases he : i = k
        · subst he
          rw [hk] at hi'
          obtain ⟨rfl, rfl, rfl⟩ : g = g' ∧ n = n' ∧ c = c' := by simpa using hi'
          rw [setD_at]
          refine ⟨hrow, ?_, h3, h4, h5⟩
          simp
          omega
        · obtain ⟨q1, q2⟩ := hh i g' n' c' hi'
          have hne : g' ≠ g := by
            rintro rfl
            exact he (hs i k _ _ _ _ _ hi' hk)
          simp only [setD, he, if_false]
          exact ⟨(hgr.block g' q1.lt (fun e => hne (by injection e))).trans q1, q2⟩
      · intro i g' n' c' hi'
        by_cases he : i = k
        · subst he
          rw [hk] at hi'
          obtain ⟨rfl, rfl, rfl⟩ : g = g' ∧ n = n' ∧ c = c' := by simpa using hi'
          rw [setD_at, List.take_append_of_le_length (by simp; omega), List.take_take, Nat.min_eq_left (by omega)]
          exact hf i g n c hk
        · simp only [setD, he, if_false]
          exact hf i g' n' c' hi'
      · rw [setD_at, ht, ← Nat.add_assoc]
        have e : (List.replicate (n + j) (mk k) ++ ([mk k] ++ (E k).drop (n + j + 1))) = List.replicate (n + j + 1) (mk k) ++ (E k).drop (n + j + 1) := by
          rw [← List.append_assoc, List.replicate_succ']
        rw [e, List.take_append_of_le_length (by simp), List.take_of_length_le (by simp)]
      · exact ⟨hgr.os, hgr.tape, hgr.output, hgr.size, fun b hb hne => hgr.block b (by omega) hne⟩
    · have hcn : n + j = c := by omega
      have hfull : E k = List.replicate (n + j) (mk k) := by
        rw [← ht]
        exact (List.take_of_length_le (by omega)).symm
      have hrow := h1
      rw [hfull] at hrow
      obtain ⟨ad, had, hcell⟩ := hr.cells (by simp)
      obtain rfl : a = ad := by injection had
      obtain ⟨ad2, had2, hcell2⟩ : ∃ ad, some (⟨g, 0, none⟩ : Addr) = some ad ∧ ∀ j' v, (bvs (List.replicate (n + j) (mk k)))[j']? = some v → w.cell? (ad.add j') = some v := by
        rcases Nat.eq_zero_or_pos (n + j) with h0 | h0
        · refine ⟨_, rfl, fun j' v hv => ?_⟩
          rw [h0] at hv
          simp [bvs] at hv
        · exact hrow.rd0.cells (by simp; omega)
      obtain rfl : (⟨g, 0, none⟩ : Addr) = ad2 := by injection had2
      obtain ⟨v', w', hrun, how', hgr⟩ := run_append_arg_grows (P := Tryz.prog) w 27 27 5 i0 (.int .u8 0) 1 1 Tryz.underlying27 hi hz0 hz1 hz2 rfl (by omega) ⟨g, 0, none⟩ (n + j) c (bvs (List.replicate (n + j) (mk k))) (by rw [bvs_length]; simp) hcell2 a 1 1 (bvs [mk k]) rfl hcell (by omega) (by simp only [maxLen]; simp only [It.len] at hn; omega) (by simp only [It.len] at hn; omega)
      have hown : Ow w' w.heap.size v' (List.replicate (n + (j + 1)) (mk k)) := by
        have e : List.replicate (n + (j + 1)) (mk k) = List.replicate (n + j) (mk k) ++ [mk k] := by rw [← Nat.add_assoc, List.replicate_succ']
        unfold Ow
        rw [e, bvs_append]
        simpa using how'
      refine ⟨v', w', hrun, ⟨E, hh.grown hS hgr (fun b hb => by cases hb), hf, .inr (ow_weaken hown hSw)⟩, ?_⟩
      exact ⟨hgr.os, hgr.tape, hgr.output, hgr.size, fun b hb _ => hgr.block b (by omega) (by simp)⟩
  · obtain ⟨v', w', hrun, how', hgr, _⟩ := append_bytes w S v (List.replicate (it.len + j) (mk k)) [mk k] (some a) 1 1 how hr rfl (fun h => by cases h) (by simp; omega) hSw
    have hrow : ∀ b, v.ownBlock = some b → S ≤ b := fun b hb => (World.ownsRow.lt how b hb).1
    refine ⟨v', w', hrun, ⟨E, hh.grown hS hgr hrow, hf, .inr ?_⟩, ?_⟩
    · have e : List.replicate (it.len + (j + 1)) (mk k) = List.replicate (it.len + j) (mk k) ++ [mk k] := by rw [← Nat.add_assoc, List.replicate_succ']
      rw [e]
      exact how'
    · refine ⟨hgr.os, hgr.tape, hgr.output, hgr.size, fun b hb _ => hgr.block b (by omega) (fun e => ?_)⟩
      have := hrow b e.symm
      omega
end Go.Proofs.YtbloejlebikecaaGreatDoor
namespace Go.Proofs.YtbloejlebikecaaGreatDoor
open Go.RowKit
set_option linter.unusedVariables false

def setL (lg : Nat → Option Addr × Nat × Nat) (k : Nat) (x : Option Addr × Nat × Nat) : Nat → Option Addr × Nat × Nat := fun i => if i = k then x else lg i

theorem flat_set (its : List It) (lg : Nat → Option Addr × Nat × Nat) (k : Nat) (hk : k < its.length) (x : Option Addr × Nat × Nat) :
    (flatk its lg).set (k * 3 + 1) (.slice x.1 x.2.1 x.2.2) = flatk its (setL lg k x) := by
  apply List.ext_getElem?
  intro p
  rcases Nat.lt_or_ge p (its.length * 3) with hp | hp
  · obtain ⟨a0, a1, a2⟩ := flat_get its lg (p / 3) (by omega)
    obtain ⟨b0, b1, b2⟩ := flat_get its (setL lg k x) (p / 3) (by omega)
    rcases (show p = p / 3 * 3 ∨ p = p / 3 * 3 + 1 ∨ p = p / 3 * 3 + 2 from by omega) with h | h | h
    · rw [List.getElem?_set_ne (by omega), h, b0, a0]
    · by_cases he : p / 3 = k
      · rw [show p = k * 3 + 1 from by omega, List.getElem?_set_self (by rw [flatk_length]; omega)]
        rw [he] at b1
        rw [b1]
        simp [setL]
      · rw [List.getElem?_set_ne (by omega), h, b1, a1]
        simp [setL, he]
    · rw [List.getElem?_set_ne (by omega), h, b2, a2]
  · rw [List.getElem?_eq_none (by rw [List.length_set, flatk_length]; omega), List.getElem?_eq_none (by rw [flatk_length]; omega)]

theorem Bk.long {w : World} {base gb gv cv : Nat} {its : List It} {lg : Nat → Option Addr × Nat × Nat} (h : Bk w base gb its.length (.slice (some ⟨gv, 0, none⟩) its.length cv) (flatk its lg)) (k : Nat) (hk : k < its.length) (x : Option Addr × Nat × Nat) :
    Bk (w.setCell ⟨gv, k * 3 + 1, none⟩ (.slice x.1 x.2.1 x.2.2)) base gb its.length (.slice (some ⟨gv, 0, none⟩) its.length cv) (flatk its (setL lg k x)) := by
  refine ⟨?_, ?_⟩
  · rw [Below.heap_setCell w ⟨gv, k * 3 + 1, none⟩ _ gb (fun e => h.ne (by simp only [Value.ownBlock]; rw [e]))]
    exact h.blk
  · rw [← flat_set its lg k hk x]
    exact (h.own.stored (k * 3 + 1) _).1

theorem Bk.chg {w w' : World} {base gb gv cv m S : Nat} {xs : List Value} {row : Option Nat} (h : Bk w base gb m (.slice (some ⟨gv, 0, none⟩) m cv) xs) (hc : Chg S row w w') (h1 : gb < S) (h2 : gv < S) (r1 : some gb ≠ row) (r2 : some gv ≠ row) : Bk w' base gb m (.slice (some ⟨gv, 0, none⟩) m cv) xs := by
  refine ⟨(hc.block gb h1 r1).trans h.blk, h.own.1, ?_⟩
  rcases h.own.2 with ⟨h', _⟩ | ⟨g, cap, cur, e, hb, hh, r⟩
  · cases h'
  · obtain rfl : gv = g := by injection e with e; injection e with e; injection e
    exact .inr ⟨gv, cap, cur, e, hb, (hc.block gv h2 r2).trans hh, r⟩

theorem Bk.vblk {w : World} {base gb gv cv m : Nat} {xs : List Value} (h : Bk w base gb m (.slice (some ⟨gv, 0, none⟩) m cv) xs) : ∃ cur, w.heap[gv]? = some (.cells cur 76 (0, 0)) := by
  rcases h.own.2 with ⟨h', _⟩ | ⟨g, cap, cur, e, hb, hh, r⟩
  · cases h'
  · obtain rfl : gv = g := by injection e with e; injection e with e; injection e
    exact ⟨cur, hh⟩

/-- what a longer list looks like -/
theorem LongSt.out {w : World} {base S : Nat} {its : List It} {k : Nat} {it : It} {v : Value} {j : Nat} (hk : its[k]? = some it) (h : LongSt w base S its k it v j) (hp : 0 < it.len + j) :
    ∃ b c, v = .slice (some ⟨b, 0, none⟩) (it.len + j) c ∧ it.len + j ≤ c ∧ (S ≤ b ∨ it.g = some b) ∧ Rd w (some ⟨b, 0, none⟩) (List.replicate (it.len + j) (mk k)) := by
  obtain ⟨E, hh, hf, h⟩ := h
  rcases h with ⟨g, n, c, rfl, rfl, hc, ht⟩ | how
  · obtain ⟨h1, h2, h3, h4, h5⟩ := hh k g n c hk
    refine ⟨g, c, rfl, hc, .inr rfl, ?_⟩
    have := h1.rd0.take (n + j)
    rw [ht] at this
    exact this
  · have hform := how
    rcases how.2 with ⟨_, h0⟩ | ⟨g, cap, cur, rfl, hb, hh', hnc, _⟩
    · simp at h0; omega
    · simp at hnc
      obtain ⟨A, c, he, h1, h2, hr, _⟩ := hform.form
      have hA : A = some ⟨g, 0, none⟩ := by injection he with he; exact he.symm
      subst hA
      exact ⟨g, cap, by simp, hnc, .inl hb, hr⟩

/-- the longer lists below k -/
def Longs (w : World) (S0 : Nat) (its : List It) (lg : Nat → Option Addr × Nat × Nat) (k : Nat) : Prop :=
  ∀ i it, i < k → its[i]? = some it → ∃ b, (lg i).1 = some ⟨b, 0, none⟩ ∧ (lg i).2.1 = it.len + 40 ∧ it.len + 40 ≤ (lg i).2.2 ∧ (S0 ≤ b ∨ it.g = some b) ∧ Rd w (some ⟨b, 0, none⟩) (List.replicate (it.len + 40) (mk i))

theorem Rd.block {w w' : World} {b : Nat} {bs : List UInt8} (h : Rd w (some ⟨b, 0, none⟩) bs) (hb : w'.heap[b]? = w.heap[b]?) (hs : w.heap.size ≤ w'.heap.size) : Rd w' (some ⟨b, 0, none⟩) bs := by
  intro hp
  obtain ⟨g, o, he, hg, hc⟩ := h hp
  have e : g = b ∧ o = 0 := by injection he with he; injection he with h1 h2; exact ⟨h1.symm, h2.symm⟩
  obtain ⟨rfl, rfl⟩ := e
  exact ⟨g, 0, rfl, Nat.lt_of_lt_of_le hg hs, fun j hj => (World.cell?_of_block (a := ⟨g, 0 + j, none⟩) hb).trans (hc j hj)⟩

theorem Held.lenOf {w : World} {base : Nat} {its : List It} {D : Nat → List UInt8} (h : Held w base its D) {k : Nat} {it : It} (hk : its[k]? = some it) : it.len ≤ 70368744177664 := by
  obtain ⟨_ | g, n, c⟩ := it
  · simp [It.len]
  · obtain ⟨_, _, h3, _, h5⟩ := h k g n c hk
    simp only [It.len]
    omega

theorem Held.other {w : World} {base gv j : Nat} {its : List It} {D : Nat → List UInt8} {cur : Array Value} (h : Held w base its D) (hv : w.heap[gv]? = some (.cells cur 76 (0, 0))) (u : Value) : Held (w.setCell ⟨gv, j, none⟩ u) base its D := by
  intro i g n c hi
  obtain ⟨h1, h2⟩ := h i g n c hi
  refine ⟨(Below.heap_setCell w ⟨gv, j, none⟩ u g ?_).trans h1, h2⟩
  rintro rfl
  have h1' : w.heap[g]? = some (.cells (bvs (D i)).toArray 5 (0, 0)) := h1
  have hv' : w.heap[g]? = some (.cells cur 76 (0, 0)) := hv
  rw [h1'] at hv'
  simp at hv'

theorem LongSt.start {w : World} {base S : Nat} {its : List It} {k : Nat} {it : It} {v : Value} (hk : its[k]? = some it) (hv : it.val = v) (h : ∃ E, Held w base its E ∧ Fil its E) : LongSt w base S its k it v 0 := by
  obtain ⟨E, h1, h2⟩ := h
  refine ⟨E, h1, h2, ?_⟩
  subst hv
  obtain ⟨_ | g, n, c⟩ := it
  · exact .inr (Ow.nil _ _)
  · obtain ⟨q1, q2, q3, q4, q5⟩ := h1 k g n c hk
    exact .inl ⟨g, n, c, rfl, rfl, q3, h2 k g n c hk⟩

theorem Longs.keep {w w' : World} {S0 : Nat} {its : List It} {lg : Nat → Option Addr × Nat × Nat} {k : Nat} (h : Longs w S0 its lg k) (hs : w.heap.size ≤ w'.heap.size)
    (hb : ∀ i it b, i < k → its[i]? = some it → (S0 ≤ b ∨ it.g = some b) → b < w.heap.size → w'.heap[b]? = w.heap[b]?) : Longs w' S0 its lg k := by
  intro i it hi hit
  obtain ⟨b, h1, h2, h3, h4, h5⟩ := h i it hi hit
  have hl : b < w.heap.size := by
    obtain ⟨g, o, he, hg, _⟩ := h5 (by simp)
    have : g = b := by injection he with he; injection he with h1 h2; exact h1.symm
    omega
  exact ⟨b, h1, h2, h3, h4, h5.block (hb i it b hi hit h4 hl) hs⟩

theorem Longs.add {w : World} {S0 : Nat} {its : List It} {lg : Nat → Option Addr × Nat × Nat} {k : Nat} (h : Longs w S0 its lg k) (it : It) (hit : its[k]? = some it) (b c : Nat) (hc : it.len + 40 ≤ c) (hb : S0 ≤ b ∨ it.g = some b) (hr : Rd w (some ⟨b, 0, none⟩) (List.replicate (it.len + 40) (mk k))) :
    Longs w S0 its (setL lg k (some ⟨b, 0, none⟩, it.len + 40, c)) (k + 1) := by
  intro i it' hi hit'
  by_cases he : i = k
  · subst he
    rw [hit] at hit'
    obtain rfl : it = it' := by injection hit'
    exact ⟨b, by simp [setL], by simp [setL], by simp [setL, hc], hb, hr⟩
  · obtain ⟨b', q⟩ := h i it' (by omega) hit'
    refine ⟨b', ?_⟩
    simp only [setL, he, if_false]
    exact q

theorem Sep.ne {its : List It} (hs : Sep its) {i k : Nat} {it it' : It} {b : Nat} (hi : its[i]? = some it) (hk : its[k]? = some it') (hne : i ≠ k) (h : it.g = some b) : it'.g ≠ some b := by
  intro h'
  obtain ⟨g, n, c⟩ := it
  obtain ⟨g', n', c'⟩ := it'
  simp only at h h'
  subst h
  subst h'
  exact hne (hs i k b n c n' c' hi hk)

set_option maxRecDepth 100000 in
set_option maxHeartbeats 3200000 in
theorem grow_any (base gb gv cv : Nat) (its : List It) (lg0 : Nat → Option Addr × Nat × Nat) (w : World) (hp : 0 < its.length) (hm : its.length ≤ 1048576)
    (hk : Bk w base gb its.length (.slice (some ⟨gv, 0, none⟩) its.length cv) (flatk its lg0)) (hh : ∃ E, Held w base its E ∧ Fil its E) (hs : Sep its) (hbase : base ≤ w.heap.size) (hgb : base ≤ gb) :
    Calls Tryz.prog 34 #[.pointer (some ⟨gb, 0, none⟩)] w fun e w' => e = .returned (.tuple #[]) ∧ ∃ lg, Bk w' base gb its.length (.slice (some ⟨gv, 0, none⟩) its.length cv) (flatk its lg) ∧ (∃ E, Held w' base its E ∧ Fil its E) ∧ Longs w' w.heap.size its lg its.length ∧ Below base w w' := by
  obtain ⟨m, hmm⟩ : ∃ m, its.length = m := ⟨_, rfl⟩
  have hgv0 : gv < w.heap.size ∧ base ≤ gv := by
    obtain ⟨gv', cv', hV, hb, hl, _⟩ := hk.form hp
    have : gv' = gv := by injection hV with h1 h2 h3; injection h1 with h1; injection h1 with h1; exact h1.symm
    rw [this] at hb hl
    exact ⟨hl, hb⟩
  have hgb0 : gb < w.heap.size := lt_of_block hk.blk
  have HS0 := hid (p := ∀ (i g n c : Nat), its[i]? = some (It.mk (some g) n c) → g < w.heap.size) (by
    obtain ⟨E, h, _⟩ := hh
    intro i g n c hi
    exact (h i g n c hi).1.lt)
  have HK0 := hid hk
  have HH0 := hid hh
  rw [hmm] at hp hm ⊢
  rw [hmm] at HK0
  have HM := hid hmm
  clear hmm hk hh
  obtain ⟨hgvl, hgvb⟩ := hgv0
  go_enter Tryz.func34, Tryz.ntmps34
  go_wp2
  go_loopw [2] (fun i wr => ∃ (k : Nat) (lg : Nat → Option Addr × Nat × Nat), k ≤ m ∧ i = .int .i64 k ∧ Hid (Bk wr base gb m (.slice (some ⟨gv, 0, none⟩) m cv) (flatk its lg)) ∧ Hid (∃ E, Held wr base its E ∧ Fil its E) ∧ Hid (Longs wr w.heap.size its lg k) ∧ Hid (Below base w wr)) (fun i _ => m - (intOf i).toNat)
  case atStart => exact ⟨0, lg0, Nat.zero_le _, rfl, HK0.out, HH0.out, hid (fun i it h => absurd h (by omega)), Below.refl _ _⟩
  case round =>
    obtain ⟨k, lg, hkm, rfl, HK, HH, HL, HB⟩ := hrel
    clear HK0 HH0
    have c1 : wr.cell? ⟨gb, 1, none⟩ = some (.slice (some ⟨gv, 0, none⟩) m cv) := HK.out.cell 1 _ rfl
    by_cases hlt : k < m
    · obtain ⟨gv', cv', hV, hbv, hgv, hcell⟩ := HK.out.form hp
      have hVe : gv' = gv := by injection hV with h1 h2 h3; injection h1 with h1; injection h1 with h1; exact h1.symm
      rw [hVe] at hcell hgv hbv
      clear hV hVe
      obtain ⟨t0, t1, t2⟩ := flat_get its lg k (by rw [HM.out]; exact hlt)
      have v0 := (hcell (k * 3) (by omega)).trans t0
      have v1 := (hcell (k * 3 + 1) (by omega)).trans t1
      have v2 := (hcell (k * 3 + 2) (by omega)).trans t2
      clear hcell t0 t1 t2
      obtain ⟨it, hit⟩ : ∃ it, its[k]? = some it := ⟨_, List.getElem?_eq_getElem (by rw [HM.out]; exact hlt)⟩
      have hget : its.getD k ⟨none, 0, 0⟩ = it := by simp [List.getD, hit]
      rw [hget] at v0
      have HIT := hid hit
      clear hit hget
      obtain ⟨A0, n0, c0, hval⟩ : ∃ A0 n0 c0, it.val = .slice A0 n0 c0 := by
        obtain ⟨_ | g, n, c⟩ := it
        · exact ⟨none, 0, 0, rfl⟩
        · exact ⟨_, _, _, rfl⟩
      rw [hval] at v0
      have HV := hid hval
      clear hval
      go_wp2
      clear v0 v1 v2 c1
      have hwr := HB.out.size
      have HK1 := hid (HK.out.alloc (.cells #[.slice A0 n0 c0, .slice (lg k).1 (lg k).2.1 (lg k).2.2, .int .i64 ((k : Int) + 1)] 76))
      have HX1 := hid (heap_alloc_new wr (.cells #[.slice A0 n0 c0, .slice (lg k).1 (lg k).2.1 (lg k).2.2, .int .i64 ((k : Int) + 1)] 76))
      have HB1 := hid (HB.out.alloc (Nat.le_trans hbase HB.out.size) (.cells #[.slice A0 n0 c0, .slice (lg k).1 (lg k).2.1 (lg k).2.2, .int .i64 ((k : Int) + 1)] 76))
      have HL1 := hid (HL.out.keep (w' := wr.alloc (.cells #[.slice A0 n0 c0, .slice (lg k).1 (lg k).2.1 (lg k).2.2, .int .i64 ((k : Int) + 1)] 76)) (by simp) (fun i it b _ _ _ hb => Below.heap_alloc wr _ b hb))
      have HT1 := hid (p := LongSt (wr.alloc (.cells #[.slice A0 n0 c0, .slice (lg k).1 (lg k).2.1 (lg k).2.2, .int .i64 ((k : Int) + 1)] 76)) base (wr.alloc (.cells #[.slice A0 n0 c0, .slice (lg k).1 (lg k).2.1 (lg k).2.2, .int .i64 ((k : Int) + 1)] 76)).heap.size its k it (.slice A0 n0 c0) 0) (LongSt.start HIT.out HV.out (by
        obtain ⟨E, h1, h2⟩ := HH.out
        exact ⟨E, h1.alloc _, h2⟩))
      have HS1 := hid (p := (wr.alloc (.cells #[.slice A0 n0 c0, .slice (lg k).1 (lg k).2.1 (lg k).2.2, .int .i64 ((k : Int) + 1)] 76)).heap.size = wr.heap.size + 1) (by simp)
      have hlenit : it.len ≤ 70368744177664 := by
        obtain ⟨E, h1, _⟩ := HH.out
        exact h1.lenOf HIT.out
      generalize wr.alloc (.cells #[.slice A0 n0 c0, .slice (lg k).1 (lg k).2.1 (lg k).2.2, .int .i64 ((k : Int) + 1)] 76) = w1 at *
      generalize hgh : wr.heap.size = gh at *
      have HGH := hid hgh
      clear HK HH HL HB hgh
      have HSI := hid (p := ∀ (i g n c : Nat), its[i]? = some (It.mk (some g) n c) → g < w1.heap.size) (fun i g n c hi => by
        have h1 := HS0.out i g n c hi
        have h2 := HS1.out
        omega)
      have HNG := hid (p := some gh ≠ it.g) (by
        intro e
        obtain ⟨g, n, c⟩ := it
        simp only at e
        have h1 := HS0.out k gh n c (by rw [HIT.out, e])
        omega)
      have HR1 := hid (p := some gb ≠ it.g) (by
        intro e
        obtain ⟨E, h1, _⟩ := HT1.out
        obtain ⟨g, n, c⟩ := it
        simp only at e
        subst e
        have h2 : w1.heap[gb]? = some (.cells (bvs (E k)).toArray 5 (0, 0)) := (h1 k gb n c HIT.out).1
        have h3 := HK1.out.blk
        rw [h2] at h3
        simp at h3)
      have HR2 := hid (p := some gv ≠ it.g) (by
        intro e
        obtain ⟨E, h1, _⟩ := HT1.out
        obtain ⟨g, n, c⟩ := it
        simp only at e
        subst e
        have h2 : w1.heap[gv]? = some (.cells (bvs (E k)).toArray 5 (0, 0)) := (h1 k gv n c HIT.out).1
        obtain ⟨cur, h3⟩ := HK1.out.vblk
        rw [h2] at h3
        simp at h3)
      go_loopw [4, 5] (fun v i wi => ∃ j : Nat, j ≤ 40 ∧ i = .int .i64 j ∧ Hid (LongSt wi base w1.heap.size its k it v j) ∧ Hid (Chg w1.heap.size it.g w1 wi)) (fun _ i _ => 40 - (intOf i).toNat)
      case atStart => exact ⟨0, by omega, rfl, HT1.out, Chg.refl _ _ _⟩
      case round =>
        obtain ⟨j, hj40, rfl, HTi, HCi⟩ := hrel
        clear HT1
        by_cases hjlt : j < 40
        · have hbx : wr.heap[gh]? = some (.cells #[.slice A0 n0 c0, .slice (lg k).1 (lg k).2.1 (lg k).2.2, .int .i64 ((k : Int) + 1)] 76 (0, 0)) := (HCi.out.block gh (by have := HS1.out; omega) HNG.out).trans HX1.out
          have b2 : wr.cell? ⟨gh, 2, none⟩ = some (.int .i64 ((k : Int) + 1)) := by rw [cell_of_row _ _ _ _ 76 (0, 0) hbx]; rfl
          clear hbx
          go_wp2_with fail
          refine (mark_any k _ _ (by omega) (by omega)).mono ?_
          rintro e w' ⟨rfl, rfl⟩
          obtain ⟨v', w2, hrun, hT, hC⟩ := long_step (wr.alloc (.cells #[.int .u8 (((mk k).toNat : Nat) : Int)] 5)) base w1.heap.size its k it u4 j ⟨wr.heap.size, 0, none⟩ HIT.out hs HSI.out (by have := HCi.out.size; simp; omega) (HTi.out.alloc _) (Row.one wr (mk k)).rd0 (by omega)
          have HRN := hid hrun
          have HT2 := hid hT
          have HC2 := hid ((HCi.out.trans (Chg.of_below (((Below.refl _ _).alloc HCi.out.size _)))).trans hC)
          clear hrun hT hC b2
          go_wp2_with (at_builtin; refine step_append rfl (.tmp 28) (.tmp 32) rfl rfl _ _ rfl rfl v' w2 HRN.out ?_)
          go_roundw
          case rel => exact ⟨j + 1, by omega, by go_num, HT2.out, HC2.out⟩
          case measure => simp [intOf]; omega
        · obtain rfl : j = 40 := by omega
          obtain ⟨b, cb, hv4, hcb, hbb, hrb⟩ := HTi.out.out HIT.out (by omega)
          subst hv4
          have HRB := hid hrb
          have hsz := HCi.out.size
          have hw1 := HS1.out
          have hr1 := HR1.out
          have hr2 := HR2.out
          have HKi := hid (HK1.out.chg HCi.out (by omega) (by omega) hr1 hr2)
          have c1 : wr.cell? ⟨gb, 1, none⟩ = some (.slice (some ⟨gv, 0, none⟩) m cv) := HKi.out.cell 1 _ rfl
          obtain ⟨gv', cv', hV, hbv', hgv', hcell⟩ := HKi.out.form hp
          have hVe : gv' = gv := by injection hV with h1 h2 h3; injection h1 with h1; injection h1 with h1; exact h1.symm
          rw [hVe] at hcell hgv' hbv'
          clear hV hVe
          obtain ⟨t0, t1, t2⟩ := flat_get its lg k (by rw [HM.out]; exact hlt)
          have y1 := (hcell (k * 3 + 1) (by omega)).trans t1
          have y2 : wr.frozen? ⟨gv, k * 3 + 1, none⟩ = false := World.ownsRow.frozenAt HKi.out.own (k * 3 + 1)
          clear hcell t0 t1 t2
          go_wp2
          clear c1 y1 y2
          obtain ⟨cur, hcur⟩ := HKi.out.vblk
          obtain ⟨E, hE1, hE2, _⟩ := HTi.out
          have hbv2 : b ≠ gv := by
            rintro rfl
            rcases hbb with h | h
            · omega
            · exact hr2 h.symm
          go_roundw
          case rel =>
            refine ⟨k + 1, setL lg k (some ⟨b, 0, none⟩, it.len + 40, cb), by omega, by go_num, ?_, ?_, ?_, ?_⟩
            · have := HKi.out
              have hm' := HM.out
              subst hm'
              exact hid (this.long k hlt (some ⟨b, 0, none⟩, it.len + 40, cb))
            · exact hid ⟨E, hE1.other hcur _, hE2⟩
            · refine hid (Longs.add ?_ it HIT.out b cb hcb ?_ ?_)
              · refine HL1.out.keep (by simpa using hsz) (fun i it' b' hi hit' hb' hl' => ?_)
                have hb1 : b' ≠ gv := by
                  rintro rfl
                  rcases hb' with h | h
                  · omega
                  · obtain ⟨g', n', c'⟩ := it'
                    simp only at h
                    subst h
                    have h2 : wr.heap[b']? = some (.cells (bvs (E i)).toArray 5 (0, 0)) := (hE1 i b' n' c' hit').1
                    rw [h2] at hcur
                    simp at hcur
                have hb2 : some b' ≠ it.g := by
                  intro e
                  rcases hb' with h | h
                  · obtain ⟨g', n', c'⟩ := it
                    simp only at e
                    have := HS0.out k b' n' c' (by rw [HIT.out, e])
                    omega
                  · exact hs.ne hit' HIT.out (by omega) h e.symm
                rw [Below.heap_setCell wr ⟨gv, k * 3 + 1, none⟩ _ b' hb1]
                exact HCi.out.block b' hl' hb2
              · rcases hbb with h | h
                · exact .inl (by omega)
                · exact .inr h
              · exact HRB.out.block (Below.heap_setCell wr ⟨gv, k * 3 + 1, none⟩ _ b hbv2) (by simp)
            · refine hid (Below.setCell ?_ (p := ⟨gv, k * 3 + 1, none⟩) hgvb _)
              refine HB1.out.trans ⟨HCi.out.os, HCi.out.tape, HCi.out.output, hsz, fun q hq => HCi.out.block q (by omega) ?_⟩
              intro e
              obtain ⟨g', n', c'⟩ := it
              simp only at e
              have := (hE1 k q n' c' (by rw [HIT.out, e])).2.2.2.1
              omega
          case measure => simp [intOf]; omega
    · go_wp2
      go_end0
      obtain rfl : k = m := by omega
      exact ⟨rfl, lg, HK.out, HH.out, HL.out, HB.out⟩
end Go.Proofs.YtbloejlebikecaaGreatDoor
namespace Go.Proofs.YtbloejlebikecaaGreatDoor
open Go.RowKit
set_option linter.unusedVariables false


theorem isByte_any (i : Nat) (x ii : Int) (w : World) (hi : i ≤ 1048576) (hii : ii = ((i + 1 : Nat) : Int)) (hx : x = (((mk i).toNat : Nat) : Int)) : Calls Tryz.prog 87 #[.int .u8 x, .int .i64 ii] w fun e w' => e = .returned (.bool true) ∧ w' = w := by
  subst hii
  have HB := hid (p := (((i : Int) + 1) % 256) = x) (by rw [hx]; simp only [mk, UInt8.toNat_ofNat']; omega)
  clear hx
  go_enter Tryz.func87, Tryz.ntmps87
  go_wp2
  go_ret
  refine ⟨?_, rfl⟩
  rw [HB.out]
  simp

/-- the list itself, and its mark -/
theorem it_reads {w : World} {base : Nat} {its : List It} {k : Nat} {it : It} (hk : its[k]? = some it) (h : ∃ E, Held w base its E ∧ Fil its E) : ∃ A c, it.val = .slice A it.len c ∧ Rd w A (List.replicate it.len (mk k)) := by
  obtain ⟨E, h1, h2⟩ := h
  obtain ⟨_ | g, n, c⟩ := it
  · exact ⟨none, 0, rfl, Rd.nil _ _⟩
  · refine ⟨some ⟨g, 0, none⟩, c, rfl, ?_⟩
    have := (h1 k g n c hk).1.rd0.take n
    rw [h2 k g n c hk] at this
    exact this

set_option maxRecDepth 100000 in
set_option maxHeartbeats 3200000 in
theorem look_any (base gb gv cv S0 : Nat) (its : List It) (lg : Nat → Option Addr × Nat × Nat) (w : World) (hp : 0 < its.length) (hm : its.length ≤ 1048576)
    (hk : Bk w base gb its.length (.slice (some ⟨gv, 0, none⟩) its.length cv) (flatk its lg)) (hh : ∃ E, Held w base its E ∧ Fil its E) (hl : Longs w S0 its lg its.length) :
    Calls Tryz.prog 49 #[.pointer (some ⟨gb, 0, none⟩)] w fun e w' => e = .returned (.bool true) ∧ Below w.heap.size w w' := by
  obtain ⟨m, hmm⟩ : ∃ m, its.length = m := ⟨_, rfl⟩
  have HK := hid hk
  have HH := hid hh
  have HL := hid hl
  rw [hmm] at hp hm HK HL
  have HM := hid hmm
  clear hmm hk hh hl
  go_enter Tryz.func49, Tryz.ntmps49
  go_wp2
  go_loopw [3] (fun i wr => ∃ k : Nat, k ≤ m ∧ i = .int .i64 k ∧ Hid (Below w.heap.size w wr)) (fun i _ => m - (intOf i).toNat)
  case atStart => exact ⟨0, Nat.zero_le _, rfl, Below.refl _ _⟩
  case round =>
    obtain ⟨k, hkm, rfl, HB⟩ := hrel
    have HKr := hid (HK.out.below HB.out)
    have c1 : wr.cell? ⟨gb, 1, none⟩ = some (.slice (some ⟨gv, 0, none⟩) m cv) := HKr.out.cell 1 _ rfl
    by_cases hlt : k < m
    · obtain ⟨gv', cv', hV, hbv, hgv, hcell⟩ := HKr.out.form hp
      have hVe : gv' = gv := by injection hV with h1 h2 h3; injection h1 with h1; injection h1 with h1; exact h1.symm
      rw [hVe] at hcell hgv hbv
      clear hV hVe
      obtain ⟨t0, t1, t2⟩ := flat_get its lg k (by rw [HM.out]; exact hlt)
      have v0 := (hcell (k * 3) (by omega)).trans t0
      have v1 := (hcell (k * 3 + 1) (by omega)).trans t1
      have v2 := (hcell (k * 3 + 2) (by omega)).trans t2
      clear hcell t0 t1 t2
      obtain ⟨it, hit⟩ : ∃ it, its[k]? = some it := ⟨_, List.getElem?_eq_getElem (by rw [HM.out]; exact hlt)⟩
      have hget : its.getD k ⟨none, 0, 0⟩ = it := by simp [List.getD, hit]
      rw [hget] at v0
      have hlen : it.len ≤ 70368744177664 := by
        obtain ⟨E, h1, _⟩ := HH.out
        exact h1.lenOf hit
      obtain ⟨A0, c0, hval, hr0⟩ := it_reads hit HH.out
      rw [hval] at v0
      obtain ⟨b, hb1, hb2, hb3, hb4, hb5⟩ := HL.out k it hlt hit
      rw [hb1, hb2] at v1
      generalize (lg k).2.2 = cb at *
      generalize it.len = n at *
      have R0 := hid (hr0.below HB.out (Nat.le_refl _))
      have R1 := hid (hb5.below HB.out (Nat.le_refl _))
      clear hit hget hval hr0 hb1 hb2 hb4 hb5
      have hne : (((n : Int) + 40) != (n : Int) + 40) = false := by simp
      go_wp2
      clear v0 v1 v2 c1 hne
      have HX1 := hid (heap_alloc_new wr (.cells #[.slice A0 n c0, .slice (some ⟨b, 0, none⟩) (n + 40) cb, .int .i64 ((k : Int) + 1)] 76))
      have HB1 := hid (HB.out.alloc HB.out.size (.cells #[.slice A0 n c0, .slice (some ⟨b, 0, none⟩) (n + 40) cb, .int .i64 ((k : Int) + 1)] 76))
      have R0' := hid (R0.out.alloc (.cells #[.slice A0 n c0, .slice (some ⟨b, 0, none⟩) (n + 40) cb, .int .i64 ((k : Int) + 1)] 76))
      have R1' := hid (R1.out.alloc (.cells #[.slice A0 n c0, .slice (some ⟨b, 0, none⟩) (n + 40) cb, .int .i64 ((k : Int) + 1)] 76))
      generalize wr.alloc (.cells #[.slice A0 n c0, .slice (some ⟨b, 0, none⟩) (n + 40) cb, .int .i64 ((k : Int) + 1)] 76) = w1 at *
      generalize wr.heap.size = gh at *
      clear R0 R1 HB HKr
      go_loopw [5] (fun i wi => ∃ j q : Nat, j ≤ n + 40 ∧ i = .int .i64 j ∧ Hid (wi = w1.drewN q)) (fun i _ => n + 40 - (intOf i).toNat)
      case atStart => exact ⟨0, 0, by omega, rfl, rfl⟩
      case round =>
        obtain ⟨j, q, hj, rfl, HW⟩ := hrel
        have hbx : wr.heap[gh]? = some (.cells #[.slice A0 n c0, .slice (some ⟨b, 0, none⟩) (n + 40) cb, .int .i64 ((k : Int) + 1)] 76 (0, 0)) := by rw [HW.out]; exact HX1.out
        have b0 : wr.cell? ⟨gh, 0, none⟩ = some (.slice A0 n c0) := by rw [cell_of_row _ _ _ _ 76 (0, 0) hbx]; rfl
        have b1 : wr.cell? ⟨gh, 1, none⟩ = some (.slice (some ⟨b, 0, none⟩) (n + 40) cb) := by rw [cell_of_row _ _ _ _ 76 (0, 0) hbx]; rfl
        have b2 : wr.cell? ⟨gh, 2, none⟩ = some (.int .i64 ((k : Int) + 1)) := by rw [cell_of_row _ _ _ _ 76 (0, 0) hbx]; rfl
        clear hbx
        by_cases hjlt : j < n + 40
        · have x1 : wr.cell? ⟨b, j, none⟩ = some (.int .u8 (((mk k).toNat : Nat) : Int)) := by
            rw [HW.out]
            obtain ⟨g1, o1, he, hg1, hc1⟩ := R1'.out (by simp)
            have e : g1 = b ∧ o1 = 0 := by injection he with he; injection he with h1 h2; exact ⟨h1.symm, h2.symm⟩
            obtain ⟨rfl, rfl⟩ := e
            have := hc1 j (by simpa using hjlt)
            rw [Nat.zero_add, List.getElem_replicate] at this
            exact this
          have i1 : (j : Int) < (n : Int) + 40 := by omega
          have i0 : (0 : Int) ≤ (j : Int) := by omega
          by_cases hjn : j < n
          · obtain ⟨g0, o0, rfl, hg0, hcc0⟩ := R0'.out (by simpa using (by omega : 0 < n))
            have x0 : wr.cell? ⟨g0, o0 + j, none⟩ = some (.int .u8 (((mk k).toNat : Nat) : Int)) := by
              rw [HW.out]
              have := hcc0 j (by simpa using hjn)
              rw [List.getElem_replicate] at this
              exact this
            clear hcc0
            have dj : decide ((j : Int) < (n : Int)) = true := by simp; omega
            have i2 : (j : Int) < (n : Int) := by omega
            go_wp2_with fail
            go_quiet ((go_at_call 87; exact Calls.quiet_of_same (isByte_any k _ _ _ (by omega) (by omega) rfl)))
            go_wp2
            go_roundw
            case rel => exact ⟨j + 1, q + nq, by omega, by go_num, by rw [HW.out]; exact hid (World.drewN_drewN ..)⟩
            case measure => simp [intOf]; omega
          · have dj : decide ((j : Int) < (n : Int)) = false := by simp; omega
            go_wp2_with fail
            go_quiet ((go_at_call 87; exact Calls.quiet_of_same (isByte_any k _ _ _ (by omega) (by omega) rfl)))
            go_wp2
            go_roundw
            case rel => exact ⟨j + 1, q + nq, by omega, by go_num, by rw [HW.out]; exact hid (World.drewN_drewN ..)⟩
            case measure => simp [intOf]; omega
        · obtain rfl : j = n + 40 := by omega
          go_wp2
          go_roundw
          case rel => exact ⟨k + 1, by omega, by go_num, by rw [HW.out]; exact hid (below_drewN HB1.out q)⟩
          case measure => simp [intOf]; omega
    · go_wp2
      go_ret
      exact ⟨rfl, HB.out⟩
end Go.Proofs.YtbloejlebikecaaGreatDoor
namespace Go.Proofs.YtbloejlebikecaaGreatDoor
open Go.RowKit
set_option linter.unusedVariables false

theorem idle29 (gb : Nat) (w : World) (c : w.cell? ⟨gb, 2, none⟩ = some (.slice none 0 0)) : Calls Tryz.prog 20 #[.pointer (some ⟨gb, 0, none⟩)] w fun e w' => e = .returned (.tuple #[]) ∧ w = w' := by
  go_enter Tryz.func20, Tryz.ntmps20
  go_wp2
  refine wp_loop_rounds 1 ?_
  rw [rounds_succ]
  go_wp2
  go_end0
  exact ⟨rfl, rfl⟩

theorem idle30 (gb : Nat) (w : World) (c : w.cell? ⟨gb, 3, none⟩ = some (.slice none 0 0)) : Calls Tryz.prog 21 #[.pointer (some ⟨gb, 0, none⟩)] w fun e w' => e = .returned (.tuple #[]) ∧ w = w' := by
  go_enter Tryz.func21, Tryz.ntmps21
  go_wp2
  refine wp_loop_rounds 1 ?_
  rw [rounds_succ]
  go_wp2
  go_end0
  exact ⟨rfl, rfl⟩

theorem idle31 (gb : Nat) (w : World) (c : w.cell? ⟨gb, 4, none⟩ = some (.slice none 0 0)) : Calls Tryz.prog 22 #[.pointer (some ⟨gb, 0, none⟩)] w fun e w' => e = .returned (.tuple #[]) ∧ w = w' := by
  go_enter Tryz.func22, Tryz.ntmps22
  go_wp2
  refine wp_loop_rounds 1 ?_
  rw [rounds_succ]
  go_wp2
  go_end0
  exact ⟨rfl, rfl⟩

theorem idle32 (gb : Nat) (w : World) (c : w.cell? ⟨gb, 5, none⟩ = some (.slice none 0 0)) : Calls Tryz.prog 23 #[.pointer (some ⟨gb, 0, none⟩)] w fun e w' => e = .returned (.tuple #[]) ∧ w = w' := by
  go_enter Tryz.func23, Tryz.ntmps23
  go_wp2
  refine wp_loop_rounds 1 ?_
  rw [rounds_succ]
  go_wp2
  go_end0
  exact ⟨rfl, rfl⟩

theorem idle33 (gb : Nat) (w : World) (c : w.cell? ⟨gb, 6, none⟩ = some (.slice none 0 0)) : Calls Tryz.prog 24 #[.pointer (some ⟨gb, 0, none⟩)] w fun e w' => e = .returned (.tuple #[]) ∧ w = w' := by
  go_enter Tryz.func24, Tryz.ntmps24
  go_wp2
  refine wp_loop_rounds 1 ?_
  rw [rounds_succ]
  go_wp2
  go_end0
  exact ⟨rfl, rfl⟩

theorem idle34 (gb : Nat) (w : World) (c : w.cell? ⟨gb, 7, none⟩ = some (.slice none 0 0)) : Calls Tryz.prog 25 #[.pointer (some ⟨gb, 0, none⟩)] w fun e w' => e = .returned (.tuple #[]) ∧ w = w' := by
  go_enter Tryz.func25, Tryz.ntmps25
  go_wp2
  refine wp_loop_rounds 1 ?_
  rw [rounds_succ]
  go_wp2
  go_end0
  exact ⟨rfl, rfl⟩

theorem idle35 (gb : Nat) (w : World) (c : w.cell? ⟨gb, 8, none⟩ = some (.slice none 0 0)) : Calls Tryz.prog 26 #[.pointer (some ⟨gb, 0, none⟩)] w fun e w' => e = .returned (.tuple #[]) ∧ w = w' := by
  go_enter Tryz.func26, Tryz.ntmps26
  go_wp2
  refine wp_loop_rounds 1 ?_
  rw [rounds_succ]
  go_wp2
  go_end0
  exact ⟨rfl, rfl⟩

theorem idle36 (gb : Nat) (w : World) (c : w.cell? ⟨gb, 9, none⟩ = some (.slice none 0 0)) : Calls Tryz.prog 27 #[.pointer (some ⟨gb, 0, none⟩)] w fun e w' => e = .returned (.tuple #[]) ∧ w = w' := by
  go_enter Tryz.func27, Tryz.ntmps27
  go_wp2
  refine wp_loop_rounds 1 ?_
  rw [rounds_succ]
  go_wp2
  go_end0
  exact ⟨rfl, rfl⟩

theorem idle37 (gb : Nat) (w : World) (c : w.cell? ⟨gb, 10, none⟩ = some (.slice none 0 0)) : Calls Tryz.prog 28 #[.pointer (some ⟨gb, 0, none⟩)] w fun e w' => e = .returned (.tuple #[]) ∧ w = w' := by
  go_enter Tryz.func28, Tryz.ntmps28
  go_wp2
  refine wp_loop_rounds 1 ?_
  rw [rounds_succ]
  go_wp2
  go_end0
  exact ⟨rfl, rfl⟩

theorem idle38 (gb : Nat) (w : World) (c : w.cell? ⟨gb, 11, none⟩ = some (.slice none 0 0)) : Calls Tryz.prog 29 #[.pointer (some ⟨gb, 0, none⟩)] w fun e w' => e = .returned (.tuple #[]) ∧ w = w' := by
  go_enter Tryz.func29, Tryz.ntmps29
  go_wp2
  refine wp_loop_rounds 1 ?_
  rw [rounds_succ]
  go_wp2
  go_end0
  exact ⟨rfl, rfl⟩

theorem idle39 (gb : Nat) (w : World) (c : w.cell? ⟨gb, 12, none⟩ = some (.slice none 0 0)) : Calls Tryz.prog 30 #[.pointer (some ⟨gb, 0, none⟩)] w fun e w' => e = .returned (.tuple #[]) ∧ w = w' := by
  go_enter Tryz.func30, Tryz.ntmps30
  go_wp2
  refine wp_loop_rounds 1 ?_
  rw [rounds_succ]
  go_wp2
  go_end0
  exact ⟨rfl, rfl⟩

theorem idle40 (gb : Nat) (w : World) (c : w.cell? ⟨gb, 13, none⟩ = some (.slice none 0 0)) : Calls Tryz.prog 31 #[.pointer (some ⟨gb, 0, none⟩)] w fun e w' => e = .returned (.tuple #[]) ∧ w = w' := by
  go_enter Tryz.func31, Tryz.ntmps31
  go_wp2
  refine wp_loop_rounds 1 ?_
  rw [rounds_succ]
  go_wp2
  go_end0
  exact ⟨rfl, rfl⟩

theorem idle41 (gb : Nat) (w : World) (c : w.cell? ⟨gb, 14, none⟩ = some (.slice none 0 0)) : Calls Tryz.prog 32 #[.pointer (some ⟨gb, 0, none⟩)] w fun e w' => e = .returned (.tuple #[]) ∧ w = w' := by
  go_enter Tryz.func32, Tryz.ntmps32
  go_wp2
  refine wp_loop_rounds 1 ?_
  rw [rounds_succ]
  go_wp2
  go_end0
  exact ⟨rfl, rfl⟩

theorem idle42 (gb : Nat) (w : World) (c : w.cell? ⟨gb, 15, none⟩ = some (.slice none 0 0)) : Calls Tryz.prog 33 #[.pointer (some ⟨gb, 0, none⟩)] w fun e w' => e = .returned (.tuple #[]) ∧ w = w' := by
  go_enter Tryz.func33, Tryz.ntmps33
  go_wp2
  refine wp_loop_rounds 1 ?_
  rw [rounds_succ]
  go_wp2
  go_end0
  exact ⟨rfl, rfl⟩

theorem idle44 (gb : Nat) (w : World) (c : w.cell? ⟨gb, 2, none⟩ = some (.slice none 0 0)) : Calls Tryz.prog 35 #[.pointer (some ⟨gb, 0, none⟩)] w fun e w' => e = .returned (.tuple #[]) ∧ w = w' := by
  go_enter Tryz.func35, Tryz.ntmps35
  go_wp2
  refine wp_loop_rounds 1 ?_
  rw [rounds_succ]
  go_wp2
  go_end0
  exact ⟨rfl, rfl⟩

theorem idle45 (gb : Nat) (w : World) (c : w.cell? ⟨gb, 3, none⟩ = some (.slice none 0 0)) : Calls Tryz.prog 36 #[.pointer (some ⟨gb, 0, none⟩)] w fun e w' => e = .returned (.tuple #[]) ∧ w = w' := by
  go_enter Tryz.func36, Tryz.ntmps36
  go_wp2
  refine wp_loop_rounds 1 ?_
  rw [rounds_succ]
  go_wp2
  go_end0
  exact ⟨rfl, rfl⟩

theorem idle46 (gb : Nat) (w : World) (c : w.cell? ⟨gb, 4, none⟩ = some (.slice none 0 0)) : Calls Tryz.prog 37 #[.pointer (some ⟨gb, 0, none⟩)] w fun e w' => e = .returned (.tuple #[]) ∧ w = w' := by
  go_enter Tryz.func37, Tryz.ntmps37
  go_wp2
  refine wp_loop_rounds 1 ?_
  rw [rounds_succ]
  go_wp2
  go_end0
  exact ⟨rfl, rfl⟩

theorem idle47 (gb : Nat) (w : World) (c : w.cell? ⟨gb, 5, none⟩ = some (.slice none 0 0)) : Calls Tryz.prog 38 #[.pointer (some ⟨gb, 0, none⟩)] w fun e w' => e = .returned (.tuple #[]) ∧ w = w' := by
  go_enter Tryz.func38, Tryz.ntmps38
  go_wp2
  refine wp_loop_rounds 1 ?_
  rw [rounds_succ]
  go_wp2
  go_end0
  exact ⟨rfl, rfl⟩

theorem idle48 (gb : Nat) (w : World) (c : w.cell? ⟨gb, 6, none⟩ = some (.slice none 0 0)) : Calls Tryz.prog 39 #[.pointer (some ⟨gb, 0, none⟩)] w fun e w' => e = .returned (.tuple #[]) ∧ w = w' := by
  go_enter Tryz.func39, Tryz.ntmps39
  go_wp2
  refine wp_loop_rounds 1 ?_
  rw [rounds_succ]
  go_wp2
  go_end0
  exact ⟨rfl, rfl⟩

theorem idle49 (gb : Nat) (w : World) (c : w.cell? ⟨gb, 7, none⟩ = some (.slice none 0 0)) : Calls Tryz.prog 40 #[.pointer (some ⟨gb, 0, none⟩)] w fun e w' => e = .returned (.tuple #[]) ∧ w = w' := by
  go_enter Tryz.func40, Tryz.ntmps40
  go_wp2
  refine wp_loop_rounds 1 ?_
  rw [rounds_succ]
  go_wp2
  go_end0
  exact ⟨rfl, rfl⟩

theorem idle50 (gb : Nat) (w : World) (c : w.cell? ⟨gb, 8, none⟩ = some (.slice none 0 0)) : Calls Tryz.prog 41 #[.pointer (some ⟨gb, 0, none⟩)] w fun e w' => e = .returned (.tuple #[]) ∧ w = w' := by
  go_enter Tryz.func41, Tryz.ntmps41
  go_wp2
  refine wp_loop_rounds 1 ?_
  rw [rounds_succ]
  go_wp2
  go_end0
  exact ⟨rfl, rfl⟩

theorem idle51 (gb : Nat) (w : World) (c : w.cell? ⟨gb, 9, none⟩ = some (.slice none 0 0)) : Calls Tryz.prog 42 #[.pointer (some ⟨gb, 0, none⟩)] w fun e w' => e = .returned (.tuple #[]) ∧ w = w' := by
  go_enter Tryz.func42, Tryz.ntmps42
  go_wp2
  refine wp_loop_rounds 1 ?_
  rw [rounds_succ]
  go_wp2
  go_end0
  exact ⟨rfl, rfl⟩

theorem idle52 (gb : Nat) (w : World) (c : w.cell? ⟨gb, 10, none⟩ = some (.slice none 0 0)) : Calls Tryz.prog 43 #[.pointer (some ⟨gb, 0, none⟩)] w fun e w' => e = .returned (.tuple #[]) ∧ w = w' := by
  go_enter Tryz.func43, Tryz.ntmps43
  go_wp2
  refine wp_loop_rounds 1 ?_
  rw [rounds_succ]
  go_wp2
  go_end0
  exact ⟨rfl, rfl⟩

theorem idle53 (gb : Nat) (w : World) (c : w.cell? ⟨gb, 11, none⟩ = some (.slice none 0 0)) : Calls Tryz.prog 44 #[.pointer (some ⟨gb, 0, none⟩)] w fun e w' => e = .returned (.tuple #[]) ∧ w = w' := by
  go_enter Tryz.func44, Tryz.ntmps44
  go_wp2
  refine wp_loop_rounds 1 ?_
  rw [rounds_succ]
  go_wp2
  go_end0
  exact ⟨rfl, rfl⟩

theorem idle54 (gb : Nat) (w : World) (c : w.cell? ⟨gb, 12, none⟩ = some (.slice none 0 0)) : Calls Tryz.prog 45 #[.pointer (some ⟨gb, 0, none⟩)] w fun e w' => e = .returned (.tuple #[]) ∧ w = w' := by
  go_enter Tryz.func45, Tryz.ntmps45
  go_wp2
  refine wp_loop_rounds 1 ?_
  rw [rounds_succ]
  go_wp2
  go_end0
  exact ⟨rfl, rfl⟩

theorem idle55 (gb : Nat) (w : World) (c : w.cell? ⟨gb, 13, none⟩ = some (.slice none 0 0)) : Calls Tryz.prog 46 #[.pointer (some ⟨gb, 0, none⟩)] w fun e w' => e = .returned (.tuple #[]) ∧ w = w' := by
  go_enter Tryz.func46, Tryz.ntmps46
  go_wp2
  refine wp_loop_rounds 1 ?_
  rw [rounds_succ]
  go_wp2
  go_end0
  exact ⟨rfl, rfl⟩

theorem idle56 (gb : Nat) (w : World) (c : w.cell? ⟨gb, 14, none⟩ = some (.slice none 0 0)) : Calls Tryz.prog 47 #[.pointer (some ⟨gb, 0, none⟩)] w fun e w' => e = .returned (.tuple #[]) ∧ w = w' := by
  go_enter Tryz.func47, Tryz.ntmps47
  go_wp2
  refine wp_loop_rounds 1 ?_
  rw [rounds_succ]
  go_wp2
  go_end0
  exact ⟨rfl, rfl⟩

theorem idle57 (gb : Nat) (w : World) (c : w.cell? ⟨gb, 15, none⟩ = some (.slice none 0 0)) : Calls Tryz.prog 48 #[.pointer (some ⟨gb, 0, none⟩)] w fun e w' => e = .returned (.tuple #[]) ∧ w = w' := by
  go_enter Tryz.func48, Tryz.ntmps48
  go_wp2
  refine wp_loop_rounds 1 ?_
  rw [rounds_succ]
  go_wp2
  go_end0
  exact ⟨rfl, rfl⟩

theorem idle59 (gb : Nat) (w : World) (c : w.cell? ⟨gb, 2, none⟩ = some (.slice none 0 0)) : Calls Tryz.prog 50 #[.pointer (some ⟨gb, 0, none⟩)] w fun e w' => e = .returned (.bool true) ∧ w = w' := by
  go_enter Tryz.func50, Tryz.ntmps50
  go_wp2
  refine wp_loop_rounds 1 ?_
  rw [rounds_succ]
  go_wp2
  go_ret
  exact ⟨rfl, rfl⟩

theorem idle60 (gb : Nat) (w : World) (c : w.cell? ⟨gb, 3, none⟩ = some (.slice none 0 0)) : Calls Tryz.prog 51 #[.pointer (some ⟨gb, 0, none⟩)] w fun e w' => e = .returned (.bool true) ∧ w = w' := by
  go_enter Tryz.func51, Tryz.ntmps51
  go_wp2
  refine wp_loop_rounds 1 ?_
  rw [rounds_succ]
  go_wp2
  go_ret
  exact ⟨rfl, rfl⟩

theorem idle61 (gb : Nat) (w : World) (c : w.cell? ⟨gb, 4, none⟩ = some (.slice none 0 0)) : Calls Tryz.prog 52 #[.pointer (some ⟨gb, 0, none⟩)] w fun e w' => e = .returned (.bool true) ∧ w = w' := by
  go_enter Tryz.func52, Tryz.ntmps52
  go_wp2
  refine wp_loop_rounds 1 ?_
  rw [rounds_succ]
  go_wp2
  go_ret
  exact ⟨rfl, rfl⟩

theorem idle62 (gb : Nat) (w : World) (c : w.cell? ⟨gb, 5, none⟩ = some (.slice none 0 0)) : Calls Tryz.prog 53 #[.pointer (some ⟨gb, 0, none⟩)] w fun e w' => e = .returned (.bool true) ∧ w = w' := by
  go_enter Tryz.func53, Tryz.ntmps53
  go_wp2
  refine wp_loop_rounds 1 ?_
  rw [rounds_succ]
  go_wp2
  go_ret
  exact ⟨rfl, rfl⟩

theorem idle63 (gb : Nat) (w : World) (c : w.cell? ⟨gb, 6, none⟩ = some (.slice none 0 0)) : Calls Tryz.prog 54 #[.pointer (some ⟨gb, 0, none⟩)] w fun e w' => e = .returned (.bool true) ∧ w = w' := by
  go_enter Tryz.func54, Tryz.ntmps54
  go_wp2
  refine wp_loop_rounds 1 ?_
  rw [rounds_succ]
  go_wp2
  go_ret
  exact ⟨rfl, rfl⟩

theorem idle64 (gb : Nat) (w : World) (c : w.cell? ⟨gb, 7, none⟩ = some (.slice none 0 0)) : Calls Tryz.prog 55 #[.pointer (some ⟨gb, 0, none⟩)] w fun e w' => e = .returned (.bool true) ∧ w = w' := by
  go_enter Tryz.func55, Tryz.ntmps55
  go_wp2
  refine wp_loop_rounds 1 ?_
  rw [rounds_succ]
  go_wp2
  go_ret
  exact ⟨rfl, rfl⟩

theorem idle65 (gb : Nat) (w : World) (c : w.cell? ⟨gb, 8, none⟩ = some (.slice none 0 0)) : Calls Tryz.prog 56 #[.pointer (some ⟨gb, 0, none⟩)] w fun e w' => e = .returned (.bool true) ∧ w = w' := by
  go_enter Tryz.func56, Tryz.ntmps56
  go_wp2
  refine wp_loop_rounds 1 ?_
  rw [rounds_succ]
  go_wp2
  go_ret
  exact ⟨rfl, rfl⟩

theorem idle66 (gb : Nat) (w : World) (c : w.cell? ⟨gb, 9, none⟩ = some (.slice none 0 0)) : Calls Tryz.prog 57 #[.pointer (some ⟨gb, 0, none⟩)] w fun e w' => e = .returned (.bool true) ∧ w = w' := by
  go_enter Tryz.func57, Tryz.ntmps57
  go_wp2
  refine wp_loop_rounds 1 ?_
  rw [rounds_succ]
  go_wp2
  go_ret
  exact ⟨rfl, rfl⟩

theorem idle67 (gb : Nat) (w : World) (c : w.cell? ⟨gb, 10, none⟩ = some (.slice none 0 0)) : Calls Tryz.prog 58 #[.pointer (some ⟨gb, 0, none⟩)] w fun e w' => e = .returned (.bool true) ∧ w = w' := by
  go_enter Tryz.func58, Tryz.ntmps58
  go_wp2
  refine wp_loop_rounds 1 ?_
  rw [rounds_succ]
  go_wp2
  go_ret
  exact ⟨rfl, rfl⟩

theorem idle68 (gb : Nat) (w : World) (c : w.cell? ⟨gb, 11, none⟩ = some (.slice none 0 0)) : Calls Tryz.prog 59 #[.pointer (some ⟨gb, 0, none⟩)] w fun e w' => e = .returned (.bool true) ∧ w = w' := by
  go_enter Tryz.func59, Tryz.ntmps59
  go_wp2
  refine wp_loop_rounds 1 ?_
  rw [rounds_succ]
  go_wp2
  go_ret
  exact ⟨rfl, rfl⟩

theorem idle69 (gb : Nat) (w : World) (c : w.cell? ⟨gb, 12, none⟩ = some (.slice none 0 0)) : Calls Tryz.prog 60 #[.pointer (some ⟨gb, 0, none⟩)] w fun e w' => e = .returned (.bool true) ∧ w = w' := by
  go_enter Tryz.func60, Tryz.ntmps60
  go_wp2
  refine wp_loop_rounds 1 ?_
  rw [rounds_succ]
  go_wp2
  go_ret
  exact ⟨rfl, rfl⟩

theorem idle70 (gb : Nat) (w : World) (c : w.cell? ⟨gb, 13, none⟩ = some (.slice none 0 0)) : Calls Tryz.prog 61 #[.pointer (some ⟨gb, 0, none⟩)] w fun e w' => e = .returned (.bool true) ∧ w = w' := by
  go_enter Tryz.func61, Tryz.ntmps61
  go_wp2
  refine wp_loop_rounds 1 ?_
  rw [rounds_succ]
  go_wp2
  go_ret
  exact ⟨rfl, rfl⟩

theorem idle71 (gb : Nat) (w : World) (c : w.cell? ⟨gb, 14, none⟩ = some (.slice none 0 0)) : Calls Tryz.prog 62 #[.pointer (some ⟨gb, 0, none⟩)] w fun e w' => e = .returned (.bool true) ∧ w = w' := by
  go_enter Tryz.func62, Tryz.ntmps62
  go_wp2
  refine wp_loop_rounds 1 ?_
  rw [rounds_succ]
  go_wp2
  go_ret
  exact ⟨rfl, rfl⟩

theorem idle72 (gb : Nat) (w : World) (c : w.cell? ⟨gb, 15, none⟩ = some (.slice none 0 0)) : Calls Tryz.prog 63 #[.pointer (some ⟨gb, 0, none⟩)] w fun e w' => e = .returned (.bool true) ∧ w = w' := by
  go_enter Tryz.func63, Tryz.ntmps63
  go_wp2
  refine wp_loop_rounds 1 ?_
  rw [rounds_succ]
  go_wp2
  go_ret
  exact ⟨rfl, rfl⟩

end Go.Proofs.YtbloejlebikecaaGreatDoor
namespace Go.Proofs.YtbloejlebikecaaGreatDoor
open Go.RowKit
set_option linter.unusedVariables false

theorem fil_filled (w : World) (base : Nat) (its : List It) (D : Nat → List UInt8) (h : Held w base its (filled its D its.length)) : Fil its (filled its D its.length) := by
  intro i g n c hi
  have hlt : i < its.length := by
    rcases Nat.lt_or_ge i its.length with h | h
    · exact h
    · rw [List.getElem?_eq_none h] at hi; cases hi
  have hget : its.getD i ⟨none, 0, 0⟩ = ⟨some g, n, c⟩ := by simp [List.getD, hi]
  simp only [filled]
  rw [if_pos hlt, hget]
  simp only [It.len]
  rw [List.take_append_of_le_length (by simp), List.take_of_length_le (by simp)]

set_option maxRecDepth 100000 in
set_option maxHeartbeats 6400000 in
theorem apart_any (base gb gv cv : Nat) (its : List It) (lg0 : Nat → Option Addr × Nat × Nat) (D : Nat → List UInt8) (w : World) (hp : 0 < its.length) (hm : its.length ≤ 1048576)
    (hk : Bk w base gb its.length (.slice (some ⟨gv, 0, none⟩) its.length cv) (flatk its lg0)) (hh : Held w base its D) (hs : Sep its) (hbase : base ≤ w.heap.size) (hgb : base ≤ gb) :
    Calls Tryz.prog 13 #[.pointer (some ⟨gb, 0, none⟩)] w fun e w' => e = .returned (.bool true) ∧ Below base w w' := by
  have HK := hid hk
  have HH := hid hh
  clear hk hh
  go_enter Tryz.func13, Tryz.ntmps13
  go_wp2_with fail
  refine (fill_any base gb gv cv its lg0 D w hp hm HK.out HH.out hs hbase).mono ?_
  rintro e w1 ⟨rfl, hk1, hh1, hb1⟩
  have HK1 := hid hk1
  have HF1 := hid (p := ∃ E, Held w1 base its E ∧ Fil its E) ⟨_, hh1, fil_filled w1 base its D hh1⟩
  have HB1 := hid hb1
  clear hk1 hh1 hb1 HK HH
  go_wp2_with fail
  refine (idle29 gb w1 (HK1.out.cell 2 _ rfl)).mono ?_
  rintro e w' ⟨rfl, rfl⟩
  go_wp2_with fail
  refine (idle30 gb w1 (HK1.out.cell 3 _ rfl)).mono ?_
  rintro e w' ⟨rfl, rfl⟩
  go_wp2_with fail
  refine (idle31 gb w1 (HK1.out.cell 4 _ rfl)).mono ?_
  rintro e w' ⟨rfl, rfl⟩
  go_wp2_with fail
  refine (idle32 gb w1 (HK1.out.cell 5 _ rfl)).mono ?_
  rintro e w' ⟨rfl, rfl⟩
  go_wp2_with fail
  refine (idle33 gb w1 (HK1.out.cell 6 _ rfl)).mono ?_
  rintro e w' ⟨rfl, rfl⟩
  go_wp2_with fail
  refine (idle34 gb w1 (HK1.out.cell 7 _ rfl)).mono ?_
  rintro e w' ⟨rfl, rfl⟩
  go_wp2_with fail
  refine (idle35 gb w1 (HK1.out.cell 8 _ rfl)).mono ?_
  rintro e w' ⟨rfl, rfl⟩
  go_wp2_with fail
  refine (idle36 gb w1 (HK1.out.cell 9 _ rfl)).mono ?_
  rintro e w' ⟨rfl, rfl⟩
  go_wp2_with fail
  refine (idle37 gb w1 (HK1.out.cell 10 _ rfl)).mono ?_
  rintro e w' ⟨rfl, rfl⟩
  go_wp2_with fail
  refine (idle38 gb w1 (HK1.out.cell 11 _ rfl)).mono ?_
  rintro e w' ⟨rfl, rfl⟩
  go_wp2_with fail
  refine (idle39 gb w1 (HK1.out.cell 12 _ rfl)).mono ?_
  rintro e w' ⟨rfl, rfl⟩
  go_wp2_with fail
  refine (idle40 gb w1 (HK1.out.cell 13 _ rfl)).mono ?_
  rintro e w' ⟨rfl, rfl⟩
  go_wp2_with fail
  refine (idle41 gb w1 (HK1.out.cell 14 _ rfl)).mono ?_
  rintro e w' ⟨rfl, rfl⟩
  go_wp2_with fail
  refine (idle42 gb w1 (HK1.out.cell 15 _ rfl)).mono ?_
  rintro e w' ⟨rfl, rfl⟩
  go_wp2_with fail
  refine (grow_any base gb gv cv its lg0 w1 hp hm HK1.out HF1.out hs (Nat.le_trans hbase HB1.out.size) hgb).mono ?_
  rintro e w2 ⟨rfl, lg, hk2, hh2, hl2, hb2⟩
  have HK2 := hid hk2
  have HF2 := hid hh2
  have HL2 := hid hl2
  have HB2 := hid (HB1.out.trans hb2)
  clear hk2 hh2 hl2 hb2 HK1 HF1 HB1
  go_wp2_with fail
  refine (idle44 gb w2 (HK2.out.cell 2 _ rfl)).mono ?_
  rintro e w' ⟨rfl, rfl⟩
  go_wp2_with fail
  refine (idle45 gb w2 (HK2.out.cell 3 _ rfl)).mono ?_
  rintro e w' ⟨rfl, rfl⟩
  go_wp2_with fail
  refine (idle46 gb w2 (HK2.out.cell 4 _ rfl)).mono ?_
  rintro e w' ⟨rfl, rfl⟩
  go_wp2_with fail
  refine (idle47 gb w2 (HK2.out.cell 5 _ rfl)).mono ?_
  rintro e w' ⟨rfl, rfl⟩
  go_wp2_with fail
  refine (idle48 gb w2 (HK2.out.cell 6 _ rfl)).mono ?_
  rintro e w' ⟨rfl, rfl⟩
  go_wp2_with fail
  refine (idle49 gb w2 (HK2.out.cell 7 _ rfl)).mono ?_
  rintro e w' ⟨rfl, rfl⟩
  go_wp2_with fail
  refine (idle50 gb w2 (HK2.out.cell 8 _ rfl)).mono ?_
  rintro e w' ⟨rfl, rfl⟩
  go_wp2_with fail
  refine (idle51 gb w2 (HK2.out.cell 9 _ rfl)).mono ?_
  rintro e w' ⟨rfl, rfl⟩
  go_wp2_with fail
  refine (idle52 gb w2 (HK2.out.cell 10 _ rfl)).mono ?_
  rintro e w' ⟨rfl, rfl⟩
  go_wp2_with fail
  refine (idle53 gb w2 (HK2.out.cell 11 _ rfl)).mono ?_
  rintro e w' ⟨rfl, rfl⟩
  go_wp2_with fail
  refine (idle54 gb w2 (HK2.out.cell 12 _ rfl)).mono ?_
  rintro e w' ⟨rfl, rfl⟩
  go_wp2_with fail
  refine (idle55 gb w2 (HK2.out.cell 13 _ rfl)).mono ?_
  rintro e w' ⟨rfl, rfl⟩
  go_wp2_with fail
  refine (idle56 gb w2 (HK2.out.cell 14 _ rfl)).mono ?_
  rintro e w' ⟨rfl, rfl⟩
  go_wp2_with fail
  refine (idle57 gb w2 (HK2.out.cell 15 _ rfl)).mono ?_
  rintro e w' ⟨rfl, rfl⟩
  go_wp2_with fail
  refine (look_any base gb gv cv w1.heap.size its lg w2 hp hm HK2.out HF2.out HL2.out).mono ?_
  rintro e w3 ⟨rfl, hb3⟩
  have HK3 := hid (HK2.out.below hb3)
  have HB3 := hid (HB2.out.trans (hb3.mono (Nat.le_trans hbase HB2.out.size)))
  clear hb3 HK2 HF2 HL2 HB2
  go_wp2_with fail
  refine (idle59 gb w3 (HK3.out.cell 2 _ rfl)).mono ?_
  rintro e w' ⟨rfl, rfl⟩
  go_wp2_with fail
  refine (idle60 gb w3 (HK3.out.cell 3 _ rfl)).mono ?_
  rintro e w' ⟨rfl, rfl⟩
  go_wp2_with fail
  refine (idle61 gb w3 (HK3.out.cell 4 _ rfl)).mono ?_
  rintro e w' ⟨rfl, rfl⟩
  go_wp2_with fail
  refine (idle62 gb w3 (HK3.out.cell 5 _ rfl)).mono ?_
  rintro e w' ⟨rfl, rfl⟩
  go_wp2_with fail
  refine (idle63 gb w3 (HK3.out.cell 6 _ rfl)).mono ?_
  rintro e w' ⟨rfl, rfl⟩
  go_wp2_with fail
  refine (idle64 gb w3 (HK3.out.cell 7 _ rfl)).mono ?_
  rintro e w' ⟨rfl, rfl⟩
  go_wp2_with fail
  refine (idle65 gb w3 (HK3.out.cell 8 _ rfl)).mono ?_
  rintro e w' ⟨rfl, rfl⟩
  go_wp2_with fail
  refine (idle66 gb w3 (HK3.out.cell 9 _ rfl)).mono ?_
  rintro e w' ⟨rfl, rfl⟩
  go_wp2_with fail
  refine (idle67 gb w3 (HK3.out.cell 10 _ rfl)).mono ?_
  rintro e w' ⟨rfl, rfl⟩
  go_wp2_with fail
  refine (idle68 gb w3 (HK3.out.cell 11 _ rfl)).mono ?_
  rintro e w' ⟨rfl, rfl⟩
  go_wp2_with fail
  refine (idle69 gb w3 (HK3.out.cell 12 _ rfl)).mono ?_
  rintro e w' ⟨rfl, rfl⟩
  go_wp2_with fail
  refine (idle70 gb w3 (HK3.out.cell 13 _ rfl)).mono ?_
  rintro e w' ⟨rfl, rfl⟩
  go_wp2_with fail
  refine (idle71 gb w3 (HK3.out.cell 14 _ rfl)).mono ?_
  rintro e w' ⟨rfl, rfl⟩
  go_wp2_with fail
  refine (idle72 gb w3 (HK3.out.cell 15 _ rfl)).mono ?_
  rintro e w' ⟨rfl, rfl⟩
  go_wp2
  go_ret
  exact ⟨rfl, HB3.out⟩
end Go.Proofs.YtbloejlebikecaaGreatDoor
namespace Go.Proofs.YtbloejlebikecaaGreatDoor
open Go.RowKit
set_option linter.unusedVariables false

/-- blocks of bytes that are known whole -/
def Rwk (w : World) (L : List (Nat × List UInt8)) : Prop := ∀ p ∈ L, Row w p.1 p.2
theorem Rwk.nil (w : World) : Rwk w [] := fun p h => by cases h
theorem Rwk.below {w w' : World} {L : List (Nat × List UInt8)} (h : Rwk w L) (hb : Below w.heap.size w w') : Rwk w' L := fun p hp => (h p hp).below hb (h p hp).lt
theorem Rwk.add {w : World} {L : List (Nat × List UInt8)} (h : Rwk w L) {g : Nat} {bs : List UInt8} (hr : Row w g bs) : Rwk w ((g, bs) :: L) := by
  intro p hp
  rcases List.mem_cons.1 hp with rfl | hp
  · exact hr
  · exact h p hp
theorem Rwk.get {w : World} {L : List (Nat × List UInt8)} (h : Rwk w L) {g : Nat} {bs : List UInt8} (hm : (g, bs) ∈ L) : Row w g bs := h (g, bs) hm

/-- what is carried: nothing below w has changed; a box; blocks of bytes -/
structure Car (w : World) (gz : Nat) (zc : Array Value) (zt : TypeId) (L : List (Nat × List UInt8)) (wk : World) : Prop where
  bel : Below w.heap.size w wk
  box : wk.heap[gz]? = some (.cells zc zt (0, 0))
  row : Rwk wk L
theorem Car.below {w : World} {gz : Nat} {zc : Array Value} {zt : TypeId} {L : List (Nat × List UInt8)} {wk w' : World} (h : Car w gz zc zt L wk) (hb : Below wk.heap.size wk w') : Car w gz zc zt L w' :=
  ⟨h.bel.trans (hb.mono h.bel.size), (hb.block gz (lt_of_block h.box)).trans h.box, h.row.below hb⟩
theorem Car.alloc {w : World} {gz : Nat} {zc : Array Value} {zt : TypeId} {L : List (Nat × List UInt8)} {wk : World} (h : Car w gz zc zt L wk) (o : Obj) : Car w gz zc zt L (wk.alloc o) := h.below ((Below.refl _ _).alloc (Nat.le_refl _) o)
theorem Car.add {w : World} {gz : Nat} {zc : Array Value} {zt : TypeId} {L : List (Nat × List UInt8)} {wk : World} (h : Car w gz zc zt L wk) {g : Nat} {bs : List UInt8} (hr : Row wk g bs) : Car w gz zc zt ((g, bs) :: L) wk := ⟨h.bel, h.box, h.row.add hr⟩
theorem Car.drewN {w : World} {gz : Nat} {zc : Array Value} {zt : TypeId} {L : List (Nat × List UInt8)} {wk : World} (h : Car w gz zc zt L wk) (k : Nat) : Car w gz zc zt L (wk.drewN k) := ⟨below_drewN h.bel k, h.box, h.row⟩
theorem Car.cell {w : World} {gz : Nat} {zc : Array Value} {zt : TypeId} {L : List (Nat × List UInt8)} {wk : World} (h : Car w gz zc zt L wk) (i : Nat) (v : Value) (hv : zc[i]? = some v) : wk.cell? ⟨gz, i, none⟩ = some v := by
  rw [cell_of_row wk gz i _ zt (0, 0) h.box, hv]

/-- a block of bytes is none of the Book's -/
theorem Row.kp {w w' : World} {base gb m : Nat} {V : Value} {xs : List Value} {g : Nat} {bs : List UInt8} (h : Row w g bs) (hk : Bk w base gb m V xs) (hp : Kp gb V w w') : Row w' g bs := by
  have h' : w.heap[g]? = some (.cells (bvs bs).toArray 5 (0, 0)) := h
  refine (hp.block g h.lt ?_ ?_).trans h
  · rintro rfl
    have := hk.blk
    rw [h'] at this
    simp at this
  · intro e
    rcases hk.own.2 with ⟨rfl, _⟩ | ⟨g', cap, cur, rfl, _, h3, _⟩
    · simp [Value.ownBlock] at e
    · obtain rfl : g = g' := by simpa [Value.ownBlock] using e
      rw [h'] at h3
      simp at h3

/-- the Book while it is filled -/
structure Bks (w : World) (gb m : Nat) (xs : List Value) (L : List (Nat × List UInt8)) (wk : World) : Prop where
  bel : Below w.heap.size w wk
  row : Rwk wk L
  book : ∃ V, Bk wk w.heap.size gb m V xs
  at_ : w.heap.size ≤ gb

set_option maxRecDepth 100000 in
theorem bytes_any (A : Option Addr) (n c gb m : Nat) (xs : List Value) (L : List (Nat × List UInt8)) (w wk : World) (h : Bks w gb m xs L wk) (hm : m ≤ 1000) :
    Calls Tryz.prog 10 #[.pointer (some ⟨gb, 0, none⟩), .slice A n c] wk fun e w' => e = .returned (.tuple #[]) ∧ Bks w gb (m + 1) (xs ++ [.slice A n c, nl, .int .i64 ((m + 1 : Nat) : Int)]) L w' := by
  obtain ⟨V, hV⟩ := h.book
  have HK := hid (keep_any A n c w.heap.size gb m V xs wk hV (by omega) h.bel.size)
  go_enter Tryz.func10, Tryz.ntmps10
  go_wp2_with fail
  refine HK.out.mono ?_
  rintro e w2 ⟨rfl, V', hV', hkp⟩
  have HF := hid (p := Bks w gb (m + 1) (xs ++ [.slice A n c, nl, .int .i64 ((m + 1 : Nat) : Int)]) L w2) (by
    refine ⟨?_, fun p hp => (h.row p hp).kp hV hkp, ⟨V', hV'⟩, h.at_⟩
    refine h.bel.trans ⟨hkp.os, hkp.tape, hkp.output, hkp.size, fun k hk => hkp.block k (Nat.lt_of_lt_of_le hk h.bel.size) ?_ ?_⟩
    · have := h.at_
      omega
    · intro e
      have := (World.ownsRow.lt hV.own k e.symm).1
      omega)
  clear hV' hkp
  go_wp2
  go_end0
  exact ⟨rfl, HF.out⟩

/-- a new Book -/
theorem Bks.new (w : World) (L : List (Nat × List UInt8)) (wk : World) (hb : Below w.heap.size w wk) (hr : Rwk wk L) : Bks w wk.heap.size 0 [] L (wk.alloc (.cells (bookCells 0 nl) 56)) :=
  ⟨hb.alloc hb.size _, hr.below ((Below.refl _ _).alloc (Nat.le_refl _) _), ⟨nl, ⟨heap_alloc_new wk _, World.ownsRow_nil _ _ _ _⟩⟩, hb.size⟩

/-- Apart, at the end -/
theorem apart_end (w wk : World) (gb : Nat) (its : List It) (L : List (Nat × List UInt8)) (hp : 0 < its.length) (hm : its.length ≤ 1000) (h : Bks w gb its.length (flatk its fun _ => (none, 0, 0)) L wk)
    (hi : ∀ (i g n c : Nat), its[i]? = some (It.mk (some g) n c) → ∃ bs, (g, bs) ∈ L ∧ bs.length = c ∧ n ≤ c ∧ w.heap.size ≤ g ∧ c ≤ 70368744177664) (hs : Sep its) :
    Calls Tryz.prog 13 #[.pointer (some ⟨gb, 0, none⟩)] wk fun e w' => e = .returned (.bool true) ∧ Below w.heap.size w w' := by
  obtain ⟨V, hV⟩ := h.book
  obtain ⟨gv, cv, rfl, _⟩ := hV.form hp
  let D : Nat → List UInt8 := fun i => match its[i]? with
    | some ⟨some g, _, _⟩ => ((L.find? fun p => p.1 == g).map (·.2)).getD []
    | _ => []
  refine (apart_any w.heap.size gb gv cv its _ D wk hp (by omega) hV ?_ hs h.bel.size h.at_).mono fun e w' ⟨he, hb⟩ => ⟨he, h.bel.trans hb⟩
  intro i g n c hic
  obtain ⟨bs, hm1, hl, hn, hb, hc⟩ := hi i g n c hic
  have hrow := h.row.get hm1
  have hD : D i = bs := by
    simp only [D, hic]
    cases hf : L.find? (fun p => p.1 == g) with
    | none =>
      have := List.find?_eq_none.1 hf (g, bs) hm1
      simp at this
    | some p =>
      have hp1 : p.1 = g := by simpa using List.find?_some hf
      have hp2 := h.row p (List.mem_of_find?_eq_some hf)
      rw [hp1] at hp2
      have h1 : wk.heap[g]? = some (.cells (bvs p.2).toArray 5 (0, 0)) := hp2
      have h2 : wk.heap[g]? = some (.cells (bvs bs).toArray 5 (0, 0)) := hrow
      rw [h1] at h2
      have h3 : bvs p.2 = bvs bs := by simpa using h2
      have h4 : p.2 = bs := by
        unfold bvs at h3
        refine (List.map_inj_right ?_).1 h3
        intro a b hab
        have hab' : ((a.toNat : Nat) : Int) = ((b.toNat : Nat) : Int) := by simpa using hab
        exact UInt8.toNat.inj (by omega)
      simpa using h4
  rw [hD]
  exact ⟨hrow, hl, hn, hb, hc⟩
end Go.Proofs.YtbloejlebikecaaGreatDoor
