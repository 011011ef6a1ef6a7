/-
  limbs.Mul, walked. Conditions: none.
-/
import Derived.Test.YtioebjbjpjbodaaDoorPkCmp
import Derived.Test.YtioebjbjpjbodaaDoorPkAh
namespace Go.Proofs.YtioebjbjpjbodaaDoor
open Go.RowKit
set_option linter.unusedVariables false

/-- what stands while two numbers are multiplied: their boxes, the answers' -/
def LFo (w : World) (x y : Nat) (w' : World) : Prop :=
  Below w.heap.size w w' ∧ Nm w' w.heap.size x ∧ Nm w' (w.heap.size + 1) y ∧ Fr w' (w.heap.size + 1 + 1) (.int .u64 0) (.int .u64 0) (.int .u64 0) (.int .u64 0) ∧ Fr w' (w.heap.size + 1 + 1 + 1) (.int .u64 0) (.int .u64 0) (.int .u64 0) (.int .u64 0)
theorem LFo.init (w : World) (x y : Nat) : LFo w x y ((((w.alloc (.cells (cls x) 24)).alloc (.cells (cls y) 24)).alloc (.cells #[.int .u64 0, .int .u64 0, .int .u64 0, .int .u64 0] 24)).alloc (.cells #[.int .u64 0, .int .u64 0, .int .u64 0, .int .u64 0] 24)) := by
  refine ⟨bal (bal (bal (bal (Below.refl _ _) _) _) _) _, (((Nm.new w x).alloc _).alloc _).alloc _, ?_, ?_, ?_⟩
  · have := ((Nm.new (w.alloc (.cells (cls x) 24)) y).alloc (.cells #[.int .u64 0, .int .u64 0, .int .u64 0, .int .u64 0] 24)).alloc (.cells #[.int .u64 0, .int .u64 0, .int .u64 0, .int .u64 0] 24)
    simpa using this
  · have := (Fr.new ((w.alloc (.cells (cls x) 24)).alloc (.cells (cls y) 24)) (.int .u64 0) (.int .u64 0) (.int .u64 0) (.int .u64 0)).alloc (.cells #[.int .u64 0, .int .u64 0, .int .u64 0, .int .u64 0] 24)
    simpa using this
  · have := Fr.new (((w.alloc (.cells (cls x) 24)).alloc (.cells (cls y) 24)).alloc (.cells #[.int .u64 0, .int .u64 0, .int .u64 0, .int .u64 0] 24)) (.int .u64 0) (.int .u64 0) (.int .u64 0) (.int .u64 0)
    simpa using this
theorem LFo.drew {w w' : World} {x y : Nat} (h : LFo w x y w') : LFo w x y w'.drew := ⟨h.1.drew, h.2.1, h.2.2.1, h.2.2.2.1, h.2.2.2.2⟩
theorem LFo.on {w w' w2 : World} {x y : Nat} (h : LFo w x y w') (hb : Below w'.heap.size w' w2) : LFo w x y w2 := ⟨bthen h.1 hb, h.2.1.on hb, h.2.2.1.on hb, h.2.2.2.1.on hb, h.2.2.2.2.on hb⟩
theorem LFo.alloc {w w' : World} {x y : Nat} (h : LFo w x y w') (o : Obj) : LFo w x y (w'.alloc o) := h.on (bal (Below.refl _ _) o)
theorem LFo.sz {w w' : World} {x y : Nat} (h : LFo w x y w') : w.heap.size + 1 + 1 + 1 < w'.heap.size := h.2.2.2.2.lt
theorem LFo.cell {w w' : World} {x y : Nat} (h : LFo w x y w') : w'.cell? ⟨w.heap.size, 0, none⟩ = some (.int .u64 (wd x 0 : Int)) ∧ w'.cell? ⟨w.heap.size, 1, none⟩ = some (.int .u64 (wd x 1 : Int)) ∧ w'.cell? ⟨w.heap.size, 2, none⟩ = some (.int .u64 (wd x 2 : Int)) ∧ w'.cell? ⟨w.heap.size, 3, none⟩ = some (.int .u64 (wd x 3 : Int)) ∧ w'.cell? ⟨w.heap.size + 1, 0, none⟩ = some (.int .u64 (wd y 0 : Int)) ∧ w'.cell? ⟨w.heap.size + 1, 1, none⟩ = some (.int .u64 (wd y 1 : Int)) ∧ w'.cell? ⟨w.heap.size + 1, 2, none⟩ = some (.int .u64 (wd y 2 : Int)) ∧ w'.cell? ⟨w.heap.size + 1, 3, none⟩ = some (.int .u64 (wd y 3 : Int)) := by
  obtain ⟨a, b, c, d⟩ := h.2.1.cell
  obtain ⟨e, f, g, i⟩ := h.2.2.1.cell
  exact ⟨a, b, c, d, e, f, g, i⟩
theorem LFo.set {w w' : World} {x y : Nat} (h : LFo w x y w') (g i : Nat) (v : Value) (hg : w.heap.size + 1 + 1 + 1 < g) : LFo w x y (w'.setCell ⟨g, i, none⟩ v) :=
  ⟨h.1.setCell (by simp; omega) v, (Below.heap_setCell w' ⟨g, i, none⟩ v w.heap.size (by simp; omega)).trans h.2.1, (Below.heap_setCell w' ⟨g, i, none⟩ v (w.heap.size + 1) (by simp; omega)).trans h.2.2.1, h.2.2.2.1.setOther v (by omega), h.2.2.2.2.setOther v (by omega)⟩

/-- digits as cells -/
def dvs (ps : List Nat) : List Value := ps.map fun (d : Nat) => .int .u32 (d : Int)
/-- block g holds these digits -/
def Pr (w : World) (g : Nat) (ps : List Nat) : Prop := w.heap[g]? = some (.cells (dvs ps).toArray 88 (0, 0))
theorem Pr.lt {w : World} {g : Nat} {ps : List Nat} (h : Pr w g ps) : g < w.heap.size := lt_of_block h
theorem Pr.cell {w : World} {g : Nat} {ps : List Nat} (h : Pr w g ps) (k : Nat) (hk : k < ps.length) : w.cell? ⟨g, k, none⟩ = some (.int .u32 (ps[k] : Int)) := by
  rw [cell_of_row w g k _ 88 (0, 0) h]; simp [dvs, hk]
theorem Pr.frozen {w : World} {g : Nat} {ps : List Nat} (h : Pr w g ps) (i : Nat) : w.frozen? ⟨g, i, none⟩ = false := by
  unfold Pr at h; simp [World.frozen?, h]
theorem Pr.set {w : World} {g : Nat} {ps : List Nat} (h : Pr w g ps) (k v : Nat) : Pr (w.setCell ⟨g, k, none⟩ (.int .u32 (v : Int))) g (ps.set k v) := by
  unfold Pr at h ⊢; simp [World.setCell, Array.getElem?_modify, h, dvs, List.map_set]
/-- the second one's halves stay where they are -/
theorem H8.set {w : World} {g g' x i : Nat} (h : H8 w g x) (hne : g' ≠ g) (v : Value) : H8 (w.setCell ⟨g', i, none⟩ v) g x := by
  obtain ⟨h0, h1, h2, h3, h4, h5, h6, h7⟩ := h
  unfold H8
  refine ⟨?_, ?_, ?_, ?_, ?_, ?_, ?_, ?_⟩ <;> rw [World.cell?_setCell_far _ _ _ _ hne] <;> assumption

theorem H8.lt {w : World} {g x : Nat} (h : H8 w g x) : g < w.heap.size := World.block_lt_of_cell? w ⟨g, 0, none⟩ h.1
theorem H8.alloc {w : World} {g x : Nat} (h : H8 w g x) (o : Obj) : H8 (w.alloc o) g x := by
  have hl := h.lt
  obtain ⟨h0, h1, h2, h3, h4, h5, h6, h7⟩ := h
  unfold H8
  refine ⟨?_, ?_, ?_, ?_, ?_, ?_, ?_, ?_⟩ <;> rw [World.cell?_alloc_lt _ _ _ hl] <;> assumption
theorem idx8_0 (x : Nat) (w : World) : (Instr.index 67 (.agg (hcls x)) (.int .i64 0)).run Tryd.prog w = .ok (.int .u32 (hf x 0 : Int)) w := by kernel_rfl
theorem idx8_1 (x : Nat) (w : World) : (Instr.index 67 (.agg (hcls x)) (.int .i64 1)).run Tryd.prog w = .ok (.int .u32 (hf x 1 : Int)) w := by kernel_rfl
theorem idx8_2 (x : Nat) (w : World) : (Instr.index 67 (.agg (hcls x)) (.int .i64 2)).run Tryd.prog w = .ok (.int .u32 (hf x 2 : Int)) w := by kernel_rfl
theorem idx8_3 (x : Nat) (w : World) : (Instr.index 67 (.agg (hcls x)) (.int .i64 3)).run Tryd.prog w = .ok (.int .u32 (hf x 3 : Int)) w := by kernel_rfl
theorem idx8_4 (x : Nat) (w : World) : (Instr.index 67 (.agg (hcls x)) (.int .i64 4)).run Tryd.prog w = .ok (.int .u32 (hf x 4 : Int)) w := by kernel_rfl
theorem idx8_5 (x : Nat) (w : World) : (Instr.index 67 (.agg (hcls x)) (.int .i64 5)).run Tryd.prog w = .ok (.int .u32 (hf x 5 : Int)) w := by kernel_rfl
theorem idx8_6 (x : Nat) (w : World) : (Instr.index 67 (.agg (hcls x)) (.int .i64 6)).run Tryd.prog w = .ok (.int .u32 (hf x 6 : Int)) w := by kernel_rfl
theorem idx8_7 (x : Nat) (w : World) : (Instr.index 67 (.agg (hcls x)) (.int .i64 7)).run Tryd.prog w = .ok (.int .u32 (hf x 7 : Int)) w := by kernel_rfl
theorem idx8 (x k : Nat) (hk : k < 8) (w : World) : (Instr.index 67 (.agg (hcls x)) (.int .i64 (k : Int))).run Tryd.prog w = .ok (.int .u32 (hf x k : Int)) w := by
  match k, hk with
  | 0, _ => exact idx8_0 x w
  | 1, _ => exact idx8_1 x w
  | 2, _ => exact idx8_2 x w
  | 3, _ => exact idx8_3 x w
  | 4, _ => exact idx8_4 x w
  | 5, _ => exact idx8_5 x w
  | 6, _ => exact idx8_6 x w
  | 7, _ => exact idx8_7 x w
theorem step_copy8 {ops : Array Oper} {o : Oper} {a : Act} {w : World} {K : Act → World → Prop} {Q : Exit → Act → World → Prop} {E : Prop} (hgd : o.guard = none) (d s : Operand)
    (ho : o.op = .call { callee := .builtin .copy, args := #[d, s], argTypes := #[89, 89] }) (g gs off sC : Nat) (hd : a.eval d = .slice (some ⟨g, 0, none⟩) 8 8) (hs : a.eval s = .slice (some ⟨gs, off, none⟩) 8 sC)
    (cs : List Nat) (hlen : cs.length = 8) (cur : List Value) (hcur : cur.length = 8) (hg : w.heap[g]? = some (.cells cur.toArray 67 (0, 0))) (hsrc : ∀ j, (h : j < cs.length) → w.cell? ⟨gs, off + j, none⟩ = some (.int .u32 (cs[j] : Int)))
    (h : K (a.put o.dst (goInt 8)) (w.setRow g (dvs cs).toArray)) :
    if Region.wanted o (yielded ops a.tmps) = true then Oper.wp Tryd.prog o a w K Q else E := by
  have hw : Region.wanted o (yielded ops a.tmps) = true := by simp [Region.wanted, hgd]
  rw [if_pos hw]
  have hl : (dvs cs).length = 8 := by simp [dvs, hlen]
  have hrun := run_copy_row (P := Tryd.prog) w 89 89 o.type 65 g 0 8 8 ⟨gs, off, none⟩ 8 sC cur.toArray 67 (dvs cs) Tryd.underlying89 (by kernel_rfl) hg (by rw [hl]; rfl) (fun j v hv => by
    have hj : j < cs.length := by
      rcases Nat.lt_or_ge j cs.length with h | h
      · exact h
      · rw [List.getElem?_eq_none (by simpa [dvs] using h)] at hv; cases hv
    simp [dvs, hj] at hv
    rw [add_plain, hsrc j hj, hv]) (by simp [hl, hcur]) (by
      intro v hv
      simp only [dvs, List.mem_map] at hv
      obtain ⟨b, _, rfl⟩ := hv
      rfl)
  have e : (cur.toArray.toList.take 0 ++ dvs cs ++ cur.toArray.toList.drop (0 + (dvs cs).length)) = dvs cs := by
    rw [hl, List.drop_eq_nil_of_le (by simp [hcur])]; simp
  rw [e, hl] at hrun
  unfold Oper.wp
  simp [execOp, ho, resolve, invoke, builtin, hd, hs, hrun, Result.andThen]
  exact h
theorem LFo.row {w w' : World} {x y : Nat} (h : LFo w x y w') (g : Nat) (cs : Array Value) (hg : w.heap.size + 1 + 1 + 1 < g) : LFo w x y (w'.setRow g cs) :=
  ⟨below_setRow h.1 (by omega) cs, (setRow_other w' g w.heap.size cs (by omega)).trans h.2.1, (setRow_other w' g (w.heap.size + 1) cs (by omega)).trans h.2.2.1, (setRow_other w' g (w.heap.size + 1 + 1) cs (by omega)).trans h.2.2.2.1, (setRow_other w' g (w.heap.size + 1 + 1 + 1) cs (by omega)).trans h.2.2.2.2⟩
/-- eight digits of a number in a block are its halves -/
theorem H8.of {w : World} {g n : Nat} {cs : List Nat} (hlen : cs.length = 8) (hc : ∀ k, (h : k < cs.length) → cs[k] = hf n k) (hg : w.heap[g]? = some (.cells (dvs cs).toArray 67 (0, 0))) : H8 w g n := by
  have key : ∀ k, k < 8 → w.cell? ⟨g, k, none⟩ = some (.int .u32 (hf n k : Int)) := by
    intro k hk
    rw [cell_of_row w g k _ 67 (0, 0) hg, ← hc k (by omega)]
    simp [dvs, hlen, hk]
  exact ⟨key 0 (by omega), key 1 (by omega), key 2 (by omega), key 3 (by omega), key 4 (by omega), key 5 (by omega), key 6 (by omega), key 7 (by omega)⟩
theorem H8.drew {w : World} {g x : Nat} (h : H8 w g x) : H8 w.drew g x := h
theorem both8 {w : World} {gA lo hi : Nat} (h1 : H8 w gA lo) (h2 : H8 w (gA + 1) hi) : w.cell? ⟨gA, 0, none⟩ = some (.int .u32 (hf lo 0 : Int)) ∧ w.cell? ⟨gA, 1, none⟩ = some (.int .u32 (hf lo 1 : Int)) ∧ w.cell? ⟨gA, 2, none⟩ = some (.int .u32 (hf lo 2 : Int)) ∧ w.cell? ⟨gA, 3, none⟩ = some (.int .u32 (hf lo 3 : Int)) ∧ w.cell? ⟨gA, 4, none⟩ = some (.int .u32 (hf lo 4 : Int)) ∧ w.cell? ⟨gA, 5, none⟩ = some (.int .u32 (hf lo 5 : Int)) ∧ w.cell? ⟨gA, 6, none⟩ = some (.int .u32 (hf lo 6 : Int)) ∧ w.cell? ⟨gA, 7, none⟩ = some (.int .u32 (hf lo 7 : Int)) ∧ w.cell? ⟨gA + 1, 0, none⟩ = some (.int .u32 (hf hi 0 : Int)) ∧ w.cell? ⟨gA + 1, 1, none⟩ = some (.int .u32 (hf hi 1 : Int)) ∧ w.cell? ⟨gA + 1, 2, none⟩ = some (.int .u32 (hf hi 2 : Int)) ∧ w.cell? ⟨gA + 1, 3, none⟩ = some (.int .u32 (hf hi 3 : Int)) ∧ w.cell? ⟨gA + 1, 4, none⟩ = some (.int .u32 (hf hi 4 : Int)) ∧ w.cell? ⟨gA + 1, 5, none⟩ = some (.int .u32 (hf hi 5 : Int)) ∧ w.cell? ⟨gA + 1, 6, none⟩ = some (.int .u32 (hf hi 6 : Int)) ∧ w.cell? ⟨gA + 1, 7, none⟩ = some (.int .u32 (hf hi 7 : Int)) := by
  obtain ⟨a0, a1, a2, a3, a4, a5, a6, a7⟩ := h1
  obtain ⟨b0, b1, b2, b3, b4, b5, b6, b7⟩ := h2
  exact ⟨a0, a1, a2, a3, a4, a5, a6, a7, b0, b1, b2, b3, b4, b5, b6, b7⟩
/-- what the loops carry: the digits so far, the second one's halves, all that stands besides -/
def Lp (w : World) (x y g7 g8 : Nat) (ps : List Nat) (w' : World) : Prop := Pr w' g8 ps ∧ H8 w' g7 y ∧ LFo w x y w' ∧ g8 ≠ g7 ∧ w.heap.size + 1 + 1 + 1 < g8 ∧ ps.length = 16 ∧ ∀ d ∈ ps, d < 4294967296
theorem Lp.init {w w' : World} {x y g7 : Nat} (hy : H8 w' g7 y) (hf : LFo w x y w') : Lp w x y g7 w'.heap.size (List.replicate 16 0) (w'.alloc (.cells #[.int .u32 0, .int .u32 0, .int .u32 0, .int .u32 0, .int .u32 0, .int .u32 0, .int .u32 0, .int .u32 0, .int .u32 0, .int .u32 0, .int .u32 0, .int .u32 0, .int .u32 0, .int .u32 0, .int .u32 0, .int .u32 0] 88)) :=
  ⟨heap_alloc_new _ _, hy.alloc _, hf.alloc _, by have := hy.lt; omega, hf.sz, by simp, by simp⟩
theorem Lp.set {w w' : World} {x y g7 g8 : Nat} {ps : List Nat} (h : Lp w x y g7 g8 ps w') (k v : Nat) (hv : v < 4294967296) : Lp w x y g7 g8 (ps.set k v) (w'.setCell ⟨g8, k, none⟩ (.int .u32 (v : Int))) := by
  obtain ⟨h1, h2, h3, h4, h5, h6, h7⟩ := h
  refine ⟨h1.set k v, h2.set h4 _, h3.set _ _ _ h5, h4, h5, by simpa using h6, fun d hd => ?_⟩
  rcases List.mem_or_eq_of_mem_set hd with h | h
  · exact h7 d h
  · omega

set_option maxRecDepth 100000 in
set_option maxHeartbeats 1600000 in
theorem mul_any (x y : Nat) (w : World) (hx : x < 2 ^ 256) (hy : y < 2 ^ 256) :
    Calls Tryd.prog 42 #[num x, num y] w fun e w' => e = .returned (.tuple #[num (x * y % 2 ^ 256), num (x * y / 2 ^ 256)]) ∧ Below w.heap.size w w' := by
  go_enter Tryd.func42, Tryd.ntmps42
  go_upto_region 1 with fail
  have HT := hid (LFo.init w x y)
  generalize (((w.alloc (.cells (cls x) 24)).alloc (.cells (cls y) 24)).alloc (.cells #[.int .u64 0, .int .u64 0, .int .u64 0, .int .u64 0] 24)).alloc (.cells #[.int .u64 0, .int .u64 0, .int .u64 0, .int .u64 0] 24) = w0 at *
  go_cut [6, 7] (fun s6 s7 wx => ∃ g6 g7 : Nat, s6 = .pointer (some ⟨g6, 0, none⟩) ∧ s7 = .pointer (some ⟨g7, 0, none⟩) ∧ Hid (H8 wx g6 x) ∧ Hid (H8 wx g7 y) ∧ Hid (LFo w x y wx))
  case first =>
    have cs := HT.out.cell
    have hz0 := HT.out.sz
    go_region_held3 (fun w' => w'.cell? ⟨w.heap.size, 0, none⟩ = some (.int .u64 (wd x 0 : Int)) ∧ w'.cell? ⟨w.heap.size, 1, none⟩ = some (.int .u64 (wd x 1 : Int)) ∧ w'.cell? ⟨w.heap.size, 2, none⟩ = some (.int .u64 (wd x 2 : Int)) ∧ w'.cell? ⟨w.heap.size, 3, none⟩ = some (.int .u64 (wd x 3 : Int)) ∧ w'.cell? ⟨w.heap.size + 1, 0, none⟩ = some (.int .u64 (wd y 0 : Int)) ∧ w'.cell? ⟨w.heap.size + 1, 1, none⟩ = some (.int .u64 (wd y 1 : Int)) ∧ w'.cell? ⟨w.heap.size + 1, 2, none⟩ = some (.int .u64 (wd y 2 : Int)) ∧ w'.cell? ⟨w.heap.size + 1, 3, none⟩ = some (.int .u64 (wd y 3 : Int)))
      (first | exact cs | exact LFo.cell (by repeat (first | exact HT.out | refine LFo.alloc ?_ _ | refine LFo.drew ?_)))
      (first | (go_at_call 33; refine (split_ex _ _).mono ?_; rintro e w1 ⟨rfl, rfl⟩))
    all_goals
      go_wp2_with fail
      go_meet
      refine ⟨_, _, rfl, rfl, hid ?_, hid ?_, hid ?_⟩
      · unfold H8; go_simp
      · unfold H8; go_simp
      · repeat (first | exact HT.out | refine LFo.alloc ?_ _ | refine LFo.drew ?_)
  case rest =>
    obtain ⟨g6, g7, rfl, rfl, HX, HY, HW⟩ := hcut
    clear HT
    obtain ⟨x0, x1, x2, x3, x4, x5, x6, x7⟩ := HX.out
    have hg6 := HX.out.lt
    have HL := hid (Lp.init HY.out HW.out)
    go_wp2
    clear x0 x1 x2 x3 x4 x5 x6 x7 HX HY HW hg6
    generalize wc.alloc (.cells #[.int .u32 0, .int .u32 0, .int .u32 0, .int .u32 0, .int .u32 0, .int .u32 0, .int .u32 0, .int .u32 0, .int .u32 0, .int .u32 0, .int .u32 0, .int .u32 0, .int .u32 0, .int .u32 0, .int .u32 0, .int .u32 0] 88) = w8 at *
    generalize wc.heap.size = g8 at *
    have HV := hid (val_zero 16)
    have HLy := hid hy
    have HLx := hid hx
    clear hx hy
    go_loopw [21] (fun i wr => ∃ (k : Nat) (ps : List Nat), k ≤ 8 ∧ i = .int .i64 k ∧ Hid (Lp w x y g7 g8 ps wr) ∧ Hid (∀ m, k + 8 ≤ m → (h : m < ps.length) → ps[m] = 0) ∧ Hid (val ps = x % 4294967296 ^ k * y)) (fun i _ => 8 - (intOf i).toNat)
    case atStart => exact ⟨0, List.replicate 16 0, by omega, rfl, HL, hid (fun m _ h => List.getElem_replicate ..), hid (by rw [HV.out, Nat.pow_zero, Nat.mod_one, Nat.zero_mul])⟩
    case round =>
      obtain ⟨k, ps, hk, rfl, HL, HZ, HV⟩ := hrel
      by_cases hlt : k < 8
      · obtain ⟨y0, y1, y2, y3, y4, y5, y6, y7⟩ := HL.out.2.1
        have hix := idx8 x k hlt
        go_wp2
        clear y0 y1 y2 y3 y4 y5 y6 y7 hix
        have hp := hf_lt x k
        go_loopw [11, 26] (fun c j wi => ∃ (m cy : Nat) (qs : List Nat), m ≤ 8 ∧ j = .int .i64 m ∧ c = .int .u64 cy ∧ cy < 4294967296 ∧ Hid (Lp w x y g7 g8 qs wi) ∧ Hid (∀ m, k + 8 ≤ m → (h : m < qs.length) → qs[m] = 0) ∧ Hid (val qs + cy * 4294967296 ^ (k + m) = x % 4294967296 ^ k * y + hf x k * (y % 4294967296 ^ m) * 4294967296 ^ k)) (fun _ j _ => 8 - (intOf j).toNat)
        case atStart => exact ⟨0, 0, ps, by omega, rfl, rfl, by omega, HL, HZ, hid (by rw [HV.out, Nat.pow_zero, Nat.mod_one, Nat.zero_mul, Nat.mul_zero, Nat.zero_mul])⟩
        case round =>
          obtain ⟨m, cy, qs, hm, rfl, rfl, hc, HL, HZ, HV⟩ := hrel
          by_cases hlt2 : m < 8
          · have hix := idx8 y m hlt2
            have hq := hf_lt y m
            have hlen := HL.out.2.2.2.2.2.1
            have hkm : k + m < qs.length := by omega
            have cd := HL.out.1.cell (k + m) hkm
            have hd := HL.out.2.2.2.2.2.2 _ (List.getElem_mem hkm)
            have cf := HL.out.1.frozen (k + m)
            have hpq := pq_le hp hq
            have hb0 : (0 : Int) ≤ (hf x k : Int) * (hf y m : Int) := Int.mul_nonneg (by omega) (by omega)
            have hb1 : (hf x k : Int) * (hf y m : Int) ≤ 18446744065119617025 := by rw [← Int.natCast_mul]; omega
            generalize hde : qs[k + m] = d at *
            have HD := hid hde
            clear hde
            have HK := hid hkm
            have HP := hid hpq
            clear hlen hpq
            go_wp2
            go_roundw
            case rel =>
              obtain ⟨t, ht⟩ : ∃ t : Nat, t = cy + (hf x k * hf y m + d) := ⟨_, rfl⟩
              have hti : (cy : Int) + ((hf x k : Int) * (hf y m : Int) + (d : Int)) = (t : Int) := by rw [ht]; simp
              have htl : t < 18446744073709551616 := by have := HP.out; omega
              have hk := HK.out
              have hst := in_step qs (x % 4294967296 ^ k * y) (hf x k) cy y k m t hk (by rw [ht, HD.out]) HV.out
              refine ⟨m + 1, t / 4294967296, qs.set (k + m) (t % 4294967296), by omega, by go_num, ?_, by omega, hid ?_, hid ?_, hid hst⟩
              · rw [hti]; simp
              · rw [hti]
                have := HL.out.set (k + m) (t % 4294967296) (by omega)
                simpa using this
              · intro n hn h
                rw [List.getElem_set, if_neg (by omega)]
                exact HZ.out n hn (by simpa using h)
            case measure => simp [intOf]; omega
          · obtain rfl : m = 8 := by omega
            have hlen := HL.out.2.2.2.2.2.1
            have hkm : k + 8 < qs.length := by omega
            have cd := HL.out.1.cell (k + 8) hkm
            have cf := HL.out.1.frozen (k + 8)
            have HK := hid hkm
            generalize qs[k + 8] = d at cd
            clear hlen hkm
            go_wp2
            go_roundw
            case rel =>
              have hk8 := HK.out
              have hz := HZ.out (k + 8) (Nat.le_refl _) hk8
              have hst := out_step qs x y cy k HLy.out hk8 hz HV.out
              refine ⟨k + 1, qs.set (k + 8) cy, by omega, by go_num, hid ?_, hid ?_, hid hst⟩
              · exact HL.out.set (k + 8) cy hc
              · intro n hn h
                rw [List.getElem_set, if_neg (by omega)]
                exact HZ.out n (by omega) (by simpa using h)
            case measure => simp [intOf]; omega
      · obtain rfl : k = 8 := by omega
        go_wp2
        obtain ⟨HA, HB, HF, -, hg8, hlen, hdg⟩ := HL.out
        have HP := hid (p := Pr ((wr.alloc (.cells #[.int .u32 0, .int .u32 0, .int .u32 0, .int .u32 0, .int .u32 0, .int .u32 0, .int .u32 0, .int .u32 0] 67)).alloc (.cells #[.int .u32 0, .int .u32 0, .int .u32 0, .int .u32 0, .int .u32 0, .int .u32 0, .int .u32 0, .int .u32 0] 67)) g8 ps) ((Below.heap_alloc _ _ _ (by have := HA.lt; simp; omega)).trans ((Below.heap_alloc _ _ _ HA.lt).trans HA))
        have HF2 := hid ((HF.alloc (.cells #[.int .u32 0, .int .u32 0, .int .u32 0, .int .u32 0, .int .u32 0, .int .u32 0, .int .u32 0, .int .u32 0] 67)).alloc (.cells #[.int .u32 0, .int .u32 0, .int .u32 0, .int .u32 0, .int .u32 0, .int .u32 0, .int .u32 0, .int .u32 0] 67))
        have HG1 := hid ((Below.heap_alloc (wr.alloc (.cells #[.int .u32 0, .int .u32 0, .int .u32 0, .int .u32 0, .int .u32 0, .int .u32 0, .int .u32 0, .int .u32 0] 67)) (.cells #[.int .u32 0, .int .u32 0, .int .u32 0, .int .u32 0, .int .u32 0, .int .u32 0, .int .u32 0, .int .u32 0] 67) wr.heap.size (by simp)).trans (heap_alloc_new wr (.cells #[.int .u32 0, .int .u32 0, .int .u32 0, .int .u32 0, .int .u32 0, .int .u32 0, .int .u32 0, .int .u32 0] 67)))
        have HG2 : Hid (((wr.alloc (.cells #[.int .u32 0, .int .u32 0, .int .u32 0, .int .u32 0, .int .u32 0, .int .u32 0, .int .u32 0, .int .u32 0] 67)).alloc (.cells #[.int .u32 0, .int .u32 0, .int .u32 0, .int .u32 0, .int .u32 0, .int .u32 0, .int .u32 0, .int .u32 0] 67)).heap[wr.heap.size + 1]? = some (.cells #[.int .u32 0, .int .u32 0, .int .u32 0, .int .u32 0, .int .u32 0, .int .u32 0, .int .u32 0, .int .u32 0] 67)) := hid (by
          have := heap_alloc_new (wr.alloc (.cells #[.int .u32 0, .int .u32 0, .int .u32 0, .int .u32 0, .int .u32 0, .int .u32 0, .int .u32 0, .int .u32 0] 67)) (.cells #[.int .u32 0, .int .u32 0, .int .u32 0, .int .u32 0, .int .u32 0, .int .u32 0, .int .u32 0, .int .u32 0] 67)
          simpa using this)
        have HLt := hid HA.lt
        have HSz := hid HF.sz
        generalize (wr.alloc (.cells #[.int .u32 0, .int .u32 0, .int .u32 0, .int .u32 0, .int .u32 0, .int .u32 0, .int .u32 0, .int .u32 0] 67)).alloc (.cells #[.int .u32 0, .int .u32 0, .int .u32 0, .int .u32 0, .int .u32 0, .int .u32 0, .int .u32 0, .int .u32 0] 67) = wA at *
        generalize wr.heap.size = gA at *
        have HLen := hid hlen
        have HDg := hid hdg
        clear HA HB HF hlen hdg HL HZ
        go_region_law (refine step_copy8 (by rfl) (.tmp 59) (.tmp 60) (by rfl) gA g8 0 16 (by rfl) (by rfl) (ps.take 8) (by have := HLen.out; simp; omega) [.int .u32 0, .int .u32 0, .int .u32 0, .int .u32 0, .int .u32 0, .int .u32 0, .int .u32 0, .int .u32 0] (by rfl) HG1.out (fun j h => by
          have h2 : j < ps.length := by simp at h; omega
          have := HP.out.cell j h2
          rw [Nat.zero_add, List.getElem_take]; exact this) ?_)
        have HP1 := hid (p := Pr (wA.drew.setRow gA (dvs (ps.take 8)).toArray) g8 ps) ((setRow_other wA.drew gA g8 _ (by have := HLt.out; omega)).trans HP.out)
        have HF3 := hid (HF2.out.drew.row gA (dvs (ps.take 8)).toArray HSz.out)
        have HG3 := hid (setRow_heap wA.drew gA _ (dvs (ps.take 8)).toArray 67 (0, 0) HG1.out)
        have HG4 := hid ((setRow_other wA.drew gA (gA + 1) (dvs (ps.take 8)).toArray (by omega)).trans HG2.out)
        clear HP HF2 HG1 HG2
        generalize wA.drew.setRow gA (dvs (ps.take 8)).toArray = wB at *
        go_wp2
        go_region_law (refine step_copy8 (by rfl) (.tmp 62) (.tmp 63) (by rfl) (gA + 1) g8 8 8 (by rfl) (by rfl) (ps.drop 8) (by have := HLen.out; simp; omega) [.int .u32 0, .int .u32 0, .int .u32 0, .int .u32 0, .int .u32 0, .int .u32 0, .int .u32 0, .int .u32 0] (by rfl) HG4.out (fun j h => by
          have h2 : 8 + j < ps.length := by simp at h; omega
          have := HP1.out.cell (8 + j) h2
          rw [List.getElem_drop]; exact this) ?_)
        have HF4 := hid (HF3.out.drew.row (gA + 1) (dvs (ps.drop 8)).toArray (by have := HSz.out; omega))
        have HG5 := hid ((setRow_other wB.drew (gA + 1) gA (dvs (ps.drop 8)).toArray (by omega)).trans HG3.out)
        have HG6 := hid (setRow_heap wB.drew (gA + 1) _ (dvs (ps.drop 8)).toArray 67 (0, 0) HG4.out)
        clear HP1 HF3 HG3 HG4
        generalize wB.drew.setRow (gA + 1) (dvs (ps.drop 8)).toArray = wC at *
        have hv : val ps = x * y := by rw [HV.out]; congr 1; exact Nat.mod_eq_of_lt HLx.out
        have H1 := hid (H8.of (n := x * y % 2 ^ 256) (by have := HLen.out; simp; omega) (fun k h => by
          have hk : k < 8 := by simp at h; omega
          rw [List.getElem_take, val_digit ps HDg.out k (by have := HLen.out; omega), hv, hf_low _ _ hk]) HG5.out)
        have H2 := hid (H8.of (n := x * y / 2 ^ 256) (by have := HLen.out; simp; omega) (fun k h => by
          have hk : k < 8 := by have := HLen.out; simp at h; omega
          rw [List.getElem_drop, val_digit ps HDg.out (8 + k) (by have := HLen.out; omega), hv, hf_high, Nat.add_comm 8 k]) HG6.out)
        clear HG5 HG6 hv HV HDg HLen
        generalize hlo : x * y % 2 ^ 256 = lo at *
        generalize hhi : x * y / 2 ^ 256 = hi at *
        have HLo := hid hlo
        have HHi := hid hhi
        clear hlo hhi
        obtain ⟨a0, a1, a2, a3, a4, a5, a6, a7⟩ := H1.out
        obtain ⟨b0, b1, b2, b3, b4, b5, b6, b7⟩ := H2.out
        obtain ⟨c0, c1, c2, c3⟩ := HF4.out.2.2.2.1.cell
        obtain ⟨d0, d1, d2, d3⟩ := HF4.out.2.2.2.2.cell
        have f4 := HF4.out.2.2.2.1.frozen
        have f5 := HF4.out.2.2.2.2.frozen
        have HR4 := hid HF4.out.2.2.2.1
        have HR5 := hid HF4.out.2.2.2.2
        have l4 := HF4.out.2.2.2.1.lt
        have l5 := HF4.out.2.2.2.2.lt
        have hs := HSz.out
        generalize hr5 : w.heap.size + 1 + 1 + 1 = r5 at *
        generalize hr4 : w.heap.size + 1 + 1 = r4 at *
        have hr45 : (r4 = r5) = False := eq_false (by omega)
        have hr54 : (r5 = r4) = False := eq_false (by omega)
        have hr4g : w.heap.size ≤ r4 := by omega
        have hr5g : w.heap.size ≤ r5 := by omega
        have hs4 : r4 ≠ gA ∧ r4 ≠ gA + 1 := by omega
        have hs5 : r5 ≠ gA ∧ r5 ≠ gA + 1 := by omega
        have HS4 := hid hs4
        have HS5 := hid hs5
        have m1 : r4 < wC.heap.size + 1 := by omega
        have m2 : r4 < wC.heap.size + 1 + 1 := by omega
        have m3 : r4 < wC.heap.size + 1 + 1 + 1 := by omega
        have m4 : r4 < wC.heap.size + 1 + 1 + 1 + 1 := by omega
        have m5 : r4 < wC.heap.size + 1 + 1 + 1 + 1 + 1 := by omega
        have n1 : r5 < wC.heap.size + 1 := by omega
        have n2 : r5 < wC.heap.size + 1 + 1 := by omega
        have n3 : r5 < wC.heap.size + 1 + 1 + 1 := by omega
        have n4 : r5 < wC.heap.size + 1 + 1 + 1 + 1 := by omega
        have n5 : r5 < wC.heap.size + 1 + 1 + 1 + 1 + 1 := by omega
        have HNe := hid (p := r4 ≠ r5) (by omega)
        clear hs hs4 hs5 hr5 hr4
        go_wp2
        go_region_held3 (fun w' => w'.cell? ⟨gA, 0, none⟩ = some (.int .u32 (hf lo 0 : Int)) ∧ w'.cell? ⟨gA, 1, none⟩ = some (.int .u32 (hf lo 1 : Int)) ∧ w'.cell? ⟨gA, 2, none⟩ = some (.int .u32 (hf lo 2 : Int)) ∧ w'.cell? ⟨gA, 3, none⟩ = some (.int .u32 (hf lo 3 : Int)) ∧ w'.cell? ⟨gA, 4, none⟩ = some (.int .u32 (hf lo 4 : Int)) ∧ w'.cell? ⟨gA, 5, none⟩ = some (.int .u32 (hf lo 5 : Int)) ∧ w'.cell? ⟨gA, 6, none⟩ = some (.int .u32 (hf lo 6 : Int)) ∧ w'.cell? ⟨gA, 7, none⟩ = some (.int .u32 (hf lo 7 : Int))
          ∧ w'.cell? ⟨gA + 1, 0, none⟩ = some (.int .u32 (hf hi 0 : Int)) ∧ w'.cell? ⟨gA + 1, 1, none⟩ = some (.int .u32 (hf hi 1 : Int)) ∧ w'.cell? ⟨gA + 1, 2, none⟩ = some (.int .u32 (hf hi 2 : Int)) ∧ w'.cell? ⟨gA + 1, 3, none⟩ = some (.int .u32 (hf hi 3 : Int)) ∧ w'.cell? ⟨gA + 1, 4, none⟩ = some (.int .u32 (hf hi 4 : Int)) ∧ w'.cell? ⟨gA + 1, 5, none⟩ = some (.int .u32 (hf hi 5 : Int)) ∧ w'.cell? ⟨gA + 1, 6, none⟩ = some (.int .u32 (hf hi 6 : Int)) ∧ w'.cell? ⟨gA + 1, 7, none⟩ = some (.int .u32 (hf hi 7 : Int)))
          (exact both8 (by repeat (first | (with_reducible exact H1.out) | (with_reducible refine H8.drew ?_) | (with_reducible refine H8.alloc ?_ _) | ((with_reducible refine H8.set ?_ ?_ _); (rotate_left; first | exact HS4.out.1 | exact HS5.out.1)))) (by repeat (first | (with_reducible exact H2.out) | (with_reducible refine H8.drew ?_) | (with_reducible refine H8.alloc ?_ _) | ((with_reducible refine H8.set ?_ ?_ _); (rotate_left; first | exact HS4.out.2 | exact HS5.out.2)))))
          (first | (go_at_call 55; refine (join_ex _ _).mono ?_; rintro e w1 ⟨rfl, rfl⟩))
        go_wp2
        have K4 := hid (((((((((((((((HR4.out.set0 (.int .u64 (wd lo 0 : Int))).set1 (.int .u64 (wd lo 1 : Int))).set2 (.int .u64 (wd lo 2 : Int))).set3 (.int .u64 (wd lo 3 : Int))).setOther (i := 0) (.int .u64 (wd hi 0 : Int)) HNe.out).setOther (i := 1) (.int .u64 (wd hi 1 : Int)) HNe.out).setOther (i := 2) (.int .u64 (wd hi 2 : Int)) HNe.out).setOther (i := 3) (.int .u64 (wd hi 3 : Int)) HNe.out).alloc (.cells (hcls lo) 67)).alloc (.cells (cls lo) 24)).alloc (.cells (cls lo) 24)).alloc (.cells (hcls hi) 67)).alloc (.cells (cls hi) 24)).alloc (.cells (cls hi) 24)))
        have K5 := hid ((((((((((((((HR5.out.setOther (i := 0) (.int .u64 (wd lo 0 : Int)) (Ne.symm HNe.out)).setOther (i := 1) (.int .u64 (wd lo 1 : Int)) (Ne.symm HNe.out)).setOther (i := 2) (.int .u64 (wd lo 2 : Int)) (Ne.symm HNe.out)).setOther (i := 3) (.int .u64 (wd lo 3 : Int)) (Ne.symm HNe.out)).set0 (.int .u64 (wd hi 0 : Int))).set1 (.int .u64 (wd hi 1 : Int))).set2 (.int .u64 (wd hi 2 : Int))).set3 (.int .u64 (wd hi 3 : Int))).alloc (.cells (hcls lo) 67)).alloc (.cells (cls lo) 24)).alloc (.cells (cls lo) 24)).alloc (.cells (hcls hi) 67)).alloc (.cells (cls hi) 24)).alloc (.cells (cls hi) 24))
        have KB := hid (bal (bal (bal (bal (bal (bal ((((((((HF4.out.1.setCell (p := ⟨r4, 0, none⟩) hr4g (.int .u64 (wd lo 0 : Int))).setCell (p := ⟨r4, 1, none⟩) hr4g (.int .u64 (wd lo 1 : Int))).setCell (p := ⟨r4, 2, none⟩) hr4g (.int .u64 (wd lo 2 : Int))).setCell (p := ⟨r4, 3, none⟩) hr4g (.int .u64 (wd lo 3 : Int))).setCell (p := ⟨r5, 0, none⟩) hr5g (.int .u64 (wd hi 0 : Int))).setCell (p := ⟨r5, 1, none⟩) hr5g (.int .u64 (wd hi 1 : Int))).setCell (p := ⟨r5, 2, none⟩) hr5g (.int .u64 (wd hi 2 : Int))).setCell (p := ⟨r5, 3, none⟩) hr5g (.int .u64 (wd hi 3 : Int))) (.cells (hcls lo) 67)) (.cells (cls lo) 24)) (.cells (cls lo) 24)) (.cells (hcls hi) 67)) (.cells (cls hi) 24)) (.cells (cls hi) 24))
        clear a0 a1 a2 a3 a4 a5 a6 a7 b0 b1 b2 b3 b4 b5 b6 b7 c0 c1 c2 c3 d0 d1 d2 d3 f4 f5 m1 m2 m3 m4 m5 n1 n2 n3 n4 n5
        generalize ((((((((((((((wC.setCell ⟨r4, 0, none⟩ (.int .u64 (wd lo 0 : Int))).setCell ⟨r4, 1, none⟩ (.int .u64 (wd lo 1 : Int))).setCell ⟨r4, 2, none⟩ (.int .u64 (wd lo 2 : Int))).setCell ⟨r4, 3, none⟩ (.int .u64 (wd lo 3 : Int))).setCell ⟨r5, 0, none⟩ (.int .u64 (wd hi 0 : Int))).setCell ⟨r5, 1, none⟩ (.int .u64 (wd hi 1 : Int))).setCell ⟨r5, 2, none⟩ (.int .u64 (wd hi 2 : Int))).setCell ⟨r5, 3, none⟩ (.int .u64 (wd hi 3 : Int))).alloc (.cells (hcls lo) 67)).alloc (.cells (cls lo) 24)).alloc (.cells (cls lo) 24)).alloc (.cells (hcls hi) 67)).alloc (.cells (cls hi) 24)).alloc (.cells (cls hi) 24)) = wz at *
        obtain ⟨k0, k1, k2, k3⟩ := K4.out.cell
        obtain ⟨q0, q1, q2, q3⟩ := K5.out.cell
        refine bodyPost_ret (v := .tuple #[num lo, num hi]) (by simp [results, Tryd.results42, go_sem, k0, k1, k2, k3, q0, q1, q2, q3]) rfl ⟨by rw [HLo.out, HHi.out], ?_⟩
        exact KB.out.drew.drew.drew.drew.drew.drew.drew.drew.drew
end Go.Proofs.YtioebjbjpjbodaaDoor
