/-
  shas.takeIn, walked: a block is taken in. Condition: the library's table holds what its text lays.
  A run of bytes, as it lies in memory: by which the whole blocks were taken in, the bytes behind these, their count. Conditions: none.
  (*shas.Run).add, walked: bytes behind those so far, each block taken in as it gets whole. Conditions: the library's table holds what its text lays; no more than 2^47 bytes; they lie outside of the run.
  shas.tell, shas.squares, walked: numbers as bytes. Conditions: none.
  shas.New, there, ending, walked. Conditions: none.
  (*shas.Run).Sum, Write, shas.Of, walked. Conditions: the library's table holds what its text lays; no more than 2^46 bytes.
  burrowlaw05.text, walked: a sum as digits of 16. Conditions: none.
  burrowref05.round, table, walked: the document's own. Conditions: none.
  burrowref05.block: what its loops carry, and the regions that reckon, walked. Conditions: none.
  burrowref05.block: the regions of its third loop that reckon, walked. Conditions: none.
  burrowref05.block, walked: the document's own way of taking a block in. Conditions: none.
-/
import Derived.Test.YtgmnpkgnedngjaaDoorPkE
import Derived.Deep.WholeRow
import Derived.BigQuiet
import Derived.Laws.AppendOwn
import Derived.OwnWalk
import Derived.Maps.AppendAt
import Derived.Test.YtgmnpkgnedngjaaDoorPkC
import Derived.Deep.Cut
import Derived.Test.YtgmnpkgnedngjaaDoorPkG
namespace Go.Proofs.YtgmnpkgnedngjaaDoor
open Go.RowKit
set_option linter.unusedVariables false

theorem i57 : (Tryd.prog.info? 65).map (·.size) = some 8 := by kernel_rfl
theorem i59 : (Tryd.prog.info? 68).map (·.size) = some 64 := by kernel_rfl
theorem bvs_size (l : List UInt8) : (bvs l).toArray.size = l.length := by simp [bvs]
theorem bvs_all (l : List UInt8) : (bvs l).toArray.all (·.oneCell') = true := all_oneCell_toArray (bvs_one l)
theorem hi59 (b : List UInt8) (h : b.length = 64) : Hid ((Tryd.prog.info? 68).map (·.size) = some (bvs b).toArray.size) := by rw [bvs_size, h]; exact hid i59
theorem hi57 (l : List Nat) (h : l.length = 8) : Hid ((Tryd.prog.info? 65).map (·.size) = some (dv l).toArray.size) := by rw [dv_size, h]; exact hid i57
theorem Us.rowOther {w : World} {g g' : Nat} {t : TypeId} {l : List Nat} (h : Us w g t l) (cs : Array Value) (hne : g ≠ g') : Us (w.setRow g' cs) g t l := (setRow_other w g' g cs hne).trans h
theorem Kt.drew {w : World} (h : Kt w) : Kt w.drew := h
theorem Kt.setOther {w : World} (h : Kt w) {g i : Nat} (v : Value) (hg : 2 ≠ g) : Kt (w.setCell ⟨g, i, none⟩ v) := fun j hj => (World.cell?_setCell_other _ _ _ _ (by intro e; injection e with e1; exact hg e1.symm)).trans (h j hj)
/-- what stands while a block is taken in: n's box, the answer's, the block's numbers, K -/
structure Tkc (w : World) (g3 : Nat) (l : List Nat) (b : List UInt8) (w' : World) : Prop where
  below : Below w.heap.size w w'
  n : Us w' w.heap.size 65 l
  z : Us w' (w.heap.size + 1 + 1) 65 (List.replicate 8 0)
  x : Us w' g3 77 (wof b)
  k : Kt w'
  lt : w.heap.size + 1 + 1 < g3
  k3 : 2 < w.heap.size
theorem Tkc.on {w w' w2 : World} {g3 : Nat} {l : List Nat} {b : List UInt8} (h : Tkc w g3 l b w') (hb : Below w'.heap.size w' w2) : Tkc w g3 l b w2 :=
  ⟨h.below.trans (hb.mono (Nat.le_of_lt h.n.lt)), h.n.on hb, h.z.on hb, h.x.on hb, h.k.on hb, h.lt, h.k3⟩
theorem Tkc.alloc {w w' : World} {g3 : Nat} {l : List Nat} {b : List UInt8} (h : Tkc w g3 l b w') (o : Obj) : Tkc w g3 l b (w'.alloc o) := h.on ((Below.refl _ _).alloc (Nat.le_refl _) o)
theorem Tkc.drew {w w' : World} {g3 : Nat} {l : List Nat} {b : List UInt8} (h : Tkc w g3 l b w') : Tkc w g3 l b w'.drew := ⟨h.below.drew, h.n, h.z, h.x, h.k, h.lt, h.k3⟩
theorem Tkc.drewN {w w' : World} {g3 : Nat} {l : List Nat} {b : List UInt8} (h : Tkc w g3 l b w') (n : Nat) : Tkc w g3 l b (w'.drewN n) := ⟨h.below.trans ⟨rfl, rfl, rfl, Nat.le_refl _, fun _ _ => rfl⟩, h.n, h.z, h.x, h.k, h.lt, h.k3⟩
theorem Tkc.set {w w' : World} {g3 : Nat} {l : List Nat} {b : List UInt8} (h : Tkc w g3 l b w') (k v : Nat) : Tkc w g3 (l.set k v) b (w'.setCell ⟨w.heap.size, k, none⟩ (.int .u32 (v : Int))) :=
  ⟨h.below.setCell (Nat.le_refl _) _, h.n.set k v, h.z.other _ (by omega), h.x.other _ (by have := h.lt; omega), h.k.setOther _ (by have := h.k3; omega), h.lt, h.k3⟩
theorem take_init (w : World) (l : List Nat) (b : List UInt8) : Hid (Us (((w.alloc (.cells (dv l).toArray 65)).alloc (.cells (bvs b).toArray 68)).alloc (.cells #[.int .u32 0, .int .u32 0, .int .u32 0, .int .u32 0, .int .u32 0, .int .u32 0, .int .u32 0, .int .u32 0] 65)) w.heap.size 65 l) ∧
    Hid (Bt (((w.alloc (.cells (dv l).toArray 65)).alloc (.cells (bvs b).toArray 68)).alloc (.cells #[.int .u32 0, .int .u32 0, .int .u32 0, .int .u32 0, .int .u32 0, .int .u32 0, .int .u32 0, .int .u32 0] 65)) (w.heap.size + 1) 68 b) ∧
    Hid (Us (((w.alloc (.cells (dv l).toArray 65)).alloc (.cells (bvs b).toArray 68)).alloc (.cells #[.int .u32 0, .int .u32 0, .int .u32 0, .int .u32 0, .int .u32 0, .int .u32 0, .int .u32 0, .int .u32 0] 65)) (w.heap.size + 1 + 1) 65 (List.replicate 8 0)) ∧
    Hid (Below w.heap.size w (((w.alloc (.cells (dv l).toArray 65)).alloc (.cells (bvs b).toArray 68)).alloc (.cells #[.int .u32 0, .int .u32 0, .int .u32 0, .int .u32 0, .int .u32 0, .int .u32 0, .int .u32 0, .int .u32 0] 65))) := by
  have s1 : ∀ (w : World) (o : Obj), (w.alloc o).heap.size = w.heap.size + 1 := fun w o => Array.size_push _
  refine ⟨hid (Us.alloc (Us.alloc (heap_alloc_new _ _) _) _), hid (Bt.alloc ?_ _), hid ?_, hid ((((Below.refl _ _).alloc (Nat.le_refl _) _).alloc (by rw [s1]; omega) _).alloc (by rw [s1, s1]; omega) _)⟩
  · rw [← s1 w (.cells (dv l).toArray 65)]; exact heap_alloc_new _ _
  · rw [← s1 w (.cells (dv l).toArray 65), ← s1 _ (.cells (bvs b).toArray 68)]; exact heap_alloc_new _ _
/-- the block's numbers in a box of their own -/
theorem take_box {w w1 : World} {l : List Nat} {b : List UInt8} (h1 : Us w1 w.heap.size 65 l) (h2 : Us w1 (w.heap.size + 1 + 1) 65 (List.replicate 8 0)) (h3 : Below w.heap.size w w1) (hK : Kt w) :
    Hid (Tkc w w1.heap.size l b ((w1.alloc (.cells #[.int .u32 0, .int .u32 0, .int .u32 0, .int .u32 0, .int .u32 0, .int .u32 0, .int .u32 0, .int .u32 0, .int .u32 0, .int .u32 0, .int .u32 0, .int .u32 0, .int .u32 0, .int .u32 0, .int .u32 0, .int .u32 0, .int .u32 0, .int .u32 0, .int .u32 0, .int .u32 0, .int .u32 0, .int .u32 0, .int .u32 0, .int .u32 0, .int .u32 0, .int .u32 0, .int .u32 0, .int .u32 0, .int .u32 0, .int .u32 0, .int .u32 0, .int .u32 0, .int .u32 0, .int .u32 0, .int .u32 0, .int .u32 0, .int .u32 0, .int .u32 0, .int .u32 0, .int .u32 0, .int .u32 0, .int .u32 0, .int .u32 0, .int .u32 0, .int .u32 0, .int .u32 0, .int .u32 0, .int .u32 0, .int .u32 0, .int .u32 0, .int .u32 0, .int .u32 0, .int .u32 0, .int .u32 0, .int .u32 0, .int .u32 0, .int .u32 0, .int .u32 0, .int .u32 0, .int .u32 0, .int .u32 0, .int .u32 0, .int .u32 0, .int .u32 0] 77)).setRow w1.heap.size (dv (wof b)).toArray)) := by
  rw [World.setRow_alloc_new]
  have hb : Below w1.heap.size w1 (w1.alloc (.cells (dv (wof b)).toArray 77)) := (Below.refl _ _).alloc (Nat.le_refl _) _
  refine hid ⟨h3.trans (hb.mono (Nat.le_of_lt h1.lt)), h1.on hb, h2.on hb, heap_alloc_new _ _, (hK.on h3).on hb, h2.lt, hK.lt⟩
theorem Tkc.cells {w w' : World} {g3 : Nat} {l : List Nat} {b : List UInt8} (h : Tkc w g3 l b w') (hl : l.length = 8) : ∀ j, j < 8 → w'.cell? ⟨w.heap.size, j, none⟩ = some (.int .u32 (at' l j : Nat)) := fun j hj => h.n.cell j (by omega)
theorem u_eq (a b c m : Nat) (ha : a < 4294967296) (hb : b < 4294967296) (hc : c < 4294967296) :
    ((m : Int) + bits BinOp.or IntKind.u32 (bits BinOp.or IntKind.u32 (bits BinOp.and IntKind.u32 (a : Int) (b : Int)) (bits BinOp.and IntKind.u32 (a : Int) (c : Int))) (bits BinOp.and IntKind.u32 (b : Int) (c : Int))) % 4294967296 = (((m + maj a b c) % 4294967296 : Nat) : Int) := by
  rw [u32_and_nat a b ha hb, u32_and_nat a c ha hc, u32_and_nat b c hb hc, u32_or_nat _ _ (and_lt _ ha) (and_lt _ ha), u32_or_nat _ _ (or_lt (and_lt _ ha) (and_lt _ ha)) (and_lt _ hb)]
  unfold maj
  omega
theorem idx57_0 (a b c d e f g h : Nat) (w : World) : (Instr.index 65 (.agg #[.int .u32 (a : Int), .int .u32 (b : Int), .int .u32 (c : Int), .int .u32 (d : Int), .int .u32 (e : Int), .int .u32 (f : Int), .int .u32 (g : Int), .int .u32 (h : Int)]) (.int .i64 0)).run Tryd.prog w = .ok (.int .u32 (a : Int)) w := by kernel_rfl
theorem idx57_1 (a b c d e f g h : Nat) (w : World) : (Instr.index 65 (.agg #[.int .u32 (a : Int), .int .u32 (b : Int), .int .u32 (c : Int), .int .u32 (d : Int), .int .u32 (e : Int), .int .u32 (f : Int), .int .u32 (g : Int), .int .u32 (h : Int)]) (.int .i64 1)).run Tryd.prog w = .ok (.int .u32 (b : Int)) w := by kernel_rfl
theorem idx57_2 (a b c d e f g h : Nat) (w : World) : (Instr.index 65 (.agg #[.int .u32 (a : Int), .int .u32 (b : Int), .int .u32 (c : Int), .int .u32 (d : Int), .int .u32 (e : Int), .int .u32 (f : Int), .int .u32 (g : Int), .int .u32 (h : Int)]) (.int .i64 2)).run Tryd.prog w = .ok (.int .u32 (c : Int)) w := by kernel_rfl
theorem idx57_3 (a b c d e f g h : Nat) (w : World) : (Instr.index 65 (.agg #[.int .u32 (a : Int), .int .u32 (b : Int), .int .u32 (c : Int), .int .u32 (d : Int), .int .u32 (e : Int), .int .u32 (f : Int), .int .u32 (g : Int), .int .u32 (h : Int)]) (.int .i64 3)).run Tryd.prog w = .ok (.int .u32 (d : Int)) w := by kernel_rfl
theorem idx57_4 (a b c d e f g h : Nat) (w : World) : (Instr.index 65 (.agg #[.int .u32 (a : Int), .int .u32 (b : Int), .int .u32 (c : Int), .int .u32 (d : Int), .int .u32 (e : Int), .int .u32 (f : Int), .int .u32 (g : Int), .int .u32 (h : Int)]) (.int .i64 4)).run Tryd.prog w = .ok (.int .u32 (e : Int)) w := by kernel_rfl
theorem idx57_5 (a b c d e f g h : Nat) (w : World) : (Instr.index 65 (.agg #[.int .u32 (a : Int), .int .u32 (b : Int), .int .u32 (c : Int), .int .u32 (d : Int), .int .u32 (e : Int), .int .u32 (f : Int), .int .u32 (g : Int), .int .u32 (h : Int)]) (.int .i64 5)).run Tryd.prog w = .ok (.int .u32 (f : Int)) w := by kernel_rfl
theorem idx57_6 (a b c d e f g h : Nat) (w : World) : (Instr.index 65 (.agg #[.int .u32 (a : Int), .int .u32 (b : Int), .int .u32 (c : Int), .int .u32 (d : Int), .int .u32 (e : Int), .int .u32 (f : Int), .int .u32 (g : Int), .int .u32 (h : Int)]) (.int .i64 6)).run Tryd.prog w = .ok (.int .u32 (g : Int)) w := by kernel_rfl
theorem idx57_7 (a b c d e f g h : Nat) (w : World) : (Instr.index 65 (.agg #[.int .u32 (a : Int), .int .u32 (b : Int), .int .u32 (c : Int), .int .u32 (d : Int), .int .u32 (e : Int), .int .u32 (f : Int), .int .u32 (g : Int), .int .u32 (h : Int)]) (.int .i64 7)).run Tryd.prog w = .ok (.int .u32 (h : Int)) w := by kernel_rfl
theorem idx57 (a b c d e f g h k : Nat) (hk : k < 8) (w : World) : (Instr.index 65 (.agg #[.int .u32 (a : Int), .int .u32 (b : Int), .int .u32 (c : Int), .int .u32 (d : Int), .int .u32 (e : Int), .int .u32 (f : Int), .int .u32 (g : Int), .int .u32 (h : Int)]) (.int .i64 (k : Int))).run Tryd.prog w = .ok (.int .u32 (at' [a, b, c, d, e, f, g, h] k : Nat)) w := by
  match k, hk with
  | 0, _ => exact idx57_0 a b c d e f g h w
  | 1, _ => exact idx57_1 a b c d e f g h w
  | 2, _ => exact idx57_2 a b c d e f g h w
  | 3, _ => exact idx57_3 a b c d e f g h w
  | 4, _ => exact idx57_4 a b c d e f g h w
  | 5, _ => exact idx57_5 a b c d e f g h w
  | 6, _ => exact idx57_6 a b c d e f g h w
  | 7, _ => exact idx57_7 a b c d e f g h w
theorem at_addl (l m : List Nat) (hl : l.length = 8) (hm : m.length = 8) (j : Nat) (hj : j < 8) : at' (addl l m) j = (at' l j + at' m j) % 4294967296 := by
  rw [at_lt (by rw [addl_length _ _ hl hm]; exact hj), at_lt (by omega), at_lt (by omega)]
  simp [addl]
theorem tk_alloc {g3 i : Nat} {kv wv : Nat} (W : World) (o : Obj) (h : W.cell? ⟨2, i, none⟩ = some (.int .u32 (kv : Int)) ∧ W.cell? ⟨g3, i, none⟩ = some (.int .u32 (wv : Int)) ∧ 2 < W.heap.size ∧ g3 < W.heap.size) :
    (W.alloc o).cell? ⟨2, i, none⟩ = some (.int .u32 (kv : Int)) ∧ (W.alloc o).cell? ⟨g3, i, none⟩ = some (.int .u32 (wv : Int)) ∧ 2 < (W.alloc o).heap.size ∧ g3 < (W.alloc o).heap.size :=
  ⟨by rw [World.cell?_alloc_lt _ _ _ h.2.2.1]; exact h.1, by rw [World.cell?_alloc_lt _ _ _ h.2.2.2]; exact h.2.1, by have := h.2.2.1; simp <;> omega, by have := h.2.2.2; simp <;> omega⟩
theorem wi_eq (k : Nat) (h : k < 64) : IntKind.i64.wrap (k : Int) = (k : Int) := by rw [IntKind.wrap_i64]; omega
set_option maxRecDepth 100000 in
set_option maxHeartbeats 4000000 in
theorem take_any (l : List Nat) (b : List UInt8) (w : World) (hl : l.length = 8) (hs : Sm l) (hb : b.length = 64) (hK : Kt w) :
    Calls Tryd.prog 36 #[.agg (dv l).toArray, .agg (bvs b).toArray] w fun e w' => e = .returned (.agg (dv (comp l b)).toArray) ∧ Below w.heap.size w w' := by
  have HB := hid hb
  have HL := hid hl
  have HSm := hid hs
  have HK := hid hK
  clear hb hl hs hK
  go_enter Tryd.func36, Tryd.ntmps36
  go_upto_region 1 with fail
  obtain ⟨H1, H2, H3, H4⟩ := take_init w l b
  generalize ((w.alloc (.cells (dv l).toArray 65)).alloc (.cells (bvs b).toArray 68)).alloc (.cells #[.int .u32 0, .int .u32 0, .int .u32 0, .int .u32 0, .int .u32 0, .int .u32 0, .int .u32 0, .int .u32 0] 65) = w0 at *
  go_wp2_with (refine wpList_load_row rfl 68 (.tmp 3) rfl (w.heap.size + 1) rfl 68 (bvs b).toArray (0, 0) _ H2.out Tryd.underlying68 rfl (hi59 b HB.out).out ?_)
  refine (spread_any b _ HB.out).mono ?_
  rintro e w1 ⟨rfl, hb1⟩
  have HT := take_box (b := b) (H1.out.on hb1) (H3.out.on hb1) (H4.out.trans (hb1.mono (Nat.le_of_lt H1.out.lt))) HK.out
  clear H1 H2 H3 H4 hb1
  go_wp2_with (refine wpList_store_row rfl 77 (.tmp 5) (.tmp 20) rfl w1.heap.size (dv (wof b)).toArray rfl rfl 77 _ (heap_alloc_new _ _) (hi132 b).out (ho132 b).out (dv_all _) ?_)
  simp only [Act.put]
  generalize (w1.alloc (.cells #[.int .u32 0, .int .u32 0, .int .u32 0, .int .u32 0, .int .u32 0, .int .u32 0, .int .u32 0, .int .u32 0, .int .u32 0, .int .u32 0, .int .u32 0, .int .u32 0, .int .u32 0, .int .u32 0, .int .u32 0, .int .u32 0, .int .u32 0, .int .u32 0, .int .u32 0, .int .u32 0, .int .u32 0, .int .u32 0, .int .u32 0, .int .u32 0, .int .u32 0, .int .u32 0, .int .u32 0, .int .u32 0, .int .u32 0, .int .u32 0, .int .u32 0, .int .u32 0, .int .u32 0, .int .u32 0, .int .u32 0, .int .u32 0, .int .u32 0, .int .u32 0, .int .u32 0, .int .u32 0, .int .u32 0, .int .u32 0, .int .u32 0, .int .u32 0, .int .u32 0, .int .u32 0, .int .u32 0, .int .u32 0, .int .u32 0, .int .u32 0, .int .u32 0, .int .u32 0, .int .u32 0, .int .u32 0, .int .u32 0, .int .u32 0, .int .u32 0, .int .u32 0, .int .u32 0, .int .u32 0, .int .u32 0, .int .u32 0, .int .u32 0, .int .u32 0] 77)).setRow w1.heap.size (dv (wof b)).toArray = w3 at *
  generalize w1.heap.size = g3 at *
  have hc := HT.out.cells HL.out
  have x0 : w3.cell? ⟨w.heap.size, 0, none⟩ = some (.int .u32 ((oct l).a : Nat)) := hc 0 (by decide)
  have x1 : w3.cell? ⟨w.heap.size, 1, none⟩ = some (.int .u32 ((oct l).b : Nat)) := hc 1 (by decide)
  have x2 : w3.cell? ⟨w.heap.size, 2, none⟩ = some (.int .u32 ((oct l).c : Nat)) := hc 2 (by decide)
  have x3 : w3.cell? ⟨w.heap.size, 3, none⟩ = some (.int .u32 ((oct l).d : Nat)) := hc 3 (by decide)
  have x4 : w3.cell? ⟨w.heap.size, 4, none⟩ = some (.int .u32 ((oct l).e : Nat)) := hc 4 (by decide)
  have x5 : w3.cell? ⟨w.heap.size, 5, none⟩ = some (.int .u32 ((oct l).f : Nat)) := hc 5 (by decide)
  have x6 : w3.cell? ⟨w.heap.size, 6, none⟩ = some (.int .u32 ((oct l).g : Nat)) := hc 6 (by decide)
  have x7 : w3.cell? ⟨w.heap.size, 7, none⟩ = some (.int .u32 ((oct l).h : Nat)) := hc 7 (by decide)
  clear hc
  go_quiet (fail)
  go_wp2_with fail
  clear x0 x1 x2 x3 x4 x5 x6 x7
  go_loopw [6, 7, 8, 9, 10, 11, 12, 13, 37] (fun s6 s7 s8 s9 s10 s11 s12 s13 i wr => ∃ (k : Nat) (o : Oct), k ≤ 64 ∧ i = .int .i64 k ∧ s6 = .int .u32 (o.a : Nat) ∧ s7 = .int .u32 (o.b : Nat) ∧ s8 = .int .u32 (o.c : Nat) ∧ s9 = .int .u32 (o.d : Nat) ∧ s10 = .int .u32 (o.e : Nat) ∧ s11 = .int .u32 (o.f : Nat) ∧ s12 = .int .u32 (o.g : Nat) ∧ s13 = .int .u32 (o.h : Nat) ∧ Hid o.Sm ∧ Hid (o = rnds (oct l) (wof b) k) ∧ Hid (Tkc w g3 l b wr)) (fun _ _ _ _ _ _ _ _ i _ => 64 - (intOf i).toNat)
  case atStart => exact ⟨0, oct l, by omega, rfl, rfl, rfl, rfl, rfl, rfl, rfl, rfl, rfl, hid (oct_sm HSm.out), hid rfl, hid (HT.out.drewN _)⟩
  case round =>
    clear HT
    obtain ⟨k, o, hk, rfl, rfl, rfl, rfl, rfl, rfl, rfl, rfl, rfl, HO, HR, HT⟩ := hrel
    by_cases hlt : k < 64
    · go_wp2_with fail
      have hkw := HT.out.x.lt
      have hkc := HT.out.x.cell k (by rw [wof_length]; exact hlt)
      have hkk := HT.out.k k hlt
      have hk3 := HT.out.k.lt
      refine tk6_ok (tv := tt o (at' kk k) (at' (wof b) k)) HO.out.e (rot_lt 6 HO.out.e) (rot_lt 11 HO.out.e) (rot_lt 25 HO.out.e) (by omega) (by omega) (wi_eq k hlt) ⟨hkk, hkc, hk3, hkw⟩ (hid tk_alloc) (hid (t_eq o.e o.f o.g o.h (at' kk k) (at' (wof b) k) HO.out.e HO.out.f HO.out.g _)) _ _ _ _ _ _ _ _ _ _ _ _ _ _ _ _ _ _ _ _ _ _ _ _ _ _ _ _ _ _ _ _ _ _ _ _ _ _ _ _ _ _ _ _ _ _ _ _ _ _ _ _ _ _ _ _ _ _ _ _ _ _ _ _ _ _ _ _ _ _ _ _ _ _ _ _ _ _ _ _ _ _ _ _ _ _ _ _ _ _ _ _ _ _ _ _ _ _ _ _ _ _ _ _ _ _ _ _ _ _ _ _ _ _ _ (hid ?_)
      intro d40 d41 d42 d43 d44 d45 d46 d47 d48 d49 d50 d51 d52 d53 d54 d55 d56 d57 d58 d59 d60 d61 d62 d63 d64 d65 d66 wn HN
      have HT2 := hid (HT.out.on HN.out)
      clear HT HN hkw hkc hkk hk3
      go_wp2_with fail
      refine (turn_2 o.a _ HO.out.a).mono ?_
      rintro e' wa ⟨rfl, rfl⟩
      go_wp2_with fail
      refine (turn_13 o.a _ HO.out.a).mono ?_
      rintro e' wa ⟨rfl, rfl⟩
      go_wp2_with fail
      refine (turn_22 o.a _ HO.out.a).mono ?_
      rintro e' wa ⟨rfl, rfl⟩
      go_wp2_with fail
      refine (mix_any _ _ _ _ _ (Tri.new _ _ _ _) (rot_lt 2 HO.out.a) (rot_lt 13 HO.out.a) (rot_lt 22 HO.out.a)).mono ?_
      rintro e' wa ⟨rfl, rfl⟩
      have HT := hid (HT2.out.alloc (.cells #[.int .u32 (rot o.a 2 : Nat), .int .u32 (rot o.a 13 : Nat), .int .u32 (rot o.a 22 : Nat)] 63))
      clear HT2
      generalize wn.alloc (.cells #[.int .u32 (rot o.a 2 : Nat), .int .u32 (rot o.a 13 : Nat), .int .u32 (rot o.a 22 : Nat)] 63) = wm at *
      go_upto_region 8 with fail
      rw [u_eq o.a o.b o.c _ HO.out.a HO.out.b HO.out.c]
      have hu : ((((rot o.a 2 ^^^ rot o.a 13 ^^^ rot o.a 22) + maj o.a o.b o.c) % 4294967296 : Nat) : Int) = (uu o : Int) := rfl
      rw [hu]
      have HRS := hid (p := rnd o (at' kk k) (at' (wof b) k) = rnds (oct l) (wof b) (k + 1)) (by rw [rnds, ← HR.out])
      have HOS := hid (rnd_sm HO.out (at' kk k) (at' (wof b) k))
      have HA1 := hid (show (rnd o (at' kk k) (at' (wof b) k)).a = (tt o (at' kk k) (at' (wof b) k) + uu o) % 4294967296 from rfl)
      have HA2 := hid (show (rnd o (at' kk k) (at' (wof b) k)).e = (o.d + tt o (at' kk k) (at' (wof b) k)) % 4294967296 from rfl)
      have HA3 := hid (show (rnd o (at' kk k) (at' (wof b) k)).b = o.a ∧ (rnd o (at' kk k) (at' (wof b) k)).c = o.b ∧ (rnd o (at' kk k) (at' (wof b) k)).d = o.c ∧ (rnd o (at' kk k) (at' (wof b) k)).f = o.e ∧ (rnd o (at' kk k) (at' (wof b) k)).g = o.f ∧ (rnd o (at' kk k) (at' (wof b) k)).h = o.g from ⟨rfl, rfl, rfl, rfl, rfl, rfl⟩)
      generalize rnd o (at' kk k) (at' (wof b) k) = o2 at *
      generalize tt o (at' kk k) (at' (wof b) k) = tv at *
      generalize uu o = uv at *
      go_wp2
      go_roundw
      case rel =>
        obtain ⟨e1, e2, e3, e4, e5, e6⟩ := HA3.out
        exact ⟨k + 1, o2, by omega, by go_num, by rw [HA1.out]; simp, by rw [e1], by rw [e2], by rw [e3], by rw [HA2.out]; simp, by rw [e4], by rw [e5], by rw [e6], HOS, HRS, HT⟩
      case measure => simp [intOf]; omega
    · obtain rfl : k = 64 := by omega
      have HR2 := hid (p := o.l = (rnds (oct l) (wof b) 64).l) (by rw [← HR.out])
      clear HR
      go_wp2_with fail
      obtain ⟨a1, a2, a3, a4, a5, a6, a7, a8⟩ := o
      have HOL := hid (p := [a1, a2, a3, a4, a5, a6, a7, a8] = (rnds (oct l) (wof b) 64).l) HR2.out
      clear HR2
      dsimp only at *
      go_loopw [109] (fun i wr => ∃ (k : Nat) (m : List Nat), k ≤ 8 ∧ i = .int .i64 k ∧ Hid (Tkc w g3 m b wr) ∧ Hid (m.length = 8) ∧ Hid (∀ j, j < 8 → at' m j = if j < k then (at' l j + at' [a1, a2, a3, a4, a5, a6, a7, a8] j) % 4294967296 else at' l j)) (fun i _ => 8 - (intOf i).toNat)
      case atStart => exact ⟨0, l, by omega, rfl, HT, HL, hid (fun j _ => by rw [if_neg (Nat.not_lt_zero _)])⟩
      case round =>
        clear HT
        obtain ⟨k, m, hk, rfl, HT, HM, HA⟩ := hrel
        by_cases hlt : k < 8
        · have hix := idx57 a1 a2 a3 a4 a5 a6 a7 a8 k hlt
          have hcl := HT.out.n.cell k (by have := HM.out; omega)
          have hfr := HT.out.n.frozen k
          rw [HA.out k hlt, if_neg (Nat.lt_irrefl _)] at hcl
          have HVV := hid (p := (((at' l k : Nat) : Int) + ((at' [a1, a2, a3, a4, a5, a6, a7, a8] k : Nat) : Int)) % 4294967296 = (((at' l k + at' [a1, a2, a3, a4, a5, a6, a7, a8] k) % 4294967296 : Nat) : Int)) (by omega)
          generalize hz : (at' l k + at' [a1, a2, a3, a4, a5, a6, a7, a8] k) % 4294967296 = z at HVV
          have HZ := hid hz
          clear hz
          go_wp2
          go_roundw
          case rel =>
            refine ⟨k + 1, m.set k z, by omega, by go_num, ?_, hid (by rw [List.length_set]; exact HM.out), hid ?_⟩
            · have := HT.out.set k z
              rw [← HVV.out] at this
              exact hid this
            · intro j hj
              rw [at_set _ _ _ _ (by have := HM.out; omega), HA.out j hj]
              by_cases h : j = k
              · subst h; rw [if_pos rfl, if_pos (by omega), HZ.out]
              · rw [if_neg h]
                by_cases h2 : j < k
                · rw [if_pos h2, if_pos (by omega)]
                · rw [if_neg h2, if_neg (by omega)]
          case measure => simp [intOf]; omega
        · obtain rfl : k = 8 := by omega
          have hme : m = comp l b := by
            refine eq_of_at (by rw [HM.out, comp_length _ _ HL.out]) (fun j hj => ?_)
            have hj8 : j < 8 := by have := HM.out; omega
            rw [HA.out j hj8, if_pos hj8, comp, at_addl _ _ HL.out rfl j hj8, HOL.out]
          have HT2 : Hid (Tkc w g3 (comp l b) b wr) := hid (hme ▸ HT.out)
          have HCL := hid (comp_length l b HL.out)
          clear HT HM HA hme
          generalize hr : comp l b = r at *
          have HRR := hid hr
          clear hr
          have HI := hi57 r HCL.out
          have HO8 : Hid ((dv (List.replicate 8 0)).toArray.size = (dv r).toArray.size) := hid (by rw [dv_size, dv_size, HCL.out, List.length_replicate])
          have HZ := hid (HT2.out.z.row (m := r))
          have HBW := hid (p := Below w.heap.size w (wr.setRow (w.heap.size + 1 + 1) (dv r).toArray)) (below_setRow HT2.out.below (Nat.le_succ_of_le (Nat.le_succ _)) _)
          go_upto_region 15 with fail
          have HDA := dv_all r
          have HZL := HT2.out.n
          have HZZ := HT2.out.z
          unfold Us at HZL HZZ
          have HZL := hid HZL
          have HZZ := hid HZZ
          go_wp2_with (first | (refine wpList_load_row rfl 65 (.tmp 2) rfl w.heap.size rfl 65 (dv r).toArray (0, 0) _ HZL.out Tryd.underlying65 rfl HI.out ?_) | (refine wpList_store_row rfl 65 (.tmp 4) (.tmp 120) rfl (w.heap.size + 1 + 1) (dv r).toArray rfl rfl 65 _ HZZ.out HI.out HO8.out HDA ?_))
          exact bodyPost_ret (v := .agg (dv r).toArray) (results_cell_row (p := 4) (ty := 65) Tryd.results36 _ _ (w.heap.size + 1 + 1) 65 (dv r).toArray (0, 0) _ rfl HZ.out Tryd.underlying65 rfl HI.out) rfl ⟨by rw [HRR.out], HBW.out⟩
end Go.Proofs.YtgmnpkgnedngjaaDoor
namespace Go.Proofs.YtgmnpkgnedngjaaDoor
open Go.RowKit
set_option linter.unusedVariables false

/-- a run's cells -/
def rc (l : List Nat) (b : List UInt8) (n : Nat) : List Value := .bool true :: (dv l ++ (bvs b ++ [.int .u64 (n : Int)]))
theorem rc_length {l : List Nat} {b : List UInt8} (n : Nat) (hl : l.length = 8) (hb : b.length = 64) : (rc l b n).length = 74 := by simp [rc, dv, bvs, hl, hb]
/-- block g is a run that holds these -/
def Rn (w : World) (g : Nat) (l : List Nat) (b : List UInt8) (n : Nat) : Prop := w.heap[g]? = some (.cells (rc l b n).toArray 70 (0, 0))
theorem Rn.lt {w : World} {g n : Nat} {l : List Nat} {b : List UInt8} (h : Rn w g l b n) : g < w.heap.size := lt_of_block h
theorem Rn.at {w : World} {g n : Nat} {l : List Nat} {b : List UInt8} (h : Rn w g l b n) (j : Nat) : w.cell? ⟨g, j, none⟩ = (rc l b n)[j]? := by
  rw [cell_of_row w g j _ 70 (0, 0) h]; simp
theorem Rn.frozen {w : World} {g n : Nat} {l : List Nat} {b : List UInt8} (h : Rn w g l b n) (i : Nat) : w.frozen? ⟨g, i, none⟩ = false := by
  unfold Rn at h; simp [World.frozen?, h]
theorem Rn.made {w : World} {g n : Nat} {l : List Nat} {b : List UInt8} (h : Rn w g l b n) : w.cell? ⟨g, 0, none⟩ = some (.bool true) := h.at 0
theorem Rn.so {w : World} {g n : Nat} {l : List Nat} {b : List UInt8} (h : Rn w g l b n) : w.rangeAt g 1 (dv l) := by
  intro j v hv
  have hj : j < (dv l).length := by
    rcases Nat.lt_or_ge j (dv l).length with h | h
    · exact h
    · rw [List.getElem?_eq_none h] at hv; cases hv
  rw [h.at, Nat.add_comm, rc, List.getElem?_cons_succ, List.getElem?_append_left hj]; exact hv
theorem Rn.last {w : World} {g n : Nat} {l : List Nat} {b : List UInt8} (h : Rn w g l b n) (hl : l.length = 8) : w.rangeAt g 9 (bvs b) := by
  intro j v hv
  have hj : j < (bvs b).length := by
    rcases Nat.lt_or_ge j (bvs b).length with h | h
    · exact h
    · rw [List.getElem?_eq_none h] at hv; cases hv
  have e : (dv l).length = 8 := by rw [dv_length, hl]
  rw [h.at, show 9 + j = (8 + j) + 1 by omega, rc, List.getElem?_cons_succ, List.getElem?_append_right (by omega), e, show 8 + j - 8 = j by omega, List.getElem?_append_left hj]; exact hv
theorem Rn.count {w : World} {g n : Nat} {l : List Nat} {b : List UInt8} (h : Rn w g l b n) (hl : l.length = 8) (hb : b.length = 64) : w.cell? ⟨g, 73, none⟩ = some (.int .u64 (n : Int)) := by
  have e : (dv l).length = 8 := by rw [dv_length, hl]
  have e2 : (bvs b).length = 64 := by rw [bvs_length, hb]
  rw [h.at, show 73 = 72 + 1 by omega, rc, List.getElem?_cons_succ, List.getElem?_append_right (by omega), e, List.getElem?_append_right (by omega), e2]; rfl
theorem Rn.there {w : World} {g n : Nat} {l : List Nat} {b : List UInt8} (h : Rn w g l b n) (hl : l.length = 8) : w.there g 1 8 := by
  intro j hj
  refine ⟨?_, h.frozen _⟩
  have := h.so j ((dv l)[j]'(by rw [dv_length]; omega)) (by simp)
  rw [this]; rfl
theorem Rn.setCount {w : World} {g n : Nat} {l : List Nat} {b : List UInt8} (h : Rn w g l b n) (hl : l.length = 8) (hb : b.length = 64) (m : Nat) : Rn (w.setCell ⟨g, 73, none⟩ (.int .u64 (m : Int))) g l b m := by
  have e : ∀ x : Value, (rc l b n).set 73 x = .bool true :: (dv l ++ (bvs b ++ [x])) := by
    intro x
    have e1 : (dv l).length = 8 := by rw [dv_length, hl]
    have e2 : (bvs b).length = 64 := by rw [bvs_length, hb]
    rw [rc, show 73 = 72 + 1 by omega, List.set_cons_succ, List.set_append_right _ _ (by omega), e1, List.set_append_right _ _ (by omega), e2]; rfl
  unfold Rn at h ⊢
  simp only [World.setCell, Array.getElem?_modify, h, if_true, Option.map_some]
  rw [List.setIfInBounds_toArray, e]
  rfl
theorem set_mid {α : Type} (a c : List α) (x v : α) : (a ++ x :: c).set a.length v = a ++ v :: c := by
  rw [List.set_append_right _ _ (Nat.le_refl _), Nat.sub_self]; rfl
/-- cells of a block's middle, written one by one -/
theorem setCells_mid (g : Nat) (t : TypeId) : ∀ (vs old a c : List Value) (w : World), old.length = vs.length → w.heap[g]? = some (.cells (a ++ (old ++ c)).toArray t (0, 0)) →
    (w.setCells g a.length vs).heap[g]? = some (.cells (a ++ (vs ++ c)).toArray t (0, 0))
  | [], old, a, c, w, hl, h => by
    obtain rfl : old = [] := List.eq_nil_of_length_eq_zero hl
    exact h
  | v :: vs, [], a, c, w, hl, h => by cases hl
  | v :: vs, x :: old, a, c, w, hl, h => by
    have h1 : (w.setCell ⟨g, a.length, none⟩ v).heap[g]? = some (.cells ((a ++ [v]) ++ (old ++ c)).toArray t (0, 0)) := by
      simp only [World.setCell, Array.getElem?_modify, h, if_true, Option.map_some]
      simp
    have := setCells_mid g t vs old (a ++ [v]) c _ (by simpa using hl) h1
    rw [World.setCells]
    simpa using this
theorem setCells_other (g k : Nat) (hk : k ≠ g) : ∀ (vs : List Value) (o : Nat) (w : World), (w.setCells g o vs).heap[k]? = w.heap[k]?
  | [], _, _ => rfl
  | v :: vs, o, w => by rw [World.setCells, setCells_other g k hk vs, Below.heap_setCell w ⟨g, o, none⟩ v k hk]
theorem setCells_size (g : Nat) : ∀ (vs : List Value) (o : Nat) (w : World), (w.setCells g o vs).heap.size = w.heap.size
  | [], _, _ => rfl
  | v :: vs, o, w => by rw [World.setCells, setCells_size g vs]; simp
theorem setCells_rest (g : Nat) : ∀ (vs : List Value) (o : Nat) (w : World), (w.setCells g o vs).os = w.os ∧ (w.setCells g o vs).tape = w.tape ∧ (w.setCells g o vs).output = w.output
  | [], _, _ => ⟨rfl, rfl, rfl⟩
  | v :: vs, o, w => by rw [World.setCells]; exact setCells_rest g vs (o + 1) (w.setCell ⟨g, o, none⟩ v)
theorem Rn.setSo {w : World} {g n : Nat} {l m : List Nat} {b : List UInt8} (h : Rn w g l b n) (hl : l.length = m.length) : Rn (w.setCells g 1 (dv m)) g m b n :=
  setCells_mid g 70 (dv m) (dv l) [.bool true] _ w (by rw [dv_length, dv_length, hl]) h
theorem splice_mid {α : Type} (a b c p : List α) (o : Nat) (hp : o + p.length ≤ b.length) : splice (a ++ (b ++ c)) (a.length + o) p = a ++ (splice b o p ++ c) := by
  unfold splice
  rw [List.take_append, List.drop_append, List.take_of_length_le (show a.length ≤ a.length + o by omega), show a.length + o - a.length = o by omega, List.drop_eq_nil_of_le (show a.length ≤ a.length + o + p.length by omega),
    show a.length + o + p.length - a.length = o + p.length by omega, List.take_append_of_le_length (by omega), List.drop_append_of_le_length (by omega)]
  simp
theorem bvs_splice (b p : List UInt8) (o : Nat) : bvs (splice b o p) = splice (bvs b) o (bvs p) := by
  unfold splice; rw [bvs_append, bvs_append, bvs_take, bvs_drop, bvs_length]
theorem Rn.copy {w : World} {g n : Nat} {l : List Nat} {b : List UInt8} (h : Rn w g l b n) (hl : l.length = 8) (o : Nat) (p : List UInt8) (hp : o + p.length ≤ b.length) : Rn (w.setRow g (splice (rc l b n) (9 + o) (bvs p)).toArray) g l (splice b o p) n := by
  have e : splice (rc l b n) (9 + o) (bvs p) = rc l (splice b o p) n := by
    have := splice_mid (.bool true :: dv l) (bvs b) [.int .u64 (n : Int)] (bvs p) o (by rw [bvs_length, bvs_length]; exact hp)
    rw [List.length_cons, dv_length, hl] at this
    rw [rc, rc, bvs_splice]
    exact this
  rw [e]
  exact setRow_heap w g _ _ 70 (0, 0) h

/-- block g is a run of these bytes -/
def RunIs (w : World) (g : Nat) (bs : List UInt8) : Prop := ∃ b : List UInt8, b.length = 64 ∧ b.take (bs.length % 64) = bs.drop (64 * (bs.length / 64)) ∧ Rn w g (eat hh bs (bs.length / 64)) b bs.length
theorem RunIs.lt {w : World} {g : Nat} {bs : List UInt8} (h : RunIs w g bs) : g < w.heap.size := by obtain ⟨b, _, _, h⟩ := h; exact h.lt
theorem RunIs.heap {w w' : World} {g : Nat} {bs : List UInt8} (h : RunIs w g bs) (e : w'.heap[g]? = w.heap[g]?) : RunIs w' g bs := by
  obtain ⟨b, h1, h2, h3⟩ := h; exact ⟨b, h1, h2, e.trans h3⟩
theorem so_length (bs : List UInt8) (n : Nat) : (eat hh bs n).length = 8 := eat_length _ _ _ hh_length
theorem so_sm (bs : List UInt8) (n : Nat) : Sm (eat hh bs n) := eat_sm _ _ _ hh_sm
/-- some more bytes, the block not whole yet -/
theorem run_part (X p b : List UInt8) (hb : b.length = 64) (h : b.take (X.length % 64) = X.drop (64 * (X.length / 64))) (hp : X.length % 64 + p.length ≤ 64) (hz : (X.length + p.length) % 64 ≠ 0) :
    (splice b (X.length % 64) p).length = 64 ∧ (splice b (X.length % 64) p).take ((X ++ p).length % 64) = (X ++ p).drop (64 * ((X ++ p).length / 64)) ∧ eat hh (X ++ p) ((X ++ p).length / 64) = eat hh X (X.length / 64) := by
  have hq : (X ++ p).length / 64 = X.length / 64 := by rw [List.length_append]; omega
  have hr : (X ++ p).length % 64 = X.length % 64 + p.length := by rw [List.length_append]; omega
  refine ⟨by rw [length_splice _ _ _ (by omega), hb], ?_, ?_⟩
  · rw [hq, hr, List.drop_append_of_le_length (by omega), ← h, splice, ← List.append_assoc, List.take_append_of_le_length (by simp; omega), List.take_of_length_le (by simp; omega)]
  · rw [hq, eat_append _ _ _ _ (by omega)]
/-- some more bytes, by which the block gets whole -/
theorem run_whole (X p b : List UInt8) (hb : b.length = 64) (h : b.take (X.length % 64) = X.drop (64 * (X.length / 64))) (hp : X.length % 64 + p.length = 64) :
    (splice b (X.length % 64) p).length = 64 ∧ (splice b (X.length % 64) p).take ((X ++ p).length % 64) = (X ++ p).drop (64 * ((X ++ p).length / 64)) ∧ eat hh (X ++ p) ((X ++ p).length / 64) = comp (eat hh X (X.length / 64)) (splice b (X.length % 64) p) := by
  have hq : (X ++ p).length / 64 = X.length / 64 + 1 := by rw [List.length_append]; omega
  have hr : (X ++ p).length % 64 = 0 := by rw [List.length_append]; omega
  have hs : splice b (X.length % 64) p = X.drop (64 * (X.length / 64)) ++ p := by
    have e : b.drop (X.length % 64 + p.length) = [] := List.drop_eq_nil_of_le (by omega)
    rw [splice, h, e, List.append_nil]
  refine ⟨by rw [length_splice _ _ _ (by omega), hb], ?_, ?_⟩
  · rw [hr, List.take_zero, List.drop_eq_nil_of_le (by rw [hq, List.length_append]; omega)]
  · rw [hq, eat, eat_append _ _ _ _ (by omega), hs, List.drop_append_of_le_length (by omega), List.take_of_length_le (by simp; omega)]

theorem grown_of {w w' : World} (h : Below w.heap.size w w') (row : Option Nat) : w.grownBy w' row := ⟨h.os, h.tape, h.output, h.size, fun k hk _ => h.block k hk⟩
theorem grown_row {w wr : World} {g : Nat} (h : w.grownBy wr (some g)) (cs : Array Value) : w.grownBy (wr.setRow g cs) (some g) :=
  ⟨h.os, h.tape, h.output, by simpa [World.setRow] using h.size, fun k hk hn => (setRow_other wr g k cs (by intro e; exact hn (by rw [e]))).trans (h.block k hk hn)⟩
theorem grown_cell {w wr : World} {g i : Nat} (h : w.grownBy wr (some g)) (u : Value) : w.grownBy (wr.setCell ⟨g, i, none⟩ u) (some g) :=
  ⟨h.os, h.tape, h.output, by simpa using h.size, fun k hk hn => (Below.heap_setCell wr ⟨g, i, none⟩ u k (by intro e; exact hn (by rw [e]))).trans (h.block k hk hn)⟩
theorem grown_cells {w wr : World} {g i : Nat} (h : w.grownBy wr (some g)) (vs : List Value) : w.grownBy (wr.setCells g i vs) (some g) :=
  ⟨(setCells_rest g vs i wr).1.trans h.os, (setCells_rest g vs i wr).2.1.trans h.tape, (setCells_rest g vs i wr).2.2.trans h.output, by rw [setCells_size]; exact h.size, fun k hk hn => (setCells_other g k (by intro e; exact hn (by rw [e])) vs i wr).trans (h.block k hk hn)⟩
theorem grown_drew {w wr : World} {row : Option Nat} (h : w.grownBy wr row) : w.grownBy wr.drew row := ⟨h.os, h.tape, h.output, h.size, h.block⟩
theorem Kt.grown {w w' : World} {g : Nat} (h : Kt w) (hg : w.grownBy w' (some g)) (h3 : 2 ≠ g) : Kt w' := fun j hj => by
  have := hg.block 2 h.lt (by intro e; injection e with e; exact h3 e)
  rw [World.cell?_of_block (a := ⟨2, j, none⟩) this]; exact h j hj
theorem Rd.grown {w w' : World} {g : Nat} {A : Option Addr} {bs : List UInt8} (h : Rd w A bs) (hg : w.grownBy w' (some g)) (hA : ∀ ad, A = some ad → ad.block ≠ g) : Rd w' A bs := by
  intro hp
  obtain ⟨gp, o, rfl, hlt, hc⟩ := h hp
  have hne : gp ≠ g := hA _ rfl
  refine ⟨gp, o, rfl, Nat.lt_of_lt_of_le hlt hg.size, fun j hj => ?_⟩
  have := hg.block gp hlt (by intro e; injection e with e; exact hne e)
  rw [World.cell?_of_block (a := ⟨gp, o + j, none⟩) this]; exact hc j hj
/-- the cells of a run that nobody made -/
def zcR : Array Value := (Value.bool false :: (dv (List.replicate 8 0) ++ (bvs (List.replicate 64 0) ++ [.int .u64 0]))).toArray
theorem zvR : ∀ w, (zeroValue 70).run Tryd.prog w = .ok (.agg zcR) w := fun w => by kernel_rfl
theorem zcR_size : zcR.size = 74 := by kernel_rfl
theorem zcR_ne : ¬ zcR = #[] := fun h => by have := zcR_size; rw [h] at this; simp at this
end Go.Proofs.YtgmnpkgnedngjaaDoor
namespace Go.Proofs.YtgmnpkgnedngjaaDoor
open Go.RowKit
set_option linter.unusedVariables false
set_option linter.unusedSimpArgs false

/-- a copy into a block, as one step of a region -/
theorem step_copy_at {P : Program} {ops : Array Oper} {o : Oper} {a : Act} {w : World} {K : Act → World → Prop} {Q : Exit → Act → World → Prop} {E : Prop} (hgd : o.guard = none) (d s : Operand) (dT sT : TypeId)
    (ho : o.op = .call { callee := .builtin .copy, args := #[d, s], argTypes := #[dT, sT] }) (elem : TypeId) (hu : P.underlying dT = some (.slice elem)) (hsz : (P.info? elem).map (·.size) = some 1)
    (g off dLen dCap : Nat) (ad : Addr) (sLen sCap : Nat) (hd : a.eval d = .slice (some ⟨g, off, none⟩) dLen dCap) (hs : a.eval s = .slice (some ad) sLen sCap)
    (cur : List Value) (t : TypeId) (hg : w.heap[g]? = some (.cells cur.toArray t (0, 0))) (cs : List Value) (hn : cs.length = Nat.min sLen dLen)
    (hsrc : ∀ j v, cs[j]? = some v → w.cell? (ad.add j) = some v) (hfit : off + cs.length ≤ cur.length) (h1 : ∀ v ∈ cs, v.oneCell' = true)
    (h : K (a.put o.dst (goInt cs.length)) (w.setRow g (splice cur off cs).toArray)) :
    if Region.wanted o (yielded ops a.tmps) = true then Oper.wp P o a w K Q else E := by
  have hw : Region.wanted o (yielded ops a.tmps) = true := by simp [Region.wanted, hgd]
  rw [if_pos hw]
  have hrun := run_copy_row (P := P) w dT sT o.type elem g off dLen dCap ad sLen sCap cur.toArray t cs hu hsz hg hn hsrc (by simpa using hfit) h1
  have e : cur.toArray.toList.take off ++ cs ++ cur.toArray.toList.drop (off + cs.length) = splice cur off cs := by simp [splice]
  rw [e] at hrun
  unfold Oper.wp
  simp [execOp, ho, resolve, invoke, builtin, hd, hs, hrun, Result.andThen]
  exact h
/-- a store of many cells into a block's middle, as one step of a region -/
theorem step_store_mid {P : Program} {ops : Array Oper} {o : Oper} {a : Act} {w : World} {K : Act → World → Prop} {Q : Exit → Act → World → Prop} {E : Prop} (hgd : o.guard = none) (ty : TypeId) (x y : Operand) (ho : o.op = .store ty x y)
    (b off : Nat) (cells : Array Value) (hx : a.eval x = .pointer (some ⟨b, off, none⟩)) (hy : a.eval y = .agg cells)
    (ht : w.there b off cells.size) (hi : (P.info? ty).map (·.size) = some cells.size) (h1 : cells.all (·.oneCell') = true)
    (h : K (a.put o.dst undef) (w.setCells b off cells.toList)) : if Region.wanted o (yielded ops a.tmps) = true then Oper.wp P o a w K Q else E := by
  have hw : Region.wanted o (yielded ops a.tmps) = true := by simp [Region.wanted, hgd]
  rw [if_pos hw]
  exact wp_store_mid ty x y ho b off cells hx hy ht hi h1 h
/-- the address of a slice's rest -/
def past (A : Option Addr) (k c : Nat) : Option Addr := if c = k then A else A.map (·.add k)
theorem slice_rest (A : Option Addr) (n c k : Nat) (hk : k ≤ n) (w : World) : (Instr.slice 37 (.slice A n c) (some (.int .i64 (k : Int))) none none).run Tryd.prog w = .ok (.slice (past A k c) (n - k) (c - k)) w := by
  have h5 : Tryd.prog.elem 37 = 5 := by kernel_rfl
  rw [run_slice_l (P := Tryd.prog) w 37 A n c (by rw [h5]; exact Tryd.underlying37) .i64 (k : Int) (by omega) (by omega)]
  have hs : (sizeOf 5).run Tryd.prog w = .ok 1 w := by kernel_rfl
  rw [h5, hs]
  simp only [Result.andThen, sliced, Int.toNat_natCast, past, Nat.mul_one]
theorem Rd.past {w : World} {A : Option Addr} {bs : List UInt8} (h : Rd w A bs) (k c : Nat) (hk : k ≤ bs.length) (hc : bs.length ≤ c) : Rd w (past A k c) (bs.drop k) := by
  intro hp
  have hp2 : 0 < bs.length := by simp at hp; omega
  obtain ⟨gp, o, rfl, hlt, hcl⟩ := h hp2
  have hne : c ≠ k := by simp at hp; omega
  refine ⟨gp, o + k, ?_, hlt, fun j hj => ?_⟩
  · unfold Go.Proofs.YtgmnpkgnedngjaaDoor.past; rw [if_neg hne]
    simp only [Option.map_some]
    congr 1
    unfold Addr.add
    by_cases hk0 : k = 0
    · subst hk0; simp
    · simp [hk0]
  · have := hcl (k + j) (by simp at hj; omega)
    rw [Nat.add_assoc, this]; simp
theorem past_block (A : Option Addr) (k c g : Nat) (h : ∀ ad, A = some ad → ad.block ≠ g) : ∀ ad, past A k c = some ad → ad.block ≠ g := by
  intro ad e
  unfold past at e
  split at e
  · exact h ad e
  · cases A with
    | none => cases e
    | some a0 =>
      simp only [Option.map_some] at e
      injection e with e
      subst e
      have := h a0 rfl
      unfold Addr.add
      split <;> simpa using this
/-- some more bytes, the block not whole -/
theorem run_part_is {wB : World} {g N r : Nat} {X p b0 : List UInt8} (hN : N = X.length) (hr : r = N % 64) (hb : b0.length = 64) (h : b0.take r = X.drop (64 * (N / 64))) (hp : r + p.length ≤ 64) (hz : (N + p.length) % 64 ≠ 0)
    (hR : Rn wB g (eat hh X (N / 64)) (splice b0 r p) (N + p.length)) : RunIs wB g (X ++ p) := by
  subst hN; subst hr
  obtain ⟨h1, h2, h3⟩ := run_part X p b0 hb h hp hz
  refine ⟨_, h1, h2, ?_⟩
  rw [h3, List.length_append]; exact hR
/-- some more bytes, the block whole, taken in -/
theorem run_whole_is {wB : World} {g N r : Nat} {X p b0 : List UInt8} (hN : N = X.length) (hr : r = N % 64) (hb : b0.length = 64) (h : b0.take r = X.drop (64 * (N / 64))) (hp : r + p.length = 64)
    (hR : Rn wB g (comp (eat hh X (N / 64)) (splice b0 r p)) (splice b0 r p) (N + p.length)) : RunIs wB g (X ++ p) := by
  subst hN; subst hr
  obtain ⟨h1, h2, h3⟩ := run_whole X p b0 hb h hp
  refine ⟨_, h1, h2, ?_⟩
  rw [h3, List.length_append]; exact hR
/-- the length of a slice -/
def lenV : Value → Nat
  | .slice _ n _ => n
  | _ => 0
theorem run_pure_pos (X : List UInt8) : X.length % 64 < 64 := Nat.mod_lt _ (by decide)
set_option maxRecDepth 100000 in
theorem slice_last (g r m : Nat) (hr : r < 64) (hm : m = 64 - r) (w : World) : (Instr.sliceAt 68 (.pointer (some ⟨g, 9, none⟩)) (some (.int .u64 (r : Int))) none none).run Tryd.prog w = .ok (.slice (some ⟨g, 9 + r, none⟩) m m) w := by
  have hl : Tryd.prog.arrayLen 68 = 64 := by kernel_rfl
  have h5 : Tryd.prog.elem 68 = 5 := by kernel_rfl
  rw [run_sliceAt_array_l (P := Tryd.prog) w 68 ⟨g, 9, none⟩ (by rw [hl, h5]; exact Tryd.underlying68) .u64 (r : Int) (by omega) (by rw [hl]; omega)]
  have hs : (sizeOf 5).run Tryd.prog w = .ok 1 w := by kernel_rfl
  rw [h5, hs, hl]
  simp only [Result.andThen, slicedAt, Int.toNat_natCast, Nat.mul_one]
  rw [if_neg (by omega), hm]
  congr 3
  unfold Addr.add
  by_cases h0 : r = 0
  · subst h0; simp
  · simp [h0]
set_option maxRecDepth 100000 in
set_option maxHeartbeats 4000000 in
theorem add_any (g : Nat) (A : Option Addr) (c : Nat) (bs part : List UInt8) (w : World) (n : Nat) (hn : part.length = n) (hR : RunIs w g bs) (hr : Rd w A part) (hA : 0 < n → ∀ ad, A = some ad → ad.block ≠ g) (hc : n ≤ c) (hK : Kt w) (h3 : 2 ≠ g) (hlen : bs.length + n ≤ 140737488355328) :
    Calls Tryd.prog 24 #[.pointer (some ⟨g, 0, none⟩), .slice A n c] w fun e w' => e = .returned (.tuple #[]) ∧ RunIs w' g (bs ++ part) ∧ w.grownBy w' (some g) := by
  have HN := hid hn
  have HR := hid hR
  have HRd := hid hr
  have HA := hid hA
  have HC := hid hc
  have HK := hid hK
  have H3 := hid h3
  have HLN := hid hlen
  clear hn hR hr hA hc hK h3 hlen
  go_enter Tryd.func24, Tryd.ntmps24
  go_wp2_with fail
  go_loopw [1] (fun s wr => ∃ (n' c' : Nat) (A' : Option Addr) (don res : List UInt8), s = .slice A' n' c' ∧ Hid (res.length = n') ∧ Hid (part = don ++ res) ∧ Hid (Rd wr A' res) ∧ Hid (0 < n' → ∀ ad, A' = some ad → ad.block ≠ g) ∧ Hid (n' ≤ c') ∧ Hid (RunIs wr g (bs ++ don)) ∧ Hid (w.grownBy wr (some g))) (fun s _ => lenV s)
  case atStart => exact ⟨n, c, A, [], part, rfl, HN, hid rfl, HRd, HA, HC, hid (by rw [List.append_nil]; exact HR.out), hid (World.grownBy.refl _ _)⟩
  case round =>
    clear HRd HA HC HR
    obtain ⟨n', c', A', don, res, rfl, HN', HP, HRd, HA, HC, HR, HG⟩ := hrel
    by_cases h0 : 0 < n'
    · have HN0 := hid h0
      obtain ⟨b0, hb0, ht0, hrn⟩ := HR.out
      obtain ⟨gp, o, rfl, hgp, hcl⟩ := HRd.out (by have := HN'.out; omega)
      have HX := hid (show (bs ++ don).length + res.length ≤ 140737488355328 by have h1 := HN.out; have h2 := HP.out; have h3 := HLN.out; rw [h2] at h1; simp at h1 ⊢; omega)
      generalize hX : bs ++ don = X at *
      have HXX := hid hX
      clear hX
      obtain ⟨N, hN⟩ : ∃ N, N = X.length := ⟨_, rfl⟩
      obtain ⟨r, hr⟩ : ∃ r, r = N % 64 := ⟨_, rfl⟩
      obtain ⟨m, hm⟩ : ∃ m, m = 64 - r := ⟨_, rfl⟩
      obtain ⟨tk, htk⟩ : ∃ tk, tk = Nat.min n' m := ⟨_, rfl⟩
      have hr64 : r < 64 := by rw [hr]; exact Nat.mod_lt _ (by decide)
      have htk2 : tk = min n' m := htk
      have hpl : (res.take tk).length = tk := by have := HN'.out; simp; omega
      rw [← hN] at hrn ht0
      rw [← hr] at ht0
      have HRN := hid hrn
      have HB0 := hid hb0
      have HT0 := hid ht0
      have HL8 := so_length X (N / 64)
      have HS8 := hid (so_sm X (N / 64))
      have HSRC := hid (p := ∀ j v, (bvs (res.take tk))[j]? = some v → wr.drew.cell? ((⟨gp, o, none⟩ : Addr).add j) = some v) (fun j v hv => by
        have hj : j < tk := by
          rcases Nat.lt_or_ge j tk with h | h
          · exact h
          · rw [List.getElem?_eq_none (by rw [bvs_length]; omega)] at hv; cases hv
        rw [Addr.add_mid]
        refine Eq.trans (hcl j (by have := HN'.out; omega)) ?_
        rw [← hv]
        simp [bvs, hj]
        rw [List.getElem?_eq_getElem (by have := HN'.out; omega)]
        rfl)
      have HFIT := hid (p := 9 + r + (bvs (res.take tk)).length ≤ (rc (eat hh X (N / 64)) b0 N).length) (by rw [rc_length N HL8 hb0, bvs_length, hpl]; omega)
      have HPL := hid (p := (bvs (res.take tk)).length = Nat.min n' m) (by rw [bvs_length, hpl, htk])
      have HNX := hid hN
      have hri : (N : Int) % 64 = (r : Int) := by omega
      have hslA := slice_last g r m hr64 hm
      have hs : wr.cell? ⟨g, 73, none⟩ = some (.int .u64 (N : Int)) := hrn.count HL8 hb0
      have HRA := hid (p := Rn (wr.drew.setRow g (splice (rc (eat hh X (N / 64)) b0 N) (9 + r) (bvs (res.take tk))).toArray) g (eat hh X (N / 64)) (splice b0 r (res.take tk)) N) (Rn.copy (w := wr.drew) HRN.out HL8 r (res.take tk) (by rw [hpl, hb0]; omega))
      have HB1 := hid (p := (splice b0 r (res.take tk)).length = 64) (by rw [length_splice _ _ _ (by rw [hpl, hb0]; omega), hb0])
      have HCN := hid (HRA.out.count HL8 HB1.out)
      have HGX := hid (grown_row (grown_drew (World.grownBy.refl wr (some g))) (splice (rc (eat hh X (N / 64)) b0 N) (9 + r) (bvs (res.take tk))).toArray)
      have HGA := hid (grown_row (grown_drew HG.out) (splice (rc (eat hh X (N / 64)) b0 N) (9 + r) (bvs (res.take tk))).toArray)
      have hrt : (N : Int).tmod 64 = (r : Int) := by rw [Int.tmod_eq_emod_of_nonneg (by omega)]; exact hri
      have HRD := hid hr
      have HMD := hid hm
      have HTK := hid htk2
      have HR64 := hid hr64
      have HP2 := hid hpl
      have HPL2 := hid (show (bvs (res.take tk)).length = tk by rw [bvs_length, hpl])
      clear hN hr hm htk htk2 hrn hb0 ht0 hcl hgp hpl hr64
      go_wp2_with fail
      refine wp_region_noPanic ?_
      refine Goes.region (fun (L : Array Bool) (w' : World) => w'.cell? ⟨g, 73, none⟩ = some (.int .u64 (N : Int))) (by as_aux_lemma => kernel_rfl) ?_
      refine Goes.take (i := 0) (o := ⟨some 8, _, _, _, _, _⟩) (v := ?_) [] rfl (by as_aux_lemma => kernel_rfl) (by as_aux_lemma => kernel_rfl) (by as_aux_lemma => kernel_rfl) (fun _ _ _ h => h) (by as_aux_lemma => kernel_rfl) (fun L u h => h) (Or.inl ⟨by rfl, ?_⟩) hs ?_
      rotate_left
      · intro w hY; go_simp; try with_reducible rfl
      try simp only [putz]
      refine Goes.take (i := 1) (o := ⟨some 9, _, _, _, _, _⟩) (v := ?_) [] rfl (by as_aux_lemma => kernel_rfl) (by as_aux_lemma => kernel_rfl) (by as_aux_lemma => kernel_rfl) (fun _ _ _ h => h) (by as_aux_lemma => kernel_rfl) (fun L u h => h) (Or.inl ⟨by rfl, ?_⟩) hs ?_
      rotate_left
      · intro w hY; go_simp; try with_reducible rfl
      try simp only [putz]
      refine Goes.take (i := 2) (o := ⟨some 10, _, _, _, _, _⟩) (v := ?_) [] rfl (by as_aux_lemma => kernel_rfl) (by as_aux_lemma => kernel_rfl) (by as_aux_lemma => kernel_rfl) (fun _ _ _ h => h) (by as_aux_lemma => kernel_rfl) (fun L u h => h) (Or.inl ⟨by rfl, ?_⟩) hs ?_
      rotate_left
      · intro w hY; go_simp; try with_reducible rfl
      try simp only [putz]
      refine Goes.take (i := 3) (o := ⟨some 11, _, _, _, _, _⟩) (v := ?_) [] rfl (by as_aux_lemma => kernel_rfl) (by as_aux_lemma => kernel_rfl) (by as_aux_lemma => kernel_rfl) (fun _ _ _ h => h) (by as_aux_lemma => kernel_rfl) (fun L u h => h) (Or.inl ⟨by rfl, ?_⟩) hs ?_
      rotate_left
      · intro w hY; go_simp; try with_reducible rfl
      try simp only [putz]
      refine Goes.take (i := 4) (o := ⟨some 12, _, _, _, _, _⟩) (v := ?_) [] rfl (by as_aux_lemma => kernel_rfl) (by as_aux_lemma => kernel_rfl) (by as_aux_lemma => kernel_rfl) (fun _ _ _ h => h) (by as_aux_lemma => kernel_rfl) (fun L u h => h) (Or.inl ⟨by rfl, ?_⟩) hs ?_
      rotate_left
      · intro w hY; go_simp; try with_reducible rfl
      try simp only [putz]
      refine Goes.take (i := 5) (o := ⟨some 13, _, _, _, _, _⟩) (v := ?_) [] rfl (by as_aux_lemma => kernel_rfl) (by as_aux_lemma => kernel_rfl) (by as_aux_lemma => kernel_rfl) (fun _ _ _ h => h) (by as_aux_lemma => kernel_rfl) (fun L u h => h) (Or.inl ⟨by rfl, ?_⟩) hs ?_
      rotate_left
      · intro w hY; go_simp; try with_reducible rfl
      try simp only [putz]
      refine Goes.take (i := 6) (o := ⟨some 14, _, _, _, _, _⟩) (v := ?_) [] rfl (by as_aux_lemma => kernel_rfl) (by as_aux_lemma => kernel_rfl) (by as_aux_lemma => kernel_rfl) (fun _ _ _ h => h) (by as_aux_lemma => kernel_rfl) (fun L u h => h) (Or.inl ⟨by rfl, ?_⟩) hs ?_
      rotate_left
      · intro w hY; obtain ⟨up, hL⟩ := hY; have hX := hL.2; clear hL; (try dsimp only at hX); go_simp; try with_reducible rfl
      try simp only [putz]
      refine Goes.take (i := 7) (o := ⟨some 15, _, _, _, _, _⟩) (v := ?_) [] rfl (by as_aux_lemma => kernel_rfl) (by as_aux_lemma => kernel_rfl) (by as_aux_lemma => kernel_rfl) (fun _ _ _ h => h) (by as_aux_lemma => kernel_rfl) (fun L u h => h) (Or.inl ⟨by rfl, ?_⟩) hs ?_
      rotate_left
      · intro w hY; go_simp; try with_reducible rfl
      try simp only [putz]
      refine Goes.take (i := 8) (o := ⟨some 16, _, _, _, _, _⟩) (v := ?_) [] rfl (by as_aux_lemma => kernel_rfl) (by as_aux_lemma => kernel_rfl) (by as_aux_lemma => kernel_rfl) (fun _ _ _ h => h) (by as_aux_lemma => kernel_rfl) (fun L u h => h) (Or.inl ⟨by rfl, ?_⟩) hs ?_
      rotate_left
      · intro w hY; go_simp; try with_reducible rfl
      try simp only [putz]
      refine Goes.take (i := 9) (o := ⟨some 17, _, _, _, _, _⟩) (v := ?_) [] rfl (by as_aux_lemma => kernel_rfl) (by as_aux_lemma => kernel_rfl) (by as_aux_lemma => kernel_rfl) (fun _ _ _ h => h) (by as_aux_lemma => kernel_rfl) (fun L u h => h) (Or.inl ⟨by rfl, ?_⟩) hs ?_
      rotate_left
      · intro w hY; go_simp; try with_reducible rfl
      try simp only [putz]
      refine Goes.one (i := 10) (o := ⟨some 18, _, _, _, _, _⟩) (by as_aux_lemma => kernel_rfl) rfl (fun K hK => ?_)
      refine step_copy_at rfl (.tmp 16) (.tmp 17) 37 37 rfl 5 Tryd.underlying37 (by kernel_rfl) g (9 + r) m m ⟨gp, o, none⟩ n' c' rfl rfl (rc (eat hh X (N / 64)) b0 N) 70 HRN.out (bvs (res.take tk)) HPL.out HSRC.out HFIT.out (bvs_one _) ?_
      refine hK.out _ _ HCN.out ?_
      clear hK K
      clear hs
      have hs := HCN.out
      try simp only [putz]
      refine Goes.take (i := 11) (o := ⟨some 4, _, _, _, _, _⟩) (v := ?_) [] rfl (by as_aux_lemma => kernel_rfl) (by as_aux_lemma => kernel_rfl) (by as_aux_lemma => kernel_rfl) (fun _ _ _ h => h) (by as_aux_lemma => kernel_rfl) (fun L u h => h) (Or.inl ⟨by rfl, ?_⟩) hs ?_
      rotate_left
      · intro w hY; go_simp; try with_reducible rfl
      try simp only [putz]
      refine Goes.done (by as_aux_lemma => kernel_rfl) ?_ _
      refine NoPanic.normal ?_
      simp only [HPL2.out]
      generalize wr.drew.setRow g (splice (rc (eat hh X (N / 64)) b0 N) (9 + r) (bvs (res.take tk))).toArray = wA at *
      have HSL := hid (slice_rest (some ⟨gp, o, none⟩) n' c' tk (by have := HTK.out; omega))
      have hsl := HSL.out
      obtain ⟨A2, hA2⟩ : ∃ A2, A2 = past (some ⟨gp, o, none⟩) tk c' := ⟨_, rfl⟩
      rw [← hA2] at hsl
      have HA2 := hid hA2
      clear hA2
      have hfr := HRA.out.frozen 73
      have hc73 := HCN.out
      have hpl := hid (show (N + tk : Nat) < 18446744073709551616 by have h1 := HX.out; have h2 := HNX.out; have h3 := HN'.out; have h4 := HTK.out; omega)
      have hw1 : IntKind.u64.wrap ((N : Int) + (tk : Int)) = ((N + tk : Nat) : Int) := by have := hpl.out; rw [IntKind.wrap_u64]; omega
      have hw2 : IntKind.u64.wrap (tk : Int) = (tk : Int) := by have := hpl.out; rw [IntKind.wrap_u64]; omega
      have HGW := hid (p := wr.grownBy wA (some g)) HGX.out
      have hcast : ((N : Int) + (tk : Int)) = ((N + tk : Nat) : Int) := by simp
      have HRB := hid (HRA.out.setCount HL8 HB1.out (N + tk))
      have HGB := hid (grown_cell (i := 73) HGW.out (.int .u64 ((N + tk : Nat) : Int)))
      rw [← hcast] at HRB HGB
      have HCA := hid hcast
      have HFIN := hid (p := ∀ wE : World, wr.grownBy wE (some g) → RunIs wE g (X ++ res.take tk) → ((∃ (n'_1 c'_1 : Nat) (A' : Option Addr) (don' res' : List UInt8), Value.slice A2 (n' - tk) (c' - tk) = Value.slice A' n'_1 c'_1 ∧ Hid (res'.length = n'_1) ∧ Hid (part = don' ++ res') ∧ Hid (Rd wE A' res') ∧ Hid (0 < n'_1 → ∀ ad, A' = some ad → ad.block ≠ g) ∧ Hid (n'_1 ≤ c'_1) ∧ Hid (RunIs wE g (bs ++ don')) ∧ Hid (w.grownBy wE (some g))) ∧ n' - tk < n')) (fun wE h1 h2 => by
        have hn0 : 0 < n' := HN0.out
        have ht := HTK.out
        have hm := HMD.out
        have h64 := HR64.out
        have hn := HN'.out
        have hcc := HC.out
        refine ⟨⟨n' - tk, c' - tk, A2, don ++ res.take tk, res.drop tk, rfl, hid (by rw [List.length_drop, hn]), hid (by rw [List.append_assoc, List.take_append_drop]; exact HP.out), hid ?_, hid ?_, hid (by omega), hid ?_, hid (HG.out.trans h1)⟩, by omega⟩
        · rw [HA2.out]; exact (HRd.out.grown h1 (HA.out hn0)).past tk c' (by omega) (by omega)
        · intro _; rw [HA2.out]; exact past_block _ _ _ _ (HA.out hn0)
        · rw [← List.append_assoc, HXX.out]; exact h2)
      have hp64 : r + (res.take tk).length ≤ 64 := by have := HP2.out; have := HTK.out; have := HMD.out; have := HR64.out; omega
      have HP64 := hid hp64
      clear hp64 hcast hsl
      have hsl := HSL.out
      rw [← HA2.out] at hsl
      by_cases hz : (N + tk) % 64 = 0
      · have hzi : ((N : Int) + (tk : Int)) % 64 = 0 := by omega
        have HZ := hid hz
        clear hz
        have HW2 := hid (p := r + (res.take tk).length = 64) (by have h1 := HP2.out; have h2 := HTK.out; have h3 := HMD.out; have h4 := HR64.out; have h5 := HRD.out; have h6 := HZ.out; have h7 := HP64.out; omega)
        go_upto_region 5 with fail
        generalize wA.setCell ⟨g, 73, none⟩ (.int .u64 ((N : Int) + (tk : Int))) = wB at *
        have HKB := hid ((HK.out.grown HG.out H3.out).grown HGB.out H3.out)
        have HIS := hid (p := ∀ wE : World, Rn wE g (comp (eat hh X (N / 64)) (splice b0 r (res.take tk))) (splice b0 r (res.take tk)) (N + tk) → RunIs wE g (X ++ res.take tk)) (fun wE h => run_whole_is HNX.out HRD.out HB0.out HT0.out HW2.out (by rw [HP2.out]; exact h))
        generalize eat hh X (N / 64) = L1 at *
        generalize splice b0 r (res.take tk) = b1 at *
        have hR : wB.rangeAt g 1 (dv L1) ∧ wB.rangeAt g 9 (bvs b1) := ⟨HRB.out.so, HRB.out.last HL8⟩
        have HI57 := hi57 L1 HL8
        have HI59 := hi59 b1 HB1.out
        rw [dv_size, ← dv_length] at HI57
        rw [bvs_size, ← bvs_length] at HI59
        have HL88 := hid HL8
        refine wp_region_noPanic ?_
        refine Goes.region (fun (L : Array Bool) (wX : World) => (L.getD 12 true = false → wX.rangeAt g 1 (dv L1) ∧ wX.rangeAt g 9 (bvs b1))) (by as_aux_lemma => kernel_rfl) ?_
        refine Goes.take (i := 0) (o := ⟨some 37, _, _, _, _, _⟩) (v := ?_) [] rfl (by as_aux_lemma => kernel_rfl) (by as_aux_lemma => kernel_rfl) (by as_aux_lemma => kernel_rfl) (fun _ _ _ h => h) (by as_aux_lemma => kernel_rfl) (fun L u h e => h (by rw [getD_set_ne true (by decide)]; exact e)) (Or.inl ⟨by rfl, ?_⟩) (fun _ => hR) ?_
        rotate_left
        · intro w hY; go_simp; try with_reducible rfl
        try simp only [putz]
        refine Goes.take (i := 1) (o := ⟨some 38, _, _, _, _, _⟩) (v := ?_) [] rfl (by as_aux_lemma => kernel_rfl) (by as_aux_lemma => kernel_rfl) (by as_aux_lemma => kernel_rfl) (fun _ _ _ h => h) (by as_aux_lemma => kernel_rfl) (fun L u h e => h (by rw [getD_set_ne true (by decide)]; exact e)) (Or.inl ⟨by rfl, ?_⟩) (fun _ => hR) ?_
        rotate_left
        · intro w hY; go_simp; try with_reducible rfl
        try simp only [putz]
        refine Goes.take (i := 2) (o := ⟨some 39, _, _, _, _, _⟩) (v := ?_) [] rfl (by as_aux_lemma => kernel_rfl) (by as_aux_lemma => kernel_rfl) (by as_aux_lemma => kernel_rfl) (fun _ _ _ h => h) (by as_aux_lemma => kernel_rfl) (fun L u h e => h (by rw [getD_set_ne true (by decide)]; exact e)) (Or.inl ⟨by rfl, ?_⟩) (fun _ => hR) ?_
        rotate_left
        · intro w hY; go_simp; try with_reducible rfl
        try simp only [putz]
        refine Goes.take (i := 3) (o := ⟨some 40, _, _, _, _, _⟩) (v := ?_) [] rfl (by as_aux_lemma => kernel_rfl) (by as_aux_lemma => kernel_rfl) (by as_aux_lemma => kernel_rfl) (fun _ _ _ h => h) (by as_aux_lemma => kernel_rfl) (fun L u h e => h (by rw [getD_set_ne true (by decide)]; exact e)) (Or.inl ⟨by rfl, ?_⟩) (fun _ => hR) ?_
        rotate_left
        · intro w hY; go_simp; try with_reducible rfl
        try simp only [putz]
        refine Goes.take (i := 4) (o := ⟨some 41, _, _, _, _, _⟩) [12] rfl (by as_aux_lemma => kernel_rfl) (by as_aux_lemma => kernel_rfl) (by as_aux_lemma => kernel_rfl) (fun _ _ _ h => h) (by as_aux_lemma => kernel_rfl) (fun L u h e => h (by rw [getD_set_ne true (by decide)]; exact e)) (yieldsIf_load_mid (by rfl) 65 (.tmp 40) rfl g 1 rfl (dv L1) _ (fun W hY => by obtain ⟨up, hU, hL⟩ := hY; exact (hL (hU 12 (by simp))).1) Tryd.underlying65 rfl HI57.out) (fun _ => hR) ?_
        try simp only [putz]
        refine Goes.take (i := 5) (o := ⟨some 42, _, _, _, _, _⟩) (v := ?_) [] rfl (by as_aux_lemma => kernel_rfl) (by as_aux_lemma => kernel_rfl) (by as_aux_lemma => kernel_rfl) (fun _ _ _ h => h) (by as_aux_lemma => kernel_rfl) (fun L u h e => h (by rw [getD_set_ne true (by decide)]; exact e)) (Or.inl ⟨by rfl, ?_⟩) (fun _ => hR) ?_
        rotate_left
        · intro w hY; go_simp; try with_reducible rfl
        try simp only [putz]
        refine Goes.take (i := 6) (o := ⟨some 43, _, _, _, _, _⟩) (v := ?_) [] rfl (by as_aux_lemma => kernel_rfl) (by as_aux_lemma => kernel_rfl) (by as_aux_lemma => kernel_rfl) (fun _ _ _ h => h) (by as_aux_lemma => kernel_rfl) (fun L u h e => h (by rw [getD_set_ne true (by decide)]; exact e)) (Or.inl ⟨by rfl, ?_⟩) (fun _ => hR) ?_
        rotate_left
        · intro w hY; go_simp; try with_reducible rfl
        try simp only [putz]
        refine Goes.take (i := 7) (o := ⟨some 44, _, _, _, _, _⟩) (v := ?_) [] rfl (by as_aux_lemma => kernel_rfl) (by as_aux_lemma => kernel_rfl) (by as_aux_lemma => kernel_rfl) (fun _ _ _ h => h) (by as_aux_lemma => kernel_rfl) (fun L u h e => h (by rw [getD_set_ne true (by decide)]; exact e)) (Or.inl ⟨by rfl, ?_⟩) (fun _ => hR) ?_
        rotate_left
        · intro w hY; go_simp; try with_reducible rfl
        try simp only [putz]
        refine Goes.take (i := 8) (o := ⟨some 45, _, _, _, _, _⟩) [12] rfl (by as_aux_lemma => kernel_rfl) (by as_aux_lemma => kernel_rfl) (by as_aux_lemma => kernel_rfl) (fun _ _ _ h => h) (by as_aux_lemma => kernel_rfl) (fun L u h e => h (by rw [getD_set_ne true (by decide)]; exact e)) (yieldsIf_load_mid (by rfl) 68 (.tmp 44) rfl g 9 rfl (bvs b1) _ (fun W hY => by obtain ⟨up, hU, hL⟩ := hY; exact (hL (hU 12 (by simp))).2) Tryd.underlying68 rfl HI59.out) (fun _ => hR) ?_
        try simp only [putz]
        refine Goes.one (i := 9) (o := ⟨some 46, _, _, _, _, _⟩) (by as_aux_lemma => kernel_rfl) rfl (fun K hK => ?_)
        go_simp
        refine (take_any L1 b1 _ HL88.out HS8.out HB1.out HKB.out.drew).mono ?_
        rintro e' w2 ⟨rfl, hb2⟩
        go_wp2_with fail
        have HR2 := hid (p := Rn w2 g L1 b1 (N + tk)) ((hb2.block g HRB.out.lt).trans HRB.out)
        have hR2 : w2.rangeAt g 1 (dv L1) ∧ w2.rangeAt g 9 (bvs b1) := ⟨HR2.out.so, HR2.out.last HL88.out⟩
        have HG2 := hid (p := wr.grownBy w2 (some g)) ((grown_drew HGB.out).trans (grown_of hb2 _))
        refine hK.out _ _ (fun _ => hR2) ?_
        clear hK K hR hb2
        have hR := hR2
        clear hR2
        try simp only [putz]
        refine Goes.take (i := 10) (o := ⟨some 47, _, _, _, _, _⟩) (v := ?_) [] rfl (by as_aux_lemma => kernel_rfl) (by as_aux_lemma => kernel_rfl) (by as_aux_lemma => kernel_rfl) (fun _ _ _ h => h) (by as_aux_lemma => kernel_rfl) (fun L u h e => h (by rw [getD_set_ne true (by decide)]; exact e)) (Or.inl ⟨by rfl, ?_⟩) (fun _ => hR) ?_
        rotate_left
        · intro w hY; go_simp; try with_reducible rfl
        try simp only [putz]
        refine Goes.take (i := 11) (o := ⟨some 48, _, _, _, _, _⟩) (v := ?_) [] rfl (by as_aux_lemma => kernel_rfl) (by as_aux_lemma => kernel_rfl) (by as_aux_lemma => kernel_rfl) (fun _ _ _ h => h) (by as_aux_lemma => kernel_rfl) (fun L u h e => h (by rw [getD_set_ne true (by decide)]; exact e)) (Or.inl ⟨by rfl, ?_⟩) (fun _ => hR) ?_
        rotate_left
        · intro w hY; go_simp; try with_reducible rfl
        try simp only [putz]
        refine Goes.one (i := 12) (o := ⟨none, _, _, _, _, _⟩) (by as_aux_lemma => kernel_rfl) rfl (fun K hK => ?_)
        refine step_store_mid rfl 65 (.tmp 48) (.tmp 46) rfl g 1 (dv (comp L1 b1)).toArray rfl rfl (by rw [dv_size, comp_length _ _ HL88.out]; exact HR2.out.there HL88.out) (hi57 _ (comp_length _ _ HL88.out)).out (dv_all _) ?_
        refine hK.out _ _ (fun e => absurd e (by as_aux_lemma => decide +kernel)) ?_
        clear hK K
        try simp only [putz]
        refine Goes.done (by as_aux_lemma => kernel_rfl) ?_ _
        refine NoPanic.normal ?_
        go_wp2
        exact HFIN.out _ (grown_cells HG2.out _) (HIS.out _ (HR2.out.setSo (HL88.out.trans (comp_length _ _ HL88.out).symm)))
      · have hzi : (((N : Int) + (tk : Int)) % 64 == 0) = false := by simp; omega
        have HIS := hid (run_part_is HNX.out HRD.out HB0.out HT0.out HP64.out (by rw [HP2.out]; exact hz) (by rw [HP2.out]; have := HRB.out; rw [HCA.out] at this; exact this))
        go_wp2
        exact HFIN.out _ HGB.out HIS.out
    · obtain rfl : n' = 0 := by omega
      have HRE : Hid (RunIs wr g (bs ++ part)) := hid (by
        have : res = [] := List.eq_nil_of_length_eq_zero HN'.out
        have h2 := HP.out
        rw [this, List.append_nil] at h2
        rw [h2]; exact HR.out)
      go_wp2
      exact bodyPost_end (v := .tuple #[]) (by simp [results, Tryd.results24, go_sem]) rfl ⟨rfl, HRE.out, HG.out⟩
end Go.Proofs.YtgmnpkgnedngjaaDoor
namespace Go.Proofs.YtgmnpkgnedngjaaDoor
open Go.RowKit
set_option linter.unusedVariables false

theorem i44 : (Tryd.prog.info? 40).map (·.size) = some 32 := by kernel_rfl
theorem hi44 (b : List UInt8) (h : b.length = 32) : Hid ((Tryd.prog.info? 40).map (·.size) = some (bvs b).toArray.size) := by rw [bvs_size, h]; exact hid i44
theorem Bt.set {w : World} {g : Nat} {t : TypeId} {l : List UInt8} (h : Bt w g t l) (k : Nat) (b : UInt8) : Bt (w.setCell ⟨g, k, none⟩ (.int .u8 ((b.toNat : Nat) : Int))) g t (l.set k b) := by
  unfold Bt at h ⊢; simp [World.setCell, Array.getElem?_modify, h, bvs, List.map_set]
theorem Bt.row {w : World} {g : Nat} {t : TypeId} {l m : List UInt8} (h : Bt w g t l) : Bt (w.setRow g (bvs m).toArray) g t m := setRow_heap w g _ _ t (0, 0) h
/-- what stands while numbers are told as bytes -/
structure Tl (w : World) (l : List Nat) (m : List UInt8) (w' : World) : Prop where
  below : Below w.heap.size w w'
  n : Us w' w.heap.size 65 l
  z : Bt w' (w.heap.size + 1) 40 (List.replicate 32 0)
  m : Bt w' (w.heap.size + 1 + 1) 40 m
theorem Tl.init (w : World) (l : List Nat) : Hid (Tl w l (List.replicate 32 0) (((w.alloc (.cells (dv l).toArray 65)).alloc (.cells #[.int .u8 0, .int .u8 0, .int .u8 0, .int .u8 0, .int .u8 0, .int .u8 0, .int .u8 0, .int .u8 0, .int .u8 0, .int .u8 0, .int .u8 0, .int .u8 0, .int .u8 0, .int .u8 0, .int .u8 0, .int .u8 0, .int .u8 0, .int .u8 0, .int .u8 0, .int .u8 0, .int .u8 0, .int .u8 0, .int .u8 0, .int .u8 0, .int .u8 0, .int .u8 0, .int .u8 0, .int .u8 0, .int .u8 0, .int .u8 0, .int .u8 0, .int .u8 0] 40)).alloc (.cells #[.int .u8 0, .int .u8 0, .int .u8 0, .int .u8 0, .int .u8 0, .int .u8 0, .int .u8 0, .int .u8 0, .int .u8 0, .int .u8 0, .int .u8 0, .int .u8 0, .int .u8 0, .int .u8 0, .int .u8 0, .int .u8 0, .int .u8 0, .int .u8 0, .int .u8 0, .int .u8 0, .int .u8 0, .int .u8 0, .int .u8 0, .int .u8 0, .int .u8 0, .int .u8 0, .int .u8 0, .int .u8 0, .int .u8 0, .int .u8 0, .int .u8 0, .int .u8 0] 40))) := by
  have s1 : ∀ (w : World) (o : Obj), (w.alloc o).heap.size = w.heap.size + 1 := fun w o => Array.size_push _
  refine hid ⟨(((Below.refl _ _).alloc (Nat.le_refl _) _).alloc (by rw [s1]; omega) _).alloc (by rw [s1, s1]; omega) _, Us.alloc (Us.alloc (heap_alloc_new _ _) _) _, Bt.alloc ?_ _, ?_⟩
  · rw [← s1 w (.cells (dv l).toArray 65)]; exact heap_alloc_new _ _
  · rw [← s1 w (.cells (dv l).toArray 65), ← s1 _ (.cells #[.int .u8 0, .int .u8 0, .int .u8 0, .int .u8 0, .int .u8 0, .int .u8 0, .int .u8 0, .int .u8 0, .int .u8 0, .int .u8 0, .int .u8 0, .int .u8 0, .int .u8 0, .int .u8 0, .int .u8 0, .int .u8 0, .int .u8 0, .int .u8 0, .int .u8 0, .int .u8 0, .int .u8 0, .int .u8 0, .int .u8 0, .int .u8 0, .int .u8 0, .int .u8 0, .int .u8 0, .int .u8 0, .int .u8 0, .int .u8 0, .int .u8 0, .int .u8 0] 40)]; exact heap_alloc_new _ _
theorem Tl.set {w w' : World} {l : List Nat} {m : List UInt8} (h : Tl w l m w') (k : Nat) (b : UInt8) : Tl w l (m.set k b) (w'.setCell ⟨w.heap.size + 1 + 1, k, none⟩ (.int .u8 ((b.toNat : Nat) : Int))) :=
  ⟨h.below.setCell (by simp; omega) _, h.n.other _ (by omega), h.z.other _ (by omega), h.m.set k b⟩
/-- the byte at a place -/
def sb (l : List Nat) (j : Nat) : UInt8 := UInt8.ofNat (at' l (j / 4) / 256 ^ (3 - j % 4))
theorem sb_val (l : List Nat) (j r : Nat) (hr : j % 4 = r) : (((sb l j).toNat : Nat) : Int) = ((at' l (j / 4) : Nat) : Int) / ((256 ^ (3 - r) : Nat) : Int) % 256 := by
  unfold sb
  rw [UInt8.toNat_ofNat', hr, show (2 : Nat) ^ 8 = 256 by decide]
  omega
set_option maxRecDepth 100000 in
set_option maxHeartbeats 1000000 in
theorem tell_any' (l : List Nat) (w : World) (hl : l.length = 8) :
    Calls Tryd.prog 39 #[.agg (dv l).toArray] w fun e w' => e = .returned (.agg (bvs (spell l)).toArray) ∧ Below w.heap.size w w' := by
  have HL := hid hl
  clear hl
  go_enter Tryd.func39, Tryd.ntmps39
  go_wp2_with fail
  have HT := Tl.init w l
  generalize ((w.alloc (.cells (dv l).toArray 65)).alloc (.cells #[.int .u8 0, .int .u8 0, .int .u8 0, .int .u8 0, .int .u8 0, .int .u8 0, .int .u8 0, .int .u8 0, .int .u8 0, .int .u8 0, .int .u8 0, .int .u8 0, .int .u8 0, .int .u8 0, .int .u8 0, .int .u8 0, .int .u8 0, .int .u8 0, .int .u8 0, .int .u8 0, .int .u8 0, .int .u8 0, .int .u8 0, .int .u8 0, .int .u8 0, .int .u8 0, .int .u8 0, .int .u8 0, .int .u8 0, .int .u8 0, .int .u8 0, .int .u8 0] 40)).alloc (.cells #[.int .u8 0, .int .u8 0, .int .u8 0, .int .u8 0, .int .u8 0, .int .u8 0, .int .u8 0, .int .u8 0, .int .u8 0, .int .u8 0, .int .u8 0, .int .u8 0, .int .u8 0, .int .u8 0, .int .u8 0, .int .u8 0, .int .u8 0, .int .u8 0, .int .u8 0, .int .u8 0, .int .u8 0, .int .u8 0, .int .u8 0, .int .u8 0, .int .u8 0, .int .u8 0, .int .u8 0, .int .u8 0, .int .u8 0, .int .u8 0, .int .u8 0, .int .u8 0] 40) = w0 at *
  go_loopw [5] (fun i wr => ∃ (k : Nat) (m : List UInt8), k ≤ 32 ∧ i = .int .i64 k ∧ Hid (Tl w l m wr) ∧ Hid (m.length = 32) ∧ Hid (∀ j, j < k → m[j]? = some (sb l j))) (fun i _ => 32 - (intOf i).toNat)
  case atStart => exact ⟨0, List.replicate 32 0, by omega, rfl, HT, hid rfl, hid (fun j hj => absurd hj (Nat.not_lt_zero _))⟩
  case round =>
    clear HT
    obtain ⟨k, m, hk, rfl, HT, HM, HA⟩ := hrel
    by_cases hlt : k < 32
    · obtain ⟨q, hq⟩ : ∃ q : Nat, q = k / 4 := ⟨_, rfl⟩
      have hqi : (k : Int) / 4 = (q : Int) := by omega
      have hq8 : q < 8 := by omega
      have HQ := hid hq
      clear hq
      have hcn := HT.out.n.cell q (by have := HL.out; omega)
      have hcm := HT.out.m.cell k (by have := HM.out; omega)
      have hfm := HT.out.m.frozen k
      generalize (m[k]'(by have := HM.out; omega)).toNat = old at hcm
      rcases (show k % 4 = 0 ∨ k % 4 = 1 ∨ k % 4 = 2 ∨ k % 4 = 3 by omega) with hr | hr | hr | hr
      · have hri : (k : Int) % 4 = 0 := by omega
        have HV := hid (sb_val l k 0 hr)
        rw [← HQ.out] at HV
        have HR := hid hr
        clear hr
        go_wp2
        go_roundw
        case rel =>
          refine ⟨k + 1, m.set k (sb l k), by omega, by go_num, ?_, hid (by rw [List.length_set]; exact HM.out), hid ?_⟩
          · have := HT.out.set k (sb l k)
            rw [HV.out] at this
            simpa using hid this
          · intro j hj
            rw [List.getElem?_set]
            by_cases h : k = j
            · subst h; rw [if_pos rfl, if_pos (by have := HM.out; omega)]
            · rw [if_neg h]; exact HA.out j (by omega)
        case measure => simp [intOf]; omega
      · have hri : (k : Int) % 4 = 1 := by omega
        have HV := hid (sb_val l k 1 hr)
        rw [← HQ.out] at HV
        have HR := hid hr
        clear hr
        go_wp2
        go_roundw
        case rel =>
          refine ⟨k + 1, m.set k (sb l k), by omega, by go_num, ?_, hid (by rw [List.length_set]; exact HM.out), hid ?_⟩
          · have := HT.out.set k (sb l k)
            rw [HV.out] at this
            simpa using hid this
          · intro j hj
            rw [List.getElem?_set]
            by_cases h : k = j
            · subst h; rw [if_pos rfl, if_pos (by have := HM.out; omega)]
            · rw [if_neg h]; exact HA.out j (by omega)
        case measure => simp [intOf]; omega
      · have hri : (k : Int) % 4 = 2 := by omega
        have HV := hid (sb_val l k 2 hr)
        rw [← HQ.out] at HV
        have HR := hid hr
        clear hr
        go_wp2
        go_roundw
        case rel =>
          refine ⟨k + 1, m.set k (sb l k), by omega, by go_num, ?_, hid (by rw [List.length_set]; exact HM.out), hid ?_⟩
          · have := HT.out.set k (sb l k)
            rw [HV.out] at this
            simpa using hid this
          · intro j hj
            rw [List.getElem?_set]
            by_cases h : k = j
            · subst h; rw [if_pos rfl, if_pos (by have := HM.out; omega)]
            · rw [if_neg h]; exact HA.out j (by omega)
        case measure => simp [intOf]; omega
      · have hri : (k : Int) % 4 = 3 := by omega
        have HV := hid (sb_val l k 3 hr)
        rw [← HQ.out] at HV
        have HR := hid hr
        clear hr
        go_wp2
        go_roundw
        case rel =>
          refine ⟨k + 1, m.set k (sb l k), by omega, by go_num, ?_, hid (by rw [List.length_set]; exact HM.out), hid ?_⟩
          · have := HT.out.set k (sb l k)
            rw [HV.out] at this
            simpa using hid this
          · intro j hj
            rw [List.getElem?_set]
            by_cases h : k = j
            · subst h; rw [if_pos rfl, if_pos (by have := HM.out; omega)]
            · rw [if_neg h]; exact HA.out j (by omega)
        case measure => simp [intOf]; omega
    · obtain rfl : k = 32 := by omega
      have hme : m = spell l := by
        apply List.ext_getElem?
        intro j
        rcases Nat.lt_or_ge j 32 with h | h
        · rw [HA.out j h, spell_at l j (by have := HL.out; omega)]; rfl
        · rw [List.getElem?_eq_none (by have := HM.out; omega), List.getElem?_eq_none (by rw [spell_length, HL.out]; exact h)]
      have HT2 : Hid (Tl w l (spell l) wr) := hid (hme ▸ HT.out)
      have HCL := hid (show (spell l).length = 32 by rw [spell_length, HL.out])
      clear HT HM HA hme
      generalize hr : spell l = r at *
      have HRR := hid hr
      clear hr
      have HI := hi44 r HCL.out
      have HO8 : Hid ((bvs (List.replicate 32 0)).toArray.size = (bvs r).toArray.size) := hid (by rw [bvs_size, bvs_size, HCL.out, List.length_replicate])
      have HZ := hid (HT2.out.z.row (m := r))
      have HBW := hid (p := Below w.heap.size w (wr.setRow (w.heap.size + 1) (bvs r).toArray)) (below_setRow HT2.out.below (Nat.le_succ _) _)
      go_upto_region 7 with fail
      have HDA := bvs_all r
      have HZL := HT2.out.m
      have HZZ := HT2.out.z
      unfold Bt at HZL HZZ
      have HZL := hid HZL
      have HZZ := hid HZZ
      go_wp2_with (first | (refine wpList_load_row rfl 40 (.tmp 3) rfl (w.heap.size + 1 + 1) rfl 40 (bvs r).toArray (0, 0) _ HZL.out Tryd.underlying40 rfl HI.out ?_) | (refine wpList_store_row rfl 40 (.tmp 2) (.tmp 21) rfl (w.heap.size + 1) (bvs r).toArray rfl rfl 40 _ HZZ.out HI.out HO8.out HDA ?_))
      exact bodyPost_ret (v := .agg (bvs r).toArray) (results_cell_row (p := 2) (ty := 40) Tryd.results39 _ _ (w.heap.size + 1) 40 (bvs r).toArray (0, 0) _ rfl HZ.out Tryd.underlying40 rfl HI.out) rfl ⟨by rw [HRR.out], HBW.out⟩
set_option maxRecDepth 100000 in
theorem squares_any (w : World) : Calls Tryd.prog 35 #[] w fun e w' => e = .returned (.agg (dv hh).toArray) ∧ Below w.heap.size w w' := by
  go_enter Tryd.func35, Tryd.ntmps35
  go_wp2
  have h : (w.alloc (.cells (dv hh).toArray 65)).heap[w.heap.size]? = some (.cells (dv hh).toArray 65) := heap_alloc_new w (.cells (dv hh).toArray 65)
  exact bodyPost_ret (v := .agg (dv hh).toArray) (results_cell_row (p := 0) (ty := 65) Tryd.results35 _ _ w.heap.size 65 (dv hh).toArray (0, 0) _ rfl h Tryd.underlying65 rfl (hi57 hh rfl).out) rfl ⟨rfl, (Below.refl _ _).alloc (Nat.le_refl _) _⟩
end Go.Proofs.YtgmnpkgnedngjaaDoor
namespace Go.Proofs.YtgmnpkgnedngjaaDoor
open Go.RowKit
set_option linter.unusedVariables false

theorem there_none (w : World) : Calls Tryd.prog 37 #[.pointer none] w fun e w' => e = .returned (.bool false) ∧ w = w' := by
  go_enter Tryd.func37, Tryd.ntmps37
  go_wp2
  go_ret
  exact ⟨rfl, rfl⟩
theorem there_any (g : Nat) (t : Bool) (w : World) (h : w.cell? ⟨g, 0, none⟩ = some (.bool t)) : Calls Tryd.prog 37 #[.pointer (some ⟨g, 0, none⟩)] w fun e w' => e = .returned (.bool t) ∧ w = w' := by
  go_enter Tryd.func37, Tryd.ntmps37
  go_wp2
  go_ret
  exact ⟨rfl, rfl⟩
set_option maxRecDepth 100000 in
theorem new_any (w : World) : Calls Tryd.prog 23 #[] w fun e w' => (∃ g, e = .returned (.pointer (some ⟨g, 0, none⟩)) ∧ w.heap.size ≤ g ∧ RunIs w' g []) ∧ Below w.heap.size w w' := by
  go_enter Tryd.func23, Tryd.ntmps23
  go_wp2_with fail
  refine (squares_any w).mono ?_
  rintro e w1 ⟨rfl, hb⟩
  have hzR := zvR
  have hnR := zcR_ne
  have hsR := zcR_size
  go_wp2
  have hc : List.foldl (fun (cs : Array Value) (x : Value × Nat) => cs.setIfInBounds (1 + x.snd) x.fst) (zcR.setIfInBounds 0 (Value.bool true)) (dv hh).zipIdx = (rc hh (List.replicate 64 0) 0).toArray := by kernel_rfl
  rw [hc]
  have hR : RunIs (w1.alloc (.cells (rc hh (List.replicate 64 0) 0).toArray 70)) w1.heap.size [] := ⟨List.replicate 64 0, rfl, rfl, heap_alloc_new _ _⟩
  have hB : Below w.heap.size w (w1.alloc (.cells (rc hh (List.replicate 64 0) 0).toArray 70)) := hb.alloc hb.size _
  have hS := hb.size
  exact bodyPost_ret (v := .pointer (some ⟨w1.heap.size, 0, none⟩)) (by simp [results, Tryd.results23, go_sem]) rfl ⟨⟨w1.heap.size, rfl, hS, hR⟩, hB⟩
theorem run_make_u64 (w : World) (n : Nat) (h : n ≤ 281474976710656) :
    (Instr.makeSlice 37 (.int .u64 (n : Int)) (.int .u64 (n : Int))).run Tryd.prog w = .ok (.slice (some ⟨w.heap.size, 0, none⟩) n n) (w.alloc (.cells (bvs (List.replicate n 0)).toArray 5)) := by
  obtain ⟨i0, hi, hz0, hz1, hz2⟩ := info_parts u8_info
  have := run_make (P := Tryd.prog) w 37 5 i0 (.int .u8 0) Tryd.underlying37 hi hz0 .u64 .u64 (n : Int) (n : Int) (by omega) (by omega) (by rw [hz2]; omega) (by omega)
  rw [this, hz1, Int.toNat_natCast, Nat.mul_one, made_bytes]
set_option maxRecDepth 100000 in
theorem ending_any (n : Nat) (w : World) (hn : n ≤ 140737488355328) :
    Calls Tryd.prog 38 #[.int .u64 (n : Int)] w fun e w' => (∃ g k, e = .returned (.slice (some ⟨g, 0, none⟩) k k) ∧ k = (tail n).length ∧ w.heap.size ≤ g ∧ Row w' g (tail n)) ∧ Below w.heap.size w w' := by
  obtain ⟨q, hq⟩ : ∃ q, q = nought n := ⟨_, rfl⟩
  have hq2 := hq
  unfold nought at hq2
  have hq64 : q < 64 := by omega
  have ho : (IntKind.u64.wrap (55 - (n : Int))) % 64 = (q : Int) := by rw [IntKind.wrap_u64]; omega
  have hot : (IntKind.u64.wrap (55 - (n : Int))).tmod 64 = (q : Int) := by rw [Int.tmod_eq_emod_of_nonneg (by rw [IntKind.wrap_u64]; omega)]; exact ho
  obtain ⟨k, hk⟩ : ∃ k, k = q + 1 := ⟨_, rfl⟩
  have hw : IntKind.u64.wrap (1 + (q : Int)) = (k : Int) := by rw [IntKind.wrap_u64]; omega
  have hmk := run_make_u64 w k (by omega)
  have h8 : IntKind.u64.wrap (8 * (n : Int)) = ((8 * n : Nat) : Int) := by rw [IntKind.wrap_u64]; omega
  have HQ := hid hq
  have HK := hid hk
  have HN := hid hn
  have HQ64 := hid hq64
  clear hq hq2 hn hk hq64
  go_enter Tryd.func38, Tryd.ntmps38
  go_upto_region 3 with fail
  have HR : Hid (Row (w.alloc (.cells (bvs (List.replicate k 0)).toArray 5)) w.heap.size (List.replicate k 0)) := hid (heap_alloc_new _ _)
  have HB := hid ((Below.refl w.heap.size w).alloc (Nat.le_refl _) (.cells (bvs (List.replicate k 0)).toArray 5))
  generalize w.alloc (.cells (bvs (List.replicate k 0)).toArray 5) = w1 at *
  have hc := HR.out.cell 0 (by have := HK.out; simp; omega)
  have hf := HR.out.frozen 0
  have hk0 : 0 < k := by have := HK.out; omega
  have HR2 := hid (HR.out.set 0 128)
  have HB2 := hid (p := Below w.heap.size w (w1.setCell ⟨w.heap.size, 0, none⟩ (.int .u8 128))) (HB.out.setCell (Nat.le_refl _) _)
  go_upto_region 4 with fail
  have e0 : (((128 : UInt8).toNat : Nat) : Int) = 128 := rfl
  rw [e0] at HR2
  have hck := hid hc
  have hcf := hid hf
  clear hc hf
  generalize w1.setCell ⟨w.heap.size, 0, none⟩ (.int .u8 128) = w2 at *
  go_wp2_with fail
  have HLk := hid (show ((List.replicate k (0 : UInt8)).set 0 128).length = k by simp)
  have HTL := hid (show (List.replicate k (0 : UInt8)).set 0 128 ++ be (8 * n) 8 = tail n by
    rw [HK.out, HQ.out, List.replicate_succ, List.set_cons_zero, tail]; rfl)
  have hput := put_any (some ⟨w.heap.size, 0, none⟩) k (8 * n) 8 8 ((List.replicate k (0 : UInt8)).set 0 128) w2 HR2.out.rd0 (by rw [HLk.out]; have := HK.out; have := HQ64.out; omega) (by have := HN.out; omega) (by decide)
  rw [HLk.out, HTL.out] at hput
  refine hput.mono ?_
  rintro e w3 ⟨rfl, HR3, hb3⟩
  have hlen : k + 8 = (tail n).length := by rw [tail_length, HK.out, HQ.out]; omega
  have hB := HB2.out.trans (hb3.mono HB2.out.size)
  have hs := HB2.out.size
  go_wp2
  go_ret
  exact ⟨⟨w2.heap.size, (tail n).length, rfl, rfl, hs, HR3⟩, hB⟩
end Go.Proofs.YtgmnpkgnedngjaaDoor
namespace Go.Proofs.YtgmnpkgnedngjaaDoor
open Go.RowKit
set_option linter.unusedVariables false
set_option linter.unusedSimpArgs false

theorem i61 : (Tryd.prog.info? 70).map (·.size) = some 74 := by kernel_rfl
theorem below_grown {B g : Nat} {w w1 w2 : World} (h : Below B w w1) (k : w1.grownBy w2 (some g)) (hg : B ≤ g) (hB : B ≤ w1.heap.size) : Below B w w2 :=
  h.trans ⟨k.os, k.tape, k.output, k.size, fun i hi => k.block i (by omega) (by intro e; injection e with e; omega)⟩
theorem rc_all (l : List Nat) (b : List UInt8) (n : Nat) : (rc l b n).toArray.all (·.oneCell') = true := by
  refine all_oneCell_toArray (fun v hv => ?_)
  simp only [rc, List.mem_cons, List.mem_append, List.not_mem_nil, or_false] at hv
  rcases hv with rfl | h | h | rfl
  · rfl
  · exact dv_one l v h
  · exact bvs_one b v h
  · rfl
theorem rc_size {l : List Nat} {b : List UInt8} (n : Nat) (hl : l.length = 8) (hb : b.length = 64) : (rc l b n).toArray.size = 74 := by rw [List.size_toArray, rc_length n hl hb]
/-- the answer's box, then the run's likeness -/
theorem sum_boxes (w w1 : World) (g : Nat) (bs : List UInt8) (b : List UInt8) (old : Array Value) (hB : Below w.heap.size w w1) (hs : w.heap.size < w1.heap.size) (hz : Bt w1 w.heap.size 40 (List.replicate 32 0))
    (hR : Rn w1 g (eat hh bs (bs.length / 64)) b bs.length) (hb : b.length = 64) (ht : b.take (bs.length % 64) = bs.drop (64 * (bs.length / 64))) :
    ∃ w2, (w1.alloc (.cells old 70)).setRow w1.heap.size (rc (eat hh bs (bs.length / 64)) b bs.length).toArray = w2 ∧ Hid (Below w.heap.size w w2) ∧ Hid (Bt w2 w.heap.size 40 (List.replicate 32 0)) ∧ Hid (RunIs w2 w1.heap.size bs) ∧ Hid (Rn w2 g (eat hh bs (bs.length / 64)) b bs.length) ∧ Hid (w1.heap.size < w2.heap.size) := by
  refine ⟨_, rfl, ?_⟩
  rw [World.setRow_alloc_new]
  have hx : Below w1.heap.size w1 (w1.alloc (.cells (rc (eat hh bs (bs.length / 64)) b bs.length).toArray 70)) := (Below.refl _ _).alloc (Nat.le_refl _) _
  exact ⟨hid (hB.trans (hx.mono (by omega))), hid (hz.on hx), hid ⟨b, hb, ht, heap_alloc_new _ _⟩, hid ((hx.block g hR.lt).trans hR), hid (by simp)⟩
set_option maxRecDepth 100000 in
set_option maxHeartbeats 2000000 in
theorem sum_any (g : Nat) (bs : List UInt8) (w : World) (hR : RunIs w g bs) (hK : Kt w) (hl : bs.length ≤ 70368744177664) :
    Calls Tryd.prog 27 #[.pointer (some ⟨g, 0, none⟩)] w fun e w' => e = .returned (.agg (bvs (sha bs)).toArray) ∧ Below w.heap.size w w' := by
  obtain ⟨b, hb, ht, hR⟩ := hR
  have HB := hid hb
  have HT := hid ht
  have HR := hid hR
  have HK := hid hK
  have HL := hid hl
  clear hb ht hR hK hl
  go_enter Tryd.func27, Tryd.ntmps27
  go_wp2_with fail
  have HR1 : Hid (Rn (w.alloc (.cells #[.int .u8 0, .int .u8 0, .int .u8 0, .int .u8 0, .int .u8 0, .int .u8 0, .int .u8 0, .int .u8 0, .int .u8 0, .int .u8 0, .int .u8 0, .int .u8 0, .int .u8 0, .int .u8 0, .int .u8 0, .int .u8 0, .int .u8 0, .int .u8 0, .int .u8 0, .int .u8 0, .int .u8 0, .int .u8 0, .int .u8 0, .int .u8 0, .int .u8 0, .int .u8 0, .int .u8 0, .int .u8 0, .int .u8 0, .int .u8 0, .int .u8 0, .int .u8 0] 40)) g (eat hh bs (bs.length / 64)) b bs.length) := hid ((((Below.refl _ _).alloc (Nat.le_refl _) _ : Below w.heap.size w (w.alloc (.cells #[.int .u8 0, .int .u8 0, .int .u8 0, .int .u8 0, .int .u8 0, .int .u8 0, .int .u8 0, .int .u8 0, .int .u8 0, .int .u8 0, .int .u8 0, .int .u8 0, .int .u8 0, .int .u8 0, .int .u8 0, .int .u8 0, .int .u8 0, .int .u8 0, .int .u8 0, .int .u8 0, .int .u8 0, .int .u8 0, .int .u8 0, .int .u8 0, .int .u8 0, .int .u8 0, .int .u8 0, .int .u8 0, .int .u8 0, .int .u8 0, .int .u8 0, .int .u8 0] 40))).block g HR.out.lt).trans HR.out)
  have HZ1 : Hid (Bt (w.alloc (.cells #[.int .u8 0, .int .u8 0, .int .u8 0, .int .u8 0, .int .u8 0, .int .u8 0, .int .u8 0, .int .u8 0, .int .u8 0, .int .u8 0, .int .u8 0, .int .u8 0, .int .u8 0, .int .u8 0, .int .u8 0, .int .u8 0, .int .u8 0, .int .u8 0, .int .u8 0, .int .u8 0, .int .u8 0, .int .u8 0, .int .u8 0, .int .u8 0, .int .u8 0, .int .u8 0, .int .u8 0, .int .u8 0, .int .u8 0, .int .u8 0, .int .u8 0, .int .u8 0] 40)) w.heap.size 40 (List.replicate 32 0)) := hid (heap_alloc_new w _)
  have HB1 : Hid (Below w.heap.size w (w.alloc (.cells #[.int .u8 0, .int .u8 0, .int .u8 0, .int .u8 0, .int .u8 0, .int .u8 0, .int .u8 0, .int .u8 0, .int .u8 0, .int .u8 0, .int .u8 0, .int .u8 0, .int .u8 0, .int .u8 0, .int .u8 0, .int .u8 0, .int .u8 0, .int .u8 0, .int .u8 0, .int .u8 0, .int .u8 0, .int .u8 0, .int .u8 0, .int .u8 0, .int .u8 0, .int .u8 0, .int .u8 0, .int .u8 0, .int .u8 0, .int .u8 0, .int .u8 0, .int .u8 0] 40))) := hid ((Below.refl _ _).alloc (Nat.le_refl _) _)
  have HS1 : Hid (w.heap.size < (w.alloc (.cells #[.int .u8 0, .int .u8 0, .int .u8 0, .int .u8 0, .int .u8 0, .int .u8 0, .int .u8 0, .int .u8 0, .int .u8 0, .int .u8 0, .int .u8 0, .int .u8 0, .int .u8 0, .int .u8 0, .int .u8 0, .int .u8 0, .int .u8 0, .int .u8 0, .int .u8 0, .int .u8 0, .int .u8 0, .int .u8 0, .int .u8 0, .int .u8 0, .int .u8 0, .int .u8 0, .int .u8 0, .int .u8 0, .int .u8 0, .int .u8 0, .int .u8 0, .int .u8 0] 40)).heap.size) := hid (by simp)
  generalize w.alloc (.cells #[.int .u8 0, .int .u8 0, .int .u8 0, .int .u8 0, .int .u8 0, .int .u8 0, .int .u8 0, .int .u8 0, .int .u8 0, .int .u8 0, .int .u8 0, .int .u8 0, .int .u8 0, .int .u8 0, .int .u8 0, .int .u8 0, .int .u8 0, .int .u8 0, .int .u8 0, .int .u8 0, .int .u8 0, .int .u8 0, .int .u8 0, .int .u8 0, .int .u8 0, .int .u8 0, .int .u8 0, .int .u8 0, .int .u8 0, .int .u8 0, .int .u8 0, .int .u8 0] 40) = w1 at *
  refine (there_any g true w1 HR1.out.made).mono ?_
  rintro e wt ⟨rfl, rfl⟩
  have HI : Hid ((Tryd.prog.info? 70).map (·.size) = some (rc (eat hh bs (bs.length / 64)) b bs.length).toArray.size) := hid (by rw [rc_size _ (so_length _ _) HB.out]; exact i61)
  have HRH := HR1.out
  unfold Rn at HRH
  have HRH := hid HRH
  have HAL := rc_all (eat hh bs (bs.length / 64)) b bs.length
  have HSZ := hid (rc_size bs.length (so_length bs (bs.length / 64)) HB.out)
  have hzR := zvR
  have hnR := zcR_ne
  have hsR := zcR_size
  go_upto_region 3 with fail
  obtain ⟨w2, hw2, HB2, HZ2, HR2, HRn2, HS2⟩ := sum_boxes w w1 g bs b zcR HB1.out HS1.out HZ1.out HR1.out HB.out HT.out
  have hcn := HRn2.out.count (so_length _ _) HB.out
  generalize (rc (eat hh bs (bs.length / 64)) b bs.length).toArray = R at *
  go_wp2_with (first | (refine wpList_load_row rfl 70 (.tmp 9) rfl g rfl 70 R (0, 0) _ HRH.out Tryd.underlying70 rfl HI.out ?_) | (refine wpList_store_row rfl 70 (.tmp 3) (.tmp 10) rfl w1.heap.size R rfl rfl 70 _ (heap_alloc_new _ _) HI.out (by rw [HSZ.out]; rfl) HAL ?_; rw [hw2]))
  have HKw := hid (HK.out.on HB2.out)
  have H3w := hid (Nat.ne_of_lt (Nat.lt_of_lt_of_le HK.out.lt HB1.out.size))
  have HSw := hid HB1.out.size
  have HSX := hid HS1.out
  generalize w1.heap.size = g3 at *
  clear hw2 HRH HAL HSZ HI HR1 HZ1 HB1 HS1
  refine (ending_any bs.length w2 (by have := HL.out; omega)).mono ?_
  rintro e w3 ⟨⟨ge, k, rfl, hk, hge, hrow⟩, hb3⟩
  have HGE := hid hge
  have HROW := hid hrow
  have HB3 := hid hb3
  have HKK := hid hk
  clear hge hrow hb3 hk
  go_wp2_with fail
  have hgn : g3 ≠ ge := Nat.ne_of_lt (Nat.lt_of_lt_of_le HS2.out HGE.out)
  refine (add_any g3 (some ⟨ge, 0, none⟩) k bs (tail bs.length) w3 k HKK.out.symm (HR2.out.heap (HB3.out.block g3 HS2.out)) HROW.out.rd0 (fun _ ad e => by injection e with e; subst e; exact hgn.symm) (Nat.le_refl _) (HKw.out.on HB3.out) H3w.out (by have := HL.out; rw [HKK.out, tail_length]; unfold nought; omega)).mono ?_
  rintro e w4 ⟨rfl, hr4, hg4⟩
  have HR4 := hid hr4
  have HB4 := hid (below_grown (HB2.out.trans (HB3.out.mono HB2.out.size)) hg4 HSw.out (Nat.le_trans HB2.out.size HB3.out.size))
  have HZ4 := hid (show Bt w4 w.heap.size 40 (List.replicate 32 0) from (hg4.block w.heap.size (Nat.lt_of_lt_of_le HZ2.out.lt HB3.out.size) (by intro e; injection e with e; have := HSX.out; omega)).trans ((HB3.out.block _ HZ2.out.lt).trans HZ2.out))
  clear hr4 hg4
  obtain ⟨b5, hb5, ht5, hr5⟩ := HR4.out
  have HRG := hid hr5.so
  have hE : Hid (sha bs = spell (eat hh (bs ++ tail bs.length) ((bs ++ tail bs.length).length / 64))) := hid rfl
  have HL5 := hid (so_length (bs ++ tail bs.length) ((bs ++ tail bs.length).length / 64))
  clear hb5 ht5 hr5
  generalize eat hh (bs ++ tail bs.length) ((bs ++ tail bs.length).length / 64) = so at *
  have HI57 := hi57 so HL5.out
  rw [dv_size, ← dv_length] at HI57
  go_wp2_with (refine wpList_load_mid rfl 65 (.tmp 17) rfl g3 1 rfl (dv so) _ HRG.out Tryd.underlying65 rfl HI57.out ?_)
  refine (tell_any' so w4 HL5.out).mono ?_
  rintro e w5 ⟨rfl, hb5⟩
  have hEE := hE.out
  rw [← hEE]
  clear hEE
  have HZ5 := hid (HZ4.out.on hb5)
  have HB5 := hid (HB4.out.trans (hb5.mono HB4.out.size))
  have HSL := hid (sha_length bs)
  generalize hr : sha bs = r at *
  have HRR := hid hr
  clear hr
  have HI44 := hi44 r HSL.out
  have HO8 : Hid ((bvs (List.replicate 32 0)).toArray.size = (bvs r).toArray.size) := hid (by rw [bvs_size, bvs_size, HSL.out, List.length_replicate])
  have HZR := hid (HZ5.out.row (m := r))
  have HBR := hid (p := Below w.heap.size w (w5.setRow w.heap.size (bvs r).toArray)) (below_setRow HB5.out (Nat.le_refl _) _)
  have HDA := bvs_all r
  have HZZ := HZ5.out
  unfold Bt at HZZ
  have HZZ := hid HZZ
  go_wp2_with (refine wpList_store_row rfl 40 (.tmp 2) (.tmp 19) rfl w.heap.size (bvs r).toArray rfl rfl 40 _ HZZ.out HI44.out HO8.out HDA ?_)
  exact bodyPost_ret (v := .agg (bvs r).toArray) (results_cell_row (p := 2) (ty := 40) Tryd.results27 _ _ w.heap.size 40 (bvs r).toArray (0, 0) _ rfl HZR.out Tryd.underlying40 rfl HI44.out) rfl ⟨by rw [HRR.out], HBR.out⟩
end Go.Proofs.YtgmnpkgnedngjaaDoor
namespace Go.Proofs.YtgmnpkgnedngjaaDoor
open Go.RowKit
set_option linter.unusedVariables false
set_option linter.unusedSimpArgs false

/-- a digit of 16 -/
def dig (n : Nat) : ByteArray := ⟨#[([48, 49, 50, 51, 52, 53, 54, 55, 56, 57, 97, 98, 99, 100, 101, 102] : List UInt8).getD n 0]⟩
/-- bytes as digits of 16, the first n of them -/
def hexs (b : List UInt8) : Nat → ByteArray
  | 0 => ⟨#[]⟩
  | n + 1 => (hexs b n ++ dig ((b.getD n 0).toNat / 16)) ++ dig ((b.getD n 0).toNat % 16)
theorem dig_0 (w : World) : (Instr.sliceAt 9 (.string { data := #[48, 49, 50, 51, 52, 53, 54, 55, 56, 57, 97, 98, 99, 100, 101, 102] }) (some (.int .u8 0)) (some (.int .u8 1)) none).run Tryd.prog w = .ok (.string (dig 0)) w := by kernel_rfl
theorem dig_1 (w : World) : (Instr.sliceAt 9 (.string { data := #[48, 49, 50, 51, 52, 53, 54, 55, 56, 57, 97, 98, 99, 100, 101, 102] }) (some (.int .u8 1)) (some (.int .u8 2)) none).run Tryd.prog w = .ok (.string (dig 1)) w := by kernel_rfl
theorem dig_2 (w : World) : (Instr.sliceAt 9 (.string { data := #[48, 49, 50, 51, 52, 53, 54, 55, 56, 57, 97, 98, 99, 100, 101, 102] }) (some (.int .u8 2)) (some (.int .u8 3)) none).run Tryd.prog w = .ok (.string (dig 2)) w := by kernel_rfl
theorem dig_3 (w : World) : (Instr.sliceAt 9 (.string { data := #[48, 49, 50, 51, 52, 53, 54, 55, 56, 57, 97, 98, 99, 100, 101, 102] }) (some (.int .u8 3)) (some (.int .u8 4)) none).run Tryd.prog w = .ok (.string (dig 3)) w := by kernel_rfl
theorem dig_4 (w : World) : (Instr.sliceAt 9 (.string { data := #[48, 49, 50, 51, 52, 53, 54, 55, 56, 57, 97, 98, 99, 100, 101, 102] }) (some (.int .u8 4)) (some (.int .u8 5)) none).run Tryd.prog w = .ok (.string (dig 4)) w := by kernel_rfl
theorem dig_5 (w : World) : (Instr.sliceAt 9 (.string { data := #[48, 49, 50, 51, 52, 53, 54, 55, 56, 57, 97, 98, 99, 100, 101, 102] }) (some (.int .u8 5)) (some (.int .u8 6)) none).run Tryd.prog w = .ok (.string (dig 5)) w := by kernel_rfl
theorem dig_6 (w : World) : (Instr.sliceAt 9 (.string { data := #[48, 49, 50, 51, 52, 53, 54, 55, 56, 57, 97, 98, 99, 100, 101, 102] }) (some (.int .u8 6)) (some (.int .u8 7)) none).run Tryd.prog w = .ok (.string (dig 6)) w := by kernel_rfl
theorem dig_7 (w : World) : (Instr.sliceAt 9 (.string { data := #[48, 49, 50, 51, 52, 53, 54, 55, 56, 57, 97, 98, 99, 100, 101, 102] }) (some (.int .u8 7)) (some (.int .u8 8)) none).run Tryd.prog w = .ok (.string (dig 7)) w := by kernel_rfl
theorem dig_8 (w : World) : (Instr.sliceAt 9 (.string { data := #[48, 49, 50, 51, 52, 53, 54, 55, 56, 57, 97, 98, 99, 100, 101, 102] }) (some (.int .u8 8)) (some (.int .u8 9)) none).run Tryd.prog w = .ok (.string (dig 8)) w := by kernel_rfl
theorem dig_9 (w : World) : (Instr.sliceAt 9 (.string { data := #[48, 49, 50, 51, 52, 53, 54, 55, 56, 57, 97, 98, 99, 100, 101, 102] }) (some (.int .u8 9)) (some (.int .u8 10)) none).run Tryd.prog w = .ok (.string (dig 9)) w := by kernel_rfl
theorem dig_10 (w : World) : (Instr.sliceAt 9 (.string { data := #[48, 49, 50, 51, 52, 53, 54, 55, 56, 57, 97, 98, 99, 100, 101, 102] }) (some (.int .u8 10)) (some (.int .u8 11)) none).run Tryd.prog w = .ok (.string (dig 10)) w := by kernel_rfl
theorem dig_11 (w : World) : (Instr.sliceAt 9 (.string { data := #[48, 49, 50, 51, 52, 53, 54, 55, 56, 57, 97, 98, 99, 100, 101, 102] }) (some (.int .u8 11)) (some (.int .u8 12)) none).run Tryd.prog w = .ok (.string (dig 11)) w := by kernel_rfl
theorem dig_12 (w : World) : (Instr.sliceAt 9 (.string { data := #[48, 49, 50, 51, 52, 53, 54, 55, 56, 57, 97, 98, 99, 100, 101, 102] }) (some (.int .u8 12)) (some (.int .u8 13)) none).run Tryd.prog w = .ok (.string (dig 12)) w := by kernel_rfl
theorem dig_13 (w : World) : (Instr.sliceAt 9 (.string { data := #[48, 49, 50, 51, 52, 53, 54, 55, 56, 57, 97, 98, 99, 100, 101, 102] }) (some (.int .u8 13)) (some (.int .u8 14)) none).run Tryd.prog w = .ok (.string (dig 13)) w := by kernel_rfl
theorem dig_14 (w : World) : (Instr.sliceAt 9 (.string { data := #[48, 49, 50, 51, 52, 53, 54, 55, 56, 57, 97, 98, 99, 100, 101, 102] }) (some (.int .u8 14)) (some (.int .u8 15)) none).run Tryd.prog w = .ok (.string (dig 14)) w := by kernel_rfl
theorem dig_15 (w : World) : (Instr.sliceAt 9 (.string { data := #[48, 49, 50, 51, 52, 53, 54, 55, 56, 57, 97, 98, 99, 100, 101, 102] }) (some (.int .u8 15)) (some (.int .u8 16)) none).run Tryd.prog w = .ok (.string (dig 15)) w := by kernel_rfl
theorem dig_at (n : Nat) (h : n < 16) (w : World) : (Instr.sliceAt 9 (.string { data := #[48, 49, 50, 51, 52, 53, 54, 55, 56, 57, 97, 98, 99, 100, 101, 102] }) (some (.int .u8 (n : Int))) (some (.int .u8 ((n : Int) + 1))) none).run Tryd.prog w = .ok (.string (dig n)) w := by
  match n, h with
  | 0, _ => exact dig_0 w
  | 1, _ => exact dig_1 w
  | 2, _ => exact dig_2 w
  | 3, _ => exact dig_3 w
  | 4, _ => exact dig_4 w
  | 5, _ => exact dig_5 w
  | 6, _ => exact dig_6 w
  | 7, _ => exact dig_7 w
  | 8, _ => exact dig_8 w
  | 9, _ => exact dig_9 w
  | 10, _ => exact dig_10 w
  | 11, _ => exact dig_11 w
  | 12, _ => exact dig_12 w
  | 13, _ => exact dig_13 w
  | 14, _ => exact dig_14 w
  | 15, _ => exact dig_15 w
  | n + 16, h => exact absurd h (by omega)
theorem dig_size (n : Nat) : (dig n).size = 1 := rfl
theorem hexs_size (b : List UInt8) (n : Nat) : (hexs b n).size = 2 * n := by
  induction n with
  | zero => rfl
  | succ n ih => rw [hexs, ByteArray.size_append, ByteArray.size_append, ih, dig_size, dig_size]; omega
theorem and15 (x : Nat) (h : x < 256) : bits BinOp.and IntKind.u8 (x : Int) 15 = ((x % 16 : Nat) : Int) := by
  have e : bits BinOp.and IntKind.u8 (x : Int) ((15 : Nat) : Int) = ((x &&& 15 : Nat) : Int) := u8_and_nat x 15 h (by decide)
  rw [show x % 16 = x &&& 15 from (Nat.and_two_pow_sub_one_eq_mod x 4).symm]
  exact e
end Go.Proofs.YtgmnpkgnedngjaaDoor
namespace Go.Proofs.YtgmnpkgnedngjaaDoor
open Go.RowKit
set_option linter.unusedVariables false
set_option linter.unusedSimpArgs false

theorem rot_eq2 (x n : Nat) (hx : x < 4294967296) : bits .or .u32 ((x : Int) / ((2 ^ n : Nat) : Int)) (IntKind.u32.wrap ((x : Int) * ((2 ^ (32 - n) : Nat) : Int))) = ((rot x n : Nat) : Int) := by
  have e1 : IntKind.u32.wrap ((x : Int) * ((2 ^ (32 - n) : Nat) : Int)) = ((x * 2 ^ (32 - n) % 4294967296 : Nat) : Int) := by rw [IntKind.wrap_u32]; omega
  have e2 : (x : Int) / ((2 ^ n : Nat) : Int) = ((x / 2 ^ n : Nat) : Int) := by omega
  rw [e1, e2, u32_or_nat _ _ (dn_lt _ hx) (Nat.mod_lt _ (by decide)), rot]

theorem round_2 (x : Nat) (w : World) (hx : x < 4294967296) : Calls Tryd.prog 47 #[.int .u32 x, .int .u64 2] w fun e w' => e = .returned (.int .u32 (rot x 2 : Nat)) ∧ w = w' := by
  have hb : IntKind.u64.wrap (32 - 2) = 30 := by decide +kernel
  go_enter Tryd.func47, Tryd.ntmps47
  go_wp2
  go_ret
  exact ⟨by rw [← rot_eq2 x 2 hx]; rfl, rfl⟩
theorem round_6 (x : Nat) (w : World) (hx : x < 4294967296) : Calls Tryd.prog 47 #[.int .u32 x, .int .u64 6] w fun e w' => e = .returned (.int .u32 (rot x 6 : Nat)) ∧ w = w' := by
  have hb : IntKind.u64.wrap (32 - 6) = 26 := by decide +kernel
  go_enter Tryd.func47, Tryd.ntmps47
  go_wp2
  go_ret
  exact ⟨by rw [← rot_eq2 x 6 hx]; rfl, rfl⟩
theorem round_7 (x : Nat) (w : World) (hx : x < 4294967296) : Calls Tryd.prog 47 #[.int .u32 x, .int .u64 7] w fun e w' => e = .returned (.int .u32 (rot x 7 : Nat)) ∧ w = w' := by
  have hb : IntKind.u64.wrap (32 - 7) = 25 := by decide +kernel
  go_enter Tryd.func47, Tryd.ntmps47
  go_wp2
  go_ret
  exact ⟨by rw [← rot_eq2 x 7 hx]; rfl, rfl⟩
theorem round_11 (x : Nat) (w : World) (hx : x < 4294967296) : Calls Tryd.prog 47 #[.int .u32 x, .int .u64 11] w fun e w' => e = .returned (.int .u32 (rot x 11 : Nat)) ∧ w = w' := by
  have hb : IntKind.u64.wrap (32 - 11) = 21 := by decide +kernel
  go_enter Tryd.func47, Tryd.ntmps47
  go_wp2
  go_ret
  exact ⟨by rw [← rot_eq2 x 11 hx]; rfl, rfl⟩
theorem round_13 (x : Nat) (w : World) (hx : x < 4294967296) : Calls Tryd.prog 47 #[.int .u32 x, .int .u64 13] w fun e w' => e = .returned (.int .u32 (rot x 13 : Nat)) ∧ w = w' := by
  have hb : IntKind.u64.wrap (32 - 13) = 19 := by decide +kernel
  go_enter Tryd.func47, Tryd.ntmps47
  go_wp2
  go_ret
  exact ⟨by rw [← rot_eq2 x 13 hx]; rfl, rfl⟩
theorem round_17 (x : Nat) (w : World) (hx : x < 4294967296) : Calls Tryd.prog 47 #[.int .u32 x, .int .u64 17] w fun e w' => e = .returned (.int .u32 (rot x 17 : Nat)) ∧ w = w' := by
  have hb : IntKind.u64.wrap (32 - 17) = 15 := by decide +kernel
  go_enter Tryd.func47, Tryd.ntmps47
  go_wp2
  go_ret
  exact ⟨by rw [← rot_eq2 x 17 hx]; rfl, rfl⟩
theorem round_18 (x : Nat) (w : World) (hx : x < 4294967296) : Calls Tryd.prog 47 #[.int .u32 x, .int .u64 18] w fun e w' => e = .returned (.int .u32 (rot x 18 : Nat)) ∧ w = w' := by
  have hb : IntKind.u64.wrap (32 - 18) = 14 := by decide +kernel
  go_enter Tryd.func47, Tryd.ntmps47
  go_wp2
  go_ret
  exact ⟨by rw [← rot_eq2 x 18 hx]; rfl, rfl⟩
theorem round_19 (x : Nat) (w : World) (hx : x < 4294967296) : Calls Tryd.prog 47 #[.int .u32 x, .int .u64 19] w fun e w' => e = .returned (.int .u32 (rot x 19 : Nat)) ∧ w = w' := by
  have hb : IntKind.u64.wrap (32 - 19) = 13 := by decide +kernel
  go_enter Tryd.func47, Tryd.ntmps47
  go_wp2
  go_ret
  exact ⟨by rw [← rot_eq2 x 19 hx]; rfl, rfl⟩
theorem round_22 (x : Nat) (w : World) (hx : x < 4294967296) : Calls Tryd.prog 47 #[.int .u32 x, .int .u64 22] w fun e w' => e = .returned (.int .u32 (rot x 22 : Nat)) ∧ w = w' := by
  have hb : IntKind.u64.wrap (32 - 22) = 10 := by decide +kernel
  go_enter Tryd.func47, Tryd.ntmps47
  go_wp2
  go_ret
  exact ⟨by rw [← rot_eq2 x 22 hx]; rfl, rfl⟩
theorem round_25 (x : Nat) (w : World) (hx : x < 4294967296) : Calls Tryd.prog 47 #[.int .u32 x, .int .u64 25] w fun e w' => e = .returned (.int .u32 (rot x 25 : Nat)) ∧ w = w' := by
  have hb : IntKind.u64.wrap (32 - 25) = 7 := by decide +kernel
  go_enter Tryd.func47, Tryd.ntmps47
  go_wp2
  go_ret
  exact ⟨by rw [← rot_eq2 x 25 hx]; rfl, rfl⟩
set_option maxRecDepth 100000 in
/-- the table's slice -/
theorem table_any (w : World) : Calls Tryd.prog 40 #[] w fun e w' => e = .returned (.slice (some ⟨w.heap.size, 0, none⟩) 64 64) ∧ Hid (Us w' w.heap.size 63 kk) ∧ Below w.heap.size w w' := by
  go_enter Tryd.func40, Tryd.ntmps40
  go_wp2
  have h : Us (w.alloc (.cells (dv kk).toArray 63)) w.heap.size 63 kk := heap_alloc_new w _
  have hB : Below w.heap.size w (w.alloc (.cells (dv kk).toArray 63)) := (Below.refl _ _).alloc (Nat.le_refl _) _
  go_ret
  exact ⟨rfl, hid h, hB⟩
end Go.Proofs.YtgmnpkgnedngjaaDoor
namespace Go.Proofs.YtgmnpkgnedngjaaDoor
open Go.RowKit
set_option linter.unusedVariables false
set_option linter.unusedSimpArgs false

/-- what stands while the document takes a block in: h's box, the answer's, the block's numbers; the bytes and the table as they came -/
structure Rb (w : World) (h : List Nat) (b : List UInt8) (gb o gt : Nat) (l : List Nat) (w' : World) : Prop where
  below : Below w.heap.size w w'
  n : Us w' w.heap.size 64 h
  z : Us w' (w.heap.size + 1) 64 (List.replicate 8 0)
  l : Us w' (w.heap.size + 1 + 1) 77 l
  b : ∀ j, (hj : j < b.length) → w.cell? ⟨gb, o + j, none⟩ = some (.int .u8 ((b[j].toNat : Nat) : Int))
  hb : gb < w.heap.size
  k : Us w gt 63 kk
theorem Rb.bytes {w w' : World} {h : List Nat} {b : List UInt8} {gb o gt : Nat} {l : List Nat} (H : Rb w h b gb o gt l w') (j : Nat) (hj : j < b.length) : w'.cell? ⟨gb, o + j, none⟩ = some (.int .u8 ((b[j].toNat : Nat) : Int)) :=
  (H.below.cell (p := ⟨gb, o + j, none⟩) H.hb).trans (H.b j hj)
theorem Rb.kt {w w' : World} {h : List Nat} {b : List UInt8} {gb o gt : Nat} {l : List Nat} (H : Rb w h b gb o gt l w') : Us w' gt 63 kk := H.k.on H.below
theorem Rb.init (w : World) (h : List Nat) (b : List UInt8) (gb o gt : Nat) (hb : ∀ j, (hj : j < b.length) → w.cell? ⟨gb, o + j, none⟩ = some (.int .u8 ((b[j].toNat : Nat) : Int))) (hg : gb < w.heap.size) (hk : Us w gt 63 kk) :
    Hid (Rb w h b gb o gt (List.replicate 64 0) (((w.alloc (.cells (dv h).toArray 64)).alloc (.cells #[.int .u32 0, .int .u32 0, .int .u32 0, .int .u32 0, .int .u32 0, .int .u32 0, .int .u32 0, .int .u32 0] 64)).alloc (.cells #[.int .u32 0, .int .u32 0, .int .u32 0, .int .u32 0, .int .u32 0, .int .u32 0, .int .u32 0, .int .u32 0, .int .u32 0, .int .u32 0, .int .u32 0, .int .u32 0, .int .u32 0, .int .u32 0, .int .u32 0, .int .u32 0, .int .u32 0, .int .u32 0, .int .u32 0, .int .u32 0, .int .u32 0, .int .u32 0, .int .u32 0, .int .u32 0, .int .u32 0, .int .u32 0, .int .u32 0, .int .u32 0, .int .u32 0, .int .u32 0, .int .u32 0, .int .u32 0, .int .u32 0, .int .u32 0, .int .u32 0, .int .u32 0, .int .u32 0, .int .u32 0, .int .u32 0, .int .u32 0, .int .u32 0, .int .u32 0, .int .u32 0, .int .u32 0, .int .u32 0, .int .u32 0, .int .u32 0, .int .u32 0, .int .u32 0, .int .u32 0, .int .u32 0, .int .u32 0, .int .u32 0, .int .u32 0, .int .u32 0, .int .u32 0, .int .u32 0, .int .u32 0, .int .u32 0, .int .u32 0, .int .u32 0, .int .u32 0, .int .u32 0, .int .u32 0] 77))) := by
  have s1 : ∀ (w : World) (o : Obj), (w.alloc o).heap.size = w.heap.size + 1 := fun w o => Array.size_push _
  refine hid ⟨(((Below.refl _ _).alloc (Nat.le_refl _) _).alloc (by rw [s1]; omega) _).alloc (by rw [s1, s1]; omega) _, Us.alloc (Us.alloc (heap_alloc_new _ _) _) _, Us.alloc ?_ _, ?_, hb, hg, hk⟩
  · rw [← s1 w (.cells (dv h).toArray 64)]; exact heap_alloc_new _ _
  · rw [← s1 w (.cells (dv h).toArray 64), ← s1 _ (.cells #[.int .u32 0, .int .u32 0, .int .u32 0, .int .u32 0, .int .u32 0, .int .u32 0, .int .u32 0, .int .u32 0] 64)]; exact heap_alloc_new _ _
theorem Rb.set {w w' : World} {h : List Nat} {b : List UInt8} {gb o gt : Nat} {l : List Nat} (H : Rb w h b gb o gt l w') (k v : Nat) : Rb w h b gb o gt (l.set k v) (w'.setCell ⟨w.heap.size + 1 + 1, k, none⟩ (.int .u32 (v : Int))) :=
  ⟨H.below.setCell (by simp; omega) _, H.n.other _ (by omega), H.z.other _ (by omega), H.l.set k v, H.b, H.hb, H.k⟩
theorem Rb.drew {w w' : World} {h : List Nat} {b : List UInt8} {gb o gt : Nat} {l : List Nat} (H : Rb w h b gb o gt l w') : Rb w h b gb o gt l w'.drew := ⟨H.below.drew, H.n, H.z, H.l, H.b, H.hb, H.k⟩
theorem sh_or (b c i : Nat) (h : c < 2 ^ i) : b * 2 ^ i ||| c = b * 2 ^ i + c := by
  have h := Nat.shiftLeft_add_eq_or_of_lt h b
  rw [Nat.shiftLeft_eq] at h
  exact h.symm
theorem or_a (b0 b1 : Nat) (h1 : b1 < 256) : b0 * 16777216 ||| b1 * 65536 = b0 * 16777216 + b1 * 65536 := sh_or b0 (b1 * 65536) 24 (by omega)
theorem or_b (b0 b1 b2 : Nat) (h2 : b2 < 256) : (b0 * 16777216 + b1 * 65536) ||| b2 * 256 = b0 * 16777216 + b1 * 65536 + b2 * 256 := by
  have h := sh_or (b0 * 256 + b1) (b2 * 256) 16 (by omega)
  have e : (b0 * 256 + b1) * 2 ^ 16 = b0 * 16777216 + b1 * 65536 := by omega
  rw [e] at h; exact h
theorem or_c (b0 b1 b2 b3 : Nat) (h3 : b3 < 256) : (b0 * 16777216 + b1 * 65536 + b2 * 256) ||| b3 = b0 * 16777216 + b1 * 65536 + b2 * 256 + b3 := by
  have h := sh_or (b0 * 65536 + b1 * 256 + b2) b3 8 (by omega)
  have e : (b0 * 65536 + b1 * 256 + b2) * 2 ^ 8 = b0 * 16777216 + b1 * 65536 + b2 * 256 := by omega
  rw [e] at h; exact h
/-- four bytes as one number -/
theorem four_eq (b0 b1 b2 b3 : Nat) (h0 : b0 < 256) (h1 : b1 < 256) (h2 : b2 < 256) (h3 : b3 < 256) :
    bits .or .u32 (bits .or .u32 (bits .or .u32 ((b0 : Int) % 4294967296 * 16777216 % 4294967296) ((b1 : Int) % 4294967296 * 65536 % 4294967296)) ((b2 : Int) % 4294967296 * 256 % 4294967296)) ((b3 : Int) % 4294967296) = ((b0 * 16777216 + b1 * 65536 + b2 * 256 + b3 : Nat) : Int) := by
  have e3 : (b3 : Int) % 4294967296 = (b3 : Int) := by omega
  have e0 : (b0 : Int) % 4294967296 * 16777216 % 4294967296 = ((b0 * 16777216 : Nat) : Int) := by omega
  have e1 : (b1 : Int) % 4294967296 * 65536 % 4294967296 = ((b1 * 65536 : Nat) : Int) := by omega
  have e2 : (b2 : Int) % 4294967296 * 256 % 4294967296 = ((b2 * 256 : Nat) : Int) := by omega
  have s0 := or_a b0 b1 h1
  have s1 := or_b b0 b1 b2 h2
  have s2 := or_c b0 b1 b2 b3 h3
  rw [e0, e1, e2, e3, u32_or_nat _ _ (by omega) (by omega), s0, u32_or_nat _ _ (by omega) (by omega), s1, u32_or_nat _ _ (by omega) (by omega), s2]
theorem tell4 (b : List UInt8) (k : Nat) (h : 4 * k + 3 < b.length) : tell ((b.drop (4 * k)).take 4) = b[4 * k].toNat * 16777216 + b[4 * k + 1].toNat * 65536 + b[4 * k + 2].toNat * 256 + b[4 * k + 3].toNat := by
  rw [List.drop_eq_getElem_cons (show 4 * k < b.length by omega), List.drop_eq_getElem_cons (show 4 * k + 1 < b.length by omega), List.drop_eq_getElem_cons (show 4 * k + 1 + 1 < b.length by omega), List.drop_eq_getElem_cons (show 4 * k + 1 + 1 + 1 < b.length by omega)]
  simp only [List.take_succ_cons, List.take_zero, tell, List.foldl_cons, List.foldl_nil, Nat.zero_mul, Nat.zero_add]
  have e2 : b[4 * k + 1 + 1] = b[4 * k + 2] := rfl
  have e3 : b[4 * k + 1 + 1 + 1] = b[4 * k + 3] := rfl
  rw [e2, e3]
  omega
/-- what a round of the second loop leans on -/
theorem rb_facts {w wr : World} {h : List Nat} {b : List UInt8} {gb o gt : Nat} {l : List Nat} {k : Nat} (HS : Rb w h b gb o gt l wr) (HL : l.length = 64) (HA : ∀ j, j < 64 → at' l j = at' (ext (own b 16) (k - 16)) j) (hk0 : 16 ≤ k) (hlt : k < 64) :
    ∃ p15 p16 p7 p2 x v16 v7 y zx zy : Nat, (k : Int) - 15 = (p15 : Int) ∧ (k : Int) - 16 = (p16 : Int) ∧ (k : Int) - 7 = (p7 : Int) ∧ (k : Int) - 2 = (p2 : Int) ∧ p15 < 64 ∧ p2 < 64 ∧
      wr.cell? ⟨w.heap.size + 1 + 1, p15, none⟩ = some (.int .u32 (x : Int)) ∧ wr.cell? ⟨w.heap.size + 1 + 1, p2, none⟩ = some (.int .u32 (y : Int)) ∧
      x < 4294967296 ∧ y < 4294967296 ∧ (x : Int) / 8 = (zx : Int) ∧ (y : Int) / 1024 = (zy : Int) ∧
      IntKind.i64.wrap (p16 : Int) = (p16 : Int) ∧ IntKind.i64.wrap (p7 : Int) = (p7 : Int) ∧ (p16 : Int) < 64 ∧ (p7 : Int) < 64 ∧ (k : Int) < 64 ∧ (0 : Int) ≤ p16 ∧ (0 : Int) ≤ p7 ∧ (0 : Int) ≤ k ∧
      (wr.cell? ⟨w.heap.size + 1 + 1, p16, none⟩ = some (.int .u32 (v16 : Int)) ∧ wr.cell? ⟨w.heap.size + 1 + 1, p7, none⟩ = some (.int .u32 (v7 : Int)) ∧ w.heap.size + 1 + 1 < wr.heap.size) ∧
      Hid (wr.cell? ⟨w.heap.size + 1 + 1, k, none⟩ = some (.int .u32 (at' l k : Nat)) ∧ wr.frozen? ⟨w.heap.size + 1 + 1, k, none⟩ = false) ∧
      Hid (∀ (W : World) (v : Value), (W.cell? ⟨w.heap.size + 1 + 1, p16, none⟩ = some (.int .u32 (v16 : Int)) ∧ W.cell? ⟨w.heap.size + 1 + 1, p7, none⟩ = some (.int .u32 (v7 : Int)) ∧ w.heap.size + 1 + 1 < W.heap.size) → ((W.setCell ⟨w.heap.size + 1 + 1, k, none⟩ v).cell? ⟨w.heap.size + 1 + 1, p16, none⟩ = some (.int .u32 (v16 : Int)) ∧ (W.setCell ⟨w.heap.size + 1 + 1, k, none⟩ v).cell? ⟨w.heap.size + 1 + 1, p7, none⟩ = some (.int .u32 (v7 : Int)) ∧ w.heap.size + 1 + 1 < (W.setCell ⟨w.heap.size + 1 + 1, k, none⟩ v).heap.size)) ∧
      Hid (IntKind.u32.wrap (IntKind.u32.wrap (IntKind.u32.wrap ((v16 : Int) + (v7 : Int)) + bits BinOp.xor IntKind.u32 (bits BinOp.xor IntKind.u32 ((rot x 7 : Nat) : Int) ((rot x 18 : Nat) : Int)) (zx : Int)) + bits BinOp.xor IntKind.u32 (bits BinOp.xor IntKind.u32 ((rot y 17 : Nat) : Int) ((rot y 19 : Nat) : Int)) (zy : Int)) = ((nxw (ext (own b 16) (k - 16)) : Nat) : Int)) := by
  have HM : Sm (ext (own b 16) (k - 16)) := ext_sm (own_sm b 16) _
  have hE : (ext (own b 16) (k - 16)).length = k := by rw [ext_length, own_length]; omega
  have lt : ∀ j, j < 64 → at' l j < 4294967296 := fun j hj => by rw [HA j hj]; exact at_sm HM _
  have b15 := lt (k - 15) (by omega)
  have b2 := lt (k - 2) (by omega)
  refine ⟨k - 15, k - 16, k - 7, k - 2, at' l (k - 15), at' l (k - 16), at' l (k - 7), at' l (k - 2), at' l (k - 15) / 8, at' l (k - 2) / 1024, by omega, by omega, by omega, by omega, by omega, by omega,
    HS.l.cell _ (by omega), HS.l.cell _ (by omega), b15, b2, by omega, by omega,
    by rw [IntKind.wrap_i64]; omega, by rw [IntKind.wrap_i64]; omega, by omega, by omega, by omega, by omega, by omega, by omega, ⟨HS.l.cell _ (by omega), HS.l.cell _ (by omega), HS.l.lt⟩,
    hid ⟨HS.l.cell _ (by omega), HS.l.frozen _⟩,
    hid (fun W v h => ⟨by rw [World.cell?_setCell_other _ _ _ _ (by simp; try omega)]; exact h.1, by rw [World.cell?_setCell_other _ _ _ _ (by simp; try omega)]; exact h.2.1, by have := h.2.2; simp; omega⟩), hid ?_⟩
  have e0 : nxw (ext (own b 16) (k - 16)) = (((at' l (k - 16) + s0 (at' l (k - 15))) % 4294967296 + at' l (k - 7)) % 4294967296 + s1 (at' l (k - 2))) % 4294967296 := by
    rw [nxw, hE, HA (k - 16) (by omega), HA (k - 15) (by omega), HA (k - 7) (by omega), HA (k - 2) (by omega)]
  have z1 : at' l (k - 15) / 8 < 4294967296 := by omega
  have z2 : at' l (k - 2) / 1024 < 4294967296 := by omega
  rw [e0, s0, s1, show (2 : Nat) ^ 3 = 8 by decide, show (2 : Nat) ^ 10 = 1024 by decide, u32_xor_nat _ _ (rot_lt 7 b15) (rot_lt 18 b15), u32_xor_nat _ _ (xor_lt (rot_lt 7 b15) (rot_lt 18 b15)) z1, u32_xor_nat _ _ (rot_lt 17 b2) (rot_lt 19 b2), u32_xor_nat _ _ (xor_lt (rot_lt 17 b2) (rot_lt 19 b2)) z2, IntKind.wrap_u32, IntKind.wrap_u32, IntKind.wrap_u32]
  omega
/-- the region of the second loop that reckons -/
noncomputable def rb11 : Code := ((Tryd.f41.body.bind (findRegion 11)).getD .skip)
set_option maxRecDepth 100000 in
set_option maxHeartbeats 1000000 in
theorem rb11_ok {w wr : World} {k p16 p7 x v16 v7 y zx zy nv old : Nat} {Q : Exit → Act → World → Prop} (hp16 : (k : Int) - 16 = (p16 : Int)) (hp7 : (k : Int) - 7 = (p7 : Int))
    (b15 : x < 4294967296) (b2 : y < 4294967296) (hzx : (x : Int) / 8 = (zx : Int)) (hzy : (y : Int) / 1024 = (zy : Int))
    (w16 : IntKind.i64.wrap (p16 : Int) = (p16 : Int)) (w7 : IntKind.i64.wrap (p7 : Int) = (p7 : Int)) (i16 : (p16 : Int) < 64) (i7 : (p7 : Int) < 64) (ik : (k : Int) < 64) (j16 : (0 : Int) ≤ p16) (j7 : (0 : Int) ≤ p7) (jk : (0 : Int) ≤ k)
    (hS : wr.cell? ⟨w.heap.size + 1 + 1, p16, none⟩ = some (.int .u32 (v16 : Int)) ∧ wr.cell? ⟨w.heap.size + 1 + 1, p7, none⟩ = some (.int .u32 (v7 : Int)) ∧ w.heap.size + 1 + 1 < wr.heap.size) (nk : wr.cell? ⟨w.heap.size + 1 + 1, k, none⟩ = some (.int .u32 (old : Int))) (nf : wr.frozen? ⟨w.heap.size + 1 + 1, k, none⟩ = false)
    (HKC : Hid (∀ (W : World) (v : Value), (W.cell? ⟨w.heap.size + 1 + 1, p16, none⟩ = some (.int .u32 (v16 : Int)) ∧ W.cell? ⟨w.heap.size + 1 + 1, p7, none⟩ = some (.int .u32 (v7 : Int)) ∧ w.heap.size + 1 + 1 < W.heap.size) → ((W.setCell ⟨w.heap.size + 1 + 1, k, none⟩ v).cell? ⟨w.heap.size + 1 + 1, p16, none⟩ = some (.int .u32 (v16 : Int)) ∧ (W.setCell ⟨w.heap.size + 1 + 1, k, none⟩ v).cell? ⟨w.heap.size + 1 + 1, p7, none⟩ = some (.int .u32 (v7 : Int)) ∧ w.heap.size + 1 + 1 < (W.setCell ⟨w.heap.size + 1 + 1, k, none⟩ v).heap.size)))
    (HV : Hid (IntKind.u32.wrap (IntKind.u32.wrap (IntKind.u32.wrap ((v16 : Int) + (v7 : Int)) + bits BinOp.xor IntKind.u32 (bits BinOp.xor IntKind.u32 ((rot x 7 : Nat) : Int) ((rot x 18 : Nat) : Int)) (zx : Int)) + bits BinOp.xor IntKind.u32 (bits BinOp.xor IntKind.u32 ((rot y 17 : Nat) : Int) ((rot y 19 : Nat) : Int)) (zy : Int)) = (nv : Int)))
    (c0 c1 c2 c3 c4 c5 c6 c8 c12 c13 c14 c15 c16 c17 c18 c19 c20 c21 c22 c23 c24 c25 c26 c27 c28 c29 c30 c31 c32 c33 c34 c35 c36 c37 c38 c39 c40 c41 c42 c43 c44 c45 c46 c47 c48 c49 c50 c51 c52 c53 c54 c55 c56 c57 c58 c59 c60 c61 c62 c63 c64 c65 c66 c67 c68 c69 c70 c71 c72 c73 c74 c75 c76 c77 c78 c79 c80 c81 c82 c83 c84 c85 c86 c87 c88 c89 c90 c91 c92 c93 c94 c95 c96 c97 c98 c99 c100 c101 c102 c103 c104 c105 c106 c107 c108 c109 c110 c111 c112 c113 c114 c115 c116 c117 c118 c119 c120 c121 c122 c123 c124 c125 c126 c127 c128 c129 c130 c131 c132 c133 c134 c135 c136 c137 c138 c139 c140 c141 c142 c143 c144 c145 c146 c147 c148 c149 c150 c151 c152 c153 c154 c155 c156 c157 c158 c159 c160 c161 c162 c163 c164 c165 c166 c167 c168 c169 c170 c171 c172 c173 c174 c175 c176 c177 c178 c179 c180 c181 c182 c183 c184 c185 c186 c187 c188 c189 c190 c191 c192 c193 c194 : Value)
    (hQ : Hid (∀ (d70 d71 d72 d73 d74 d75 d76 d77 d78 d79 d80 d81 d82 d83 d84 d85 d86 d87 d88 d89 d90 d91 d92 d93 d94 d95 d96 d97 d98 : Value), Q .normal ⟨#[c0, c1, c2, c3, c4, c5, c6, .pointer (some ⟨w.heap.size + 1 + 1, 0, none⟩), c8, .int .i64 (k : Int), .int .u32 (x : Int), .int .u32 (y : Int), c12, c13, c14, c15, c16, c17, c18, c19, c20, c21, c22, c23, c24, c25, c26, c27, c28, c29, c30, c31, c32, c33, c34, c35, c36, c37, c38, c39, c40, c41, c42, c43, c44, c45, c46, c47, c48, c49, c50, c51, c52, c53, c54, c55, c56, c57, c58, c59, c60, c61, c62, c63, c64, c65, c66, c67, c68, c69, d70, d71, d72, d73, d74, d75, d76, d77, d78, d79, d80, d81, d82, d83, d84, d85, d86, d87, d88, d89, d90, d91, d92, d93, d94, d95, d96, d97, d98, c99, c100, c101, c102, c103, c104, c105, c106, c107, c108, c109, c110, c111, c112, c113, c114, c115, c116, c117, c118, c119, c120, c121, c122, c123, c124, c125, c126, c127, c128, c129, c130, c131, c132, c133, c134, c135, c136, c137, c138, c139, c140, c141, c142, c143, c144, c145, c146, c147, c148, c149, c150, c151, c152, c153, c154, c155, c156, c157, c158, c159, c160, c161, c162, c163, c164, c165, c166, c167, c168, c169, c170, c171, c172, c173, c174, c175, c176, c177, c178, c179, c180, c181, c182, c183, c184, c185, c186, c187, c188, c189, c190, c191, c192, c193, c194], []⟩ (wr.drew.setCell ⟨w.heap.size + 1 + 1, k, none⟩ (.int .u32 (nv : Int)))))  :
    Code.wp Tryd.prog rb11 Q ⟨#[c0, c1, c2, c3, c4, c5, c6, .pointer (some ⟨w.heap.size + 1 + 1, 0, none⟩), c8, .int .i64 (k : Int), .int .u32 (x : Int), .int .u32 (y : Int), c12, c13, c14, c15, c16, c17, c18, c19, c20, c21, c22, c23, c24, c25, c26, c27, c28, c29, c30, c31, c32, c33, c34, c35, c36, c37, c38, c39, c40, c41, c42, c43, c44, c45, c46, c47, c48, c49, c50, c51, c52, c53, c54, c55, c56, c57, c58, c59, c60, c61, c62, c63, c64, c65, c66, c67, c68, c69, c70, c71, c72, c73, c74, c75, c76, c77, c78, c79, c80, c81, c82, c83, c84, c85, c86, c87, c88, c89, c90, c91, c92, c93, c94, c95, c96, c97, c98, c99, c100, c101, c102, c103, c104, c105, c106, c107, c108, c109, c110, c111, c112, c113, c114, c115, c116, c117, c118, c119, c120, c121, c122, c123, c124, c125, c126, c127, c128, c129, c130, c131, c132, c133, c134, c135, c136, c137, c138, c139, c140, c141, c142, c143, c144, c145, c146, c147, c148, c149, c150, c151, c152, c153, c154, c155, c156, c157, c158, c159, c160, c161, c162, c163, c164, c165, c166, c167, c168, c169, c170, c171, c172, c173, c174, c175, c176, c177, c178, c179, c180, c181, c182, c183, c184, c185, c186, c187, c188, c189, c190, c191, c192, c193, c194], []⟩ wr := by
  conv => arg 2; whnf
  have hs : wr.drew.cell? ⟨w.heap.size + 1 + 1, p16, none⟩ = some (.int .u32 (v16 : Int)) ∧ wr.drew.cell? ⟨w.heap.size + 1 + 1, p7, none⟩ = some (.int .u32 (v7 : Int)) ∧ w.heap.size + 1 + 1 < wr.drew.heap.size := hS
  refine wp_region_noPanic ?_
  refine Goes.region (fun (L : Array Bool) (w' : World) => w'.cell? ⟨w.heap.size + 1 + 1, p16, none⟩ = some (.int .u32 (v16 : Int)) ∧ w'.cell? ⟨w.heap.size + 1 + 1, p7, none⟩ = some (.int .u32 (v7 : Int)) ∧ w.heap.size + 1 + 1 < w'.heap.size) (by as_aux_lemma => kernel_rfl) ?_
  refine Goes.take (i := 0) (o := ⟨some 70, _, _, _, _, _⟩) (v := ?_) [] rfl (by as_aux_lemma => kernel_rfl) (by as_aux_lemma => kernel_rfl) (by as_aux_lemma => kernel_rfl) (fun _ _ _ h => h) (by as_aux_lemma => kernel_rfl) (fun L u h => h) (Or.inl ⟨by rfl, ?_⟩) hs ?_
  rotate_left
  · intro w hY; go_simp; try with_reducible rfl
  try simp only [putz]
  refine Goes.take (i := 1) (o := ⟨some 71, _, _, _, _, _⟩) (v := ?_) [] rfl (by as_aux_lemma => kernel_rfl) (by as_aux_lemma => kernel_rfl) (by as_aux_lemma => kernel_rfl) (fun _ _ _ h => h) (by as_aux_lemma => kernel_rfl) (fun L u h => h) (Or.inl ⟨by rfl, ?_⟩) hs ?_
  rotate_left
  · intro w hY; go_simp; try with_reducible rfl
  try simp only [putz]
  refine Goes.take (i := 2) (o := ⟨some 72, _, _, _, _, _⟩) (v := ?_) [] rfl (by as_aux_lemma => kernel_rfl) (by as_aux_lemma => kernel_rfl) (by as_aux_lemma => kernel_rfl) (fun _ _ _ h => h) (by as_aux_lemma => kernel_rfl) (fun L u h => h) (Or.inl ⟨by rfl, ?_⟩) hs ?_
  rotate_left
  · intro w hY; go_simp; try with_reducible rfl
  try simp only [putz]
  refine Goes.take (i := 3) (o := ⟨some 73, _, _, _, _, _⟩) (v := ?_) [] rfl (by as_aux_lemma => kernel_rfl) (by as_aux_lemma => kernel_rfl) (by as_aux_lemma => kernel_rfl) (fun _ _ _ h => h) (by as_aux_lemma => kernel_rfl) (fun L u h => h) (Or.inl ⟨by rfl, ?_⟩) hs ?_
  rotate_left
  · intro w hY; go_simp; try with_reducible rfl
  try simp only [putz]
  refine Goes.take (i := 4) (o := ⟨some 74, _, _, _, _, _⟩) (v := ?_) [] rfl (by as_aux_lemma => kernel_rfl) (by as_aux_lemma => kernel_rfl) (by as_aux_lemma => kernel_rfl) (fun _ _ _ h => h) (by as_aux_lemma => kernel_rfl) (fun L u h => h) (Or.inl ⟨by rfl, ?_⟩) hs ?_
  rotate_left
  · intro w hY; obtain ⟨up, hL⟩ := hY; have hX := hL.2.1; clear hL; (try dsimp only at hX); go_simp; try with_reducible rfl
  try simp only [putz]
  refine Goes.take (i := 5) (o := ⟨some 75, _, _, _, _, _⟩) (v := ?_) [] rfl (by as_aux_lemma => kernel_rfl) (by as_aux_lemma => kernel_rfl) (by as_aux_lemma => kernel_rfl) (fun _ _ _ h => h) (by as_aux_lemma => kernel_rfl) (fun L u h => h) (Or.inl ⟨by rfl, ?_⟩) hs ?_
  rotate_left
  · intro w hY; go_simp; try with_reducible rfl
  try simp only [putz]
  refine Goes.take (i := 6) (o := ⟨some 76, _, _, _, _, _⟩) (v := ?_) [] rfl (by as_aux_lemma => kernel_rfl) (by as_aux_lemma => kernel_rfl) (by as_aux_lemma => kernel_rfl) (fun _ _ _ h => h) (by as_aux_lemma => kernel_rfl) (fun L u h => h) (Or.inl ⟨by rfl, ?_⟩) hs ?_
  rotate_left
  · intro w hY; go_simp; try with_reducible rfl
  try simp only [putz]
  refine Goes.take (i := 7) (o := ⟨some 77, _, _, _, _, _⟩) (v := ?_) [] rfl (by as_aux_lemma => kernel_rfl) (by as_aux_lemma => kernel_rfl) (by as_aux_lemma => kernel_rfl) (fun _ _ _ h => h) (by as_aux_lemma => kernel_rfl) (fun L u h => h) (Or.inl ⟨by rfl, ?_⟩) hs ?_
  rotate_left
  · intro w hY; go_simp; try with_reducible rfl
  try simp only [putz]
  refine Goes.take (i := 8) (o := ⟨some 78, _, _, _, _, _⟩) (v := ?_) [] rfl (by as_aux_lemma => kernel_rfl) (by as_aux_lemma => kernel_rfl) (by as_aux_lemma => kernel_rfl) (fun _ _ _ h => h) (by as_aux_lemma => kernel_rfl) (fun L u h => h) (Or.inl ⟨by rfl, ?_⟩) hs ?_
  rotate_left
  · intro w hY; obtain ⟨up, hL⟩ := hY; have hX := hL.2.2.1; clear hL; (try dsimp only at hX); go_simp; try with_reducible rfl
  try simp only [putz]
  refine Goes.take (i := 9) (o := ⟨some 79, _, _, _, _, _⟩) (v := ?_) [] rfl (by as_aux_lemma => kernel_rfl) (by as_aux_lemma => kernel_rfl) (by as_aux_lemma => kernel_rfl) (fun _ _ _ h => h) (by as_aux_lemma => kernel_rfl) (fun L u h => h) (Or.inl ⟨by rfl, ?_⟩) hs ?_
  rotate_left
  · intro w hY; go_simp; try with_reducible rfl
  try simp only [putz]
  refine Goes.take (i := 10) (o := ⟨some 80, _, _, _, _, _⟩) (v := ?_) [] rfl (by as_aux_lemma => kernel_rfl) (by as_aux_lemma => kernel_rfl) (by as_aux_lemma => kernel_rfl) (fun _ _ _ h => h) (by as_aux_lemma => kernel_rfl) (fun L u h => h) (Or.inl ⟨by rfl, ?_⟩) hs ?_
  rotate_left
  · intro w hY; go_simp; try with_reducible rfl
  try simp only [putz]
  refine Goes.take (i := 12) (o := ⟨some 82, _, _, _, _, _⟩) (v := ?_) [] rfl (by as_aux_lemma => kernel_rfl) (by as_aux_lemma => kernel_rfl) (by as_aux_lemma => kernel_rfl) (fun _ _ _ h => h) (by as_aux_lemma => kernel_rfl) (fun L u h => h) (Or.inl ⟨by rfl, ?_⟩) hs ?_
  rotate_left
  · intro w hY; go_simp; try with_reducible rfl
  try simp only [putz]
  refine Goes.take (i := 15) (o := ⟨some 85, _, _, _, _, _⟩) (v := ?_) [] rfl (by as_aux_lemma => kernel_rfl) (by as_aux_lemma => kernel_rfl) (by as_aux_lemma => kernel_rfl) (fun _ _ _ h => h) (by as_aux_lemma => kernel_rfl) (fun L u h => h) (Or.inl ⟨by rfl, ?_⟩) hs ?_
  rotate_left
  · intro w hY; go_simp; try with_reducible rfl
  try simp only [putz]
  refine Goes.take (i := 16) (o := ⟨some 86, _, _, _, _, _⟩) (v := ?_) [] rfl (by as_aux_lemma => kernel_rfl) (by as_aux_lemma => kernel_rfl) (by as_aux_lemma => kernel_rfl) (fun _ _ _ h => h) (by as_aux_lemma => kernel_rfl) (fun L u h => h) (Or.inl ⟨by rfl, ?_⟩) hs ?_
  rotate_left
  · intro w hY; go_simp; try with_reducible rfl
  try simp only [putz]
  refine Goes.take (i := 19) (o := ⟨some 89, _, _, _, _, _⟩) (v := ?_) [] rfl (by as_aux_lemma => kernel_rfl) (by as_aux_lemma => kernel_rfl) (by as_aux_lemma => kernel_rfl) (fun _ _ _ h => h) (by as_aux_lemma => kernel_rfl) (fun L u h => h) (Or.inl ⟨by rfl, ?_⟩) hs ?_
  rotate_left
  · intro w hY; go_simp; try with_reducible rfl
  try simp only [putz]
  refine Goes.take (i := 21) (o := ⟨some 91, _, _, _, _, _⟩) (v := ?_) [] rfl (by as_aux_lemma => kernel_rfl) (by as_aux_lemma => kernel_rfl) (by as_aux_lemma => kernel_rfl) (fun _ _ _ h => h) (by as_aux_lemma => kernel_rfl) (fun L u h => h) (Or.inl ⟨by rfl, ?_⟩) hs ?_
  rotate_left
  · intro w hY; go_simp; try with_reducible rfl
  try simp only [putz]
  refine Goes.take (i := 24) (o := ⟨some 94, _, _, _, _, _⟩) (v := ?_) [] rfl (by as_aux_lemma => kernel_rfl) (by as_aux_lemma => kernel_rfl) (by as_aux_lemma => kernel_rfl) (fun _ _ _ h => h) (by as_aux_lemma => kernel_rfl) (fun L u h => h) (Or.inl ⟨by rfl, ?_⟩) hs ?_
  rotate_left
  · intro w hY; go_simp; try with_reducible rfl
  try simp only [putz]
  refine Goes.take (i := 25) (o := ⟨some 95, _, _, _, _, _⟩) (v := ?_) [] rfl (by as_aux_lemma => kernel_rfl) (by as_aux_lemma => kernel_rfl) (by as_aux_lemma => kernel_rfl) (fun _ _ _ h => h) (by as_aux_lemma => kernel_rfl) (fun L u h => h) (Or.inl ⟨by rfl, ?_⟩) hs ?_
  rotate_left
  · intro w hY; go_simp; try with_reducible rfl
  try simp only [putz]
  refine Goes.one (i := 11) (o := ⟨some 81, _, _, _, _, _⟩) (by as_aux_lemma => kernel_rfl) rfl (fun K hK => ?_)
  go_simp
  with_reducible refine (round_7 _ _ b15).mono ?_
  rintro e' wa ⟨rfl, rfl⟩
  go_wp2_with fail
  refine hK.out _ _ hs ?_
  clear hK K
  try simp only [putz]
  refine Goes.one (i := 13) (o := ⟨some 83, _, _, _, _, _⟩) (by as_aux_lemma => kernel_rfl) rfl (fun K hK => ?_)
  go_simp
  with_reducible refine (round_18 _ _ b15).mono ?_
  rintro e' wb ⟨rfl, rfl⟩
  go_wp2_with fail
  refine hK.out _ _ hs ?_
  clear hK K
  try simp only [putz]
  refine Goes.take (i := 14) (o := ⟨some 84, _, _, _, _, _⟩) (v := ?_) [] rfl (by as_aux_lemma => kernel_rfl) (by as_aux_lemma => kernel_rfl) (by as_aux_lemma => kernel_rfl) (fun _ _ _ h => h) (by as_aux_lemma => kernel_rfl) (fun L u h => h) (Or.inl ⟨by rfl, ?_⟩) hs ?_
  rotate_left
  · intro w hY; go_simp; try with_reducible rfl
  try simp only [putz]
  refine Goes.take (i := 17) (o := ⟨some 87, _, _, _, _, _⟩) (v := ?_) [] rfl (by as_aux_lemma => kernel_rfl) (by as_aux_lemma => kernel_rfl) (by as_aux_lemma => kernel_rfl) (fun _ _ _ h => h) (by as_aux_lemma => kernel_rfl) (fun L u h => h) (Or.inl ⟨by rfl, ?_⟩) hs ?_
  rotate_left
  · intro w hY; go_simp; try with_reducible rfl
  try simp only [putz]
  refine Goes.take (i := 18) (o := ⟨some 88, _, _, _, _, _⟩) (v := ?_) [] rfl (by as_aux_lemma => kernel_rfl) (by as_aux_lemma => kernel_rfl) (by as_aux_lemma => kernel_rfl) (fun _ _ _ h => h) (by as_aux_lemma => kernel_rfl) (fun L u h => h) (Or.inl ⟨by rfl, ?_⟩) hs ?_
  rotate_left
  · intro w hY; go_simp; try with_reducible rfl
  try simp only [putz]
  refine Goes.one (i := 20) (o := ⟨some 90, _, _, _, _, _⟩) (by as_aux_lemma => kernel_rfl) rfl (fun K hK => ?_)
  go_simp
  with_reducible refine (round_17 _ _ b2).mono ?_
  rintro e' wc ⟨rfl, rfl⟩
  go_wp2_with fail
  refine hK.out _ _ hs ?_
  clear hK K
  try simp only [putz]
  refine Goes.one (i := 22) (o := ⟨some 92, _, _, _, _, _⟩) (by as_aux_lemma => kernel_rfl) rfl (fun K hK => ?_)
  go_simp
  with_reducible refine (round_19 _ _ b2).mono ?_
  rintro e' wd ⟨rfl, rfl⟩
  go_wp2_with fail
  refine hK.out _ _ hs ?_
  clear hK K
  try simp only [putz]
  refine Goes.take (i := 23) (o := ⟨some 93, _, _, _, _, _⟩) (v := ?_) [] rfl (by as_aux_lemma => kernel_rfl) (by as_aux_lemma => kernel_rfl) (by as_aux_lemma => kernel_rfl) (fun _ _ _ h => h) (by as_aux_lemma => kernel_rfl) (fun L u h => h) (Or.inl ⟨by rfl, ?_⟩) hs ?_
  rotate_left
  · intro w hY; go_simp; try with_reducible rfl
  try simp only [putz]
  refine Goes.take (i := 26) (o := ⟨some 96, _, _, _, _, _⟩) (v := ?_) [] rfl (by as_aux_lemma => kernel_rfl) (by as_aux_lemma => kernel_rfl) (by as_aux_lemma => kernel_rfl) (fun _ _ _ h => h) (by as_aux_lemma => kernel_rfl) (fun L u h => h) (Or.inl ⟨by rfl, ?_⟩) hs ?_
  rotate_left
  · intro w hY; go_simp; try with_reducible rfl
  try simp only [putz]
  refine Goes.take (i := 27) (o := ⟨some 97, _, _, _, _, _⟩) (v := ?_) [] rfl (by as_aux_lemma => kernel_rfl) (by as_aux_lemma => kernel_rfl) (by as_aux_lemma => kernel_rfl) (fun _ _ _ h => h) (by as_aux_lemma => kernel_rfl) (fun L u h => h) (Or.inl ⟨by rfl, ?_⟩) hs ?_
  rotate_left
  · intro w hY; go_simp; try with_reducible rfl
  try simp only [putz]
  refine Goes.take (i := 28) (o := ⟨some 98, _, _, _, _, _⟩) (v := ?_) [] rfl (by as_aux_lemma => kernel_rfl) (by as_aux_lemma => kernel_rfl) (by as_aux_lemma => kernel_rfl) (fun _ _ _ h => h) (by as_aux_lemma => kernel_rfl) (fun L u h => h) (Or.inl ⟨by rfl, ?_⟩) hs ?_
  rotate_left
  · intro w hY; go_simp; try with_reducible rfl
  try simp only [putz]
  refine Goes.one (i := 29) (o := ⟨none, _, _, _, _, _⟩) (by as_aux_lemma => kernel_rfl) rfl (fun K hK => ?_)
  go_simp
  refine hK.out _ _ (HKC.out _ _ hs) ?_
  clear hK K
  try simp only [putz]
  refine Goes.done (by as_aux_lemma => kernel_rfl) ?_ _
  refine NoPanic.normal ?_
  rw [HV.out]
  exact hQ.out _ _ _ _ _ _ _ _ _ _ _ _ _ _ _ _ _ _ _ _ _ _ _ _ _ _ _ _ _
end Go.Proofs.YtgmnpkgnedngjaaDoor
namespace Go.Proofs.YtgmnpkgnedngjaaDoor
open Go.RowKit
set_option linter.unusedVariables false
set_option linter.unusedSimpArgs false

/-- one of two, taken against each other or together -/
theorem cho_xor (e f g : Nat) (he : e < 4294967296) : (e &&& f) ^^^ ((4294967295 - e) &&& g) = cho e f g := by
  unfold cho
  rw [← not32 e he]
  apply Nat.eq_of_testBit_eq
  intro i
  have hb : e.testBit i = true → (4294967295 : Nat).testBit i = true := by
    intro h
    rw [show (4294967295 : Nat) = 2 ^ 32 - 1 by decide, Nat.testBit_two_pow_sub_one]
    rcases Nat.lt_or_ge i 32 with h2 | h2
    · simpa using h2
    · rw [Nat.testBit_lt_two_pow (Nat.lt_of_lt_of_le he (Nat.pow_le_pow_right (n := 2) (i := 32) (by decide) h2))] at h; cases h
  simp only [Nat.testBit_xor, Nat.testBit_or, Nat.testBit_and]
  cases h1 : e.testBit i
  · simp
  · rw [hb h1]; simp
theorem t_eq2 (e f g h kv wv : Nat) (he : e < 4294967296) (hf : f < 4294967296) (hg : g < 4294967296) :
    IntKind.u32.wrap (IntKind.u32.wrap (IntKind.u32.wrap (IntKind.u32.wrap ((h : Int) + bits BinOp.xor IntKind.u32 (bits BinOp.xor IntKind.u32 ((rot e 6 : Nat) : Int) ((rot e 11 : Nat) : Int)) ((rot e 25 : Nat) : Int)) + bits BinOp.xor IntKind.u32 (bits BinOp.and IntKind.u32 (e : Int) (f : Int)) (bits BinOp.and IntKind.u32 (bits BinOp.xor IntKind.u32 IntKind.u32.max (e : Int)) (g : Int))) + (kv : Int)) + (wv : Int)) = ((((((h + b1 e) % 4294967296 + cho e f g) % 4294967296 + kv) % 4294967296 + wv) % 4294967296 : Nat) : Int) := by
  have e1 : bits BinOp.xor IntKind.u32 IntKind.u32.max (e : Int) = ((4294967295 - e : Nat) : Int) := by
    rw [← not32 e he]; exact u32_xor_nat 4294967295 e (by decide) he
  rw [e1, u32_xor_nat _ _ (rot_lt 6 he) (rot_lt 11 he), u32_xor_nat _ _ (xor_lt (rot_lt 6 he) (rot_lt 11 he)) (rot_lt 25 he), u32_and_nat e f he hf, u32_and_nat (4294967295 - e) g (by omega) hg, u32_xor_nat _ _ (and_lt _ he) (and_lt _ (by omega)), cho_xor e f g he, IntKind.wrap_u32, IntKind.wrap_u32, IntKind.wrap_u32, IntKind.wrap_u32]
  unfold b1
  omega
theorem u_eq2 (a b c : Nat) (ha : a < 4294967296) (hb : b < 4294967296) (hc : c < 4294967296) : IntKind.u32.wrap (bits BinOp.xor IntKind.u32 (bits BinOp.xor IntKind.u32 ((rot a 2 : Nat) : Int) ((rot a 13 : Nat) : Int)) ((rot a 22 : Nat) : Int) + bits BinOp.or IntKind.u32 (bits BinOp.or IntKind.u32 (bits BinOp.and IntKind.u32 (a : Int) (b : Int)) (bits BinOp.and IntKind.u32 (a : Int) (c : Int))) (bits BinOp.and IntKind.u32 (b : Int) (c : Int))) = (((b0 a + maj a b c) % 4294967296 : Nat) : Int) := by
  rw [u32_xor_nat _ _ (rot_lt 2 ha) (rot_lt 13 ha), u32_xor_nat _ _ (xor_lt (rot_lt 2 ha) (rot_lt 13 ha)) (rot_lt 22 ha), IntKind.wrap_u32, u_eq a b c _ ha hb hc]
  rfl
noncomputable def rb18 : Code := ((Tryd.f41.body.bind (findRegion 18)).getD .skip)
noncomputable def rb19 : Code := ((Tryd.f41.body.bind (findRegion 19)).getD .skip)
set_option maxRecDepth 100000 in
set_option maxHeartbeats 1000000 in
theorem rb18_ok {w wr : World} {g12 gt i e f g h kv wv tv : Nat} {Q : Exit → Act → World → Prop} (be : e < 4294967296) (i64 : (i : Int) < 64) (i0 : (0 : Int) ≤ i) (wi : IntKind.i64.wrap (i : Int) = (i : Int)) (hS : wr.cell? ⟨g12, 7, none⟩ = some (.int .u32 (h : Int)) ∧ wr.cell? ⟨g12, 5, none⟩ = some (.int .u32 (f : Int)) ∧ wr.cell? ⟨g12, 6, none⟩ = some (.int .u32 (g : Int)) ∧ wr.cell? ⟨gt, i, none⟩ = some (.int .u32 (kv : Int)) ∧ wr.cell? ⟨w.heap.size + 1 + 1, i, none⟩ = some (.int .u32 (wv : Int)))
    (HT : Hid (IntKind.u32.wrap (IntKind.u32.wrap (IntKind.u32.wrap (IntKind.u32.wrap ((h : Int) + bits BinOp.xor IntKind.u32 (bits BinOp.xor IntKind.u32 ((rot e 6 : Nat) : Int) ((rot e 11 : Nat) : Int)) ((rot e 25 : Nat) : Int)) + bits BinOp.xor IntKind.u32 (bits BinOp.and IntKind.u32 (e : Int) (f : Int)) (bits BinOp.and IntKind.u32 (bits BinOp.xor IntKind.u32 IntKind.u32.max (e : Int)) (g : Int))) + (kv : Int)) + (wv : Int)) = (tv : Int)))
    (c0 c1 c3 c4 c5 c6 c8 c9 c10 c11 c14 c16 c17 c18 c19 c20 c21 c22 c23 c24 c25 c26 c27 c28 c29 c30 c31 c32 c33 c34 c35 c36 c37 c38 c39 c40 c41 c42 c43 c44 c45 c46 c47 c48 c49 c50 c51 c52 c53 c54 c55 c56 c57 c58 c59 c60 c61 c62 c63 c64 c65 c66 c67 c68 c69 c70 c71 c72 c73 c74 c75 c76 c77 c78 c79 c80 c81 c82 c83 c84 c85 c86 c87 c88 c89 c90 c91 c92 c93 c94 c95 c96 c97 c98 c99 c100 c101 c102 c103 c104 c105 c106 c107 c108 c109 c110 c111 c112 c113 c114 c115 c116 c117 c118 c119 c120 c121 c122 c123 c124 c125 c126 c127 c128 c129 c130 c131 c132 c133 c134 c135 c136 c137 c138 c139 c140 c141 c142 c143 c144 c145 c146 c147 c148 c149 c150 c151 c152 c153 c154 c155 c156 c157 c158 c159 c160 c161 c162 c163 c164 c165 c166 c167 c168 c169 c170 c171 c172 c173 c174 c175 c176 c177 c178 c179 c180 c181 c182 c183 c184 c185 c186 c187 c188 c189 c190 c191 c192 c193 c194 : Value)
    (hQ : Hid (∀ (d108 d109 d110 d111 d112 d113 d114 d115 d116 d117 d118 d119 d120 d121 d122 d123 d124 d125 d126 d127 d128 d129 d130 d131 d132 d133 d134 d135 d136 d137 d138 : Value), Q .normal ⟨#[c0, c1, .slice (some ⟨gt, 0, none⟩) 64 64, c3, c4, c5, c6, .pointer (some ⟨w.heap.size + 1 + 1, 0, none⟩), c8, c9, c10, c11, .pointer (some ⟨g12, 0, none⟩), .int .i64 (i : Int), c14, .int .u32 (e : Int), .int .u32 (tv : Int), c17, c18, c19, c20, c21, c22, c23, c24, c25, c26, c27, c28, c29, c30, c31, c32, c33, c34, c35, c36, c37, c38, c39, c40, c41, c42, c43, c44, c45, c46, c47, c48, c49, c50, c51, c52, c53, c54, c55, c56, c57, c58, c59, c60, c61, c62, c63, c64, c65, c66, c67, c68, c69, c70, c71, c72, c73, c74, c75, c76, c77, c78, c79, c80, c81, c82, c83, c84, c85, c86, c87, c88, c89, c90, c91, c92, c93, c94, c95, c96, c97, c98, c99, c100, c101, c102, c103, c104, c105, c106, c107, d108, d109, d110, d111, d112, d113, d114, d115, d116, d117, d118, d119, d120, d121, d122, d123, d124, d125, d126, d127, d128, d129, d130, d131, d132, d133, d134, d135, d136, d137, d138, c139, c140, c141, c142, c143, c144, c145, c146, c147, c148, c149, c150, c151, c152, c153, c154, c155, c156, c157, c158, c159, c160, c161, c162, c163, c164, c165, c166, c167, c168, c169, c170, c171, c172, c173, c174, c175, c176, c177, c178, c179, c180, c181, c182, c183, c184, c185, c186, c187, c188, c189, c190, c191, c192, c193, c194], []⟩ wr.drew)) :
    Code.wp Tryd.prog rb18 Q ⟨#[c0, c1, .slice (some ⟨gt, 0, none⟩) 64 64, c3, c4, c5, c6, .pointer (some ⟨w.heap.size + 1 + 1, 0, none⟩), c8, c9, c10, c11, .pointer (some ⟨g12, 0, none⟩), .int .i64 (i : Int), c14, .int .u32 (e : Int), c16, c17, c18, c19, c20, c21, c22, c23, c24, c25, c26, c27, c28, c29, c30, c31, c32, c33, c34, c35, c36, c37, c38, c39, c40, c41, c42, c43, c44, c45, c46, c47, c48, c49, c50, c51, c52, c53, c54, c55, c56, c57, c58, c59, c60, c61, c62, c63, c64, c65, c66, c67, c68, c69, c70, c71, c72, c73, c74, c75, c76, c77, c78, c79, c80, c81, c82, c83, c84, c85, c86, c87, c88, c89, c90, c91, c92, c93, c94, c95, c96, c97, c98, c99, c100, c101, c102, c103, c104, c105, c106, c107, c108, c109, c110, c111, c112, c113, c114, c115, c116, c117, c118, c119, c120, c121, c122, c123, c124, c125, c126, c127, c128, c129, c130, c131, c132, c133, c134, c135, c136, c137, c138, c139, c140, c141, c142, c143, c144, c145, c146, c147, c148, c149, c150, c151, c152, c153, c154, c155, c156, c157, c158, c159, c160, c161, c162, c163, c164, c165, c166, c167, c168, c169, c170, c171, c172, c173, c174, c175, c176, c177, c178, c179, c180, c181, c182, c183, c184, c185, c186, c187, c188, c189, c190, c191, c192, c193, c194], []⟩ wr := by
  conv => arg 2; whnf
  have hs : wr.drew.cell? ⟨g12, 7, none⟩ = some (.int .u32 (h : Int)) ∧ wr.drew.cell? ⟨g12, 5, none⟩ = some (.int .u32 (f : Int)) ∧ wr.drew.cell? ⟨g12, 6, none⟩ = some (.int .u32 (g : Int)) ∧ wr.drew.cell? ⟨gt, i, none⟩ = some (.int .u32 (kv : Int)) ∧ wr.drew.cell? ⟨w.heap.size + 1 + 1, i, none⟩ = some (.int .u32 (wv : Int)) := hS
  refine wp_region_noPanic ?_
  refine Goes.region (fun (L : Array Bool) (w' : World) => w'.cell? ⟨g12, 7, none⟩ = some (.int .u32 (h : Int)) ∧ w'.cell? ⟨g12, 5, none⟩ = some (.int .u32 (f : Int)) ∧ w'.cell? ⟨g12, 6, none⟩ = some (.int .u32 (g : Int)) ∧ w'.cell? ⟨gt, i, none⟩ = some (.int .u32 (kv : Int)) ∧ w'.cell? ⟨w.heap.size + 1 + 1, i, none⟩ = some (.int .u32 (wv : Int))) (by as_aux_lemma => kernel_rfl) ?_
  refine Goes.take (i := 0) (o := ⟨some 108, _, _, _, _, _⟩) (v := ?_) [] rfl (by as_aux_lemma => kernel_rfl) (by as_aux_lemma => kernel_rfl) (by as_aux_lemma => kernel_rfl) (fun _ _ _ h => h) (by as_aux_lemma => kernel_rfl) (fun L u h => h) (Or.inl ⟨by rfl, ?_⟩) hs ?_
  rotate_left
  · intro w hY; go_simp; try with_reducible rfl
  try simp only [putz]
  refine Goes.take (i := 1) (o := ⟨some 109, _, _, _, _, _⟩) (v := ?_) [] rfl (by as_aux_lemma => kernel_rfl) (by as_aux_lemma => kernel_rfl) (by as_aux_lemma => kernel_rfl) (fun _ _ _ h => h) (by as_aux_lemma => kernel_rfl) (fun L u h => h) (Or.inl ⟨by rfl, ?_⟩) hs ?_
  rotate_left
  · intro w hY; obtain ⟨up, hL⟩ := hY; have hX := hL.2.1; clear hL; (try dsimp only at hX); go_simp; try with_reducible rfl
  try simp only [putz]
  refine Goes.take (i := 2) (o := ⟨some 110, _, _, _, _, _⟩) (v := ?_) [] rfl (by as_aux_lemma => kernel_rfl) (by as_aux_lemma => kernel_rfl) (by as_aux_lemma => kernel_rfl) (fun _ _ _ h => h) (by as_aux_lemma => kernel_rfl) (fun L u h => h) (Or.inl ⟨by rfl, ?_⟩) hs ?_
  rotate_left
  · intro w hY; go_simp; try with_reducible rfl
  try simp only [putz]
  refine Goes.take (i := 4) (o := ⟨some 112, _, _, _, _, _⟩) (v := ?_) [] rfl (by as_aux_lemma => kernel_rfl) (by as_aux_lemma => kernel_rfl) (by as_aux_lemma => kernel_rfl) (fun _ _ _ h => h) (by as_aux_lemma => kernel_rfl) (fun L u h => h) (Or.inl ⟨by rfl, ?_⟩) hs ?_
  rotate_left
  · intro w hY; go_simp; try with_reducible rfl
  try simp only [putz]
  refine Goes.take (i := 7) (o := ⟨some 115, _, _, _, _, _⟩) (v := ?_) [] rfl (by as_aux_lemma => kernel_rfl) (by as_aux_lemma => kernel_rfl) (by as_aux_lemma => kernel_rfl) (fun _ _ _ h => h) (by as_aux_lemma => kernel_rfl) (fun L u h => h) (Or.inl ⟨by rfl, ?_⟩) hs ?_
  rotate_left
  · intro w hY; go_simp; try with_reducible rfl
  try simp only [putz]
  refine Goes.take (i := 11) (o := ⟨some 119, _, _, _, _, _⟩) (v := ?_) [] rfl (by as_aux_lemma => kernel_rfl) (by as_aux_lemma => kernel_rfl) (by as_aux_lemma => kernel_rfl) (fun _ _ _ h => h) (by as_aux_lemma => kernel_rfl) (fun L u h => h) (Or.inl ⟨by rfl, ?_⟩) hs ?_
  rotate_left
  · intro w hY; go_simp; try with_reducible rfl
  try simp only [putz]
  refine Goes.take (i := 12) (o := ⟨some 120, _, _, _, _, _⟩) (v := ?_) [] rfl (by as_aux_lemma => kernel_rfl) (by as_aux_lemma => kernel_rfl) (by as_aux_lemma => kernel_rfl) (fun _ _ _ h => h) (by as_aux_lemma => kernel_rfl) (fun L u h => h) (Or.inl ⟨by rfl, ?_⟩) hs ?_
  rotate_left
  · intro w hY; go_simp; try with_reducible rfl
  try simp only [putz]
  refine Goes.take (i := 13) (o := ⟨some 121, _, _, _, _, _⟩) (v := ?_) [] rfl (by as_aux_lemma => kernel_rfl) (by as_aux_lemma => kernel_rfl) (by as_aux_lemma => kernel_rfl) (fun _ _ _ h => h) (by as_aux_lemma => kernel_rfl) (fun L u h => h) (Or.inl ⟨by rfl, ?_⟩) hs ?_
  rotate_left
  · intro w hY; obtain ⟨up, hL⟩ := hY; have hX := hL.2.2.1; clear hL; (try dsimp only at hX); go_simp; try with_reducible rfl
  try simp only [putz]
  refine Goes.take (i := 14) (o := ⟨some 122, _, _, _, _, _⟩) (v := ?_) [] rfl (by as_aux_lemma => kernel_rfl) (by as_aux_lemma => kernel_rfl) (by as_aux_lemma => kernel_rfl) (fun _ _ _ h => h) (by as_aux_lemma => kernel_rfl) (fun L u h => h) (Or.inl ⟨by rfl, ?_⟩) hs ?_
  rotate_left
  · intro w hY; go_simp; try with_reducible rfl
  try simp only [putz]
  refine Goes.take (i := 15) (o := ⟨some 123, _, _, _, _, _⟩) (v := ?_) [] rfl (by as_aux_lemma => kernel_rfl) (by as_aux_lemma => kernel_rfl) (by as_aux_lemma => kernel_rfl) (fun _ _ _ h => h) (by as_aux_lemma => kernel_rfl) (fun L u h => h) (Or.inl ⟨by rfl, ?_⟩) hs ?_
  rotate_left
  · intro w hY; go_simp; try with_reducible rfl
  try simp only [putz]
  refine Goes.take (i := 16) (o := ⟨some 124, _, _, _, _, _⟩) (v := ?_) [] rfl (by as_aux_lemma => kernel_rfl) (by as_aux_lemma => kernel_rfl) (by as_aux_lemma => kernel_rfl) (fun _ _ _ h => h) (by as_aux_lemma => kernel_rfl) (fun L u h => h) (Or.inl ⟨by rfl, ?_⟩) hs ?_
  rotate_left
  · intro w hY; go_simp; try with_reducible rfl
  try simp only [putz]
  refine Goes.take (i := 17) (o := ⟨some 125, _, _, _, _, _⟩) (v := ?_) [] rfl (by as_aux_lemma => kernel_rfl) (by as_aux_lemma => kernel_rfl) (by as_aux_lemma => kernel_rfl) (fun _ _ _ h => h) (by as_aux_lemma => kernel_rfl) (fun L u h => h) (Or.inl ⟨by rfl, ?_⟩) hs ?_
  rotate_left
  · intro w hY; go_simp; try with_reducible rfl
  try simp only [putz]
  refine Goes.take (i := 18) (o := ⟨some 126, _, _, _, _, _⟩) (v := ?_) [] rfl (by as_aux_lemma => kernel_rfl) (by as_aux_lemma => kernel_rfl) (by as_aux_lemma => kernel_rfl) (fun _ _ _ h => h) (by as_aux_lemma => kernel_rfl) (fun L u h => h) (Or.inl ⟨by rfl, ?_⟩) hs ?_
  rotate_left
  · intro w hY; obtain ⟨up, hL⟩ := hY; have hX := hL.2.2.2.1; clear hL; (try dsimp only at hX); go_simp; try with_reducible rfl
  try simp only [putz]
  refine Goes.take (i := 19) (o := ⟨some 127, _, _, _, _, _⟩) (v := ?_) [] rfl (by as_aux_lemma => kernel_rfl) (by as_aux_lemma => kernel_rfl) (by as_aux_lemma => kernel_rfl) (fun _ _ _ h => h) (by as_aux_lemma => kernel_rfl) (fun L u h => h) (Or.inl ⟨by rfl, ?_⟩) hs ?_
  rotate_left
  · intro w hY; go_simp; try with_reducible rfl
  try simp only [putz]
  refine Goes.take (i := 20) (o := ⟨some 128, _, _, _, _, _⟩) (v := ?_) [] rfl (by as_aux_lemma => kernel_rfl) (by as_aux_lemma => kernel_rfl) (by as_aux_lemma => kernel_rfl) (fun _ _ _ h => h) (by as_aux_lemma => kernel_rfl) (fun L u h => h) (Or.inl ⟨by rfl, ?_⟩) hs ?_
  rotate_left
  · intro w hY; go_simp; try with_reducible rfl
  try simp only [putz]
  refine Goes.take (i := 22) (o := ⟨some 130, _, _, _, _, _⟩) (v := ?_) [] rfl (by as_aux_lemma => kernel_rfl) (by as_aux_lemma => kernel_rfl) (by as_aux_lemma => kernel_rfl) (fun _ _ _ h => h) (by as_aux_lemma => kernel_rfl) (fun L u h => h) (Or.inl ⟨by rfl, ?_⟩) hs ?_
  rotate_left
  · intro w hY; go_simp; try with_reducible rfl
  try simp only [putz]
  refine Goes.take (i := 23) (o := ⟨some 131, _, _, _, _, _⟩) (v := ?_) [] rfl (by as_aux_lemma => kernel_rfl) (by as_aux_lemma => kernel_rfl) (by as_aux_lemma => kernel_rfl) (fun _ _ _ h => h) (by as_aux_lemma => kernel_rfl) (fun L u h => h) (Or.inl ⟨by rfl, ?_⟩) hs ?_
  rotate_left
  · intro w hY; go_simp; try with_reducible rfl
  try simp only [putz]
  refine Goes.take (i := 24) (o := ⟨some 132, _, _, _, _, _⟩) (v := ?_) [] rfl (by as_aux_lemma => kernel_rfl) (by as_aux_lemma => kernel_rfl) (by as_aux_lemma => kernel_rfl) (fun _ _ _ h => h) (by as_aux_lemma => kernel_rfl) (fun L u h => h) (Or.inl ⟨by rfl, ?_⟩) hs ?_
  rotate_left
  · intro w hY; go_simp; try with_reducible rfl
  try simp only [putz]
  refine Goes.take (i := 25) (o := ⟨some 133, _, _, _, _, _⟩) (v := ?_) [] rfl (by as_aux_lemma => kernel_rfl) (by as_aux_lemma => kernel_rfl) (by as_aux_lemma => kernel_rfl) (fun _ _ _ h => h) (by as_aux_lemma => kernel_rfl) (fun L u h => h) (Or.inl ⟨by rfl, ?_⟩) hs ?_
  rotate_left
  · intro w hY; obtain ⟨up, hL⟩ := hY; have hX := hL.2.2.2.2.1; clear hL; (try dsimp only at hX); go_simp; try with_reducible rfl
  try simp only [putz]
  refine Goes.take (i := 27) (o := ⟨some 135, _, _, _, _, _⟩) (v := ?_) [] rfl (by as_aux_lemma => kernel_rfl) (by as_aux_lemma => kernel_rfl) (by as_aux_lemma => kernel_rfl) (fun _ _ _ h => h) (by as_aux_lemma => kernel_rfl) (fun L u h => h) (Or.inl ⟨by rfl, ?_⟩) hs ?_
  rotate_left
  · intro w hY; go_simp; try with_reducible rfl
  try simp only [putz]
  refine Goes.take (i := 28) (o := ⟨some 136, _, _, _, _, _⟩) (v := ?_) [] rfl (by as_aux_lemma => kernel_rfl) (by as_aux_lemma => kernel_rfl) (by as_aux_lemma => kernel_rfl) (fun _ _ _ h => h) (by as_aux_lemma => kernel_rfl) (fun L u h => h) (Or.inl ⟨by rfl, ?_⟩) hs ?_
  rotate_left
  · intro w hY; go_simp; try with_reducible rfl
  try simp only [putz]
  refine Goes.take (i := 29) (o := ⟨some 137, _, _, _, _, _⟩) (v := ?_) [] rfl (by as_aux_lemma => kernel_rfl) (by as_aux_lemma => kernel_rfl) (by as_aux_lemma => kernel_rfl) (fun _ _ _ h => h) (by as_aux_lemma => kernel_rfl) (fun L u h => h) (Or.inl ⟨by rfl, ?_⟩) hs ?_
  rotate_left
  · intro w hY; obtain ⟨up, hL⟩ := hY; have hX := hL.2.2.2.2.2; clear hL; (try dsimp only at hX); go_simp; try with_reducible rfl
  try simp only [putz]
  refine Goes.one (i := 3) (o := ⟨some 111, _, _, _, _, _⟩) (by as_aux_lemma => kernel_rfl) rfl (fun K hK => ?_)
  go_simp
  with_reducible refine (round_6 _ _ be).mono ?_
  rintro e' wa ⟨rfl, rfl⟩
  go_wp2_with fail
  refine hK.out _ _ hs ?_
  clear hK K
  try simp only [putz]
  refine Goes.one (i := 5) (o := ⟨some 113, _, _, _, _, _⟩) (by as_aux_lemma => kernel_rfl) rfl (fun K hK => ?_)
  go_simp
  with_reducible refine (round_11 _ _ be).mono ?_
  rintro e' wb ⟨rfl, rfl⟩
  go_wp2_with fail
  refine hK.out _ _ hs ?_
  clear hK K
  try simp only [putz]
  refine Goes.take (i := 6) (o := ⟨some 114, _, _, _, _, _⟩) (v := ?_) [] rfl (by as_aux_lemma => kernel_rfl) (by as_aux_lemma => kernel_rfl) (by as_aux_lemma => kernel_rfl) (fun _ _ _ h => h) (by as_aux_lemma => kernel_rfl) (fun L u h => h) (Or.inl ⟨by rfl, ?_⟩) hs ?_
  rotate_left
  · intro w hY; go_simp; try with_reducible rfl
  try simp only [putz]
  refine Goes.one (i := 8) (o := ⟨some 116, _, _, _, _, _⟩) (by as_aux_lemma => kernel_rfl) rfl (fun K hK => ?_)
  go_simp
  with_reducible refine (round_25 _ _ be).mono ?_
  rintro e' wc ⟨rfl, rfl⟩
  go_wp2_with fail
  refine hK.out _ _ hs ?_
  clear hK K
  try simp only [putz]
  refine Goes.take (i := 9) (o := ⟨some 117, _, _, _, _, _⟩) (v := ?_) [] rfl (by as_aux_lemma => kernel_rfl) (by as_aux_lemma => kernel_rfl) (by as_aux_lemma => kernel_rfl) (fun _ _ _ h => h) (by as_aux_lemma => kernel_rfl) (fun L u h => h) (Or.inl ⟨by rfl, ?_⟩) hs ?_
  rotate_left
  · intro w hY; go_simp; try with_reducible rfl
  try simp only [putz]
  refine Goes.take (i := 10) (o := ⟨some 118, _, _, _, _, _⟩) (v := ?_) [] rfl (by as_aux_lemma => kernel_rfl) (by as_aux_lemma => kernel_rfl) (by as_aux_lemma => kernel_rfl) (fun _ _ _ h => h) (by as_aux_lemma => kernel_rfl) (fun L u h => h) (Or.inl ⟨by rfl, ?_⟩) hs ?_
  rotate_left
  · intro w hY; go_simp; try with_reducible rfl
  try simp only [putz]
  refine Goes.take (i := 21) (o := ⟨some 129, _, _, _, _, _⟩) (v := ?_) [] rfl (by as_aux_lemma => kernel_rfl) (by as_aux_lemma => kernel_rfl) (by as_aux_lemma => kernel_rfl) (fun _ _ _ h => h) (by as_aux_lemma => kernel_rfl) (fun L u h => h) (Or.inl ⟨by rfl, ?_⟩) hs ?_
  rotate_left
  · intro w hY; go_simp; try with_reducible rfl
  try simp only [putz]
  refine Goes.take (i := 26) (o := ⟨some 134, _, _, _, _, _⟩) (v := ?_) [] rfl (by as_aux_lemma => kernel_rfl) (by as_aux_lemma => kernel_rfl) (by as_aux_lemma => kernel_rfl) (fun _ _ _ h => h) (by as_aux_lemma => kernel_rfl) (fun L u h => h) (Or.inl ⟨by rfl, ?_⟩) hs ?_
  rotate_left
  · intro w hY; go_simp; try with_reducible rfl
  try simp only [putz]
  refine Goes.take (i := 30) (o := ⟨some 138, _, _, _, _, _⟩) (v := ?_) [] rfl (by as_aux_lemma => kernel_rfl) (by as_aux_lemma => kernel_rfl) (by as_aux_lemma => kernel_rfl) (fun _ _ _ h => h) (by as_aux_lemma => kernel_rfl) (fun L u h => h) (Or.inl ⟨by rfl, ?_⟩) hs ?_
  rotate_left
  · intro w hY; go_simp; try with_reducible rfl
  try simp only [putz]
  refine Goes.take (i := 31) (o := ⟨some 16, _, _, _, _, _⟩) (v := ?_) [] rfl (by as_aux_lemma => kernel_rfl) (by as_aux_lemma => kernel_rfl) (by as_aux_lemma => kernel_rfl) (fun _ _ _ h => h) (by as_aux_lemma => kernel_rfl) (fun L u h => h) (Or.inl ⟨by rfl, ?_⟩) hs ?_
  rotate_left
  · intro w hY; go_simp; try with_reducible rfl
  try simp only [putz]
  refine Goes.done (by as_aux_lemma => kernel_rfl) ?_ _
  refine NoPanic.normal ?_
  rw [HT.out]
  exact hQ.out _ _ _ _ _ _ _ _ _ _ _ _ _ _ _ _ _ _ _ _ _ _ _ _ _ _ _ _ _ _ _
set_option maxRecDepth 100000 in
set_option maxHeartbeats 1000000 in
theorem rb19_ok {wr : World} {g12 a b c uv : Nat} {Q : Exit → Act → World → Prop} (ba : a < 4294967296) (hS : wr.cell? ⟨g12, 1, none⟩ = some (.int .u32 (b : Int)) ∧ wr.cell? ⟨g12, 2, none⟩ = some (.int .u32 (c : Int)))
    (HT : Hid (IntKind.u32.wrap (bits BinOp.xor IntKind.u32 (bits BinOp.xor IntKind.u32 ((rot a 2 : Nat) : Int) ((rot a 13 : Nat) : Int)) ((rot a 22 : Nat) : Int) + bits BinOp.or IntKind.u32 (bits BinOp.or IntKind.u32 (bits BinOp.and IntKind.u32 (a : Int) (b : Int)) (bits BinOp.and IntKind.u32 (a : Int) (c : Int))) (bits BinOp.and IntKind.u32 (b : Int) (c : Int))) = (uv : Int)))
    (c0 c1 c2 c3 c4 c5 c6 c7 c8 c9 c10 c11 c13 c15 c16 c17 c18 c19 c20 c21 c22 c23 c24 c25 c26 c27 c28 c29 c30 c31 c32 c33 c34 c35 c36 c37 c38 c39 c40 c41 c42 c43 c44 c45 c46 c47 c48 c49 c50 c51 c52 c53 c54 c55 c56 c57 c58 c59 c60 c61 c62 c63 c64 c65 c66 c67 c68 c69 c70 c71 c72 c73 c74 c75 c76 c77 c78 c79 c80 c81 c82 c83 c84 c85 c86 c87 c88 c89 c90 c91 c92 c93 c94 c95 c96 c97 c98 c99 c100 c101 c102 c103 c104 c105 c106 c107 c108 c109 c110 c111 c112 c113 c114 c115 c116 c117 c118 c119 c120 c121 c122 c123 c124 c125 c126 c127 c128 c129 c130 c131 c132 c133 c134 c135 c136 c137 c138 c139 c140 c141 c142 c143 c144 c145 c146 c147 c148 c149 c150 c151 c152 c153 c154 c155 c156 c157 c158 c159 c160 c161 c162 c163 c164 c165 c166 c167 c168 c169 c170 c171 c172 c173 c174 c175 c176 c177 c178 c179 c180 c181 c182 c183 c184 c185 c186 c187 c188 c189 c190 c191 c192 c193 c194 : Value)
    (hQ : Hid (∀ (d139 d140 d141 d142 d143 d144 d145 d146 d147 d148 d149 d150 d151 d152 d153 d154 d155 d156 d157 d158 d159 d160 d161 d162 : Value), Q .normal ⟨#[c0, c1, c2, c3, c4, c5, c6, c7, c8, c9, c10, c11, .pointer (some ⟨g12, 0, none⟩), c13, .int .u32 (a : Int), c15, c16, .int .u32 (uv : Int), c18, c19, c20, c21, c22, c23, c24, c25, c26, c27, c28, c29, c30, c31, c32, c33, c34, c35, c36, c37, c38, c39, c40, c41, c42, c43, c44, c45, c46, c47, c48, c49, c50, c51, c52, c53, c54, c55, c56, c57, c58, c59, c60, c61, c62, c63, c64, c65, c66, c67, c68, c69, c70, c71, c72, c73, c74, c75, c76, c77, c78, c79, c80, c81, c82, c83, c84, c85, c86, c87, c88, c89, c90, c91, c92, c93, c94, c95, c96, c97, c98, c99, c100, c101, c102, c103, c104, c105, c106, c107, c108, c109, c110, c111, c112, c113, c114, c115, c116, c117, c118, c119, c120, c121, c122, c123, c124, c125, c126, c127, c128, c129, c130, c131, c132, c133, c134, c135, c136, c137, c138, d139, d140, d141, d142, d143, d144, d145, d146, d147, d148, d149, d150, d151, d152, d153, d154, d155, d156, d157, d158, d159, d160, d161, d162, c163, c164, c165, c166, c167, c168, c169, c170, c171, c172, c173, c174, c175, c176, c177, c178, c179, c180, c181, c182, c183, c184, c185, c186, c187, c188, c189, c190, c191, c192, c193, c194], []⟩ wr.drew)) :
    Code.wp Tryd.prog rb19 Q ⟨#[c0, c1, c2, c3, c4, c5, c6, c7, c8, c9, c10, c11, .pointer (some ⟨g12, 0, none⟩), c13, .int .u32 (a : Int), c15, c16, c17, c18, c19, c20, c21, c22, c23, c24, c25, c26, c27, c28, c29, c30, c31, c32, c33, c34, c35, c36, c37, c38, c39, c40, c41, c42, c43, c44, c45, c46, c47, c48, c49, c50, c51, c52, c53, c54, c55, c56, c57, c58, c59, c60, c61, c62, c63, c64, c65, c66, c67, c68, c69, c70, c71, c72, c73, c74, c75, c76, c77, c78, c79, c80, c81, c82, c83, c84, c85, c86, c87, c88, c89, c90, c91, c92, c93, c94, c95, c96, c97, c98, c99, c100, c101, c102, c103, c104, c105, c106, c107, c108, c109, c110, c111, c112, c113, c114, c115, c116, c117, c118, c119, c120, c121, c122, c123, c124, c125, c126, c127, c128, c129, c130, c131, c132, c133, c134, c135, c136, c137, c138, c139, c140, c141, c142, c143, c144, c145, c146, c147, c148, c149, c150, c151, c152, c153, c154, c155, c156, c157, c158, c159, c160, c161, c162, c163, c164, c165, c166, c167, c168, c169, c170, c171, c172, c173, c174, c175, c176, c177, c178, c179, c180, c181, c182, c183, c184, c185, c186, c187, c188, c189, c190, c191, c192, c193, c194], []⟩ wr := by
  conv => arg 2; whnf
  have hs : wr.drew.cell? ⟨g12, 1, none⟩ = some (.int .u32 (b : Int)) ∧ wr.drew.cell? ⟨g12, 2, none⟩ = some (.int .u32 (c : Int)) := hS
  refine wp_region_noPanic ?_
  refine Goes.region (fun (L : Array Bool) (w' : World) => w'.cell? ⟨g12, 1, none⟩ = some (.int .u32 (b : Int)) ∧ w'.cell? ⟨g12, 2, none⟩ = some (.int .u32 (c : Int))) (by as_aux_lemma => kernel_rfl) ?_
  refine Goes.take (i := 0) (o := ⟨some 139, _, _, _, _, _⟩) (v := ?_) [] rfl (by as_aux_lemma => kernel_rfl) (by as_aux_lemma => kernel_rfl) (by as_aux_lemma => kernel_rfl) (fun _ _ _ h => h) (by as_aux_lemma => kernel_rfl) (fun L u h => h) (Or.inl ⟨by rfl, ?_⟩) hs ?_
  rotate_left
  · intro w hY; go_simp; try with_reducible rfl
  try simp only [putz]
  refine Goes.take (i := 2) (o := ⟨some 141, _, _, _, _, _⟩) (v := ?_) [] rfl (by as_aux_lemma => kernel_rfl) (by as_aux_lemma => kernel_rfl) (by as_aux_lemma => kernel_rfl) (fun _ _ _ h => h) (by as_aux_lemma => kernel_rfl) (fun L u h => h) (Or.inl ⟨by rfl, ?_⟩) hs ?_
  rotate_left
  · intro w hY; go_simp; try with_reducible rfl
  try simp only [putz]
  refine Goes.take (i := 5) (o := ⟨some 144, _, _, _, _, _⟩) (v := ?_) [] rfl (by as_aux_lemma => kernel_rfl) (by as_aux_lemma => kernel_rfl) (by as_aux_lemma => kernel_rfl) (fun _ _ _ h => h) (by as_aux_lemma => kernel_rfl) (fun L u h => h) (Or.inl ⟨by rfl, ?_⟩) hs ?_
  rotate_left
  · intro w hY; go_simp; try with_reducible rfl
  try simp only [putz]
  refine Goes.take (i := 8) (o := ⟨some 147, _, _, _, _, _⟩) (v := ?_) [] rfl (by as_aux_lemma => kernel_rfl) (by as_aux_lemma => kernel_rfl) (by as_aux_lemma => kernel_rfl) (fun _ _ _ h => h) (by as_aux_lemma => kernel_rfl) (fun L u h => h) (Or.inl ⟨by rfl, ?_⟩) hs ?_
  rotate_left
  · intro w hY; go_simp; try with_reducible rfl
  try simp only [putz]
  refine Goes.take (i := 9) (o := ⟨some 148, _, _, _, _, _⟩) (v := ?_) [] rfl (by as_aux_lemma => kernel_rfl) (by as_aux_lemma => kernel_rfl) (by as_aux_lemma => kernel_rfl) (fun _ _ _ h => h) (by as_aux_lemma => kernel_rfl) (fun L u h => h) (Or.inl ⟨by rfl, ?_⟩) hs ?_
  rotate_left
  · intro w hY; go_simp; try with_reducible rfl
  try simp only [putz]
  refine Goes.take (i := 10) (o := ⟨some 149, _, _, _, _, _⟩) (v := ?_) [] rfl (by as_aux_lemma => kernel_rfl) (by as_aux_lemma => kernel_rfl) (by as_aux_lemma => kernel_rfl) (fun _ _ _ h => h) (by as_aux_lemma => kernel_rfl) (fun L u h => h) (Or.inl ⟨by rfl, ?_⟩) hs ?_
  rotate_left
  · intro w hY; obtain ⟨up, hL⟩ := hY; have hX := hL.2.1; clear hL; (try dsimp only at hX); go_simp; try with_reducible rfl
  try simp only [putz]
  refine Goes.take (i := 11) (o := ⟨some 150, _, _, _, _, _⟩) (v := ?_) [] rfl (by as_aux_lemma => kernel_rfl) (by as_aux_lemma => kernel_rfl) (by as_aux_lemma => kernel_rfl) (fun _ _ _ h => h) (by as_aux_lemma => kernel_rfl) (fun L u h => h) (Or.inl ⟨by rfl, ?_⟩) hs ?_
  rotate_left
  · intro w hY; go_simp; try with_reducible rfl
  try simp only [putz]
  refine Goes.take (i := 12) (o := ⟨some 151, _, _, _, _, _⟩) (v := ?_) [] rfl (by as_aux_lemma => kernel_rfl) (by as_aux_lemma => kernel_rfl) (by as_aux_lemma => kernel_rfl) (fun _ _ _ h => h) (by as_aux_lemma => kernel_rfl) (fun L u h => h) (Or.inl ⟨by rfl, ?_⟩) hs ?_
  rotate_left
  · intro w hY; go_simp; try with_reducible rfl
  try simp only [putz]
  refine Goes.take (i := 13) (o := ⟨some 152, _, _, _, _, _⟩) (v := ?_) [] rfl (by as_aux_lemma => kernel_rfl) (by as_aux_lemma => kernel_rfl) (by as_aux_lemma => kernel_rfl) (fun _ _ _ h => h) (by as_aux_lemma => kernel_rfl) (fun L u h => h) (Or.inl ⟨by rfl, ?_⟩) hs ?_
  rotate_left
  · intro w hY; go_simp; try with_reducible rfl
  try simp only [putz]
  refine Goes.take (i := 14) (o := ⟨some 153, _, _, _, _, _⟩) (v := ?_) [] rfl (by as_aux_lemma => kernel_rfl) (by as_aux_lemma => kernel_rfl) (by as_aux_lemma => kernel_rfl) (fun _ _ _ h => h) (by as_aux_lemma => kernel_rfl) (fun L u h => h) (Or.inl ⟨by rfl, ?_⟩) hs ?_
  rotate_left
  · intro w hY; obtain ⟨up, hL⟩ := hY; have hX := hL.2.2; clear hL; (try dsimp only at hX); go_simp; try with_reducible rfl
  try simp only [putz]
  refine Goes.take (i := 15) (o := ⟨some 154, _, _, _, _, _⟩) (v := ?_) [] rfl (by as_aux_lemma => kernel_rfl) (by as_aux_lemma => kernel_rfl) (by as_aux_lemma => kernel_rfl) (fun _ _ _ h => h) (by as_aux_lemma => kernel_rfl) (fun L u h => h) (Or.inl ⟨by rfl, ?_⟩) hs ?_
  rotate_left
  · intro w hY; go_simp; try with_reducible rfl
  try simp only [putz]
  refine Goes.take (i := 16) (o := ⟨some 155, _, _, _, _, _⟩) (v := ?_) [] rfl (by as_aux_lemma => kernel_rfl) (by as_aux_lemma => kernel_rfl) (by as_aux_lemma => kernel_rfl) (fun _ _ _ h => h) (by as_aux_lemma => kernel_rfl) (fun L u h => h) (Or.inl ⟨by rfl, ?_⟩) hs ?_
  rotate_left
  · intro w hY; go_simp; try with_reducible rfl
  try simp only [putz]
  refine Goes.take (i := 17) (o := ⟨some 156, _, _, _, _, _⟩) (v := ?_) [] rfl (by as_aux_lemma => kernel_rfl) (by as_aux_lemma => kernel_rfl) (by as_aux_lemma => kernel_rfl) (fun _ _ _ h => h) (by as_aux_lemma => kernel_rfl) (fun L u h => h) (Or.inl ⟨by rfl, ?_⟩) hs ?_
  rotate_left
  · intro w hY; go_simp; try with_reducible rfl
  try simp only [putz]
  refine Goes.take (i := 18) (o := ⟨some 157, _, _, _, _, _⟩) (v := ?_) [] rfl (by as_aux_lemma => kernel_rfl) (by as_aux_lemma => kernel_rfl) (by as_aux_lemma => kernel_rfl) (fun _ _ _ h => h) (by as_aux_lemma => kernel_rfl) (fun L u h => h) (Or.inl ⟨by rfl, ?_⟩) hs ?_
  rotate_left
  · intro w hY; obtain ⟨up, hL⟩ := hY; have hX := hL.2.1; clear hL; (try dsimp only at hX); go_simp; try with_reducible rfl
  try simp only [putz]
  refine Goes.take (i := 19) (o := ⟨some 158, _, _, _, _, _⟩) (v := ?_) [] rfl (by as_aux_lemma => kernel_rfl) (by as_aux_lemma => kernel_rfl) (by as_aux_lemma => kernel_rfl) (fun _ _ _ h => h) (by as_aux_lemma => kernel_rfl) (fun L u h => h) (Or.inl ⟨by rfl, ?_⟩) hs ?_
  rotate_left
  · intro w hY; go_simp; try with_reducible rfl
  try simp only [putz]
  refine Goes.take (i := 20) (o := ⟨some 159, _, _, _, _, _⟩) (v := ?_) [] rfl (by as_aux_lemma => kernel_rfl) (by as_aux_lemma => kernel_rfl) (by as_aux_lemma => kernel_rfl) (fun _ _ _ h => h) (by as_aux_lemma => kernel_rfl) (fun L u h => h) (Or.inl ⟨by rfl, ?_⟩) hs ?_
  rotate_left
  · intro w hY; obtain ⟨up, hL⟩ := hY; have hX := hL.2.2; clear hL; (try dsimp only at hX); go_simp; try with_reducible rfl
  try simp only [putz]
  refine Goes.take (i := 21) (o := ⟨some 160, _, _, _, _, _⟩) (v := ?_) [] rfl (by as_aux_lemma => kernel_rfl) (by as_aux_lemma => kernel_rfl) (by as_aux_lemma => kernel_rfl) (fun _ _ _ h => h) (by as_aux_lemma => kernel_rfl) (fun L u h => h) (Or.inl ⟨by rfl, ?_⟩) hs ?_
  rotate_left
  · intro w hY; go_simp; try with_reducible rfl
  try simp only [putz]
  refine Goes.take (i := 22) (o := ⟨some 161, _, _, _, _, _⟩) (v := ?_) [] rfl (by as_aux_lemma => kernel_rfl) (by as_aux_lemma => kernel_rfl) (by as_aux_lemma => kernel_rfl) (fun _ _ _ h => h) (by as_aux_lemma => kernel_rfl) (fun L u h => h) (Or.inl ⟨by rfl, ?_⟩) hs ?_
  rotate_left
  · intro w hY; go_simp; try with_reducible rfl
  try simp only [putz]
  refine Goes.one (i := 1) (o := ⟨some 140, _, _, _, _, _⟩) (by as_aux_lemma => kernel_rfl) rfl (fun K hK => ?_)
  go_simp
  with_reducible refine (round_2 _ _ ba).mono ?_
  rintro e' wa ⟨rfl, rfl⟩
  go_wp2_with fail
  refine hK.out _ _ hs ?_
  clear hK K
  try simp only [putz]
  refine Goes.one (i := 3) (o := ⟨some 142, _, _, _, _, _⟩) (by as_aux_lemma => kernel_rfl) rfl (fun K hK => ?_)
  go_simp
  with_reducible refine (round_13 _ _ ba).mono ?_
  rintro e' wb ⟨rfl, rfl⟩
  go_wp2_with fail
  refine hK.out _ _ hs ?_
  clear hK K
  try simp only [putz]
  refine Goes.take (i := 4) (o := ⟨some 143, _, _, _, _, _⟩) (v := ?_) [] rfl (by as_aux_lemma => kernel_rfl) (by as_aux_lemma => kernel_rfl) (by as_aux_lemma => kernel_rfl) (fun _ _ _ h => h) (by as_aux_lemma => kernel_rfl) (fun L u h => h) (Or.inl ⟨by rfl, ?_⟩) hs ?_
  rotate_left
  · intro w hY; go_simp; try with_reducible rfl
  try simp only [putz]
  refine Goes.one (i := 6) (o := ⟨some 145, _, _, _, _, _⟩) (by as_aux_lemma => kernel_rfl) rfl (fun K hK => ?_)
  go_simp
  with_reducible refine (round_22 _ _ ba).mono ?_
  rintro e' wc ⟨rfl, rfl⟩
  go_wp2_with fail
  refine hK.out _ _ hs ?_
  clear hK K
  try simp only [putz]
  refine Goes.take (i := 7) (o := ⟨some 146, _, _, _, _, _⟩) (v := ?_) [] rfl (by as_aux_lemma => kernel_rfl) (by as_aux_lemma => kernel_rfl) (by as_aux_lemma => kernel_rfl) (fun _ _ _ h => h) (by as_aux_lemma => kernel_rfl) (fun L u h => h) (Or.inl ⟨by rfl, ?_⟩) hs ?_
  rotate_left
  · intro w hY; go_simp; try with_reducible rfl
  try simp only [putz]
  refine Goes.take (i := 23) (o := ⟨some 162, _, _, _, _, _⟩) (v := ?_) [] rfl (by as_aux_lemma => kernel_rfl) (by as_aux_lemma => kernel_rfl) (by as_aux_lemma => kernel_rfl) (fun _ _ _ h => h) (by as_aux_lemma => kernel_rfl) (fun L u h => h) (Or.inl ⟨by rfl, ?_⟩) hs ?_
  rotate_left
  · intro w hY; go_simp; try with_reducible rfl
  try simp only [putz]
  refine Goes.take (i := 24) (o := ⟨some 17, _, _, _, _, _⟩) (v := ?_) [] rfl (by as_aux_lemma => kernel_rfl) (by as_aux_lemma => kernel_rfl) (by as_aux_lemma => kernel_rfl) (fun _ _ _ h => h) (by as_aux_lemma => kernel_rfl) (fun L u h => h) (Or.inl ⟨by rfl, ?_⟩) hs ?_
  rotate_left
  · intro w hY; go_simp; try with_reducible rfl
  try simp only [putz]
  refine Goes.done (by as_aux_lemma => kernel_rfl) ?_ _
  refine NoPanic.normal ?_
  rw [HT.out]
  exact hQ.out _ _ _ _ _ _ _ _ _ _ _ _ _ _ _ _ _ _ _ _ _ _ _ _
end Go.Proofs.YtgmnpkgnedngjaaDoor
namespace Go.Proofs.YtgmnpkgnedngjaaDoor
open Go.RowKit
set_option linter.unusedVariables false
set_option linter.unusedSimpArgs false

/-- and the eight numbers of a round in a box of their own -/
structure Rc (w : World) (h : List Nat) (b : List UInt8) (gb o gt g12 : Nat) (l : List Nat) (w' : World) : Prop where
 rb : Rb w h b gb o gt (wof b) w'
 e : Us w' g12 64 l
 lt : w.heap.size + 1 + 1 < g12
theorem Rc.drew {w w' : World} {h : List Nat} {b : List UInt8} {gb o gt g12 : Nat} {l : List Nat} (H : Rc w h b gb o gt g12 l w') : Rc w h b gb o gt g12 l w'.drew := ⟨H.rb.drew, H.e, H.lt⟩
theorem Rb.on {w w' w2 : World} {h : List Nat} {b : List UInt8} {gb o gt : Nat} {l : List Nat} (H : Rb w h b gb o gt l w') (hb : Below w'.heap.size w' w2) : Rb w h b gb o gt l w2 :=
 ⟨H.below.trans (hb.mono (Nat.le_of_lt H.n.lt)), H.n.on hb, H.z.on hb, H.l.on hb, H.b, H.hb, H.k⟩
theorem Rc.new {w wr : World} {h : List Nat} {b : List UInt8} {gb o gt : Nat} (H : Rb w h b gb o gt (wof b) wr) : ∃ w2, (wr.alloc (.cells #[.int .u32 0, .int .u32 0, .int .u32 0, .int .u32 0, .int .u32 0, .int .u32 0, .int .u32 0, .int .u32 0] 64)).setRow wr.heap.size (dv h).toArray = w2 ∧ Hid (Rc w h b gb o gt wr.heap.size h w2) := by
 refine ⟨_, rfl, ?_⟩
 rw [World.setRow_alloc_new]
 exact hid ⟨H.on ((Below.refl _ _).alloc (Nat.le_refl _) _), heap_alloc_new _ _, H.l.lt⟩
theorem Rc.row {w w' : World} {h : List Nat} {b : List UInt8} {gb o gt g12 : Nat} {l m : List Nat} (H : Rc w h b gb o gt g12 l w') : Rc w h b gb o gt g12 m (w'.setRow g12 (dv m).toArray) := by
 have hl := H.lt
 exact ⟨⟨below_setRow H.rb.below (by omega) _, H.rb.n.rowOther _ (by omega), H.rb.z.rowOther _ (by omega), H.rb.l.rowOther _ (by omega), H.rb.b, H.rb.hb, H.rb.k⟩, H.e.row, hl⟩
theorem Rc.set {w w' : World} {h : List Nat} {b : List UInt8} {gb o gt g12 : Nat} {l : List Nat} (H : Rc w h b gb o gt g12 l w') (k v : Nat) : Rc w h b gb o gt g12 (l.set k v) (w'.setCell ⟨g12, k, none⟩ (.int .u32 (v : Int))) := by
 have hl := H.lt
 exact ⟨⟨H.rb.below.setCell (by simp; omega) _, H.rb.n.other _ (by omega), H.rb.z.other _ (by omega), H.rb.l.other _ (by omega), H.rb.b, H.rb.hb, H.rb.k⟩, H.e.set k v, hl⟩
theorem i56 : (Tryd.prog.info? 64).map (·.size) = some 8 := by kernel_rfl
theorem hi56 (l : List Nat) (h : l.length = 8) : Hid ((Tryd.prog.info? 64).map (·.size) = some (dv l).toArray.size) := by rw [dv_size, h]; exact hid i56
theorem ho8 (l : List Nat) (h : l.length = 8) : Hid ((#[.int .u32 0, .int .u32 0, .int .u32 0, .int .u32 0, .int .u32 0, .int .u32 0, .int .u32 0, .int .u32 0] : Array Value).size = (dv l).toArray.size) := hid (by rw [dv_size, h]; rfl)
set_option maxRecDepth 100000 in
set_option maxHeartbeats 4000000 in
theorem block_any (h : List Nat) (b : List UInt8) (gb o gt cb : Nat) (w : World) (hl : h.length = 8) (hs : Sm h) (hb : b.length = 64) (hbs : ∀ j, (hj : j < b.length) → w.cell? ⟨gb, o + j, none⟩ = some (.int .u8 ((b[j].toNat : Nat) : Int))) (hg : gb < w.heap.size) (hk : Us w gt 63 kk) :
  Calls Tryd.prog 41 #[.agg (dv h).toArray, .slice (some ⟨gb, o, none⟩) 64 cb, .slice (some ⟨gt, 0, none⟩) 64 64] w fun e w' => e = .returned (.agg (dv (comp h b)).toArray) ∧ Below w.heap.size w w' := by
 have HT := Rb.init w h b gb o gt hbs hg hk
 have HB := hid hb
 have HL := hid hl
 have HSm := hid hs
 clear hl hs hb hbs hg hk
 go_enter Tryd.func41, Tryd.ntmps41
 go_wp2_with fail
 generalize ((w.alloc (.cells (dv h).toArray 64)).alloc (.cells #[.int .u32 0, .int .u32 0, .int .u32 0, .int .u32 0, .int .u32 0, .int .u32 0, .int .u32 0, .int .u32 0] 64)).alloc (.cells #[.int .u32 0, .int .u32 0, .int .u32 0, .int .u32 0, .int .u32 0, .int .u32 0, .int .u32 0, .int .u32 0, .int .u32 0, .int .u32 0, .int .u32 0, .int .u32 0, .int .u32 0, .int .u32 0, .int .u32 0, .int .u32 0, .int .u32 0, .int .u32 0, .int .u32 0, .int .u32 0, .int .u32 0, .int .u32 0, .int .u32 0, .int .u32 0, .int .u32 0, .int .u32 0, .int .u32 0, .int .u32 0, .int .u32 0, .int .u32 0, .int .u32 0, .int .u32 0, .int .u32 0, .int .u32 0, .int .u32 0, .int .u32 0, .int .u32 0, .int .u32 0, .int .u32 0, .int .u32 0, .int .u32 0, .int .u32 0, .int .u32 0, .int .u32 0, .int .u32 0, .int .u32 0, .int .u32 0, .int .u32 0, .int .u32 0, .int .u32 0, .int .u32 0, .int .u32 0, .int .u32 0, .int .u32 0, .int .u32 0, .int .u32 0, .int .u32 0, .int .u32 0, .int .u32 0, .int .u32 0, .int .u32 0, .int .u32 0, .int .u32 0, .int .u32 0] 77) = w0 at *
 go_loopw [8] (fun i wr => ∃ (k : Nat) (l : List Nat), k ≤ 16 ∧ i = .int .i64 k ∧ Hid (Rb w h b gb o gt l wr) ∧ Hid (l.length = 64) ∧ Hid (∀ j, j < 64 → at' l j = at' (own b k) j)) (fun i _ => 16 - (intOf i).toNat)
 case atStart => exact ⟨0, List.replicate 64 0, by omega, rfl, HT, hid rfl, hid (fun j hj => by rw [at_none (own b 0) j (Nat.zero_le _), at_lt (by simpa using hj), List.getElem_replicate])⟩
 case round =>
  clear HT
  obtain ⟨k, l, hk, rfl, HT, HLl, HA⟩ := hrel
  by_cases hlt : k < 16
  ·obtain ⟨q0, hq0⟩ : ∃ q, q = 4 * k := ⟨_, rfl⟩
   obtain ⟨q1, hq1⟩ : ∃ q, q = 4 * k + 1 := ⟨_, rfl⟩
   obtain ⟨q2, hq2⟩ : ∃ q, q = 4 * k + 2 := ⟨_, rfl⟩
   obtain ⟨q3, hq3⟩ : ∃ q, q = 4 * k + 3 := ⟨_, rfl⟩
   have i0 : 4 * (k : Int) = (q0 : Int) := by omega
   have i1 : (q0 : Int) + 1 = (q1 : Int) := by omega
   have i2 : (q0 : Int) + 2 = (q2 : Int) := by omega
   have i3 : (q0 : Int) + 3 = (q3 : Int) := by omega
   have l0 : q0 < 64 := by omega
   have l1 : q1 < 64 := by omega
   have l2 : q2 < 64 := by omega
   have l3 : q3 < 64 := by omega
   have H4 := hid (tell4 b k (by have := HB.out; omega))
   have c0 := HT.out.bytes (4 * k) (by have := HB.out; omega)
   have c1 := HT.out.bytes (4 * k + 1) (by have := HB.out; omega)
   have c2 := HT.out.bytes (4 * k + 2) (by have := HB.out; omega)
   have c3 := HT.out.bytes (4 * k + 3) (by have := HB.out; omega)
   have cw := HT.out.l.cell k (by have := HLl.out; omega)
   have cf := HT.out.l.frozen k
   have b0 := (b[4 * k]'(by have := HB.out; omega)).toNat_lt
   have b1 := (b[4 * k + 1]'(by have := HB.out; omega)).toNat_lt
   have b2 := (b[4 * k + 2]'(by have := HB.out; omega)).toNat_lt
   have b3 := (b[4 * k + 3]'(by have := HB.out; omega)).toNat_lt
   generalize (b[4 * k]'(by have := HB.out; omega)).toNat = x0 at *
   generalize (b[4 * k + 1]'(by have := HB.out; omega)).toNat = x1 at *
   generalize (b[4 * k + 2]'(by have := HB.out; omega)).toNat = x2 at *
   generalize (b[4 * k + 3]'(by have := HB.out; omega)).toNat = x3 at *
   rw [← hq0] at c0
   rw [← hq1] at c1
   rw [← hq2] at c2
   rw [← hq3] at c3
   have HX := hid (four_eq x0 x1 x2 x3 b0 b1 b2 b3)
   rw [← H4.out] at HX
   clear b0 b1 b2 b3 hq0 hq1 hq2 hq3
   go_wp2_with fail
   go_region
   go_wp2
   refine ⟨⟨k + 1, l.set k (tell ((b.drop (4 * k)).take 4)), by omega, by go_num, ?_, hid (by rw [List.length_set]; exact HLl.out), hid ?_⟩, by simp [intOf]; omega⟩
   ·have := (HT.out.set k (tell ((b.drop (4 * k)).take 4))).drew
    rw [← HX.out] at this
    exact hid this
   ·intro j hj
    rw [at_set _ _ _ _ (by have := HLl.out; omega), HA.out j hj, own, at_end, own_length]
  ·obtain rfl : k = 16 := by omega
   have HA2 := hid (p := ∀ j, j < 64 → at' l j = at' (ext (own b 16) 0) j) (fun j hj => HA.out j hj)
   clear HA
   go_wp2_with fail
   go_loopw [9] (fun i wr => ∃ (k : Nat) (l : List Nat), 16 ≤ k ∧ k ≤ 64 ∧ i = .int .i64 k ∧ Hid (Rb w h b gb o gt l wr) ∧ Hid (l.length = 64) ∧ Hid (∀ j, j < 64 → at' l j = at' (ext (own b 16) (k - 16)) j)) (fun i _ => 64 - (intOf i).toNat)
   case atStart => exact ⟨16, l, by omega, by omega, rfl, HT, HLl, HA2⟩
   case round =>
    clear HT HLl HA2
    obtain ⟨k, l, hk0, hk, rfl, HT, HLl, HA⟩ := hrel
    by_cases hlt : k < 64
    ·have HF := rb_facts HT.out HLl.out HA.out hk0 hlt
     have HK := hid hk0
     have HK2 := hid hk
     clear hk0 hk
     obtain ⟨p15, p16, p7, p2, x, v16, v7, y, zx, zy, hp15, hp16, hp7, hp2, l15, l2, c15, c2, b15, b2, hzx, hzy, w16, w7, i16, i7, ik, j16, j7, jk, hS, HC, HKC, HV⟩ := HF
     go_wp2_with fail
     refine rb11_ok hp16 hp7 b15 b2 hzx hzy w16 w7 i16 i7 ik j16 j7 jk hS HC.out.1 HC.out.2 HKC HV _ _ _ _ _ _ _ _ _ _ _ _ _ _ _ _ _ _ _ _ _ _ _ _ _ _ _ _ _ _ _ _ _ _ _ _ _ _ _ _ _ _ _ _ _ _ _ _ _ _ _ _ _ _ _ _ _ _ _ _ _ _ _ _ _ _ _ _ _ _ _ _ _ _ _ _ _ _ _ _ _ _ _ _ _ _ _ _ _ _ _ _ _ _ _ _ _ _ _ _ _ _ _ _ _ _ _ _ _ _ _ _ _ _ _ _ _ _ _ _ _ _ _ _ _ _ _ _ _ _ _ _ _ _ _ _ _ _ _ _ _ _ _ _ _ _ _ _ _ _ _ _ _ _ _ _ _ _ _ _ _ _ _ _ _ _ _ _ _ _ _ _ _ _ _ _ _ _ _ _ _ _ _ _ _ _ _ _ _ _ _ (hid ?_)
     intro d70 d71 d72 d73 d74 d75 d76 d77 d78 d79 d80 d81 d82 d83 d84 d85 d86 d87 d88 d89 d90 d91 d92 d93 d94 d95 d96 d97 d98
     have HN := hid (HT.out.drew.set k (nxw (ext (own b 16) (k - 16))))
     generalize wr.drew.setCell ⟨w.heap.size + 1 + 1, k, none⟩ (.int .u32 ((nxw (ext (own b 16) (k - 16)) : Nat) : Int)) = wn at *
     go_wp2
     have h0 := HK.out
     refine ⟨⟨k + 1, l.set k (nxw (ext (own b 16) (k - 16))), by omega, by omega, by go_num, HN, hid (by rw [List.length_set]; exact HLl.out), hid ?_⟩, by simp [intOf]; omega⟩
     intro j hj
     rw [at_set _ _ _ _ (by have := HLl.out; omega), show k + 1 - 16 = (k - 16) + 1 by omega, ext, at_end, ext_length, own_length, show 16 + (k - 16) = k by omega]
     by_cases h : j = k
     ·rw [if_pos h, if_pos h]
     ·rw [if_neg h, if_neg h, HA.out j hj]
    ·obtain rfl : k = 64 := by omega
     have hlw : l = wof b := by
      refine eq_of_at (by rw [HLl.out, wof_length]) (fun j hj => ?_)
      rw [HA.out j (by have := HLl.out; omega)]; rfl
     have HT2 : Hid (Rb w h b gb o gt (wof b) wr) := hid (hlw ▸ HT.out)
     clear HA HLl HT hlw
     have HI := hi56 h HL.out
     have HO := ho8 h HL.out
     have HDA := dv_all h
     obtain ⟨w3, hw3, HT3⟩ := Rc.new HT2.out
     have HZN := HT2.out.n
     unfold Us at HZN
     have HZN := hid HZN
     go_upto_region 12 with fail
     go_wp2_with (first | (refine wpList_load_row rfl 64 (.tmp 3) rfl w.heap.size rfl 64 (dv h).toArray (0, 0) _ HZN.out Tryd.underlying64 rfl HI.out ?_) | (refine wpList_store_row rfl 64 (.tmp 12) (.tmp 99) rfl wr.heap.size (dv h).toArray rfl rfl 64 _ (heap_alloc_new _ _) HI.out HO.out HDA ?_; rw [hw3]))
     clear hw3 HI HO HDA HZN HT2
     generalize wr.heap.size = g12 at *
     go_loopw [13] (fun i wr => ∃ (k : Nat) (oc : Oct), k ≤ 64 ∧ i = .int .i64 k ∧ Hid oc.Sm ∧ Hid (oc = rnds (oct h) (wof b) k) ∧ Hid (Rc w h b gb o gt g12 oc.l wr)) (fun i _ => 64 - (intOf i).toNat)
     case atStart => exact ⟨0, oct h, by omega, rfl, hid (oct_sm HSm.out), hid rfl, hid (by rw [oct_l HL.out]; exact HT3.out)⟩
     case round =>
      clear HT3
      obtain ⟨k, oc, hk, rfl, HO, HR, HT⟩ := hrel
      have x0 : wr.cell? ⟨g12, 0, none⟩ = some (.int .u32 (oc.a : Nat)) := HT.out.e.cell 0 (by decide : (0 : Nat) < 8)
      have x1 : wr.cell? ⟨g12, 1, none⟩ = some (.int .u32 (oc.b : Nat)) := HT.out.e.cell 1 (by decide : (1 : Nat) < 8)
      have x2 : wr.cell? ⟨g12, 2, none⟩ = some (.int .u32 (oc.c : Nat)) := HT.out.e.cell 2 (by decide : (2 : Nat) < 8)
      have x3 : wr.cell? ⟨g12, 3, none⟩ = some (.int .u32 (oc.d : Nat)) := HT.out.e.cell 3 (by decide : (3 : Nat) < 8)
      have x4 : wr.cell? ⟨g12, 4, none⟩ = some (.int .u32 (oc.e : Nat)) := HT.out.e.cell 4 (by decide : (4 : Nat) < 8)
      have x5 : wr.cell? ⟨g12, 5, none⟩ = some (.int .u32 (oc.f : Nat)) := HT.out.e.cell 5 (by decide : (5 : Nat) < 8)
      have x6 : wr.cell? ⟨g12, 6, none⟩ = some (.int .u32 (oc.g : Nat)) := HT.out.e.cell 6 (by decide : (6 : Nat) < 8)
      have x7 : wr.cell? ⟨g12, 7, none⟩ = some (.int .u32 (oc.h : Nat)) := HT.out.e.cell 7 (by decide : (7 : Nat) < 8)
      by_cases hlt : k < 64
      ·have xk := HT.out.rb.kt.cell k (by rw [kk_length]; exact hlt)
       have xw := HT.out.rb.l.cell k (by rw [wof_length]; exact hlt)
       go_wp2_with fail
       refine rb18_ok (w := w) (g12 := g12) (gt := gt) (tv := tt oc (at' kk k) (at' (wof b) k)) HO.out.e (by omega) (by omega) (wi_eq k hlt) ⟨x7, x5, x6, xk, xw⟩ (hid (t_eq2 oc.e oc.f oc.g oc.h (at' kk k) (at' (wof b) k) HO.out.e HO.out.f HO.out.g)) _ _ _ _ _ _ _ _ _ _ _ _ _ _ _ _ _ _ _ _ _ _ _ _ _ _ _ _ _ _ _ _ _ _ _ _ _ _ _ _ _ _ _ _ _ _ _ _ _ _ _ _ _ _ _ _ _ _ _ _ _ _ _ _ _ _ _ _ _ _ _ _ _ _ _ _ _ _ _ _ _ _ _ _ _ _ _ _ _ _ _ _ _ _ _ _ _ _ _ _ _ _ _ _ _ _ _ _ _ _ _ _ _ _ _ _ _ _ _ _ _ _ _ _ _ _ _ _ _ _ _ _ _ _ _ _ _ _ _ _ _ _ _ _ _ _ _ _ _ _ _ _ _ _ _ _ _ _ _ _ _ _ _ _ _ _ _ _ _ _ _ _ _ _ _ _ _ _ _ _ _ _ _ _ _ _ _ _ _ _ (hid ?_)
       intro d108 d109 d110 d111 d112 d113 d114 d115 d116 d117 d118 d119 d120 d121 d122 d123 d124 d125 d126 d127 d128 d129 d130 d131 d132 d133 d134 d135 d136 d137 d138
       have HT2 := hid HT.out.drew
       have y1 : wr.drew.cell? ⟨g12, 1, none⟩ = some (.int .u32 (oc.b : Nat)) := x1
       have y2 : wr.drew.cell? ⟨g12, 2, none⟩ = some (.int .u32 (oc.c : Nat)) := x2
       have y3 : wr.drew.cell? ⟨g12, 3, none⟩ = some (.int .u32 (oc.d : Nat)) := x3
       have y5 : wr.drew.cell? ⟨g12, 5, none⟩ = some (.int .u32 (oc.f : Nat)) := x5
       have y6 : wr.drew.cell? ⟨g12, 6, none⟩ = some (.int .u32 (oc.g : Nat)) := x6
       clear x0 x1 x2 x3 x4 x5 x6 x7 xk xw HT
       generalize wr.drew = wd at *
       go_wp2_with fail
       refine rb19_ok (g12 := g12) (uv := uu oc) HO.out.a ⟨y1, y2⟩ (hid (u_eq2 oc.a oc.b oc.c HO.out.a HO.out.b HO.out.c)) _ _ _ _ _ _ _ _ _ _ _ _ _ _ _ _ _ _ _ _ _ _ _ _ _ _ _ _ _ _ _ _ _ _ _ _ _ _ _ _ _ _ _ _ _ _ _ _ _ _ _ _ _ _ _ _ _ _ _ _ _ _ _ _ _ _ _ _ _ _ _ _ _ _ _ _ _ _ _ _ _ _ _ _ _ _ _ _ _ _ _ _ _ _ _ _ _ _ _ _ _ _ _ _ _ _ _ _ _ _ _ _ _ _ _ _ _ _ _ _ _ _ _ _ _ _ _ _ _ _ _ _ _ _ _ _ _ _ _ _ _ _ _ _ _ _ _ _ _ _ _ _ _ _ _ _ _ _ _ _ _ _ _ _ _ _ _ _ _ _ _ _ _ _ _ _ _ _ _ _ _ _ _ _ _ _ _ _ _ _ _ _ _ (hid ?_)
       intro d139 d140 d141 d142 d143 d144 d145 d146 d147 d148 d149 d150 d151 d152 d153 d154 d155 d156 d157 d158 d159 d160 d161 d162
       have HT3 := hid HT2.out.drew
       have z1 : wd.drew.cell? ⟨g12, 1, none⟩ = some (.int .u32 (oc.b : Nat)) := y1
       have z2 : wd.drew.cell? ⟨g12, 2, none⟩ = some (.int .u32 (oc.c : Nat)) := y2
       have z3 : wd.drew.cell? ⟨g12, 3, none⟩ = some (.int .u32 (oc.d : Nat)) := y3
       have z5 : wd.drew.cell? ⟨g12, 5, none⟩ = some (.int .u32 (oc.f : Nat)) := y5
       have z6 : wd.drew.cell? ⟨g12, 6, none⟩ = some (.int .u32 (oc.g : Nat)) := y6
       clear y1 y2 y3 y5 y6 HT2
       generalize wd.drew = we at *
       have HRS := hid (p := rnd oc (at' kk k) (at' (wof b) k) = rnds (oct h) (wof b) (k + 1)) (by rw [rnds, ← HR.out])
       have HOS := hid (rnd_sm HO.out (at' kk k) (at' (wof b) k))
       obtain ⟨na, hna⟩ : ∃ na, na = (tt oc (at' kk k) (at' (wof b) k) + uu oc) % 4294967296 := ⟨_, rfl⟩
       obtain ⟨ne, hne⟩ : ∃ ne, ne = (oc.d + tt oc (at' kk k) (at' (wof b) k)) % 4294967296 := ⟨_, rfl⟩
       have hl2 : (rnd oc (at' kk k) (at' (wof b) k)).l = [na, oc.a, oc.b, oc.c, ne, oc.e, oc.f, oc.g] := by rw [hna, hne]; rfl
       have HN := hid (HT3.out.row (m := [na, oc.a, oc.b, oc.c, ne, oc.e, oc.f, oc.g]))
       have hta : IntKind.u32.wrap (((tt oc (at' kk k) (at' (wof b) k) : Nat) : Int) + ((uu oc : Nat) : Int)) = (na : Int) := by rw [IntKind.wrap_u32]; omega
       have htd : IntKind.u32.wrap ((oc.d : Int) + ((tt oc (at' kk k) (at' (wof b) k) : Nat) : Int)) = (ne : Int) := by rw [IntKind.wrap_u32]; omega
       have HL2 := hid hl2
       clear hna hne hl2
       have HZE := HT3.out.e
       unfold Us at HZE
       have HZE := hid HZE
       have HI := hi56 [na, oc.a, oc.b, oc.c, ne, oc.e, oc.f, oc.g] rfl
       have HO8 : Hid ((dv oc.l).toArray.size = (dv [na, oc.a, oc.b, oc.c, ne, oc.e, oc.f, oc.g]).toArray.size) := hid rfl
       go_wp2_with (refine wpList_store_row rfl 64 (.tmp 12) (.tmp 180) rfl g12 (dv [na, oc.a, oc.b, oc.c, ne, oc.e, oc.f, oc.g]).toArray rfl rfl 64 _ HZE.out HI.out HO8.out (dv_all _) ?_)
       refine ⟨⟨k + 1, rnd oc (at' kk k) (at' (wof b) k), by omega, by go_num, HOS, HRS, hid (by rw [HL2.out]; exact HN.out)⟩, by simp [intOf]; omega⟩
      ·obtain rfl : k = 64 := by omega
       clear x0 x1 x2 x3 x4 x5 x6 x7
       have HR2 := hid (p := oc.l = (rnds (oct h) (wof b) 64).l) (by rw [← HR.out])
       have HRL := hid (show oc.l.length = 8 from rfl)
       clear HR
       go_wp2_with fail
       generalize oc.l = r at *
       go_loopw [18] (fun i wr => ∃ (k : Nat) (m : List Nat), k ≤ 8 ∧ i = .int .i64 k ∧ Hid (Rc w h b gb o gt g12 m wr) ∧ Hid (m.length = 8) ∧ Hid (∀ j, j < 8 → at' m j = if j < k then (at' h j + at' r j) % 4294967296 else at' r j)) (fun i _ => 8 - (intOf i).toNat)
       case atStart => exact ⟨0, r, by omega, rfl, HT, HRL, hid (fun j _ => by rw [if_neg (Nat.not_lt_zero _)])⟩
       case round =>
        clear HT
        obtain ⟨k, m, hk, rfl, HT, HM, HA⟩ := hrel
        by_cases hlt : k < 8
        ·have hcl := HT.out.e.cell k (by have := HM.out; omega)
         have hfr := HT.out.e.frozen k
         have hch := HT.out.rb.n.cell k (by have := HL.out; omega)
         rw [HA.out k hlt, if_neg (Nat.lt_irrefl _)] at hcl
         have HVV := hid (p := (((at' r k : Nat) : Int) + ((at' h k : Nat) : Int)) % 4294967296 = (((at' h k + at' r k) % 4294967296 : Nat) : Int)) (by omega)
         generalize hz : (at' h k + at' r k) % 4294967296 = z at HVV
         have HZ := hid hz
         clear hz
         go_wp2_with fail
         go_region
         go_wp2
         refine ⟨⟨k + 1, m.set k z, by omega, by go_num, ?_, hid (by rw [List.length_set]; exact HM.out), hid ?_⟩, by simp [intOf]; omega⟩
         ·have := (HT.out.set k z).drew
          rw [← HVV.out] at this
          exact hid this
         ·intro j hj
          rw [at_set _ _ _ _ (by have := HM.out; omega), HA.out j hj]
          by_cases h : j = k
          ·subst h; rw [if_pos rfl, if_pos (by omega), HZ.out]
          ·rw [if_neg h]
           by_cases h2 : j < k
           ·rw [if_pos h2, if_pos (by omega)]
           ·rw [if_neg h2, if_neg (by omega)]
        ·obtain rfl : k = 8 := by omega
         have hme : m = comp h b := by
          refine eq_of_at (by rw [HM.out, comp_length _ _ HL.out]) (fun j hj => ?_)
          have hj8 : j < 8 := by have := HM.out; omega
          rw [HA.out j hj8, if_pos hj8, comp, at_addl _ _ HL.out rfl j hj8, HR2.out]
         have HT2 : Hid (Rc w h b gb o gt g12 (comp h b) wr) := hid (hme ▸ HT.out)
         have HCL := hid (comp_length h b HL.out)
         clear HT HM HA hme
         generalize hr : comp h b = q at *
         have HRR := hid hr
         clear hr
         have HI := hi56 q HCL.out
         have HO8 : Hid ((dv (List.replicate 8 0)).toArray.size = (dv q).toArray.size) := hid (by rw [dv_size, dv_size, HCL.out, List.length_replicate])
         have HZ := hid (HT2.out.rb.z.row (m := q))
         have HBW := hid (p := Below w.heap.size w (wr.setRow (w.heap.size + 1) (dv q).toArray)) (below_setRow HT2.out.rb.below (Nat.le_succ _) _)
         go_upto_region 25 with fail
         have HDA := dv_all q
         have HZL := HT2.out.e
         have HZZ := HT2.out.rb.z
         unfold Us at HZL HZZ
         have HZL := hid HZL
         have HZZ := hid HZZ
         go_wp2_with (first | (refine wpList_load_row rfl 64 (.tmp 12) rfl g12 rfl 64 (dv q).toArray (0, 0) _ HZL.out Tryd.underlying64 rfl HI.out ?_) | (refine wpList_store_row rfl 64 (.tmp 6) (.tmp 194) rfl (w.heap.size + 1) (dv q).toArray rfl rfl 64 _ HZZ.out HI.out HO8.out HDA ?_))
         exact bodyPost_ret (v := .agg (dv q).toArray) (results_cell_row (p := 6) (ty := 64) Tryd.results41 _ _ (w.heap.size + 1) 64 (dv q).toArray (0, 0) _ rfl HZ.out Tryd.underlying64 rfl HI.out) rfl ⟨by rw [HRR.out], HBW.out⟩
end Go.Proofs.YtgmnpkgnedngjaaDoor
