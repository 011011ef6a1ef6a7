/-
  shas.takeIn, walked: a block is taken in. Condition: the library's table holds what its text lays.
-/
import Derived.Test.YtbloejlebikecaaDoorTk6
import Derived.Deep.WholeRow
import Derived.BigQuiet
namespace Go.Proofs.YtbloejlebikecaaDoor
open Go.RowKit
set_option linter.unusedVariables false

theorem i57 : (Tryd.prog.info? 65).map (·.size) = some 8 := by kernel_rfl
theorem i59 : (Tryd.prog.info? 67).map (·.size) = some 64 := by kernel_rfl
theorem bvs_size (l : List UInt8) : (bvs l).toArray.size = l.length := by simp [bvs]
theorem bvs_all (l : List UInt8) : (bvs l).toArray.all (·.oneCell') = true := all_oneCell_toArray (bvs_one l)
theorem hi59 (b : List UInt8) (h : b.length = 64) : Hid ((Tryd.prog.info? 67).map (·.size) = some (bvs b).toArray.size) := by rw [bvs_size, h]; exact hid i59
theorem hi57 (l : List Nat) (h : l.length = 8) : Hid ((Tryd.prog.info? 65).map (·.size) = some (dv l).toArray.size) := by rw [dv_size, h]; exact hid i57
theorem Us.rowOther {w : World} {g g' : Nat} {t : TypeId} {l : List Nat} (h : Us w g t l) (cs : Array Value) (hne : g ≠ g') : Us (w.setRow g' cs) g t l := (setRow_other w g' g cs hne).trans h
theorem Kt.drew {w : World} (h : Kt w) : Kt w.drew := h
theorem Kt.setOther {w : World} (h : Kt w) {g i : Nat} (v : Value) (hg : 0 ≠ g) : Kt (w.setCell ⟨g, i, none⟩ v) := fun j hj => (World.cell?_setCell_other _ _ _ _ (by intro e; injection e with e1; exact hg e1.symm)).trans (h j hj)
/-- what stands while a block is taken in: n's box, the answer's, the block's numbers, K -/
structure Tkc (w : World) (g3 : Nat) (l : List Nat) (b : List UInt8) (w' : World) : Prop where
  below : Below w.heap.size w w'
  n : Us w' w.heap.size 65 l
  z : Us w' (w.heap.size + 1 + 1) 65 (List.replicate 8 0)
  x : Us w' g3 74 (wof b)
  k : Kt w'
  lt : w.heap.size + 1 + 1 < g3
  k3 : 0 < w.heap.size
theorem Tkc.on {w w' w2 : World} {g3 : Nat} {l : List Nat} {b : List UInt8} (h : Tkc w g3 l b w') (hb : Below w'.heap.size w' w2) : Tkc w g3 l b w2 :=
  ⟨h.below.trans (hb.mono (Nat.le_of_lt h.n.lt)), h.n.on hb, h.z.on hb, h.x.on hb, h.k.on hb, h.lt, h.k3⟩
theorem Tkc.alloc {w w' : World} {g3 : Nat} {l : List Nat} {b : List UInt8} (h : Tkc w g3 l b w') (o : Obj) : Tkc w g3 l b (w'.alloc o) := h.on ((Below.refl _ _).alloc (Nat.le_refl _) o)
theorem Tkc.drew {w w' : World} {g3 : Nat} {l : List Nat} {b : List UInt8} (h : Tkc w g3 l b w') : Tkc w g3 l b w'.drew := ⟨h.below.drew, h.n, h.z, h.x, h.k, h.lt, h.k3⟩
theorem Tkc.drewN {w w' : World} {g3 : Nat} {l : List Nat} {b : List UInt8} (h : Tkc w g3 l b w') (n : Nat) : Tkc w g3 l b (w'.drewN n) := ⟨h.below.trans ⟨rfl, rfl, rfl, Nat.le_refl _, fun _ _ => rfl⟩, h.n, h.z, h.x, h.k, h.lt, h.k3⟩
theorem Tkc.set {w w' : World} {g3 : Nat} {l : List Nat} {b : List UInt8} (h : Tkc w g3 l b w') (k v : Nat) : Tkc w g3 (l.set k v) b (w'.setCell ⟨w.heap.size, k, none⟩ (.int .u32 (v : Int))) :=
  ⟨h.below.setCell (Nat.le_refl _) _, h.n.set k v, h.z.other _ (by omega), h.x.other _ (by have := h.lt; omega), h.k.setOther _ (by have := h.k3; omega), h.lt, h.k3⟩
theorem take_init (w : World) (l : List Nat) (b : List UInt8) : Hid (Us (((w.alloc (.cells (dv l).toArray 65)).alloc (.cells (bvs b).toArray 67)).alloc (.cells #[.int .u32 0, .int .u32 0, .int .u32 0, .int .u32 0, .int .u32 0, .int .u32 0, .int .u32 0, .int .u32 0] 65)) w.heap.size 65 l) ∧
    Hid (Bt (((w.alloc (.cells (dv l).toArray 65)).alloc (.cells (bvs b).toArray 67)).alloc (.cells #[.int .u32 0, .int .u32 0, .int .u32 0, .int .u32 0, .int .u32 0, .int .u32 0, .int .u32 0, .int .u32 0] 65)) (w.heap.size + 1) 67 b) ∧
    Hid (Us (((w.alloc (.cells (dv l).toArray 65)).alloc (.cells (bvs b).toArray 67)).alloc (.cells #[.int .u32 0, .int .u32 0, .int .u32 0, .int .u32 0, .int .u32 0, .int .u32 0, .int .u32 0, .int .u32 0] 65)) (w.heap.size + 1 + 1) 65 (List.replicate 8 0)) ∧
    Hid (Below w.heap.size w (((w.alloc (.cells (dv l).toArray 65)).alloc (.cells (bvs b).toArray 67)).alloc (.cells #[.int .u32 0, .int .u32 0, .int .u32 0, .int .u32 0, .int .u32 0, .int .u32 0, .int .u32 0, .int .u32 0] 65))) := by
  have s1 : ∀ (w : World) (o : Obj), (w.alloc o).heap.size = w.heap.size + 1 := fun w o => Array.size_push _
  refine ⟨hid (Us.alloc (Us.alloc (heap_alloc_new _ _) _) _), hid (Bt.alloc ?_ _), hid ?_, hid ((((Below.refl _ _).alloc (Nat.le_refl _) _).alloc (by rw [s1]; omega) _).alloc (by rw [s1, s1]; omega) _)⟩
  · rw [← s1 w (.cells (dv l).toArray 65)]; exact heap_alloc_new _ _
  · rw [← s1 w (.cells (dv l).toArray 65), ← s1 _ (.cells (bvs b).toArray 67)]; exact heap_alloc_new _ _
/-- the block's numbers in a box of their own -/
theorem take_box {w w1 : World} {l : List Nat} {b : List UInt8} (h1 : Us w1 w.heap.size 65 l) (h2 : Us w1 (w.heap.size + 1 + 1) 65 (List.replicate 8 0)) (h3 : Below w.heap.size w w1) (hK : Kt w) :
    Hid (Tkc w w1.heap.size l b ((w1.alloc (.cells #[.int .u32 0, .int .u32 0, .int .u32 0, .int .u32 0, .int .u32 0, .int .u32 0, .int .u32 0, .int .u32 0, .int .u32 0, .int .u32 0, .int .u32 0, .int .u32 0, .int .u32 0, .int .u32 0, .int .u32 0, .int .u32 0, .int .u32 0, .int .u32 0, .int .u32 0, .int .u32 0, .int .u32 0, .int .u32 0, .int .u32 0, .int .u32 0, .int .u32 0, .int .u32 0, .int .u32 0, .int .u32 0, .int .u32 0, .int .u32 0, .int .u32 0, .int .u32 0, .int .u32 0, .int .u32 0, .int .u32 0, .int .u32 0, .int .u32 0, .int .u32 0, .int .u32 0, .int .u32 0, .int .u32 0, .int .u32 0, .int .u32 0, .int .u32 0, .int .u32 0, .int .u32 0, .int .u32 0, .int .u32 0, .int .u32 0, .int .u32 0, .int .u32 0, .int .u32 0, .int .u32 0, .int .u32 0, .int .u32 0, .int .u32 0, .int .u32 0, .int .u32 0, .int .u32 0, .int .u32 0, .int .u32 0, .int .u32 0, .int .u32 0, .int .u32 0] 74)).setRow w1.heap.size (dv (wof b)).toArray)) := by
  rw [World.setRow_alloc_new]
  have hb : Below w1.heap.size w1 (w1.alloc (.cells (dv (wof b)).toArray 74)) := (Below.refl _ _).alloc (Nat.le_refl _) _
  refine hid ⟨h3.trans (hb.mono (Nat.le_of_lt h1.lt)), h1.on hb, h2.on hb, heap_alloc_new _ _, (hK.on h3).on hb, h2.lt, hK.lt⟩
theorem Tkc.cells {w w' : World} {g3 : Nat} {l : List Nat} {b : List UInt8} (h : Tkc w g3 l b w') (hl : l.length = 8) : ∀ j, j < 8 → w'.cell? ⟨w.heap.size, j, none⟩ = some (.int .u32 (at' l j : Nat)) := fun j hj => h.n.cell j (by omega)
theorem u_eq (a b c m : Nat) (ha : a < 4294967296) (hb : b < 4294967296) (hc : c < 4294967296) :
    ((m : Int) + bits BinOp.or IntKind.u32 (bits BinOp.or IntKind.u32 (bits BinOp.and IntKind.u32 (a : Int) (b : Int)) (bits BinOp.and IntKind.u32 (a : Int) (c : Int))) (bits BinOp.and IntKind.u32 (b : Int) (c : Int))) % 4294967296 = (((m + maj a b c) % 4294967296 : Nat) : Int) := by
  rw [u32_and_nat a b ha hb, u32_and_nat a c ha hc, u32_and_nat b c hb hc, u32_or_nat _ _ (and_lt _ ha) (and_lt _ ha), u32_or_nat _ _ (or_lt (and_lt _ ha) (and_lt _ ha)) (and_lt _ hb)]
  unfold maj
  omega
theorem idx57_0 (a b c d e f g h : Nat) (w : World) : (Instr.index 65 (.agg #[.int .u32 (a : Int), .int .u32 (b : Int), .int .u32 (c : Int), .int .u32 (d : Int), .int .u32 (e : Int), .int .u32 (f : Int), .int .u32 (g : Int), .int .u32 (h : Int)]) (.int .i64 0)).run Tryd.prog w = .ok (.int .u32 (a : Int)) w := by kernel_rfl
theorem idx57_1 (a b c d e f g h : Nat) (w : World) : (Instr.index 65 (.agg #[.int .u32 (a : Int), .int .u32 (b : Int), .int .u32 (c : Int), .int .u32 (d : Int), .int .u32 (e : Int), .int .u32 (f : Int), .int .u32 (g : Int), .int .u32 (h : Int)]) (.int .i64 1)).run Tryd.prog w = .ok (.int .u32 (b : Int)) w := by kernel_rfl
theorem idx57_2 (a b c d e f g h : Nat) (w : World) : (Instr.index 65 (.agg #[.int .u32 (a : Int), .int .u32 (b : Int), .int .u32 (c : Int), .int .u32 (d : Int), .int .u32 (e : Int), .int .u32 (f : Int), .int .u32 (g : Int), .int .u32 (h : Int)]) (.int .i64 2)).run Tryd.prog w = .ok (.int .u32 (c : Int)) w := by kernel_rfl
theorem idx57_3 (a b c d e f g h : Nat) (w : World) : (Instr.index 65 (.agg #[.int .u32 (a : Int), .int .u32 (b : Int), .int .u32 (c : Int), .int .u32 (d : Int), .int .u32 (e : Int), .int .u32 (f : Int), .int .u32 (g : Int), .int .u32 (h : Int)]) (.int .i64 3)).run Tryd.prog w = .ok (.int .u32 (d : Int)) w := by kernel_rfl
theorem idx57_4 (a b c d e f g h : Nat) (w : World) : (Instr.index 65 (.agg #[.int .u32 (a : Int), .int .u32 (b : Int), .int .u32 (c : Int), .int .u32 (d : Int), .int .u32 (e : Int), .int .u32 (f : Int), .int .u32 (g : Int), .int .u32 (h : Int)]) (.int .i64 4)).run Tryd.prog w = .ok (.int .u32 (e : Int)) w := by kernel_rfl
theorem idx57_5 (a b c d e f g h : Nat) (w : World) : (Instr.index 65 (.agg #[.int .u32 (a : Int), .int .u32 (b : Int), .int .u32 (c : Int), .int .u32 (d : Int), .int .u32 (e : Int), .int .u32 (f : Int), .int .u32 (g : Int), .int .u32 (h : Int)]) (.int .i64 5)).run Tryd.prog w = .ok (.int .u32 (f : Int)) w := by kernel_rfl
theorem idx57_6 (a b c d e f g h : Nat) (w : World) : (Instr.index 65 (.agg #[.int .u32 (a : Int), .int .u32 (b : Int), .int .u32 (c : Int), .int .u32 (d : Int), .int .u32 (e : Int), .int .u32 (f : Int), .int .u32 (g : Int), .int .u32 (h : Int)]) (.int .i64 6)).run Tryd.prog w = .ok (.int .u32 (g : Int)) w := by kernel_rfl
theorem idx57_7 (a b c d e f g h : Nat) (w : World) : (Instr.index 65 (.agg #[.int .u32 (a : Int), .int .u32 (b : Int), .int .u32 (c : Int), .int .u32 (d : Int), .int .u32 (e : Int), .int .u32 (f : Int), .int .u32 (g : Int), .int .u32 (h : Int)]) (.int .i64 7)).run Tryd.prog w = .ok (.int .u32 (h : Int)) w := by kernel_rfl
theorem idx57 (a b c d e f g h k : Nat) (hk : k < 8) (w : World) : (Instr.index 65 (.agg #[.int .u32 (a : Int), .int .u32 (b : Int), .int .u32 (c : Int), .int .u32 (d : Int), .int .u32 (e : Int), .int .u32 (f : Int), .int .u32 (g : Int), .int .u32 (h : Int)]) (.int .i64 (k : Int))).run Tryd.prog w = .ok (.int .u32 (at' [a, b, c, d, e, f, g, h] k : Nat)) w := by
  match k, hk with
  | 0, _ => exact idx57_0 a b c d e f g h w
  | 1, _ => exact idx57_1 a b c d e f g h w
  | 2, _ => exact idx57_2 a b c d e f g h w
  | 3, _ => exact idx57_3 a b c d e f g h w
  | 4, _ => exact idx57_4 a b c d e f g h w
  | 5, _ => exact idx57_5 a b c d e f g h w
  | 6, _ => exact idx57_6 a b c d e f g h w
  | 7, _ => exact idx57_7 a b c d e f g h w
theorem at_addl (l m : List Nat) (hl : l.length = 8) (hm : m.length = 8) (j : Nat) (hj : j < 8) : at' (addl l m) j = (at' l j + at' m j) % 4294967296 := by
  rw [at_lt (by rw [addl_length _ _ hl hm]; exact hj), at_lt (by omega), at_lt (by omega)]
  simp [addl]
theorem tk_alloc {g3 i : Nat} {kv wv : Nat} (W : World) (o : Obj) (h : W.cell? ⟨0, i, none⟩ = some (.int .u32 (kv : Int)) ∧ W.cell? ⟨g3, i, none⟩ = some (.int .u32 (wv : Int)) ∧ 0 < W.heap.size ∧ g3 < W.heap.size) :
    (W.alloc o).cell? ⟨0, i, none⟩ = some (.int .u32 (kv : Int)) ∧ (W.alloc o).cell? ⟨g3, i, none⟩ = some (.int .u32 (wv : Int)) ∧ 0 < (W.alloc o).heap.size ∧ g3 < (W.alloc o).heap.size :=
  ⟨by rw [World.cell?_alloc_lt _ _ _ h.2.2.1]; exact h.1, by rw [World.cell?_alloc_lt _ _ _ h.2.2.2]; exact h.2.1, by have := h.2.2.1; simp <;> omega, by have := h.2.2.2; simp <;> omega⟩
theorem wi_eq (k : Nat) (h : k < 64) : IntKind.i64.wrap (k : Int) = (k : Int) := by rw [IntKind.wrap_i64]; omega
set_option maxRecDepth 100000 in
set_option maxHeartbeats 4000000 in
theorem take_any (l : List Nat) (b : List UInt8) (w : World) (hl : l.length = 8) (hs : Sm l) (hb : b.length = 64) (hK : Kt w) :
    Calls Tryd.prog 27 #[.agg (dv l).toArray, .agg (bvs b).toArray] w fun e w' => e = .returned (.agg (dv (comp l b)).toArray) ∧ Below w.heap.size w w' := by
  have HB := hid hb
  have HL := hid hl
  have HSm := hid hs
  have HK := hid hK
  clear hb hl hs hK
  go_enter Tryd.func27, Tryd.ntmps27
  go_upto_region 1 with fail
  obtain ⟨H1, H2, H3, H4⟩ := take_init w l b
  generalize ((w.alloc (.cells (dv l).toArray 65)).alloc (.cells (bvs b).toArray 67)).alloc (.cells #[.int .u32 0, .int .u32 0, .int .u32 0, .int .u32 0, .int .u32 0, .int .u32 0, .int .u32 0, .int .u32 0] 65) = w0 at *
  go_wp2_with (refine wpList_load_row rfl 67 (.tmp 3) rfl (w.heap.size + 1) rfl 67 (bvs b).toArray (0, 0) _ H2.out Tryd.underlying67 rfl (hi59 b HB.out).out ?_)
  refine (spread_any b _ HB.out).mono ?_
  rintro e w1 ⟨rfl, hb1⟩
  have HT := take_box (b := b) (H1.out.on hb1) (H3.out.on hb1) (H4.out.trans (hb1.mono (Nat.le_of_lt H1.out.lt))) HK.out
  clear H1 H2 H3 H4 hb1
  go_wp2_with (refine wpList_store_row rfl 74 (.tmp 5) (.tmp 20) rfl w1.heap.size (dv (wof b)).toArray rfl rfl 74 _ (heap_alloc_new _ _) (hi132 b).out (ho132 b).out (dv_all _) ?_)
  simp only [Act.put]
  generalize (w1.alloc (.cells #[.int .u32 0, .int .u32 0, .int .u32 0, .int .u32 0, .int .u32 0, .int .u32 0, .int .u32 0, .int .u32 0, .int .u32 0, .int .u32 0, .int .u32 0, .int .u32 0, .int .u32 0, .int .u32 0, .int .u32 0, .int .u32 0, .int .u32 0, .int .u32 0, .int .u32 0, .int .u32 0, .int .u32 0, .int .u32 0, .int .u32 0, .int .u32 0, .int .u32 0, .int .u32 0, .int .u32 0, .int .u32 0, .int .u32 0, .int .u32 0, .int .u32 0, .int .u32 0, .int .u32 0, .int .u32 0, .int .u32 0, .int .u32 0, .int .u32 0, .int .u32 0, .int .u32 0, .int .u32 0, .int .u32 0, .int .u32 0, .int .u32 0, .int .u32 0, .int .u32 0, .int .u32 0, .int .u32 0, .int .u32 0, .int .u32 0, .int .u32 0, .int .u32 0, .int .u32 0, .int .u32 0, .int .u32 0, .int .u32 0, .int .u32 0, .int .u32 0, .int .u32 0, .int .u32 0, .int .u32 0, .int .u32 0, .int .u32 0, .int .u32 0, .int .u32 0] 74)).setRow w1.heap.size (dv (wof b)).toArray = w3 at *
  generalize w1.heap.size = g3 at *
  have hc := HT.out.cells HL.out
  have x0 : w3.cell? ⟨w.heap.size, 0, none⟩ = some (.int .u32 ((oct l).a : Nat)) := hc 0 (by decide)
  have x1 : w3.cell? ⟨w.heap.size, 1, none⟩ = some (.int .u32 ((oct l).b : Nat)) := hc 1 (by decide)
  have x2 : w3.cell? ⟨w.heap.size, 2, none⟩ = some (.int .u32 ((oct l).c : Nat)) := hc 2 (by decide)
  have x3 : w3.cell? ⟨w.heap.size, 3, none⟩ = some (.int .u32 ((oct l).d : Nat)) := hc 3 (by decide)
  have x4 : w3.cell? ⟨w.heap.size, 4, none⟩ = some (.int .u32 ((oct l).e : Nat)) := hc 4 (by decide)
  have x5 : w3.cell? ⟨w.heap.size, 5, none⟩ = some (.int .u32 ((oct l).f : Nat)) := hc 5 (by decide)
  have x6 : w3.cell? ⟨w.heap.size, 6, none⟩ = some (.int .u32 ((oct l).g : Nat)) := hc 6 (by decide)
  have x7 : w3.cell? ⟨w.heap.size, 7, none⟩ = some (.int .u32 ((oct l).h : Nat)) := hc 7 (by decide)
  clear hc
  go_quiet (fail)
  go_wp2_with fail
  clear x0 x1 x2 x3 x4 x5 x6 x7
  go_loopw [6, 7, 8, 9, 10, 11, 12, 13, 37] (fun s6 s7 s8 s9 s10 s11 s12 s13 i wr => ∃ (k : Nat) (o : Oct), k ≤ 64 ∧ i = .int .i64 k ∧ s6 = .int .u32 (o.a : Nat) ∧ s7 = .int .u32 (o.b : Nat) ∧ s8 = .int .u32 (o.c : Nat) ∧ s9 = .int .u32 (o.d : Nat) ∧ s10 = .int .u32 (o.e : Nat) ∧ s11 = .int .u32 (o.f : Nat) ∧ s12 = .int .u32 (o.g : Nat) ∧ s13 = .int .u32 (o.h : Nat) ∧ Hid o.Sm ∧ Hid (o = rnds (oct l) (wof b) k) ∧ Hid (Tkc w g3 l b wr)) (fun _ _ _ _ _ _ _ _ i _ => 64 - (intOf i).toNat)
  case atStart => exact ⟨0, oct l, by omega, rfl, rfl, rfl, rfl, rfl, rfl, rfl, rfl, rfl, hid (oct_sm HSm.out), hid rfl, hid (HT.out.drewN _)⟩
  case round =>
    clear HT
    obtain ⟨k, o, hk, rfl, rfl, rfl, rfl, rfl, rfl, rfl, rfl, rfl, HO, HR, HT⟩ := hrel
    by_cases hlt : k < 64
    · go_wp2_with fail
      have hkw := HT.out.x.lt
      have hkc := HT.out.x.cell k (by rw [wof_length]; exact hlt)
      have hkk := HT.out.k k hlt
      have hk3 := HT.out.k.lt
      refine tk6_ok (tv := tt o (at' kk k) (at' (wof b) k)) HO.out.e (rot_lt 6 HO.out.e) (rot_lt 11 HO.out.e) (rot_lt 25 HO.out.e) (by omega) (by omega) (wi_eq k hlt) ⟨hkk, hkc, hk3, hkw⟩ (hid tk_alloc) (hid (t_eq o.e o.f o.g o.h (at' kk k) (at' (wof b) k) HO.out.e HO.out.f HO.out.g _)) _ _ _ _ _ _ _ _ _ _ _ _ _ _ _ _ _ _ _ _ _ _ _ _ _ _ _ _ _ _ _ _ _ _ _ _ _ _ _ _ _ _ _ _ _ _ _ _ _ _ _ _ _ _ _ _ _ _ _ _ _ _ _ _ _ _ _ _ _ _ _ _ _ _ _ _ _ _ _ _ _ _ _ _ _ _ _ _ _ _ _ _ _ _ _ _ _ _ _ _ _ _ _ _ _ _ _ _ _ _ _ _ _ _ _ (hid ?_)
      intro d40 d41 d42 d43 d44 d45 d46 d47 d48 d49 d50 d51 d52 d53 d54 d55 d56 d57 d58 d59 d60 d61 d62 d63 d64 d65 d66 wn HN
      have HT2 := hid (HT.out.on HN.out)
      clear HT HN hkw hkc hkk hk3
      go_wp2_with fail
      refine (turn_2 o.a _ HO.out.a).mono ?_
      rintro e' wa ⟨rfl, rfl⟩
      go_wp2_with fail
      refine (turn_13 o.a _ HO.out.a).mono ?_
      rintro e' wa ⟨rfl, rfl⟩
      go_wp2_with fail
      refine (turn_22 o.a _ HO.out.a).mono ?_
      rintro e' wa ⟨rfl, rfl⟩
      go_wp2_with fail
      refine (mix_any _ _ _ _ _ (Tri.new _ _ _ _) (rot_lt 2 HO.out.a) (rot_lt 13 HO.out.a) (rot_lt 22 HO.out.a)).mono ?_
      rintro e' wa ⟨rfl, rfl⟩
      have HT := hid (HT2.out.alloc (.cells #[.int .u32 (rot o.a 2 : Nat), .int .u32 (rot o.a 13 : Nat), .int .u32 (rot o.a 22 : Nat)] 63))
      clear HT2
      generalize wn.alloc (.cells #[.int .u32 (rot o.a 2 : Nat), .int .u32 (rot o.a 13 : Nat), .int .u32 (rot o.a 22 : Nat)] 63) = wm at *
      go_upto_region 8 with fail
      rw [u_eq o.a o.b o.c _ HO.out.a HO.out.b HO.out.c]
      have hu : ((((rot o.a 2 ^^^ rot o.a 13 ^^^ rot o.a 22) + maj o.a o.b o.c) % 4294967296 : Nat) : Int) = (uu o : Int) := rfl
      rw [hu]
      have HRS := hid (p := rnd o (at' kk k) (at' (wof b) k) = rnds (oct l) (wof b) (k + 1)) (by rw [rnds, ← HR.out])
      have HOS := hid (rnd_sm HO.out (at' kk k) (at' (wof b) k))
      have HA1 := hid (show (rnd o (at' kk k) (at' (wof b) k)).a = (tt o (at' kk k) (at' (wof b) k) + uu o) % 4294967296 from rfl)
      have HA2 := hid (show (rnd o (at' kk k) (at' (wof b) k)).e = (o.d + tt o (at' kk k) (at' (wof b) k)) % 4294967296 from rfl)
      have HA3 := hid (show (rnd o (at' kk k) (at' (wof b) k)).b = o.a ∧ (rnd o (at' kk k) (at' (wof b) k)).c = o.b ∧ (rnd o (at' kk k) (at' (wof b) k)).d = o.c ∧ (rnd o (at' kk k) (at' (wof b) k)).f = o.e ∧ (rnd o (at' kk k) (at' (wof b) k)).g = o.f ∧ (rnd o (at' kk k) (at' (wof b) k)).h = o.g from ⟨rfl, rfl, rfl, rfl, rfl, rfl⟩)
      generalize rnd o (at' kk k) (at' (wof b) k) = o2 at *
      generalize tt o (at' kk k) (at' (wof b) k) = tv at *
      generalize uu o = uv at *
      go_wp2
      go_roundw
      case rel =>
        obtain ⟨e1, e2, e3, e4, e5, e6⟩ := HA3.out
        exact ⟨k + 1, o2, by omega, by go_num, by rw [HA1.out]; simp, by rw [e1], by rw [e2], by rw [e3], by rw [HA2.out]; simp, by rw [e4], by rw [e5], by rw [e6], HOS, HRS, HT⟩
      case measure => simp [intOf]; omega
    · obtain rfl : k = 64 := by omega
      have HR2 := hid (p := o.l = (rnds (oct l) (wof b) 64).l) (by rw [← HR.out])
      clear HR
      go_wp2_with fail
      obtain ⟨a1, a2, a3, a4, a5, a6, a7, a8⟩ := o
      have HOL := hid (p := [a1, a2, a3, a4, a5, a6, a7, a8] = (rnds (oct l) (wof b) 64).l) HR2.out
      clear HR2
      dsimp only at *
      go_loopw [109] (fun i wr => ∃ (k : Nat) (m : List Nat), k ≤ 8 ∧ i = .int .i64 k ∧ Hid (Tkc w g3 m b wr) ∧ Hid (m.length = 8) ∧ Hid (∀ j, j < 8 → at' m j = if j < k then (at' l j + at' [a1, a2, a3, a4, a5, a6, a7, a8] j) % 4294967296 else at' l j)) (fun i _ => 8 - (intOf i).toNat)
      case atStart => exact ⟨0, l, by omega, rfl, HT, HL, hid (fun j _ => by rw [if_neg (Nat.not_lt_zero _)])⟩
      case round =>
        clear HT
        obtain ⟨k, m, hk, rfl, HT, HM, HA⟩ := hrel
        by_cases hlt : k < 8
        · have hix := idx57 a1 a2 a3 a4 a5 a6 a7 a8 k hlt
          have hcl := HT.out.n.cell k (by have := HM.out; omega)
          have hfr := HT.out.n.frozen k
          rw [HA.out k hlt, if_neg (Nat.lt_irrefl _)] at hcl
          have HVV := hid (p := (((at' l k : Nat) : Int) + ((at' [a1, a2, a3, a4, a5, a6, a7, a8] k : Nat) : Int)) % 4294967296 = (((at' l k + at' [a1, a2, a3, a4, a5, a6, a7, a8] k) % 4294967296 : Nat) : Int)) (by omega)
          generalize hz : (at' l k + at' [a1, a2, a3, a4, a5, a6, a7, a8] k) % 4294967296 = z at HVV
          have HZ := hid hz
          clear hz
          go_wp2
          go_roundw
          case rel =>
            refine ⟨k + 1, m.set k z, by omega, by go_num, ?_, hid (by rw [List.length_set]; exact HM.out), hid ?_⟩
            · have := HT.out.set k z
              rw [← HVV.out] at this
              exact hid this
            · intro j hj
              rw [at_set _ _ _ _ (by have := HM.out; omega), HA.out j hj]
              by_cases h : j = k
              · subst h; rw [if_pos rfl, if_pos (by omega), HZ.out]
              · rw [if_neg h]
                by_cases h2 : j < k
                · rw [if_pos h2, if_pos (by omega)]
                · rw [if_neg h2, if_neg (by omega)]
          case measure => simp [intOf]; omega
        · obtain rfl : k = 8 := by omega
          have hme : m = comp l b := by
            refine eq_of_at (by rw [HM.out, comp_length _ _ HL.out]) (fun j hj => ?_)
            have hj8 : j < 8 := by have := HM.out; omega
            rw [HA.out j hj8, if_pos hj8, comp, at_addl _ _ HL.out rfl j hj8, HOL.out]
          have HT2 : Hid (Tkc w g3 (comp l b) b wr) := hid (hme ▸ HT.out)
          have HCL := hid (comp_length l b HL.out)
          clear HT HM HA hme
          generalize hr : comp l b = r at *
          have HRR := hid hr
          clear hr
          have HI := hi57 r HCL.out
          have HO8 : Hid ((dv (List.replicate 8 0)).toArray.size = (dv r).toArray.size) := hid (by rw [dv_size, dv_size, HCL.out, List.length_replicate])
          have HZ := hid (HT2.out.z.row (m := r))
          have HBW := hid (p := Below w.heap.size w (wr.setRow (w.heap.size + 1 + 1) (dv r).toArray)) (below_setRow HT2.out.below (Nat.le_succ_of_le (Nat.le_succ _)) _)
          go_upto_region 15 with fail
          have HDA := dv_all r
          have HZL := HT2.out.n
          have HZZ := HT2.out.z
          unfold Us at HZL HZZ
          have HZL := hid HZL
          have HZZ := hid HZZ
          go_wp2_with (first | (refine wpList_load_row rfl 65 (.tmp 2) rfl w.heap.size rfl 65 (dv r).toArray (0, 0) _ HZL.out Tryd.underlying65 rfl HI.out ?_) | (refine wpList_store_row rfl 65 (.tmp 4) (.tmp 120) rfl (w.heap.size + 1 + 1) (dv r).toArray rfl rfl 65 _ HZZ.out HI.out HO8.out HDA ?_))
          exact bodyPost_ret (v := .agg (dv r).toArray) (results_cell_row (p := 4) (ty := 65) Tryd.results27 _ _ (w.heap.size + 1 + 1) 65 (dv r).toArray (0, 0) _ rfl HZ.out Tryd.underlying65 rfl HI.out) rfl ⟨by rw [HRR.out], HBW.out⟩
end Go.Proofs.YtbloejlebikecaaDoor
