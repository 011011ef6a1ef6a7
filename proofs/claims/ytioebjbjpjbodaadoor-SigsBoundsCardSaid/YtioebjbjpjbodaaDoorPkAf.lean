/-
  shas.takeIn, walked: a block is taken in. Condition: the library's table holds what its text lays.
  A run of bytes, as it lies in memory: by which the whole blocks were taken in, the bytes behind these, their count. Conditions: none.
-/
import Derived.Test.YtioebjbjpjbodaaDoorPkAe
import Derived.Deep.WholeRow
import Derived.BigQuiet
import Derived.Laws.AppendOwn
import Derived.OwnWalk
import Derived.Maps.AppendAt
namespace Go.Proofs.YtioebjbjpjbodaaDoor
open Go.RowKit
set_option linter.unusedVariables false

theorem i57 : (Tryd.prog.info? 113).map (·.size) = some 8 := by kernel_rfl
theorem i59 : (Tryd.prog.info? 116).map (·.size) = some 64 := by kernel_rfl
theorem bvs_size (l : List UInt8) : (bvs l).toArray.size = l.length := by simp [bvs]
theorem bvs_all (l : List UInt8) : (bvs l).toArray.all (·.oneCell') = true := all_oneCell_toArray (bvs_one l)
theorem hi59 (b : List UInt8) (h : b.length = 64) : Hid ((Tryd.prog.info? 116).map (·.size) = some (bvs b).toArray.size) := by rw [bvs_size, h]; exact hid i59
theorem hi57 (l : List Nat) (h : l.length = 8) : Hid ((Tryd.prog.info? 113).map (·.size) = some (dv l).toArray.size) := by rw [dv_size, h]; exact hid i57
theorem Kt.drew {w : World} (h : Kt w) : Kt w.drew := h
theorem Kt.setOther {w : World} (h : Kt w) {g i : Nat} (v : Value) (hg : 2 ≠ g) : Kt (w.setCell ⟨g, i, none⟩ v) := fun j hj => (World.cell?_setCell_other _ _ _ _ (by intro e; injection e with e1; exact hg e1.symm)).trans (h j hj)
/-- what stands while a block is taken in: n's box, the answer's, the block's numbers, K -/
structure Tkc (w : World) (g3 : Nat) (l : List Nat) (b : List UInt8) (w' : World) : Prop where
  below : Below w.heap.size w w'
  n : Us w' w.heap.size 113 l
  z : Us w' (w.heap.size + 1 + 1) 113 (List.replicate 8 0)
  x : Us w' g3 124 (wof b)
  k : Kt w'
  lt : w.heap.size + 1 + 1 < g3
  k3 : 2 < w.heap.size
theorem Tkc.on {w w' w2 : World} {g3 : Nat} {l : List Nat} {b : List UInt8} (h : Tkc w g3 l b w') (hb : Below w'.heap.size w' w2) : Tkc w g3 l b w2 :=
  ⟨h.below.trans (hb.mono (Nat.le_of_lt h.n.lt)), h.n.on hb, h.z.on hb, h.x.on hb, h.k.on hb, h.lt, h.k3⟩
theorem Tkc.alloc {w w' : World} {g3 : Nat} {l : List Nat} {b : List UInt8} (h : Tkc w g3 l b w') (o : Obj) : Tkc w g3 l b (w'.alloc o) := h.on ((Below.refl _ _).alloc (Nat.le_refl _) o)
theorem Tkc.drew {w w' : World} {g3 : Nat} {l : List Nat} {b : List UInt8} (h : Tkc w g3 l b w') : Tkc w g3 l b w'.drew := ⟨h.below.drew, h.n, h.z, h.x, h.k, h.lt, h.k3⟩
theorem Tkc.drewN {w w' : World} {g3 : Nat} {l : List Nat} {b : List UInt8} (h : Tkc w g3 l b w') (n : Nat) : Tkc w g3 l b (w'.drewN n) := ⟨h.below.trans ⟨rfl, rfl, rfl, Nat.le_refl _, fun _ _ => rfl⟩, h.n, h.z, h.x, h.k, h.lt, h.k3⟩
theorem Tkc.set {w w' : World} {g3 : Nat} {l : List Nat} {b : List UInt8} (h : Tkc w g3 l b w') (k v : Nat) : Tkc w g3 (l.set k v) b (w'.setCell ⟨w.heap.size, k, none⟩ (.int .u32 (v : Int))) :=
  ⟨h.below.setCell (Nat.le_refl _) _, h.n.set k v, h.z.other _ (by omega), h.x.other _ (by have := h.lt; omega), h.k.setOther _ (by have := h.k3; omega), h.lt, h.k3⟩
theorem take_init (w : World) (l : List Nat) (b : List UInt8) : Hid (Us (((w.alloc (.cells (dv l).toArray 113)).alloc (.cells (bvs b).toArray 116)).alloc (.cells #[.int .u32 0, .int .u32 0, .int .u32 0, .int .u32 0, .int .u32 0, .int .u32 0, .int .u32 0, .int .u32 0] 113)) w.heap.size 113 l) ∧
    Hid (Bt (((w.alloc (.cells (dv l).toArray 113)).alloc (.cells (bvs b).toArray 116)).alloc (.cells #[.int .u32 0, .int .u32 0, .int .u32 0, .int .u32 0, .int .u32 0, .int .u32 0, .int .u32 0, .int .u32 0] 113)) (w.heap.size + 1) 116 b) ∧
    Hid (Us (((w.alloc (.cells (dv l).toArray 113)).alloc (.cells (bvs b).toArray 116)).alloc (.cells #[.int .u32 0, .int .u32 0, .int .u32 0, .int .u32 0, .int .u32 0, .int .u32 0, .int .u32 0, .int .u32 0] 113)) (w.heap.size + 1 + 1) 113 (List.replicate 8 0)) ∧
    Hid (Below w.heap.size w (((w.alloc (.cells (dv l).toArray 113)).alloc (.cells (bvs b).toArray 116)).alloc (.cells #[.int .u32 0, .int .u32 0, .int .u32 0, .int .u32 0, .int .u32 0, .int .u32 0, .int .u32 0, .int .u32 0] 113))) := by
  have s1 : ∀ (w : World) (o : Obj), (w.alloc o).heap.size = w.heap.size + 1 := fun w o => Array.size_push _
  refine ⟨hid (Us.alloc (Us.alloc (heap_alloc_new _ _) _) _), hid (Bt.alloc ?_ _), hid ?_, hid ((((Below.refl _ _).alloc (Nat.le_refl _) _).alloc (by rw [s1]; omega) _).alloc (by rw [s1, s1]; omega) _)⟩
  · rw [← s1 w (.cells (dv l).toArray 113)]; exact heap_alloc_new _ _
  · rw [← s1 w (.cells (dv l).toArray 113), ← s1 _ (.cells (bvs b).toArray 116)]; exact heap_alloc_new _ _
/-- the block's numbers in a box of their own -/
theorem take_box {w w1 : World} {l : List Nat} {b : List UInt8} (h1 : Us w1 w.heap.size 113 l) (h2 : Us w1 (w.heap.size + 1 + 1) 113 (List.replicate 8 0)) (h3 : Below w.heap.size w w1) (hK : Kt w) :
    Hid (Tkc w w1.heap.size l b ((w1.alloc (.cells #[.int .u32 0, .int .u32 0, .int .u32 0, .int .u32 0, .int .u32 0, .int .u32 0, .int .u32 0, .int .u32 0, .int .u32 0, .int .u32 0, .int .u32 0, .int .u32 0, .int .u32 0, .int .u32 0, .int .u32 0, .int .u32 0, .int .u32 0, .int .u32 0, .int .u32 0, .int .u32 0, .int .u32 0, .int .u32 0, .int .u32 0, .int .u32 0, .int .u32 0, .int .u32 0, .int .u32 0, .int .u32 0, .int .u32 0, .int .u32 0, .int .u32 0, .int .u32 0, .int .u32 0, .int .u32 0, .int .u32 0, .int .u32 0, .int .u32 0, .int .u32 0, .int .u32 0, .int .u32 0, .int .u32 0, .int .u32 0, .int .u32 0, .int .u32 0, .int .u32 0, .int .u32 0, .int .u32 0, .int .u32 0, .int .u32 0, .int .u32 0, .int .u32 0, .int .u32 0, .int .u32 0, .int .u32 0, .int .u32 0, .int .u32 0, .int .u32 0, .int .u32 0, .int .u32 0, .int .u32 0, .int .u32 0, .int .u32 0, .int .u32 0, .int .u32 0] 124)).setRow w1.heap.size (dv (wof b)).toArray)) := by
  rw [World.setRow_alloc_new]
  have hb : Below w1.heap.size w1 (w1.alloc (.cells (dv (wof b)).toArray 124)) := (Below.refl _ _).alloc (Nat.le_refl _) _
  refine hid ⟨h3.trans (hb.mono (Nat.le_of_lt h1.lt)), h1.on hb, h2.on hb, heap_alloc_new _ _, (hK.on h3).on hb, h2.lt, hK.lt⟩
theorem Tkc.cells {w w' : World} {g3 : Nat} {l : List Nat} {b : List UInt8} (h : Tkc w g3 l b w') (hl : l.length = 8) : ∀ j, j < 8 → w'.cell? ⟨w.heap.size, j, none⟩ = some (.int .u32 (at' l j : Nat)) := fun j hj => h.n.cell j (by omega)
theorem u_eq (a b c m : Nat) (ha : a < 4294967296) (hb : b < 4294967296) (hc : c < 4294967296) :
    ((m : Int) + bits BinOp.or IntKind.u32 (bits BinOp.or IntKind.u32 (bits BinOp.and IntKind.u32 (a : Int) (b : Int)) (bits BinOp.and IntKind.u32 (a : Int) (c : Int))) (bits BinOp.and IntKind.u32 (b : Int) (c : Int))) % 4294967296 = (((m + maj a b c) % 4294967296 : Nat) : Int) := by
  rw [u32_and_nat a b ha hb, u32_and_nat a c ha hc, u32_and_nat b c hb hc, u32_or_nat _ _ (and_lt _ ha) (and_lt _ ha), u32_or_nat _ _ (or_lt (and_lt _ ha) (and_lt _ ha)) (and_lt _ hb)]
  unfold maj
  omega
theorem idx57_0 (a b c d e f g h : Nat) (w : World) : (Instr.index 113 (.agg #[.int .u32 (a : Int), .int .u32 (b : Int), .int .u32 (c : Int), .int .u32 (d : Int), .int .u32 (e : Int), .int .u32 (f : Int), .int .u32 (g : Int), .int .u32 (h : Int)]) (.int .i64 0)).run Tryd.prog w = .ok (.int .u32 (a : Int)) w := by kernel_rfl
theorem idx57_1 (a b c d e f g h : Nat) (w : World) : (Instr.index 113 (.agg #[.int .u32 (a : Int), .int .u32 (b : Int), .int .u32 (c : Int), .int .u32 (d : Int), .int .u32 (e : Int), .int .u32 (f : Int), .int .u32 (g : Int), .int .u32 (h : Int)]) (.int .i64 1)).run Tryd.prog w = .ok (.int .u32 (b : Int)) w := by kernel_rfl
theorem idx57_2 (a b c d e f g h : Nat) (w : World) : (Instr.index 113 (.agg #[.int .u32 (a : Int), .int .u32 (b : Int), .int .u32 (c : Int), .int .u32 (d : Int), .int .u32 (e : Int), .int .u32 (f : Int), .int .u32 (g : Int), .int .u32 (h : Int)]) (.int .i64 2)).run Tryd.prog w = .ok (.int .u32 (c : Int)) w := by kernel_rfl
theorem idx57_3 (a b c d e f g h : Nat) (w : World) : (Instr.index 113 (.agg #[.int .u32 (a : Int), .int .u32 (b : Int), .int .u32 (c : Int), .int .u32 (d : Int), .int .u32 (e : Int), .int .u32 (f : Int), .int .u32 (g : Int), .int .u32 (h : Int)]) (.int .i64 3)).run Tryd.prog w = .ok (.int .u32 (d : Int)) w := by kernel_rfl
theorem idx57_4 (a b c d e f g h : Nat) (w : World) : (Instr.index 113 (.agg #[.int .u32 (a : Int), .int .u32 (b : Int), .int .u32 (c : Int), .int .u32 (d : Int), .int .u32 (e : Int), .int .u32 (f : Int), .int .u32 (g : Int), .int .u32 (h : Int)]) (.int .i64 4)).run Tryd.prog w = .ok (.int .u32 (e : Int)) w := by kernel_rfl
theorem idx57_5 (a b c d e f g h : Nat) (w : World) : (Instr.index 113 (.agg #[.int .u32 (a : Int), .int .u32 (b : Int), .int .u32 (c : Int), .int .u32 (d : Int), .int .u32 (e : Int), .int .u32 (f : Int), .int .u32 (g : Int), .int .u32 (h : Int)]) (.int .i64 5)).run Tryd.prog w = .ok (.int .u32 (f : Int)) w := by kernel_rfl
theorem idx57_6 (a b c d e f g h : Nat) (w : World) : (Instr.index 113 (.agg #[.int .u32 (a : Int), .int .u32 (b : Int), .int .u32 (c : Int), .int .u32 (d : Int), .int .u32 (e : Int), .int .u32 (f : Int), .int .u32 (g : Int), .int .u32 (h : Int)]) (.int .i64 6)).run Tryd.prog w = .ok (.int .u32 (g : Int)) w := by kernel_rfl
theorem idx57_7 (a b c d e f g h : Nat) (w : World) : (Instr.index 113 (.agg #[.int .u32 (a : Int), .int .u32 (b : Int), .int .u32 (c : Int), .int .u32 (d : Int), .int .u32 (e : Int), .int .u32 (f : Int), .int .u32 (g : Int), .int .u32 (h : Int)]) (.int .i64 7)).run Tryd.prog w = .ok (.int .u32 (h : Int)) w := by kernel_rfl
theorem idx57 (a b c d e f g h k : Nat) (hk : k < 8) (w : World) : (Instr.index 113 (.agg #[.int .u32 (a : Int), .int .u32 (b : Int), .int .u32 (c : Int), .int .u32 (d : Int), .int .u32 (e : Int), .int .u32 (f : Int), .int .u32 (g : Int), .int .u32 (h : Int)]) (.int .i64 (k : Int))).run Tryd.prog w = .ok (.int .u32 (at' [a, b, c, d, e, f, g, h] k : Nat)) w := by
  match k, hk with
  | 0, _ => exact idx57_0 a b c d e f g h w
  | 1, _ => exact idx57_1 a b c d e f g h w
  | 2, _ => exact idx57_2 a b c d e f g h w
  | 3, _ => exact idx57_3 a b c d e f g h w
  | 4, _ => exact idx57_4 a b c d e f g h w
  | 5, _ => exact idx57_5 a b c d e f g h w
  | 6, _ => exact idx57_6 a b c d e f g h w
  | 7, _ => exact idx57_7 a b c d e f g h w
theorem at_addl (l m : List Nat) (hl : l.length = 8) (hm : m.length = 8) (j : Nat) (hj : j < 8) : at' (addl l m) j = (at' l j + at' m j) % 4294967296 := by
  rw [at_lt (by rw [addl_length _ _ hl hm]; exact hj), at_lt (by omega), at_lt (by omega)]
  simp [addl]
theorem tk_alloc {g3 i : Nat} {kv wv : Nat} (W : World) (o : Obj) (h : W.cell? ⟨2, i, none⟩ = some (.int .u32 (kv : Int)) ∧ W.cell? ⟨g3, i, none⟩ = some (.int .u32 (wv : Int)) ∧ 2 < W.heap.size ∧ g3 < W.heap.size) :
    (W.alloc o).cell? ⟨2, i, none⟩ = some (.int .u32 (kv : Int)) ∧ (W.alloc o).cell? ⟨g3, i, none⟩ = some (.int .u32 (wv : Int)) ∧ 2 < (W.alloc o).heap.size ∧ g3 < (W.alloc o).heap.size :=
  ⟨by rw [World.cell?_alloc_lt _ _ _ h.2.2.1]; exact h.1, by rw [World.cell?_alloc_lt _ _ _ h.2.2.2]; exact h.2.1, by have := h.2.2.1; simp; omega, by have := h.2.2.2; simp; omega⟩
theorem wi_eq (k : Nat) (h : k < 64) : IntKind.i64.wrap (k : Int) = (k : Int) := by rw [IntKind.wrap_i64]; omega
set_option maxRecDepth 100000 in
set_option maxHeartbeats 4000000 in
theorem take_any (l : List Nat) (b : List UInt8) (w : World) (hl : l.length = 8) (hs : Sm l) (hb : b.length = 64) (hK : Kt w) :
    Calls Tryd.prog 75 #[.agg (dv l).toArray, .agg (bvs b).toArray] w fun e w' => e = .returned (.agg (dv (comp l b)).toArray) ∧ Below w.heap.size w w' := by
  have HB := hid hb
  have HL := hid hl
  have HSm := hid hs
  have HK := hid hK
  clear hb hl hs hK
  go_enter Tryd.func75, Tryd.ntmps75
  go_upto_region 1 with fail
  obtain ⟨H1, H2, H3, H4⟩ := take_init w l b
  generalize ((w.alloc (.cells (dv l).toArray 113)).alloc (.cells (bvs b).toArray 116)).alloc (.cells #[.int .u32 0, .int .u32 0, .int .u32 0, .int .u32 0, .int .u32 0, .int .u32 0, .int .u32 0, .int .u32 0] 113) = w0 at *
  go_wp2_with (refine wpList_load_row rfl 116 (.tmp 3) rfl (w.heap.size + 1) rfl 116 (bvs b).toArray (0, 0) _ H2.out Tryd.underlying116 rfl (hi59 b HB.out).out ?_)
  refine (spread_any b _ HB.out).mono ?_
  rintro e w1 ⟨rfl, hb1⟩
  have HT := take_box (b := b) (H1.out.on hb1) (H3.out.on hb1) (H4.out.trans (hb1.mono (Nat.le_of_lt H1.out.lt))) HK.out
  clear H1 H2 H3 H4 hb1
  go_wp2_with (refine wpList_store_row rfl 124 (.tmp 5) (.tmp 20) rfl w1.heap.size (dv (wof b)).toArray rfl rfl 124 _ (heap_alloc_new _ _) (hi132 b).out (ho132 b).out (dv_all _) ?_)
  simp only [Act.put]
  generalize (w1.alloc (.cells #[.int .u32 0, .int .u32 0, .int .u32 0, .int .u32 0, .int .u32 0, .int .u32 0, .int .u32 0, .int .u32 0, .int .u32 0, .int .u32 0, .int .u32 0, .int .u32 0, .int .u32 0, .int .u32 0, .int .u32 0, .int .u32 0, .int .u32 0, .int .u32 0, .int .u32 0, .int .u32 0, .int .u32 0, .int .u32 0, .int .u32 0, .int .u32 0, .int .u32 0, .int .u32 0, .int .u32 0, .int .u32 0, .int .u32 0, .int .u32 0, .int .u32 0, .int .u32 0, .int .u32 0, .int .u32 0, .int .u32 0, .int .u32 0, .int .u32 0, .int .u32 0, .int .u32 0, .int .u32 0, .int .u32 0, .int .u32 0, .int .u32 0, .int .u32 0, .int .u32 0, .int .u32 0, .int .u32 0, .int .u32 0, .int .u32 0, .int .u32 0, .int .u32 0, .int .u32 0, .int .u32 0, .int .u32 0, .int .u32 0, .int .u32 0, .int .u32 0, .int .u32 0, .int .u32 0, .int .u32 0, .int .u32 0, .int .u32 0, .int .u32 0, .int .u32 0] 124)).setRow w1.heap.size (dv (wof b)).toArray = w3 at *
  generalize w1.heap.size = g3 at *
  have hc := HT.out.cells HL.out
  have x0 : w3.cell? ⟨w.heap.size, 0, none⟩ = some (.int .u32 ((oct l).a : Nat)) := hc 0 (by decide)
  have x1 : w3.cell? ⟨w.heap.size, 1, none⟩ = some (.int .u32 ((oct l).b : Nat)) := hc 1 (by decide)
  have x2 : w3.cell? ⟨w.heap.size, 2, none⟩ = some (.int .u32 ((oct l).c : Nat)) := hc 2 (by decide)
  have x3 : w3.cell? ⟨w.heap.size, 3, none⟩ = some (.int .u32 ((oct l).d : Nat)) := hc 3 (by decide)
  have x4 : w3.cell? ⟨w.heap.size, 4, none⟩ = some (.int .u32 ((oct l).e : Nat)) := hc 4 (by decide)
  have x5 : w3.cell? ⟨w.heap.size, 5, none⟩ = some (.int .u32 ((oct l).f : Nat)) := hc 5 (by decide)
  have x6 : w3.cell? ⟨w.heap.size, 6, none⟩ = some (.int .u32 ((oct l).g : Nat)) := hc 6 (by decide)
  have x7 : w3.cell? ⟨w.heap.size, 7, none⟩ = some (.int .u32 ((oct l).h : Nat)) := hc 7 (by decide)
  clear hc
  go_quiet (fail)
  go_wp2_with fail
  clear x0 x1 x2 x3 x4 x5 x6 x7
  go_loopw [6, 7, 8, 9, 10, 11, 12, 13, 37] (fun s6 s7 s8 s9 s10 s11 s12 s13 i wr => ∃ (k : Nat) (o : Oct), k ≤ 64 ∧ i = .int .i64 k ∧ s6 = .int .u32 (o.a : Nat) ∧ s7 = .int .u32 (o.b : Nat) ∧ s8 = .int .u32 (o.c : Nat) ∧ s9 = .int .u32 (o.d : Nat) ∧ s10 = .int .u32 (o.e : Nat) ∧ s11 = .int .u32 (o.f : Nat) ∧ s12 = .int .u32 (o.g : Nat) ∧ s13 = .int .u32 (o.h : Nat) ∧ Hid o.Sm ∧ Hid (o = rnds (oct l) (wof b) k) ∧ Hid (Tkc w g3 l b wr)) (fun _ _ _ _ _ _ _ _ i _ => 64 - (intOf i).toNat)
  case atStart => exact ⟨0, oct l, by omega, rfl, rfl, rfl, rfl, rfl, rfl, rfl, rfl, rfl, hid (oct_sm HSm.out), hid rfl, hid (HT.out.drewN _)⟩
  case round =>
    clear HT
    obtain ⟨k, o, hk, rfl, rfl, rfl, rfl, rfl, rfl, rfl, rfl, rfl, HO, HR, HT⟩ := hrel
    by_cases hlt : k < 64
    · go_wp2_with fail
      have hkw := HT.out.x.lt
      have hkc := HT.out.x.cell k (by rw [wof_length]; exact hlt)
      have hkk := HT.out.k k hlt
      have hk3 := HT.out.k.lt
      refine tk6_ok (tv := tt o (at' kk k) (at' (wof b) k)) HO.out.e (rot_lt 6 HO.out.e) (rot_lt 11 HO.out.e) (rot_lt 25 HO.out.e) (by omega) (by omega) (wi_eq k hlt) ⟨hkk, hkc, hk3, hkw⟩ (hid tk_alloc) (hid (t_eq o.e o.f o.g o.h (at' kk k) (at' (wof b) k) HO.out.e HO.out.f HO.out.g _)) _ _ _ _ _ _ _ _ _ _ _ _ _ _ _ _ _ _ _ _ _ _ _ _ _ _ _ _ _ _ _ _ _ _ _ _ _ _ _ _ _ _ _ _ _ _ _ _ _ _ _ _ _ _ _ _ _ _ _ _ _ _ _ _ _ _ _ _ _ _ _ _ _ _ _ _ _ _ _ _ _ _ _ _ _ _ _ _ _ _ _ _ _ _ _ _ _ _ _ _ _ _ _ _ _ _ _ _ _ _ _ _ _ _ _ (hid ?_)
      intro d40 d41 d42 d43 d44 d45 d46 d47 d48 d49 d50 d51 d52 d53 d54 d55 d56 d57 d58 d59 d60 d61 d62 d63 d64 d65 d66 wn HN
      have HT2 := hid (HT.out.on HN.out)
      clear HT HN hkw hkc hkk hk3
      go_wp2_with fail
      refine (turn_2 o.a _ HO.out.a).mono ?_
      rintro e' wa ⟨rfl, rfl⟩
      go_wp2_with fail
      refine (turn_13 o.a _ HO.out.a).mono ?_
      rintro e' wa ⟨rfl, rfl⟩
      go_wp2_with fail
      refine (turn_22 o.a _ HO.out.a).mono ?_
      rintro e' wa ⟨rfl, rfl⟩
      go_wp2_with fail
      refine (mix_any _ _ _ _ _ (Tri.new _ _ _ _) (rot_lt 2 HO.out.a) (rot_lt 13 HO.out.a) (rot_lt 22 HO.out.a)).mono ?_
      rintro e' wa ⟨rfl, rfl⟩
      have HT := hid (HT2.out.alloc (.cells #[.int .u32 (rot o.a 2 : Nat), .int .u32 (rot o.a 13 : Nat), .int .u32 (rot o.a 22 : Nat)] 65))
      clear HT2
      generalize wn.alloc (.cells #[.int .u32 (rot o.a 2 : Nat), .int .u32 (rot o.a 13 : Nat), .int .u32 (rot o.a 22 : Nat)] 65) = wm at *
      go_upto_region 8 with fail
      rw [u_eq o.a o.b o.c _ HO.out.a HO.out.b HO.out.c]
      have hu : ((((rot o.a 2 ^^^ rot o.a 13 ^^^ rot o.a 22) + maj o.a o.b o.c) % 4294967296 : Nat) : Int) = (uu o : Int) := rfl
      rw [hu]
      have HRS := hid (p := rnd o (at' kk k) (at' (wof b) k) = rnds (oct l) (wof b) (k + 1)) (by rw [rnds, ← HR.out])
      have HOS := hid (rnd_sm HO.out (at' kk k) (at' (wof b) k))
      have HA1 := hid (show (rnd o (at' kk k) (at' (wof b) k)).a = (tt o (at' kk k) (at' (wof b) k) + uu o) % 4294967296 from rfl)
      have HA2 := hid (show (rnd o (at' kk k) (at' (wof b) k)).e = (o.d + tt o (at' kk k) (at' (wof b) k)) % 4294967296 from rfl)
      have HA3 := hid (show (rnd o (at' kk k) (at' (wof b) k)).b = o.a ∧ (rnd o (at' kk k) (at' (wof b) k)).c = o.b ∧ (rnd o (at' kk k) (at' (wof b) k)).d = o.c ∧ (rnd o (at' kk k) (at' (wof b) k)).f = o.e ∧ (rnd o (at' kk k) (at' (wof b) k)).g = o.f ∧ (rnd o (at' kk k) (at' (wof b) k)).h = o.g from ⟨rfl, rfl, rfl, rfl, rfl, rfl⟩)
      generalize rnd o (at' kk k) (at' (wof b) k) = o2 at *
      generalize tt o (at' kk k) (at' (wof b) k) = tv at *
      generalize uu o = uv at *
      go_wp2
      go_roundw
      case rel =>
        obtain ⟨e1, e2, e3, e4, e5, e6⟩ := HA3.out
        exact ⟨k + 1, o2, by omega, by go_num, by rw [HA1.out]; simp, by rw [e1], by rw [e2], by rw [e3], by rw [HA2.out]; simp, by rw [e4], by rw [e5], by rw [e6], HOS, HRS, HT⟩
      case measure => simp [intOf]; omega
    · obtain rfl : k = 64 := by omega
      have HR2 := hid (p := o.l = (rnds (oct l) (wof b) 64).l) (by rw [← HR.out])
      clear HR
      go_wp2_with fail
      obtain ⟨a1, a2, a3, a4, a5, a6, a7, a8⟩ := o
      have HOL := hid (p := [a1, a2, a3, a4, a5, a6, a7, a8] = (rnds (oct l) (wof b) 64).l) HR2.out
      clear HR2
      dsimp only at *
      go_loopw [109] (fun i wr => ∃ (k : Nat) (m : List Nat), k ≤ 8 ∧ i = .int .i64 k ∧ Hid (Tkc w g3 m b wr) ∧ Hid (m.length = 8) ∧ Hid (∀ j, j < 8 → at' m j = if j < k then (at' l j + at' [a1, a2, a3, a4, a5, a6, a7, a8] j) % 4294967296 else at' l j)) (fun i _ => 8 - (intOf i).toNat)
      case atStart => exact ⟨0, l, by omega, rfl, HT, HL, hid (fun j _ => by rw [if_neg (Nat.not_lt_zero _)])⟩
      case round =>
        clear HT
        obtain ⟨k, m, hk, rfl, HT, HM, HA⟩ := hrel
        by_cases hlt : k < 8
        · have hix := idx57 a1 a2 a3 a4 a5 a6 a7 a8 k hlt
          have hcl := HT.out.n.cell k (by have := HM.out; omega)
          have hfr := HT.out.n.frozen k
          rw [HA.out k hlt, if_neg (Nat.lt_irrefl _)] at hcl
          have HVV := hid (p := (((at' l k : Nat) : Int) + ((at' [a1, a2, a3, a4, a5, a6, a7, a8] k : Nat) : Int)) % 4294967296 = (((at' l k + at' [a1, a2, a3, a4, a5, a6, a7, a8] k) % 4294967296 : Nat) : Int)) (by omega)
          generalize hz : (at' l k + at' [a1, a2, a3, a4, a5, a6, a7, a8] k) % 4294967296 = z at HVV
          have HZ := hid hz
          clear hz
          go_wp2
          go_roundw
          case rel =>
            refine ⟨k + 1, m.set k z, by omega, by go_num, ?_, hid (by rw [List.length_set]; exact HM.out), hid ?_⟩
            · have := HT.out.set k z
              rw [← HVV.out] at this
              exact hid this
            · intro j hj
              rw [at_set _ _ _ _ (by have := HM.out; omega), HA.out j hj]
              by_cases h : j = k
              · subst h; rw [if_pos rfl, if_pos (by omega), HZ.out]
              · rw [if_neg h]
                by_cases h2 : j < k
                · rw [if_pos h2, if_pos (by omega)]
                · rw [if_neg h2, if_neg (by omega)]
          case measure => simp [intOf]; omega
        · obtain rfl : k = 8 := by omega
          have hme : m = comp l b := by
            refine eq_of_at (by rw [HM.out, comp_length _ _ HL.out]) (fun j hj => ?_)
            have hj8 : j < 8 := by have := HM.out; omega
            rw [HA.out j hj8, if_pos hj8, comp, at_addl _ _ HL.out rfl j hj8, HOL.out]
          have HT2 : Hid (Tkc w g3 (comp l b) b wr) := hid (hme ▸ HT.out)
          have HCL := hid (comp_length l b HL.out)
          clear HT HM HA hme
          generalize hr : comp l b = r at *
          have HRR := hid hr
          clear hr
          have HI := hi57 r HCL.out
          have HO8 : Hid ((dv (List.replicate 8 0)).toArray.size = (dv r).toArray.size) := hid (by rw [dv_size, dv_size, HCL.out, List.length_replicate])
          have HZ := hid (HT2.out.z.row (m := r))
          have HBW := hid (p := Below w.heap.size w (wr.setRow (w.heap.size + 1 + 1) (dv r).toArray)) (below_setRow HT2.out.below (Nat.le_succ_of_le (Nat.le_succ _)) _)
          go_upto_region 15 with fail
          have HDA := dv_all r
          have HZL := HT2.out.n
          have HZZ := HT2.out.z
          unfold Us at HZL HZZ
          have HZL := hid HZL
          have HZZ := hid HZZ
          go_wp2_with (first | (refine wpList_load_row rfl 113 (.tmp 2) rfl w.heap.size rfl 113 (dv r).toArray (0, 0) _ HZL.out Tryd.underlying113 rfl HI.out ?_) | (refine wpList_store_row rfl 113 (.tmp 4) (.tmp 120) rfl (w.heap.size + 1 + 1) (dv r).toArray rfl rfl 113 _ HZZ.out HI.out HO8.out HDA ?_))
          exact bodyPost_ret (v := .agg (dv r).toArray) (results_cell_row (p := 4) (ty := 113) Tryd.results75 _ _ (w.heap.size + 1 + 1) 113 (dv r).toArray (0, 0) _ rfl HZ.out Tryd.underlying113 rfl HI.out) rfl ⟨by rw [HRR.out], HBW.out⟩
end Go.Proofs.YtioebjbjpjbodaaDoor
namespace Go.Proofs.YtioebjbjpjbodaaDoor
open Go.RowKit
set_option linter.unusedVariables false

/-- a run's cells -/
def rc (l : List Nat) (b : List UInt8) (n : Nat) : List Value := .bool true :: (dv l ++ (bvs b ++ [.int .u64 (n : Int)]))
theorem rc_length {l : List Nat} {b : List UInt8} (n : Nat) (hl : l.length = 8) (hb : b.length = 64) : (rc l b n).length = 74 := by simp [rc, dv, bvs, hl, hb]
/-- block g is a run that holds these -/
def Rn (w : World) (g : Nat) (l : List Nat) (b : List UInt8) (n : Nat) : Prop := w.heap[g]? = some (.cells (rc l b n).toArray 118 (0, 0))
theorem Rn.lt {w : World} {g n : Nat} {l : List Nat} {b : List UInt8} (h : Rn w g l b n) : g < w.heap.size := lt_of_block h
theorem Rn.at {w : World} {g n : Nat} {l : List Nat} {b : List UInt8} (h : Rn w g l b n) (j : Nat) : w.cell? ⟨g, j, none⟩ = (rc l b n)[j]? := by
  rw [cell_of_row w g j _ 118 (0, 0) h]; simp
theorem Rn.frozen {w : World} {g n : Nat} {l : List Nat} {b : List UInt8} (h : Rn w g l b n) (i : Nat) : w.frozen? ⟨g, i, none⟩ = false := by
  unfold Rn at h; simp [World.frozen?, h]
theorem Rn.made {w : World} {g n : Nat} {l : List Nat} {b : List UInt8} (h : Rn w g l b n) : w.cell? ⟨g, 0, none⟩ = some (.bool true) := h.at 0
theorem Rn.so {w : World} {g n : Nat} {l : List Nat} {b : List UInt8} (h : Rn w g l b n) : w.rangeAt g 1 (dv l) := by
  intro j v hv
  have hj : j < (dv l).length := by
    rcases Nat.lt_or_ge j (dv l).length with h | h
    · exact h
    · rw [List.getElem?_eq_none h] at hv; cases hv
  rw [h.at, Nat.add_comm, rc, List.getElem?_cons_succ, List.getElem?_append_left hj]; exact hv
theorem Rn.last {w : World} {g n : Nat} {l : List Nat} {b : List UInt8} (h : Rn w g l b n) (hl : l.length = 8) : w.rangeAt g 9 (bvs b) := by
  intro j v hv
  have hj : j < (bvs b).length := by
    rcases Nat.lt_or_ge j (bvs b).length with h | h
    · exact h
    · rw [List.getElem?_eq_none h] at hv; cases hv
  have e : (dv l).length = 8 := by rw [dv_length, hl]
  rw [h.at, show 9 + j = (8 + j) + 1 by omega, rc, List.getElem?_cons_succ, List.getElem?_append_right (by omega), e, show 8 + j - 8 = j by omega, List.getElem?_append_left hj]; exact hv
theorem Rn.count {w : World} {g n : Nat} {l : List Nat} {b : List UInt8} (h : Rn w g l b n) (hl : l.length = 8) (hb : b.length = 64) : w.cell? ⟨g, 73, none⟩ = some (.int .u64 (n : Int)) := by
  have e : (dv l).length = 8 := by rw [dv_length, hl]
  have e2 : (bvs b).length = 64 := by rw [bvs_length, hb]
  rw [h.at, show 73 = 72 + 1 by omega, rc, List.getElem?_cons_succ, List.getElem?_append_right (by omega), e, List.getElem?_append_right (by omega), e2]; rfl
theorem Rn.there {w : World} {g n : Nat} {l : List Nat} {b : List UInt8} (h : Rn w g l b n) (hl : l.length = 8) : w.there g 1 8 := by
  intro j hj
  refine ⟨?_, h.frozen _⟩
  have := h.so j ((dv l)[j]'(by rw [dv_length]; omega)) (by simp)
  rw [this]; rfl
theorem Rn.setCount {w : World} {g n : Nat} {l : List Nat} {b : List UInt8} (h : Rn w g l b n) (hl : l.length = 8) (hb : b.length = 64) (m : Nat) : Rn (w.setCell ⟨g, 73, none⟩ (.int .u64 (m : Int))) g l b m := by
  have e : ∀ x : Value, (rc l b n).set 73 x = .bool true :: (dv l ++ (bvs b ++ [x])) := by
    intro x
    have e1 : (dv l).length = 8 := by rw [dv_length, hl]
    have e2 : (bvs b).length = 64 := by rw [bvs_length, hb]
    rw [rc, show 73 = 72 + 1 by omega, List.set_cons_succ, List.set_append_right _ _ (by omega), e1, List.set_append_right _ _ (by omega), e2]; rfl
  unfold Rn at h ⊢
  simp only [World.setCell, Array.getElem?_modify, h, if_true, Option.map_some]
  rw [List.setIfInBounds_toArray, e]
  rfl
/-- cells of a block's middle, written one by one -/
theorem setCells_mid (g : Nat) (t : TypeId) : ∀ (vs old a c : List Value) (w : World), old.length = vs.length → w.heap[g]? = some (.cells (a ++ (old ++ c)).toArray t (0, 0)) →
    (w.setCells g a.length vs).heap[g]? = some (.cells (a ++ (vs ++ c)).toArray t (0, 0))
  | [], old, a, c, w, hl, h => by
    obtain rfl : old = [] := List.eq_nil_of_length_eq_zero hl
    exact h
  | v :: vs, [], a, c, w, hl, h => by cases hl
  | v :: vs, x :: old, a, c, w, hl, h => by
    have h1 : (w.setCell ⟨g, a.length, none⟩ v).heap[g]? = some (.cells ((a ++ [v]) ++ (old ++ c)).toArray t (0, 0)) := by
      simp only [World.setCell, Array.getElem?_modify, h, if_true, Option.map_some]
      simp
    have := setCells_mid g t vs old (a ++ [v]) c _ (by simpa using hl) h1
    rw [World.setCells]
    simpa using this
theorem setCells_other (g k : Nat) (hk : k ≠ g) : ∀ (vs : List Value) (o : Nat) (w : World), (w.setCells g o vs).heap[k]? = w.heap[k]?
  | [], _, _ => rfl
  | v :: vs, o, w => by rw [World.setCells, setCells_other g k hk vs, Below.heap_setCell w ⟨g, o, none⟩ v k hk]
theorem setCells_size (g : Nat) : ∀ (vs : List Value) (o : Nat) (w : World), (w.setCells g o vs).heap.size = w.heap.size
  | [], _, _ => rfl
  | v :: vs, o, w => by rw [World.setCells, setCells_size g vs]; simp
theorem setCells_rest (g : Nat) : ∀ (vs : List Value) (o : Nat) (w : World), (w.setCells g o vs).os = w.os ∧ (w.setCells g o vs).tape = w.tape ∧ (w.setCells g o vs).output = w.output
  | [], _, _ => ⟨rfl, rfl, rfl⟩
  | v :: vs, o, w => by rw [World.setCells]; exact setCells_rest g vs (o + 1) (w.setCell ⟨g, o, none⟩ v)
theorem Rn.setSo {w : World} {g n : Nat} {l m : List Nat} {b : List UInt8} (h : Rn w g l b n) (hl : l.length = m.length) : Rn (w.setCells g 1 (dv m)) g m b n :=
  setCells_mid g 118 (dv m) (dv l) [.bool true] _ w (by rw [dv_length, dv_length, hl]) h
theorem splice_mid {α : Type} (a b c p : List α) (o : Nat) (hp : o + p.length ≤ b.length) : splice (a ++ (b ++ c)) (a.length + o) p = a ++ (splice b o p ++ c) := by
  unfold splice
  rw [List.take_append, List.drop_append, List.take_of_length_le (show a.length ≤ a.length + o by omega), show a.length + o - a.length = o by omega, List.drop_eq_nil_of_le (show a.length ≤ a.length + o + p.length by omega),
    show a.length + o + p.length - a.length = o + p.length by omega, List.take_append_of_le_length (by omega), List.drop_append_of_le_length (by omega)]
  simp
theorem bvs_splice (b p : List UInt8) (o : Nat) : bvs (splice b o p) = splice (bvs b) o (bvs p) := by
  unfold splice; rw [bvs_append, bvs_append, bvs_take, bvs_drop, bvs_length]
theorem Rn.copy {w : World} {g n : Nat} {l : List Nat} {b : List UInt8} (h : Rn w g l b n) (hl : l.length = 8) (o : Nat) (p : List UInt8) (hp : o + p.length ≤ b.length) : Rn (w.setRow g (splice (rc l b n) (9 + o) (bvs p)).toArray) g l (splice b o p) n := by
  have e : splice (rc l b n) (9 + o) (bvs p) = rc l (splice b o p) n := by
    have := splice_mid (.bool true :: dv l) (bvs b) [.int .u64 (n : Int)] (bvs p) o (by rw [bvs_length, bvs_length]; exact hp)
    rw [List.length_cons, dv_length, hl] at this
    rw [rc, rc, bvs_splice]
    exact this
  rw [e]
  exact setRow_heap w g _ _ 118 (0, 0) h

/-- block g is a run of these bytes -/
def RunIs (w : World) (g : Nat) (bs : List UInt8) : Prop := ∃ b : List UInt8, b.length = 64 ∧ b.take (bs.length % 64) = bs.drop (64 * (bs.length / 64)) ∧ Rn w g (eat hh bs (bs.length / 64)) b bs.length
theorem RunIs.lt {w : World} {g : Nat} {bs : List UInt8} (h : RunIs w g bs) : g < w.heap.size := by obtain ⟨b, _, _, h⟩ := h; exact h.lt
theorem RunIs.heap {w w' : World} {g : Nat} {bs : List UInt8} (h : RunIs w g bs) (e : w'.heap[g]? = w.heap[g]?) : RunIs w' g bs := by
  obtain ⟨b, h1, h2, h3⟩ := h; exact ⟨b, h1, h2, e.trans h3⟩
theorem so_length (bs : List UInt8) (n : Nat) : (eat hh bs n).length = 8 := eat_length _ _ _ hh_length
theorem so_sm (bs : List UInt8) (n : Nat) : Sm (eat hh bs n) := eat_sm _ _ _ hh_sm
/-- some more bytes, the block not whole yet -/
theorem run_part (X p b : List UInt8) (hb : b.length = 64) (h : b.take (X.length % 64) = X.drop (64 * (X.length / 64))) (hp : X.length % 64 + p.length ≤ 64) (hz : (X.length + p.length) % 64 ≠ 0) :
    (splice b (X.length % 64) p).length = 64 ∧ (splice b (X.length % 64) p).take ((X ++ p).length % 64) = (X ++ p).drop (64 * ((X ++ p).length / 64)) ∧ eat hh (X ++ p) ((X ++ p).length / 64) = eat hh X (X.length / 64) := by
  have hq : (X ++ p).length / 64 = X.length / 64 := by rw [List.length_append]; omega
  have hr : (X ++ p).length % 64 = X.length % 64 + p.length := by rw [List.length_append]; omega
  refine ⟨by rw [length_splice _ _ _ (by omega), hb], ?_, ?_⟩
  · rw [hq, hr, List.drop_append_of_le_length (by omega), ← h, splice, ← List.append_assoc, List.take_append_of_le_length (by simp; omega), List.take_of_length_le (by simp; omega)]
  · rw [hq, eat_append _ _ _ _ (by omega)]
/-- some more bytes, by which the block gets whole -/
theorem run_whole (X p b : List UInt8) (hb : b.length = 64) (h : b.take (X.length % 64) = X.drop (64 * (X.length / 64))) (hp : X.length % 64 + p.length = 64) :
    (splice b (X.length % 64) p).length = 64 ∧ (splice b (X.length % 64) p).take ((X ++ p).length % 64) = (X ++ p).drop (64 * ((X ++ p).length / 64)) ∧ eat hh (X ++ p) ((X ++ p).length / 64) = comp (eat hh X (X.length / 64)) (splice b (X.length % 64) p) := by
  have hq : (X ++ p).length / 64 = X.length / 64 + 1 := by rw [List.length_append]; omega
  have hr : (X ++ p).length % 64 = 0 := by rw [List.length_append]; omega
  have hs : splice b (X.length % 64) p = X.drop (64 * (X.length / 64)) ++ p := by
    have e : b.drop (X.length % 64 + p.length) = [] := List.drop_eq_nil_of_le (by omega)
    rw [splice, h, e, List.append_nil]
  refine ⟨by rw [length_splice _ _ _ (by omega), hb], ?_, ?_⟩
  · rw [hr, List.take_zero, List.drop_eq_nil_of_le (by rw [hq, List.length_append]; omega)]
  · rw [hq, eat, eat_append _ _ _ _ (by omega), hs, List.drop_append_of_le_length (by omega), List.take_of_length_le (by simp; omega)]

theorem grown_of {w w' : World} (h : Below w.heap.size w w') (row : Option Nat) : w.grownBy w' row := ⟨h.os, h.tape, h.output, h.size, fun k hk _ => h.block k hk⟩
theorem grown_row {w wr : World} {g : Nat} (h : w.grownBy wr (some g)) (cs : Array Value) : w.grownBy (wr.setRow g cs) (some g) :=
  ⟨h.os, h.tape, h.output, by simpa [World.setRow] using h.size, fun k hk hn => (setRow_other wr g k cs (by intro e; exact hn (by rw [e]))).trans (h.block k hk hn)⟩
theorem grown_cell {w wr : World} {g i : Nat} (h : w.grownBy wr (some g)) (u : Value) : w.grownBy (wr.setCell ⟨g, i, none⟩ u) (some g) :=
  ⟨h.os, h.tape, h.output, by simpa using h.size, fun k hk hn => (Below.heap_setCell wr ⟨g, i, none⟩ u k (by intro e; exact hn (by rw [e]))).trans (h.block k hk hn)⟩
theorem grown_cells {w wr : World} {g i : Nat} (h : w.grownBy wr (some g)) (vs : List Value) : w.grownBy (wr.setCells g i vs) (some g) :=
  ⟨(setCells_rest g vs i wr).1.trans h.os, (setCells_rest g vs i wr).2.1.trans h.tape, (setCells_rest g vs i wr).2.2.trans h.output, by rw [setCells_size]; exact h.size, fun k hk hn => (setCells_other g k (by intro e; exact hn (by rw [e])) vs i wr).trans (h.block k hk hn)⟩
theorem grown_drew {w wr : World} {row : Option Nat} (h : w.grownBy wr row) : w.grownBy wr.drew row := ⟨h.os, h.tape, h.output, h.size, h.block⟩
theorem Kt.grown {w w' : World} {g : Nat} (h : Kt w) (hg : w.grownBy w' (some g)) (h3 : 2 ≠ g) : Kt w' := fun j hj => by
  have := hg.block 2 h.lt (by intro e; injection e with e; exact h3 e)
  rw [World.cell?_of_block (a := ⟨2, j, none⟩) this]; exact h j hj
theorem Rd.grown {w w' : World} {g : Nat} {A : Option Addr} {bs : List UInt8} (h : Rd w A bs) (hg : w.grownBy w' (some g)) (hA : ∀ ad, A = some ad → ad.block ≠ g) : Rd w' A bs := by
  intro hp
  obtain ⟨gp, o, rfl, hlt, hc⟩ := h hp
  have hne : gp ≠ g := hA _ rfl
  refine ⟨gp, o, rfl, Nat.lt_of_lt_of_le hlt hg.size, fun j hj => ?_⟩
  have := hg.block gp hlt (by intro e; injection e with e; exact hne e)
  rw [World.cell?_of_block (a := ⟨gp, o + j, none⟩) this]; exact hc j hj
end Go.Proofs.YtioebjbjpjbodaaDoor
