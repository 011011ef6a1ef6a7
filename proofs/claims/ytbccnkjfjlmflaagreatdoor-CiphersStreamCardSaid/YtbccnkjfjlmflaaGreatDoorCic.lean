/-
  Laws for arrays of bytes; ciphers.against, walked. Conditions: none.
-/
import Derived.Test.YtbccnkjfjlmflaaGreatDoorCib
import Derived.BigQuiet
import Derived.Deep.DeepCutAuto
namespace Go.Proofs.YtbccnkjfjlmflaaGreatDoor
open Go.RowKit
set_option linter.unusedVariables false
set_option linter.unusedSimpArgs false

theorem agg5 (w : World) : (isAgg 5).run Tryz.prog w = .ok false w := by kernel_rfl
theorem size5 (w : World) : (sizeOf 5).run Tryz.prog w = .ok 1 w := by kernel_rfl
/-- a byte of an array by value -/
theorem ix_any (t n : Nat) (hu : Tryz.prog.underlying t = some (.array n 5)) (b : List UInt8) (hl : b.length = n) (j : Nat) (hj : j < n) (w : World) :
    (Instr.index t (.agg (bvs b).toArray) (.int .i64 (j : Int))).run Tryz.prog w = .ok (bv (gb b j)) w := by
  have h2 : (0 : Int) ≤ (j : Int) ∧ (j : Int) < (n : Int) := by omega
  have h3 : (bvs b)[j]? = some (bv (gb b j)) := by
    rw [gb_lt (by omega)]
    simp [bvs, show j < b.length by omega]; rfl
  simp [Instr.index, asIntOf, run_underlying hu, h2, size5, part, agg5, h3]
  intro h; omega
theorem z16 : (bvs (List.replicate 16 0)).toArray = #[.int .u8 0, .int .u8 0, .int .u8 0, .int .u8 0, .int .u8 0, .int .u8 0, .int .u8 0, .int .u8 0, .int .u8 0, .int .u8 0, .int .u8 0, .int .u8 0, .int .u8 0, .int .u8 0, .int .u8 0, .int .u8 0] := rfl
/-- the first j bytes new, the others as they were -/
def upto (n : Nat) (f : Nat → UInt8) (old : List UInt8) (j : Nat) : List UInt8 := tab n fun i => if i < j then f i else gb old i
theorem upto_length (n : Nat) (f : Nat → UInt8) (old : List UInt8) (j : Nat) : (upto n f old j).length = n := tab_length _ _
theorem upto_none (n : Nat) (f : Nat → UInt8) (old : List UInt8) (h : old.length = n) : upto n f old 0 = old := tab_eq n _ old h fun i hi => if_neg (by omega)
theorem upto_all (n : Nat) (f : Nat → UInt8) (old : List UInt8) : upto n f old n = tab n f := tab_congr _ _ _ fun i hi => if_pos hi
theorem upto_set (n : Nat) (f : Nat → UInt8) (old : List UInt8) (j : Nat) : (upto n f old j).set j (f j) = upto n f old (j + 1) := by
  unfold upto
  rw [tab_set]
  refine tab_congr _ _ _ fun i hi => ?_
  by_cases h : i = j
  · subst h; rw [if_pos rfl, if_pos (by omega)]
  · rw [if_neg h]
    by_cases h2 : i < j
    · rw [if_pos h2, if_pos (by omega)]
    · rw [if_neg h2, if_neg (by omega)]
theorem upto_at (n : Nat) (f : Nat → UInt8) (old : List UInt8) (j i : Nat) (hi : i < n) (h : j ≤ i) : gb (upto n f old j) i = gb old i := by rw [upto, gb_tab _ _ _ hi, if_neg (by omega)]
theorem bx1 (w : World) (t : TypeId) (a : List UInt8) : Bx w [(w.heap.size, t, a)] (w.alloc (.cells (bvs a).toArray t)) := (Bx.nil w).add t a
theorem al_size (w : World) (o : Obj) : (w.alloc o).heap.size = w.heap.size + 1 := Array.size_push _
theorem Bx.put {w w' : World} {l : List (Nat × TypeId × List UInt8)} (h : Bx w l w') (t : TypeId) (b : List UInt8) (g : Nat) (hg : w'.heap.size = g) : Bx w ((g, t, b) :: l) (w'.alloc (.cells (bvs b).toArray t)) := hg ▸ h.add t b
theorem bx2 (w : World) (t u : TypeId) (a b : List UInt8) : Bx w [(w.heap.size + 1, u, b), (w.heap.size, t, a)] ((w.alloc (.cells (bvs a).toArray t)).alloc (.cells (bvs b).toArray u)) := (bx1 w t a).put u b _ (al_size _ _)
theorem bx3 (w : World) (t u v : TypeId) (a b c : List UInt8) : Bx w [(w.heap.size + 1 + 1, v, c), (w.heap.size + 1, u, b), (w.heap.size, t, a)] (((w.alloc (.cells (bvs a).toArray t)).alloc (.cells (bvs b).toArray u)).alloc (.cells (bvs c).toArray v)) :=
  (bx2 w t u a b).put v c _ (by rw [al_size, al_size])
/-- this list begins with the operation that fills slot d; with this store -/
theorem isD {P : Program} {ops : Array Oper} {Q : Exit → Act → World → Prop} {l : List Oper} {o : Oper} {a : Act} {w : World} (d : Nat) (hd : o.dst = some d) (h : wpList P ops Q (o :: l) a w) : wpList P ops Q (o :: l) a w := h
theorem isS {P : Program} {ops : Array Oper} {Q : Exit → Act → World → Prop} {l : List Oper} {o : Oper} {a : Act} {w : World} (ty : TypeId) (x y : Operand) (ho : o.op = .store ty x y) (h : wpList P ops Q (o :: l) a w) : wpList P ops Q (o :: l) a w := h
theorem wp_ld {ops : Array Oper} {rest : List Oper} {o : Oper} {a : Act} {w : World} {Q : Exit → Act → World → Prop} (hw : Region.wanted o (yielded ops a.tmps) = true) (ty : TypeId) (x : Operand) (ho : o.op = .load ty x) (p : Value) (hx : a.eval x = p) (v : Value) (hl : (Instr.loadAt ty p).run Tryz.prog w = .ok v w)
    (h : wpList Tryz.prog ops Q rest (a.put o.dst v) w) : wpList Tryz.prog ops Q (o :: rest) a w := by
  refine Go.BigFrame.wpList_want hw fun K hK => ?_
  unfold Oper.wp execOp
  simp only [ho, hx, Sem.run_bind, Result.andThen_ok, hl]
  exact hK _ _ h
theorem wp_st {ops : Array Oper} {rest : List Oper} {o : Oper} {a : Act} {w w' : World} {Q : Exit → Act → World → Prop} (hw : Region.wanted o (yielded ops a.tmps) = true) (ty : TypeId) (x y : Operand) (ho : o.op = .store ty x y) (p v : Value) (hx : a.eval x = p) (hy : a.eval y = v) (hl : (Instr.storeAt ty p v).run Tryz.prog w = .ok () w')
    (h : wpList Tryz.prog ops Q rest (a.put o.dst undef) w') : wpList Tryz.prog ops Q (o :: rest) a w := by
  refine Go.BigFrame.wpList_want hw fun K hK => ?_
  unfold Oper.wp execOp
  simp only [ho, hx, hy, Sem.run_bind, Result.andThen_ok, hl]
  exact hK _ _ h
theorem row16 : (Tryz.prog.info? 22).map (·.size) = some 16 := by kernel_rfl
theorem st16 : (Tryz.prog.info? 51).map (·.size) = some 16 := by kernel_rfl
set_option maxRecDepth 100000 in
set_option maxHeartbeats 4000000 in
theorem against_any (a b : List UInt8) (w : World) (ha : a.length = 16) (hb : b.length = 16) :
    Calls Tryz.prog 71 #[.agg (bvs a).toArray, .agg (bvs b).toArray] w fun e w' => e = .returned (.agg (bvs (ag a b)).toArray) ∧ Below w.heap.size w w' := by
  have HA := hid ha
  have HB := hid hb
  clear ha hb
  have B3 := hid (bx3 w 51 51 51 a b (List.replicate 16 0))
  go_enter Tryz.func71, Tryz.ntmps71
  go_upto_region 1 with fail
  rw [← z16]
  generalize ((w.alloc (.cells (bvs a).toArray 51)).alloc (.cells (bvs b).toArray 51)).alloc (.cells (bvs (List.replicate 16 0)).toArray 51) = w1 at *
  have hld := ld_all (B3.out.bt 1 rfl) 51 _ Tryz.underlying51 rfl 16 HB.out st16
  have HIX := hid (ix_any 51 16 Tryz.underlying51 b HB.out)
  have B4 := hid (p := Bx w [(w.heap.size + 1 + 1, 51, List.replicate 16 0), (w.heap.size + 1, 51, b), (w.heap.size, 51, upto 16 (fun i => gb a i ^^^ gb b i) a 0)] w1) (by rw [upto_none _ _ _ HA.out]; exact B3.out)
  clear B3
  go_wp2_with (((with_reducible refine isD 7 rfl ?_); refine wp_ld (by kernel_rfl) 51 (.tmp 3) rfl _ rfl _ hld ?_))
  clear hld
  go_loopw [8] (fun i wr => ∃ j : Nat, j ≤ 16 ∧ i = .int .i64 j ∧ Hid (Bx w [(w.heap.size + 1 + 1, 51, List.replicate 16 0), (w.heap.size + 1, 51, b), (w.heap.size, 51, upto 16 (fun i => gb a i ^^^ gb b i) a j)] wr)) (fun i _ => 16 - (intOf i).toNat)
  case atStart => exact ⟨0, Nat.zero_le _, rfl, B4⟩
  case round =>
    clear B4
    obtain ⟨j, hj, rfl, BJ⟩ := hrel
    by_cases hlt : j < 16
    · have HJ := hid hlt
      have hxj := HIX.out j HJ.out
      have hc := BJ.out.cell 2 rfl j (by rw [upto_length]; exact HJ.out)
      rw [upto_at _ _ _ _ _ HJ.out (Nat.le_refl _)] at hc
      have hf := BJ.out.frozen 2 rfl j
      have hx := xor_u8 (gb a j) (gb b j)
      have BN := hid (BJ.out.set 2 rfl j (gb a j ^^^ gb b j))
      rw [upto_set] at BN
      generalize gb a j ^^^ gb b j = y at *
      go_wp2
      go_roundw
      case rel => exact ⟨j + 1, by omega, by go_num, BN⟩
      case measure => simp [intOf]; omega
    · obtain rfl : j = 16 := by omega
      rw [upto_all] at BJ
      have hl2 := ld_all (l := ag a b) (BJ.out.bt 2 rfl) 51 _ Tryz.underlying51 rfl 16 (ag_length a b) st16
      have hs2 := st_all (BJ.out.bt 0 rfl) 51 (ag a b) 16 (ag_length a b) (by simp) st16
      have hrow := BJ.out.row 0 rfl (ag a b)
      have HZ2 := hid (hrow.bt 0 rfl)
      have HB2 := hid hrow.below
      clear hrow
      unfold Bt at HZ2
      generalize hz : (bvs (ag a b)).toArray = z at *
      have HZ := hid hz
      have HI := hid (p := (Tryz.prog.info? 51).map (·.size) = some z.size) (by rw [← hz, bsz, ag_length a b]; exact st16)
      clear hz
      go_wp2_with (first | ((with_reducible refine isD 19 rfl ?_); refine wp_ld (by kernel_rfl) 51 (.tmp 2) rfl _ rfl _ hl2 ?_) | ((with_reducible refine isS 51 (.tmp 4) (.tmp 19) rfl ?_); refine wp_st (by kernel_rfl) 51 (.tmp 4) (.tmp 19) rfl _ _ rfl rfl hs2 ?_))
      exact bodyPost_ret (v := .agg z) (results_cell_row (p := 4) (ty := 51) Tryz.results71 _ _ _ 51 z (0, 0) _ rfl HZ2.out Tryz.underlying51 rfl HI.out) rfl ⟨by rw [HZ.out], HB2.out⟩
end Go.Proofs.YtbccnkjfjlmflaaGreatDoor
