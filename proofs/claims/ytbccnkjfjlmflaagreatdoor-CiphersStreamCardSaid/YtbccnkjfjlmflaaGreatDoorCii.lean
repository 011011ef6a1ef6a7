/-
  A region that draws its order over boxes of bytes; ciphers.spread, walked. Conditions: none.
-/
import Derived.Test.YtbccnkjfjlmflaaGreatDoorCih
import Derived.Test.YtbccnkjfjlmflaaGreatDoorOrdT
namespace Go.Proofs.YtbccnkjfjlmflaaGreatDoor
open Go.RowKit
set_option linter.unusedVariables false
set_option linter.unusedSimpArgs false

/-- the boxes stand as long as one of these has not come up -/
def SBx (w : World) (l : List (Nat × TypeId × List UInt8)) (E : List Nat) (L : Array Bool) (u : World) : Prop := (∃ i ∈ E, L.getD i true = false) → Bx w l u
section
variable {w u : World} {l : List (Nat × TypeId × List UInt8)} {E : List Nat} {L : Array Bool}
theorem SBx.of (h : Bx w l u) : SBx w l E L u := fun _ => h
theorem SBx.off (h : (E.all fun i => L.getD i true) = true) : SBx w l E L u := fun ⟨i, hi, e⟩ => by have := List.all_eq_true.1 h i hi; rw [e] at this; cases this
theorem SBx.quiet {i : Nat} (hi : E.contains i = false) (h : SBx w l E (L.setIfInBounds i true) u) : SBx w l E L u := fun ⟨j, hj, e⟩ => h ⟨j, hj, by
  have hne : i ≠ j := fun e => by subst e; simp at hi; exact hi hj
  rw [getD_set_ne true hne]; exact e⟩
theorem SBx.yet {i : Nat} (h : Yet (SBx w l E) [i] u) (hi : E.contains i = true) : Bx w l u := by
  obtain ⟨up, h1, h2⟩ := h
  exact h2 ⟨i, by simpa using hi, h1 i (by simp)⟩
end
theorem y_ld {o : Oper} {a : Act} {u : World} (ty : TypeId) (x : Operand) (ho : o.op = .load ty x) (p v : Value) (hx : a.eval x = p) (hl : (Instr.loadAt ty p).run Tryz.prog u = .ok v u) : (execOp a.eval o).run Tryz.prog u = .ok (.value v) u := by
  unfold execOp
  simp only [ho, hx, Sem.run_bind, Sem.run_pure, Result.andThen_ok, hl]
/-- a store whose run is known -/
theorem step_st {ops : Array Oper} {o : Oper} {a : Act} {w w' : World} {K : Act → World → Prop} {Q : Exit → Act → World → Prop} {E : Prop} (hw : Region.wanted o (yielded ops a.tmps) = true) (ty : TypeId) (x y : Operand) (ho : o.op = .store ty x y) (p v : Value) (hx : a.eval x = p) (hy : a.eval y = v) (hl : (Instr.storeAt ty p v).run Tryz.prog w = .ok () w')
    (h : K (a.put o.dst undef) w') : if Region.wanted o (yielded ops a.tmps) = true then Oper.wp Tryz.prog o a w K Q else E := by
  rw [if_pos hw]
  unfold Oper.wp execOp
  simp only [ho, hx, hy, Sem.run_bind, Result.andThen_ok, hl]
  exact h
def r160 : List UInt8 := List.replicate 160 0
theorem r160_length : r160.length = 160 := List.length_replicate
theorem z176E : Tryz.zeroCells53 = (bvs (List.replicate 176 0)).toArray := by kernel_rfl
theorem wd176 : (Tryz.prog.info? 53).map (·.size) = some 176 := by kernel_rfl
theorem wp_bd {ops : Array Oper} {rest : List Oper} {o : Oper} {a : Act} {w : World} {Q : Exit → Act → World → Prop} (hw : Region.wanted o (yielded ops a.tmps) = true) (t : TypeId) (parts : Array (Nat × Operand)) (ho : o.op = .build t parts) (ps : Array (Nat × Value)) (hp : (parts.map fun (i, x) => (i, a.eval x)) = ps) (v : Value) (hl : (Instr.build t ps).run Tryz.prog w = .ok v w)
    (h : wpList Tryz.prog ops Q rest (a.put o.dst v) w) : wpList Tryz.prog ops Q (o :: rest) a w := by
  subst hp
  refine Go.BigFrame.wpList_want hw fun K hK => ?_
  unfold Oper.wp execOp
  simp only [ho, Sem.run_bind, Result.andThen_ok, hl]
  exact hK _ _ h
set_option maxRecDepth 100000 in
/-- the words of one round, noughts behind them -/
theorem bd_words (b : List UInt8) (h : b.length = 16) (w : World) : (Instr.build 53 #[(0, .agg (bvs b).toArray)]).run Tryz.prog w = .ok (.agg (bvs (b ++ r160)).toArray) w := by
  match b, h with
  | [x0, x1, x2, x3, x4, x5, x6, x7, x8, x9, x10, x11, x12, x13, x14, x15], _ =>
    refine run_build w _ _ _ ?_
    kernel_rfl
/-- the words of the first rounds, n of them reckoned -/
def wk (key : List UInt8) : Nat → List UInt8
  | 0 => key ++ r160
  | n + 1 => mid (wk key n) (16 * (n + 1)) (fol SB (xts 1 n) (rkw (wk key n) n))
theorem wk_length (key : List UInt8) (h : key.length = 16) (n : Nat) (hn : n ≤ 10) : (wk key n).length = 176 := by
  induction n with
  | zero => rw [wk, List.length_append, r160_length, h]
  | succ n ih => rw [wk, mid_length _ _ _ (by rw [fol_length, ih (by omega)]; omega), ih (by omega)]
set_option maxRecDepth 100000 in
set_option maxHeartbeats 4000000 in
theorem spread_any (g : Nat) (b : List UInt8) (w : World) (ht : Bt w g 49 SB) (hb : b.length = 16) :
    Calls Tryz.prog 15 #[.agg (bvs b).toArray, .pointer (some ⟨g, 0, none⟩)] w fun e w' => e = .returned (.agg (bvs (wk b 10)).toArray) ∧ Below w.heap.size w w' := by
  have HT := hid ht
  have HB := hid hb
  clear ht hb
  have B2 := hid (p := Bx w [(w.heap.size + 1, 53, List.replicate 176 0), (w.heap.size, 51, b)] ((w.alloc (.cells (bvs b).toArray 51)).alloc (.cells Tryz.zeroCells53 53))) (by rw [z176E]; exact bx2 w 51 53 b (List.replicate 176 0))
  have HSZ : ((w.alloc (.cells (bvs b).toArray 51)).alloc (.cells Tryz.zeroCells53 53)).heap.size = w.heap.size + 1 + 1 := by rw [al_size, al_size]
  go_enter Tryz.func15, Tryz.ntmps15
  go_upto_region 1 with fail
  generalize (w.alloc (.cells (bvs b).toArray 51)).alloc (.cells Tryz.zeroCells53 53) = w1 at *
  have hld := ld_all (B2.out.bt 1 rfl) 51 _ Tryz.underlying51 rfl 16 HB.out st16
  have hbd := bd_words b HB.out w1
  have HS1 := hid (p := w1.heap.size = w.heap.size + 1 + 1) HSZ
  have B3 := hid (p := Bx w ((w.heap.size + 1 + 1, 53, List.replicate 176 0) :: [(w.heap.size + 1, 53, List.replicate 176 0), (w.heap.size, 51, b)]) (w1.alloc (.cells Tryz.zeroCells53 53))) (by rw [z176E]; exact B2.out.put 53 (List.replicate 176 0) _ HS1.out)
  have hst := st_all (B3.out.bt 0 rfl) 53 (wk b 0) 176 (wk_length b HB.out 0 (by decide)) (by simp) wd176
  have B4 := hid (p := Bx w [(w.heap.size + 1 + 1, 53, wk b 0), (w.heap.size + 1, 53, List.replicate 176 0), (w.heap.size, 51, b)] _) (B3.out.row 0 rfl (wk b 0))
  clear B2 B3
  rw [wk] at hst B4
  go_wp2_with (first | ((with_reducible refine isD 8 rfl ?_); refine wp_ld (by kernel_rfl) 51 (.tmp 2) rfl _ rfl _ hld ?_) | ((with_reducible refine isD 9 rfl ?_); refine wp_bd (by kernel_rfl) 53 _ rfl #[(0, .agg (bvs b).toArray)] (by kernel_rfl) _ hbd ?_) | ((with_reducible refine isS 53 (.tmp 5) (.tmp 9) rfl ?_); refine wp_st (by kernel_rfl) 53 (.tmp 5) (.tmp 9) rfl _ _ rfl rfl hst ?_))
  have B5 := hid (p := Bx w [(w.heap.size + 1 + 1, 53, wk b 0), (w.heap.size + 1, 53, List.replicate 176 0), (w.heap.size, 51, b)] ((w1.alloc (.cells Tryz.zeroCells53 53)).setRow (w.heap.size + 1 + 1) (bvs (b ++ r160)).toArray)) B4.out
  clear B4 hst hbd hld HS1
  generalize (w1.alloc (.cells Tryz.zeroCells53 53)).setRow (w.heap.size + 1 + 1) (bvs (b ++ r160)).toArray = w2 at *
  go_loopw [6, 10] (fun y i wr => ∃ j : Nat, j ≤ 10 ∧ i = .int .i64 j ∧ y = bv (xts 1 j) ∧ Hid (Bx w [(w.heap.size + 1 + 1, 53, wk b j), (w.heap.size + 1, 53, List.replicate 176 0), (w.heap.size, 51, b)] wr)) (fun _ i _ => 10 - (intOf i).toNat)
  case atStart => exact ⟨0, Nat.zero_le _, rfl, rfl, B5⟩
  case round =>
    clear B5
    obtain ⟨j, hj, rfl, rfl, BJ⟩ := hrel
    by_cases hlt : j < 10
    · have HJ := hid hlt
      have HWL := hid (wk_length b HB.out j hj)
      have hld := ld_mid (BJ.out.bt 0 rfl) 51 _ Tryz.underlying51 rfl (j * 16) 16 (by rw [HWL.out]; omega) st16
      rw [show ((wk b j).drop (j * 16)).take 16 = rkw (wk b j) j by rw [rkw, Nat.mul_comm]] at hld
      have HRL := hid (rkw_length (wk b j) j (by rw [HWL.out]; omega))
      have hj1 : IntKind.i64.wrap ((j : Int) + 1) = ((j + 1 : Nat) : Int) := by rw [IntKind.wrap_i64]; omega
      have HF := hid (following_any g SB (rkw (wk b j) j) (xts 1 j) wr (HT.out.on BJ.out.below) rfl HRL.out)
      have HE := hid (p := mid (wk b j) ((j + 1) * 16) (fol SB (xts 1 j) (rkw (wk b j) j)) = wk b (j + 1)) (by rw [Nat.mul_comm]; rfl)
      have HFL := hid (fol_length SB (xts 1 j) (rkw (wk b j) j))
      generalize fol SB (xts 1 j) (rkw (wk b j) j) = fl at *
      generalize rkw (wk b j) j = rk at *
      go_wp2_with (((with_reducible refine isD 17 rfl ?_); refine wp_ld (by kernel_rfl) 51 (.tmp 16) rfl _ rfl _ hld ?_))
      refine HF.out.mono ?_
      rintro e w3 ⟨rfl, hb3⟩
      have BK := hid (BJ.out.on hb3)
      clear HF hb3 BJ hld
      have hst := st_mid (BK.out.bt 0 rfl) 51 ((j + 1) * 16) fl 16 HFL.out (by rw [HWL.out]; have := HJ.out; omega) st16
      have BN := hid (BK.out.row 0 rfl (mid (wk b j) ((j + 1) * 16) fl))
      rw [HE.out] at BN hst
      have BN2 := hid (p := Bx w [(w.heap.size + 1 + 1, 53, wk b (j + 1)), (w.heap.size + 1, 53, List.replicate 176 0), (w.heap.size, 51, b)] (w3.setRow (w.heap.size + 1 + 1) (bvs (wk b (j + 1))).toArray)) BN.out
      clear BN
      go_upto_region 7 with (((with_reducible refine isS 51 (.tmp 21) (.tmp 20) rfl ?_); refine wp_st (by kernel_rfl) 51 (.tmp 21) (.tmp 20) rfl _ _ rfl rfl hst ?_))
      clear hst
      generalize w3.setRow (w.heap.size + 1 + 1) (bvs (wk b (j + 1))).toArray = w4 at *
      go_wp2_with fail
      refine (twice_any (xts 1 j) w4).mono ?_
      rintro e w5 ⟨rfl, rfl⟩
      go_wp2
      go_roundw
      case rel => exact ⟨j + 1, by omega, by go_num, rfl, BN2⟩
      case measure => simp [intOf]; omega
    · obtain rfl : j = 10 := by omega
      have hl2 := ld_all (l := wk b 10) (BJ.out.bt 0 rfl) 53 _ Tryz.underlying53 rfl 176 (wk_length b HB.out 10 (by decide)) wd176
      have hs2 := st_all (BJ.out.bt 1 rfl) 53 (wk b 10) 176 (wk_length b HB.out 10 (by decide)) (by simp) wd176
      have hrow := BJ.out.row 1 rfl (wk b 10)
      have HZ2 := hid (hrow.bt 1 rfl)
      have HB2 := hid hrow.below
      clear hrow
      unfold Bt at HZ2
      generalize hz : (bvs (wk b 10)).toArray = z at *
      have HZ := hid hz
      have HI := hid (p := (Tryz.prog.info? 53).map (·.size) = some z.size) (by rw [← hz, bsz, (show (wk b 10).length = 176 from wk_length b HB.out 10 (by decide))]; exact wd176)
      clear hz
      go_wp2_with (first | ((with_reducible refine isD 25 rfl ?_); refine wp_ld (by kernel_rfl) 53 (.tmp 5) rfl _ rfl _ hl2 ?_) | ((with_reducible refine isS 53 (.tmp 4) (.tmp 25) rfl ?_); refine wp_st (by kernel_rfl) 53 (.tmp 4) (.tmp 25) rfl _ _ rfl rfl hs2 ?_))
      exact bodyPost_ret (v := .agg z) (results_cell_row (p := 4) (ty := 53) Tryz.results15 _ _ _ 53 z (0, 0) _ rfl HZ2.out Tryz.underlying53 rfl HI.out) rfl ⟨by rw [HZ.out], HB2.out⟩
end Go.Proofs.YtbccnkjfjlmflaaGreatDoor
