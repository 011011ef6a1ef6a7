/-
  limbs.Cmp, walked. Conditions: none.
  limbs.Mul, walked. Conditions: none.
-/
import Derived.Test.YtcijnoapjicliaaDoorPkM
import Derived.Deep.DeepCutAuto
import Derived.BigQuiet
import Derived.Deep.QuietTactic
namespace Go.Proofs.YtcijnoapjicliaaDoor
open Go.RowKit
set_option linter.unusedVariables false

/-- two numbers' boxes -/
def LTw (w : World) (x y : Nat) (w' : World) : Prop := Below w.heap.size w w' ∧ Nm w' w.heap.size x ∧ Nm w' (w.heap.size + 1) y
theorem LTw.init (w : World) (x y : Nat) : LTw w x y ((w.alloc (.cells (cls x) 26)).alloc (.cells (cls y) 26)) := by
  refine ⟨bal (bal (Below.refl _ _) _) _, (Nm.new w x).alloc _, ?_⟩
  have := Nm.new (w.alloc (.cells (cls x) 26)) y
  simpa using this
theorem LTw.drew {w w' : World} {x y : Nat} (h : LTw w x y w') : LTw w x y w'.drew := ⟨h.1.drew, h.2.1, h.2.2⟩
theorem LTw.on {w w' w2 : World} {x y : Nat} (h : LTw w x y w') (hb : Below w'.heap.size w' w2) : LTw w x y w2 := ⟨bthen h.1 hb, h.2.1.on hb, h.2.2.on hb⟩
theorem LTw.alloc {w w' : World} {x y : Nat} (h : LTw w x y w') (o : Obj) : LTw w x y (w'.alloc o) := h.on (bal (Below.refl _ _) o)
theorem LTw.cell {w w' : World} {x y : Nat} (h : LTw w x y w') : w'.cell? ⟨w.heap.size, 0, none⟩ = some (.int .u64 (wd x 0 : Int)) ∧ w'.cell? ⟨w.heap.size, 1, none⟩ = some (.int .u64 (wd x 1 : Int)) ∧ w'.cell? ⟨w.heap.size, 2, none⟩ = some (.int .u64 (wd x 2 : Int)) ∧ w'.cell? ⟨w.heap.size, 3, none⟩ = some (.int .u64 (wd x 3 : Int)) ∧ w'.cell? ⟨w.heap.size + 1, 0, none⟩ = some (.int .u64 (wd y 0 : Int)) ∧ w'.cell? ⟨w.heap.size + 1, 1, none⟩ = some (.int .u64 (wd y 1 : Int)) ∧ w'.cell? ⟨w.heap.size + 1, 2, none⟩ = some (.int .u64 (wd y 2 : Int)) ∧ w'.cell? ⟨w.heap.size + 1, 3, none⟩ = some (.int .u64 (wd y 3 : Int)) := by
  obtain ⟨a, b, c, d⟩ := h.2.1.cell
  obtain ⟨e, f, g, i⟩ := h.2.2.cell
  exact ⟨a, b, c, d, e, f, g, i⟩
theorem LTw.sz {w w' : World} {x y : Nat} (h : LTw w x y w') : w.heap.size + 1 < w'.heap.size := h.2.2.lt
theorem LTw.set {w w' : World} {x y : Nat} (h : LTw w x y w') (g i : Nat) (v : Value) (hg : w.heap.size + 1 < g) : LTw w x y (w'.setCell ⟨g, i, none⟩ v) :=
  ⟨h.1.setCell (by simp; omega) v, (Below.heap_setCell w' ⟨g, i, none⟩ v w.heap.size (by simp; omega)).trans h.2.1, (Below.heap_setCell w' ⟨g, i, none⟩ v (w.heap.size + 1) (by simp; omega)).trans h.2.2⟩
theorem bcell {W w1 : World} (hb : Below W.heap.size W w1) : (∀ b o, b < W.heap.size → w1.cell? ⟨b, o, none⟩ = W.cell? ⟨b, o, none⟩) ∧ (∀ b o, b < W.heap.size → w1.frozen? ⟨b, o, none⟩ = W.frozen? ⟨b, o, none⟩) :=
  ⟨fun b o h => hb.cell (p := ⟨b, o, none⟩) h, fun b o h => hb.frozen (p := ⟨b, o, none⟩) h⟩
/-- what was there reads as it did, and lies below what is made next -/
def Kept (W w : World) : Prop := (∀ b o, b < W.heap.size → w.cell? ⟨b, o, none⟩ = W.cell? ⟨b, o, none⟩) ∧ (∀ b o, b < W.heap.size → w.frozen? ⟨b, o, none⟩ = W.frozen? ⟨b, o, none⟩) ∧ (∀ b, b < W.heap.size → (b < w.heap.size) = True) ∧ (∀ b, b < W.heap.size → (b = w.heap.size) = False) ∧ (∀ b, b < W.heap.size → (w.heap.size = b) = False)
theorem Kept.of {W w : World} (hb : Below W.heap.size W w) : Kept W w :=
  ⟨(bcell hb).1, (bcell hb).2, fun b h => eq_true (Nat.lt_of_lt_of_le h hb.size), fun b h => eq_false (by have := hb.size; omega), fun b h => eq_false (by have := hb.size; omega)⟩
theorem split_tw (x y z : Nat) (w w' : World) (h : LTw w x y w') : Calls Tryd.prog 31 #[num z] w' fun e w2 => e = .returned (.agg (hcls z)) ∧ LTw w x y w2 ∧ Kept w' w2 :=
  (split_any z w').mono fun e w2 ⟨he, hb⟩ => ⟨he, h.on hb, Kept.of hb⟩
theorem hf_step (x k : Nat) : x / 4294967296 ^ k = x / 4294967296 ^ (k + 1) * 4294967296 + hf x k := by
  unfold hf
  rw [Nat.pow_succ, ← Nat.div_div_eq_div_mul]
  omega
theorem hf_top (x y : Nat) (hx : x < 2 ^ 256) (hy : y < 2 ^ 256) (k : Nat) (h : ∀ j, k ≤ j → j < 8 → hf x j = hf y j) (hk : k ≤ 8) : x / 4294967296 ^ k = y / 4294967296 ^ k := by
  induction hd : 8 - k generalizing k with
  | zero =>
    have : k = 8 := by omega
    subst this
    rw [Nat.div_eq_of_lt hx, Nat.div_eq_of_lt hy]
  | succ d ih =>
    rw [hf_step x k, hf_step y k, h k (Nat.le_refl _) (by omega), ih (k + 1) (fun j hj => h j (by omega)) (by omega) (by omega)]
theorem hf_all (x y : Nat) (hx : x < 2 ^ 256) (hy : y < 2 ^ 256) (h : ∀ j, j < 8 → hf x j = hf y j) : x = y := by
  have := hf_top x y hx hy 0 (fun j _ hj => h j hj) (by omega)
  simpa using this
theorem hf_less (x y k : Nat) (e : x / 4294967296 ^ (k + 1) = y / 4294967296 ^ (k + 1)) (h : hf x k < hf y k) : x < y := by
  have h2 : x / 4294967296 ^ k < y / 4294967296 ^ k := by rw [hf_step x k, hf_step y k, e]; omega
  rcases Nat.lt_or_ge x y with h3 | h3
  · exact h3
  · have := Nat.div_le_div_right (c := 4294967296 ^ k) h3
    omega
theorem cmp_half (x y k : Nat) (hx : x < 2 ^ 256) (hy : y < 2 ^ 256) (hk : k < 8) (h : ∀ j, k < j → j < 8 → hf x j = hf y j) (hne : hf x k ≠ hf y k) : cmpN (hf x k) (hf y k) = cmpN x y := by
  have e := hf_top x y hx hy (k + 1) (fun j hj => h j hj) (by omega)
  unfold cmpN
  rcases Nat.lt_or_gt_of_ne hne with h1 | h1
  · rw [if_pos h1, if_pos (hf_less x y k e h1)]
  · have := hf_less y x k e.symm h1
    rw [if_neg (by omega), if_pos h1, if_neg (by omega), if_pos this]

theorem below_drewN {B : Nat} {W w' : World} (h : Below B W w') (n : Nat) : Below B W (w'.drewN n) := by
  induction n with
  | zero => exact h
  | succ n ih => exact ih.drew
/-- these eight cells lie there -/
def H8 (w : World) (g x : Nat) : Prop := w.cell? ⟨g, 0, none⟩ = some (.int .u32 (hf x 0 : Int)) ∧ w.cell? ⟨g, 1, none⟩ = some (.int .u32 (hf x 1 : Int)) ∧ w.cell? ⟨g, 2, none⟩ = some (.int .u32 (hf x 2 : Int)) ∧ w.cell? ⟨g, 3, none⟩ = some (.int .u32 (hf x 3 : Int)) ∧ w.cell? ⟨g, 4, none⟩ = some (.int .u32 (hf x 4 : Int)) ∧ w.cell? ⟨g, 5, none⟩ = some (.int .u32 (hf x 5 : Int)) ∧ w.cell? ⟨g, 6, none⟩ = some (.int .u32 (hf x 6 : Int)) ∧ w.cell? ⟨g, 7, none⟩ = some (.int .u32 (hf x 7 : Int))
theorem H8.at {w : World} {g x : Nat} (h : H8 w g x) (k : Nat) (hk : k < 8) : w.cell? ⟨g, k, none⟩ = some (.int .u32 (hf x k : Int)) := by
  obtain ⟨h0, h1, h2, h3, h4, h5, h6, h7⟩ := h
  match k, hk with
  | 0, _ => exact h0
  | 1, _ => exact h1
  | 2, _ => exact h2
  | 3, _ => exact h3
  | 4, _ => exact h4
  | 5, _ => exact h5
  | 6, _ => exact h6
  | 7, _ => exact h7
theorem eq8_yes (a b c d e f g h : Int) (w : World) : (Op.equalIn 10000 66 (.agg #[.int .u32 a, .int .u32 b, .int .u32 c, .int .u32 d, .int .u32 e, .int .u32 f, .int .u32 g, .int .u32 h]) (.agg #[.int .u32 a, .int .u32 b, .int .u32 c, .int .u32 d, .int .u32 e, .int .u32 f, .int .u32 g, .int .u32 h])).run Tryd.prog w = .ok true w := by
  have u3 := Tryd.underlying64
  have a3 := Tryd.isAgg64
  have z3 := Tryd.sizeOf64
  rw [show (10000 : Nat) = 9999 + 1 from rfl, Op.equalIn]
  simp only [Sem.run_bind, run_underlying Tryd.underlying66, Result.andThen_ok]
  simp only [Std.Legacy.Range.forIn_eq_forIn_range', Std.Legacy.Range.size, Nat.sub_zero, Nat.add_sub_cancel, Nat.div_one, List.range'_succ, List.range'_zero, List.forIn_cons, List.forIn_nil]
  go_simp
theorem eq8_no (a b c d e f g h a' b' c' d' e' f' g' h' : Int) (hne : ¬ (a = a' ∧ b = b' ∧ c = c' ∧ d = d' ∧ e = e' ∧ f = f' ∧ g = g' ∧ h = h')) (w : World) : (Op.equalIn 10000 66 (.agg #[.int .u32 a, .int .u32 b, .int .u32 c, .int .u32 d, .int .u32 e, .int .u32 f, .int .u32 g, .int .u32 h]) (.agg #[.int .u32 a', .int .u32 b', .int .u32 c', .int .u32 d', .int .u32 e', .int .u32 f', .int .u32 g', .int .u32 h'])).run Tryd.prog w = .ok false w := by
  have u3 := Tryd.underlying64
  have a3 := Tryd.isAgg64
  have z3 := Tryd.sizeOf64
  rw [show (10000 : Nat) = 9999 + 1 from rfl, Op.equalIn]
  simp only [Sem.run_bind, run_underlying Tryd.underlying66, Result.andThen_ok]
  simp only [Std.Legacy.Range.forIn_eq_forIn_range', Std.Legacy.Range.size, Nat.sub_zero, Nat.add_sub_cancel, Nat.div_one, List.range'_succ, List.range'_zero, List.forIn_cons, List.forIn_nil]
  go_simp
  by_cases h1 : a = a'
  · by_cases h2 : b = b'
    · by_cases h3 : c = c'
      · by_cases h4 : d = d'
        · by_cases h5 : e = e'
          · by_cases h6 : f = f'
            · by_cases h7 : g = g'
              · by_cases h8 : h = h'
                · exact absurd ⟨h1, h2, h3, h4, h5, h6, h7, h8⟩ hne
                · simp [h1, h2, h3, h4, h5, h6, h7, h8]
              · simp [h1, h2, h3, h4, h5, h6, h7]
            · simp [h1, h2, h3, h4, h5, h6]
          · simp [h1, h2, h3, h4, h5]
        · simp [h1, h2, h3, h4]
      · simp [h1, h2, h3]
    · simp [h1, h2]
  · simp [h1]
theorem eq8_nums (x y : Nat) (hx : x < 2 ^ 256) (hy : y < 2 ^ 256) (hne : x ≠ y) (w : World) : (Op.equalIn 10000 66 (.agg (hcls x)) (.agg (hcls y))).run Tryd.prog w = .ok false w := by
  refine eq8_no _ _ _ _ _ _ _ _ _ _ _ _ _ _ _ _ (fun h => hne (hf_all x y hx hy ?_)) w
  obtain ⟨h0, h1, h2, h3, h4, h5, h6, h7⟩ := h
  intro j hj
  match j, hj with
  | 0, _ => exact_mod_cast h0
  | 1, _ => exact_mod_cast h1
  | 2, _ => exact_mod_cast h2
  | 3, _ => exact_mod_cast h3
  | 4, _ => exact_mod_cast h4
  | 5, _ => exact_mod_cast h5
  | 6, _ => exact_mod_cast h6
  | 7, _ => exact_mod_cast h7

set_option maxRecDepth 100000 in
set_option maxHeartbeats 1600000 in
theorem cmp_any (x y : Nat) (w : World) (hx : x < 2 ^ 256) (hy : y < 2 ^ 256) : Calls Tryd.prog 17 #[num x, num y] w fun e w' => e = .returned (.int .i64 (cmpN x y)) ∧ Below w.heap.size w w' := by
  go_enter Tryd.func17, Tryd.ntmps17
  go_upto_region 1 with fail
  have HT := hid (LTw.init w x y)
  generalize (w.alloc (.cells (cls x) 26)).alloc (.cells (cls y) 26) = w0 at *
  go_cut [5, 6] (fun s5 s6 wx => ∃ g5 g6 : Nat, s5 = .pointer (some ⟨g5, 0, none⟩) ∧ s6 = .pointer (some ⟨g6, 0, none⟩) ∧ Hid (H8 wx g5 x) ∧ Hid (H8 wx g6 y) ∧ Hid (LTw w x y wx))
  case first =>
    have cs := HT.out.cell
    have hz0 := HT.out.sz
    go_region_held3 (fun w' => w'.cell? ⟨w.heap.size, 0, none⟩ = some (.int .u64 (wd x 0 : Int)) ∧ w'.cell? ⟨w.heap.size, 1, none⟩ = some (.int .u64 (wd x 1 : Int)) ∧ w'.cell? ⟨w.heap.size, 2, none⟩ = some (.int .u64 (wd x 2 : Int)) ∧ w'.cell? ⟨w.heap.size, 3, none⟩ = some (.int .u64 (wd x 3 : Int)) ∧ w'.cell? ⟨w.heap.size + 1, 0, none⟩ = some (.int .u64 (wd y 0 : Int)) ∧ w'.cell? ⟨w.heap.size + 1, 1, none⟩ = some (.int .u64 (wd y 1 : Int)) ∧ w'.cell? ⟨w.heap.size + 1, 2, none⟩ = some (.int .u64 (wd y 2 : Int)) ∧ w'.cell? ⟨w.heap.size + 1, 3, none⟩ = some (.int .u64 (wd y 3 : Int)))
      (first | exact cs | exact LTw.cell (by repeat (first | exact HT.out | refine LTw.alloc ?_ _ | refine LTw.drew ?_)))
      (first | (go_at_call 31; refine (split_ex _ _).mono ?_; rintro e w1 ⟨rfl, rfl⟩))
    all_goals
      go_wp2_with fail
      go_meet
      refine ⟨_, _, rfl, rfl, hid ?_, hid ?_, hid ?_⟩
      · unfold H8; go_simp
      · unfold H8; go_simp
      · repeat (first | exact HT.out | refine LTw.alloc ?_ _ | refine LTw.drew ?_)
  case rest =>
    obtain ⟨g5, g6, rfl, rfl, HX, HY, HW⟩ := hcut
    clear HT
    obtain ⟨x0, x1, x2, x3, x4, x5, x6, x7⟩ := HX.out
    obtain ⟨y0, y1, y2, y3, y4, y5, y6, y7⟩ := HY.out
    by_cases hxy : x = y
    · subst hxy
      have heq := eq8_yes (hf x 0 : Int) (hf x 1 : Int) (hf x 2 : Int) (hf x 3 : Int) (hf x 4 : Int) (hf x 5 : Int) (hf x 6 : Int) (hf x 7 : Int)
      have HE := hid (p := cmpN x x = 0) (by unfold cmpN; simp)
      go_wp2
      go_ret
      exact ⟨by rw [HE.out]; rfl, HW.out.1⟩
    · have heq := eq8_nums x y hx hy hxy
      have HN := hid hxy
      have HLx := hid hx
      have HLy := hid hy
      clear hxy hx hy
      go_wp2
      clear x0 x1 x2 x3 x4 x5 x6 x7 y0 y1 y2 y3 y4 y5 y6 y7 heq
      go_loopw [7] (fun i wr => ∃ k : Nat, k < 8 ∧ i = .int .i64 k ∧ Hid (∀ j, k < j → j < 8 → hf x j = hf y j) ∧ Hid (H8 wr g5 x) ∧ Hid (H8 wr g6 y) ∧ Hid (Below w.heap.size w wr)) (fun i _ => (intOf i).toNat)
      case atStart => exact ⟨7, by omega, rfl, hid (fun j h1 h2 => by omega), HX, HY, hid HW.out.1⟩
      case round =>
        obtain ⟨k, hk, rfl, HJ, HX, HY, HB⟩ := hrel
        have cx := HX.out.at k hk
        have cy := HY.out.at k hk
        by_cases hq : hf x k = hf y k
        · have hk1 : 1 ≤ k := by
            rcases Nat.eq_zero_or_pos k with h | h
            · subst h
              exact absurd (hf_all x y HLx.out HLy.out (fun j hj => by
                rcases Nat.eq_zero_or_pos j with h | h
                · subst h; exact hq
                · exact HJ.out j h hj)) HN.out
            · exact h
          have HQ := hid hq
          rw [← hq] at cy
          clear hq
          go_wp2
          go_quiet (fail)
          go_wp2
          go_roundw
          case rel =>
            refine ⟨k - 1, by omega, by go_num, hid (fun j h1 h2 => ?_), HX, HY, hid ?_⟩
            · rcases Nat.lt_or_ge k j with h | h
              · exact HJ.out j h h2
              · have : j = k := by omega
                subst this; exact HQ.out
            · exact below_drewN HB.out nq
          case measure => simp [intOf]; omega
        · have HC := hid (cmp_half x y k HLx.out HLy.out hk HJ.out hq)
          have hne : ((hf x k : Int) == (hf y k : Int)) = false := by
            have : (hf x k : Int) ≠ (hf y k : Int) := by omega
            simpa using this
          clear hq
          go_wp2
          go_quiet (fail)
          have cx2 : (wr.drewN nq).cell? ⟨g5, k, none⟩ = some (.int .u32 (hf x k : Int)) := cx
          have cy2 : (wr.drewN nq).cell? ⟨g6, k, none⟩ = some (.int .u32 (hf y k : Int)) := cy
          have HB2 := hid (below_drewN HB.out nq)
          clear cx cy HX HY HB
          generalize wr.drewN nq = w2 at *
          go_wp2
          go_quiet ((go_at_call 32; exact Calls.quiet_of_same ((compare_any _ _ _).mono fun _ _ h => ⟨h.1, h.2.symm⟩)))
          go_wp2
          go_ret
          exact ⟨by rw [← HC.out]; rfl, below_drewN HB2.out _⟩
end Go.Proofs.YtcijnoapjicliaaDoor
namespace Go.Proofs.YtcijnoapjicliaaDoor
open Go.RowKit
set_option linter.unusedVariables false

/-- what stands while two numbers are multiplied: their boxes, the answers' -/
def LFo (w : World) (x y : Nat) (w' : World) : Prop :=
  Below w.heap.size w w' ∧ Nm w' w.heap.size x ∧ Nm w' (w.heap.size + 1) y ∧ Fr w' (w.heap.size + 1 + 1) (.int .u64 0) (.int .u64 0) (.int .u64 0) (.int .u64 0) ∧ Fr w' (w.heap.size + 1 + 1 + 1) (.int .u64 0) (.int .u64 0) (.int .u64 0) (.int .u64 0)
theorem LFo.init (w : World) (x y : Nat) : LFo w x y ((((w.alloc (.cells (cls x) 26)).alloc (.cells (cls y) 26)).alloc (.cells #[.int .u64 0, .int .u64 0, .int .u64 0, .int .u64 0] 26)).alloc (.cells #[.int .u64 0, .int .u64 0, .int .u64 0, .int .u64 0] 26)) := by
  refine ⟨bal (bal (bal (bal (Below.refl _ _) _) _) _) _, (((Nm.new w x).alloc _).alloc _).alloc _, ?_, ?_, ?_⟩
  · have := ((Nm.new (w.alloc (.cells (cls x) 26)) y).alloc (.cells #[.int .u64 0, .int .u64 0, .int .u64 0, .int .u64 0] 26)).alloc (.cells #[.int .u64 0, .int .u64 0, .int .u64 0, .int .u64 0] 26)
    simpa using this
  · have := (Fr.new ((w.alloc (.cells (cls x) 26)).alloc (.cells (cls y) 26)) (.int .u64 0) (.int .u64 0) (.int .u64 0) (.int .u64 0)).alloc (.cells #[.int .u64 0, .int .u64 0, .int .u64 0, .int .u64 0] 26)
    simpa using this
  · have := Fr.new (((w.alloc (.cells (cls x) 26)).alloc (.cells (cls y) 26)).alloc (.cells #[.int .u64 0, .int .u64 0, .int .u64 0, .int .u64 0] 26)) (.int .u64 0) (.int .u64 0) (.int .u64 0) (.int .u64 0)
    simpa using this
theorem LFo.drew {w w' : World} {x y : Nat} (h : LFo w x y w') : LFo w x y w'.drew := ⟨h.1.drew, h.2.1, h.2.2.1, h.2.2.2.1, h.2.2.2.2⟩
theorem LFo.on {w w' w2 : World} {x y : Nat} (h : LFo w x y w') (hb : Below w'.heap.size w' w2) : LFo w x y w2 := ⟨bthen h.1 hb, h.2.1.on hb, h.2.2.1.on hb, h.2.2.2.1.on hb, h.2.2.2.2.on hb⟩
theorem LFo.alloc {w w' : World} {x y : Nat} (h : LFo w x y w') (o : Obj) : LFo w x y (w'.alloc o) := h.on (bal (Below.refl _ _) o)
theorem LFo.sz {w w' : World} {x y : Nat} (h : LFo w x y w') : w.heap.size + 1 + 1 + 1 < w'.heap.size := h.2.2.2.2.lt
theorem LFo.cell {w w' : World} {x y : Nat} (h : LFo w x y w') : w'.cell? ⟨w.heap.size, 0, none⟩ = some (.int .u64 (wd x 0 : Int)) ∧ w'.cell? ⟨w.heap.size, 1, none⟩ = some (.int .u64 (wd x 1 : Int)) ∧ w'.cell? ⟨w.heap.size, 2, none⟩ = some (.int .u64 (wd x 2 : Int)) ∧ w'.cell? ⟨w.heap.size, 3, none⟩ = some (.int .u64 (wd x 3 : Int)) ∧ w'.cell? ⟨w.heap.size + 1, 0, none⟩ = some (.int .u64 (wd y 0 : Int)) ∧ w'.cell? ⟨w.heap.size + 1, 1, none⟩ = some (.int .u64 (wd y 1 : Int)) ∧ w'.cell? ⟨w.heap.size + 1, 2, none⟩ = some (.int .u64 (wd y 2 : Int)) ∧ w'.cell? ⟨w.heap.size + 1, 3, none⟩ = some (.int .u64 (wd y 3 : Int)) := by
  obtain ⟨a, b, c, d⟩ := h.2.1.cell
  obtain ⟨e, f, g, i⟩ := h.2.2.1.cell
  exact ⟨a, b, c, d, e, f, g, i⟩
theorem LFo.set {w w' : World} {x y : Nat} (h : LFo w x y w') (g i : Nat) (v : Value) (hg : w.heap.size + 1 + 1 + 1 < g) : LFo w x y (w'.setCell ⟨g, i, none⟩ v) :=
  ⟨h.1.setCell (by simp; omega) v, (Below.heap_setCell w' ⟨g, i, none⟩ v w.heap.size (by simp; omega)).trans h.2.1, (Below.heap_setCell w' ⟨g, i, none⟩ v (w.heap.size + 1) (by simp; omega)).trans h.2.2.1, h.2.2.2.1.setOther v (by omega), h.2.2.2.2.setOther v (by omega)⟩

/-- digits as cells -/
def dvs (ps : List Nat) : List Value := ps.map fun (d : Nat) => .int .u32 (d : Int)
/-- the second one's halves stay where they are -/
theorem H8.set {w : World} {g g' x i : Nat} (h : H8 w g x) (hne : g' ≠ g) (v : Value) : H8 (w.setCell ⟨g', i, none⟩ v) g x := by
  obtain ⟨h0, h1, h2, h3, h4, h5, h6, h7⟩ := h
  unfold H8
  refine ⟨?_, ?_, ?_, ?_, ?_, ?_, ?_, ?_⟩ <;> rw [World.cell?_setCell_far _ _ _ _ hne] <;> assumption

theorem H8.lt {w : World} {g x : Nat} (h : H8 w g x) : g < w.heap.size := World.block_lt_of_cell? w ⟨g, 0, none⟩ h.1
theorem H8.alloc {w : World} {g x : Nat} (h : H8 w g x) (o : Obj) : H8 (w.alloc o) g x := by
  have hl := h.lt
  obtain ⟨h0, h1, h2, h3, h4, h5, h6, h7⟩ := h
  unfold H8
  refine ⟨?_, ?_, ?_, ?_, ?_, ?_, ?_, ?_⟩ <;> rw [World.cell?_alloc_lt _ _ _ hl] <;> assumption
theorem idx8_0 (x : Nat) (w : World) : (Instr.index 66 (.agg (hcls x)) (.int .i64 0)).run Tryd.prog w = .ok (.int .u32 (hf x 0 : Int)) w := by kernel_rfl
theorem idx8_1 (x : Nat) (w : World) : (Instr.index 66 (.agg (hcls x)) (.int .i64 1)).run Tryd.prog w = .ok (.int .u32 (hf x 1 : Int)) w := by kernel_rfl
theorem idx8_2 (x : Nat) (w : World) : (Instr.index 66 (.agg (hcls x)) (.int .i64 2)).run Tryd.prog w = .ok (.int .u32 (hf x 2 : Int)) w := by kernel_rfl
theorem idx8_3 (x : Nat) (w : World) : (Instr.index 66 (.agg (hcls x)) (.int .i64 3)).run Tryd.prog w = .ok (.int .u32 (hf x 3 : Int)) w := by kernel_rfl
theorem idx8_4 (x : Nat) (w : World) : (Instr.index 66 (.agg (hcls x)) (.int .i64 4)).run Tryd.prog w = .ok (.int .u32 (hf x 4 : Int)) w := by kernel_rfl
theorem idx8_5 (x : Nat) (w : World) : (Instr.index 66 (.agg (hcls x)) (.int .i64 5)).run Tryd.prog w = .ok (.int .u32 (hf x 5 : Int)) w := by kernel_rfl
theorem idx8_6 (x : Nat) (w : World) : (Instr.index 66 (.agg (hcls x)) (.int .i64 6)).run Tryd.prog w = .ok (.int .u32 (hf x 6 : Int)) w := by kernel_rfl
theorem idx8_7 (x : Nat) (w : World) : (Instr.index 66 (.agg (hcls x)) (.int .i64 7)).run Tryd.prog w = .ok (.int .u32 (hf x 7 : Int)) w := by kernel_rfl
theorem idx8 (x k : Nat) (hk : k < 8) (w : World) : (Instr.index 66 (.agg (hcls x)) (.int .i64 (k : Int))).run Tryd.prog w = .ok (.int .u32 (hf x k : Int)) w := by
  match k, hk with
  | 0, _ => exact idx8_0 x w
  | 1, _ => exact idx8_1 x w
  | 2, _ => exact idx8_2 x w
  | 3, _ => exact idx8_3 x w
  | 4, _ => exact idx8_4 x w
  | 5, _ => exact idx8_5 x w
  | 6, _ => exact idx8_6 x w
  | 7, _ => exact idx8_7 x w
theorem step_copy8 {ops : Array Oper} {o : Oper} {a : Act} {w : World} {K : Act → World → Prop} {Q : Exit → Act → World → Prop} {E : Prop} (hgd : o.guard = none) (d s : Operand)
    (ho : o.op = .call { callee := .builtin .copy, args := #[d, s], argTypes := #[97, 97] }) (g gs off sC : Nat) (hd : a.eval d = .slice (some ⟨g, 0, none⟩) 8 8) (hs : a.eval s = .slice (some ⟨gs, off, none⟩) 8 sC)
    (cs : List Nat) (hlen : cs.length = 8) (cur : List Value) (hcur : cur.length = 8) (hg : w.heap[g]? = some (.cells cur.toArray 66 (0, 0))) (hsrc : ∀ j, (h : j < cs.length) → w.cell? ⟨gs, off + j, none⟩ = some (.int .u32 (cs[j] : Int)))
    (h : K (a.put o.dst (goInt 8)) (w.setRow g (dvs cs).toArray)) :
    if Region.wanted o (yielded ops a.tmps) = true then Oper.wp Tryd.prog o a w K Q else E := by
  have hw : Region.wanted o (yielded ops a.tmps) = true := by simp [Region.wanted, hgd]
  rw [if_pos hw]
  have hl : (dvs cs).length = 8 := by simp [dvs, hlen]
  have hrun := run_copy_row (P := Tryd.prog) w 97 97 o.type 64 g 0 8 8 ⟨gs, off, none⟩ 8 sC cur.toArray 66 (dvs cs) Tryd.underlying97 (by kernel_rfl) hg (by rw [hl]; rfl) (fun j v hv => by
    have hj : j < cs.length := by
      rcases Nat.lt_or_ge j cs.length with h | h
      · exact h
      · rw [List.getElem?_eq_none (by simpa [dvs] using h)] at hv; cases hv
    simp [dvs, hj] at hv
    rw [add_plain, hsrc j hj, hv]) (by simp [hl, hcur]) (by
      intro v hv
      simp only [dvs, List.mem_map] at hv
      obtain ⟨b, _, rfl⟩ := hv
      rfl)
  have e : (cur.toArray.toList.take 0 ++ dvs cs ++ cur.toArray.toList.drop (0 + (dvs cs).length)) = dvs cs := by
    rw [hl, List.drop_eq_nil_of_le (by simp [hcur])]; simp
  rw [e, hl] at hrun
  unfold Oper.wp
  simp [execOp, ho, resolve, invoke, builtin, hd, hs, hrun, Result.andThen]
  exact h
theorem LFo.row {w w' : World} {x y : Nat} (h : LFo w x y w') (g : Nat) (cs : Array Value) (hg : w.heap.size + 1 + 1 + 1 < g) : LFo w x y (w'.setRow g cs) :=
  ⟨below_setRow h.1 (by omega) cs, (setRow_other w' g w.heap.size cs (by omega)).trans h.2.1, (setRow_other w' g (w.heap.size + 1) cs (by omega)).trans h.2.2.1, (setRow_other w' g (w.heap.size + 1 + 1) cs (by omega)).trans h.2.2.2.1, (setRow_other w' g (w.heap.size + 1 + 1 + 1) cs (by omega)).trans h.2.2.2.2⟩
/-- eight digits of a number in a block are its halves -/
theorem H8.of {w : World} {g n : Nat} {cs : List Nat} (hlen : cs.length = 8) (hc : ∀ k, (h : k < cs.length) → cs[k] = hf n k) (hg : w.heap[g]? = some (.cells (dvs cs).toArray 66 (0, 0))) : H8 w g n := by
  have key : ∀ k, k < 8 → w.cell? ⟨g, k, none⟩ = some (.int .u32 (hf n k : Int)) := by
    intro k hk
    rw [cell_of_row w g k _ 66 (0, 0) hg, ← hc k (by omega)]
    simp [dvs, hlen, hk]
  exact ⟨key 0 (by omega), key 1 (by omega), key 2 (by omega), key 3 (by omega), key 4 (by omega), key 5 (by omega), key 6 (by omega), key 7 (by omega)⟩
theorem H8.drew {w : World} {g x : Nat} (h : H8 w g x) : H8 w.drew g x := h
theorem both8 {w : World} {gA lo hi : Nat} (h1 : H8 w gA lo) (h2 : H8 w (gA + 1) hi) : w.cell? ⟨gA, 0, none⟩ = some (.int .u32 (hf lo 0 : Int)) ∧ w.cell? ⟨gA, 1, none⟩ = some (.int .u32 (hf lo 1 : Int)) ∧ w.cell? ⟨gA, 2, none⟩ = some (.int .u32 (hf lo 2 : Int)) ∧ w.cell? ⟨gA, 3, none⟩ = some (.int .u32 (hf lo 3 : Int)) ∧ w.cell? ⟨gA, 4, none⟩ = some (.int .u32 (hf lo 4 : Int)) ∧ w.cell? ⟨gA, 5, none⟩ = some (.int .u32 (hf lo 5 : Int)) ∧ w.cell? ⟨gA, 6, none⟩ = some (.int .u32 (hf lo 6 : Int)) ∧ w.cell? ⟨gA, 7, none⟩ = some (.int .u32 (hf lo 7 : Int)) ∧ w.cell? ⟨gA + 1, 0, none⟩ = some (.int .u32 (hf hi 0 : Int)) ∧ w.cell? ⟨gA + 1, 1, none⟩ = some (.int .u32 (hf hi 1 : Int)) ∧ w.cell? ⟨gA + 1, 2, none⟩ = some (.int .u32 (hf hi 2 : Int)) ∧ w.cell? ⟨gA + 1, 3, none⟩ = some (.int .u32 (hf hi 3 : Int)) ∧ w.cell? ⟨gA + 1, 4, none⟩ = some (.int .u32 (hf hi 4 : Int)) ∧ w.cell? ⟨gA + 1, 5, none⟩ = some (.int .u32 (hf hi 5 : Int)) ∧ w.cell? ⟨gA + 1, 6, none⟩ = some (.int .u32 (hf hi 6 : Int)) ∧ w.cell? ⟨gA + 1, 7, none⟩ = some (.int .u32 (hf hi 7 : Int)) := by
  obtain ⟨a0, a1, a2, a3, a4, a5, a6, a7⟩ := h1
  obtain ⟨b0, b1, b2, b3, b4, b5, b6, b7⟩ := h2
  exact ⟨a0, a1, a2, a3, a4, a5, a6, a7, b0, b1, b2, b3, b4, b5, b6, b7⟩
end Go.Proofs.YtcijnoapjicliaaDoor
