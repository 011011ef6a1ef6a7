/-
  burrowref02.Of, Bit and Bits, walked. Conditions: none.
  burrowref02.Cmp, walked. Conditions: none.
  burrowref02.Add and Sub, walked. Conditions: none.
  What a loop over two boxes carries. Conditions: none.
  burrowref02.Mul, walked. Conditions: none.
  burrowref02.Shift, walked. Conditions: none.
-/
import Derived.Test.YtaggegknnnembaaAt
import Derived.BigQuiet
import Derived.Deep.QuietTactic
import Derived.Test.YtaggegknnnembaaBox
import Derived.Deep.RegionWith
import Derived.Deep.DeepCutAuto
namespace Go.Proofs.Ytaggegknnnembaa
open Go.RowKit
set_option linter.unusedVariables false

theorem rof_any (n : Nat) (w : World) (h : n < 18446744073709551616) : Calls Try.prog 49 #[.int .u64 (n : Int)] w fun e w' => e = .returned (num n) ∧ Below w.heap.size w w' := by
  have hn := hid (num_small n h)
  go_enter Try.func49, Try.ntmps49
  go_wp2
  refine bodyPost_ret (v := .agg #[.int .u64 (n : Int), .int .u64 0, .int .u64 0, .int .u64 0]) (by simp [results, Try.results49, go_sem]) rfl ⟨by rw [hn.out], ?_⟩
  repeat (first | exact Below.refl _ _ | refine Below.drew ?_ | refine bal ?_ _)

theorem tm2 (a p : Nat) : (((a : Int) / 2 ^ p).tmod 2) = ((a / 2 ^ p % 2 : Nat) : Int) := by
  have e : ((a : Int) / 2 ^ p) = ((a / 2 ^ p : Nat) : Int) := by simp
  rw [e, Int.tmod_eq_emod_of_nonneg (Int.natCast_nonneg _)]
  exact (Int.natCast_emod _ _).symm
theorem rbit_in (x q p : Nat) (n : Int) (w : World) (hq : q < 4) (hp : p < 64) (h : n = 64 * (q : Int) + p) : Calls Try.prog 52 #[num x, .int .i64 n] w fun e w' => e = .returned (.int .u64 ((wd x q / 2 ^ p % 2 : Nat) : Int)) ∧ Below w.heap.size w w' := by
  have h0 : 0 ≤ n := by omega
  have h1 : n < 256 := by omega
  have e1 : n / 64 = (q : Int) := by omega
  have e2 : n % 64 = (p : Int) := by omega
  have HL := hid (wd_lt x q)
  clear h
  have hc : q = 0 ∨ q = 1 ∨ q = 2 ∨ q = 3 := by omega
  clear hq
  rcases hc with rfl | rfl | rfl | rfl
  all_goals
    go_enter Try.func52, Try.ntmps52
    go_wp2
    go_ret
    refine ⟨?_, bal (Below.refl _ _) _⟩
    exact congrArg Ending.returned (congrArg (Value.int IntKind.u64) (tm2 _ p))
theorem rbit_out (x : Nat) (n : Int) (w : World) (h : n < 0 ∨ 256 ≤ n) : Calls Try.prog 52 #[num x, .int .i64 n] w fun e w' => e = .returned (.int .u64 0) ∧ Below w.heap.size w w' := by
  rcases h with h | h
  · go_enter Try.func52, Try.ntmps52
    go_wp2
    go_ret
    exact ⟨rfl, bal (Below.refl _ _) _⟩
  · have h2 : ¬ n < 0 := by omega
    go_enter Try.func52, Try.ntmps52
    go_wp2
    go_ret
    exact ⟨rfl, bal (Below.refl _ _) _⟩
theorem rbit_any (x : Nat) (n : Int) (w : World) (hx : x < 2 ^ 256) : Calls Try.prog 52 #[num x, .int .i64 n] w fun e w' => e = .returned (.int .u64 (bi x n : Int)) ∧ Below w.heap.size w w' := by
  by_cases h : 0 ≤ n ∧ n < 256
  · obtain ⟨k, rfl⟩ := Int.eq_ofNat_of_zero_le h.1
    have e : ((k : Nat) : Int) = 64 * ((k / 64 : Nat) : Int) + ((k % 64 : Nat) : Int) := by omega
    have hb := bi_word x (k % 64) (k : Int) ((k / 64 : Nat) : Int) hx e (Nat.mod_lt _ (by decide))
    rw [wi_nat x (k / 64) hx] at hb
    have := rbit_in x (k / 64) (k % 64) (k : Int) w (by omega) (Nat.mod_lt _ (by decide)) e
    rw [hb] at this
    exact this
  · have hb : bi x n = 0 := by
      unfold bi
      by_cases h2 : n < 0
      · rw [if_pos h2]
      · rw [if_neg h2]
        exact bitAt_high x _ 256 hx (by omega)
    rw [hb]
    exact rbit_out x n w (by omega)

set_option maxRecDepth 100000 in
theorem rbits_any (x : Nat) (w : World) (hx : x < 2 ^ 256) : Calls Try.prog 51 #[num x] w fun e w' => e = .returned (.int .i64 (nbits x : Int)) ∧ Below w.heap.size w w' := by
  have HX := hid hx
  have HE := hid ((Env.refl w).new x)
  clear hx
  go_enter Try.func51, Try.ntmps51
  go_wp2
  generalize w.alloc (.cells (cls x) 24) = w0 at *
  generalize w.heap.size = ga at *
  go_loopw [3] (fun i wr => ∃ k : Nat, k ≤ 256 ∧ i = .int .i64 k ∧ Hid (x < 2 ^ k) ∧ Hid (Env w [(ga, x)] wr)) (fun i _ => (intOf i).toNat)
  case atStart => exact ⟨256, by omega, rfl, HX, HE⟩
  case round =>
    obtain ⟨k, hk, rfl, HL, HE⟩ := hrel
    by_cases h0 : k = 0
    · subst h0
      have hn : nbits x = 0 := by
        have := HL.out
        have e : x = 0 := by simpa using this
        rw [e]; rfl
      have HN := hid hn
      clear hn
      go_wp2
      go_ret
      exact ⟨by rw [HN.out]; rfl, HE.out.1⟩
    · obtain ⟨m, rfl⟩ : ∃ m, k = m + 1 := ⟨k - 1, by omega⟩
      clear h0
      obtain ⟨c0, c1, c2, c3⟩ := HE.out.cell ga x (by simp)
      have hbl := bitAt_lt x m
      have w1 : (((m + 1 : Nat) : Int) - 1) = (m : Int) := by omega
      rcases (show bitAt x m = 0 ∨ bitAt x m = 1 by omega) with hbit | hbit
      · have HB := hid (p := (bi x (m : Int) : Int) = 0) (by unfold bi; rw [if_neg (by omega), Int.toNat_natCast, hbit]; rfl)
        have HL2 := hid (bit_none HL.out hbit)
        clear hbl hbit
        go_wp2_with fail
        refine (rbit_any x (m : Int) wr HX.out).mono ?_
        rintro e w1 ⟨rfl, hb⟩
        rw [HB.out]
        have HE2 := hid (HE.out.on hb)
        clear hb c0 c1 c2 c3
        go_wp2
        go_roundw
        case rel => exact ⟨m, by omega, by go_num, HL2, HE2⟩
        case measure => simp [intOf]
      · have HB := hid (p := (bi x (m : Int) : Int) = 1) (by unfold bi; rw [if_neg (by omega), Int.toNat_natCast, hbit]; rfl)
        have HN := hid (bit_top HL.out hbit)
        clear hbl hbit
        go_wp2_with fail
        refine (rbit_any x (m : Int) wr HX.out).mono ?_
        rintro e w1 ⟨rfl, hb⟩
        rw [HB.out]
        have HE2 := hid (HE.out.on hb)
        clear hb c0 c1 c2 c3
        go_wp2
        go_ret
        exact ⟨by rw [HN.out]; rfl, HE2.out.1⟩
end Go.Proofs.Ytaggegknnnembaa
namespace Go.Proofs.Ytaggegknnnembaa
open Go.RowKit
set_option linter.unusedVariables false

theorem cmp_mod (x k : Nat) : x % 18446744073709551616 ^ (k + 1) = x % 18446744073709551616 ^ k + 18446744073709551616 ^ k * wd x k := by
  unfold wd
  rw [Nat.pow_succ, Nat.mod_mul]
theorem low_less {r s P A B : Nat} (hr : r < P) (h : A < B) : r + P * A < s + P * B := by
  have := Nat.mul_le_mul_left P h
  rw [Nat.mul_succ] at this
  omega
theorem cmp_less (x y k : Nat) (h : wd x k < wd y k) : cmpN (x % 18446744073709551616 ^ (k + 1)) (y % 18446744073709551616 ^ (k + 1)) = -1 := by
  rw [cmp_mod x k, cmp_mod y k]
  unfold cmpN
  rw [if_pos (low_less (Nat.mod_lt _ (Nat.pow_pos (by decide))) h)]
theorem cmp_more (x y k : Nat) (h : wd y k < wd x k) : cmpN (x % 18446744073709551616 ^ (k + 1)) (y % 18446744073709551616 ^ (k + 1)) = 1 := by
  rw [cmp_mod x k, cmp_mod y k]
  unfold cmpN
  have h1 := low_less (s := x % 18446744073709551616 ^ k) (Nat.mod_lt y (Nat.pow_pos (n := k) (by decide : 0 < 18446744073709551616))) h
  rw [if_neg (by omega), if_pos h1]
theorem cmp_like (x y k : Nat) (h : wd x k = wd y k) : cmpN (x % 18446744073709551616 ^ (k + 1)) (y % 18446744073709551616 ^ (k + 1)) = cmpN (x % 18446744073709551616 ^ k) (y % 18446744073709551616 ^ k) := by
  rw [cmp_mod x k, cmp_mod y k, h]
  generalize x % 18446744073709551616 ^ k = r
  generalize y % 18446744073709551616 ^ k = s
  unfold cmpN
  split <;> split <;> (try split) <;> omega
theorem word_k {w : World} {g x : Nat} (h : Nm w g x) (k : Nat) (hk : k < 4) : w.cell? ⟨g, k, none⟩ = some (.int .u64 (wd x k : Int)) := by
  obtain ⟨h0, h1, h2, h3⟩ := h.cell
  match k, hk with
  | 0, _ => exact h0
  | 1, _ => exact h1
  | 2, _ => exact h2
  | 3, _ => exact h3
theorem Env.drewN {w w' : World} {l : List (Nat × Nat)} (h : Env w l w') (n : Nat) : Env w l (w'.drewN n) := by
  induction n with
  | zero => exact h
  | succ n ih => exact ih.drew

set_option maxRecDepth 100000 in
set_option maxHeartbeats 1600000 in
theorem rcmp_any (x y : Nat) (w : World) (hx : x < 2 ^ 256) (hy : y < 2 ^ 256) : Calls Try.prog 36 #[num x, num y] w fun e w' => e = .returned (.int .i64 (cmpN x y)) ∧ Below w.heap.size w w' := by
  have HX := hid hx
  have HY := hid hy
  have HE := hid ((Env.refl w).new2 x y)
  clear hx hy
  go_enter Try.func36, Try.ntmps36
  go_wp2
  generalize (w.alloc (.cells (cls x) 24)).alloc (.cells (cls y) 24) = w0 at *
  generalize w.heap.size + 1 = gb at *
  generalize w.heap.size = ga at *
  go_loopw [5, 6] (fun o i wr => ∃ (k : Nat) (z : Int), k ≤ 4 ∧ i = .int .i64 k ∧ o = .int .i64 z ∧ Hid (z = cmpN (x % 18446744073709551616 ^ k) (y % 18446744073709551616 ^ k)) ∧ Hid (Env w [(gb, y), (ga, x)] wr)) (fun _ i _ => 4 - (intOf i).toNat)
  case atStart => exact ⟨0, 0, by omega, rfl, rfl, hid (by simp [Nat.mod_one, cmpN]), HE⟩
  case round =>
    obtain ⟨k, z, hk, rfl, rfl, HZ, HE⟩ := hrel
    by_cases hlt : k < 4
    · have ca := word_k (HE.out.nm ga x (by simp)) k hlt
      have cb := word_k (HE.out.nm gb y (by simp)) k hlt
      rcases Nat.lt_trichotomy (wd x k) (wd y k) with g1 | g1 | g1
      · have HC := hid (cmp_less x y k g1)
        have g2 : ¬ wd y k < wd x k := by omega
        have d1 : decide (wd x k < wd y k) = true := by simpa using g1
        have d2 : decide (wd y k < wd x k) = false := by simpa using g2
        go_wp2
        go_quiet (fail)
        have ca2 : (wr.drewN nq).cell? ⟨ga, k, none⟩ = some (.int .u64 (wd x k : Int)) := ca
        have cb2 : (wr.drewN nq).cell? ⟨gb, k, none⟩ = some (.int .u64 (wd y k : Int)) := cb
        have HE2 := hid (HE.out.drewN nq)
        clear ca cb HE
        generalize wr.drewN nq = w2 at *
        go_wp2
        go_quiet (fail)
        go_wp2
        go_roundw
        case rel => exact ⟨k + 1, -1, by omega, by go_num, rfl, hid HC.out.symm, hid (HE2.out.drewN _)⟩
        case measure => simp [intOf]; omega
      · have HC := hid (cmp_like x y k g1)
        have g2 : ¬ wd y k < wd x k := by omega
        have g3 : ¬ wd x k < wd y k := by omega
        have d1 : decide (wd x k < wd y k) = false := by simpa using g3
        have d2 : decide (wd y k < wd x k) = false := by simpa using g2
        clear g1
        go_wp2
        go_quiet (fail)
        have ca2 : (wr.drewN nq).cell? ⟨ga, k, none⟩ = some (.int .u64 (wd x k : Int)) := ca
        have cb2 : (wr.drewN nq).cell? ⟨gb, k, none⟩ = some (.int .u64 (wd y k : Int)) := cb
        have HE2 := hid (HE.out.drewN nq)
        clear ca cb HE
        generalize wr.drewN nq = w2 at *
        go_wp2
        go_quiet (fail)
        go_wp2
        go_roundw
        case rel => exact ⟨k + 1, z, by omega, by go_num, rfl, hid (by rw [HC.out]; exact HZ.out), hid (HE2.out.drewN _)⟩
        case measure => simp [intOf]; omega
      · have HC := hid (cmp_more x y k g1)
        have g3 : ¬ wd x k < wd y k := by omega
        have d1 : decide (wd x k < wd y k) = false := by simpa using g3
        have d2 : decide (wd y k < wd x k) = true := by simpa using g1
        go_wp2
        go_quiet (fail)
        have ca2 : (wr.drewN nq).cell? ⟨ga, k, none⟩ = some (.int .u64 (wd x k : Int)) := ca
        have cb2 : (wr.drewN nq).cell? ⟨gb, k, none⟩ = some (.int .u64 (wd y k : Int)) := cb
        have HE2 := hid (HE.out.drewN nq)
        clear ca cb HE
        generalize wr.drewN nq = w2 at *
        go_wp2
        go_quiet (fail)
        go_wp2
        go_roundw
        case rel => exact ⟨k + 1, 1, by omega, by go_num, rfl, hid HC.out.symm, hid (HE2.out.drewN _)⟩
        case measure => simp [intOf]; omega
    · obtain rfl : k = 4 := by omega
      have HZ2 := hid (p := z = cmpN x y) (by
        have := HZ.out
        rw [show (18446744073709551616 : Nat) ^ 4 = 2 ^ 256 by decide, Nat.mod_eq_of_lt HX.out, Nat.mod_eq_of_lt HY.out] at this
        exact this)
      clear HZ
      go_wp2
      go_ret
      exact ⟨by rw [← HZ2.out]; rfl, HE.out.1⟩
end Go.Proofs.Ytaggegknnnembaa
namespace Go.Proofs.Ytaggegknnnembaa
open Go.RowKit
set_option linter.unusedVariables false

def wvs (ws : List Nat) : List Value := ws.map fun (d : Nat) => .int .u64 (d : Int)
/-- block g holds these words -/
def Wl (w : World) (g : Nat) (ws : List Nat) : Prop := w.heap[g]? = some (.cells (wvs ws).toArray 24 (0, 0))
theorem Wl.cell {w : World} {g : Nat} {ws : List Nat} (h : Wl w g ws) (k : Nat) (hk : k < ws.length) : w.cell? ⟨g, k, none⟩ = some (.int .u64 (ws[k] : Int)) := by
  rw [cell_of_row w g k _ 24 (0, 0) h]; simp [wvs, hk]
theorem Wl.frozen {w : World} {g : Nat} {ws : List Nat} (h : Wl w g ws) (i : Nat) : w.frozen? ⟨g, i, none⟩ = false := by
  unfold Wl at h; simp [World.frozen?, h]
theorem Wl.set {w : World} {g : Nat} {ws : List Nat} (h : Wl w g ws) (k v : Nat) : Wl (w.setCell ⟨g, k, none⟩ (.int .u64 (v : Int))) g (ws.set k v) := by
  unfold Wl at h ⊢; simp [World.setCell, Array.getElem?_modify, h, wvs, List.map_set]
theorem Nm.at {w : World} {g x : Nat} (h : Nm w g x) (k : Nat) (hk : k < 4) : w.cell? ⟨g, k, none⟩ = some (.int .u64 (wd x k : Int)) := by
  obtain ⟨h0, h1, h2, h3⟩ := h.cell
  match k, hk with
  | 0, _ => exact h0
  | 1, _ => exact h1
  | 2, _ => exact h2
  | 3, _ => exact h3
/-- the number that words tell, the lowest first -/
def vw : List Nat → Nat
  | [] => 0
  | d :: r => d + 18446744073709551616 * vw r
theorem vw_take (l : List Nat) (k : Nat) (hk : k < l.length) : vw (l.take (k + 1)) = vw (l.take k) + 18446744073709551616 ^ k * l[k] := by
  induction l generalizing k with
  | nil => simp at hk
  | cons d r ih =>
    match k with
    | 0 => simp [vw]
    | k + 1 =>
      have h := ih k (by simpa using hk)
      simp only [List.take_succ_cons, vw, List.getElem_cons_succ]
      rw [h, Nat.mul_add, Nat.pow_succ, Nat.mul_comm (18446744073709551616 ^ k) 18446744073709551616, Nat.mul_assoc]
      omega
theorem vw_set (l : List Nat) (k t : Nat) (hk : k < l.length) : vw ((l.set k t).take (k + 1)) = vw (l.take k) + 18446744073709551616 ^ k * t := by
  rw [vw_take _ _ (by simpa using hk), List.getElem_set_self, List.take_set_of_le (Nat.le_refl k)]
theorem mod_word (x k : Nat) : x % 18446744073709551616 ^ (k + 1) = x % 18446744073709551616 ^ k + 18446744073709551616 ^ k * wd x k := by
  unfold wd
  rw [Nat.pow_succ, Nat.mod_mul]
theorem add_step (x y k c c' t : Nat) (ws : List Nat) (hk : k < ws.length) (h : x % 18446744073709551616 ^ k + y % 18446744073709551616 ^ k = vw (ws.take k) + 18446744073709551616 ^ k * c) (ht : t + 18446744073709551616 * c' = wd x k + wd y k + c) :
    x % 18446744073709551616 ^ (k + 1) + y % 18446744073709551616 ^ (k + 1) = vw ((ws.set k t).take (k + 1)) + 18446744073709551616 ^ (k + 1) * c' := by
  rw [mod_word x k, mod_word y k, vw_set ws k t hk, Nat.pow_succ, Nat.mul_assoc]
  have e : 18446744073709551616 ^ k * t + 18446744073709551616 ^ k * (18446744073709551616 * c') = 18446744073709551616 ^ k * wd x k + 18446744073709551616 ^ k * wd y k + 18446744073709551616 ^ k * c := by
    rw [← Nat.mul_add, ht, Nat.mul_add, Nat.mul_add]
  omega
theorem sub_step (x y k c c' t : Nat) (ws : List Nat) (hk : k < ws.length) (h : vw (ws.take k) + y % 18446744073709551616 ^ k = x % 18446744073709551616 ^ k + 18446744073709551616 ^ k * c) (ht : t + wd y k + c = wd x k + 18446744073709551616 * c') :
    vw ((ws.set k t).take (k + 1)) + y % 18446744073709551616 ^ (k + 1) = x % 18446744073709551616 ^ (k + 1) + 18446744073709551616 ^ (k + 1) * c' := by
  rw [mod_word x k, mod_word y k, vw_set ws k t hk, Nat.pow_succ, Nat.mul_assoc]
  have e : 18446744073709551616 ^ k * t + 18446744073709551616 ^ k * wd y k + 18446744073709551616 ^ k * c = 18446744073709551616 ^ k * wd x k + 18446744073709551616 ^ k * (18446744073709551616 * c') := by
    rw [← Nat.mul_add, ← Nat.mul_add, ← Nat.mul_add, ht]
  omega
/-- what the loop carries -/
def Ca (w : World) (x y k : Nat) (ws : List Nat) (w' : World) : Prop := Wl w' w.heap.size ws ∧ Nm w' (w.heap.size + 1) y ∧ Fr w' (w.heap.size + 1 + 1) (.int .u64 0) (.int .u64 0) (.int .u64 0) (.int .u64 0) ∧ Below w.heap.size w w' ∧ ws.length = 4 ∧ (∀ j, k ≤ j → (h : j < ws.length) → ws[j] = wd x j) ∧ (∀ d ∈ ws, d < 18446744073709551616)
theorem Ca.init (w : World) (x y : Nat) : Ca w x y 0 [wd x 0, wd x 1, wd x 2, wd x 3] (((w.alloc (.cells (cls x) 24)).alloc (.cells (cls y) 24)).alloc (.cells #[.int .u64 0, .int .u64 0, .int .u64 0, .int .u64 0] 24)) := by
  refine ⟨((Nm.new w x).alloc _).alloc _, ?_, ?_, bal (bal (bal (Below.refl _ _) _) _) _, rfl, ?_, ?_⟩
  · have := (Nm.new (w.alloc (.cells (cls x) 24)) y).alloc (.cells #[.int .u64 0, .int .u64 0, .int .u64 0, .int .u64 0] 24)
    simpa using this
  · have := Fr.new ((w.alloc (.cells (cls x) 24)).alloc (.cells (cls y) 24)) (.int .u64 0) (.int .u64 0) (.int .u64 0) (.int .u64 0)
    simpa using this
  · intro j _ h
    match j, h with
    | 0, _ => rfl
    | 1, _ => rfl
    | 2, _ => rfl
    | 3, _ => rfl
  · intro d hd
    simp only [List.mem_cons, List.not_mem_nil, or_false] at hd
    rcases hd with rfl | rfl | rfl | rfl <;> exact wd_lt _ _
theorem Ca.drewN {w w' : World} {x y k : Nat} {ws : List Nat} (h : Ca w x y k ws w') (n : Nat) : Ca w x y k ws (w'.drewN n) := by
  induction n with
  | zero => exact h
  | succ n ih => exact ⟨ih.1, ih.2.1, ih.2.2.1, ih.2.2.2.1.drew, ih.2.2.2.2⟩
theorem Ca.set {w w' : World} {x y k : Nat} {ws : List Nat} (h : Ca w x y k ws w') (t : Nat) (ht : t < 18446744073709551616) : Ca w x y (k + 1) (ws.set k t) (w'.setCell ⟨w.heap.size, k, none⟩ (.int .u64 (t : Int))) := by
  obtain ⟨h1, h2, h3, h4, h5, h6, h7⟩ := h
  refine ⟨h1.set k t, (Below.heap_setCell w' ⟨w.heap.size, k, none⟩ _ (w.heap.size + 1) (by simp)).trans h2, h3.setOther _ (by omega), h4.setCell (p := ⟨w.heap.size, k, none⟩) (Nat.le_refl _) _, by simpa using h5, ?_, ?_⟩
  · intro j hj hl
    rw [List.getElem_set, if_neg (by omega)]
    exact h6 j (by omega) (by simpa using hl)
  · intro d hd
    rcases List.mem_or_eq_of_mem_set hd with h | h
    · exact h7 d h
    · omega
theorem list4 (ws : List Nat) (h : ws.length = 4) : ∃ a b c d, ws = [a, b, c, d] := by
  match ws, h with
  | [a, b, c, d], _ => exact ⟨a, b, c, d, rfl⟩

set_option maxRecDepth 100000 in
set_option maxHeartbeats 1600000 in
theorem r2add_any (x y : Nat) (w : World) (hx : x < 2 ^ 256) (hy : y < 2 ^ 256) :
    Calls Try.prog 45 #[num x, num y] w fun e w' => e = .returned (.tuple #[num ((x + y) % 2 ^ 256), .int .u64 (((x + y) / 2 ^ 256 : Nat) : Int)]) ∧ Below w.heap.size w w' := by
  have HX := hid hx
  have HY := hid hy
  have HC := hid (Ca.init w x y)
  clear hx hy
  go_enter Try.func45, Try.ntmps45
  go_wp2
  generalize ((w.alloc (.cells (cls x) 24)).alloc (.cells (cls y) 24)).alloc (.cells #[.int .u64 0, .int .u64 0, .int .u64 0, .int .u64 0] 24) = w0 at *
  go_loopw [6, 7] (fun c i wr => ∃ (k cy : Nat) (ws : List Nat), k ≤ 4 ∧ i = .int .i64 k ∧ c = .int .u64 cy ∧ cy ≤ 1 ∧ Hid (Ca w x y k ws wr) ∧ Hid (x % 18446744073709551616 ^ k + y % 18446744073709551616 ^ k = vw (ws.take k) + 18446744073709551616 ^ k * cy)) (fun _ i _ => 4 - (intOf i).toNat)
  case atStart => exact ⟨0, 0, _, by omega, rfl, rfl, by omega, HC, hid (by simp [Nat.mod_one, vw])⟩
  case round =>
    obtain ⟨k, cy, ws, hk, rfl, rfl, hc, HC, HV⟩ := hrel
    by_cases hlt : k < 4
    · obtain ⟨h1, h2, h3, h4, h5, h6, h7⟩ := HC.out
      have hkl : k < ws.length := by omega
      have ca := h1.cell k hkl
      rw [h6 k (Nat.le_refl _) hkl] at ca
      have cb := h2.at k hlt
      have hA := wd_lt x k
      have hB := wd_lt y k
      clear h1 h2 h3 h4 h5 h6 h7
      obtain ⟨S, eS⟩ : ∃ S, S = (wd x k + wd y k) % 18446744073709551616 := ⟨_, rfl⟩
      obtain ⟨t, eT⟩ : ∃ t, t = (S + cy) % 18446744073709551616 := ⟨_, rfl⟩
      have s1 : IntKind.u64.wrap ((wd x k : Int) + (wd y k : Int)) = (S : Int) := by rw [IntKind.wrap_u64]; omega
      have s2 : IntKind.u64.wrap ((S : Int) + (cy : Int)) = (t : Int) := by rw [IntKind.wrap_u64]; omega
      have ht : t < 18446744073709551616 := by omega
      have HS := hid (p := ∀ c', (c' = if S < wd y k ∨ t < cy then 1 else 0) → t + 18446744073709551616 * c' = wd x k + wd y k + cy) (by
        intro c' hc'
        have := addc hA hB hc
        rw [← eS, ← eT, ← hc'] at this
        exact this)
      have HT := hid ht
      have HKL := hid hkl
      clear hA hB eS eT ht hkl
      go_wp2
      go_quiet (fail)
      have HC2 := hid (HC.out.drewN nq)
      have ca2 : (wr.drewN nq).cell? ⟨w.heap.size, k, none⟩ = some (.int .u64 (wd x k : Int)) := ca
      have cb2 : (wr.drewN nq).cell? ⟨w.heap.size + 1, k, none⟩ = some (.int .u64 (wd y k : Int)) := cb
      have cf2 := HC2.out.1.frozen k
      clear ca cb HC
      generalize wr.drewN nq = w2 at *
      by_cases g1 : S < wd y k
      · have HS2 := hid (HS.out 1 (by rw [if_pos (Or.inl g1)]))
        go_wp2
        go_roundw
        case rel => exact ⟨k + 1, 1, ws.set k t, by omega, by go_num, rfl, by omega, hid (HC2.out.set t HT.out), hid (add_step x y k cy 1 t ws HKL.out HV.out HS2.out)⟩
        case measure => simp [intOf]; omega
      · by_cases g2 : t < cy
        · have HS2 := hid (HS.out 1 (by rw [if_pos (Or.inr g2)]))
          go_wp2
          go_roundw
          case rel => exact ⟨k + 1, 1, ws.set k t, by omega, by go_num, rfl, by omega, hid (HC2.out.set t HT.out), hid (add_step x y k cy 1 t ws HKL.out HV.out HS2.out)⟩
          case measure => simp [intOf]; omega
        · have HS2 := hid (HS.out 0 (by rw [if_neg (by omega)]))
          go_wp2
          go_roundw
          case rel => exact ⟨k + 1, 0, ws.set k t, by omega, by go_num, rfl, by omega, hid (HC2.out.set t HT.out), hid (add_step x y k cy 0 t ws HKL.out HV.out HS2.out)⟩
          case measure => simp [intOf]; omega
    · obtain rfl : k = 4 := by omega
      obtain ⟨h1, h2, h3, h4, h5, h6, h7⟩ := HC.out
      obtain ⟨a, b, c, d, rfl⟩ := list4 ws h5
      have l0 := h7 a (by simp)
      have l1 := h7 b (by simp)
      have l2 := h7 c (by simp)
      have l3 := h7 d (by simp)
      have hv := HV.out
      simp only [List.take, vw] at hv
      rw [show (18446744073709551616 : Nat) ^ 4 = 2 ^ 256 by decide, Nat.mod_eq_of_lt HX.out, Nat.mod_eq_of_lt HY.out] at hv
      have hv2 : v4 a b c d + 2 ^ 256 * cy = x + y := by rw [hv]; unfold v4; omega
      obtain ⟨q1', q2⟩ := sum_of l0 l1 l2 l3 hv2
      obtain ⟨s, q3⟩ : ∃ s, (x + y) % 2 ^ 256 = s := ⟨_, rfl⟩
      have q1 : v4 a b c d = s := by rw [q1', q3]
      clear hv hv2 q1'
      have hN : Nm wr w.heap.size s := by
        obtain ⟨z0, z1, z2, z3⟩ := wd_v4 l0 l1 l2 l3
        rw [q1] at z0 z1 z2 z3
        have e : (wvs [a, b, c, d]).toArray = cls s := by rw [cls, z0, z1, z2, z3]; rfl
        have := h1
        unfold Wl at this
        rw [e] at this
        exact this
      have HN := hid hN
      have HR := hid h3
      have HB := hid h4
      have Q1 := hid q1
      have Q2 := hid q2
      have Q3 := hid q3
      obtain ⟨c0, c1, c2, c3⟩ := hN.cell
      obtain ⟨d0, d1, d2, d3⟩ := h3.cell
      have df := h3.frozen
      clear h1 h2 h3 h4 h5 h6 h7 hN q1 q2 q3 l0 l1 l2 l3 HC
      go_wp2
      have HN2 := hid (fil_nm s HR.out)
      have HB2 := hid (fil_below s HB.out (show w.heap.size ≤ w.heap.size + 1 + 1 by omega))
      clear c0 c1 c2 c3 d0 d1 d2 d3 df
      change bodyPost _ _ _ _ _ (fil wr (w.heap.size + 1 + 1) s)
      generalize fil wr (w.heap.size + 1 + 1) s = wz at *
      obtain ⟨g0, g1, g2, g3⟩ := HN2.out.cell
      exact bodyPost_ret (v := .tuple #[num s, .int .u64 (cy : Int)]) (by simp [results, Try.results45, go_sem, g0, g1, g2, g3]) rfl ⟨by rw [Q3.out, Q2.out], HB2.out⟩

set_option maxRecDepth 100000 in
set_option maxHeartbeats 1600000 in
theorem r2sub_any (x y : Nat) (w : World) (hx : x < 2 ^ 256) (hy : y < 2 ^ 256) :
    Calls Try.prog 46 #[num x, num y] w fun e w' => e = .returned (.tuple #[num (dif x y), .int .u64 (lent x y : Int)]) ∧ Below w.heap.size w w' := by
  have HX := hid hx
  have HY := hid hy
  have HC := hid (Ca.init w x y)
  clear hx hy
  go_enter Try.func46, Try.ntmps46
  go_wp2
  generalize ((w.alloc (.cells (cls x) 24)).alloc (.cells (cls y) 24)).alloc (.cells #[.int .u64 0, .int .u64 0, .int .u64 0, .int .u64 0] 24) = w0 at *
  go_loopw [6, 7] (fun c i wr => ∃ (k cy : Nat) (ws : List Nat), k ≤ 4 ∧ i = .int .i64 k ∧ c = .int .u64 cy ∧ cy ≤ 1 ∧ Hid (Ca w x y k ws wr) ∧ Hid (vw (ws.take k) + y % 18446744073709551616 ^ k = x % 18446744073709551616 ^ k + 18446744073709551616 ^ k * cy)) (fun _ i _ => 4 - (intOf i).toNat)
  case atStart => exact ⟨0, 0, _, by omega, rfl, rfl, by omega, HC, hid (by simp [Nat.mod_one, vw])⟩
  case round =>
    obtain ⟨k, cy, ws, hk, rfl, rfl, hc, HC, HV⟩ := hrel
    by_cases hlt : k < 4
    · obtain ⟨h1, h2, h3, h4, h5, h6, h7⟩ := HC.out
      have hkl : k < ws.length := by omega
      have ca := h1.cell k hkl
      rw [h6 k (Nat.le_refl _) hkl] at ca
      have cb := h2.at k hlt
      have hA := wd_lt x k
      have hB := wd_lt y k
      clear h1 h2 h3 h4 h5 h6 h7
      obtain ⟨S, eS⟩ : ∃ S, S = (wd x k + 18446744073709551616 - wd y k) % 18446744073709551616 := ⟨_, rfl⟩
      obtain ⟨t, eT⟩ : ∃ t, t = (S + 18446744073709551616 - cy) % 18446744073709551616 := ⟨_, rfl⟩
      have s1 : IntKind.u64.wrap ((wd x k : Int) - (wd y k : Int)) = (S : Int) := by rw [IntKind.wrap_u64]; omega
      have s2 : IntKind.u64.wrap ((S : Int) - (cy : Int)) = (t : Int) := by rw [IntKind.wrap_u64]; omega
      have ht : t < 18446744073709551616 := by omega
      have HS := hid (p := ∀ c', (c' = if wd x k < wd y k ∨ S < cy then 1 else 0) → t + wd y k + cy = wd x k + 18446744073709551616 * c') (by
        intro c' hc'
        have := subb hA hB hc
        rw [← eS, ← eT, ← hc'] at this
        exact this)
      have HT := hid ht
      have HKL := hid hkl
      clear hA hB eS eT ht hkl
      go_wp2
      go_quiet (fail)
      have HC2 := hid (HC.out.drewN nq)
      have ca2 : (wr.drewN nq).cell? ⟨w.heap.size, k, none⟩ = some (.int .u64 (wd x k : Int)) := ca
      have cb2 : (wr.drewN nq).cell? ⟨w.heap.size + 1, k, none⟩ = some (.int .u64 (wd y k : Int)) := cb
      have cf2 := HC2.out.1.frozen k
      clear ca cb HC
      generalize wr.drewN nq = w2 at *
      by_cases g1 : wd x k < wd y k
      · have HS2 := hid (HS.out 1 (by rw [if_pos (Or.inl g1)]))
        have g3 : decide (wd x k < wd y k) = true := by simpa using g1
        go_wp2
        go_quiet (fail)
        go_wp2
        go_roundw
        case rel => exact ⟨k + 1, 1, ws.set k t, by omega, by go_num, rfl, by omega, hid ((HC2.out.drewN _).set t HT.out), hid (sub_step x y k cy 1 t ws HKL.out HV.out HS2.out)⟩
        case measure => simp [intOf]; omega
      · by_cases g2 : S < cy
        · have HS2 := hid (HS.out 1 (by rw [if_pos (Or.inr g2)]))
          have g3 : decide (wd x k < wd y k) = false := by simpa using g1
          have g4 : decide (S < cy) = true := by simpa using g2
          go_wp2
          go_quiet (fail)
          go_wp2
          go_roundw
          case rel => exact ⟨k + 1, 1, ws.set k t, by omega, by go_num, rfl, by omega, hid ((HC2.out.drewN _).set t HT.out), hid (sub_step x y k cy 1 t ws HKL.out HV.out HS2.out)⟩
          case measure => simp [intOf]; omega
        · have HS2 := hid (HS.out 0 (by rw [if_neg (by omega)]))
          have g3 : decide (wd x k < wd y k) = false := by simpa using g1
          have g4 : decide (S < cy) = false := by simpa using g2
          go_wp2
          go_quiet (fail)
          go_wp2
          go_roundw
          case rel => exact ⟨k + 1, 0, ws.set k t, by omega, by go_num, rfl, by omega, hid ((HC2.out.drewN _).set t HT.out), hid (sub_step x y k cy 0 t ws HKL.out HV.out HS2.out)⟩
          case measure => simp [intOf]; omega
    · obtain rfl : k = 4 := by omega
      obtain ⟨h1, h2, h3, h4, h5, h6, h7⟩ := HC.out
      obtain ⟨a, b, c, d, rfl⟩ := list4 ws h5
      have l0 := h7 a (by simp)
      have l1 := h7 b (by simp)
      have l2 := h7 c (by simp)
      have l3 := h7 d (by simp)
      have hv := HV.out
      simp only [List.take, vw] at hv
      rw [show (18446744073709551616 : Nat) ^ 4 = 2 ^ 256 by decide, Nat.mod_eq_of_lt HX.out, Nat.mod_eq_of_lt HY.out] at hv
      have hv2 : v4 a b c d + y = x + 2 ^ 256 * cy := by rw [← hv]; unfold v4; omega
      obtain ⟨q1', q2⟩ := dif_of HX.out HY.out l0 l1 l2 l3 hv2 hc
      obtain ⟨s, q3⟩ : ∃ s, dif x y = s := ⟨_, rfl⟩
      have q1 : v4 a b c d = s := by rw [q1', q3]
      clear hv hv2 q1'
      have hN : Nm wr w.heap.size s := by
        obtain ⟨z0, z1, z2, z3⟩ := wd_v4 l0 l1 l2 l3
        rw [q1] at z0 z1 z2 z3
        have e : (wvs [a, b, c, d]).toArray = cls s := by rw [cls, z0, z1, z2, z3]; rfl
        have := h1
        unfold Wl at this
        rw [e] at this
        exact this
      have HN := hid hN
      have HR := hid h3
      have HB := hid h4
      have Q1 := hid q1
      have Q2 := hid q2
      have Q3 := hid q3
      obtain ⟨c0, c1, c2, c3⟩ := hN.cell
      obtain ⟨d0, d1, d2, d3⟩ := h3.cell
      have df := h3.frozen
      clear h1 h2 h3 h4 h5 h6 h7 hN q1 q2 q3 l0 l1 l2 l3 HC
      go_wp2
      have HN2 := hid (fil_nm s HR.out)
      have HB2 := hid (fil_below s HB.out (show w.heap.size ≤ w.heap.size + 1 + 1 by omega))
      clear c0 c1 c2 c3 d0 d1 d2 d3 df
      change bodyPost _ _ _ _ _ (fil wr (w.heap.size + 1 + 1) s)
      generalize fil wr (w.heap.size + 1 + 1) s = wz at *
      obtain ⟨g0, g1, g2, g3⟩ := HN2.out.cell
      exact bodyPost_ret (v := .tuple #[num s, .int .u64 (cy : Int)]) (by simp [results, Try.results46, go_sem, g0, g1, g2, g3]) rfl ⟨by rw [Q3.out, Q2.out], HB2.out⟩
end Go.Proofs.Ytaggegknnnembaa
namespace Go.Proofs.Ytaggegknnnembaa
open Go.RowKit
set_option linter.unusedVariables false

/-- what the loop carries: the two numbers' boxes, and those of what is gathered -/
def Sp (w : World) (ga gb gl gh a b lo hi : Nat) (w' : World) : Prop := Env w [(gh, hi), (gl, lo), (gb, b), (ga, a)] w' ∧ gl ≠ ga ∧ gl ≠ gb ∧ gl ≠ gh ∧ gh ≠ ga ∧ gh ≠ gb ∧ w.heap.size ≤ gl ∧ w.heap.size ≤ gh
section
variable {w w' w2 : World} {ga gb gl gh a b lo hi : Nat}
theorem Sp.on (h : Sp w ga gb gl gh a b lo hi w') (hb : Below w'.heap.size w' w2) : Sp w ga gb gl gh a b lo hi w2 := ⟨h.1.on hb, h.2⟩
theorem Sp.drew (h : Sp w ga gb gl gh a b lo hi w') : Sp w ga gb gl gh a b lo hi w'.drew := ⟨h.1.drew, h.2⟩
theorem Sp.setLo (h : Sp w ga gb gl gh a b lo hi w') (x : Nat) : Sp w ga gb gl gh a b x hi (fil w' gl x) := by
  obtain ⟨⟨hb, hm⟩, h1, h2, h3, h4, h5, h6, h7⟩ := h
  refine ⟨⟨fil_below x hb h6, fun p hp => ?_⟩, h1, h2, h3, h4, h5, h6, h7⟩
  simp only [List.mem_cons, List.not_mem_nil, or_false] at hp
  rcases hp with rfl | rfl | rfl | rfl
  · exact fil_other x hi (hm (gh, hi) (by simp)) (Ne.symm h3)
  · exact fil_nm x (hm (gl, lo) (by simp)).fr
  · exact fil_other x b (hm (gb, b) (by simp)) (Ne.symm h2)
  · exact fil_other x a (hm (ga, a) (by simp)) (Ne.symm h1)
theorem Sp.setHi (h : Sp w ga gb gl gh a b lo hi w') (x : Nat) : Sp w ga gb gl gh a b lo x (fil w' gh x) := by
  obtain ⟨⟨hb, hm⟩, h1, h2, h3, h4, h5, h6, h7⟩ := h
  refine ⟨⟨fil_below x hb h7, fun p hp => ?_⟩, h1, h2, h3, h4, h5, h6, h7⟩
  simp only [List.mem_cons, List.not_mem_nil, or_false] at hp
  rcases hp with rfl | rfl | rfl | rfl
  · exact fil_nm x (hm (gh, hi) (by simp)).fr
  · exact fil_other x lo (hm (gl, lo) (by simp)) h3
  · exact fil_other x b (hm (gb, b) (by simp)) (Ne.symm h5)
  · exact fil_other x a (hm (ga, a) (by simp)) (Ne.symm h4)
theorem sp_of {f : FuncId} {args : Array Value} {v : Value} (hc : Calls Try.prog f args w' fun e w2 => e = .returned v ∧ Below w'.heap.size w' w2) (h : Sp w ga gb gl gh a b lo hi w') : Calls Try.prog f args w' fun e w2 => e = .returned v ∧ Sp w ga gb gl gh a b lo hi w2 :=
  hc.mono fun e w2 ⟨he, hb⟩ => ⟨he, h.on hb⟩
theorem Sp.cells (h : Sp w ga gb gl gh a b lo hi w') : (w'.cell? ⟨ga, 0, none⟩ = some (.int .u64 (wd a 0 : Int)) ∧ w'.cell? ⟨ga, 1, none⟩ = some (.int .u64 (wd a 1 : Int)) ∧ w'.cell? ⟨ga, 2, none⟩ = some (.int .u64 (wd a 2 : Int)) ∧ w'.cell? ⟨ga, 3, none⟩ = some (.int .u64 (wd a 3 : Int)))
    ∧ (w'.cell? ⟨gl, 0, none⟩ = some (.int .u64 (wd lo 0 : Int)) ∧ w'.cell? ⟨gl, 1, none⟩ = some (.int .u64 (wd lo 1 : Int)) ∧ w'.cell? ⟨gl, 2, none⟩ = some (.int .u64 (wd lo 2 : Int)) ∧ w'.cell? ⟨gl, 3, none⟩ = some (.int .u64 (wd lo 3 : Int)))
    ∧ (w'.cell? ⟨gh, 0, none⟩ = some (.int .u64 (wd hi 0 : Int)) ∧ w'.cell? ⟨gh, 1, none⟩ = some (.int .u64 (wd hi 1 : Int)) ∧ w'.cell? ⟨gh, 2, none⟩ = some (.int .u64 (wd hi 2 : Int)) ∧ w'.cell? ⟨gh, 3, none⟩ = some (.int .u64 (wd hi 3 : Int)))
    ∧ (∀ i, w'.frozen? ⟨gl, i, none⟩ = false) ∧ (∀ i, w'.frozen? ⟨gh, i, none⟩ = false) :=
  ⟨h.1.cell ga a (by simp), h.1.cell gl lo (by simp), h.1.cell gh hi (by simp), (h.1.nm gl lo (by simp)).fr.frozen, (h.1.nm gh hi (by simp)).fr.frozen⟩
end
end Go.Proofs.Ytaggegknnnembaa
namespace Go.Proofs.Ytaggegknnnembaa
open Go.RowKit
set_option linter.unusedVariables false

theorem fil_fr {w : World} {g g' : Nat} {a b c d : Value} (x : Nat) (h : Fr w g a b c d) (hne : g ≠ g') : Fr (fil w g' x) g a b c d :=
  (((h.setOther _ hne).setOther _ hne).setOther _ hne).setOther _ hne
/-- what the loop carries, and the answers' boxes -/
def Sq (w : World) (ga gb g4 g5 gl gh a b lo hi : Nat) (w' : World) : Prop := Sp w ga gb gl gh a b lo hi w' ∧ Fr w' g4 (.int .u64 0) (.int .u64 0) (.int .u64 0) (.int .u64 0) ∧ Fr w' g5 (.int .u64 0) (.int .u64 0) (.int .u64 0) (.int .u64 0) ∧ g4 ≠ gl ∧ g4 ≠ gh ∧ g5 ≠ gl ∧ g5 ≠ gh ∧ g4 ≠ g5 ∧ w.heap.size ≤ g4 ∧ w.heap.size ≤ g5
section
variable {w w' w2 : World} {ga gb g4 g5 gl gh a b lo hi : Nat}
theorem Sq.on (h : Sq w ga gb g4 g5 gl gh a b lo hi w') (hb : Below w'.heap.size w' w2) : Sq w ga gb g4 g5 gl gh a b lo hi w2 := ⟨h.1.on hb, h.2.1.on hb, h.2.2.1.on hb, h.2.2.2⟩
theorem Sq.drew (h : Sq w ga gb g4 g5 gl gh a b lo hi w') : Sq w ga gb g4 g5 gl gh a b lo hi w'.drew := ⟨h.1.drew, h.2⟩
theorem Sq.setLo (h : Sq w ga gb g4 g5 gl gh a b lo hi w') (x : Nat) : Sq w ga gb g4 g5 gl gh a b x hi (fil w' gl x) := ⟨h.1.setLo x, fil_fr x h.2.1 h.2.2.2.1, fil_fr x h.2.2.1 h.2.2.2.2.2.1, h.2.2.2⟩
theorem Sq.setHi (h : Sq w ga gb g4 g5 gl gh a b lo hi w') (x : Nat) : Sq w ga gb g4 g5 gl gh a b lo x (fil w' gh x) := ⟨h.1.setHi x, fil_fr x h.2.1 h.2.2.2.2.1, fil_fr x h.2.2.1 h.2.2.2.2.2.2.1, h.2.2.2⟩
theorem sq_of {f : FuncId} {args : Array Value} {v : Value} (hc : Calls Try.prog f args w' fun e w2 => e = .returned v ∧ Below w'.heap.size w' w2) (h : Sq w ga gb g4 g5 gl gh a b lo hi w') : Calls Try.prog f args w' fun e w2 => e = .returned v ∧ Sq w ga gb g4 g5 gl gh a b lo hi w2 :=
  hc.mono fun e w2 ⟨he, hb⟩ => ⟨he, h.on hb⟩
end
theorem Sq.init (w : World) (a b : Nat) : Sq w w.heap.size (w.heap.size + 1) (w.heap.size + 1 + 1) (w.heap.size + 1 + 1 + 1) (w.heap.size + 1 + 1 + 1 + 1) (w.heap.size + 1 + 1 + 1 + 1 + 1) a b 0 0 ((((((w.alloc (.cells (cls a) 24)).alloc (.cells (cls b) 24)).alloc (.cells #[.int .u64 0, .int .u64 0, .int .u64 0, .int .u64 0] 24)).alloc (.cells #[.int .u64 0, .int .u64 0, .int .u64 0, .int .u64 0] 24)).alloc (.cells #[.int .u64 0, .int .u64 0, .int .u64 0, .int .u64 0] 24)).alloc (.cells #[.int .u64 0, .int .u64 0, .int .u64 0, .int .u64 0] 24)) := by
  have hE := ((((((Env.refl w).new2 a b).new 0).new 0).new 0).new 0)
  simp only [World.size_alloc] at hE
  simp only [← cls_zero] at hE
  refine ⟨⟨⟨hE.1, fun p hp => hE.2 p ?_⟩, by omega, by omega, by omega, by omega, by omega, by omega, by omega⟩, ?_, ?_, by omega, by omega, by omega, by omega, by omega, by omega, by omega⟩
  · simp only [List.mem_cons, List.not_mem_nil, or_false] at hp ⊢
    rcases hp with h | h | h | h <;> simp [h]
  · have := (hE.nm (w.heap.size + 1 + 1) 0 (by simp)).fr
    exact this
  · have := (hE.nm (w.heap.size + 1 + 1 + 1) 0 (by simp)).fr
    exact this
theorem r2add_b (x y s : Nat) (k : Int) (w : World) (hx : x < 2 ^ 256) (hy : y < 2 ^ 256) (hs : (x + y) % 2 ^ 256 = s) (hk : (((x + y) / 2 ^ 256 : Nat) : Int) = k) : Calls Try.prog 45 #[num x, num y] w fun e w2 => e = .returned (.tuple #[num s, .int .u64 k]) ∧ Below w.heap.size w w2 := by
  subst hs; subst hk; exact r2add_any x y w hx hy
/-- a round: doubled, and what goes beyond taken over -/
theorem dbl_round {lo hi T : Nat} (hl : lo < 2 ^ 256) (h : lo + 2 ^ 256 * hi = T) (hT : 2 * T < 2 ^ 256 * 2 ^ 256) :
    (hi + hi) % 2 ^ 256 = hi + hi ∧ hi + hi < 2 ^ 256 ∧ (lo + lo) / 2 ^ 256 < 18446744073709551616 ∧ (hi + hi + (lo + lo) / 2 ^ 256) % 2 ^ 256 = hi + hi + (lo + lo) / 2 ^ 256 ∧ hi + hi + (lo + lo) / 2 ^ 256 < 2 ^ 256
    ∧ (lo + lo) % 2 ^ 256 + 2 ^ 256 * (hi + hi + (lo + lo) / 2 ^ 256) = 2 * T := by
  obtain ⟨r1, r2, r3⟩ := mul_dbl (Nat.two_pow_pos 256) h hT
  rw [Nat.two_mul, Nat.two_mul] at r1 r2
  rw [Nat.two_mul] at r3
  have hz : (lo + lo) / 2 ^ 256 < 18446744073709551616 := by rw [p256] at *; omega
  exact ⟨Nat.mod_eq_of_lt r3, r3, hz, Nat.mod_eq_of_lt r2, r2, by rw [r1, Nat.two_mul]⟩
theorem add_round {lo hi T a : Nat} (hl : lo < 2 ^ 256) (ha : a < 2 ^ 256) (h : lo + 2 ^ 256 * hi = T) (hT : T + a < 2 ^ 256 * 2 ^ 256) :
    (lo + a) / 2 ^ 256 < 18446744073709551616 ∧ (hi + (lo + a) / 2 ^ 256) % 2 ^ 256 = hi + (lo + a) / 2 ^ 256 ∧ hi + (lo + a) / 2 ^ 256 < 2 ^ 256
    ∧ (lo + a) % 2 ^ 256 + 2 ^ 256 * (hi + (lo + a) / 2 ^ 256) = T + a := by
  obtain ⟨r1, r2⟩ := mul_add (Nat.two_pow_pos 256) h hT
  have hz : (lo + a) / 2 ^ 256 < 18446744073709551616 := by rw [p256] at *; omega
  exact ⟨hz, Nat.mod_eq_of_lt r2, r2, r1⟩
theorem div_zero_of {x : Nat} (h : x < 2 ^ 256) : ((x / 2 ^ 256 : Nat) : Int) = 0 := by have := Nat.div_eq_of_lt h; omega

set_option maxRecDepth 100000 in
set_option maxHeartbeats 6400000 in
theorem r2mul_any (a b : Nat) (w : World) (ha : a < 2 ^ 256) (hb : b < 2 ^ 256) : Calls Try.prog 73 #[num a, num b] w fun e w' => e = .returned (.tuple #[num (a * b % 2 ^ 256), num (a * b / 2 ^ 256)]) ∧ Below w.heap.size w w' := by
  have HA := hid ha
  have HB := hid hb
  have HS := hid (Sq.init w a b)
  clear ha hb
  go_enter Try.func73, Try.ntmps73
  go_wp2
  generalize (((((w.alloc (.cells (cls a) 24)).alloc (.cells (cls b) 24)).alloc (.cells #[.int .u64 0, .int .u64 0, .int .u64 0, .int .u64 0] 24)).alloc (.cells #[.int .u64 0, .int .u64 0, .int .u64 0, .int .u64 0] 24)).alloc (.cells #[.int .u64 0, .int .u64 0, .int .u64 0, .int .u64 0] 24)).alloc (.cells #[.int .u64 0, .int .u64 0, .int .u64 0, .int .u64 0] 24) = w0 at *
  generalize w.heap.size + 1 + 1 + 1 + 1 + 1 = gh at *
  generalize w.heap.size + 1 + 1 + 1 + 1 = gl at *
  generalize w.heap.size + 1 + 1 + 1 = g5 at *
  generalize w.heap.size + 1 + 1 = g4 at *
  generalize w.heap.size + 1 = gb at *
  generalize hga : w.heap.size = ga at *
  clear hga
  have ne1 : (gl = gh) = False := eq_false HS.out.1.2.2.2.1
  have ne2 : (gh = gl) = False := eq_false (Ne.symm HS.out.1.2.2.2.1)
  go_loopw [8] (fun i wr => ∃ k lo hi : Nat, k ≤ 256 ∧ i = .int .i64 ((k : Int) - 1) ∧ Hid (lo < 2 ^ 256) ∧ Hid (hi < 2 ^ 256) ∧ Hid (lo + 2 ^ 256 * hi = a * (b / 2 ^ k)) ∧ Hid (Sq w ga gb g4 g5 gl gh a b lo hi wr)) (fun i _ => (intOf i + 1).toNat)
  case atStart => exact ⟨256, 0, 0, by omega, rfl, hid (by decide), hid (by decide), hid (by rw [Nat.div_eq_of_lt HB.out]; rfl), HS⟩
  case round =>
    obtain ⟨k, lo, hi, hk, rfl, HL, HH, HV, HS⟩ := hrel
    by_cases h0 : k = 0
    · subst h0
      have hv := HV.out
      rw [Nat.pow_zero, Nat.div_one] at hv
      have E1 := hid (p := a * b % 2 ^ 256 = lo) (by rw [← hv, Nat.add_mul_mod_self_left, Nat.mod_eq_of_lt HL.out])
      have E2 := hid (p := a * b / 2 ^ 256 = hi) (by rw [← hv, Nat.add_mul_div_left _ _ (Nat.two_pow_pos 256), Nat.div_eq_of_lt HL.out, Nat.zero_add])
      have HR4 := hid HS.out.2.1
      have HR5 := hid HS.out.2.2.1
      have HN := hid HS.out.2.2.2.2.2.2.2.1
      have HB4 := hid (fil_below hi (fil_below lo HS.out.1.1.1 HS.out.2.2.2.2.2.2.2.2.1) HS.out.2.2.2.2.2.2.2.2.2)
      have K4 := hid (fil_other hi lo (fil_nm lo HR4.out) HN.out)
      have K5 := hid (fil_nm hi (fil_fr lo HR5.out (Ne.symm HN.out)))
      have n45 : (g4 = g5) = False := eq_false HN.out
      have n54 : (g5 = g4) = False := eq_false (Ne.symm HN.out)
      have n4l : (g4 = gl) = False := eq_false HS.out.2.2.2.1
      have n4h : (g4 = gh) = False := eq_false HS.out.2.2.2.2.1
      obtain ⟨⟨a0, a1, a2, a3⟩, ⟨l0, l1, l2, l3⟩, ⟨h0, h1, h2, h3⟩, fl, fh⟩ := HS.out.1.cells
      obtain ⟨c0, c1, c2, c3⟩ := HR4.out.cell
      obtain ⟨d0, d1, d2, d3⟩ := HR5.out.cell
      have f4 := HR4.out.frozen
      have f5 := HR5.out.frozen
      clear hv HV
      go_wp2
      go_region
      all_goals
        go_wp2
        clear a0 a1 a2 a3 l0 l1 l2 l3 h0 h1 h2 h3 fl fh c0 c1 c2 c3 d0 d1 d2 d3 f4 f5
        change bodyPost _ _ _ _ _ (fil (fil wr g4 lo) g5 hi).drew
        generalize fil (fil wr g4 lo) g5 hi = wz at *
        obtain ⟨k0, k1, k2, k3⟩ := K4.out.cell
        obtain ⟨q0, q1, q2, q3⟩ := K5.out.cell
        exact bodyPost_ret (v := .tuple #[num lo, num hi]) (by simp [results, Try.results73, go_sem, k0, k1, k2, k3, q0, q1, q2, q3]) rfl ⟨by rw [E1.out, E2.out], HB4.out.drew⟩
    · obtain ⟨m, rfl⟩ : ∃ m, k = m + 1 := ⟨k - 1, by omega⟩
      clear h0
      rw [show (((m + 1 : Nat) : Int) - 1) = (m : Int) by omega]
      have hbits := mul_bits a b m
      have hlt : a * (b / 2 ^ m) < 2 ^ 256 * 2 ^ 256 := Nat.lt_of_le_of_lt (Nat.mul_le_mul_left a (Nat.div_le_self _ _)) (prod_lt HA.out HB.out)
      obtain ⟨r1, r2, r3, r4, r5, r6⟩ := dbl_round HL.out HV.out (by omega)
      obtain ⟨lo1, e1, n1⟩ : ∃ y, Hid ((lo + lo) % 2 ^ 256 = y) ∧ Hid (y < 2 ^ 256) := ⟨_, hid rfl, hid (Nat.mod_lt _ (Nat.two_pow_pos 256))⟩
      obtain ⟨z1, e2⟩ : ∃ y, Hid ((lo + lo) / 2 ^ 256 = y) := ⟨_, hid rfl⟩
      obtain ⟨hi1, d1⟩ : ∃ y, hi + hi = y := ⟨_, rfl⟩
      simp only [e1.out, e2.out, d1] at r1 r2 r3 r4 r5 r6
      obtain ⟨hi2, d2⟩ : ∃ y, hi1 + z1 = y := ⟨_, rfl⟩
      simp only [d2] at r4 r5 r6
      have e3 := hid (p := (hi + hi) % 2 ^ 256 = hi1) (by rw [d1]; exact r1)
      have n3 := hid r2
      have e4 := hid (p := (((hi + hi) / 2 ^ 256 : Nat) : Int) = 0) (by rw [d1]; exact div_zero_of r2)
      have HZ1 := hid r3
      have HZ1b := hid (p := z1 < 2 ^ 256) (by rw [p256]; omega)
      have e5 := hid (p := (hi1 + z1) % 2 ^ 256 = hi2) (by rw [d2]; exact r4)
      have n5 := hid r5
      have e6 := hid (p := (((hi1 + z1) / 2 ^ 256 : Nat) : Int) = 0) (by rw [d2]; exact div_zero_of r5)
      have HV1 := hid r6
      have HBt := hid hbits
      have HLt := hid hlt
      clear r1 r2 r3 r4 r5 r6 hbits hlt d1 d2
      obtain ⟨⟨a0, a1, a2, a3⟩, ⟨l0, l1, l2, l3⟩, ⟨h0, h1, h2, h3⟩, fl, fh⟩ := HS.out.1.cells
      go_wp2_with fail
      clear a0 a1 a2 a3 l0 l1 l2 l3 h0 h1 h2 h3 fl fh
      refine (sq_of (r2add_b lo lo lo1 (z1 : Int) _ HL.out HL.out e1.out (by rw [e2.out])) HS.out).mono ?_
      rintro e w1 ⟨rfl, hs1⟩
      have HS1 := hid hs1
      clear hs1 HS
      obtain ⟨⟨a0, a1, a2, a3⟩, ⟨l0, l1, l2, l3⟩, ⟨h0, h1, h2, h3⟩, fl, fh⟩ := HS1.out.1.cells
      go_wp2_with fail
      clear a0 a1 a2 a3 l0 l1 l2 l3 h0 h1 h2 h3 fl fh
      have HS2 := hid (HS1.out.setLo lo1)
      clear HS1
      change Calls _ _ _ (fil w1 gl lo1) _
      generalize fil w1 gl lo1 = w2 at *
      refine (sq_of (r2add_b hi hi hi1 0 _ HH.out HH.out e3.out e4.out) HS2.out).mono ?_
      rintro e w3 ⟨rfl, hs3⟩
      have HS3 := hid hs3
      clear hs3 HS2
      obtain ⟨⟨a0, a1, a2, a3⟩, ⟨l0, l1, l2, l3⟩, ⟨h0, h1, h2, h3⟩, fl, fh⟩ := HS3.out.1.cells
      go_upto_region 8 with fail
      clear a0 a1 a2 a3 l0 l1 l2 l3 h0 h1 h2 h3 fl fh
      have HS4 := hid (HS3.out.setHi hi1)
      clear HS3
      change Code.wp _ _ _ _ (fil w3 gh hi1)
      generalize fil w3 gh hi1 = w4 at *
      obtain ⟨⟨a0, a1, a2, a3⟩, ⟨l0, l1, l2, l3⟩, ⟨h0, h1, h2, h3⟩, fl, fh⟩ := HS4.out.1.cells
      go_cut [8] (fun s8 wx => s8 = .int .i64 (m : Int) ∧ Hid (Sq w ga gb g4 g5 gl gh a b lo1 hi2 wx))
      case first =>
        have hs := HS4.out.drew
        go_region_with (first | ((go_at_call 49); (with_reducible refine (sq_of (rof_any z1 _ HZ1.out) (by assumption)).mono ?_); rintro e wn ⟨rfl, hs⟩; obtain ⟨⟨a0, a1, a2, a3⟩, ⟨l0, l1, l2, l3⟩, ⟨h0, h1, h2, h3⟩, fl, fh⟩ := hs.1.cells) | ((go_at_call 45); (with_reducible refine (sq_of (r2add_b hi1 z1 hi2 0 _ n3.out HZ1b.out e5.out e6.out) (by assumption)).mono ?_); rintro e wn ⟨rfl, hs⟩; obtain ⟨⟨a0, a1, a2, a3⟩, ⟨l0, l1, l2, l3⟩, ⟨h0, h1, h2, h3⟩, fl, fh⟩ := hs.1.cells))
        all_goals
          go_wp2_with fail
          go_meet
          exact ⟨rfl, hid (hs.setHi hi2)⟩
      case rest =>
        obtain ⟨rfl, HS5⟩ := hcut
        clear a0 a1 a2 a3 l0 l1 l2 l3 h0 h1 h2 h3 fl fh HS4
        obtain ⟨b0, b1, b2, b3⟩ := HS5.out.1.1.cell gb b (by simp)
        have hbl := bitAt_lt b m
        rcases (show bitAt b m = 0 ∨ bitAt b m = 1 by omega) with hbit | hbit
        · have hbi : Hid ((bi b (m : Int) : Int) = 0) := hid (by unfold bi; rw [if_neg (by omega), Int.toNat_natCast, hbit]; rfl)
          have HV2 := hid (p := lo1 + 2 ^ 256 * hi2 = a * (b / 2 ^ m)) (by have h1 := HBt.out; rw [hbit, Nat.mul_zero, Nat.add_zero] at h1; rw [h1]; exact HV1.out)
          clear hbl hbit
          go_wp2_with fail
          refine (sq_of (rbit_any b (m : Int) _ HB.out) HS5.out).mono ?_
          rintro e w6 ⟨rfl, hs6⟩
          rw [hbi.out]
          have HS6 := hid hs6
          clear hs6 b0 b1 b2 b3 HS5
          go_wp2
          go_roundw
          case rel => exact ⟨m, lo1, hi2, by omega, rfl, n1, n5, HV2, HS6⟩
          case measure => simp [intOf]
        · have hbi : Hid ((bi b (m : Int) : Int) = 1) := hid (by unfold bi; rw [if_neg (by omega), Int.toNat_natCast, hbit]; rfl)
          have hb1 : a * (b / 2 ^ m) = 2 * (a * (b / 2 ^ (m + 1))) + a := by have h1 := HBt.out; rw [hbit, Nat.mul_one] at h1; exact h1
          obtain ⟨r1, r2, r3, r4⟩ := add_round n1.out HA.out HV1.out (by rw [← hb1]; exact HLt.out)
          obtain ⟨lo2, c1, n6⟩ : ∃ y, Hid ((lo1 + a) % 2 ^ 256 = y) ∧ Hid (y < 2 ^ 256) := ⟨_, hid rfl, hid (Nat.mod_lt _ (Nat.two_pow_pos 256))⟩
          obtain ⟨z2, c2⟩ : ∃ y, Hid ((lo1 + a) / 2 ^ 256 = y) := ⟨_, hid rfl⟩
          simp only [c1.out, c2.out] at r1 r2 r3 r4
          obtain ⟨hi3, d3⟩ : ∃ y, hi2 + z2 = y := ⟨_, rfl⟩
          simp only [d3] at r2 r3 r4
          have HZ2 := hid r1
          have HZ2b := hid (p := z2 < 2 ^ 256) (by rw [p256]; omega)
          have c3 := hid (p := (hi2 + z2) % 2 ^ 256 = hi3) (by rw [d3]; exact r2)
          have c4 := hid (p := (((hi2 + z2) / 2 ^ 256 : Nat) : Int) = 0) (by rw [d3]; exact div_zero_of r3)
          have n7 := hid r3
          have HV2 := hid (p := lo2 + 2 ^ 256 * hi3 = a * (b / 2 ^ m)) (by rw [hb1]; exact r4)
          clear hbl hbit hb1 r1 r2 r3 r4 d3
          go_wp2_with fail
          refine (sq_of (rbit_any b (m : Int) _ HB.out) HS5.out).mono ?_
          rintro e w6 ⟨rfl, hs6⟩
          rw [hbi.out]
          have HS6 := hid hs6
          clear hs6 b0 b1 b2 b3 HS5
          obtain ⟨⟨a0, a1, a2, a3⟩, ⟨l0, l1, l2, l3⟩, ⟨h0, h1, h2, h3⟩, fl, fh⟩ := HS6.out.1.cells
          go_wp2_with fail
          clear a0 a1 a2 a3 l0 l1 l2 l3 h0 h1 h2 h3 fl fh
          refine (sq_of (r2add_b lo1 a lo2 (z2 : Int) _ n1.out HA.out c1.out (by rw [c2.out])) HS6.out).mono ?_
          rintro e w7 ⟨rfl, hs7⟩
          have HS7 := hid hs7
          clear hs7 HS6
          obtain ⟨⟨a0, a1, a2, a3⟩, ⟨l0, l1, l2, l3⟩, ⟨h0, h1, h2, h3⟩, fl, fh⟩ := HS7.out.1.cells
          go_wp2_with fail
          clear a0 a1 a2 a3 l0 l1 l2 l3 h0 h1 h2 h3 fl fh
          have HS8 := hid (HS7.out.setLo lo2)
          clear HS7
          change Code.wp _ _ _ _ (fil w7 gl lo2)
          generalize fil w7 gl lo2 = w8 at *
          obtain ⟨⟨a0, a1, a2, a3⟩, ⟨l0, l1, l2, l3⟩, ⟨h0, h1, h2, h3⟩, fl, fh⟩ := HS8.out.1.cells
          have hs := HS8.out.drew
          go_region_with (first | ((go_at_call 49); (with_reducible refine (sq_of (rof_any z2 _ HZ2.out) (by assumption)).mono ?_); rintro e wn ⟨rfl, hs⟩; obtain ⟨⟨a0, a1, a2, a3⟩, ⟨l0, l1, l2, l3⟩, ⟨h0, h1, h2, h3⟩, fl, fh⟩ := hs.1.cells) | ((go_at_call 45); (with_reducible refine (sq_of (r2add_b hi2 z2 hi3 0 _ n5.out HZ2b.out c3.out c4.out) (by assumption)).mono ?_); rintro e wn ⟨rfl, hs⟩; obtain ⟨⟨a0, a1, a2, a3⟩, ⟨l0, l1, l2, l3⟩, ⟨h0, h1, h2, h3⟩, fl, fh⟩ := hs.1.cells))
          all_goals
            have HS9 := hid (hs.setHi hi3)
            clear a0 a1 a2 a3 l0 l1 l2 l3 h0 h1 h2 h3 fl fh
            go_wp2
            go_roundw
            case rel => exact ⟨m, lo2, hi3, by omega, rfl, n6, n7, HV2, HS9⟩
            case measure => simp [intOf]
end Go.Proofs.Ytaggegknnnembaa
namespace Go.Proofs.Ytaggegknnnembaa
open Go.RowKit
set_option linter.unusedVariables false

theorem shf_far (x : Nat) (n : Int) (hx : x < 2 ^ 256) (h : n < -256 ∨ 256 < n) : shf x n = 0 := by
  unfold shf
  rcases h with h | h
  · rw [if_neg (by omega)]
    refine Nat.div_eq_of_lt (Nat.lt_of_lt_of_le hx (Nat.pow_le_pow_right (by decide) (by omega)))
  · rw [if_pos (by omega), show n.toNat = 256 + (n.toNat - 256) by omega, Nat.pow_add, ← Nat.mul_assoc, Nat.mul_right_comm, Nat.mul_mod_left]
theorem r2add_c (x y s : Nat) (k : Int) (w : World) (hx : x < 2 ^ 256) (hy : y < 2 ^ 256) (hs : (x + y) % 2 ^ 256 = s) (hk : (((x + y) / 2 ^ 256 : Nat) : Int) = k) : Calls Try.prog 45 #[num x, num y] w fun e w2 => e = .returned (.tuple #[num s, .int .u64 k]) ∧ Below w.heap.size w w2 := by
  subst hs; subst hk; exact r2add_any x y w hx hy
theorem zero_cls : (#[.int .u64 0, .int .u64 0, .int .u64 0, .int .u64 0] : Array Value) = cls 0 := by have := num_zero; injection this
/-- a number that is moved, and where the answer goes -/
def Sm (w : World) (ga g4 x : Nat) (w' : World) : Prop := Nm w' ga x ∧ Fr w' g4 (.int .u64 0) (.int .u64 0) (.int .u64 0) (.int .u64 0) ∧ Below w.heap.size w w' ∧ ga ≠ g4 ∧ w.heap.size ≤ ga ∧ w.heap.size ≤ g4
section
variable {w w' w2 : World} {ga g4 x : Nat}
theorem Sm.init (w : World) (x : Nat) : Sm w w.heap.size (w.heap.size + 1) x ((w.alloc (.cells (cls x) 24)).alloc (.cells #[.int .u64 0, .int .u64 0, .int .u64 0, .int .u64 0] 24)) := by
  refine ⟨(Nm.new w x).alloc _, ?_, bal (bal (Below.refl _ _) _) _, by omega, by omega, by omega⟩
  have := Fr.new (w.alloc (.cells (cls x) 24)) (.int .u64 0) (.int .u64 0) (.int .u64 0) (.int .u64 0)
  simpa using this
theorem Sm.on (h : Sm w ga g4 x w') (hb : Below w'.heap.size w' w2) : Sm w ga g4 x w2 := ⟨h.1.on hb, h.2.1.on hb, bthen h.2.2.1 hb, h.2.2.2⟩
theorem Sm.set (h : Sm w ga g4 x w') (y : Nat) : Sm w ga g4 y (fil w' ga y) :=
  ⟨fil_nm y h.1.fr, (((h.2.1.setOther _ (Ne.symm h.2.2.2.1)).setOther _ (Ne.symm h.2.2.2.1)).setOther _ (Ne.symm h.2.2.2.1)).setOther _ (Ne.symm h.2.2.2.1), fil_below y h.2.2.1 h.2.2.2.2.1, h.2.2.2⟩
end

set_option maxRecDepth 100000 in
set_option maxHeartbeats 1600000 in
theorem rshift_far (x : Nat) (n : Int) (w : World) (hx : x < 2 ^ 256) (h : n < -256 ∨ 256 < n) : Calls Try.prog 75 #[num x, .int .i64 n] w fun e w' => e = .returned (num (shf x n)) ∧ Below w.heap.size w w' := by
  have HE := hid (shf_far x n hx h)
  rcases h with h | h
  · have h2 : ¬ 256 < n := by omega
    go_enter Try.func75, Try.ntmps75
    go_wp2
    refine bodyPost_ret (v := .agg #[.int .u64 0, .int .u64 0, .int .u64 0, .int .u64 0]) (by simp [results, Try.results75, go_sem]) rfl ⟨by rw [HE.out, num_zero], ?_⟩
    repeat (first | exact Below.refl _ _ | refine Below.drew ?_ | refine bal ?_ _)
  · go_enter Try.func75, Try.ntmps75
    go_wp2
    refine bodyPost_ret (v := .agg #[.int .u64 0, .int .u64 0, .int .u64 0, .int .u64 0]) (by simp [results, Try.results75, go_sem]) rfl ⟨by rw [HE.out, num_zero], ?_⟩
    repeat (first | exact Below.refl _ _ | refine Below.drew ?_ | refine bal ?_ _)

theorem up_step (x i : Nat) : (x * 2 ^ i % 2 ^ 256 + x * 2 ^ i % 2 ^ 256) % 2 ^ 256 = x * 2 ^ (i + 1) % 2 ^ 256 := by
  have e : 2 ^ (i + 1) = 2 ^ i * 2 := by rw [Nat.pow_succ]
  rw [← Nat.two_mul, Nat.mul_mod_mod, e, ← Nat.mul_assoc x, Nat.mul_comm 2 (x * 2 ^ i)]

set_option maxRecDepth 100000 in
set_option maxHeartbeats 1600000 in
theorem rshift_up (x n : Nat) (w : World) (hx : x < 2 ^ 256) (hn : n ≤ 256) : Calls Try.prog 75 #[num x, .int .i64 (n : Int)] w fun e w' => e = .returned (num (shf x (n : Int))) ∧ Below w.heap.size w w' := by
  have HX := hid hx
  have HS := hid (Sm.init w x)
  have HF := hid (p := shf x (n : Int) = x * 2 ^ n % 2 ^ 256) (by unfold shf; rw [if_pos (by omega), Int.toNat_natCast])
  clear hx
  have g1 : ¬ (256 : Int) < (n : Int) := by omega
  have g2 : ¬ (n : Int) < -256 := by omega
  go_enter Try.func75, Try.ntmps75
  go_wp2
  generalize (w.alloc (.cells (cls x) 24)).alloc (.cells #[.int .u64 0, .int .u64 0, .int .u64 0, .int .u64 0] 24) = w0 at *
  generalize w.heap.size + 1 = g4 at *
  generalize hga : w.heap.size = ga at *
  clear hga
  go_loopw [5] (fun i wr => ∃ (k y : Nat), k ≤ n ∧ i = .int .i64 k ∧ Hid (y = x * 2 ^ k % 2 ^ 256) ∧ Hid (Sm w ga g4 y wr)) (fun i _ => n - (intOf i).toNat)
  case atStart => exact ⟨0, x, by omega, rfl, hid (by rw [Nat.pow_zero, Nat.mul_one, Nat.mod_eq_of_lt HX.out]), HS⟩
  case round =>
    obtain ⟨k, y, hk, rfl, HV, HS⟩ := hrel
    have HL := hid (p := y < 2 ^ 256) (by rw [HV.out]; exact Nat.mod_lt _ (Nat.two_pow_pos 256))
    by_cases hlt : k < n
    · obtain ⟨y2, e1⟩ : ∃ y2, Hid ((y + y) % 2 ^ 256 = y2) := ⟨_, hid rfl⟩
      obtain ⟨z, e2⟩ : ∃ z : Int, Hid ((((y + y) / 2 ^ 256 : Nat) : Int) = z) := ⟨_, hid rfl⟩
      have HV2 := hid (p := y2 = x * 2 ^ (k + 1) % 2 ^ 256) (by rw [← e1.out, HV.out]; exact up_step x k)
      obtain ⟨c0, c1, c2, c3⟩ := HS.out.1.cell
      go_wp2_with fail
      refine ((r2add_c y y y2 z _ HL.out HL.out e1.out e2.out)).mono ?_
      rintro e w1 ⟨rfl, hb⟩
      have HS1 := hid (HS.out.on hb)
      clear hb c0 c1 c2 c3 HS
      obtain ⟨c0, c1, c2, c3⟩ := HS1.out.1.cell
      have cf := HS1.out.1.fr.frozen
      go_wp2
      go_roundw
      case rel => exact ⟨k + 1, y2, by omega, by go_num, HV2, hid (HS1.out.set y2)⟩
      case measure => simp [intOf]; omega
    · obtain rfl : k = n := by omega
      have HR := hid HS.out.2.1
      have HB := hid HS.out.2.2.1
      have HN := hid (fil_nm y HR.out)
      have HB2 := hid (fil_below y HB.out HS.out.2.2.2.2.2)
      have HE := hid (p := shf x (k : Int) = y) (by rw [HF.out, HV.out])
      obtain ⟨c0, c1, c2, c3⟩ := HS.out.1.cell
      obtain ⟨d0, d1, d2, d3⟩ := HR.out.cell
      have df := HR.out.frozen
      clear HF HV
      go_wp2
      clear c0 c1 c2 c3 d0 d1 d2 d3 df
      change bodyPost _ _ _ _ _ (fil wr g4 y)
      generalize fil wr g4 y = wz at *
      obtain ⟨k0, k1, k2, k3⟩ := HN.out.cell
      exact bodyPost_ret (v := num y) (by simp [results, Try.results75, go_sem, k0, k1, k2, k3]) rfl ⟨by rw [HE.out], HB2.out⟩
theorem even_add (p b : Nat) (hb : b < 2) : wd (2 * p + b) 0 = wd (2 * p) 0 + b ∧ wd (2 * p + b) 1 = wd (2 * p) 1 ∧ wd (2 * p + b) 2 = wd (2 * p) 2 ∧ wd (2 * p + b) 3 = wd (2 * p) 3 := by
  unfold wd
  have e1 : (18446744073709551616 : Nat) ^ 1 = 18446744073709551616 := by decide
  have e2 : (18446744073709551616 : Nat) ^ 2 = 340282366920938463463374607431768211456 := by decide
  have e3 : (18446744073709551616 : Nat) ^ 3 = 6277101735386680763835789423207666416102355444464034512896 := by decide
  rw [e1, e2, e3, Nat.pow_zero]
  refine ⟨?_, ?_, ?_, ?_⟩ <;> omega
/-- what is moved down, where the answer goes, and what is made so far -/
def Sd (w : World) (ga g4 go x o : Nat) (w' : World) : Prop := Nm w' ga x ∧ Fr w' g4 (.int .u64 0) (.int .u64 0) (.int .u64 0) (.int .u64 0) ∧ Nm w' go o ∧ Below w.heap.size w w' ∧ ga ≠ go ∧ g4 ≠ go ∧ w.heap.size ≤ go ∧ w.heap.size ≤ g4
section
variable {w w' w2 : World} {ga g4 go x o : Nat}
theorem Sd.init (w : World) (x : Nat) : Sd w w.heap.size (w.heap.size + 1) (w.heap.size + 1 + 1) x 0 (((w.alloc (.cells (cls x) 24)).alloc (.cells #[.int .u64 0, .int .u64 0, .int .u64 0, .int .u64 0] 24)).alloc (.cells #[.int .u64 0, .int .u64 0, .int .u64 0, .int .u64 0] 24)) := by
  refine ⟨((Nm.new w x).alloc _).alloc _, ?_, ?_, bal (bal (bal (Below.refl _ _) _) _) _, by omega, by omega, by omega, by omega⟩
  · have := (Fr.new (w.alloc (.cells (cls x) 24)) (.int .u64 0) (.int .u64 0) (.int .u64 0) (.int .u64 0)).alloc (.cells #[.int .u64 0, .int .u64 0, .int .u64 0, .int .u64 0] 24)
    simpa using this
  · rw [zero_cls]
    have := Nm.new ((w.alloc (.cells (cls x) 24)).alloc (.cells (cls 0) 24)) 0
    simpa using this
theorem Sd.on (h : Sd w ga g4 go x o w') (hb : Below w'.heap.size w' w2) : Sd w ga g4 go x o w2 := ⟨h.1.on hb, h.2.1.on hb, h.2.2.1.on hb, bthen h.2.2.2.1 hb, h.2.2.2.2⟩
theorem Sd.drew (h : Sd w ga g4 go x o w') : Sd w ga g4 go x o w'.drew := ⟨h.1, h.2.1, h.2.2.1, h.2.2.2.1.drew, h.2.2.2.2⟩
theorem Sd.set (h : Sd w ga g4 go x o w') (y : Nat) : Sd w ga g4 go x y (fil w' go y) :=
  ⟨fil_other y x h.1 h.2.2.2.2.1, (((h.2.1.setOther _ h.2.2.2.2.2.1).setOther _ h.2.2.2.2.2.1).setOther _ h.2.2.2.2.2.1).setOther _ h.2.2.2.2.2.1, fil_nm y h.2.2.1.fr, fil_below y h.2.2.2.1 h.2.2.2.2.2.2.1, h.2.2.2.2⟩
theorem Sd.bump (h : Sd w ga g4 go x o w') (y : Nat) (h1 : wd y 1 = wd o 1) (h2 : wd y 2 = wd o 2) (h3 : wd y 3 = wd o 3) : Sd w ga g4 go x y (w'.setCell ⟨go, 0, none⟩ (.int .u64 (wd y 0 : Int))) := by
  refine ⟨(Below.heap_setCell w' ⟨go, 0, none⟩ _ ga h.2.2.2.2.1).trans h.1, h.2.1.setOther _ h.2.2.2.2.2.1, ?_, h.2.2.2.1.setCell (p := ⟨go, 0, none⟩) h.2.2.2.2.2.2.1 _, h.2.2.2.2⟩
  have := h.2.2.1.fr.set0 (.int .u64 (wd y 0 : Int))
  rw [← h1, ← h2, ← h3] at this
  exact this
theorem sd_of {f : FuncId} {args : Array Value} {v : Value} (hc : Calls Try.prog f args w' fun e w2 => e = .returned v ∧ Below w'.heap.size w' w2) (h : Sd w ga g4 go x o w') : Calls Try.prog f args w' fun e w2 => e = .returned v ∧ Sd w ga g4 go x o w2 :=
  hc.mono fun e w2 ⟨he, hb⟩ => ⟨he, h.on hb⟩
end

set_option maxRecDepth 100000 in
set_option maxHeartbeats 3200000 in
theorem rshift_down (x m : Nat) (w : World) (hx : x < 2 ^ 256) (hm : m ≤ 256) (hm1 : 1 ≤ m) : Calls Try.prog 75 #[num x, .int .i64 (-(m : Int))] w fun e w' => e = .returned (num (shf x (-(m : Int)))) ∧ Below w.heap.size w w' := by
  have HX := hid hx
  have HS := hid (Sd.init w x)
  have HF := hid (p := shf x (-(m : Int)) = x / 2 ^ m) (by unfold shf; rw [if_neg (by omega), show (-(-(m : Int))).toNat = m by omega])
  clear hx
  have g1 : ¬ (256 : Int) < -(m : Int) := by omega
  have g2 : ¬ -(m : Int) < -256 := by omega
  have g3 : ¬ (0 : Int) < -(m : Int) := by omega
  have g4' : ¬ (0 : Int) ≤ -(m : Int) := by omega
  have b3 : decide ((0 : Int) < -(m : Int)) = false := decide_eq_false (by omega)
  have b4 : decide ((m : Int) < 0) = false := decide_eq_false (by omega)
  have b5 : decide (m = 0) = false := decide_eq_false (by omega)
  go_enter Try.func75, Try.ntmps75
  go_wp2
  refine wp_loop_rounds 1 ?_
  rw [rounds_succ]
  go_wp2
  generalize ((w.alloc (.cells (cls x) 24)).alloc (.cells #[.int .u64 0, .int .u64 0, .int .u64 0, .int .u64 0] 24)).alloc (.cells #[.int .u64 0, .int .u64 0, .int .u64 0, .int .u64 0] 24) = w0 at *
  generalize w.heap.size + 1 + 1 = go at *
  generalize w.heap.size + 1 = g4 at *
  generalize hga : w.heap.size = ga at *
  clear hga g1 g2 g3 g4' b3 b4 b5
  go_loopw [7] (fun i wr => ∃ (k o : Nat), k ≤ 256 ∧ m ≤ k ∧ i = .int .i64 ((k : Int) - 1) ∧ Hid (o = x / 2 ^ k) ∧ Hid (Sd w ga g4 go x o wr)) (fun i _ => (intOf i + 1).toNat)
  case atStart => exact ⟨256, 0, by omega, by omega, rfl, hid (by rw [Nat.div_eq_of_lt HX.out]), HS⟩
  case round =>
    obtain ⟨k, o, hk, hmk, rfl, HV, HS⟩ := hrel
    by_cases hlt : m < k
    · obtain ⟨j, rfl⟩ : ∃ j, k = j + 1 := ⟨k - 1, by omega⟩
      rw [show (((j + 1 : Nat) : Int) - 1) = (j : Int) by omega]
      have hst := bit_step x j
      rw [← HV.out] at hst
      have hle : x / 2 ^ j ≤ x := Nat.div_le_self _ _
      have hxl := HX.out
      obtain ⟨c, ec⟩ : ∃ c, bitAt x j = c := ⟨_, rfl⟩
      have hc : c < 2 := by rw [← ec]; exact bitAt_lt x j
      rw [ec] at hst
      obtain ⟨z1, z2, z3, z4⟩ := even_add o c hc
      have e1 := hid (p := (o + o) % 2 ^ 256 = 2 * o) (by rw [← Nat.two_mul]; exact Nat.mod_eq_of_lt (by omega))
      have e2 := hid (p := (((o + o) / 2 ^ 256 : Nat) : Int) = 0) (by have := Nat.div_eq_of_lt (show o + o < 2 ^ 256 by omega); omega)
      have n0 := hid (p := o < 2 ^ 256) (by omega)
      have HB := hid (p := (bi x (j : Int) : Int) = (c : Int)) (by unfold bi; rw [if_neg (by omega), Int.toNat_natCast, ec])
      have HV2 := hid (p := 2 * o + c = x / 2 ^ j) hst.symm
      have Z2 := hid z2
      have Z3 := hid z3
      have Z4 := hid z4
      have hl0 := wd_lt (2 * o + c) 0
      have s1 : IntKind.u64.wrap ((wd (2 * o) 0 : Int) + (c : Int)) = (wd (2 * o + c) 0 : Int) := by rw [IntWalk.u64_in _ (by omega), z1]; omega
      clear hst hle hxl ec z1 z2 z3 z4 hl0
      generalize hq : 2 * o = q at *
      clear hq
      generalize hr : q + c = r at *
      clear hr
      obtain ⟨c0, c1, c2, c3⟩ := HS.out.2.2.1.cell
      go_wp2_with fail
      refine (sd_of (r2add_c o o q 0 _ n0.out n0.out e1.out e2.out) HS.out).mono ?_
      rintro e w1 ⟨rfl, hs1⟩
      have HS1 := hid hs1
      clear hs1 c0 c1 c2 c3 HS
      obtain ⟨c0, c1, c2, c3⟩ := HS1.out.2.2.1.cell
      have cf := HS1.out.2.2.1.fr.frozen
      go_wp2_with fail
      clear c0 c1 c2 c3 cf
      have HS2 := hid (HS1.out.set q)
      clear HS1
      change Code.wp _ _ _ _ (fil w1 go q)
      generalize fil w1 go q = w2 at *
      obtain ⟨c0, c1, c2, c3⟩ := HS2.out.2.2.1.cell
      obtain ⟨a0, a1, a2, a3⟩ := HS2.out.1.cell
      have cf := HS2.out.2.2.1.fr.frozen 0
      have hs := HS2.out.drew
      go_region_with ((go_at_call 52); (with_reducible refine (sd_of (rbit_any x (j : Int) _ HX.out) (by assumption)).mono ?_); rintro e wn ⟨rfl, hs⟩; rw [HB.out]; obtain ⟨c0, c1, c2, c3⟩ := hs.2.2.1.cell; obtain ⟨a0, a1, a2, a3⟩ := hs.1.cell; have cf := hs.2.2.1.fr.frozen 0)
      all_goals
        have HS3 := hid (hs.bump r Z2.out Z3.out Z4.out)
        clear c0 c1 c2 c3 a0 a1 a2 a3 cf
        go_wp2
        go_roundw
        case rel => first | exact ⟨j, r, by omega, by omega, rfl, HV2, HS3⟩ | ((repeat apply Exists.intro); exact ⟨⟨j, r, by omega, by omega, rfl, HV2, HS3⟩, rfl⟩)
        case measure => simp [intOf]
    · obtain rfl : k = m := by omega
      have HR := hid HS.out.2.1
      have HN := hid (fil_nm o HR.out)
      have HB2 := hid (fil_below o HS.out.2.2.2.1 HS.out.2.2.2.2.2.2.2)
      have HE := hid (p := shf x (-(k : Int)) = o) (by rw [HF.out, HV.out])
      obtain ⟨c0, c1, c2, c3⟩ := HS.out.2.2.1.cell
      obtain ⟨d0, d1, d2, d3⟩ := HR.out.cell
      have df := HR.out.frozen
      clear HF HV
      go_wp2
      clear c0 c1 c2 c3 d0 d1 d2 d3 df
      change bodyPost _ _ _ _ _ (fil wr g4 o)
      generalize fil wr g4 o = wz at *
      obtain ⟨k0, k1, k2, k3⟩ := HN.out.cell
      exact bodyPost_ret (v := num o) (by simp [results, Try.results75, go_sem, k0, k1, k2, k3]) rfl ⟨by rw [HE.out], HB2.out⟩

theorem rshift_any (x : Nat) (n : Int) (w : World) (hx : x < 2 ^ 256) : Calls Try.prog 75 #[num x, .int .i64 n] w fun e w' => e = .returned (num (shf x n)) ∧ Below w.heap.size w w' := by
  by_cases h : n < -256 ∨ 256 < n
  · exact rshift_far x n w hx h
  · by_cases h0 : 0 ≤ n
    · obtain ⟨k, rfl⟩ := Int.eq_ofNat_of_zero_le h0
      exact rshift_up x k w hx (by omega)
    · obtain ⟨k, hk⟩ := Int.eq_ofNat_of_zero_le (by omega : 0 ≤ -n)
      obtain rfl : n = -(k : Int) := by omega
      exact rshift_down x k w hx (by omega) (by omega)
end Go.Proofs.Ytaggegknnnembaa
