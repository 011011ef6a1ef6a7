/-
  burrowref02.Shift, walked. Conditions: none.
-/
import Derived.Test.YtaggegknnnembaaDoorRefAdd
import Derived.Test.YtaggegknnnembaaDoorRefSmall
import Derived.Deep.RegionWith
namespace Go.Proofs.YtaggegknnnembaaDoor
open Go.RowKit
set_option linter.unusedVariables false

theorem shf_far (x : Nat) (n : Int) (hx : x < 2 ^ 256) (h : n < -256 ∨ 256 < n) : shf x n = 0 := by
  unfold shf
  rcases h with h | h
  · rw [if_neg (by omega)]
    refine Nat.div_eq_of_lt (Nat.lt_of_lt_of_le hx (Nat.pow_le_pow_right (by decide) (by omega)))
  · rw [if_pos (by omega), show n.toNat = 256 + (n.toNat - 256) by omega, Nat.pow_add, ← Nat.mul_assoc, Nat.mul_right_comm, Nat.mul_mod_left]
theorem r2add_c (x y s : Nat) (k : Int) (w : World) (hx : x < 2 ^ 256) (hy : y < 2 ^ 256) (hs : (x + y) % 2 ^ 256 = s) (hk : (((x + y) / 2 ^ 256 : Nat) : Int) = k) : Calls Tryd.prog 61 #[num x, num y] w fun e w2 => e = .returned (.tuple #[num s, .int .u64 k]) ∧ Below w.heap.size w w2 := by
  subst hs; subst hk; exact r2add_any x y w hx hy
theorem zero_cls : (#[.int .u64 0, .int .u64 0, .int .u64 0, .int .u64 0] : Array Value) = cls 0 := by have := num_zero; injection this
/-- a number that is moved, and where the answer goes -/
def Sm (w : World) (ga g4 x : Nat) (w' : World) : Prop := Nm w' ga x ∧ Fr w' g4 (.int .u64 0) (.int .u64 0) (.int .u64 0) (.int .u64 0) ∧ Below w.heap.size w w' ∧ ga ≠ g4 ∧ w.heap.size ≤ ga ∧ w.heap.size ≤ g4
section
variable {w w' w2 : World} {ga g4 x : Nat}
theorem Sm.init (w : World) (x : Nat) : Sm w w.heap.size (w.heap.size + 1) x ((w.alloc (.cells (cls x) 24)).alloc (.cells #[.int .u64 0, .int .u64 0, .int .u64 0, .int .u64 0] 24)) := by
  refine ⟨(Nm.new w x).alloc _, ?_, bal (bal (Below.refl _ _) _) _, by omega, by omega, by omega⟩
  have := Fr.new (w.alloc (.cells (cls x) 24)) (.int .u64 0) (.int .u64 0) (.int .u64 0) (.int .u64 0)
  simpa using this
theorem Sm.on (h : Sm w ga g4 x w') (hb : Below w'.heap.size w' w2) : Sm w ga g4 x w2 := ⟨h.1.on hb, h.2.1.on hb, bthen h.2.2.1 hb, h.2.2.2⟩
theorem Sm.set (h : Sm w ga g4 x w') (y : Nat) : Sm w ga g4 y (fil w' ga y) :=
  ⟨fil_nm y h.1.fr, (((h.2.1.setOther _ (Ne.symm h.2.2.2.1)).setOther _ (Ne.symm h.2.2.2.1)).setOther _ (Ne.symm h.2.2.2.1)).setOther _ (Ne.symm h.2.2.2.1), fil_below y h.2.2.1 h.2.2.2.2.1, h.2.2.2⟩
end

set_option maxRecDepth 100000 in
set_option maxHeartbeats 1600000 in
theorem rshift_far (x : Nat) (n : Int) (w : World) (hx : x < 2 ^ 256) (h : n < -256 ∨ 256 < n) : Calls Tryd.prog 43 #[num x, .int .i64 n] w fun e w' => e = .returned (num (shf x n)) ∧ Below w.heap.size w w' := by
  have HE := hid (shf_far x n hx h)
  rcases h with h | h
  · have h2 : ¬ 256 < n := by omega
    go_enter Tryd.func43, Tryd.ntmps43
    go_wp2
    refine bodyPost_ret (v := .agg #[.int .u64 0, .int .u64 0, .int .u64 0, .int .u64 0]) (by simp [results, Tryd.results43, go_sem]) rfl ⟨by rw [HE.out, num_zero], ?_⟩
    repeat (first | exact Below.refl _ _ | refine Below.drew ?_ | refine bal ?_ _)
  · go_enter Tryd.func43, Tryd.ntmps43
    go_wp2
    refine bodyPost_ret (v := .agg #[.int .u64 0, .int .u64 0, .int .u64 0, .int .u64 0]) (by simp [results, Tryd.results43, go_sem]) rfl ⟨by rw [HE.out, num_zero], ?_⟩
    repeat (first | exact Below.refl _ _ | refine Below.drew ?_ | refine bal ?_ _)

theorem up_step (x i : Nat) : (x * 2 ^ i % 2 ^ 256 + x * 2 ^ i % 2 ^ 256) % 2 ^ 256 = x * 2 ^ (i + 1) % 2 ^ 256 := by
  have e : 2 ^ (i + 1) = 2 ^ i * 2 := by rw [Nat.pow_succ]
  rw [← Nat.two_mul, Nat.mul_mod_mod, e, ← Nat.mul_assoc x, Nat.mul_comm 2 (x * 2 ^ i)]

set_option maxRecDepth 100000 in
set_option maxHeartbeats 1600000 in
theorem rshift_up (x n : Nat) (w : World) (hx : x < 2 ^ 256) (hn : n ≤ 256) : Calls Tryd.prog 43 #[num x, .int .i64 (n : Int)] w fun e w' => e = .returned (num (shf x (n : Int))) ∧ Below w.heap.size w w' := by
  have HX := hid hx
  have HS := hid (Sm.init w x)
  have HF := hid (p := shf x (n : Int) = x * 2 ^ n % 2 ^ 256) (by unfold shf; rw [if_pos (by omega), Int.toNat_natCast])
  clear hx
  have g1 : ¬ (256 : Int) < (n : Int) := by omega
  have g2 : ¬ (n : Int) < -256 := by omega
  go_enter Tryd.func43, Tryd.ntmps43
  go_wp2
  generalize (w.alloc (.cells (cls x) 24)).alloc (.cells #[.int .u64 0, .int .u64 0, .int .u64 0, .int .u64 0] 24) = w0 at *
  generalize w.heap.size + 1 = g4 at *
  generalize hga : w.heap.size = ga at *
  clear hga
  go_loopw [5] (fun i wr => ∃ (k y : Nat), k ≤ n ∧ i = .int .i64 k ∧ Hid (y = x * 2 ^ k % 2 ^ 256) ∧ Hid (Sm w ga g4 y wr)) (fun i _ => n - (intOf i).toNat)
  case atStart => exact ⟨0, x, by omega, rfl, hid (by rw [Nat.pow_zero, Nat.mul_one, Nat.mod_eq_of_lt HX.out]), HS⟩
  case round =>
    obtain ⟨k, y, hk, rfl, HV, HS⟩ := hrel
    have HL := hid (p := y < 2 ^ 256) (by rw [HV.out]; exact Nat.mod_lt _ (Nat.two_pow_pos 256))
    by_cases hlt : k < n
    · obtain ⟨y2, e1⟩ : ∃ y2, Hid ((y + y) % 2 ^ 256 = y2) := ⟨_, hid rfl⟩
      obtain ⟨z, e2⟩ : ∃ z : Int, Hid ((((y + y) / 2 ^ 256 : Nat) : Int) = z) := ⟨_, hid rfl⟩
      have HV2 := hid (p := y2 = x * 2 ^ (k + 1) % 2 ^ 256) (by rw [← e1.out, HV.out]; exact up_step x k)
      obtain ⟨c0, c1, c2, c3⟩ := HS.out.1.cell
      go_wp2_with fail
      refine ((r2add_c y y y2 z _ HL.out HL.out e1.out e2.out)).mono ?_
      rintro e w1 ⟨rfl, hb⟩
      have HS1 := hid (HS.out.on hb)
      clear hb c0 c1 c2 c3 HS
      obtain ⟨c0, c1, c2, c3⟩ := HS1.out.1.cell
      have cf := HS1.out.1.fr.frozen
      go_wp2
      go_roundw
      case rel => exact ⟨k + 1, y2, by omega, by go_num, HV2, hid (HS1.out.set y2)⟩
      case measure => simp [intOf]; omega
    · obtain rfl : k = n := by omega
      have HR := hid HS.out.2.1
      have HB := hid HS.out.2.2.1
      have HN := hid (fil_nm y HR.out)
      have HB2 := hid (fil_below y HB.out HS.out.2.2.2.2.2)
      have HE := hid (p := shf x (k : Int) = y) (by rw [HF.out, HV.out])
      obtain ⟨c0, c1, c2, c3⟩ := HS.out.1.cell
      obtain ⟨d0, d1, d2, d3⟩ := HR.out.cell
      have df := HR.out.frozen
      clear HF HV
      go_wp2
      clear c0 c1 c2 c3 d0 d1 d2 d3 df
      change bodyPost _ _ _ _ _ (fil wr g4 y)
      generalize fil wr g4 y = wz at *
      obtain ⟨k0, k1, k2, k3⟩ := HN.out.cell
      exact bodyPost_ret (v := num y) (by simp [results, Tryd.results43, go_sem, k0, k1, k2, k3]) rfl ⟨by rw [HE.out], HB2.out⟩
theorem even_add (p b : Nat) (hb : b < 2) : wd (2 * p + b) 0 = wd (2 * p) 0 + b ∧ wd (2 * p + b) 1 = wd (2 * p) 1 ∧ wd (2 * p + b) 2 = wd (2 * p) 2 ∧ wd (2 * p + b) 3 = wd (2 * p) 3 := by
  unfold wd
  have e1 : (18446744073709551616 : Nat) ^ 1 = 18446744073709551616 := by decide
  have e2 : (18446744073709551616 : Nat) ^ 2 = 340282366920938463463374607431768211456 := by decide
  have e3 : (18446744073709551616 : Nat) ^ 3 = 6277101735386680763835789423207666416102355444464034512896 := by decide
  rw [e1, e2, e3, Nat.pow_zero]
  refine ⟨?_, ?_, ?_, ?_⟩ <;> omega
/-- what is moved down, where the answer goes, and what is made so far -/
def Sd (w : World) (ga g4 go x o : Nat) (w' : World) : Prop := Nm w' ga x ∧ Fr w' g4 (.int .u64 0) (.int .u64 0) (.int .u64 0) (.int .u64 0) ∧ Nm w' go o ∧ Below w.heap.size w w' ∧ ga ≠ go ∧ g4 ≠ go ∧ w.heap.size ≤ go ∧ w.heap.size ≤ g4
section
variable {w w' w2 : World} {ga g4 go x o : Nat}
theorem Sd.init (w : World) (x : Nat) : Sd w w.heap.size (w.heap.size + 1) (w.heap.size + 1 + 1) x 0 (((w.alloc (.cells (cls x) 24)).alloc (.cells #[.int .u64 0, .int .u64 0, .int .u64 0, .int .u64 0] 24)).alloc (.cells #[.int .u64 0, .int .u64 0, .int .u64 0, .int .u64 0] 24)) := by
  refine ⟨((Nm.new w x).alloc _).alloc _, ?_, ?_, bal (bal (bal (Below.refl _ _) _) _) _, by omega, by omega, by omega, by omega⟩
  · have := (Fr.new (w.alloc (.cells (cls x) 24)) (.int .u64 0) (.int .u64 0) (.int .u64 0) (.int .u64 0)).alloc (.cells #[.int .u64 0, .int .u64 0, .int .u64 0, .int .u64 0] 24)
    simpa using this
  · rw [zero_cls]
    have := Nm.new ((w.alloc (.cells (cls x) 24)).alloc (.cells (cls 0) 24)) 0
    simpa using this
theorem Sd.on (h : Sd w ga g4 go x o w') (hb : Below w'.heap.size w' w2) : Sd w ga g4 go x o w2 := ⟨h.1.on hb, h.2.1.on hb, h.2.2.1.on hb, bthen h.2.2.2.1 hb, h.2.2.2.2⟩
theorem Sd.drew (h : Sd w ga g4 go x o w') : Sd w ga g4 go x o w'.drew := ⟨h.1, h.2.1, h.2.2.1, h.2.2.2.1.drew, h.2.2.2.2⟩
theorem Sd.set (h : Sd w ga g4 go x o w') (y : Nat) : Sd w ga g4 go x y (fil w' go y) :=
  ⟨fil_other y x h.1 h.2.2.2.2.1, (((h.2.1.setOther _ h.2.2.2.2.2.1).setOther _ h.2.2.2.2.2.1).setOther _ h.2.2.2.2.2.1).setOther _ h.2.2.2.2.2.1, fil_nm y h.2.2.1.fr, fil_below y h.2.2.2.1 h.2.2.2.2.2.2.1, h.2.2.2.2⟩
theorem Sd.bump (h : Sd w ga g4 go x o w') (y : Nat) (h1 : wd y 1 = wd o 1) (h2 : wd y 2 = wd o 2) (h3 : wd y 3 = wd o 3) : Sd w ga g4 go x y (w'.setCell ⟨go, 0, none⟩ (.int .u64 (wd y 0 : Int))) := by
  refine ⟨(Below.heap_setCell w' ⟨go, 0, none⟩ _ ga h.2.2.2.2.1).trans h.1, h.2.1.setOther _ h.2.2.2.2.2.1, ?_, h.2.2.2.1.setCell (p := ⟨go, 0, none⟩) h.2.2.2.2.2.2.1 _, h.2.2.2.2⟩
  have := h.2.2.1.fr.set0 (.int .u64 (wd y 0 : Int))
  rw [← h1, ← h2, ← h3] at this
  exact this
theorem sd_of {f : FuncId} {args : Array Value} {v : Value} (hc : Calls Tryd.prog f args w' fun e w2 => e = .returned v ∧ Below w'.heap.size w' w2) (h : Sd w ga g4 go x o w') : Calls Tryd.prog f args w' fun e w2 => e = .returned v ∧ Sd w ga g4 go x o w2 :=
  hc.mono fun e w2 ⟨he, hb⟩ => ⟨he, h.on hb⟩
end

set_option maxRecDepth 100000 in
set_option maxHeartbeats 3200000 in
theorem rshift_down (x m : Nat) (w : World) (hx : x < 2 ^ 256) (hm : m ≤ 256) (hm1 : 1 ≤ m) : Calls Tryd.prog 43 #[num x, .int .i64 (-(m : Int))] w fun e w' => e = .returned (num (shf x (-(m : Int)))) ∧ Below w.heap.size w w' := by
  have HX := hid hx
  have HS := hid (Sd.init w x)
  have HF := hid (p := shf x (-(m : Int)) = x / 2 ^ m) (by unfold shf; rw [if_neg (by omega), show (-(-(m : Int))).toNat = m by omega])
  clear hx
  have g1 : ¬ (256 : Int) < -(m : Int) := by omega
  have g2 : ¬ -(m : Int) < -256 := by omega
  have g3 : ¬ (0 : Int) < -(m : Int) := by omega
  have g4' : ¬ (0 : Int) ≤ -(m : Int) := by omega
  have b3 : decide ((0 : Int) < -(m : Int)) = false := decide_eq_false (by omega)
  have b4 : decide ((m : Int) < 0) = false := decide_eq_false (by omega)
  have b5 : decide (m = 0) = false := decide_eq_false (by omega)
  go_enter Tryd.func43, Tryd.ntmps43
  go_wp2
  refine wp_loop_rounds 1 ?_
  rw [rounds_succ]
  go_wp2
  generalize ((w.alloc (.cells (cls x) 24)).alloc (.cells #[.int .u64 0, .int .u64 0, .int .u64 0, .int .u64 0] 24)).alloc (.cells #[.int .u64 0, .int .u64 0, .int .u64 0, .int .u64 0] 24) = w0 at *
  generalize w.heap.size + 1 + 1 = go at *
  generalize w.heap.size + 1 = g4 at *
  generalize hga : w.heap.size = ga at *
  clear hga g1 g2 g3 g4' b3 b4 b5
  go_loopw [7] (fun i wr => ∃ (k o : Nat), k ≤ 256 ∧ m ≤ k ∧ i = .int .i64 ((k : Int) - 1) ∧ Hid (o = x / 2 ^ k) ∧ Hid (Sd w ga g4 go x o wr)) (fun i _ => (intOf i + 1).toNat)
  case atStart => exact ⟨256, 0, by omega, by omega, rfl, hid (by rw [Nat.div_eq_of_lt HX.out]), HS⟩
  case round =>
    obtain ⟨k, o, hk, hmk, rfl, HV, HS⟩ := hrel
    by_cases hlt : m < k
    · obtain ⟨j, rfl⟩ : ∃ j, k = j + 1 := ⟨k - 1, by omega⟩
      rw [show (((j + 1 : Nat) : Int) - 1) = (j : Int) by omega]
      have hst := bit_step x j
      rw [← HV.out] at hst
      have hle : x / 2 ^ j ≤ x := Nat.div_le_self _ _
      have hxl := HX.out
      obtain ⟨c, ec⟩ : ∃ c, bitAt x j = c := ⟨_, rfl⟩
      have hc : c < 2 := by rw [← ec]; exact bitAt_lt x j
      rw [ec] at hst
      obtain ⟨z1, z2, z3, z4⟩ := even_add o c hc
      have e1 := hid (p := (o + o) % 2 ^ 256 = 2 * o) (by rw [← Nat.two_mul]; exact Nat.mod_eq_of_lt (by omega))
      have e2 := hid (p := (((o + o) / 2 ^ 256 : Nat) : Int) = 0) (by have := Nat.div_eq_of_lt (show o + o < 2 ^ 256 by omega); omega)
      have n0 := hid (p := o < 2 ^ 256) (by omega)
      have HB := hid (p := (bi x (j : Int) : Int) = (c : Int)) (by unfold bi; rw [if_neg (by omega), Int.toNat_natCast, ec])
      have HV2 := hid (p := 2 * o + c = x / 2 ^ j) hst.symm
      have Z2 := hid z2
      have Z3 := hid z3
      have Z4 := hid z4
      have hl0 := wd_lt (2 * o + c) 0
      have s1 : IntKind.u64.wrap ((wd (2 * o) 0 : Int) + (c : Int)) = (wd (2 * o + c) 0 : Int) := by rw [IntWalk.u64_in _ (by omega), z1]; omega
      clear hst hle hxl ec z1 z2 z3 z4 hl0
      generalize hq : 2 * o = q at *
      clear hq
      generalize hr : q + c = r at *
      clear hr
      obtain ⟨c0, c1, c2, c3⟩ := HS.out.2.2.1.cell
      go_wp2_with fail
      refine (sd_of (r2add_c o o q 0 _ n0.out n0.out e1.out e2.out) HS.out).mono ?_
      rintro e w1 ⟨rfl, hs1⟩
      have HS1 := hid hs1
      clear hs1 c0 c1 c2 c3 HS
      obtain ⟨c0, c1, c2, c3⟩ := HS1.out.2.2.1.cell
      have cf := HS1.out.2.2.1.fr.frozen
      go_wp2_with fail
      clear c0 c1 c2 c3 cf
      have HS2 := hid (HS1.out.set q)
      clear HS1
      change Code.wp _ _ _ _ (fil w1 go q)
      generalize fil w1 go q = w2 at *
      obtain ⟨c0, c1, c2, c3⟩ := HS2.out.2.2.1.cell
      obtain ⟨a0, a1, a2, a3⟩ := HS2.out.1.cell
      have cf := HS2.out.2.2.1.fr.frozen 0
      have hs := HS2.out.drew
      go_region_with ((go_at_call 42); (with_reducible refine (sd_of (rbit_any x (j : Int) _ HX.out) (by assumption)).mono ?_); rintro e wn ⟨rfl, hs⟩; rw [HB.out]; obtain ⟨c0, c1, c2, c3⟩ := hs.2.2.1.cell; obtain ⟨a0, a1, a2, a3⟩ := hs.1.cell; have cf := hs.2.2.1.fr.frozen 0)
      all_goals
        have HS3 := hid (hs.bump r Z2.out Z3.out Z4.out)
        clear c0 c1 c2 c3 a0 a1 a2 a3 cf
        go_wp2
        go_roundw
        case rel => first | exact ⟨j, r, by omega, by omega, rfl, HV2, HS3⟩ | ((repeat apply Exists.intro); exact ⟨⟨j, r, by omega, by omega, rfl, HV2, HS3⟩, rfl⟩)
        case measure => simp [intOf]
    · obtain rfl : k = m := by omega
      have HR := hid HS.out.2.1
      have HN := hid (fil_nm o HR.out)
      have HB2 := hid (fil_below o HS.out.2.2.2.1 HS.out.2.2.2.2.2.2.2)
      have HE := hid (p := shf x (-(k : Int)) = o) (by rw [HF.out, HV.out])
      obtain ⟨c0, c1, c2, c3⟩ := HS.out.2.2.1.cell
      obtain ⟨d0, d1, d2, d3⟩ := HR.out.cell
      have df := HR.out.frozen
      clear HF HV
      go_wp2
      clear c0 c1 c2 c3 d0 d1 d2 d3 df
      change bodyPost _ _ _ _ _ (fil wr g4 o)
      generalize fil wr g4 o = wz at *
      obtain ⟨k0, k1, k2, k3⟩ := HN.out.cell
      exact bodyPost_ret (v := num o) (by simp [results, Tryd.results43, go_sem, k0, k1, k2, k3]) rfl ⟨by rw [HE.out], HB2.out⟩

theorem rshift_any (x : Nat) (n : Int) (w : World) (hx : x < 2 ^ 256) : Calls Tryd.prog 43 #[num x, .int .i64 n] w fun e w' => e = .returned (num (shf x n)) ∧ Below w.heap.size w w' := by
  by_cases h : n < -256 ∨ 256 < n
  · exact rshift_far x n w hx h
  · by_cases h0 : 0 ≤ n
    · obtain ⟨k, rfl⟩ := Int.eq_ofNat_of_zero_le h0
      exact rshift_up x k w hx (by omega)
    · obtain ⟨k, hk⟩ := Int.eq_ofNat_of_zero_le (by omega : 0 ≤ -n)
      obtain rfl : n = -(k : Int) := by omega
      exact rshift_down x k w hx (by omega) (by omega)
end Go.Proofs.YtaggegknnnembaaDoor
