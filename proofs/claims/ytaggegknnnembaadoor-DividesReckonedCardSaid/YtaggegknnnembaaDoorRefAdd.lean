/-
  burrowref02.Add and Sub, walked. Conditions: none.
-/
import Derived.Test.YtaggegknnnembaaDoorBox
import Derived.BigQuiet
import Derived.Deep.QuietTactic
namespace Go.Proofs.YtaggegknnnembaaDoor
open Go.RowKit
set_option linter.unusedVariables false

def wvs (ws : List Nat) : List Value := ws.map fun (d : Nat) => .int .u64 (d : Int)
/-- block g holds these words -/
def Wl (w : World) (g : Nat) (ws : List Nat) : Prop := w.heap[g]? = some (.cells (wvs ws).toArray 24 (0, 0))
theorem Wl.cell {w : World} {g : Nat} {ws : List Nat} (h : Wl w g ws) (k : Nat) (hk : k < ws.length) : w.cell? ⟨g, k, none⟩ = some (.int .u64 (ws[k] : Int)) := by
  rw [cell_of_row w g k _ 24 (0, 0) h]; simp [wvs, hk]
theorem Wl.frozen {w : World} {g : Nat} {ws : List Nat} (h : Wl w g ws) (i : Nat) : w.frozen? ⟨g, i, none⟩ = false := by
  unfold Wl at h; simp [World.frozen?, h]
theorem Wl.set {w : World} {g : Nat} {ws : List Nat} (h : Wl w g ws) (k v : Nat) : Wl (w.setCell ⟨g, k, none⟩ (.int .u64 (v : Int))) g (ws.set k v) := by
  unfold Wl at h ⊢; simp [World.setCell, Array.getElem?_modify, h, wvs, List.map_set]
theorem Nm.at {w : World} {g x : Nat} (h : Nm w g x) (k : Nat) (hk : k < 4) : w.cell? ⟨g, k, none⟩ = some (.int .u64 (wd x k : Int)) := by
  obtain ⟨h0, h1, h2, h3⟩ := h.cell
  match k, hk with
  | 0, _ => exact h0
  | 1, _ => exact h1
  | 2, _ => exact h2
  | 3, _ => exact h3
/-- the number that words tell, the lowest first -/
def vw : List Nat → Nat
  | [] => 0
  | d :: r => d + 18446744073709551616 * vw r
theorem vw_take (l : List Nat) (k : Nat) (hk : k < l.length) : vw (l.take (k + 1)) = vw (l.take k) + 18446744073709551616 ^ k * l[k] := by
  induction l generalizing k with
  | nil => simp at hk
  | cons d r ih =>
    match k with
    | 0 => simp [vw]
    | k + 1 =>
      have h := ih k (by simpa using hk)
      simp only [List.take_succ_cons, vw, List.getElem_cons_succ]
      rw [h, Nat.mul_add, Nat.pow_succ, Nat.mul_comm (18446744073709551616 ^ k) 18446744073709551616, Nat.mul_assoc]
      omega
theorem vw_set (l : List Nat) (k t : Nat) (hk : k < l.length) : vw ((l.set k t).take (k + 1)) = vw (l.take k) + 18446744073709551616 ^ k * t := by
  rw [vw_take _ _ (by simpa using hk), List.getElem_set_self, List.take_set_of_le (Nat.le_refl k)]
theorem mod_word (x k : Nat) : x % 18446744073709551616 ^ (k + 1) = x % 18446744073709551616 ^ k + 18446744073709551616 ^ k * wd x k := by
  unfold wd
  rw [Nat.pow_succ, Nat.mod_mul]
theorem add_step (x y k c c' t : Nat) (ws : List Nat) (hk : k < ws.length) (h : x % 18446744073709551616 ^ k + y % 18446744073709551616 ^ k = vw (ws.take k) + 18446744073709551616 ^ k * c) (ht : t + 18446744073709551616 * c' = wd x k + wd y k + c) :
    x % 18446744073709551616 ^ (k + 1) + y % 18446744073709551616 ^ (k + 1) = vw ((ws.set k t).take (k + 1)) + 18446744073709551616 ^ (k + 1) * c' := by
  rw [mod_word x k, mod_word y k, vw_set ws k t hk, Nat.pow_succ, Nat.mul_assoc]
  have e : 18446744073709551616 ^ k * t + 18446744073709551616 ^ k * (18446744073709551616 * c') = 18446744073709551616 ^ k * wd x k + 18446744073709551616 ^ k * wd y k + 18446744073709551616 ^ k * c := by
    rw [← Nat.mul_add, ht, Nat.mul_add, Nat.mul_add]
  omega
theorem sub_step (x y k c c' t : Nat) (ws : List Nat) (hk : k < ws.length) (h : vw (ws.take k) + y % 18446744073709551616 ^ k = x % 18446744073709551616 ^ k + 18446744073709551616 ^ k * c) (ht : t + wd y k + c = wd x k + 18446744073709551616 * c') :
    vw ((ws.set k t).take (k + 1)) + y % 18446744073709551616 ^ (k + 1) = x % 18446744073709551616 ^ (k + 1) + 18446744073709551616 ^ (k + 1) * c' := by
  rw [mod_word x k, mod_word y k, vw_set ws k t hk, Nat.pow_succ, Nat.mul_assoc]
  have e : 18446744073709551616 ^ k * t + 18446744073709551616 ^ k * wd y k + 18446744073709551616 ^ k * c = 18446744073709551616 ^ k * wd x k + 18446744073709551616 ^ k * (18446744073709551616 * c') := by
    rw [← Nat.mul_add, ← Nat.mul_add, ← Nat.mul_add, ht]
  omega
/-- what the loop carries -/
def Ca (w : World) (x y k : Nat) (ws : List Nat) (w' : World) : Prop := Wl w' w.heap.size ws ∧ Nm w' (w.heap.size + 1) y ∧ Fr w' (w.heap.size + 1 + 1) (.int .u64 0) (.int .u64 0) (.int .u64 0) (.int .u64 0) ∧ Below w.heap.size w w' ∧ ws.length = 4 ∧ (∀ j, k ≤ j → (h : j < ws.length) → ws[j] = wd x j) ∧ (∀ d ∈ ws, d < 18446744073709551616)
theorem Ca.init (w : World) (x y : Nat) : Ca w x y 0 [wd x 0, wd x 1, wd x 2, wd x 3] (((w.alloc (.cells (cls x) 24)).alloc (.cells (cls y) 24)).alloc (.cells #[.int .u64 0, .int .u64 0, .int .u64 0, .int .u64 0] 24)) := by
  refine ⟨((Nm.new w x).alloc _).alloc _, ?_, ?_, bal (bal (bal (Below.refl _ _) _) _) _, rfl, ?_, ?_⟩
  · have := (Nm.new (w.alloc (.cells (cls x) 24)) y).alloc (.cells #[.int .u64 0, .int .u64 0, .int .u64 0, .int .u64 0] 24)
    simpa using this
  · have := Fr.new ((w.alloc (.cells (cls x) 24)).alloc (.cells (cls y) 24)) (.int .u64 0) (.int .u64 0) (.int .u64 0) (.int .u64 0)
    simpa using this
  · intro j _ h
    match j, h with
    | 0, _ => rfl
    | 1, _ => rfl
    | 2, _ => rfl
    | 3, _ => rfl
  · intro d hd
    simp only [List.mem_cons, List.not_mem_nil, or_false] at hd
    rcases hd with rfl | rfl | rfl | rfl <;> exact wd_lt _ _
theorem Ca.drewN {w w' : World} {x y k : Nat} {ws : List Nat} (h : Ca w x y k ws w') (n : Nat) : Ca w x y k ws (w'.drewN n) := by
  induction n with
  | zero => exact h
  | succ n ih => exact ⟨ih.1, ih.2.1, ih.2.2.1, ih.2.2.2.1.drew, ih.2.2.2.2⟩
theorem Ca.set {w w' : World} {x y k : Nat} {ws : List Nat} (h : Ca w x y k ws w') (t : Nat) (ht : t < 18446744073709551616) : Ca w x y (k + 1) (ws.set k t) (w'.setCell ⟨w.heap.size, k, none⟩ (.int .u64 (t : Int))) := by
  obtain ⟨h1, h2, h3, h4, h5, h6, h7⟩ := h
  refine ⟨h1.set k t, (Below.heap_setCell w' ⟨w.heap.size, k, none⟩ _ (w.heap.size + 1) (by simp)).trans h2, h3.setOther _ (by omega), h4.setCell (p := ⟨w.heap.size, k, none⟩) (Nat.le_refl _) _, by simpa using h5, ?_, ?_⟩
  · intro j hj hl
    rw [List.getElem_set, if_neg (by omega)]
    exact h6 j (by omega) (by simpa using hl)
  · intro d hd
    rcases List.mem_or_eq_of_mem_set hd with h | h
    · exact h7 d h
    · omega
theorem list4 (ws : List Nat) (h : ws.length = 4) : ∃ a b c d, ws = [a, b, c, d] := by
  match ws, h with
  | [a, b, c, d], _ => exact ⟨a, b, c, d, rfl⟩

set_option maxRecDepth 100000 in
set_option maxHeartbeats 1600000 in
theorem r2add_any (x y : Nat) (w : World) (hx : x < 2 ^ 256) (hy : y < 2 ^ 256) :
    Calls Tryd.prog 61 #[num x, num y] w fun e w' => e = .returned (.tuple #[num ((x + y) % 2 ^ 256), .int .u64 (((x + y) / 2 ^ 256 : Nat) : Int)]) ∧ Below w.heap.size w w' := by
  have HX := hid hx
  have HY := hid hy
  have HC := hid (Ca.init w x y)
  clear hx hy
  go_enter Tryd.func61, Tryd.ntmps61
  go_wp2
  generalize ((w.alloc (.cells (cls x) 24)).alloc (.cells (cls y) 24)).alloc (.cells #[.int .u64 0, .int .u64 0, .int .u64 0, .int .u64 0] 24) = w0 at *
  go_loopw [6, 7] (fun c i wr => ∃ (k cy : Nat) (ws : List Nat), k ≤ 4 ∧ i = .int .i64 k ∧ c = .int .u64 cy ∧ cy ≤ 1 ∧ Hid (Ca w x y k ws wr) ∧ Hid (x % 18446744073709551616 ^ k + y % 18446744073709551616 ^ k = vw (ws.take k) + 18446744073709551616 ^ k * cy)) (fun _ i _ => 4 - (intOf i).toNat)
  case atStart => exact ⟨0, 0, _, by omega, rfl, rfl, by omega, HC, hid (by simp [Nat.mod_one, vw])⟩
  case round =>
    obtain ⟨k, cy, ws, hk, rfl, rfl, hc, HC, HV⟩ := hrel
    by_cases hlt : k < 4
    · obtain ⟨h1, h2, h3, h4, h5, h6, h7⟩ := HC.out
      have hkl : k < ws.length := by omega
      have ca := h1.cell k hkl
      rw [h6 k (Nat.le_refl _) hkl] at ca
      have cb := h2.at k hlt
      have hA := wd_lt x k
      have hB := wd_lt y k
      clear h1 h2 h3 h4 h5 h6 h7
      obtain ⟨S, eS⟩ : ∃ S, S = (wd x k + wd y k) % 18446744073709551616 := ⟨_, rfl⟩
      obtain ⟨t, eT⟩ : ∃ t, t = (S + cy) % 18446744073709551616 := ⟨_, rfl⟩
      have s1 : IntKind.u64.wrap ((wd x k : Int) + (wd y k : Int)) = (S : Int) := by rw [IntKind.wrap_u64]; omega
      have s2 : IntKind.u64.wrap ((S : Int) + (cy : Int)) = (t : Int) := by rw [IntKind.wrap_u64]; omega
      have ht : t < 18446744073709551616 := by omega
      have HS := hid (p := ∀ c', (c' = if S < wd y k ∨ t < cy then 1 else 0) → t + 18446744073709551616 * c' = wd x k + wd y k + cy) (by
        intro c' hc'
        have := addc hA hB hc
        rw [← eS, ← eT, ← hc'] at this
        exact this)
      have HT := hid ht
      have HKL := hid hkl
      clear hA hB eS eT ht hkl
      go_wp2
      go_quiet (fail)
      have HC2 := hid (HC.out.drewN nq)
      have ca2 : (wr.drewN nq).cell? ⟨w.heap.size, k, none⟩ = some (.int .u64 (wd x k : Int)) := ca
      have cb2 : (wr.drewN nq).cell? ⟨w.heap.size + 1, k, none⟩ = some (.int .u64 (wd y k : Int)) := cb
      have cf2 := HC2.out.1.frozen k
      clear ca cb HC
      generalize wr.drewN nq = w2 at *
      by_cases g1 : S < wd y k
      · have HS2 := hid (HS.out 1 (by rw [if_pos (Or.inl g1)]))
        go_wp2
        go_roundw
        case rel => exact ⟨k + 1, 1, ws.set k t, by omega, by go_num, rfl, by omega, hid (HC2.out.set t HT.out), hid (add_step x y k cy 1 t ws HKL.out HV.out HS2.out)⟩
        case measure => simp [intOf]; omega
      · by_cases g2 : t < cy
        · have HS2 := hid (HS.out 1 (by rw [if_pos (Or.inr g2)]))
          go_wp2
          go_roundw
          case rel => exact ⟨k + 1, 1, ws.set k t, by omega, by go_num, rfl, by omega, hid (HC2.out.set t HT.out), hid (add_step x y k cy 1 t ws HKL.out HV.out HS2.out)⟩
          case measure => simp [intOf]; omega
        · have HS2 := hid (HS.out 0 (by rw [if_neg (by omega)]))
          go_wp2
          go_roundw
          case rel => exact ⟨k + 1, 0, ws.set k t, by omega, by go_num, rfl, by omega, hid (HC2.out.set t HT.out), hid (add_step x y k cy 0 t ws HKL.out HV.out HS2.out)⟩
          case measure => simp [intOf]; omega
    · obtain rfl : k = 4 := by omega
      obtain ⟨h1, h2, h3, h4, h5, h6, h7⟩ := HC.out
      obtain ⟨a, b, c, d, rfl⟩ := list4 ws h5
      have l0 := h7 a (by simp)
      have l1 := h7 b (by simp)
      have l2 := h7 c (by simp)
      have l3 := h7 d (by simp)
      have hv := HV.out
      simp only [List.take, vw] at hv
      rw [show (18446744073709551616 : Nat) ^ 4 = 2 ^ 256 by decide, Nat.mod_eq_of_lt HX.out, Nat.mod_eq_of_lt HY.out] at hv
      have hv2 : v4 a b c d + 2 ^ 256 * cy = x + y := by rw [hv]; unfold v4; omega
      obtain ⟨q1', q2⟩ := sum_of l0 l1 l2 l3 hv2
      obtain ⟨s, q3⟩ : ∃ s, (x + y) % 2 ^ 256 = s := ⟨_, rfl⟩
      have q1 : v4 a b c d = s := by rw [q1', q3]
      clear hv hv2 q1'
      have hN : Nm wr w.heap.size s := by
        obtain ⟨z0, z1, z2, z3⟩ := wd_v4 l0 l1 l2 l3
        rw [q1] at z0 z1 z2 z3
        have e : (wvs [a, b, c, d]).toArray = cls s := by rw [cls, z0, z1, z2, z3]; rfl
        have := h1
        unfold Wl at this
        rw [e] at this
        exact this
      have HN := hid hN
      have HR := hid h3
      have HB := hid h4
      have Q1 := hid q1
      have Q2 := hid q2
      have Q3 := hid q3
      obtain ⟨c0, c1, c2, c3⟩ := hN.cell
      obtain ⟨d0, d1, d2, d3⟩ := h3.cell
      have df := h3.frozen
      clear h1 h2 h3 h4 h5 h6 h7 hN q1 q2 q3 l0 l1 l2 l3 HC
      go_wp2
      have HN2 := hid (fil_nm s HR.out)
      have HB2 := hid (fil_below s HB.out (show w.heap.size ≤ w.heap.size + 1 + 1 by omega))
      clear c0 c1 c2 c3 d0 d1 d2 d3 df
      change bodyPost _ _ _ _ _ (fil wr (w.heap.size + 1 + 1) s)
      generalize fil wr (w.heap.size + 1 + 1) s = wz at *
      obtain ⟨g0, g1, g2, g3⟩ := HN2.out.cell
      exact bodyPost_ret (v := .tuple #[num s, .int .u64 (cy : Int)]) (by simp [results, Tryd.results61, go_sem, g0, g1, g2, g3]) rfl ⟨by rw [Q3.out, Q2.out], HB2.out⟩

set_option maxRecDepth 100000 in
set_option maxHeartbeats 1600000 in
theorem r2sub_any (x y : Nat) (w : World) (hx : x < 2 ^ 256) (hy : y < 2 ^ 256) :
    Calls Tryd.prog 45 #[num x, num y] w fun e w' => e = .returned (.tuple #[num (dif x y), .int .u64 (lent x y : Int)]) ∧ Below w.heap.size w w' := by
  have HX := hid hx
  have HY := hid hy
  have HC := hid (Ca.init w x y)
  clear hx hy
  go_enter Tryd.func45, Tryd.ntmps45
  go_wp2
  generalize ((w.alloc (.cells (cls x) 24)).alloc (.cells (cls y) 24)).alloc (.cells #[.int .u64 0, .int .u64 0, .int .u64 0, .int .u64 0] 24) = w0 at *
  go_loopw [6, 7] (fun c i wr => ∃ (k cy : Nat) (ws : List Nat), k ≤ 4 ∧ i = .int .i64 k ∧ c = .int .u64 cy ∧ cy ≤ 1 ∧ Hid (Ca w x y k ws wr) ∧ Hid (vw (ws.take k) + y % 18446744073709551616 ^ k = x % 18446744073709551616 ^ k + 18446744073709551616 ^ k * cy)) (fun _ i _ => 4 - (intOf i).toNat)
  case atStart => exact ⟨0, 0, _, by omega, rfl, rfl, by omega, HC, hid (by simp [Nat.mod_one, vw])⟩
  case round =>
    obtain ⟨k, cy, ws, hk, rfl, rfl, hc, HC, HV⟩ := hrel
    by_cases hlt : k < 4
    · obtain ⟨h1, h2, h3, h4, h5, h6, h7⟩ := HC.out
      have hkl : k < ws.length := by omega
      have ca := h1.cell k hkl
      rw [h6 k (Nat.le_refl _) hkl] at ca
      have cb := h2.at k hlt
      have hA := wd_lt x k
      have hB := wd_lt y k
      clear h1 h2 h3 h4 h5 h6 h7
      obtain ⟨S, eS⟩ : ∃ S, S = (wd x k + 18446744073709551616 - wd y k) % 18446744073709551616 := ⟨_, rfl⟩
      obtain ⟨t, eT⟩ : ∃ t, t = (S + 18446744073709551616 - cy) % 18446744073709551616 := ⟨_, rfl⟩
      have s1 : IntKind.u64.wrap ((wd x k : Int) - (wd y k : Int)) = (S : Int) := by rw [IntKind.wrap_u64]; omega
      have s2 : IntKind.u64.wrap ((S : Int) - (cy : Int)) = (t : Int) := by rw [IntKind.wrap_u64]; omega
      have ht : t < 18446744073709551616 := by omega
      have HS := hid (p := ∀ c', (c' = if wd x k < wd y k ∨ S < cy then 1 else 0) → t + wd y k + cy = wd x k + 18446744073709551616 * c') (by
        intro c' hc'
        have := subb hA hB hc
        rw [← eS, ← eT, ← hc'] at this
        exact this)
      have HT := hid ht
      have HKL := hid hkl
      clear hA hB eS eT ht hkl
      go_wp2
      go_quiet (fail)
      have HC2 := hid (HC.out.drewN nq)
      have ca2 : (wr.drewN nq).cell? ⟨w.heap.size, k, none⟩ = some (.int .u64 (wd x k : Int)) := ca
      have cb2 : (wr.drewN nq).cell? ⟨w.heap.size + 1, k, none⟩ = some (.int .u64 (wd y k : Int)) := cb
      have cf2 := HC2.out.1.frozen k
      clear ca cb HC
      generalize wr.drewN nq = w2 at *
      by_cases g1 : wd x k < wd y k
      · have HS2 := hid (HS.out 1 (by rw [if_pos (Or.inl g1)]))
        have g3 : decide (wd x k < wd y k) = true := by simpa using g1
        go_wp2
        go_quiet (fail)
        go_wp2
        go_roundw
        case rel => exact ⟨k + 1, 1, ws.set k t, by omega, by go_num, rfl, by omega, hid ((HC2.out.drewN _).set t HT.out), hid (sub_step x y k cy 1 t ws HKL.out HV.out HS2.out)⟩
        case measure => simp [intOf]; omega
      · by_cases g2 : S < cy
        · have HS2 := hid (HS.out 1 (by rw [if_pos (Or.inr g2)]))
          have g3 : decide (wd x k < wd y k) = false := by simpa using g1
          have g4 : decide (S < cy) = true := by simpa using g2
          go_wp2
          go_quiet (fail)
          go_wp2
          go_roundw
          case rel => exact ⟨k + 1, 1, ws.set k t, by omega, by go_num, rfl, by omega, hid ((HC2.out.drewN _).set t HT.out), hid (sub_step x y k cy 1 t ws HKL.out HV.out HS2.out)⟩
          case measure => simp [intOf]; omega
        · have HS2 := hid (HS.out 0 (by rw [if_neg (by omega)]))
          have g3 : decide (wd x k < wd y k) = false := by simpa using g1
          have g4 : decide (S < cy) = false := by simpa using g2
          go_wp2
          go_quiet (fail)
          go_wp2
          go_roundw
          case rel => exact ⟨k + 1, 0, ws.set k t, by omega, by go_num, rfl, by omega, hid ((HC2.out.drewN _).set t HT.out), hid (sub_step x y k cy 0 t ws HKL.out HV.out HS2.out)⟩
          case measure => simp [intOf]; omega
    · obtain rfl : k = 4 := by omega
      obtain ⟨h1, h2, h3, h4, h5, h6, h7⟩ := HC.out
      obtain ⟨a, b, c, d, rfl⟩ := list4 ws h5
      have l0 := h7 a (by simp)
      have l1 := h7 b (by simp)
      have l2 := h7 c (by simp)
      have l3 := h7 d (by simp)
      have hv := HV.out
      simp only [List.take, vw] at hv
      rw [show (18446744073709551616 : Nat) ^ 4 = 2 ^ 256 by decide, Nat.mod_eq_of_lt HX.out, Nat.mod_eq_of_lt HY.out] at hv
      have hv2 : v4 a b c d + y = x + 2 ^ 256 * cy := by rw [← hv]; unfold v4; omega
      obtain ⟨q1', q2⟩ := dif_of HX.out HY.out l0 l1 l2 l3 hv2 hc
      obtain ⟨s, q3⟩ : ∃ s, dif x y = s := ⟨_, rfl⟩
      have q1 : v4 a b c d = s := by rw [q1', q3]
      clear hv hv2 q1'
      have hN : Nm wr w.heap.size s := by
        obtain ⟨z0, z1, z2, z3⟩ := wd_v4 l0 l1 l2 l3
        rw [q1] at z0 z1 z2 z3
        have e : (wvs [a, b, c, d]).toArray = cls s := by rw [cls, z0, z1, z2, z3]; rfl
        have := h1
        unfold Wl at this
        rw [e] at this
        exact this
      have HN := hid hN
      have HR := hid h3
      have HB := hid h4
      have Q1 := hid q1
      have Q2 := hid q2
      have Q3 := hid q3
      obtain ⟨c0, c1, c2, c3⟩ := hN.cell
      obtain ⟨d0, d1, d2, d3⟩ := h3.cell
      have df := h3.frozen
      clear h1 h2 h3 h4 h5 h6 h7 hN q1 q2 q3 l0 l1 l2 l3 HC
      go_wp2
      have HN2 := hid (fil_nm s HR.out)
      have HB2 := hid (fil_below s HB.out (show w.heap.size ≤ w.heap.size + 1 + 1 by omega))
      clear c0 c1 c2 c3 d0 d1 d2 d3 df
      change bodyPost _ _ _ _ _ (fil wr (w.heap.size + 1 + 1) s)
      generalize fil wr (w.heap.size + 1 + 1) s = wz at *
      obtain ⟨g0, g1, g2, g3⟩ := HN2.out.cell
      exact bodyPost_ret (v := .tuple #[num s, .int .u64 (cy : Int)]) (by simp [results, Tryd.results45, go_sem, g0, g1, g2, g3]) rfl ⟨by rw [Q3.out, Q2.out], HB2.out⟩
end Go.Proofs.YtaggegknnnembaaDoor
