/-
  The document's lown answers (burrowref01), walked: Told, Get, GetLong, GetBytes. Conditions: sizes within 2^46.
-/
import Derived.Test.YtcijnoapjicliaaDoorPkT
import Derived.Test.YtcijnoapjicliaaDoorPkI
import Derived.Test.YtcijnoapjicliaaDoorPkG
import Derived.Deep.QuietTactic
import Derived.BigQuiet
namespace Go.Proofs.YtcijnoapjicliaaDoor
open Go.RowKit
set_option linter.unusedVariables false

theorem below_of_drewN {w w' : World} {k : Nat} (h : Below (w.drewN k).heap.size (w.drewN k) w') : Below w.heap.size w w' := ⟨h.os, h.tape, h.output, h.size, h.block⟩

theorem ret_int {k : IntKind} {a b : Int} (h : a = b) : Ending.returned (.int k a) = .returned (.int k b) := by rw [h]

/-- a number that a call tells, in a world that only drew -/
def SaysN (w : World) (t : Nat) (e : Ending) (w' : World) : Prop := e = .returned (.int .u64 (t : Int)) ∧ ∃ k, w' = w.drewN k

set_option maxRecDepth 100000 in
theorem rtold_any (m : Nat) : ∀ (A : Option Addr) (c : Nat) (bs : List UInt8) (w : World), bs.length = m → Rd w A bs → m ≤ c → c ≤ 9223372036854775807 → m ≤ 8 →
    Calls Tryd.prog 54 #[.slice A m c] w (SaysN w (tell bs)) := by
  induction m with
  | zero =>
    intro A c bs w hl hr hc hc2 h8
    obtain rfl : bs = [] := List.eq_nil_of_length_eq_zero hl
    go_enter Tryd.func54, Tryd.ntmps54
    go_wp2
    go_ret
    exact ⟨rfl, 0, rfl⟩
  | succ m ih =>
    intro A c bs w hl hr hc hc2 h8
    have hm : m < bs.length := by omega
    have HS := hid (p := tell bs = tell (bs.take m) * 256 + bs[m].toNat) (by rw [← tell_take_succ bs m hm, List.take_of_length_le (by omega)])
    have hT : tell (bs.take m) < 72057594037927936 := Nat.lt_of_lt_of_le (tell_lt (bs.take m)) (pow256_le (k := (bs.take m).length) (by rw [List.length_take]; omega))
    have hX : bs[m].toNat < 256 := bs[m].toNat_lt
    obtain ⟨g, o, rfl, hg, hcell⟩ := hr (by omega)
    have k0 := hcell m hm
    clear hcell
    have IH := hid (fun w' (hw : Rd w' (some ⟨g, o, none⟩) (bs.take m)) => ih (some ⟨g, o, none⟩) c (bs.take m) w' (by rw [List.length_take]; omega) hw (by omega) hc2 (by omega))
    clear ih
    have HR := hid (hr.take m)
    generalize bs[m].toNat = x at *
    generalize tell (bs.take m) = t at *
    clear hr hm
    have hne : (((m + 1 : Nat) : Int) == 0) = false := by simp; omega
    go_enter Tryd.func54, Tryd.ntmps54
    go_wp2
    have hw1 : IntKind.u64.wrap (256 * (t : Int)) = 256 * (t : Int) := IntWalk.u64_in _ (by omega)
    have hw2 : IntKind.u64.wrap (x : Int) = (x : Int) := IntWalk.u64_in _ (by omega)
    have hw3 : IntKind.u64.wrap (256 * (t : Int) + (x : Int)) = 256 * (t : Int) + (x : Int) := IntWalk.u64_in _ (by omega)
    have i1 : (m : Int) < (m : Int) + 1 := by omega
    have i2 : (0 : Int) ≤ (m : Int) := by omega
    have i3 : (m : Int) ≤ (c : Int) := by omega
    go_quiet ((go_at_call 54; exact Calls.quiet_of (IH.out _ (by exact HR.out))))
    go_wp2
    go_ret
    exact ⟨ret_int (by rw [HS.out]; omega), nq, rfl⟩

/-- two results, in a world that only drew -/
def Says2 (w : World) (a b : Int) (e : Ending) (w' : World) : Prop := e = .returned (.tuple #[.int .u64 a, .int .i64 b]) ∧ ∃ k, w' = w.drewN k

theorem rget_arg (A : Option Addr) (n c : Nat) (k : Int) (w : World) (hk : k < 0 ∨ 8 < k) : Calls Tryd.prog 75 #[.slice A n c, .int .i64 k] w (Says2 w 0 1) := by
  rcases hk with hk | hk
  · go_enter Tryd.func75, Tryd.ntmps75
    go_wp2
    go_ret2
    exact ⟨rfl, 0, rfl⟩
  · have h' : ¬ k < 0 := by omega
    go_enter Tryd.func75, Tryd.ntmps75
    go_wp2
    go_ret2
    exact ⟨rfl, 0, rfl⟩

theorem rget_short (A : Option Addr) (n c : Nat) (k : Int) (w : World) (h0 : 0 ≤ k) (h8 : k ≤ 8) (hk : (n : Int) < k) : Calls Tryd.prog 75 #[.slice A n c, .int .i64 k] w (Says2 w 0 5) := by
  go_enter Tryd.func75, Tryd.ntmps75
  go_wp2
  go_ret2
  exact ⟨rfl, 0, rfl⟩

set_option maxRecDepth 100000 in
theorem rget_ok (A : Option Addr) (c K : Nat) (bs : List UInt8) (w : World) (hr : Rd w A bs) (hc : bs.length ≤ c) (hc2 : c ≤ 9223372036854775807) (h8 : K ≤ 8) (hk : K ≤ bs.length) :
    Calls Tryd.prog 75 #[.slice A bs.length c, .int .i64 (K : Int)] w (Says2 w (tell (bs.take K) : Int) 0) := by
  have HT := hid (rtold_any K A c (bs.take K) w (by rw [List.length_take]; omega) (hr.take K) (by omega) hc2 h8)
  go_enter Tryd.func75, Tryd.ntmps75
  go_wp2_with fail
  refine HT.out.mono ?_
  rintro e w' ⟨rfl, nq, rfl⟩
  go_wp2
  go_ret2
  exact ⟨rfl, nq, rfl⟩

theorem Rd.drewN {w : World} {A : Option Addr} {bs : List UInt8} (h : Rd w A bs) (k : Nat) : Rd (w.drewN k) A bs := h

theorem rtold_len (A : Option Addr) (c t : Nat) (bs : List UInt8) (w : World) (hl : bs.length = 8) (hc : 8 ≤ c) (hc2 : c ≤ 9223372036854775807) (ht : tell bs = t) (hr : Rd w A bs) :
    Calls Tryd.prog 54 #[.slice A 8 c] w (SaysN w t) := by
  subst ht; exact rtold_any 8 A c bs w hl hr hc hc2 (by omega)

theorem rgetLong_short (A : Option Addr) (n c : Nat) (w : World) (hn : n < 32) :
    Calls Tryd.prog 37 #[.slice A n c] w fun e w' => e = .returned (.tuple #[.agg #[.int .u64 0, .int .u64 0, .int .u64 0, .int .u64 0], .int .i64 5]) ∧ Below w.heap.size w w' := by
  go_enter Tryd.func37, Tryd.ntmps37
  go_wp2
  refine bodyPost_ret (v := .tuple #[.agg #[.int .u64 0, .int .u64 0, .int .u64 0, .int .u64 0], .int .i64 5]) (by simp [results, Tryd.results37, go_sem]) rfl ⟨rfl, ?_⟩
  exact ((Below.refl _ _).alloc (Nat.le_refl _) _).alloc (by simp) _

/-- the result's box and the number's, while it is made -/
def GL (w wk : World) (x y : Array Value) : Prop := Below w.heap.size w wk ∧ wk.heap[w.heap.size]? = some (.cells x 26 (0, 0)) ∧ wk.heap[w.heap.size + 1]? = some (.cells y 26 (0, 0))
theorem GL.drewN {w wk : World} {x y : Array Value} (h : GL w wk x y) (k : Nat) : GL w (wk.drewN k) x y := ⟨below_drewN h.1 k, h.2⟩
theorem GL.cell {w wk : World} {x y : Array Value} (h : GL w wk x y) (i : Nat) (v : Value) (hv : y[i]? = some v) : wk.cell? ⟨w.heap.size + 1, i, none⟩ = some v := by rw [cell_of_row _ _ _ _ 26 (0, 0) h.2.2, hv]
theorem GL.cell0 {w wk : World} {x y : Array Value} (h : GL w wk x y) (i : Nat) (v : Value) (hv : x[i]? = some v) : wk.cell? ⟨w.heap.size, i, none⟩ = some v := by rw [cell_of_row _ _ _ _ 26 (0, 0) h.2.1, hv]
theorem GL.frozen {w wk : World} {x y : Array Value} (h : GL w wk x y) (i : Nat) : wk.frozen? ⟨w.heap.size + 1, i, none⟩ = false := by simp [World.frozen?, h.2.2]
theorem GL.frozen0 {w wk : World} {x y : Array Value} (h : GL w wk x y) (i : Nat) : wk.frozen? ⟨w.heap.size, i, none⟩ = false := by simp [World.frozen?, h.2.1]
theorem GL.set {w wk : World} {x y : Array Value} (h : GL w wk x y) (i : Nat) (v : Value) : GL w (wk.setCell ⟨w.heap.size + 1, i, none⟩ v) x (y.setIfInBounds i v) :=
  ⟨h.1.setCell (by simp) v, (Below.heap_setCell wk _ v _ (by simp)).trans h.2.1, by simp [World.setCell, Array.getElem?_modify, h.2.2]⟩

set_option maxRecDepth 100000 in
set_option maxHeartbeats 800000 in
theorem rgetLong_ok (A : Option Addr) (c : Nat) (bs : List UInt8) (w : World) (hr : Rd w A bs) (hc : bs.length ≤ c) (hc2 : c ≤ 9223372036854775807) (h4 : 32 ≤ bs.length) :
    Calls Tryd.prog 37 #[.slice A bs.length c] w fun e w' => e = .returned (.tuple #[.agg #[.int .u64 (word bs 3 : Int), .int .u64 (word bs 2 : Int), .int .u64 (word bs 1 : Int), .int .u64 (word bs 0 : Int)], .int .i64 0]) ∧
      Below w.heap.size w w' := by
  obtain ⟨g, o, rfl, hg, hcell⟩ := hr (by omega)
  have H0 := hid ((hr.cut 0 (some ⟨g, o, none⟩) (fun ad h _ => by injection h with h; subst h; rw [add_plain]; rfl)).take 8)
  have H1 := hid ((hr.cut 8 (some ⟨g, o + 8, none⟩) (fun ad h _ => by injection h with h; subst h; rw [add_plain])).take 8)
  have H2 := hid ((hr.cut 16 (some ⟨g, o + 16, none⟩) (fun ad h _ => by injection h with h; subst h; rw [add_plain])).take 8)
  have H3 := hid ((hr.cut 24 (some ⟨g, o + 24, none⟩) (fun ad h _ => by injection h with h; subst h; rw [add_plain])).take 8)
  have HL : Hid (∀ k, k ≤ 24 → ((bs.drop k).take 8).length = 8) := hid (fun k hk => by simp; omega)
  have W0 := hid (p := tell ((bs.drop 0).take 8) = word bs 0) rfl
  have W1 := hid (p := tell ((bs.drop 8).take 8) = word bs 1) rfl
  have W2 := hid (p := tell ((bs.drop 16).take 8) = word bs 2) rfl
  have W3 := hid (p := tell ((bs.drop 24).take 8) = word bs 3) rfl
  clear hcell hr
  have h32 : decide ((bs.length : Int) < 32) = false := by simp; omega
  generalize word bs 0 = x0 at *
  generalize word bs 1 = x1 at *
  generalize word bs 2 = x2 at *
  generalize word bs 3 = x3 at *
  go_enter Tryd.func37, Tryd.ntmps37
  go_wp2
  have G0 := hid (p := GL w ((w.alloc (.cells #[.int .u64 0, .int .u64 0, .int .u64 0, .int .u64 0] 26)).alloc (.cells #[.int .u64 0, .int .u64 0, .int .u64 0, .int .u64 0] 26)) #[.int .u64 0, .int .u64 0, .int .u64 0, .int .u64 0] #[.int .u64 0, .int .u64 0, .int .u64 0, .int .u64 0]) ⟨((Below.refl _ _).alloc (Nat.le_refl _) _).alloc (by simp) _, (Below.heap_alloc _ _ _ (by simp)).trans (heap_alloc_new _ _), by
    have := heap_alloc_new (w.alloc (.cells #[.int .u64 0, .int .u64 0, .int .u64 0, .int .u64 0] 26)) (.cells #[.int .u64 0, .int .u64 0, .int .u64 0, .int .u64 0] 26)
    simpa using this⟩
  generalize (w.alloc (.cells #[.int .u64 0, .int .u64 0, .int .u64 0, .int .u64 0] 26)).alloc (.cells #[.int .u64 0, .int .u64 0, .int .u64 0, .int .u64 0] 26) = w0 at *
  refine wp_loop_rounds 5 ?_
  rw [rounds_succ]
  go_wp2_with fail
  refine (rtold_len _ _ x3 _ _ (HL.out 24 (by omega)) (by omega) (by omega) W3.out (H3.out.below G0.out.1 (Nat.le_refl _))).mono ?_
  rintro e w' ⟨rfl, q0, rfl⟩
  have G0' := hid (G0.out.drewN q0)
  clear G0
  generalize w0.drewN q0 = v0 at *
  have c0 := G0'.out.cell 0 _ rfl
  have f0 := G0'.out.frozen 0
  go_wp2
  clear c0 f0
  have G1 := hid (p := GL w (v0.setCell ⟨w.heap.size + 1, 0, none⟩ (.int .u64 (x3 : Int))) #[.int .u64 0, .int .u64 0, .int .u64 0, .int .u64 0] #[.int .u64 (x3 : Int), .int .u64 0, .int .u64 0, .int .u64 0]) (G0'.out.set 0 _)
  clear G0'
  generalize v0.setCell ⟨w.heap.size + 1, 0, none⟩ (.int .u64 (x3 : Int)) = w1 at *
  rw [rounds_succ]
  go_wp2_with fail
  refine (rtold_len _ _ x2 _ _ (HL.out 16 (by omega)) (by omega) (by omega) W2.out (H2.out.below G1.out.1 (Nat.le_refl _))).mono ?_
  rintro e w' ⟨rfl, q1, rfl⟩
  have G1' := hid (G1.out.drewN q1)
  clear G1
  generalize w1.drewN q1 = v1 at *
  have c1 := G1'.out.cell 1 _ rfl
  have f1 := G1'.out.frozen 1
  go_wp2
  clear c1 f1
  have G2 := hid (p := GL w (v1.setCell ⟨w.heap.size + 1, 1, none⟩ (.int .u64 (x2 : Int))) #[.int .u64 0, .int .u64 0, .int .u64 0, .int .u64 0] #[.int .u64 (x3 : Int), .int .u64 (x2 : Int), .int .u64 0, .int .u64 0]) (G1'.out.set 1 _)
  clear G1'
  generalize v1.setCell ⟨w.heap.size + 1, 1, none⟩ (.int .u64 (x2 : Int)) = w2 at *
  rw [rounds_succ]
  go_wp2_with fail
  refine (rtold_len _ _ x1 _ _ (HL.out 8 (by omega)) (by omega) (by omega) W1.out (H1.out.below G2.out.1 (Nat.le_refl _))).mono ?_
  rintro e w' ⟨rfl, q2, rfl⟩
  have G2' := hid (G2.out.drewN q2)
  clear G2
  generalize w2.drewN q2 = v2 at *
  have c2 := G2'.out.cell 2 _ rfl
  have f2 := G2'.out.frozen 2
  go_wp2
  clear c2 f2
  have G3 := hid (p := GL w (v2.setCell ⟨w.heap.size + 1, 2, none⟩ (.int .u64 (x1 : Int))) #[.int .u64 0, .int .u64 0, .int .u64 0, .int .u64 0] #[.int .u64 (x3 : Int), .int .u64 (x2 : Int), .int .u64 (x1 : Int), .int .u64 0]) (G2'.out.set 2 _)
  clear G2'
  generalize v2.setCell ⟨w.heap.size + 1, 2, none⟩ (.int .u64 (x1 : Int)) = w3 at *
  rw [rounds_succ]
  go_wp2_with fail
  refine (rtold_len _ _ x0 _ _ (HL.out 0 (by omega)) (by omega) (by omega) W0.out (H0.out.below G3.out.1 (Nat.le_refl _))).mono ?_
  rintro e w' ⟨rfl, q3, rfl⟩
  have G3' := hid (G3.out.drewN q3)
  clear G3
  generalize w3.drewN q3 = v3 at *
  have c3 := G3'.out.cell 3 _ rfl
  have f3 := G3'.out.frozen 3
  go_wp2
  clear c3 f3
  have G4 := hid (p := GL w (v3.setCell ⟨w.heap.size + 1, 3, none⟩ (.int .u64 (x0 : Int))) #[.int .u64 0, .int .u64 0, .int .u64 0, .int .u64 0] #[.int .u64 (x3 : Int), .int .u64 (x2 : Int), .int .u64 (x1 : Int), .int .u64 (x0 : Int)]) (G3'.out.set 3 _)
  clear G3'
  generalize v3.setCell ⟨w.heap.size + 1, 3, none⟩ (.int .u64 (x0 : Int)) = w4 at *
  rw [rounds_succ]
  have c0 := G4.out.cell 0 _ rfl
  have c1 := G4.out.cell 1 _ rfl
  have c2 := G4.out.cell 2 _ rfl
  have c3 := G4.out.cell 3 _ rfl
  have d0 := G4.out.cell0 0 _ rfl
  have d1 := G4.out.cell0 1 _ rfl
  have d2 := G4.out.cell0 2 _ rfl
  have d3 := G4.out.cell0 3 _ rfl
  have e0 := G4.out.frozen0 0
  have e1 := G4.out.frozen0 1
  have e2 := G4.out.frozen0 2
  have e3 := G4.out.frozen0 3
  go_wp2
  refine bodyPost_ret (v := .tuple #[.agg #[.int .u64 (x3 : Int), .int .u64 (x2 : Int), .int .u64 (x1 : Int), .int .u64 (x0 : Int)], .int .i64 0]) (by simp [results, Tryd.results37, go_sem, d0, d1, d2, d3]) rfl ⟨rfl, ?_⟩
  exact (((G4.out.1.setCell (Nat.le_refl _) _).setCell (Nat.le_refl _) _).setCell (Nat.le_refl _) _).setCell (Nat.le_refl _) _
end Go.Proofs.YtcijnoapjicliaaDoor
