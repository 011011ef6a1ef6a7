/-
  What is got of bytes: the program and the document's own answers agree. Conditions: none.
-/
import Derived.Test.YtgpbadekahpcmaaGreatDoorHold
import Derived.Test.YtgpbadekahpcmaaGreatDoorEqNum
namespace Go.Proofs.YtgpbadekahpcmaaGreatDoor
open Go.RowKit
set_option linter.unusedVariables false

theorem beyond1_no (g n : Nat) (w : World) (h1 : w.cell? ⟨g, 0, none⟩ = some (.int .i64 (n : Int))) (hs : n ≤ 1048576) :
    Calls Tryz.prog 5 #[.slice (some ⟨g, 0, none⟩) 1 1] w fun e w' => e = .returned (.bool false) ∧ w = w' := by
  go_enter Tryz.func5, Tryz.ntmps5
  go_wp2
  refine wp_loop_rounds 2 ?_
  rw [rounds_succ]
  go_wp2
  rw [rounds_succ]
  go_wp2
  go_ret
  exact ⟨rfl, rfl⟩

theorem beyond1_yes (g n : Nat) (w : World) (h1 : w.cell? ⟨g, 0, none⟩ = some (.int .i64 (n : Int))) (hs : 1048576 < n) (hn : n ≤ 140737488355328) :
    Calls Tryz.prog 5 #[.slice (some ⟨g, 0, none⟩) 1 1] w fun e w' => e = .returned (.bool true) ∧ w = w' := by
  go_enter Tryz.func5, Tryz.ntmps5
  go_wp2
  refine wp_loop_rounds 2 ?_
  rw [rounds_succ]
  go_wp2
  go_ret
  exact ⟨rfl, rfl⟩

/-- a number, got by the program and by the document -/
structure GetIs (bs : List UInt8) (k a b : Int) : Prop where
  own : ∀ (A : Option Addr) (c : Nat) (w : World), Rd w A bs → bs.length ≤ c → c ≤ 9223372036854775807 → Calls Tryz.prog 17 #[.slice A bs.length c, .int .i64 k] w fun e w' => e = .returned (.tuple #[.int .u64 a, .int .i64 b]) ∧ w = w'
  ref : ∀ (A : Option Addr) (c : Nat) (w : World), Rd w A bs → bs.length ≤ c → c ≤ 9223372036854775807 → Calls Tryz.prog 18 #[.slice A bs.length c, .int .i64 k] w fun e w' => e = .returned (.tuple #[.int .u64 a, .int .i64 b]) ∧ ∃ q, w' = w.drewN q

theorem get_both (bs : List UInt8) (k : Int) : ∃ a b, GetIs bs k a b := by
  rcases Int.lt_or_le k 0 with h0 | h0
  · exact ⟨0, 1, fun A c w _ _ _ => get_arg A _ c k w (.inl h0), fun A c w _ _ _ => rget_arg A _ c k w (.inl h0)⟩
  · rcases Int.lt_or_le 8 k with h8 | h8
    · exact ⟨0, 1, fun A c w _ _ _ => get_arg A _ c k w (.inr h8), fun A c w _ _ _ => rget_arg A _ c k w (.inr h8)⟩
    · rcases Int.lt_or_le (bs.length : Int) k with hs | hs
      · exact ⟨0, 5, fun A c w _ _ _ => get_short A _ c k w h0 h8 hs, fun A c w _ _ _ => rget_short A _ c k w h0 h8 hs⟩
      · obtain ⟨K, rfl⟩ := Int.eq_ofNat_of_zero_le h0
        exact ⟨(tell (bs.take K) : Int), 0, fun A c w hr hc hc2 => get_ok A c K bs w hr hc hc2 (by omega) (by omega), fun A c w hr hc hc2 => rget_ok A c K bs w hr hc hc2 (by omega) (by omega)⟩

/-- a long number -/
structure LongIs (bs : List UInt8) (a b c d e : Int) : Prop where
  own : ∀ (A : Option Addr) (k : Nat) (w : World), Rd w A bs → bs.length ≤ k → k ≤ 9223372036854775807 → Calls Tryz.prog 19 #[.slice A bs.length k] w fun n w' => n = .returned (.tuple #[.agg #[.int .u64 a, .int .u64 b, .int .u64 c, .int .u64 d], .int .i64 e]) ∧ Below w.heap.size w w'
  ref : ∀ (A : Option Addr) (k : Nat) (w : World), Rd w A bs → bs.length ≤ k → k ≤ 9223372036854775807 → Calls Tryz.prog 20 #[.slice A bs.length k] w fun n w' => n = .returned (.tuple #[.agg #[.int .u64 a, .int .u64 b, .int .u64 c, .int .u64 d], .int .i64 e]) ∧ Below w.heap.size w w'

theorem long_both (bs : List UInt8) : ∃ a b c d e, LongIs bs a b c d e := by
  rcases Nat.lt_or_ge bs.length 32 with h | h
  · exact ⟨0, 0, 0, 0, 5, fun A c w _ _ _ => getLong_short A _ c w h, fun A c w _ _ _ => rgetLong_short A _ c w h⟩
  · exact ⟨_, _, _, _, 0, fun A c w hr hc hc2 => getLong_ok A c bs w hr hc hc2 h, fun A c w hr hc hc2 => rgetLong_ok A c bs w hr hc hc2 h⟩

/-- bytes that are refused -/
structure NoBytes (bs : List UInt8) : Prop where
  own : ∀ (A : Option Addr) (k : Nat) (w : World), Rd w A bs → bs.length ≤ k → k ≤ 9223372036854775807 → Calls Tryz.prog 21 #[.slice A bs.length k] w fun n w' => n = .returned (.tuple #[.slice none 0 0, .int .i64 0, .int .i64 5]) ∧ w = w'
  ref : ∀ (A : Option Addr) (k : Nat) (w : World), Rd w A bs → bs.length ≤ k → k ≤ 9223372036854775807 → Calls Tryz.prog 22 #[.slice A bs.length k] w fun n w' => n = .returned (.tuple #[.slice none 0 0, .int .i64 0, .int .i64 5]) ∧ ∃ q, w' = w.drewN q
/-- bytes that are got -/
structure GotBytes (bs ls : List UInt8) : Prop where
  own : ∀ (A : Option Addr) (k : Nat) (w : World), Rd w A bs → bs.length ≤ k → k ≤ 9223372036854775807 → Calls Tryz.prog 21 #[.slice A bs.length k] w fun n w' => n = .returned (.tuple #[.slice (some ⟨w.heap.size, 0, none⟩) ls.length ls.length, .int .i64 (4 + (ls.length : Int)), .int .i64 0]) ∧ Row w' w.heap.size ls ∧ Below w.heap.size w w'
  ref : ∀ (A : Option Addr) (k : Nat) (w : World), Rd w A bs → bs.length ≤ k → k ≤ 9223372036854775807 → Calls Tryz.prog 22 #[.slice A bs.length k] w fun n w' => ∃ R q, n = .returned (.tuple #[.slice R ls.length q, .int .i64 (4 + (ls.length : Int)), .int .i64 0]) ∧ Rd w' R ls ∧ Below w.heap.size w w'

theorem bytes_both (bs : List UInt8) (hn : bs.length ≤ 140737488355328) : NoBytes bs ∨ ∃ ls, ls.length ≤ bs.length ∧ GotBytes bs ls := by
  rcases Nat.lt_or_ge bs.length 4 with h | h
  · exact .inl ⟨fun A c w _ _ _ => getBytes_head A _ c w h, fun A c w _ _ _ => rgetBytes_head A _ c w h⟩
  · rcases Nat.lt_or_ge (bs.length - 4) (tell (bs.take 4)) with h2 | h2
    · exact .inl ⟨fun A c w hr hc hc2 => getBytes_short A c bs w hr hc hc2 h h2 hn, fun A c w hr hc hc2 => rgetBytes_short A c bs w hr hc hc2 h h2 hn⟩
    · have hl : ((bs.drop 4).take (tell (bs.take 4))).length = tell (bs.take 4) := by simp; omega
      refine .inr ⟨(bs.drop 4).take (tell (bs.take 4)), by rw [hl]; omega, fun A c w hr hc hc2 => ?_, fun A c w hr hc hc2 => ?_⟩
      · rw [hl]; exact getBytes_ok A c bs w hr hc hc2 h h2 hn
      · refine (rgetBytes_ok A c bs w hr hc hc2 h h2 hn).mono ?_
        rintro e w' ⟨v, rfl, how, hb⟩
        obtain ⟨R, q, rfl, _, _, hr', _⟩ := how.form
        exact ⟨R, q, by rw [hl], hr', hb⟩

/-- what is carried: nothing below w has changed; boxes of long numbers; blocks of bytes -/
structure Rc (w : World) (bx : List (Nat × Array Value)) (L : List (Nat × List UInt8)) (wk : World) : Prop where
  bel : Below w.heap.size w wk
  box : ∀ p ∈ bx, wk.heap[p.1]? = some (.cells p.2 25 (0, 0))
  row : Rws wk L
variable {w : World} {bx : List (Nat × Array Value)} {L : List (Nat × List UInt8)} {wk w' : World}
theorem Rc.below (h : Rc w bx L wk) (hb : Below wk.heap.size wk w') : Rc w bx L w' :=
  ⟨h.bel.trans (hb.mono h.bel.size), fun p hp => (hb.block p.1 (lt_of_block (h.box p hp))).trans (h.box p hp), h.row.below hb⟩
theorem Rc.alloc (h : Rc w bx L wk) (o : Obj) : Rc w bx L (wk.alloc o) := h.below ((Below.refl _ _).alloc (Nat.le_refl _) o)
theorem Rc.add (h : Rc w bx L wk) {g : Nat} {bs : List UInt8} (hr : Row wk g bs) : Rc w bx ((g, bs) :: L) wk := ⟨h.bel, h.box, h.row.add hr⟩
theorem Rc.num (h : Rc w bx L wk) (zc : Array Value) : Rc w ((wk.heap.size, zc) :: bx) L (wk.alloc (.cells zc 25)) := by
  refine ⟨(h.alloc _).bel, ?_, (h.alloc _).row⟩
  intro p hp
  rcases List.mem_cons.1 hp with rfl | hp
  · exact heap_alloc_new _ _
  · exact (h.alloc _).box p hp
theorem Rc.drewN (h : Rc w bx L wk) (k : Nat) : Rc w bx L (wk.drewN k) := ⟨below_drewN h.bel k, h.box, h.row⟩
theorem Rc.cell (h : Rc w bx L wk) (g : Nat) (zc : Array Value) (hm : (g, zc) ∈ bx) (i : Nat) (v : Value) (hv : zc[i]? = some v) : wk.cell? ⟨g, i, none⟩ = some v := by
  rw [cell_of_row wk g i _ 25 (0, 0) (h.box _ hm), hv]
end Go.Proofs.YtgpbadekahpcmaaGreatDoor
