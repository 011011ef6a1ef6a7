/-
  burrowlaw01.BytesSize, RecordsSize, Beyond, walked; a run and a slice of one's own, as a law carries them. Conditions: none.
-/
import Derived.Test.YtikmhnlhaolbfaaDoorTw
import Derived.Test.YtikmhnlhaolbfaaDoorOpenRows
import Derived.Test.YtikmhnlhaolbfaaDoorTwin
import Derived.Test.YtikmhnlhaolbfaaDoorRefOf
import Derived.Test.YtikmhnlhaolbfaaDoorCb
import Derived.Deep.Cut
namespace Go.Proofs.YtikmhnlhaolbfaaDoor
open Go.RowKit
set_option linter.unusedVariables false
set_option linter.unusedSimpArgs false

theorem Rws.at {w wr : World} {a0 : Option Addr} {n : Nat} {A : Nat → Option Addr} {L C : Nat → Nat} {xs : Nat → List UInt8} (h : Rws w a0 n A L C xs) (hb : Below w.heap.size w wr) (r : Nat) (hr : r < n) :
    ∃ g o, a0 = some ⟨g, o, none⟩ ∧ wr.cell? ⟨g, o + r, none⟩ = some (.slice (A r) (L r) (C r)) := by
  obtain ⟨⟨g, o, h1, h2, h3⟩, _⟩ := h r hr
  exact ⟨g, o, h1, (hb.cell (p := ⟨g, o + r, none⟩) h2).trans h3⟩
theorem bytesSize_any (A : Option Addr) (n c : Nat) (w : World) : Calls Tryd.prog 82 #[.slice A n c] w fun e w' => e = .returned (.int .i64 (n : Int)) ∧ w = w' := by
  go_enter Tryd.func82, Tryd.ntmps82
  go_wp2
  go_ret
  exact ⟨rfl, rfl⟩
set_option maxHeartbeats 1000000 in
theorem recSize_any (a0 : Option Addr) (n0 c0 : Nat) (A : Nat → Option Addr) (L C : Nat → Nat) (xs : Nat → List UInt8) (w : World) (hR : Rws w a0 n0 A L C xs) (hn : n0 ≤ 1000000) :
    Calls Tryd.prog 37 #[.slice a0 n0 c0] w fun e w' => (∃ z : Nat, e = .returned (.int .i64 (z : Int)) ∧ z ≤ 281474976710656 ∧ (z ≤ 1048576 → ∀ r, r < n0 → L r ≤ 1048576)) ∧ w = w' := by
  have HR := hid hR
  have HN := hid hn
  clear hR hn
  go_enter Tryd.func37, Tryd.ntmps37
  go_wp2_with fail
  go_loop [3, 4] (fun s i => ∃ k z : Nat, k ≤ n0 ∧ i = .int .i64 k ∧ s = .int .i64 z ∧ z ≤ 281474976710656 ∧ Hid (∀ r, r < k → L r ≤ z)) (fun _ i => n0 - (intOf i).toNat)
  case atStart => exact ⟨0, n0, Nat.zero_le _, rfl, rfl, by have := HN.out; omega, hid (fun r hr => absurd hr (Nat.not_lt_zero _))⟩
  case round =>
    obtain ⟨k, z, hk, rfl, rfl, hz, HZ⟩ := hrel
    by_cases hlt : k < n0
    · by_cases hz2 : z ≤ 1048576
      · obtain ⟨g, o, rfl, hcell⟩ := HR.out.at (Below.refl _ _) k hlt
        obtain ⟨_, hl1, hrd1, hlc, hcb, hac⟩ := HR.out k hlt
        have hLk : L k ≤ 140737488351232 := by omega
        have hw : IntKind.i64.wrap ((z : Int) + (L k : Int)) = ((z : Int) + (L k : Int)) := by rw [IntKind.wrap_i64]; omega
        clear hl1 hrd1 hlc hcb hac
        have hzi : (z : Int) ≤ 1048576 := by omega
        have hn1 := HN.out
        go_wp2_with fail
        refine (bytesSize_any _ _ _ _).mono ?_
        rintro e w1 ⟨rfl, rfl⟩
        go_wp2
        go_round
        case rel => exact ⟨k + 1, z + L k, by omega, by go_num, by simp, by omega, hid (fun r hr => by
          rcases Nat.lt_or_ge r k with h | h
          · have := HZ.out r h; omega
          · obtain rfl : r = k := by omega
            omega)⟩
        case measure => simp [intOf]; omega
      · have hzi : ¬ (z : Int) ≤ 1048576 := by omega
        have hex : ∃ z' : Nat, Ending.returned (Value.int .i64 (z : Int)) = .returned (.int .i64 (z' : Int)) ∧ z' ≤ 281474976710656 ∧ (z' ≤ 1048576 → ∀ r, r < n0 → L r ≤ 1048576) := ⟨z, rfl, hz, fun h => absurd h hz2⟩
        have HEX := hid hex
        clear hex
        go_wp2
        go_ret
        exact ⟨HEX.out, rfl⟩
    · obtain rfl : k = n0 := by omega
      have hex : ∃ z' : Nat, Ending.returned (Value.int .i64 (z : Int)) = .returned (.int .i64 (z' : Int)) ∧ z' ≤ 281474976710656 ∧ (z' ≤ 1048576 → ∀ r, r < k → L r ≤ 1048576) := ⟨z, rfl, hz, fun h r hr => by have := HZ.out r hr; omega⟩
      have HEX := hid hex
      clear hex
      go_wp2
      go_ret
      exact ⟨HEX.out, rfl⟩
/-- one number: beyond what is gone through? -/
theorem beyond_any (g z : Nat) (w : World) (hz : z ≤ 281474976710656) (hc : w.cell? ⟨g, 0, none⟩ = some (.int .i64 (z : Int))) : Calls Tryd.prog 36 #[.slice (some ⟨g, 0, none⟩) 1 1] w fun e w' => e = .returned (.bool (decide (1048576 < z))) ∧ w = w' := by
  by_cases hb : 1048576 < z
  · rw [decide_eq_true hb]
    have hbi : (1048576 : Int) < (z : Int) := by omega
    have hw : IntKind.i64.wrap (z : Int) = (z : Int) := by rw [IntKind.wrap_i64]; omega
    go_enter Tryd.func36, Tryd.ntmps36
    go_wp2_with fail
    go_loop [3, 4] (fun s i => s = .int .i64 0 ∧ i = .int .i64 0) (fun _ i => 1)
    case atStart => exact ⟨rfl, rfl⟩
    case round =>
      obtain ⟨rfl, rfl⟩ := hrel
      go_wp2
      go_ret
      exact ⟨rfl, rfl⟩
  · rw [decide_eq_false hb]
    have hbi : ¬ (1048576 : Int) < (z : Int) := by omega
    have hw : IntKind.i64.wrap (z : Int) = (z : Int) := by rw [IntKind.wrap_i64]; omega
    go_enter Tryd.func36, Tryd.ntmps36
    go_wp2_with fail
    go_loop [3, 4] (fun s i => (s = .int .i64 0 ∧ i = .int .i64 0) ∨ (s = .int .i64 z ∧ i = .int .i64 1)) (fun _ i => 1 - (intOf i).toNat)
    case atStart => exact .inl ⟨rfl, rfl⟩
    case round =>
      rcases hrel with ⟨rfl, rfl⟩ | ⟨rfl, rfl⟩
      · go_wp2
        go_round
        case rel => exact .inr ⟨rfl, rfl⟩
        case measure => simp [intOf]
      · go_wp2
        go_ret
        exact ⟨rfl, rfl⟩
/-- a run and a slice of one's own that hold the same bytes; all older things stand -/
structure Pa (w : World) (B g : Nat) (X : List UInt8) (v : Value) (w' : World) : Prop where
  below : Below w.heap.size w w'
  r : RunIs w' g X
  o : Ow w' B v X
  hg : w.heap.size ≤ g
  gB : g < B
  bw : B ≤ w'.heap.size
  k : Kt w
section
variable {w w' w2 : World} {B g : Nat} {X : List UInt8} {v : Value}
theorem Pa.kt (h : Pa w B g X v w') : Kt w' := h.k.on h.below
theorem Pa.n3 (h : Pa w B g X v w') : 3 ≠ g := by have := h.k.lt; have := h.hg; omega
theorem Pa.old (h : Pa w B g X v w') : Below w.heap.size w w' := h.below
theorem Pa.on (h : Pa w B g X v w') (hb : Below w'.heap.size w' w2) : Pa w B g X v w2 :=
  ⟨h.below.trans (hb.mono h.below.size), h.r.heap (hb.block _ h.r.lt), h.o.on hb, h.hg, h.gB, Nat.le_trans h.bw hb.size, h.k⟩
/-- another block is filled anew -/
theorem Pa.grown (h : Pa w B g X v w') {t : Nat} (hg : w'.grownBy w2 (some t)) (h1 : w.heap.size ≤ t) (h2 : g ≠ t) (h3 : v.ownBlock ≠ some t) : Pa w B g X v w2 :=
  ⟨below_grown h.below hg h1 h.below.size, h.r.heap (hg.block _ h.r.lt (by intro e; injection e with e; exact h2 e)), World.ownsRow.kept h.o hg (.inr h3), h.hg, h.gB, Nat.le_trans h.bw hg.size, h.k⟩
/-- what is written is put behind the slice, too -/
theorem Pa.step (h : Pa w B g X v w') {p q : List UInt8} {A : Option Addr} {m c t : Nat} (hr : RunIs w2 g (X ++ p)) (hg : w'.grownBy w2 (some g)) (hrd : Rd w2 A p) (hl : p.length = m) (hA : A = none → c = 0) (hs : X.length + m ≤ 140737488355328) (ht : Row w2 t q) (hvt : ∀ k, v.ownBlock = some k → k ≠ t) :
    ∃ A2 c2 n2 w3, Hid ((Builtin.append_ #[41, 41] 41 #[v, .slice A m c]).run Tryd.prog w2 = .ok (.slice A2 n2 c2) w3) ∧ Hid (Pa w B g (X ++ p) (.slice A2 n2 c2) w3) ∧ Hid (n2 = X.length + m) ∧ Hid (Row w3 t q) ∧ Hid ((Value.slice A2 n2 c2).ownBlock ≠ some t) := by
  have b1 := below_grown h.below hg h.hg h.below.size
  have o1 := h.o.but hg h.gB
  have s1 := Nat.le_trans h.bw hg.size
  obtain ⟨v2, w3, hrun, hown, hg3, hob⟩ := append_bytes w2 B v X p A m c o1 hrd hl hA hs s1
  obtain ⟨A2, c2, rfl, _, _, _, _⟩ := hown.form
  have hfar : ∀ k, v.ownBlock = some k → B ≤ k ∧ k < w2.heap.size := World.ownsRow.lt o1
  have keep : ∀ g', g' < B → g' < w2.heap.size → w3.heap[g']? = w2.heap[g']? := fun g' hgB hgs => hg3.block g' hgs (by intro e; have := (hfar g' e.symm).1; omega)
  have hB2 := h.gB; have hwB := h.hg
  refine ⟨A2, c2, _, w3, hid hrun, hid ⟨b1.trans ⟨hg3.os, hg3.tape, hg3.output, hg3.size, fun k hk => keep k (by omega) (by have := b1.size; omega)⟩, hr.heap (keep _ h.gB hr.lt), hown, h.hg, h.gB, Nat.le_trans s1 hg3.size, h.k⟩, hid (by rw [List.length_append, hl]), hid ?_, hid ?_⟩
  · exact (hg3.block t ht.lt (by intro e; exact hvt _ e.symm rfl)).trans ht
  · intro e
    rcases hob with e2 | e2
    · rw [e2] at e; exact hvt _ e rfl
    · rw [e2] at e; injection e with e; have := ht.lt; omega
end
end Go.Proofs.YtikmhnlhaolbfaaDoor
