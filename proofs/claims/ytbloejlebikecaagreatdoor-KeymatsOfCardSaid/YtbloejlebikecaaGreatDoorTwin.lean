/-
  burrowlaw01.TwinBytes and LeftBytes, walked. Condition: no more than 2^46 bytes.
-/
import Derived.Test.YtbloejlebikecaaGreatDoorRef
import Derived.Test.YtbloejlebikecaaGreatDoorPut
import Derived.Test.YtbloejlebikecaaGreatDoorSame
namespace Go.Proofs.YtbloejlebikecaaGreatDoor
open Go.RowKit
set_option linter.unusedVariables false

theorem run_make_room (w : World) (n : Nat) (h : n ≤ 140737488355328) :
    (Instr.makeSlice 27 (.int .i64 0) (.int .i64 ((n : Int) + 1))).run Tryz.prog w = .ok (.slice (some ⟨w.heap.size, 0, none⟩) 0 (n + 1)) (w.alloc (.cells (bvs (List.replicate (n + 1) 0)).toArray 5)) := by
  obtain ⟨i0, hi, hz0, hz1, hz2⟩ := info_parts u8_info
  have := run_make (P := Tryz.prog) w 27 5 i0 (.int .u8 0) Tryz.underlying27 hi hz0 .i64 .i64 (0 : Int) ((n : Int) + 1) (by omega) (by omega) (by rw [hz2]; omega) (by omega)
  rw [this, hz1, Nat.mul_one, show ((n : Int) + 1).toNat = n + 1 from by omega, made_bytes]
  rfl

theorem Row.of_new (w : World) (bs : List UInt8) : Row (w.alloc (.cells (bvs bs).toArray 5)) w.heap.size bs := heap_alloc_new w _

/-- an append that fits, into a block that is known whole -/
theorem append_room (w : World) (g k n m c : Nat) (bs ls : List UInt8) (A : Option Addr) (hg : Row w g bs) (hr : Rd w A ls) (hm : ls.length = m) (hp : 0 < m) (hk : k + m ≤ n) (hn : n ≤ bs.length) :
    ∃ w', (Builtin.append_ #[27, 27] 27 #[.slice (some ⟨g, 0, none⟩) k n, .slice A m c]).run Tryz.prog w = .ok (.slice (some ⟨g, 0, none⟩) (k + m) n) w' ∧ Row w' g (bs.take k ++ (ls ++ bs.drop (k + m))) ∧ w.grownBy w' (some g) := by
  obtain ⟨i0, hi, hz0, hz1, hz2⟩ := info_parts u8_info
  obtain ⟨ad, rfl, hc⟩ := hr.cells (by omega)
  have hrun := run_append_room (P := Tryz.prog) w 27 27 5 i0 Tryz.underlying27 hi g k n (bvs bs).toArray hg ad m c (bvs ls) (by rw [bvs_length, hz1, hm, Nat.mul_one]) hc (bvs_one ls) hk (by rw [hz1, Nat.mul_one, bvs_length, hm]; simp [bvs_length]; omega)
  rw [hz1, Nat.mul_one, bvs_length, hm] at hrun
  refine ⟨_, hrun, ?_, ?_⟩
  · have := setRow_heap w g _ ((bvs bs).take k ++ bvs ls ++ (bvs bs).drop (k + m)).toArray 5 (0, 0) hg
    unfold Row
    rw [bvs_append, bvs_append, bvs_take, bvs_drop, ← List.append_assoc]
    exact this
  · exact ⟨rfl, rfl, rfl, by simp [World.setRow], fun k hk hne => setRow_other w g k _ (fun e => hne (by rw [e]))⟩

theorem room_step (bs : List UInt8) (k : Nat) (hk : k < bs.length) :
    ((bs.take k ++ List.replicate (bs.length + 1 - k) 0).take k ++ ([bs[k]] ++ (bs.take k ++ List.replicate (bs.length + 1 - k) 0).drop (k + 1))) = bs.take (k + 1) ++ List.replicate (bs.length + 1 - (k + 1)) 0 := by
  have hl : (bs.take k).length = k := by rw [List.length_take]; omega
  have e1 : (bs.take k ++ List.replicate (bs.length + 1 - k) 0).take k = bs.take k := by
    have := List.take_left (l₁ := bs.take k) (l₂ := List.replicate (bs.length + 1 - k) (0 : UInt8))
    rw [hl] at this; exact this
  have e2 : (bs.take k ++ List.replicate (bs.length + 1 - k) (0 : UInt8)).drop (k + 1) = List.replicate (bs.length + 1 - (k + 1)) 0 := by
    rw [List.drop_append, hl, List.drop_eq_nil_of_le (by omega), List.nil_append, List.drop_replicate]
    congr 1
    omega
  rw [e1, e2, List.take_succ_eq_append_getElem hk, List.append_assoc]

theorem room_last (bs : List UInt8) (b : UInt8) : ((bs ++ List.replicate 1 0).take bs.length ++ ([b] ++ (bs ++ List.replicate 1 0).drop (bs.length + 1))) = bs ++ [b] := by
  simp

set_option maxRecDepth 100000 in
set_option maxHeartbeats 800000 in
theorem twin_any (A : Option Addr) (c : Nat) (bs : List UInt8) (w : World) (hr : Rd w A bs) (hn : bs.length ≤ 140737488351232) :
    Calls Tryz.prog 7 #[.slice A bs.length c] w fun e w' => e = .returned (.slice (some ⟨w.heap.size, 0, none⟩) bs.length (bs.length + 1)) ∧ Row w' w.heap.size (bs ++ [77]) ∧ Below w.heap.size w w' := by
  have hmk := run_make_room w bs.length (by omega)
  go_enter Tryz.func7, Tryz.ntmps7
  go_wp2
  clear hmk
  have H0 := hid (Row.of_new w (List.replicate (bs.length + 1) 0))
  have HB0 := hid ((Below.refl w.heap.size w).alloc (Nat.le_refl _) (.cells (bvs (List.replicate (bs.length + 1) 0)).toArray 5))
  go_loopw [3, 4] (fun t i wr => ∃ k : Nat, k ≤ bs.length ∧ i = .int .i64 k ∧ t = .slice (some ⟨w.heap.size, 0, none⟩) k (bs.length + 1) ∧ Hid (Row wr w.heap.size (bs.take k ++ List.replicate (bs.length + 1 - k) 0)) ∧ Hid (Below w.heap.size w wr)) (fun _ i _ => bs.length - (intOf i).toNat)
  case atStart => exact ⟨0, Nat.zero_le _, rfl, rfl, hid (by simpa using H0.out), HB0.out⟩
  case round =>
    obtain ⟨k, hk, rfl, rfl, HR, HB⟩ := hrel
    clear H0 HB0
    by_cases hlt : k < bs.length
    · obtain ⟨g, o, rfl, hg, hc⟩ := hr (by omega)
      have h3 : wr.cell? ⟨g, o + k, none⟩ = some (.int .u8 ((bs[k].toNat : Nat) : Int)) := (HB.out.cell (p := ⟨g, o + k, none⟩) hg).trans (hc k hlt)
      clear hc
      have hl : (bs.take k ++ List.replicate (bs.length + 1 - k) 0).length = bs.length + 1 := by simp; omega
      obtain ⟨w2, hrun, hrow, hgr⟩ := append_room (wr.alloc (.cells #[.int .u8 ((bs[k].toNat : Nat) : Int)] 5)) w.heap.size k (bs.length + 1) 1 1 _ [bs[k]] (some ⟨wr.heap.size, 0, none⟩) (HR.out.alloc _) (Row.one wr _).rd0 rfl (by omega) (by omega) (by omega)
      rw [room_step bs k hlt] at hrow
      have HRN := hid hrun
      have HR2 := hid hrow
      have HB2 := hid ((HB.out.alloc HB.out.size _).grown hgr (by have := HB.out.size; simp; omega) (by simp))
      clear hrun hrow hgr hl
      generalize bs[k].toNat = x at *
      go_wp2_with (at_builtin; refine step_append rfl (.tmp 15) (.tmp 20) rfl rfl _ _ rfl rfl _ w2 HRN.out ?_)
      go_roundw
      case rel => exact ⟨k + 1, by omega, by go_num, rfl, HR2.out, HB2.out⟩
      case measure => simp [intOf]; omega
    · obtain rfl : k = bs.length := by omega
      have HR' := hid (p := Row wr w.heap.size (bs ++ List.replicate 1 0)) (by have := HR.out; rw [List.take_length, show bs.length + 1 - bs.length = 1 from by omega] at this; exact this)
      obtain ⟨w2, hrun, hrow, hgr⟩ := append_room (wr.alloc (.cells #[.int .u8 77] 5)) w.heap.size bs.length (bs.length + 1) 1 1 _ [77] (some ⟨wr.heap.size, 0, none⟩) (HR'.out.alloc _) (Row.one wr 77).rd0 rfl (by omega) (by omega) (by simp)
      rw [room_last] at hrow
      have HRN := hid hrun
      have HR2 := hid hrow
      have HB2 := hid ((HB.out.alloc HB.out.size _).grown hgr (by have := HB.out.size; simp; omega) (by simp))
      clear hrun hrow hgr
      go_wp2_with (at_builtin; refine step_append rfl (.tmp 22) (.tmp 23) rfl rfl _ _ rfl rfl _ w2 HRN.out ?_)
      go_ret
      exact ⟨rfl, HR2.out, HB2.out⟩

set_option maxRecDepth 100000 in
set_option maxHeartbeats 800000 in
theorem left_any (B : Option Addr) (g d : Nat) (bs : List UInt8) (w : World) (hg : Row w g (bs ++ [77])) (hb : Rd w B bs) (hn : bs.length ≤ 140737488351232) :
    Calls Tryz.prog 12 #[.slice (some ⟨g, 0, none⟩) bs.length (bs.length + 1), .slice B bs.length d] w fun e w' => e = .returned (.bool true) ∧ ∃ k, w' = w.drewN k := by
  have hlen : (bs ++ [77]).length = bs.length + 1 := by simp
  have k77 : w.cell? ⟨g, bs.length, none⟩ = some (.int .u8 77) := by
    rw [hg.cell bs.length (by omega)]
    simp
  have ha : Rd w (some ⟨g, 0, none⟩) bs := by
    have := hg.rd0.take bs.length
    rwa [List.take_left] at this
  have HA := hid ha
  clear hg ha hlen
  go_enter Tryz.func12, Tryz.ntmps12
  go_wp2
  go_loopw [5] (fun i wr => ∃ k n : Nat, k ≤ bs.length ∧ i = .int .i64 k ∧ Hid (wr = w.drewN n)) (fun i _ => bs.length - (intOf i).toNat)
  case atStart => exact ⟨0, 0, Nat.zero_le _, rfl, rfl⟩
  case round =>
    obtain ⟨k, n, hk, rfl, HW⟩ := hrel
    have k77' : wr.cell? ⟨g, bs.length, none⟩ = some (.int .u8 77) := by rw [HW.out]; exact k77
    clear k77
    by_cases hlt : k < bs.length
    · obtain ⟨g1, o, h1, hg1, hc⟩ := HA.out (by omega)
      obtain ⟨rfl, rfl⟩ : g = g1 ∧ o = 0 := by injection h1 with h1; injection h1 with h1 h2; exact ⟨h1, h2.symm⟩
      obtain ⟨g2, o2, rfl, hg2, hc2⟩ := hb (by omega)
      have h1 := hc k hlt
      rw [Nat.zero_add] at h1
      have h2 := hc2 k hlt
      clear hc hc2
      have h3 : wr.cell? ⟨g, k, none⟩ = some (.int .u8 ((bs[k].toNat : Nat) : Int)) := by rw [HW.out]; exact h1
      have h4 : wr.cell? ⟨g2, o2 + k, none⟩ = some (.int .u8 ((bs[k].toNat : Nat) : Int)) := by rw [HW.out]; exact h2
      clear h1 h2 k77'
      generalize bs[k].toNat = x at h3 h4
      go_wp2
      go_quiet (fail)
      go_wp2
      go_roundw
      case rel => exact ⟨k + 1, n + nq, by omega, by go_num, by rw [HW.out]; exact hid (World.drewN_drewN ..)⟩
      case measure => simp [intOf]; omega
    · obtain rfl : k = bs.length := by omega
      go_wp2
      go_ret
      exact ⟨rfl, n, HW.out⟩
end Go.Proofs.YtbloejlebikecaaGreatDoor
