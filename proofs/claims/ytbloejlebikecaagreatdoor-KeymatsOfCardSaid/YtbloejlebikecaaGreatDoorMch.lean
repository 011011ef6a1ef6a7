/-
  burrowlaw08.MacsKey, walked: it answers true. Condition: the library's table holds what its text lays.
-/
import Derived.Test.YtbloejlebikecaaGreatDoorMcf
import Derived.Test.YtbloejlebikecaaGreatDoorOrdT
import Derived.Test.YtbloejlebikecaaGreatDoorAppend
import Derived.Lib.AppendZerosOnto
namespace Go.Proofs.YtbloejlebikecaaGreatDoor
open Go.RowKit
set_option linter.unusedVariables false
set_option linter.unusedSimpArgs false

theorem zeros_u8 (n : Nat) : Builtin.zeroCells (Value.int .u8 0).cells n = (bvs (List.replicate n 0)).toArray := by
  have e : (Value.int .u8 0).cells = #[Value.int .u8 0] := rfl
  rw [e]
  apply Array.ext'
  unfold Builtin.zeroCells
  apply List.ext_getElem?
  intro j
  by_cases h : j < n
  · simp [bvs, h, Nat.mod_one]
  · simp [bvs, h]
set_option maxRecDepth 100000 in
theorem append_zeros (w : World) (base : Nat) (v : Value) (bs : List UInt8) (n : Nat) (hown : Ow w base v bs) (hsz : bs.length + n ≤ 140737488355328) (hbase : base ≤ w.heap.size) :
    ∃ v' w', (Builtin.append_ #[27, 3] 27 #[v, .int .i64 (n : Int)]).run Tryz.prog w = .ok v' w' ∧ Ow w' base v' (bs ++ List.replicate n 0) ∧ w.grownBy w' v.ownBlock := by
  obtain ⟨i0, hi, hz0, hz1, hz2⟩ := info_parts u8_info
  have hw : IntKind.i64.wrap (n : Int) = n := by rw [IntKind.wrap_i64]; omega
  have hneg : ¬ ((n : Int) < 0) := by omega
  have h48i : ¬ (281474976710656 < (n : Int)) := by omega
  have hlen : (bvs (bs ++ List.replicate n 0)).length = ((bs ++ List.replicate n 0).length) * 1 := by rw [bvs_length, Nat.mul_one]
  have hlr : (bs ++ List.replicate n (0 : UInt8)).length = bs.length + n := by simp
  have grown : ∀ (old : Nat), ∀ (row : Option Nat),
      Ow (w.drew.alloc (.cells ((bvs bs).toArray ++ (bvs (List.replicate n 0)).toArray ++ (bvs (List.replicate (grownCap w (bs.length + n) old 5 - (bs.length + n)) 0)).toArray) 5)) base (.slice (some ⟨w.heap.size, 0, none⟩) (bs.length + n) (grownCap w (bs.length + n) old 5)) (bs ++ List.replicate n 0) ∧
      w.grownBy (w.drew.alloc (.cells ((bvs bs).toArray ++ (bvs (List.replicate n 0)).toArray ++ (bvs (List.replicate (grownCap w (bs.length + n) old 5 - (bs.length + n)) 0)).toArray) 5)) row := by
    intro old row
    have hge := grownCap_ge w (bs.length + n) old 5
    have hcm : grownCap w (bs.length + n) old 5 ≤ maxLen := grownCap_le_maxLen w (bs.length + n) old 5 (by simp only [maxLen]; omega)
    refine ⟨?_, ⟨rfl, rfl, rfl, by simp, fun k hk _ => Below.heap_alloc w.drew _ k hk⟩⟩
    unfold Ow
    rw [hlr] at hlen ⊢
    refine ⟨hlen, .inr ⟨w.heap.size, _, _, rfl, hbase, heap_alloc_new w.drew _, hge, hcm, ?_, ?_⟩⟩
    · simp only [Array.size_append, List.size_toArray, bvs_length, List.length_replicate]; omega
    · simp only [Array.toList_append]
      rw [← bvs_append, ← hlen, List.take_left]
  rcases hown.2 with ⟨rfl, h0⟩ | ⟨g, cap, cur, rfl, hbg, hg, hnc, hcm, hcs, htake⟩
  · have hb : bs = [] := List.eq_nil_of_length_eq_zero h0
    subst hb
    by_cases hn : n = 0
    · subst hn
      refine ⟨.slice none 0 0, w, ?_, World.ownsRow_nil w base 5 1, World.grownBy.refl w _⟩
      simp [Builtin.append_, run_underlying Tryz.underlying27, run_underlying Tryz.underlying3, sizeOf, typeInfo, hi, asInt, asIntOf, hz1, hz2, IntKind.wrap_i64]
    · have hr := Lib.run_append_nil_zeros (P := Tryz.prog) w 27 3 27 5 i0 (.int .u8 0) .i64 .i64 Tryz.underlying27 Tryz.underlying3 hi hz0 n (by omega) (by omega) (by omega) (by rw [hz2]; simp at hsz; omega)
      have hgr := grown 0 (Value.ownBlock (.slice none 0 0))
      rw [zeros_u8, zeros_u8] at hr
      simp only [List.length_nil, Nat.zero_add, List.nil_append] at hgr
      rw [show (bvs []).toArray = (#[] : Array Value) from rfl, Array.empty_append] at hgr
      exact ⟨_, _, hr, hgr.1, hgr.2⟩
  · by_cases hroom : bs.length + n ≤ cap
    · have hfit : bs.length + (bvs (List.replicate n 0)).length ≤ cur.size := by rw [bvs_length, List.length_replicate, hcs]; omega
      have hst := run_storeCells_at Tryz.prog g bs.length 5 (bvs (List.replicate n 0)) 0 cur w hg (by simpa using hfit) (bvs_one _)
      simp only [Nat.add_zero] at hst
      refine ⟨.slice (some ⟨g, 0, none⟩) (bs.length + n) cap, w.setRow g (cur.toList.take bs.length ++ bvs (List.replicate n 0) ++ cur.toList.drop (bs.length + (bvs (List.replicate n 0)).length)).toArray, ?_, ?_, ⟨rfl, rfl, rfl, by simp [World.setRow], fun k _ hk => setRow_other w g k _ (fun e => hk (by simp [Value.ownBlock, e]))⟩⟩
      · by_cases hn : n = 0
        · subst hn
          have e0 : (bvs (List.replicate 0 0)) = ([] : List Value) := rfl
          rw [e0] at hst ⊢
          simp only [storeCells] at hst
          have e1 : w.setRow g (cur.toList.take bs.length ++ [] ++ cur.toList.drop (bs.length + ([] : List Value).length)).toArray = w := by
            injection hst with _ h; exact h.symm
          rw [e1]
          simp [Builtin.append_, run_underlying Tryz.underlying27, run_underlying Tryz.underlying3, sizeOf, typeInfo, hi, asInt, asIntOf, hz1, hz2, IntKind.wrap_i64, hnc, storeCells]
        · simp [Builtin.append_, run_underlying Tryz.underlying27, run_underlying Tryz.underlying3, sizeOf, typeInfo, zeroValue, hi, hz0, asInt, asIntOf, hw, hneg, hz1, hz2, h48i, hn, hroom, zeros_u8, Addr.add_lit, hst]
      · unfold Ow
        rw [hlr] at hlen ⊢
        refine ⟨hlen, .inr ⟨g, cap, _, rfl, hbg, setRow_heap w g cur _ 5 _ hg, hroom, hcm, ?_, ?_⟩⟩
        · simp only [List.size_toArray, List.length_append, List.length_take, List.length_drop, Array.length_toList, bvs_length, List.length_replicate]; omega
        · rw [Nat.mul_one] at htake
          rw [htake, bvs_append, Nat.mul_one]
          have : (bvs bs ++ bvs (List.replicate n 0)).length = bs.length + n := by simp [bvs_length]
          rw [← this, List.take_left]
    · have holds : ∀ j u, (bvs bs)[j]? = some u → w.cell? ((⟨g, 0, none⟩ : Addr).add j) = some u := World.ownsRow.cells (g := g) hown rfl
      have hold : (Builtin.firstCells i0.size bs.length (.slice (some ⟨g, 0, none⟩) bs.length cap)).run Tryz.prog w.drew = .ok (bvs bs).toArray w.drew := run_firstCells_some (P := Tryz.prog) w.drew i0.size bs.length ⟨g, 0, none⟩ bs.length cap (bvs bs) (by rw [bvs_length, hz1, Nat.mul_one]) holds
      have hr := Lib.run_append_grow_zeros (P := Tryz.prog) w 27 3 27 5 i0 (.int .u8 0) .i64 .i64 Tryz.underlying27 Tryz.underlying3 hi hz0 (some ⟨g, 0, none⟩) bs.length cap (bvs bs) hold n (by omega) (by omega) (by omega) (by omega) (by rw [hz2]; omega) (by rw [hz2]; exact growslice_fits (by omega) (by omega))
      have hgr := grown cap (Value.ownBlock (.slice (some ⟨g, 0, none⟩) bs.length cap))
      rw [zeros_u8, zeros_u8] at hr
      exact ⟨_, _, hr, hgr.1, hgr.2⟩
theorem hm_sum (key msg : List UInt8) (h : 64 < key.length) : hm (sha key) msg = hm key msg := by unfold hm; rw [kof_sum key h]
theorem hm_pad (key msg : List UInt8) (n : Nat) (h : key.length + n ≤ 64) : hm (key ++ List.replicate n 0) msg = hm key msg := by unfold hm; rw [kof_pad key n h]
theorem cat_one (b : List UInt8) : cat (fun _ => b) 1 = b := by simp [cat]
end Go.Proofs.YtbloejlebikecaaGreatDoor
