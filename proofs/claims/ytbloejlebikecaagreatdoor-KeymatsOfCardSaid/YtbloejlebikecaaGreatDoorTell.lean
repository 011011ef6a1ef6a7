/-
  shas.tell, shas.squares, walked: numbers as bytes. Conditions: none.
-/
import Derived.Test.YtbloejlebikecaaGreatDoorPkS
namespace Go.Proofs.YtbloejlebikecaaGreatDoor
open Go.RowKit
set_option linter.unusedVariables false

theorem i44 : (Tryz.prog.info? 26).map (·.size) = some 32 := by kernel_rfl
theorem hi44 (b : List UInt8) (h : b.length = 32) : Hid ((Tryz.prog.info? 26).map (·.size) = some (bvs b).toArray.size) := by rw [bvs_size, h]; exact hid i44
theorem Bt.set {w : World} {g : Nat} {t : TypeId} {l : List UInt8} (h : Bt w g t l) (k : Nat) (b : UInt8) : Bt (w.setCell ⟨g, k, none⟩ (.int .u8 ((b.toNat : Nat) : Int))) g t (l.set k b) := by
  unfold Bt at h ⊢; simp [World.setCell, Array.getElem?_modify, h, bvs, List.map_set]
theorem Bt.row {w : World} {g : Nat} {t : TypeId} {l m : List UInt8} (h : Bt w g t l) : Bt (w.setRow g (bvs m).toArray) g t m := setRow_heap w g _ _ t (0, 0) h
/-- what stands while numbers are told as bytes -/
structure Tl (w : World) (l : List Nat) (m : List UInt8) (w' : World) : Prop where
  below : Below w.heap.size w w'
  n : Us w' w.heap.size 170 l
  z : Bt w' (w.heap.size + 1) 26 (List.replicate 32 0)
  m : Bt w' (w.heap.size + 1 + 1) 26 m
theorem Tl.init (w : World) (l : List Nat) : Hid (Tl w l (List.replicate 32 0) (((w.alloc (.cells (dv l).toArray 170)).alloc (.cells #[.int .u8 0, .int .u8 0, .int .u8 0, .int .u8 0, .int .u8 0, .int .u8 0, .int .u8 0, .int .u8 0, .int .u8 0, .int .u8 0, .int .u8 0, .int .u8 0, .int .u8 0, .int .u8 0, .int .u8 0, .int .u8 0, .int .u8 0, .int .u8 0, .int .u8 0, .int .u8 0, .int .u8 0, .int .u8 0, .int .u8 0, .int .u8 0, .int .u8 0, .int .u8 0, .int .u8 0, .int .u8 0, .int .u8 0, .int .u8 0, .int .u8 0, .int .u8 0] 26)).alloc (.cells #[.int .u8 0, .int .u8 0, .int .u8 0, .int .u8 0, .int .u8 0, .int .u8 0, .int .u8 0, .int .u8 0, .int .u8 0, .int .u8 0, .int .u8 0, .int .u8 0, .int .u8 0, .int .u8 0, .int .u8 0, .int .u8 0, .int .u8 0, .int .u8 0, .int .u8 0, .int .u8 0, .int .u8 0, .int .u8 0, .int .u8 0, .int .u8 0, .int .u8 0, .int .u8 0, .int .u8 0, .int .u8 0, .int .u8 0, .int .u8 0, .int .u8 0, .int .u8 0] 26))) := by
  have s1 : ∀ (w : World) (o : Obj), (w.alloc o).heap.size = w.heap.size + 1 := fun w o => Array.size_push _
  refine hid ⟨(((Below.refl _ _).alloc (Nat.le_refl _) _).alloc (by rw [s1]; omega) _).alloc (by rw [s1, s1]; omega) _, Us.alloc (Us.alloc (heap_alloc_new _ _) _) _, Bt.alloc ?_ _, ?_⟩
  · rw [← s1 w (.cells (dv l).toArray 170)]; exact heap_alloc_new _ _
  · rw [← s1 w (.cells (dv l).toArray 170), ← s1 _ (.cells #[.int .u8 0, .int .u8 0, .int .u8 0, .int .u8 0, .int .u8 0, .int .u8 0, .int .u8 0, .int .u8 0, .int .u8 0, .int .u8 0, .int .u8 0, .int .u8 0, .int .u8 0, .int .u8 0, .int .u8 0, .int .u8 0, .int .u8 0, .int .u8 0, .int .u8 0, .int .u8 0, .int .u8 0, .int .u8 0, .int .u8 0, .int .u8 0, .int .u8 0, .int .u8 0, .int .u8 0, .int .u8 0, .int .u8 0, .int .u8 0, .int .u8 0, .int .u8 0] 26)]; exact heap_alloc_new _ _
theorem Tl.set {w w' : World} {l : List Nat} {m : List UInt8} (h : Tl w l m w') (k : Nat) (b : UInt8) : Tl w l (m.set k b) (w'.setCell ⟨w.heap.size + 1 + 1, k, none⟩ (.int .u8 ((b.toNat : Nat) : Int))) :=
  ⟨h.below.setCell (by simp; omega) _, h.n.other _ (by omega), h.z.other _ (by omega), h.m.set k b⟩
/-- the byte at a place -/
def sb (l : List Nat) (j : Nat) : UInt8 := UInt8.ofNat (at' l (j / 4) / 256 ^ (3 - j % 4))
theorem sb_val (l : List Nat) (j r : Nat) (hr : j % 4 = r) : (((sb l j).toNat : Nat) : Int) = ((at' l (j / 4) : Nat) : Int) / ((256 ^ (3 - r) : Nat) : Int) % 256 := by
  unfold sb
  rw [UInt8.toNat_ofNat', hr, show (2 : Nat) ^ 8 = 256 by decide]
  omega
set_option maxRecDepth 100000 in
set_option maxHeartbeats 1000000 in
theorem tell_any' (l : List Nat) (w : World) (hl : l.length = 8) :
    Calls Tryz.prog 113 #[.agg (dv l).toArray] w fun e w' => e = .returned (.agg (bvs (spell l)).toArray) ∧ Below w.heap.size w w' := by
  have HL := hid hl
  clear hl
  go_enter Tryz.func113, Tryz.ntmps113
  go_wp2_with fail
  have HT := Tl.init w l
  generalize ((w.alloc (.cells (dv l).toArray 170)).alloc (.cells #[.int .u8 0, .int .u8 0, .int .u8 0, .int .u8 0, .int .u8 0, .int .u8 0, .int .u8 0, .int .u8 0, .int .u8 0, .int .u8 0, .int .u8 0, .int .u8 0, .int .u8 0, .int .u8 0, .int .u8 0, .int .u8 0, .int .u8 0, .int .u8 0, .int .u8 0, .int .u8 0, .int .u8 0, .int .u8 0, .int .u8 0, .int .u8 0, .int .u8 0, .int .u8 0, .int .u8 0, .int .u8 0, .int .u8 0, .int .u8 0, .int .u8 0, .int .u8 0] 26)).alloc (.cells #[.int .u8 0, .int .u8 0, .int .u8 0, .int .u8 0, .int .u8 0, .int .u8 0, .int .u8 0, .int .u8 0, .int .u8 0, .int .u8 0, .int .u8 0, .int .u8 0, .int .u8 0, .int .u8 0, .int .u8 0, .int .u8 0, .int .u8 0, .int .u8 0, .int .u8 0, .int .u8 0, .int .u8 0, .int .u8 0, .int .u8 0, .int .u8 0, .int .u8 0, .int .u8 0, .int .u8 0, .int .u8 0, .int .u8 0, .int .u8 0, .int .u8 0, .int .u8 0] 26) = w0 at *
  go_loopw [5] (fun i wr => ∃ (k : Nat) (m : List UInt8), k ≤ 32 ∧ i = .int .i64 k ∧ Hid (Tl w l m wr) ∧ Hid (m.length = 32) ∧ Hid (∀ j, j < k → m[j]? = some (sb l j))) (fun i _ => 32 - (intOf i).toNat)
  case atStart => exact ⟨0, List.replicate 32 0, by omega, rfl, HT, hid rfl, hid (fun j hj => absurd hj (Nat.not_lt_zero _))⟩
  case round =>
    clear HT
    obtain ⟨k, m, hk, rfl, HT, HM, HA⟩ := hrel
    by_cases hlt : k < 32
    · obtain ⟨q, hq⟩ : ∃ q : Nat, q = k / 4 := ⟨_, rfl⟩
      have hqi : (k : Int) / 4 = (q : Int) := by omega
      have hq8 : q < 8 := by omega
      have HQ := hid hq
      clear hq
      have hcn := HT.out.n.cell q (by have := HL.out; omega)
      have hcm := HT.out.m.cell k (by have := HM.out; omega)
      have hfm := HT.out.m.frozen k
      generalize (m[k]'(by have := HM.out; omega)).toNat = old at hcm
      rcases (show k % 4 = 0 ∨ k % 4 = 1 ∨ k % 4 = 2 ∨ k % 4 = 3 by omega) with hr | hr | hr | hr
      · have hri : (k : Int) % 4 = 0 := by omega
        have HV := hid (sb_val l k 0 hr)
        rw [← HQ.out] at HV
        have HR := hid hr
        clear hr
        go_wp2
        go_roundw
        case rel =>
          refine ⟨k + 1, m.set k (sb l k), by omega, by go_num, ?_, hid (by rw [List.length_set]; exact HM.out), hid ?_⟩
          · have := HT.out.set k (sb l k)
            rw [HV.out] at this
            simpa using hid this
          · intro j hj
            rw [List.getElem?_set]
            by_cases h : k = j
            · subst h; rw [if_pos rfl, if_pos (by have := HM.out; omega)]
            · rw [if_neg h]; exact HA.out j (by omega)
        case measure => simp [intOf]; omega
      · have hri : (k : Int) % 4 = 1 := by omega
        have HV := hid (sb_val l k 1 hr)
        rw [← HQ.out] at HV
        have HR := hid hr
        clear hr
        go_wp2
        go_roundw
        case rel =>
          refine ⟨k + 1, m.set k (sb l k), by omega, by go_num, ?_, hid (by rw [List.length_set]; exact HM.out), hid ?_⟩
          · have := HT.out.set k (sb l k)
            rw [HV.out] at this
            simpa using hid this
          · intro j hj
            rw [List.getElem?_set]
            by_cases h : k = j
            · subst h; rw [if_pos rfl, if_pos (by have := HM.out; omega)]
            · rw [if_neg h]; exact HA.out j (by omega)
        case measure => simp [intOf]; omega
      · have hri : (k : Int) % 4 = 2 := by omega
        have HV := hid (sb_val l k 2 hr)
        rw [← HQ.out] at HV
        have HR := hid hr
        clear hr
        go_wp2
        go_roundw
        case rel =>
          refine ⟨k + 1, m.set k (sb l k), by omega, by go_num, ?_, hid (by rw [List.length_set]; exact HM.out), hid ?_⟩
          · have := HT.out.set k (sb l k)
            rw [HV.out] at this
            simpa using hid this
          · intro j hj
            rw [List.getElem?_set]
            by_cases h : k = j
            · subst h; rw [if_pos rfl, if_pos (by have := HM.out; omega)]
            · rw [if_neg h]; exact HA.out j (by omega)
        case measure => simp [intOf]; omega
      · have hri : (k : Int) % 4 = 3 := by omega
        have HV := hid (sb_val l k 3 hr)
        rw [← HQ.out] at HV
        have HR := hid hr
        clear hr
        go_wp2
        go_roundw
        case rel =>
          refine ⟨k + 1, m.set k (sb l k), by omega, by go_num, ?_, hid (by rw [List.length_set]; exact HM.out), hid ?_⟩
          · have := HT.out.set k (sb l k)
            rw [HV.out] at this
            simpa using hid this
          · intro j hj
            rw [List.getElem?_set]
            by_cases h : k = j
            · subst h; rw [if_pos rfl, if_pos (by have := HM.out; omega)]
            · rw [if_neg h]; exact HA.out j (by omega)
        case measure => simp [intOf]; omega
    · obtain rfl : k = 32 := by omega
      have hme : m = spell l := by
        apply List.ext_getElem?
        intro j
        rcases Nat.lt_or_ge j 32 with h | h
        · rw [HA.out j h, spell_at l j (by have := HL.out; omega)]; rfl
        · rw [List.getElem?_eq_none (by have := HM.out; omega), List.getElem?_eq_none (by rw [spell_length, HL.out]; exact h)]
      have HT2 : Hid (Tl w l (spell l) wr) := hid (hme ▸ HT.out)
      have HCL := hid (show (spell l).length = 32 by rw [spell_length, HL.out])
      clear HT HM HA hme
      generalize hr : spell l = r at *
      have HRR := hid hr
      clear hr
      have HI := hi44 r HCL.out
      have HO8 : Hid ((bvs (List.replicate 32 0)).toArray.size = (bvs r).toArray.size) := hid (by rw [bvs_size, bvs_size, HCL.out, List.length_replicate])
      have HZ := hid (HT2.out.z.row (m := r))
      have HBW := hid (p := Below w.heap.size w (wr.setRow (w.heap.size + 1) (bvs r).toArray)) (below_setRow HT2.out.below (Nat.le_succ _) _)
      go_upto_region 7 with fail
      have HDA := bvs_all r
      have HZL := HT2.out.m
      have HZZ := HT2.out.z
      unfold Bt at HZL HZZ
      have HZL := hid HZL
      have HZZ := hid HZZ
      go_wp2_with (first | (refine wpList_load_row rfl 26 (.tmp 3) rfl (w.heap.size + 1 + 1) rfl 26 (bvs r).toArray (0, 0) _ HZL.out Tryz.underlying26 rfl HI.out ?_) | (refine wpList_store_row rfl 26 (.tmp 2) (.tmp 21) rfl (w.heap.size + 1) (bvs r).toArray rfl rfl 26 _ HZZ.out HI.out HO8.out HDA ?_))
      exact bodyPost_ret (v := .agg (bvs r).toArray) (results_cell_row (p := 2) (ty := 26) Tryz.results113 _ _ (w.heap.size + 1) 26 (bvs r).toArray (0, 0) _ rfl HZ.out Tryz.underlying26 rfl HI.out) rfl ⟨by rw [HRR.out], HBW.out⟩
set_option maxRecDepth 100000 in
theorem squares_any (w : World) : Calls Tryz.prog 110 #[] w fun e w' => e = .returned (.agg (dv hh).toArray) ∧ Below w.heap.size w w' := by
  go_enter Tryz.func110, Tryz.ntmps110
  go_wp2
  have h : (w.alloc (.cells (dv hh).toArray 170)).heap[w.heap.size]? = some (.cells (dv hh).toArray 170) := heap_alloc_new w (.cells (dv hh).toArray 170)
  exact bodyPost_ret (v := .agg (dv hh).toArray) (results_cell_row (p := 0) (ty := 170) Tryz.results110 _ _ w.heap.size 170 (dv hh).toArray (0, 0) _ rfl h Tryz.underlying170 rfl (hi57 hh rfl).out) rfl ⟨rfl, (Below.refl _ _).alloc (Nat.le_refl _) _⟩
end Go.Proofs.YtbloejlebikecaaGreatDoor
