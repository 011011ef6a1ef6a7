/-
  shas.New, there, ending, walked. Conditions: none.
  (*shas.Run).Sum, Write, shas.Of, walked. Conditions: the library's table holds what its text lays; no more than 2^46 bytes.
  burrowlaw05.alive, walked: it answers true. Condition: the library's table holds what its text lays.
  A run, and boxes of sums, as a law carries them. Conditions: none.
-/
import Derived.Test.YtioebjbjpjbodaaDoorPkAg
import Derived.Test.YtioebjbjpjbodaaDoorPkPut
import Derived.Deep.Cut
import Derived.Lib.SlBytesConst
namespace Go.Proofs.YtioebjbjpjbodaaDoor
open Go.RowKit
set_option linter.unusedVariables false

theorem there_any (g : Nat) (t : Bool) (w : World) (h : w.cell? ⟨g, 0, none⟩ = some (.bool t)) : Calls Tryd.prog 76 #[.pointer (some ⟨g, 0, none⟩)] w fun e w' => e = .returned (.bool t) ∧ w = w' := by
  go_enter Tryd.func76, Tryd.ntmps76
  go_wp2
  go_ret
  exact ⟨rfl, rfl⟩
set_option maxRecDepth 100000 in
theorem new_any (w : World) : Calls Tryd.prog 63 #[] w fun e w' => (∃ g, e = .returned (.pointer (some ⟨g, 0, none⟩)) ∧ w.heap.size ≤ g ∧ RunIs w' g []) ∧ Below w.heap.size w w' := by
  go_enter Tryd.func63, Tryd.ntmps63
  go_wp2_with fail
  refine (squares_any w).mono ?_
  rintro e w1 ⟨rfl, hb⟩
  go_wp2
  have hc : List.foldl (fun (cs : Array Value) (x : Value × Nat) => cs.setIfInBounds (1 + x.snd) x.fst) (Tryd.zeroCells118.setIfInBounds 0 (Value.bool true)) (dv hh).zipIdx = (rc hh (List.replicate 64 0) 0).toArray := by kernel_rfl
  rw [hc]
  have hR : RunIs (w1.alloc (.cells (rc hh (List.replicate 64 0) 0).toArray 118)) w1.heap.size [] := ⟨List.replicate 64 0, rfl, rfl, heap_alloc_new _ _⟩
  have hB : Below w.heap.size w (w1.alloc (.cells (rc hh (List.replicate 64 0) 0).toArray 118)) := hb.alloc hb.size _
  have hS := hb.size
  exact bodyPost_ret (v := .pointer (some ⟨w1.heap.size, 0, none⟩)) (by simp [results, Tryd.results63, go_sem]) rfl ⟨⟨w1.heap.size, rfl, hS, hR⟩, hB⟩
theorem run_make_u64 (w : World) (n : Nat) (h : n ≤ 281474976710656) :
    (Instr.makeSlice 73 (.int .u64 (n : Int)) (.int .u64 (n : Int))).run Tryd.prog w = .ok (.slice (some ⟨w.heap.size, 0, none⟩) n n) (w.alloc (.cells (bvs (List.replicate n 0)).toArray 5)) := by
  obtain ⟨i0, hi, hz0, hz1, hz2⟩ := info_parts u8_info
  have := run_make (P := Tryd.prog) w 73 5 i0 (.int .u8 0) Tryd.underlying73 hi hz0 .u64 .u64 (n : Int) (n : Int) (by omega) (by omega) (by rw [hz2]; omega) (by omega)
  rw [this, hz1, Int.toNat_natCast, Nat.mul_one, made_bytes]
set_option maxRecDepth 100000 in
theorem ending_any (n : Nat) (w : World) (hn : n ≤ 140737488355328) :
    Calls Tryd.prog 77 #[.int .u64 (n : Int)] w fun e w' => (∃ g k, e = .returned (.slice (some ⟨g, 0, none⟩) k k) ∧ k = (tail n).length ∧ w.heap.size ≤ g ∧ Row w' g (tail n)) ∧ Below w.heap.size w w' := by
  obtain ⟨q, hq⟩ : ∃ q, q = nought n := ⟨_, rfl⟩
  have hq2 := hq
  unfold nought at hq2
  have hq64 : q < 64 := by omega
  have ho : (IntKind.u64.wrap (55 - (n : Int))) % 64 = (q : Int) := by rw [IntKind.wrap_u64]; omega
  have hot : (IntKind.u64.wrap (55 - (n : Int))).tmod 64 = (q : Int) := by rw [Int.tmod_eq_emod_of_nonneg (by rw [IntKind.wrap_u64]; omega)]; exact ho
  obtain ⟨k, hk⟩ : ∃ k, k = q + 1 := ⟨_, rfl⟩
  have hw : IntKind.u64.wrap (1 + (q : Int)) = (k : Int) := by rw [IntKind.wrap_u64]; omega
  have hmk := run_make_u64 w k (by omega)
  have h8 : IntKind.u64.wrap (8 * (n : Int)) = ((8 * n : Nat) : Int) := by rw [IntKind.wrap_u64]; omega
  have HQ := hid hq
  have HK := hid hk
  have HN := hid hn
  have HQ64 := hid hq64
  clear hq hq2 hn hk hq64
  go_enter Tryd.func77, Tryd.ntmps77
  go_upto_region 3 with fail
  have HR : Hid (Row (w.alloc (.cells (bvs (List.replicate k 0)).toArray 5)) w.heap.size (List.replicate k 0)) := hid (heap_alloc_new _ _)
  have HB := hid ((Below.refl w.heap.size w).alloc (Nat.le_refl _) (.cells (bvs (List.replicate k 0)).toArray 5))
  generalize w.alloc (.cells (bvs (List.replicate k 0)).toArray 5) = w1 at *
  have hc := HR.out.cell 0 (by have := HK.out; simp; omega)
  have hf := HR.out.frozen 0
  have hk0 : 0 < k := by have := HK.out; omega
  have HR2 := hid (HR.out.set 0 128)
  have HB2 := hid (p := Below w.heap.size w (w1.setCell ⟨w.heap.size, 0, none⟩ (.int .u8 128))) (HB.out.setCell (Nat.le_refl _) _)
  go_upto_region 4 with fail
  have e0 : (((128 : UInt8).toNat : Nat) : Int) = 128 := rfl
  rw [e0] at HR2
  have hck := hid hc
  have hcf := hid hf
  clear hc hf
  generalize w1.setCell ⟨w.heap.size, 0, none⟩ (.int .u8 128) = w2 at *
  go_wp2_with fail
  have HLk := hid (show ((List.replicate k (0 : UInt8)).set 0 128).length = k by simp)
  have HTL := hid (show (List.replicate k (0 : UInt8)).set 0 128 ++ be (8 * n) 8 = tail n by
    rw [HK.out, HQ.out, List.replicate_succ, List.set_cons_zero, tail]; rfl)
  have hput := put_any (some ⟨w.heap.size, 0, none⟩) k (8 * n) 8 8 ((List.replicate k (0 : UInt8)).set 0 128) w2 HR2.out.rd0 (by rw [HLk.out]; have := HK.out; have := HQ64.out; omega) (by have := HN.out; omega) (by decide)
  rw [HLk.out, HTL.out] at hput
  refine hput.mono ?_
  rintro e w3 ⟨rfl, HR3, hb3⟩
  have hlen : k + 8 = (tail n).length := by rw [tail_length, HK.out, HQ.out]; omega
  have hB := HB2.out.trans (hb3.mono HB2.out.size)
  have hs := HB2.out.size
  go_wp2
  go_ret
  exact ⟨⟨w2.heap.size, (tail n).length, rfl, rfl, hs, HR3⟩, hB⟩
end Go.Proofs.YtioebjbjpjbodaaDoor
namespace Go.Proofs.YtioebjbjpjbodaaDoor
open Go.RowKit
set_option linter.unusedVariables false
set_option linter.unusedSimpArgs false

theorem i61 : (Tryd.prog.info? 118).map (·.size) = some 74 := by kernel_rfl
theorem below_grown {B g : Nat} {w w1 w2 : World} (h : Below B w w1) (k : w1.grownBy w2 (some g)) (hg : B ≤ g) (hB : B ≤ w1.heap.size) : Below B w w2 :=
  h.trans ⟨k.os, k.tape, k.output, k.size, fun i hi => k.block i (by omega) (by intro e; injection e with e; omega)⟩
theorem rc_all (l : List Nat) (b : List UInt8) (n : Nat) : (rc l b n).toArray.all (·.oneCell') = true := by
  refine all_oneCell_toArray (fun v hv => ?_)
  simp only [rc, List.mem_cons, List.mem_append, List.not_mem_nil, or_false] at hv
  rcases hv with rfl | h | h | rfl
  · rfl
  · exact dv_one l v h
  · exact bvs_one b v h
  · rfl
theorem rc_size {l : List Nat} {b : List UInt8} (n : Nat) (hl : l.length = 8) (hb : b.length = 64) : (rc l b n).toArray.size = 74 := by rw [List.size_toArray, rc_length n hl hb]
/-- the answer's box, then the run's likeness -/
theorem sum_boxes (w w1 : World) (g : Nat) (bs : List UInt8) (b : List UInt8) (old : Array Value) (hB : Below w.heap.size w w1) (hs : w.heap.size < w1.heap.size) (hz : Bt w1 w.heap.size 28 (List.replicate 32 0))
    (hR : Rn w1 g (eat hh bs (bs.length / 64)) b bs.length) (hb : b.length = 64) (ht : b.take (bs.length % 64) = bs.drop (64 * (bs.length / 64))) :
    ∃ w2, (w1.alloc (.cells old 118)).setRow w1.heap.size (rc (eat hh bs (bs.length / 64)) b bs.length).toArray = w2 ∧ Hid (Below w.heap.size w w2) ∧ Hid (Bt w2 w.heap.size 28 (List.replicate 32 0)) ∧ Hid (RunIs w2 w1.heap.size bs) ∧ Hid (Rn w2 g (eat hh bs (bs.length / 64)) b bs.length) ∧ Hid (w1.heap.size < w2.heap.size) := by
  refine ⟨_, rfl, ?_⟩
  rw [World.setRow_alloc_new]
  have hx : Below w1.heap.size w1 (w1.alloc (.cells (rc (eat hh bs (bs.length / 64)) b bs.length).toArray 118)) := (Below.refl _ _).alloc (Nat.le_refl _) _
  exact ⟨hid (hB.trans (hx.mono (by omega))), hid (hz.on hx), hid ⟨b, hb, ht, heap_alloc_new _ _⟩, hid ((hx.block g hR.lt).trans hR), hid (by simp)⟩
set_option maxRecDepth 100000 in
set_option maxHeartbeats 2000000 in
theorem sum_any (g : Nat) (bs : List UInt8) (w : World) (hR : RunIs w g bs) (hK : Kt w) (hl : bs.length ≤ 70368744177664) :
    Calls Tryd.prog 67 #[.pointer (some ⟨g, 0, none⟩)] w fun e w' => e = .returned (.agg (bvs (sha bs)).toArray) ∧ Below w.heap.size w w' := by
  obtain ⟨b, hb, ht, hR⟩ := hR
  have HB := hid hb
  have HT := hid ht
  have HR := hid hR
  have HK := hid hK
  have HL := hid hl
  clear hb ht hR hK hl
  go_enter Tryd.func67, Tryd.ntmps67
  go_wp2_with fail
  have HR1 : Hid (Rn (w.alloc (.cells #[.int .u8 0, .int .u8 0, .int .u8 0, .int .u8 0, .int .u8 0, .int .u8 0, .int .u8 0, .int .u8 0, .int .u8 0, .int .u8 0, .int .u8 0, .int .u8 0, .int .u8 0, .int .u8 0, .int .u8 0, .int .u8 0, .int .u8 0, .int .u8 0, .int .u8 0, .int .u8 0, .int .u8 0, .int .u8 0, .int .u8 0, .int .u8 0, .int .u8 0, .int .u8 0, .int .u8 0, .int .u8 0, .int .u8 0, .int .u8 0, .int .u8 0, .int .u8 0] 28)) g (eat hh bs (bs.length / 64)) b bs.length) := hid ((((Below.refl _ _).alloc (Nat.le_refl _) _ : Below w.heap.size w (w.alloc (.cells #[.int .u8 0, .int .u8 0, .int .u8 0, .int .u8 0, .int .u8 0, .int .u8 0, .int .u8 0, .int .u8 0, .int .u8 0, .int .u8 0, .int .u8 0, .int .u8 0, .int .u8 0, .int .u8 0, .int .u8 0, .int .u8 0, .int .u8 0, .int .u8 0, .int .u8 0, .int .u8 0, .int .u8 0, .int .u8 0, .int .u8 0, .int .u8 0, .int .u8 0, .int .u8 0, .int .u8 0, .int .u8 0, .int .u8 0, .int .u8 0, .int .u8 0, .int .u8 0] 28))).block g HR.out.lt).trans HR.out)
  have HZ1 : Hid (Bt (w.alloc (.cells #[.int .u8 0, .int .u8 0, .int .u8 0, .int .u8 0, .int .u8 0, .int .u8 0, .int .u8 0, .int .u8 0, .int .u8 0, .int .u8 0, .int .u8 0, .int .u8 0, .int .u8 0, .int .u8 0, .int .u8 0, .int .u8 0, .int .u8 0, .int .u8 0, .int .u8 0, .int .u8 0, .int .u8 0, .int .u8 0, .int .u8 0, .int .u8 0, .int .u8 0, .int .u8 0, .int .u8 0, .int .u8 0, .int .u8 0, .int .u8 0, .int .u8 0, .int .u8 0] 28)) w.heap.size 28 (List.replicate 32 0)) := hid (heap_alloc_new w _)
  have HB1 : Hid (Below w.heap.size w (w.alloc (.cells #[.int .u8 0, .int .u8 0, .int .u8 0, .int .u8 0, .int .u8 0, .int .u8 0, .int .u8 0, .int .u8 0, .int .u8 0, .int .u8 0, .int .u8 0, .int .u8 0, .int .u8 0, .int .u8 0, .int .u8 0, .int .u8 0, .int .u8 0, .int .u8 0, .int .u8 0, .int .u8 0, .int .u8 0, .int .u8 0, .int .u8 0, .int .u8 0, .int .u8 0, .int .u8 0, .int .u8 0, .int .u8 0, .int .u8 0, .int .u8 0, .int .u8 0, .int .u8 0] 28))) := hid ((Below.refl _ _).alloc (Nat.le_refl _) _)
  have HS1 : Hid (w.heap.size < (w.alloc (.cells #[.int .u8 0, .int .u8 0, .int .u8 0, .int .u8 0, .int .u8 0, .int .u8 0, .int .u8 0, .int .u8 0, .int .u8 0, .int .u8 0, .int .u8 0, .int .u8 0, .int .u8 0, .int .u8 0, .int .u8 0, .int .u8 0, .int .u8 0, .int .u8 0, .int .u8 0, .int .u8 0, .int .u8 0, .int .u8 0, .int .u8 0, .int .u8 0, .int .u8 0, .int .u8 0, .int .u8 0, .int .u8 0, .int .u8 0, .int .u8 0, .int .u8 0, .int .u8 0] 28)).heap.size) := hid (by simp)
  generalize w.alloc (.cells #[.int .u8 0, .int .u8 0, .int .u8 0, .int .u8 0, .int .u8 0, .int .u8 0, .int .u8 0, .int .u8 0, .int .u8 0, .int .u8 0, .int .u8 0, .int .u8 0, .int .u8 0, .int .u8 0, .int .u8 0, .int .u8 0, .int .u8 0, .int .u8 0, .int .u8 0, .int .u8 0, .int .u8 0, .int .u8 0, .int .u8 0, .int .u8 0, .int .u8 0, .int .u8 0, .int .u8 0, .int .u8 0, .int .u8 0, .int .u8 0, .int .u8 0, .int .u8 0] 28) = w1 at *
  refine (there_any g true w1 HR1.out.made).mono ?_
  rintro e wt ⟨rfl, rfl⟩
  have HI : Hid ((Tryd.prog.info? 118).map (·.size) = some (rc (eat hh bs (bs.length / 64)) b bs.length).toArray.size) := hid (by rw [rc_size _ (so_length _ _) HB.out]; exact i61)
  have HRH := HR1.out
  unfold Rn at HRH
  have HRH := hid HRH
  have HAL := rc_all (eat hh bs (bs.length / 64)) b bs.length
  have HSZ := hid (rc_size bs.length (so_length bs (bs.length / 64)) HB.out)
  go_upto_region 3 with fail
  obtain ⟨w2, hw2, HB2, HZ2, HR2, HRn2, HS2⟩ := sum_boxes w w1 g bs b Tryd.zeroCells118 HB1.out HS1.out HZ1.out HR1.out HB.out HT.out
  have hcn := HRn2.out.count (so_length _ _) HB.out
  generalize (rc (eat hh bs (bs.length / 64)) b bs.length).toArray = R at *
  go_wp2_with (first | (refine wpList_load_row rfl 118 (.tmp 9) rfl g rfl 118 R (0, 0) _ HRH.out Tryd.underlying118 rfl HI.out ?_) | (refine wpList_store_row rfl 118 (.tmp 3) (.tmp 10) rfl w1.heap.size R rfl rfl 118 _ (heap_alloc_new _ _) HI.out (by rw [HSZ.out]; rfl) HAL ?_; rw [hw2]))
  have HKw := hid (HK.out.on HB2.out)
  have H3w := hid (Nat.ne_of_lt (Nat.lt_of_lt_of_le HK.out.lt HB1.out.size))
  have HSw := hid HB1.out.size
  have HSX := hid HS1.out
  generalize w1.heap.size = g3 at *
  clear hw2 HRH HAL HSZ HI HR1 HZ1 HB1 HS1
  refine (ending_any bs.length w2 (by have := HL.out; omega)).mono ?_
  rintro e w3 ⟨⟨ge, k, rfl, hk, hge, hrow⟩, hb3⟩
  have HGE := hid hge
  have HROW := hid hrow
  have HB3 := hid hb3
  have HKK := hid hk
  clear hge hrow hb3 hk
  go_wp2_with fail
  have hgn : g3 ≠ ge := Nat.ne_of_lt (Nat.lt_of_lt_of_le HS2.out HGE.out)
  refine (add_any g3 (some ⟨ge, 0, none⟩) k bs (tail bs.length) w3 k HKK.out.symm (HR2.out.heap (HB3.out.block g3 HS2.out)) HROW.out.rd0 (fun _ ad e => by injection e with e; subst e; exact hgn.symm) (Nat.le_refl _) (HKw.out.on HB3.out) H3w.out (by have := HL.out; rw [HKK.out, tail_length]; unfold nought; omega)).mono ?_
  rintro e w4 ⟨rfl, hr4, hg4⟩
  have HR4 := hid hr4
  have HB4 := hid (below_grown (HB2.out.trans (HB3.out.mono HB2.out.size)) hg4 HSw.out (Nat.le_trans HB2.out.size HB3.out.size))
  have HZ4 := hid (show Bt w4 w.heap.size 28 (List.replicate 32 0) from (hg4.block w.heap.size (Nat.lt_of_lt_of_le HZ2.out.lt HB3.out.size) (by intro e; injection e with e; have := HSX.out; omega)).trans ((HB3.out.block _ HZ2.out.lt).trans HZ2.out))
  clear hr4 hg4
  obtain ⟨b5, hb5, ht5, hr5⟩ := HR4.out
  have HRG := hid hr5.so
  have hE : Hid (sha bs = spell (eat hh (bs ++ tail bs.length) ((bs ++ tail bs.length).length / 64))) := hid rfl
  have HL5 := hid (so_length (bs ++ tail bs.length) ((bs ++ tail bs.length).length / 64))
  clear hb5 ht5 hr5
  generalize eat hh (bs ++ tail bs.length) ((bs ++ tail bs.length).length / 64) = so at *
  have HI57 := hi57 so HL5.out
  rw [dv_size, ← dv_length] at HI57
  go_wp2_with (refine wpList_load_mid rfl 113 (.tmp 17) rfl g3 1 rfl (dv so) _ HRG.out Tryd.underlying113 rfl HI57.out ?_)
  refine (tell_any' so w4 HL5.out).mono ?_
  rintro e w5 ⟨rfl, hb5⟩
  have hEE := hE.out
  rw [← hEE]
  clear hEE
  have HZ5 := hid (HZ4.out.on hb5)
  have HB5 := hid (HB4.out.trans (hb5.mono HB4.out.size))
  have HSL := hid (sha_length bs)
  generalize hr : sha bs = r at *
  have HRR := hid hr
  clear hr
  have HI44 := hi44 r HSL.out
  have HO8 : Hid ((bvs (List.replicate 32 0)).toArray.size = (bvs r).toArray.size) := hid (by rw [bvs_size, bvs_size, HSL.out, List.length_replicate])
  have HZR := hid (HZ5.out.row (m := r))
  have HBR := hid (p := Below w.heap.size w (w5.setRow w.heap.size (bvs r).toArray)) (below_setRow HB5.out (Nat.le_refl _) _)
  have HDA := bvs_all r
  have HZZ := HZ5.out
  unfold Bt at HZZ
  have HZZ := hid HZZ
  go_wp2_with (refine wpList_store_row rfl 28 (.tmp 2) (.tmp 19) rfl w.heap.size (bvs r).toArray rfl rfl 28 _ HZZ.out HI44.out HO8.out HDA ?_)
  exact bodyPost_ret (v := .agg (bvs r).toArray) (results_cell_row (p := 2) (ty := 28) Tryd.results67 _ _ w.heap.size 28 (bvs r).toArray (0, 0) _ rfl HZR.out Tryd.underlying28 rfl HI44.out) rfl ⟨by rw [HRR.out], HBR.out⟩
end Go.Proofs.YtioebjbjpjbodaaDoor
namespace Go.Proofs.YtioebjbjpjbodaaDoor
open Go.RowKit
set_option linter.unusedVariables false
set_option linter.unusedSimpArgs false

/-- a run of these bytes, that was made since; all older things stand -/
structure Al (w : World) (g : Nat) (bs : List UInt8) (w' : World) : Prop where
  run : RunIs w' g bs
  below : Below w.heap.size w w'
  k : Kt w
  new : w.heap.size ≤ g
theorem Al.kt {w w' : World} {g : Nat} {bs : List UInt8} (h : Al w g bs w') : Kt w' := h.k.on h.below
theorem Al.n3 {w w' : World} {g : Nat} {bs : List UInt8} (h : Al w g bs w') : 2 ≠ g := by have := h.k.lt; have := h.new; omega
theorem Al.on {w w' w2 : World} {g : Nat} {bs : List UInt8} (h : Al w g bs w') (hb : Below w'.heap.size w' w2) : Al w g bs w2 := ⟨h.run.heap (hb.block g h.run.lt), h.below.trans (hb.mono h.below.size), h.k, h.new⟩
theorem Al.alloc {w w' : World} {g : Nat} {bs : List UInt8} (h : Al w g bs w') (o : Obj) : Al w g bs (w'.alloc o) := h.on ((Below.refl _ _).alloc (Nat.le_refl _) o)
theorem Al.drew {w w' : World} {g : Nat} {bs : List UInt8} (h : Al w g bs w') : Al w g bs w'.drew := ⟨h.run, h.below.drew, h.k, h.new⟩
theorem Al.put {w w' w2 : World} {g : Nat} {bs bs' : List UInt8} (h : Al w g bs w') (hr : RunIs w2 g bs') (hg : w'.grownBy w2 (some g)) : Al w g bs' w2 := ⟨hr, below_grown h.below hg h.new h.below.size, h.k, h.new⟩
theorem new_at (w : World) (hK : Kt w) : Calls Tryd.prog 63 #[] w fun e w' => ∃ g, e = .returned (.pointer (some ⟨g, 0, none⟩)) ∧ Hid (Al w g [] w') := by
  refine (new_any w).mono ?_
  rintro e w1 ⟨⟨g, rfl, hg, hr⟩, hb⟩
  exact ⟨g, rfl, hid ⟨hr, hb, hK, hg⟩⟩
theorem sum_at {w wr : World} {g : Nat} {bs : List UInt8} (H : Hid (Al w g bs wr)) (hl : bs.length ≤ 70368744177664) :
    Calls Tryd.prog 67 #[.pointer (some ⟨g, 0, none⟩)] wr fun e w' => e = .returned (.agg (bvs (sha bs)).toArray) ∧ Hid (Al w g bs w') ∧ Hid (Below wr.heap.size wr w') := by
  refine (sum_any g bs wr H.out.run H.out.kt hl).mono ?_
  rintro e w1 ⟨rfl, hb⟩
  exact ⟨rfl, hid (H.out.on hb), hid hb⟩
end Go.Proofs.YtioebjbjpjbodaaDoor
namespace Go.Proofs.YtioebjbjpjbodaaDoor
open Go.RowKit
set_option linter.unusedVariables false
set_option linter.unusedSimpArgs false

/-- a run of these bytes, and boxes that hold these sums -/
def Cb (w : World) (g : Nat) (bs : List UInt8) (l : List (Nat × List UInt8)) (w' : World) : Prop := Al w g bs w' ∧ ∀ p ∈ l, Bt w' p.1 28 p.2 ∧ p.1 ≠ g
theorem Cb.old {w w' : World} {g : Nat} {bs : List UInt8} {l : List (Nat × List UInt8)} (h : Cb w g bs l w') : Below w.heap.size w w' := h.1.below
theorem Cb.on {w w' w2 : World} {g : Nat} {bs : List UInt8} {l : List (Nat × List UInt8)} (h : Cb w g bs l w') (hb : Below w'.heap.size w' w2) : Cb w g bs l w2 := ⟨h.1.on hb, fun p hp => ⟨(h.2 p hp).1.on hb, (h.2 p hp).2⟩⟩
theorem Cb.drew {w w' : World} {g : Nat} {bs : List UInt8} {l : List (Nat × List UInt8)} (h : Cb w g bs l w') : Cb w g bs l w'.drew := ⟨h.1.drew, h.2⟩
theorem Bt.grown {w w' : World} {g b : Nat} {t : TypeId} {l : List UInt8} (h : Bt w b t l) (hg : w.grownBy w' (some g)) (hne : b ≠ g) : Bt w' b t l := (hg.block b h.lt (by intro e; injection e with e; exact hne e)).trans h
theorem Cb.box {w w' : World} {g : Nat} {bs x : List UInt8} {l : List (Nat × List UInt8)} (h : Cb w g bs l w') : Cb w g bs ((w'.heap.size, x) :: l) (w'.alloc (.cells (bvs x).toArray 28)) := by
  have h2 := h.on ((Below.refl w'.heap.size w').alloc (Nat.le_refl _) (.cells (bvs x).toArray 28))
  refine ⟨h2.1, fun p hp => ?_⟩
  rcases List.mem_cons.1 hp with rfl | hp
  · exact ⟨heap_alloc_new _ _, Nat.ne_of_gt h.1.run.lt⟩
  · exact h2.2 p hp
theorem Cb.set {w w' : World} {g : Nat} {bs x : List UInt8} {l : List (Nat × List UInt8)} (h : Cb w g bs l w') : Cb w g bs ((w'.heap.size, x) :: l) ((w'.alloc (.cells #[.int .u8 0, .int .u8 0, .int .u8 0, .int .u8 0, .int .u8 0, .int .u8 0, .int .u8 0, .int .u8 0, .int .u8 0, .int .u8 0, .int .u8 0, .int .u8 0, .int .u8 0, .int .u8 0, .int .u8 0, .int .u8 0, .int .u8 0, .int .u8 0, .int .u8 0, .int .u8 0, .int .u8 0, .int .u8 0, .int .u8 0, .int .u8 0, .int .u8 0, .int .u8 0, .int .u8 0, .int .u8 0, .int .u8 0, .int .u8 0, .int .u8 0, .int .u8 0] 28)).setRow w'.heap.size (bvs x).toArray) := by
  rw [World.setRow_alloc_new]; exact h.box
theorem sum_cb {w wr : World} {g : Nat} {bs : List UInt8} {l : List (Nat × List UInt8)} (H : Hid (Cb w g bs l wr)) (hl : bs.length ≤ 70368744177664) :
    Calls Tryd.prog 67 #[.pointer (some ⟨g, 0, none⟩)] wr fun e w' => e = .returned (.agg (bvs (sha bs)).toArray) ∧ Hid (Cb w g bs l w') := by
  refine (sum_at (hid H.out.1) hl).mono ?_
  rintro e w1 ⟨rfl, h1, h2⟩
  exact ⟨rfl, hid (H.out.on h2.out)⟩
end Go.Proofs.YtioebjbjpjbodaaDoor
