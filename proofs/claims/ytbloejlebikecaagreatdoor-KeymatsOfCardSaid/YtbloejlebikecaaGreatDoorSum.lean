/-
  (*shas.Run).Sum, Write, shas.Of, walked. Conditions: the library's table holds what its text lays; no more than 2^46 bytes.
-/
import Derived.Test.YtbloejlebikecaaGreatDoorNew
namespace Go.Proofs.YtbloejlebikecaaGreatDoor
open Go.RowKit
set_option linter.unusedVariables false
set_option linter.unusedSimpArgs false

theorem i61 : (Tryz.prog.info? 174).map (·.size) = some 74 := by kernel_rfl
theorem below_grown {B g : Nat} {w w1 w2 : World} (h : Below B w w1) (k : w1.grownBy w2 (some g)) (hg : B ≤ g) (hB : B ≤ w1.heap.size) : Below B w w2 :=
  h.trans ⟨k.os, k.tape, k.output, k.size, fun i hi => k.block i (by omega) (by intro e; injection e with e; omega)⟩
theorem rc_all (l : List Nat) (b : List UInt8) (n : Nat) : (rc l b n).toArray.all (·.oneCell') = true := by
  refine all_oneCell_toArray (fun v hv => ?_)
  simp only [rc, List.mem_cons, List.mem_append, List.not_mem_nil, or_false] at hv
  rcases hv with rfl | h | h | rfl
  · rfl
  · exact dv_one l v h
  · exact bvs_one b v h
  · rfl
theorem rc_size {l : List Nat} {b : List UInt8} (n : Nat) (hl : l.length = 8) (hb : b.length = 64) : (rc l b n).toArray.size = 74 := by rw [List.size_toArray, rc_length n hl hb]
/-- the answer's box, then the run's likeness -/
theorem sum_boxes (w w1 : World) (g : Nat) (bs : List UInt8) (b : List UInt8) (old : Array Value) (hB : Below w.heap.size w w1) (hs : w.heap.size < w1.heap.size) (hz : Bt w1 w.heap.size 26 (List.replicate 32 0))
    (hR : Rn w1 g (eat hh bs (bs.length / 64)) b bs.length) (hb : b.length = 64) (ht : b.take (bs.length % 64) = bs.drop (64 * (bs.length / 64))) :
    ∃ w2, (w1.alloc (.cells old 174)).setRow w1.heap.size (rc (eat hh bs (bs.length / 64)) b bs.length).toArray = w2 ∧ Hid (Below w.heap.size w w2) ∧ Hid (Bt w2 w.heap.size 26 (List.replicate 32 0)) ∧ Hid (RunIs w2 w1.heap.size bs) ∧ Hid (Rn w2 g (eat hh bs (bs.length / 64)) b bs.length) ∧ Hid (w1.heap.size < w2.heap.size) := by
  refine ⟨_, rfl, ?_⟩
  rw [World.setRow_alloc_new]
  have hx : Below w1.heap.size w1 (w1.alloc (.cells (rc (eat hh bs (bs.length / 64)) b bs.length).toArray 174)) := (Below.refl _ _).alloc (Nat.le_refl _) _
  exact ⟨hid (hB.trans (hx.mono (by omega))), hid (hz.on hx), hid ⟨b, hb, ht, heap_alloc_new _ _⟩, hid ((hx.block g hR.lt).trans hR), hid (by simp)⟩
set_option maxRecDepth 100000 in
set_option maxHeartbeats 2000000 in
theorem sum_any (g : Nat) (bs : List UInt8) (w : World) (hR : RunIs w g bs) (hK : Kt w) (hl : bs.length ≤ 70368744177664) :
    Calls Tryz.prog 105 #[.pointer (some ⟨g, 0, none⟩)] w fun e w' => e = .returned (.agg (bvs (sha bs)).toArray) ∧ Below w.heap.size w w' := by
  obtain ⟨b, hb, ht, hR⟩ := hR
  have HB := hid hb
  have HT := hid ht
  have HR := hid hR
  have HK := hid hK
  have HL := hid hl
  clear hb ht hR hK hl
  go_enter Tryz.func105, Tryz.ntmps105
  go_wp2_with fail
  have HR1 : Hid (Rn (w.alloc (.cells #[.int .u8 0, .int .u8 0, .int .u8 0, .int .u8 0, .int .u8 0, .int .u8 0, .int .u8 0, .int .u8 0, .int .u8 0, .int .u8 0, .int .u8 0, .int .u8 0, .int .u8 0, .int .u8 0, .int .u8 0, .int .u8 0, .int .u8 0, .int .u8 0, .int .u8 0, .int .u8 0, .int .u8 0, .int .u8 0, .int .u8 0, .int .u8 0, .int .u8 0, .int .u8 0, .int .u8 0, .int .u8 0, .int .u8 0, .int .u8 0, .int .u8 0, .int .u8 0] 26)) g (eat hh bs (bs.length / 64)) b bs.length) := hid ((((Below.refl _ _).alloc (Nat.le_refl _) _ : Below w.heap.size w (w.alloc (.cells #[.int .u8 0, .int .u8 0, .int .u8 0, .int .u8 0, .int .u8 0, .int .u8 0, .int .u8 0, .int .u8 0, .int .u8 0, .int .u8 0, .int .u8 0, .int .u8 0, .int .u8 0, .int .u8 0, .int .u8 0, .int .u8 0, .int .u8 0, .int .u8 0, .int .u8 0, .int .u8 0, .int .u8 0, .int .u8 0, .int .u8 0, .int .u8 0, .int .u8 0, .int .u8 0, .int .u8 0, .int .u8 0, .int .u8 0, .int .u8 0, .int .u8 0, .int .u8 0] 26))).block g HR.out.lt).trans HR.out)
  have HZ1 : Hid (Bt (w.alloc (.cells #[.int .u8 0, .int .u8 0, .int .u8 0, .int .u8 0, .int .u8 0, .int .u8 0, .int .u8 0, .int .u8 0, .int .u8 0, .int .u8 0, .int .u8 0, .int .u8 0, .int .u8 0, .int .u8 0, .int .u8 0, .int .u8 0, .int .u8 0, .int .u8 0, .int .u8 0, .int .u8 0, .int .u8 0, .int .u8 0, .int .u8 0, .int .u8 0, .int .u8 0, .int .u8 0, .int .u8 0, .int .u8 0, .int .u8 0, .int .u8 0, .int .u8 0, .int .u8 0] 26)) w.heap.size 26 (List.replicate 32 0)) := hid (heap_alloc_new w _)
  have HB1 : Hid (Below w.heap.size w (w.alloc (.cells #[.int .u8 0, .int .u8 0, .int .u8 0, .int .u8 0, .int .u8 0, .int .u8 0, .int .u8 0, .int .u8 0, .int .u8 0, .int .u8 0, .int .u8 0, .int .u8 0, .int .u8 0, .int .u8 0, .int .u8 0, .int .u8 0, .int .u8 0, .int .u8 0, .int .u8 0, .int .u8 0, .int .u8 0, .int .u8 0, .int .u8 0, .int .u8 0, .int .u8 0, .int .u8 0, .int .u8 0, .int .u8 0, .int .u8 0, .int .u8 0, .int .u8 0, .int .u8 0] 26))) := hid ((Below.refl _ _).alloc (Nat.le_refl _) _)
  have HS1 : Hid (w.heap.size < (w.alloc (.cells #[.int .u8 0, .int .u8 0, .int .u8 0, .int .u8 0, .int .u8 0, .int .u8 0, .int .u8 0, .int .u8 0, .int .u8 0, .int .u8 0, .int .u8 0, .int .u8 0, .int .u8 0, .int .u8 0, .int .u8 0, .int .u8 0, .int .u8 0, .int .u8 0, .int .u8 0, .int .u8 0, .int .u8 0, .int .u8 0, .int .u8 0, .int .u8 0, .int .u8 0, .int .u8 0, .int .u8 0, .int .u8 0, .int .u8 0, .int .u8 0, .int .u8 0, .int .u8 0] 26)).heap.size) := hid (by simp)
  generalize w.alloc (.cells #[.int .u8 0, .int .u8 0, .int .u8 0, .int .u8 0, .int .u8 0, .int .u8 0, .int .u8 0, .int .u8 0, .int .u8 0, .int .u8 0, .int .u8 0, .int .u8 0, .int .u8 0, .int .u8 0, .int .u8 0, .int .u8 0, .int .u8 0, .int .u8 0, .int .u8 0, .int .u8 0, .int .u8 0, .int .u8 0, .int .u8 0, .int .u8 0, .int .u8 0, .int .u8 0, .int .u8 0, .int .u8 0, .int .u8 0, .int .u8 0, .int .u8 0, .int .u8 0] 26) = w1 at *
  refine (there_any g true w1 HR1.out.made).mono ?_
  rintro e wt ⟨rfl, rfl⟩
  have HI : Hid ((Tryz.prog.info? 174).map (·.size) = some (rc (eat hh bs (bs.length / 64)) b bs.length).toArray.size) := hid (by rw [rc_size _ (so_length _ _) HB.out]; exact i61)
  have HRH := HR1.out
  unfold Rn at HRH
  have HRH := hid HRH
  have HAL := rc_all (eat hh bs (bs.length / 64)) b bs.length
  have HSZ := hid (rc_size bs.length (so_length bs (bs.length / 64)) HB.out)
  go_upto_region 3 with fail
  obtain ⟨w2, hw2, HB2, HZ2, HR2, HRn2, HS2⟩ := sum_boxes w w1 g bs b Tryz.zeroCells174 HB1.out HS1.out HZ1.out HR1.out HB.out HT.out
  have hcn := HRn2.out.count (so_length _ _) HB.out
  generalize (rc (eat hh bs (bs.length / 64)) b bs.length).toArray = R at *
  go_wp2_with (first | (refine wpList_load_row rfl 174 (.tmp 9) rfl g rfl 174 R (0, 0) _ HRH.out Tryz.underlying174 rfl HI.out ?_) | (refine wpList_store_row rfl 174 (.tmp 3) (.tmp 10) rfl w1.heap.size R rfl rfl 174 _ (heap_alloc_new _ _) HI.out (by rw [HSZ.out]; rfl) HAL ?_; rw [hw2]))
  have HKw := hid (HK.out.on HB2.out)
  have H3w := hid (Nat.ne_of_lt (Nat.lt_of_lt_of_le HK.out.lt HB1.out.size))
  have HSw := hid HB1.out.size
  have HSX := hid HS1.out
  generalize w1.heap.size = g3 at *
  clear hw2 HRH HAL HSZ HI HR1 HZ1 HB1 HS1
  refine (ending_any bs.length w2 (by have := HL.out; omega)).mono ?_
  rintro e w3 ⟨⟨ge, k, rfl, hk, hge, hrow⟩, hb3⟩
  have HGE := hid hge
  have HROW := hid hrow
  have HB3 := hid hb3
  have HKK := hid hk
  clear hge hrow hb3 hk
  go_wp2_with fail
  have hgn : g3 ≠ ge := Nat.ne_of_lt (Nat.lt_of_lt_of_le HS2.out HGE.out)
  refine (add_any g3 (some ⟨ge, 0, none⟩) k bs (tail bs.length) w3 k HKK.out.symm (HR2.out.heap (HB3.out.block g3 HS2.out)) HROW.out.rd0 (fun _ ad e => by injection e with e; subst e; exact hgn.symm) (Nat.le_refl _) (HKw.out.on HB3.out) H3w.out (by have := HL.out; rw [HKK.out, tail_length]; unfold nought; omega)).mono ?_
  rintro e w4 ⟨rfl, hr4, hg4⟩
  have HR4 := hid hr4
  have HB4 := hid (below_grown (HB2.out.trans (HB3.out.mono HB2.out.size)) hg4 HSw.out (Nat.le_trans HB2.out.size HB3.out.size))
  have HZ4 := hid (show Bt w4 w.heap.size 26 (List.replicate 32 0) from (hg4.block w.heap.size (Nat.lt_of_lt_of_le HZ2.out.lt HB3.out.size) (by intro e; injection e with e; have := HSX.out; omega)).trans ((HB3.out.block _ HZ2.out.lt).trans HZ2.out))
  clear hr4 hg4
  obtain ⟨b5, hb5, ht5, hr5⟩ := HR4.out
  have HRG := hid hr5.so
  have hE : Hid (sha bs = spell (eat hh (bs ++ tail bs.length) ((bs ++ tail bs.length).length / 64))) := hid rfl
  have HL5 := hid (so_length (bs ++ tail bs.length) ((bs ++ tail bs.length).length / 64))
  clear hb5 ht5 hr5
  generalize eat hh (bs ++ tail bs.length) ((bs ++ tail bs.length).length / 64) = so at *
  have HI57 := hi57 so HL5.out
  rw [dv_size, ← dv_length] at HI57
  go_wp2_with (refine wpList_load_mid rfl 170 (.tmp 17) rfl g3 1 rfl (dv so) _ HRG.out Tryz.underlying170 rfl HI57.out ?_)
  refine (tell_any' so w4 HL5.out).mono ?_
  rintro e w5 ⟨rfl, hb5⟩
  have hEE := hE.out
  rw [← hEE]
  clear hEE
  have HZ5 := hid (HZ4.out.on hb5)
  have HB5 := hid (HB4.out.trans (hb5.mono HB4.out.size))
  have HSL := hid (sha_length bs)
  generalize hr : sha bs = r at *
  have HRR := hid hr
  clear hr
  have HI44 := hi44 r HSL.out
  have HO8 : Hid ((bvs (List.replicate 32 0)).toArray.size = (bvs r).toArray.size) := hid (by rw [bvs_size, bvs_size, HSL.out, List.length_replicate])
  have HZR := hid (HZ5.out.row (m := r))
  have HBR := hid (p := Below w.heap.size w (w5.setRow w.heap.size (bvs r).toArray)) (below_setRow HB5.out (Nat.le_refl _) _)
  have HDA := bvs_all r
  have HZZ := HZ5.out
  unfold Bt at HZZ
  have HZZ := hid HZZ
  go_wp2_with (refine wpList_store_row rfl 26 (.tmp 2) (.tmp 19) rfl w.heap.size (bvs r).toArray rfl rfl 26 _ HZZ.out HI44.out HO8.out HDA ?_)
  exact bodyPost_ret (v := .agg (bvs r).toArray) (results_cell_row (p := 2) (ty := 26) Tryz.results105 _ _ w.heap.size 26 (bvs r).toArray (0, 0) _ rfl HZR.out Tryz.underlying26 rfl HI44.out) rfl ⟨by rw [HRR.out], HBR.out⟩
theorem write_any (g : Nat) (A : Option Addr) (c : Nat) (bs part : List UInt8) (w : World) (n : Nat) (hn : part.length = n) (hR : RunIs w g bs) (hr : Rd w A part) (hA : 0 < n → ∀ ad, A = some ad → ad.block ≠ g) (hc : n ≤ c) (hK : Kt w) (h3 : 0 ≠ g) (hlen : bs.length + n ≤ 140737488355328) :
    Calls Tryz.prog 104 #[.pointer (some ⟨g, 0, none⟩), .slice A n c] w fun e w' => e = .returned (.int .i64 0) ∧ RunIs w' g (bs ++ part) ∧ w.grownBy w' (some g) := by
  have HC := hid (add_any g A c bs part w n hn hR hr hA hc hK h3 hlen)
  obtain ⟨b, hb, ht, hRn⟩ := hR
  have hm := hRn.made
  clear hb ht hRn hn hr hA hc hK h3 hlen
  go_enter Tryz.func104, Tryz.ntmps104
  go_wp2_with fail
  refine (there_any g true _ hm).mono ?_
  rintro e wt ⟨rfl, rfl⟩
  go_wp2_with fail
  refine HC.out.mono ?_
  rintro e w4 ⟨rfl, hr4, hg4⟩
  go_wp2
  go_ret
  exact ⟨rfl, hr4, hg4⟩
set_option maxRecDepth 100000 in
set_option maxHeartbeats 2000000 in
theorem of_any (A : Option Addr) (c : Nat) (bs : List UInt8) (w : World) (n : Nat) (hn : bs.length = n) (hr : Rd w A bs) (hc : n ≤ c) (hK : Kt w) (hlen : n ≤ 70368744177664) :
    Calls Tryz.prog 102 #[.slice A n c] w fun e w' => e = .returned (.agg (bvs (sha bs)).toArray) ∧ Below w.heap.size w w' := by
  have HN := hid hn
  have HR := hid hr
  have HC := hid hc
  have HK := hid hK
  have HL := hid hlen
  clear hn hr hc hK hlen
  go_enter Tryz.func102, Tryz.ntmps102
  go_wp2_with fail
  have HZ1 : Hid (Bt (w.alloc (.cells #[.int .u8 0, .int .u8 0, .int .u8 0, .int .u8 0, .int .u8 0, .int .u8 0, .int .u8 0, .int .u8 0, .int .u8 0, .int .u8 0, .int .u8 0, .int .u8 0, .int .u8 0, .int .u8 0, .int .u8 0, .int .u8 0, .int .u8 0, .int .u8 0, .int .u8 0, .int .u8 0, .int .u8 0, .int .u8 0, .int .u8 0, .int .u8 0, .int .u8 0, .int .u8 0, .int .u8 0, .int .u8 0, .int .u8 0, .int .u8 0, .int .u8 0, .int .u8 0] 26)) w.heap.size 26 (List.replicate 32 0)) := hid (heap_alloc_new w _)
  have HB1 : Hid (Below w.heap.size w (w.alloc (.cells #[.int .u8 0, .int .u8 0, .int .u8 0, .int .u8 0, .int .u8 0, .int .u8 0, .int .u8 0, .int .u8 0, .int .u8 0, .int .u8 0, .int .u8 0, .int .u8 0, .int .u8 0, .int .u8 0, .int .u8 0, .int .u8 0, .int .u8 0, .int .u8 0, .int .u8 0, .int .u8 0, .int .u8 0, .int .u8 0, .int .u8 0, .int .u8 0, .int .u8 0, .int .u8 0, .int .u8 0, .int .u8 0, .int .u8 0, .int .u8 0, .int .u8 0, .int .u8 0] 26))) := hid ((Below.refl _ _).alloc (Nat.le_refl _) _)
  have HS1 : Hid (w.heap.size < (w.alloc (.cells #[.int .u8 0, .int .u8 0, .int .u8 0, .int .u8 0, .int .u8 0, .int .u8 0, .int .u8 0, .int .u8 0, .int .u8 0, .int .u8 0, .int .u8 0, .int .u8 0, .int .u8 0, .int .u8 0, .int .u8 0, .int .u8 0, .int .u8 0, .int .u8 0, .int .u8 0, .int .u8 0, .int .u8 0, .int .u8 0, .int .u8 0, .int .u8 0, .int .u8 0, .int .u8 0, .int .u8 0, .int .u8 0, .int .u8 0, .int .u8 0, .int .u8 0, .int .u8 0] 26)).heap.size) := hid (by simp)
  generalize w.alloc (.cells #[.int .u8 0, .int .u8 0, .int .u8 0, .int .u8 0, .int .u8 0, .int .u8 0, .int .u8 0, .int .u8 0, .int .u8 0, .int .u8 0, .int .u8 0, .int .u8 0, .int .u8 0, .int .u8 0, .int .u8 0, .int .u8 0, .int .u8 0, .int .u8 0, .int .u8 0, .int .u8 0, .int .u8 0, .int .u8 0, .int .u8 0, .int .u8 0, .int .u8 0, .int .u8 0, .int .u8 0, .int .u8 0, .int .u8 0, .int .u8 0, .int .u8 0, .int .u8 0] 26) = w1 at *
  refine (new_any w1).mono ?_
  rintro e w2 ⟨⟨g, rfl, hg, hR2⟩, hb2⟩
  have HG := hid hg
  have HR2 := hid hR2
  have HB2 := hid hb2
  clear hg hR2 hb2
  go_wp2_with fail
  have hrd : Rd w2 A bs := (HR.out.below HB1.out (Nat.le_refl _)).below HB2.out (Nat.le_refl _)
  refine (add_any g A c [] bs w2 n HN.out HR2.out hrd (fun hp ad e => by
    obtain ⟨gp, o, h1, h2, _⟩ := HR.out (by rw [HN.out]; exact hp)
    rw [h1] at e; injection e with e; subst e
    have h5 := HG.out; have h6 := HB1.out.size
    show gp ≠ g
    omega) HC.out ((HK.out.on HB1.out).on HB2.out) (by have := HK.out.lt; have := HG.out; have := HB1.out.size; omega) (by have := HL.out; simp; omega)).mono ?_
  rintro e w3 ⟨rfl, hr3, hg3⟩
  have HR3 := hid (p := RunIs w3 g bs) hr3
  have HG3 := hid hg3
  clear hr3 hg3 hrd
  have hge : w.heap.size ≤ g := by have := HG.out; have := HB1.out.size; omega
  have HB3 := hid (below_grown (HB1.out.trans (HB2.out.mono HB1.out.size)) HG3.out hge (Nat.le_trans HB1.out.size HB2.out.size))
  have HZ3 := hid (show Bt w3 w.heap.size 26 (List.replicate 32 0) from (HG3.out.block w.heap.size (Nat.lt_of_lt_of_le HZ1.out.lt HB2.out.size) (by intro e; injection e with e; have := HG.out; have := HS1.out; omega)).trans ((HB2.out.block _ HZ1.out.lt).trans HZ1.out))
  go_wp2_with fail
  refine (sum_any g bs w3 HR3.out (((HK.out.on HB1.out).on HB2.out).grown HG3.out (by have := HK.out.lt; omega)) (by rw [HN.out]; exact HL.out)).mono ?_
  rintro e w5 ⟨rfl, hb5⟩
  have HZ5 := hid (HZ3.out.on hb5)
  have HB5 := hid (HB3.out.trans (hb5.mono HB3.out.size))
  have HSL := hid (sha_length bs)
  clear hb5
  generalize hr : sha bs = r at *
  have HRR := hid hr
  clear hr
  have HI44 := hi44 r HSL.out
  have HO8 : Hid ((bvs (List.replicate 32 0)).toArray.size = (bvs r).toArray.size) := hid (by rw [bvs_size, bvs_size, HSL.out, List.length_replicate])
  have HZR := hid (HZ5.out.row (m := r))
  have HBR := hid (p := Below w.heap.size w (w5.setRow w.heap.size (bvs r).toArray)) (below_setRow HB5.out (Nat.le_refl _) _)
  have HDA := bvs_all r
  have HZZ := HZ5.out
  unfold Bt at HZZ
  have HZZ := hid HZZ
  go_wp2_with (refine wpList_store_row rfl 26 (.tmp 2) (.tmp 9) rfl w.heap.size (bvs r).toArray rfl rfl 26 _ HZZ.out HI44.out HO8.out HDA ?_)
  exact bodyPost_ret (v := .agg (bvs r).toArray) (results_cell_row (p := 2) (ty := 26) Tryz.results102 _ _ w.heap.size 26 (bvs r).toArray (0, 0) _ rfl HZR.out Tryz.underlying26 rfl HI44.out) rfl ⟨by rw [HRR.out], HBR.out⟩
end Go.Proofs.YtbloejlebikecaaGreatDoor
