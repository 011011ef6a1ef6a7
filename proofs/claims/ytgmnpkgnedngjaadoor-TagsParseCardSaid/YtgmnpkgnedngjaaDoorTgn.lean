/-
  TagsParse, walked. Condition: the library's table holds what its text lays.
-/
import Derived.Test.YtgmnpkgnedngjaaDoorPkP
namespace Go.Proofs.YtgmnpkgnedngjaaDoor
open Go.RowKit
set_option linter.unusedVariables false
set_option linter.unusedSimpArgs false

theorem parse_is (L u : List UInt8) (h : IsT L u) (w : World) (hd : Dg w) : Calls Tryd.prog 8 #[sv L] w fun e w' => e = .returned (.tuple #[.agg (bvs u).toArray, .int .i64 0]) ∧ Below w.heap.size w w' := by
  rw [← h.2]; exact parse_hit u h.1 w hd
theorem parse_str (s : ByteArray) (t : List UInt8) (h : IsT s.data.toList t) (w : World) (hd : Dg w) : Calls Tryd.prog 8 #[.string s] w fun e w' => e = .returned (.tuple #[.agg (bvs t).toArray, .int .i64 0]) ∧ Below w.heap.size w w' := by
  have := parse_is s.data.toList t h w hd
  rwa [show sv s.data.toList = .string s by rw [sv, ← str_eta]] at this
theorem parse_no (L : List UInt8) (h : ∀ t, ¬ IsT L t) (w : World) (hd : Dg w) : Calls Tryd.prog 8 #[sv L] w fun e w' => e = .returned (.tuple #[.agg (bvs z16).toArray, .int .i64 4]) ∧ Below w.heap.size w w' :=
  parse_miss ⟨L.toArray⟩ (fun t => by simpa using h t) w hd
theorem set_same (L : List UInt8) (k : Nat) : L.set k (gb L k) = L := by
  apply List.ext_getElem?
  intro i
  rw [List.getElem?_set]
  by_cases h : k = i
  · subst h
    by_cases hk : k < L.length
    · rw [if_pos rfl, if_pos hk, gb_lt hk, List.getElem?_eq_getElem hk]
    · rw [if_pos rfl, if_neg hk, List.getElem?_eq_none (by omega)]
  · rw [if_neg h]
theorem set_ne (L : List UInt8) (k : Nat) (x : UInt8) (hk : k < L.length) (hx : x ≠ gb L k) : L.set k x ≠ L := fun e => hx (by
  have h := gb_set L k k x hk
  rw [e, if_pos rfl] at h; exact h.symm)
theorem xor_ne (c b : UInt8) (h : b ≠ 0) : c ^^^ b ≠ c := fun e => h (by
  have : c ^^^ (c ^^^ b) = c ^^^ c := by rw [e]
  rwa [← UInt8.xor_assoc, UInt8.xor_self, UInt8.zero_xor] at this)
theorem conv_own (s : ByteArray) (n : Nat) (hn : s.size = n) (w : World) : ∃ cap w2, Hid ((convert 9 37 (.string s)).run Tryd.prog w = .ok (.slice (some ⟨w.heap.size, 0, none⟩) n cap) w2) ∧ Hid (∀ j, j < n → w2.cell? ⟨w.heap.size, j, none⟩ = some (bv (gb s.data.toList j))) ∧ Hid (∀ j, j < n → w2.frozen? ⟨w.heap.size, j, none⟩ = false) ∧ Hid (Below w.heap.size w w2) ∧ Hid (w.heap.size < w2.heap.size) := by
  subst hn
  refine ⟨_, _, hid (run_bytes_of_string w 9 37 5 s Tryd.underlying9 Tryd.underlying37 Tryd.underlying5), hid ?_, hid ?_, hid ((Below.refl w.heap.size w).drew.alloc (Nat.le_refl _) _), hid ?_⟩
  · intro j hj
    have hj2 : j < s.data.size := hj
    have hj3 : j < s.data.toList.length := by simpa using hj2
    refine (World.cell?_alloc_mark w.drew _ 5 _ j).trans ?_
    rw [bytesRow_at s _ j hj2, gb_lt hj3]; rfl
  · intro j hj
    refine (World.frozen?_alloc_mark w.drew _ 5 _ _ j).trans ?_
    have h : j < (bytesRow s (grownCap w s.size 0 5)).size := by
      have : j < s.data.size := hj
      simp [bytesRow]; omega
    simp only [Bool.and_eq_false_iff, decide_eq_false_iff_not]
    exact .inl (by omega)
  · show w.heap.size < (w.drew.alloc _).heap.size
    rw [al_size]; exact Nat.lt_succ_self _
theorem rd_set {w : World} {g n : Nat} {L : List UInt8} (hl : L.length = n) (hg : g < w.heap.size) (h : ∀ j, j < n → w.cell? ⟨g, j, none⟩ = some (bv (gb L j))) (k : Nat) (hk : k < n) (x : UInt8) :
    Rd (w.setCell ⟨g, k, none⟩ (bv x)) (some ⟨g, 0, none⟩) (L.set k x) := by
  intro hp
  refine ⟨g, 0, rfl, by simpa [World.setCell] using hg, fun j hj => ?_⟩
  have hj2 : j < n := by simp at hj; omega
  rw [Nat.zero_add]
  by_cases hjk : j = k
  · subst hjk
    rw [World.cell?_setCell_same _ _ _ (h j hj2)]
    simp [iv]
  · rw [World.cell?_setCell_other w _ _ _ (fun e => hjk (congrArg Addr.off e).symm), h j hj2]
    rw [List.getElem_set_ne (by omega), gb_lt (by omega)]; rfl
set_option maxRecDepth 100000 in
set_option maxHeartbeats 4000000 in
theorem tparse_law (s : ByteArray) (x y : Nat) (w : World) (hx : x < 256) (hy : y < 256) (hd : Dg w) :
    Calls Tryd.prog 5 #[.string s, .int .u8 (x : Int), .int .u8 (y : Int)] w fun e w' => e = .returned (.bool true) ∧ Below w.heap.size w w' := by
  have HD := hid hd
  have HX := hid hx
  have HY := hid hy
  have HLz16 := hid z16_length
  clear hd hx hy
  by_cases hs : ∃ t, IsT s.data.toList t
  · obtain ⟨t, ht⟩ := hs
    have HT := hid ht
    have HLt := hid ht.1
    have HSZ := hid (show s.size = 39 by have := isT_len ht; rwa [Array.length_toList] at this)
    clear ht
    go_enter Tryd.func5, Tryd.ntmps5
    go_wp2_with fail
    refine (parse_str s t HT.out w (HD.out.on (Below.refl _ _))).mono ?_
    rintro e w1 ⟨rfl, hb⟩
    have HB := hid hb
    clear hb
    have hb := below_new w1 (.cells (bvs t).toArray 26)
    have FT := hid (bt_new w1 26 t)
    have HB := hid (HB.out.trans (hb.mono HB.out.size))
    have hi := (hi16 t HLt.out).out
    have ho := (ho16 t HLt.out).out
    clear hb
    go_upto_region 2 with (refine wpList_store_row rfl 26 (.tmp 7) (.tmp 15) rfl w1.heap.size (bvs t).toArray rfl rfl 26 _ (heap_alloc_new _ _) hi ho (bvs_all t) ?_; rw [World.setRow_alloc_new])
    clear hi ho
    generalize w1.alloc (.cells (bvs t).toArray 26) = w2 at *
    generalize w1.heap.size = g_FT at *
    have hlt := ld_tag FT.out HLt.out
    go_upto_region 4 with fail
    go_wp2_with ((with_reducible refine isD 29 rfl ?_); refine wp_ld (by kernel_rfl) 26 (.tmp 7) rfl _ rfl _ hlt ?_)
    clear hlt
    refine (text_ok t w2 HLt.out (HD.out.on HB.out)).mono ?_
    rintro e wa ⟨rfl, hb⟩
    have FT := hid (FT.out.on hb)
    have HB := hid (HB.out.trans (hb.mono HB.out.size))
    clear hb
    have hcmp : s.toList = txt t := by rw [ByteArray.toList_eq, HT.out.2]
    have hi : (s.size : Int) = 39 := by have := HSZ.out; omega
    obtain ⟨cap, wc, RC, HCC, HCF, HBC, HGC⟩ := conv_own s 39 HSZ.out wa
    have hcv := RC.out
    go_upto_region 7 with fail
    clear hcmp hi hcv RC
    have HGT := hid (show g_FT ≠ wa.heap.size from Nat.ne_of_lt FT.out.lt)
    have FT := hid (FT.out.on HBC.out)
    have HGW := hid (show w.heap.size ≤ wa.heap.size from HB.out.size)
    have HB := hid (HB.out.trans (HBC.out.mono HB.out.size))
    clear HBC
    generalize wa.heap.size = g at *
    obtain ⟨k, hk⟩ : ∃ k, k = x % 39 := ⟨_, rfl⟩
    have HK := hid (show k < 39 by omega)
    have k1 : (x : Int) % 39 = (k : Int) := by omega
    have k2 : Int.tmod (x : Int) 39 = (k : Int) := by rw [Int.tmod_eq_emod_of_nonneg (by omega)]; exact k1
    have k3 : IntKind.i64.wrap (k : Int) = (k : Int) := by rw [IntKind.wrap_i64]; omega
    have k4 : IntKind.i64.wrap (x : Int) = (x : Int) := by have := HX.out; rw [IntKind.wrap_i64]; omega
    have k5 : (k : Int) < 39 := by omega
    have hcl := HCC.out k HK.out
    have hfz := HCF.out k HK.out
    obtain ⟨D, hD⟩ : ∃ D, D = gb s.data.toList k ^^^ UInt8.ofNat y := ⟨_, rfl⟩
    have hxor : bits .xor .u8 (iv (gb s.data.toList k)) (y : Int) = iv D := by
      have h := xor_u8 (gb s.data.toList k) (UInt8.ofNat y)
      rw [UInt8.toNat_ofNat_of_lt' (show y < UInt8.size from HY.out)] at h
      rw [hD]; exact h
    have HDE := hid hD
    clear hk hD
    go_upto_region 8 with fail
    clear k1 k2 k3 k4 k5 hcl hfz hxor
    have HLL := hid (show s.data.toList.length = 39 by rw [Array.length_toList]; exact HSZ.out)
    have HR := hid (rd_set HLL.out HGC.out HCC.out k HK.out D)
    have FT := hid (Bt.other (i := k) FT.out (bv D) HGT.out)
    have HB := hid (HB.out.grown (grown_cell (i := k) (grown_of (Below.refl wc.heap.size wc) (some g)) (bv D)) HB.out.size (fun j (e : some g = some j) => by injection e with e; have := HGW.out; omega))
    generalize wc.setCell ⟨g, k, none⟩ (.int .u8 (iv D)) = w3 at *
    have hso := str_own w3 (some ⟨g, 0, none⟩) 39 cap (s.data.toList.set k D) HR.out (by rw [List.length_set]; exact HLL.out)
    have HTX := hid (show txt t = s.data.toList from HT.out.2)
    by_cases hy0 : y = 0
    · have hyz : (y : Int) = 0 := by omega
      have HL2 := hid (show s.data.toList.set k D = s.data.toList by rw [HDE.out, hy0, show UInt8.ofNat 0 = 0 from rfl, UInt8.xor_zero]; exact set_same _ _)
      obtain ⟨u, hu, hut⟩ : ∃ u, IsT (s.data.toList.set k D) u ∧ u = t := ⟨t, by rw [HL2.out]; exact HT.out, rfl⟩
      have HU := hid hu
      have HLu := hid hu.1
      have HUT := hid (decide_eq_true hut)
      clear hu hut hy0
      go_wp2_with fail
      clear hso
      refine (parse_is (s.data.toList.set k D) u HU.out w3 (HD.out.on HB.out)).mono ?_
      rintro e w4 ⟨rfl, hb⟩
      have FT := hid (FT.out.on hb)
      have HB := hid (HB.out.trans (hb.mono HB.out.size))
      clear hb
      have hb := below_new w4 (.cells (bvs u).toArray 26)
      have FX := hid (bt_new w4 26 u)
      have FT := hid (FT.out.on hb)
      have HB := hid (HB.out.trans (hb.mono HB.out.size))
      have hi := (hi16 u HLu.out).out
      have ho := (ho16 u HLu.out).out
      clear hb
      go_upto_region 9 with (refine wpList_store_row rfl 26 (.tmp 10) (.tmp 55) rfl w4.heap.size (bvs u).toArray rfl rfl 26 _ (heap_alloc_new _ _) hi ho (bvs_all u) ?_; rw [World.setRow_alloc_new])
      clear hi ho
      generalize w4.alloc (.cells (bvs u).toArray 26) = w5 at *
      generalize w4.heap.size = g_FX at *
      have hlx := ld_tag FX.out HLu.out
      have hlt := ld_tag FT.out HLt.out
      have heq := eq_tag u t HLu.out HLt.out w5
      rw [HUT.out] at heq

      go_wp2_with (first | ((with_reducible refine isD 60 rfl ?_); refine wp_ld (by kernel_rfl) 26 (.tmp 10) rfl _ rfl _ hlx ?_) | ((with_reducible refine isD 61 rfl ?_); refine wp_ld (by kernel_rfl) 26 (.tmp 7) rfl _ rfl _ hlt ?_))
      refine (lives_any w5 (HD.out.on HB.out)).mono ?_
      rintro e wz ⟨rfl, hb⟩
      clear hlx hlt heq
      have HB := hid (HB.out.trans (hb.mono HB.out.size))
      clear hb
      go_wp2
      go_ret
      exact ⟨rfl, HB.out⟩
    · have HYN := hid (show ¬ (y : Int) = 0 by omega)
      have HL2 := hid (show s.data.toList.set k D ≠ s.data.toList from set_ne _ _ _ (by rw [HLL.out]; exact HK.out) (by rw [HDE.out]; exact xor_ne _ _ (fun e => hy0 (by have h := congrArg UInt8.toNat e; rw [UInt8.toNat_ofNat_of_lt' (show y < UInt8.size from HY.out)] at h; exact h))))
      clear hy0
      by_cases hu : ∃ u, IsT (s.data.toList.set k D) u
      · obtain ⟨u, hu⟩ := hu
        have HU := hid hu
        have HLu := hid hu.1
        have HUT := hid (show decide (u = t) = false from decide_eq_false (fun e => HL2.out (by rw [← hu.2, e]; exact HTX.out)))
        clear hu
        go_wp2_with fail
        clear hso
        refine (parse_is (s.data.toList.set k D) u HU.out w3 (HD.out.on HB.out)).mono ?_
        rintro e w4 ⟨rfl, hb⟩
        have FT := hid (FT.out.on hb)
        have HB := hid (HB.out.trans (hb.mono HB.out.size))
        clear hb
        have hb := below_new w4 (.cells (bvs u).toArray 26)
        have FX := hid (bt_new w4 26 u)
        have FT := hid (FT.out.on hb)
        have HB := hid (HB.out.trans (hb.mono HB.out.size))
        have hi := (hi16 u HLu.out).out
        have ho := (ho16 u HLu.out).out
        clear hb
        go_upto_region 9 with (refine wpList_store_row rfl 26 (.tmp 10) (.tmp 55) rfl w4.heap.size (bvs u).toArray rfl rfl 26 _ (heap_alloc_new _ _) hi ho (bvs_all u) ?_; rw [World.setRow_alloc_new])
        clear hi ho
        generalize w4.alloc (.cells (bvs u).toArray 26) = w5 at *
        generalize w4.heap.size = g_FX at *
        have hlx := ld_tag FX.out HLu.out
        have hlt := ld_tag FT.out HLt.out
        have heq := eq_tag u t HLu.out HLt.out w5
        rw [HUT.out] at heq
        have hyn := HYN.out
        have hyb : ((y : Int) == 0) = false := by simpa using hyn
        go_wp2_with (first | ((with_reducible refine isD 60 rfl ?_); refine wp_ld (by kernel_rfl) 26 (.tmp 10) rfl _ rfl _ hlx ?_) | ((with_reducible refine isD 61 rfl ?_); refine wp_ld (by kernel_rfl) 26 (.tmp 7) rfl _ rfl _ hlt ?_))
        refine (lives_any w5 (HD.out.on HB.out)).mono ?_
        rintro e wz ⟨rfl, hb⟩
        clear hlx hlt heq
        have HB := hid (HB.out.trans (hb.mono HB.out.size))
        clear hb
        go_wp2
        go_ret
        exact ⟨rfl, HB.out⟩
      · have HU := hid (show ∀ u, ¬ IsT (s.data.toList.set k D) u from fun u h => hu ⟨u, h⟩)
        clear hu
        go_wp2_with fail
        clear hso
        refine (parse_no (s.data.toList.set k D) HU.out w3 (HD.out.on HB.out)).mono ?_
        rintro e w4 ⟨rfl, hb⟩
        have FT := hid (FT.out.on hb)
        have HB := hid (HB.out.trans (hb.mono HB.out.size))
        clear hb
        have hb := below_new w4 (.cells (bvs z16).toArray 26)
        have FX := hid (bt_new w4 26 z16)
        have FT := hid (FT.out.on hb)
        have HB := hid (HB.out.trans (hb.mono HB.out.size))
        have hi := (hi16 z16 HLz16.out).out
        have ho := (ho16 z16 HLz16.out).out
        clear hb
        go_upto_region 9 with (refine wpList_store_row rfl 26 (.tmp 10) (.tmp 55) rfl w4.heap.size (bvs z16).toArray rfl rfl 26 _ (heap_alloc_new _ _) hi ho (bvs_all z16) ?_; rw [World.setRow_alloc_new])
        clear hi ho
        generalize w4.alloc (.cells (bvs z16).toArray 26) = w5 at *
        generalize w4.heap.size = g_FX at *
        have hyn := HYN.out
        have hyb : ((y : Int) == 0) = false := by simpa using hyn
        have hyq : ((y : Int) != 0) = true := by simpa using hyn
        go_wp2_with fail
        refine (lives_any w5 (HD.out.on HB.out)).mono ?_
        rintro e wz ⟨rfl, hb⟩
        have HB := hid (HB.out.trans (hb.mono HB.out.size))
        clear hb
        go_wp2
        go_ret
        exact ⟨rfl, HB.out⟩
  · have HN := hid (show ∀ t, ¬ IsT s.data.toList t from fun t ht => hs ⟨t, ht⟩)
    clear hs
    go_enter Tryd.func5, Tryd.ntmps5
    go_wp2_with fail
    refine (parse_miss s HN.out w (HD.out.on (Below.refl _ _))).mono ?_
    rintro e w1 ⟨rfl, hb⟩
    have HB := hid hb
    clear hb
    have hb := below_new w1 (.cells (bvs z16).toArray 26)
    have FT := hid (bt_new w1 26 z16)
    have HB := hid (HB.out.trans (hb.mono HB.out.size))
    have hi := (hi16 z16 HLz16.out).out
    have ho := (ho16 z16 HLz16.out).out
    clear hb
    go_upto_region 2 with (refine wpList_store_row rfl 26 (.tmp 7) (.tmp 15) rfl w1.heap.size (bvs z16).toArray rfl rfl 26 _ (heap_alloc_new _ _) hi ho (bvs_all z16) ?_; rw [World.setRow_alloc_new])
    clear hi ho
    generalize w1.alloc (.cells (bvs z16).toArray 26) = w2 at *
    generalize w1.heap.size = g_FT at *
    have hlt := ld_tag FT.out HLz16.out
    have heq : (Op.equalIn 10000 26 (.agg (bvs z16).toArray) (.agg #[.int .u8 0, .int .u8 0, .int .u8 0, .int .u8 0, .int .u8 0, .int .u8 0, .int .u8 0, .int .u8 0, .int .u8 0, .int .u8 0, .int .u8 0, .int .u8 0, .int .u8 0, .int .u8 0, .int .u8 0, .int .u8 0])).run Tryd.prog w2 = .ok true w2 := by
      have h := eq_tag z16 z16 HLz16.out HLz16.out w2
      rw [decide_eq_true rfl] at h
      exact h
    go_wp2_with ((with_reducible refine isD 22 rfl ?_); refine wp_ld (by kernel_rfl) 26 (.tmp 7) rfl _ rfl _ hlt ?_)
    clear hlt heq
    refine (lives_any w2 (HD.out.on HB.out)).mono ?_
    rintro e wz ⟨rfl, hb⟩
    have HB := hid (HB.out.trans (hb.mono HB.out.size))
    clear hb
    go_wp2
    go_ret
    exact ⟨rfl, HB.out⟩

end Go.Proofs.YtgmnpkgnedngjaaDoor
