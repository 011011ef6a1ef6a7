/-
  burrowlaw08.MacsKey, walked: it answers true. Condition: the library's table holds what its text lays.
  burrowref08.Of, walked: the document's sum by a key, parts of whatever room. Conditions: a thousand parts at most, each of 2^20 bytes at most.
-/
import Derived.Test.YtcijnoapjicliaaDoorPkL
import Derived.Test.YtcijnoapjicliaaDoorPkC
import Derived.Test.YtcijnoapjicliaaDoorAppend
import Derived.Lib.AppendZerosOnto
import Derived.Test.YtcijnoapjicliaaDoorPkS
import Derived.Test.YtcijnoapjicliaaDoorPkK
namespace Go.Proofs.YtcijnoapjicliaaDoor
open Go.RowKit
set_option linter.unusedVariables false
set_option linter.unusedSimpArgs false

theorem zeros_u8 (n : Nat) : Builtin.zeroCells (Value.int .u8 0).cells n = (bvs (List.replicate n 0)).toArray := by
  have e : (Value.int .u8 0).cells = #[Value.int .u8 0] := rfl
  rw [e]
  apply Array.ext'
  unfold Builtin.zeroCells
  apply List.ext_getElem?
  intro j
  by_cases h : j < n
  · simp [bvs, h, Nat.mod_one]
  · simp [bvs, h]
set_option maxRecDepth 100000 in
theorem append_zeros (w : World) (base : Nat) (v : Value) (bs : List UInt8) (n : Nat) (hown : Ow w base v bs) (hsz : bs.length + n ≤ 140737488355328) (hbase : base ≤ w.heap.size) :
    ∃ v' w', (Builtin.append_ #[47, 3] 47 #[v, .int .i64 (n : Int)]).run Tryd.prog w = .ok v' w' ∧ Ow w' base v' (bs ++ List.replicate n 0) ∧ w.grownBy w' v.ownBlock := by
  obtain ⟨i0, hi, hz0, hz1, hz2⟩ := info_parts u8_info
  have hw : IntKind.i64.wrap (n : Int) = n := by rw [IntKind.wrap_i64]; omega
  have hneg : ¬ ((n : Int) < 0) := by omega
  have h48i : ¬ (281474976710656 < (n : Int)) := by omega
  have hlen : (bvs (bs ++ List.replicate n 0)).length = ((bs ++ List.replicate n 0).length) * 1 := by rw [bvs_length, Nat.mul_one]
  have hlr : (bs ++ List.replicate n (0 : UInt8)).length = bs.length + n := by simp
  have grown : ∀ (old : Nat), ∀ (row : Option Nat),
      Ow (w.drew.alloc (.cells ((bvs bs).toArray ++ (bvs (List.replicate n 0)).toArray ++ (bvs (List.replicate (grownCap w (bs.length + n) old 5 - (bs.length + n)) 0)).toArray) 5)) base (.slice (some ⟨w.heap.size, 0, none⟩) (bs.length + n) (grownCap w (bs.length + n) old 5)) (bs ++ List.replicate n 0) ∧
      w.grownBy (w.drew.alloc (.cells ((bvs bs).toArray ++ (bvs (List.replicate n 0)).toArray ++ (bvs (List.replicate (grownCap w (bs.length + n) old 5 - (bs.length + n)) 0)).toArray) 5)) row := by
    intro old row
    have hge := grownCap_ge w (bs.length + n) old 5
    have hcm : grownCap w (bs.length + n) old 5 ≤ maxLen := grownCap_le_maxLen w (bs.length + n) old 5 (by simp only [maxLen]; omega)
    refine ⟨?_, ⟨rfl, rfl, rfl, by simp, fun k hk _ => Below.heap_alloc w.drew _ k hk⟩⟩
    unfold Ow
    rw [hlr] at hlen ⊢
    refine ⟨hlen, .inr ⟨w.heap.size, _, _, rfl, hbase, heap_alloc_new w.drew _, hge, hcm, ?_, ?_⟩⟩
    · simp only [Array.size_append, List.size_toArray, bvs_length, List.length_replicate]; omega
    · simp only [Array.toList_append]
      rw [← bvs_append, ← hlen, List.take_left]
  rcases hown.2 with ⟨rfl, h0⟩ | ⟨g, cap, cur, rfl, hbg, hg, hnc, hcm, hcs, htake⟩
  · have hb : bs = [] := List.eq_nil_of_length_eq_zero h0
    subst hb
    by_cases hn : n = 0
    · subst hn
      refine ⟨.slice none 0 0, w, ?_, World.ownsRow_nil w base 5 1, World.grownBy.refl w _⟩
      simp [Builtin.append_, run_underlying Tryd.underlying47, run_underlying Tryd.underlying3, sizeOf, typeInfo, hi, asInt, asIntOf, hz1, hz2, IntKind.wrap_i64]
    · have hr := Lib.run_append_nil_zeros (P := Tryd.prog) w 47 3 47 5 i0 (.int .u8 0) .i64 .i64 Tryd.underlying47 Tryd.underlying3 hi hz0 n (by omega) (by omega) (by omega) (by rw [hz2]; simp at hsz; omega)
      have hgr := grown 0 (Value.ownBlock (.slice none 0 0))
      rw [zeros_u8, zeros_u8] at hr
      simp only [List.length_nil, Nat.zero_add, List.nil_append] at hgr
      rw [show (bvs []).toArray = (#[] : Array Value) from rfl, Array.empty_append] at hgr
      exact ⟨_, _, hr, hgr.1, hgr.2⟩
  · by_cases hroom : bs.length + n ≤ cap
    · have hfit : bs.length + (bvs (List.replicate n 0)).length ≤ cur.size := by rw [bvs_length, List.length_replicate, hcs]; omega
      have hst := run_storeCells_at Tryd.prog g bs.length 5 (bvs (List.replicate n 0)) 0 cur w hg (by simpa using hfit) (bvs_one _)
      simp only [Nat.add_zero] at hst
      refine ⟨.slice (some ⟨g, 0, none⟩) (bs.length + n) cap, w.setRow g (cur.toList.take bs.length ++ bvs (List.replicate n 0) ++ cur.toList.drop (bs.length + (bvs (List.replicate n 0)).length)).toArray, ?_, ?_, ⟨rfl, rfl, rfl, by simp [World.setRow], fun k _ hk => setRow_other w g k _ (fun e => hk (by simp [Value.ownBlock, e]))⟩⟩
      · by_cases hn : n = 0
        · subst hn
          have e0 : (bvs (List.replicate 0 0)) = ([] : List Value) := rfl
          rw [e0] at hst ⊢
          simp only [storeCells] at hst
          have e1 : w.setRow g (cur.toList.take bs.length ++ [] ++ cur.toList.drop (bs.length + ([] : List Value).length)).toArray = w := by
            injection hst with _ h; exact h.symm
          rw [e1]
          simp [Builtin.append_, run_underlying Tryd.underlying47, run_underlying Tryd.underlying3, sizeOf, typeInfo, hi, asInt, asIntOf, hz1, hz2, IntKind.wrap_i64, hnc, storeCells]
        · simp [Builtin.append_, run_underlying Tryd.underlying47, run_underlying Tryd.underlying3, sizeOf, typeInfo, zeroValue, hi, hz0, asInt, asIntOf, hw, hneg, hz1, hz2, h48i, hn, hroom, zeros_u8, Addr.add_lit, hst]
      · unfold Ow
        rw [hlr] at hlen ⊢
        refine ⟨hlen, .inr ⟨g, cap, _, rfl, hbg, setRow_heap w g cur _ 5 _ hg, hroom, hcm, ?_, ?_⟩⟩
        · simp only [List.size_toArray, List.length_append, List.length_take, List.length_drop, Array.length_toList, bvs_length, List.length_replicate]; omega
        · rw [Nat.mul_one] at htake
          rw [htake, bvs_append, Nat.mul_one]
          have : (bvs bs ++ bvs (List.replicate n 0)).length = bs.length + n := by simp [bvs_length]
          rw [← this, List.take_left]
    · have holds : ∀ j u, (bvs bs)[j]? = some u → w.cell? ((⟨g, 0, none⟩ : Addr).add j) = some u := World.ownsRow.cells (g := g) hown rfl
      have hold : (Builtin.firstCells i0.size bs.length (.slice (some ⟨g, 0, none⟩) bs.length cap)).run Tryd.prog w.drew = .ok (bvs bs).toArray w.drew := run_firstCells_some (P := Tryd.prog) w.drew i0.size bs.length ⟨g, 0, none⟩ bs.length cap (bvs bs) (by rw [bvs_length, hz1, Nat.mul_one]) holds
      have hr := Lib.run_append_grow_zeros (P := Tryd.prog) w 47 3 47 5 i0 (.int .u8 0) .i64 .i64 Tryd.underlying47 Tryd.underlying3 hi hz0 (some ⟨g, 0, none⟩) bs.length cap (bvs bs) hold n (by omega) (by omega) (by omega) (by omega) (by rw [hz2]; omega) (by rw [hz2]; exact growslice_fits (by omega) (by omega))
      have hgr := grown cap (Value.ownBlock (.slice (some ⟨g, 0, none⟩) bs.length cap))
      rw [zeros_u8, zeros_u8] at hr
      exact ⟨_, _, hr, hgr.1, hgr.2⟩
theorem hm_sum (key msg : List UInt8) (h : 64 < key.length) : hm (sha key) msg = hm key msg := by unfold hm; rw [kof_sum key h]
theorem hm_pad (key msg : List UInt8) (n : Nat) (h : key.length + n ≤ 64) : hm (key ++ List.replicate n 0) msg = hm key msg := by unfold hm; rw [kof_pad key n h]
theorem cat_one (b : List UInt8) : cat (fun _ => b) 1 = b := by simp [cat]
end Go.Proofs.YtcijnoapjicliaaDoor
namespace Go.Proofs.YtcijnoapjicliaaDoor
open Go.RowKit
set_option linter.unusedVariables false
set_option linter.unusedSimpArgs false

/-- two slices of one's own, made since; all older things stand -/
structure Io (w0 : World) (X Y : List UInt8) (vx vy : Value) (w' : World) : Prop where
  below : Below w0.heap.size w0 w'
  ox : Ow w' w0.heap.size vx X
  oy : Ow w' w0.heap.size vy Y
  xy : ∀ k, vx.ownBlock = some k → vy.ownBlock ≠ some k
section
variable {w0 w' w2 : World} {X Y : List UInt8} {vx vy : Value}
theorem Io.new (w : World) : Io w [] [] (.slice none 0 0) (.slice none 0 0) w := ⟨Below.refl _ _, Ow.nil _ _, Ow.nil _ _, fun k h => by cases h⟩
theorem Io.symm (h : Io w0 X Y vx vy w') : Io w0 Y X vy vx w' := ⟨h.below, h.oy, h.ox, fun k h1 h2 => h.xy k h2 h1⟩
theorem ow_on {base : Nat} {v : Value} {x : List UInt8} (h : Ow w' base v x) (hb : Below w'.heap.size w' w2) : Ow w2 base v x :=
  World.ownsRow.kept h (grown_of hb none) (by cases hv : v.ownBlock with | none => exact .inl rfl | some k => exact .inr (by simp))
theorem Io.on (h : Io w0 X Y vx vy w') (hb : Below w'.heap.size w' w2) : Io w0 X Y vx vy w2 := ⟨h.below.trans (hb.mono h.below.size), ow_on h.ox hb, ow_on h.oy hb, h.xy⟩
theorem Io.put (h : Io w0 X Y vx vy w') {p : List UInt8} {A : Option Addr} {m c : Nat} (hrd : Rd w' A p) (hl : p.length = m) (hA : A = none → c = 0) (hs : X.length + m ≤ 140737488355328) :
    ∃ A2 n2 c2 w3, Hid ((Builtin.append_ #[47, 47] 47 #[vx, .slice A m c]).run Tryd.prog w' = .ok (.slice A2 n2 c2) w3) ∧ Hid (Io w0 (X ++ p) Y (.slice A2 n2 c2) vy w3) ∧ Hid (n2 = X.length + m) := by
  obtain ⟨v2, w3, hrun, hown, hg3, hob⟩ := append_bytes w' w0.heap.size vx X p A m c h.ox hrd hl hA hs h.below.size
  obtain ⟨A2, c2, rfl, _, _, _, _⟩ := hown.form
  have hfar : ∀ k, vx.ownBlock = some k → w0.heap.size ≤ k ∧ k < w'.heap.size := World.ownsRow.lt h.ox
  have keep : ∀ g, g < w0.heap.size → w3.heap[g]? = w'.heap[g]? := fun g hg => hg3.block g (by have := h.below.size; omega) (by intro e; have := (hfar g e.symm).1; omega)
  refine ⟨A2, _, c2, w3, hid hrun, hid ⟨h.below.trans ⟨hg3.os, hg3.tape, hg3.output, hg3.size, keep⟩, hown, ?_, ?_⟩, hid (by rw [List.length_append, hl])⟩
  · refine World.ownsRow.kept h.oy hg3 ?_
    cases hv : vy.ownBlock with
    | none => exact .inl rfl
    | some k => exact .inr (fun e => h.xy k e.symm hv)
  · intro k hk hy
    rcases hob with e | e
    · rw [e] at hk; exact h.xy k hk hy
    · rw [e] at hk; injection hk with hk
      have := (World.ownsRow.lt h.oy k hy).2
      omega
end
theorem io_pad {w0 w' : World} {K Y : List UInt8} {l n2 : Nat} {v vy : Value} (h : Io w0 ((K ++ List.replicate (l - K.length) 0) ++ [0]) Y v vy w') (hn : n2 = l + 1) (hl : K.length ≤ l) : Io w0 (K ++ List.replicate (n2 - K.length) 0) Y v vy w' := by
  have e : n2 - K.length = (l - K.length) + 1 := by omega
  rw [e, List.replicate_succ', ← List.append_assoc]; exact h
theorem io_start {w0 w' : World} {K Y : List UInt8} {l : Nat} {v vy : Value} (h : Io w0 K Y v vy w') (hl : l = K.length) : Io w0 (K ++ List.replicate (l - K.length) 0) Y v vy w' := by
  subst hl; rw [Nat.sub_self, List.replicate_zero, List.append_nil]; exact h
theorem xr_take (k : List UInt8) (x : UInt8) (j : Nat) (h : j < k.length) : xr (k.take (j + 1)) x = xr (k.take j) x ++ [k[j] ^^^ x] := by
  rw [List.take_succ_eq_append_getElem h]; simp only [xr, List.map_append, List.map_cons, List.map_nil]
/-- a slice of slices of bytes whose rooms may be as great as they can -/
def Rwb (w : World) (a0 : Option Addr) (n : Nat) (A : Nat → Option Addr) (L C : Nat → Nat) (xs : Nat → List UInt8) : Prop :=
  ∀ r, r < n → (∃ g o, a0 = some ⟨g, o, none⟩ ∧ g < w.heap.size ∧ w.cell? ⟨g, o + r, none⟩ = some (.slice (A r) (L r) (C r))) ∧ (xs r).length = L r ∧ Rd w (A r) (xs r) ∧ L r ≤ C r ∧ C r ≤ 9223372036854775807 ∧ (A r = none → C r = 0)
/-- the sum by K -/
def hmk (k msg : List UInt8) : List UInt8 := sha (xr k 92 ++ sha (xr k 54 ++ msg))
set_option maxRecDepth 100000 in
set_option maxHeartbeats 8000000 in
theorem rof_any (A0 : Option Addr) (c : Nat) (key : List UInt8) (n : Nat) (a0 : Option Addr) (n0 c0 : Nat) (A : Nat → Option Addr) (L C : Nat → Nat) (xs : Nat → List UInt8) (w : World) (hn : key.length = n) (hr : Rd w A0 key) (hc : n ≤ c) (hA : A0 = none → c = 0) (hlen : n ≤ 70368744177664)
    (hR : Rwb w a0 n0 A L C xs) (hn0 : n0 ≤ 1000) (hL : ∀ r, r < n0 → L r ≤ 1048576) :
    Calls Tryd.prog 27 #[.slice A0 n c, .slice a0 n0 c0] w fun e w' => e = .returned (.agg (bvs (hmk (kof key) (cat xs n0))).toArray) ∧ Below w.heap.size w w' := by
  have HN := hid hn
  have HLEN := hid hlen
  have HR2 := hid hR
  have HN0 := hid hn0
  have HL := hid hL
  obtain ⟨HB1, HZ1, HS1⟩ := box1 w 23 (List.replicate 32 0)
  obtain ⟨A2, n2, c2, w2, hrun, HI2, hn2⟩ := (Io.new (w.alloc (.cells (bvs (List.replicate 32 0)).toArray 23))).put (p := key) (A := A0) (m := n) (c := c) (hr.below HB1.out (Nat.le_refl _)) hn hA (by simp; omega)
  have HN2 := hid (show n2 = n by rw [hn2.out]; simp)
  rw [HN2.out] at hrun HI2
  have HI2 := hid (p := Io (w.alloc (.cells (bvs (List.replicate 32 0)).toArray 23)) key [] (.slice A2 n c2) (.slice none 0 0) w2) (by have := HI2.out; rwa [List.nil_append] at this)
  clear hn hr hc hA hlen hR hn0 hL hn2 HN2 n2
  by_cases hb : 64 < n
  · have HBG := hid hb
    have hbi : (64 : Int) < (n : Int) := by omega
    go_enter Tryd.func27, Tryd.ntmps27
    go_upto_region 1 with fail
    rw [← lit32]
    generalize w.alloc (.cells (bvs (List.replicate 32 0)).toArray 23) = w1 at *
    obtain ⟨A9, c9, e9, hc9, _, hrd9, ha9⟩ := HI2.out.ox.form
    injection e9 with e91 e92 e93
    subst e91
    subst e93
    have HRD9 := hid hrd9
    have HC9 := hid (show n ≤ c2 by rw [e92]; exact hc9)
    have HA9 := hid ha9
    clear e92 hrd9 hc9 ha9 hb
    go_wp2_with (at_builtin; refine step_append rfl (.const (.slice none 0 0)) (.tmp 12) rfl rfl _ _ rfl rfl _ w2 hrun.out ?_)
    refine (refof_any A2 c2 key n w2 HN.out HRD9.out HC9.out HA9.out HLEN.out).mono ?_
    rintro e w3 ⟨rfl, hb3⟩
    have HI3 := hid (HI2.out.on hb3)
    have HSL := hid (sha_length key)
    have HKI := hid (show kin key = sha key by unfold kin; rw [if_pos (by rw [HN.out]; exact HBG.out)])
    have HO2 := ho32 (sha key) HSL.out
    have HX2 := hi44 (sha key) HSL.out
    obtain ⟨hBa, hXa, hsa⟩ := box1 w3 23 (sha key)
    have HBA := hid (HI3.out.below.trans (hBa.out.mono HI3.out.below.size))
    have HXA := hid hXa.out
    clear hBa hXa hsa HI3 hb3 HI2 hrun hbi
    go_upto_region 4 with (refine wpList_store_row rfl 23 (.tmp 6) (.tmp 18) rfl w3.heap.size (bvs (sha key)).toArray rfl rfl 23 _ (heap_alloc_new _ _) HX2.out HO2.out (bvs_all _) ?_; rw [World.setRow_alloc_new])
    generalize w3.alloc (.cells (bvs (sha key)).toArray 23) = wa at *
    generalize w3.heap.size = ga at *
    have hsl := sl32 ga
    obtain ⟨A5, l5, c5, wr0, hrun, HI, hl5⟩ := (Io.mk (vx := .slice none 0 0) (vy := .slice none 0 0) HBA.out (Ow.nil _ _) (Ow.nil _ _) (fun k h => by cases h)).put (p := sha key) (A := some ⟨ga, 0, none⟩) (m := 32) (c := 32) (bt_rd HXA.out) HSL.out (by simp) (by simp)
    have HI := hid (p := Io w1 (kin key) [] (.slice A5 l5 c5) (.slice none 0 0) wr0) (by have := HI.out; rw [HKI.out]; rwa [List.nil_append] at this)
    have HL5 := hid (show l5 = (kin key).length by rw [hl5.out, HKI.out, HSL.out]; rfl)
    clear hl5
    go_upto_region 5 with (at_builtin; refine step_append rfl (.const (.slice none 0 0)) (.tmp 19) rfl rfl _ _ rfl rfl _ wr0 hrun.out ?_)
    clear hrun hsl HXA HBA
    go_wp2_with fail
    go_loopw [5] (fun v wr => ∃ (l c' : Nat) (A' : Option Addr), v = .slice A' l c' ∧ Hid (Io w1 (kin key ++ List.replicate (l - (kin key).length) 0) [] (.slice A' l c') (.slice none 0 0) wr) ∧ Hid ((kin key).length ≤ l ∧ l ≤ 64)) (fun v _ => 64 - lenV v)
    case atStart => exact ⟨l5, c5, A5, rfl, hid (io_start HI.out HL5.out), hid ⟨Nat.le_of_eq HL5.out.symm, by rw [HL5.out]; exact kin_le key⟩⟩
    case round =>
      clear HI
      obtain ⟨l, c', A', rfl, HI, HLB⟩ := hrel
      by_cases hlt : l < 64
      · have HLT := hid hlt
        have hli : (l : Int) < 64 := by omega
        have hb := (Below.refl wr.heap.size wr).alloc (Nat.le_refl _) (.cells #[.int .u8 0] 5)
        obtain ⟨A2, n2, c2, w3, hrun, HI3, hn2⟩ := (HI.out.on hb).put (p := [0]) (A := some ⟨wr.heap.size, 0, none⟩) (m := 1) (c := 1) (rd_new wr [0]) rfl (by simp) (by simp; have := HLB.out; omega)
        have HN2 := hid (show n2 = l + 1 by rw [hn2.out]; simp; have := HLB.out; omega)
        have HI4 := hid (io_pad HI3.out HN2.out HLB.out.1)
        clear HI HI3 hb hn2
        go_wp2_with (at_builtin; refine step_append rfl (.tmp 24) (.tmp 25) rfl rfl _ _ rfl rfl _ w3 hrun.out ?_)
        go_roundw
        case rel => exact ⟨n2, c2, A2, rfl, HI4, hid ⟨by have := HLB.out; have := HN2.out; omega, by have := HLT.out; have := HN2.out; omega⟩⟩
        case measure => have h1 := HN2.out; have h2 := HLT.out; simp [lenV]; omega
      · obtain rfl : l = 64 := by have := HLB.out; omega
        have HKD := hid (p := Rd wr A' (kof key)) (by obtain ⟨A9, c9, e9, _, _, h9, _⟩ := HI.out.ox.form; injection e9 with e9 _ _; subst e9; exact h9)
        have HBW := hid (p := Below w.heap.size w wr) (HB1.out.trans (HI.out.below.mono HB1.out.size))
        have HZW := hid (HZ1.out.on HI.out.below)
        have HKL := hid (kof_length key)
        clear HI HLB hlt
        generalize hkk : kof key = kk at *
        have HKK := hid hkk
        clear hkk
        generalize wr = wk at *
        have HI := hid (Io.new wk)
        go_wp2_with fail
        go_loopw [7, 8, 9] (fun vi vo i wr => ∃ j : Nat, j ≤ 64 ∧ i = .int .i64 j ∧ Hid (Io wk (xr (kk.take j) 54) (xr (kk.take j) 92) vi vo wr)) (fun _ _ i _ => 64 - (intOf i).toNat)
        case atStart => exact ⟨0, Nat.zero_le _, rfl, by simpa [xr] using HI⟩
        case round =>
          clear HI
          obtain ⟨j, hj, rfl, HI⟩ := hrel
          by_cases hlt : j < 64
          · have HLT := hid hlt
            have hji : (j : Int) < 64 := by omega
            have hj0 : (0 : Int) ≤ (j : Int) := by omega
            have HJ := hid (show j < kk.length by rw [HKL.out]; exact hlt)
            obtain ⟨gk, ok, rfl, hgk, hck⟩ := HKD.out (by rw [HKL.out]; decide)
            have HCK := hid (p := ∀ u, Below wk.heap.size wk u → u.cell? ⟨gk, ok + j, none⟩ = some (.int .u8 (((kk[j]'HJ.out).toNat : Nat) : Int))) (fun u hu => (hu.cell (p := ⟨gk, ok + j, none⟩) hgk).trans (hck j HJ.out))
            have hx1 : bits .xor .u8 (((kk[j]'HJ.out).toNat : Nat) : Int) 54 = (((kk[j]'HJ.out ^^^ 54).toNat : Nat) : Int) := xor_u8 (kk[j]'HJ.out) 54
            have hx2 : bits .xor .u8 (((kk[j]'HJ.out).toNat : Nat) : Int) 92 = (((kk[j]'HJ.out ^^^ 92).toNat : Nat) : Int) := xor_u8 (kk[j]'HJ.out) 92
            have hc1 := HCK.out wr HI.out.below
            have hb := (Below.refl wr.heap.size wr).alloc (Nat.le_refl _) (.cells #[.int .u8 (((kk[j]'HJ.out ^^^ 54).toNat : Nat) : Int)] 5)
            obtain ⟨A2, n2, c2, w3, hrun, HI3, hn2⟩ := (HI.out.on hb).put (p := [kk[j]'HJ.out ^^^ 54]) (A := some ⟨wr.heap.size, 0, none⟩) (m := 1) (c := 1) (rd_new wr [kk[j]'HJ.out ^^^ 54]) rfl (by simp) (by simp [xr]; omega)
            have hc3 := HCK.out w3 HI3.out.below
            have hb2 := (Below.refl w3.heap.size w3).alloc (Nat.le_refl _) (.cells #[.int .u8 (((kk[j]'HJ.out ^^^ 92).toNat : Nat) : Int)] 5)
            obtain ⟨A4, n4, c4, w5, hrun5, HI5, hn4⟩ := (HI3.out.symm.on hb2).put (p := [kk[j]'HJ.out ^^^ 92]) (A := some ⟨w3.heap.size, 0, none⟩) (m := 1) (c := 1) (rd_new w3 [kk[j]'HJ.out ^^^ 92]) rfl (by simp) (by simp [xr]; omega)
            have HI6 := hid (p := Io wk (xr (kk.take (j + 1)) 54) (xr (kk.take (j + 1)) 92) (.slice A2 n2 c2) (.slice A4 n4 c4) w5) (by rw [xr_take kk 54 j HJ.out, xr_take kk 92 j HJ.out]; exact HI5.out.symm)
            clear HI HI3 HI5 hb hb2 hn2 hn4 hck HCK hgk
            generalize (((kk[j]'HJ.out ^^^ 54).toNat : Nat) : Int) = y1 at *
            generalize (((kk[j]'HJ.out ^^^ 92).toNat : Nat) : Int) = y2 at *
            generalize (((kk[j]'HJ.out).toNat : Nat) : Int) = y0 at *
            go_wp2_with (first | (at_builtin; refine step_append rfl (.tmp 31) (.tmp 37) rfl rfl _ _ rfl rfl _ w3 hrun.out ?_) | (at_builtin; refine step_append rfl (.tmp 39) (.tmp 45) rfl rfl _ _ rfl rfl _ w5 hrun5.out ?_))
            go_roundw
            case rel => exact ⟨j + 1, HLT.out, by go_num, HI6⟩
            case measure => have := HLT.out; simp [intOf]; omega
          · obtain rfl : j = 64 := by omega
            have HI2 := hid (p := Io wk (xr kk 54 ++ cat xs 0) (xr kk 92) u7 u8 wr) (by have := HI.out; rwa [List.take_of_length_le (by rw [HKL.out]; exact Nat.le_refl _), ← List.append_nil (xr kk 54)] at this)
            generalize wr = wi at *
            generalize u8 = vo at *
            generalize u7 = vi0 at *
            clear HI hlt HKD
            go_wp2_with fail
            go_loopw [7, 10] (fun vi i wr => ∃ j : Nat, j ≤ n0 ∧ i = .int .i64 j ∧ Hid (Io wk (xr kk 54 ++ cat xs j) (xr kk 92) vi vo wr)) (fun _ i _ => n0 - (intOf i).toNat)
            case atStart => exact ⟨0, Nat.zero_le _, rfl, HI2⟩
            case round =>
              clear HI2
              obtain ⟨j, hj, rfl, HI⟩ := hrel
              have HBY := hid (p := Below w.heap.size w wr) (HBW.out.trans (HI.out.below.mono HBW.out.size))
              by_cases hlt : j < n0
              · have HLT := hid hlt
                have hji : (j : Int) < (n0 : Int) := by omega
                have hw1 : IntKind.i64.wrap ((j : Int) + 1) = (j : Int) + 1 := by have := HN0.out; rw [IntKind.wrap_i64]; omega
                obtain ⟨⟨go, o, rfl, hgo, hcell⟩, hl1, hrd1, hlc, hcb, hac⟩ := HR2.out j hlt
                have hcell2 := (HBY.out.cell (p := ⟨go, o + j, none⟩) hgo).trans hcell
                have hcs := cat_length xs j (fun r hr => by rw [(HR2.out r (by omega)).2.1]; exact HL.out r (by omega))
                have hlj := HL.out j hlt
                obtain ⟨A2, n2, c2, w3, hrun, HI3, hn2⟩ := HI.out.put (p := xs j) (A := A j) (m := L j) (c := C j) (hrd1.below HBY.out (Nat.le_refl _)) hl1 hac (by rw [List.length_append, xr_length, HKL.out]; have := HN0.out; omega)
                have HI4 := hid (p := Io wk (xr kk 54 ++ cat xs (j + 1)) (xr kk 92) (.slice A2 n2 c2) vo w3) (by have := HI3.out; simpa [cat] using this)
                clear HI HI3 hn2 hcell hl1 hrd1 hlc hcb hac hgo hcs hlj
                go_wp2_with (at_builtin; refine step_append rfl (.tmp 53) (.tmp 57) rfl rfl _ _ rfl rfl _ w3 hrun.out ?_)
                go_roundw
                case rel => exact ⟨_, _, _, _, _, _, _, _, _, _, _, _, _, _, ⟨j + 1, HLT.out, by go_num, HI4⟩, rfl⟩
                case measure => have := HLT.out; simp [intOf]; omega
              · obtain rfl : j = n0 := by omega
                have hcs := cat_length xs j (fun r hr => by rw [(HR2.out r hr).2.1]; exact HL.out r hr)
                obtain ⟨Ai, ci, e7, hci, _, hrdi, hai⟩ := HI.out.ox.form
                obtain ⟨li, hli⟩ : ∃ li, li = (xr kk 54 ++ cat xs j).length := ⟨_, rfl⟩
                rw [← hli] at e7 hci
                have HLX := hid hli.symm
                subst e7
                have HLI := hid (show li ≤ 70368744177664 by rw [hli, List.length_append, xr_length, HKL.out]; have := HN0.out; omega)
                have HRI := hid hrdi
                have HCI := hid hci
                have HAI := hid hai
                clear hrdi hci hai hcs hli
                go_wp2_with fail
                refine (refof_any Ai ci (xr kk 54 ++ cat xs j) li wr HLX.out HRI.out HCI.out HAI.out HLI.out).mono ?_
                rintro e wz ⟨rfl, hbz⟩
                have HIZ := hid (HI.out.on hbz)
                have HIL := hid (sha_length (xr kk 54 ++ cat xs j))
                clear HI hbz HRI HCI HAI HLI HLX
                have HRE := hid (show hmk kk (cat xs j) = sha (xr kk 92 ++ sha (xr kk 54 ++ cat xs j)) from rfl)
                generalize sha (xr kk 54 ++ cat xs j) = inn at *
                have HO2 := ho32 inn HIL.out
                have HI2 := hi44 inn HIL.out
                obtain ⟨hBa, hXa, hsa⟩ := box1 wz 23 inn
                have HIA := hid (HIZ.out.on hBa.out)
                have HXA := hid hXa.out
                clear hBa hXa hsa HIZ
                go_upto_region 18 with (refine wpList_store_row rfl 23 (.tmp 11) (.tmp 60) rfl wz.heap.size (bvs inn).toArray rfl rfl 23 _ (heap_alloc_new _ _) HI2.out HO2.out (bvs_all _) ?_; rw [World.setRow_alloc_new])
                generalize wz.alloc (.cells (bvs inn).toArray 23) = wa at *
                generalize wz.heap.size = ga at *
                have hsl := sl32 ga
                obtain ⟨A2, n2, c2, w3, hrun, HI3, hn2⟩ := HIA.out.symm.put (p := inn) (A := some ⟨ga, 0, none⟩) (m := 32) (c := 32) (bt_rd HXA.out) HIL.out (by simp) (by rw [xr_length, HKL.out]; decide)
                have HN2 := hid (show n2 = 96 by rw [hn2.out, xr_length, HKL.out])
                obtain ⟨Ao, co, eo, hco, _, hrdo, hao⟩ := HI3.out.ox.form
                injection eo with eo1 eo2 eo3
                subst eo1
                subst eo3
                have HRO := hid hrdo
                have HCO := hid (show n2 ≤ c2 by rw [eo2]; exact hco)
                have HAO := hid hao
                have HLO := hid (show (xr kk 92 ++ inn).length = n2 by rw [eo2])
                clear eo2 hrdo hco hao HIA hn2
                go_wp2_with (at_builtin; refine step_append rfl (.tmp 61) (.tmp 62) rfl rfl _ _ rfl rfl _ w3 hrun.out ?_)
                refine (refof_any A2 c2 (xr kk 92 ++ inn) n2 w3 HLO.out HRO.out HCO.out HAO.out (by have := HN2.out; omega)).mono ?_
                rintro e w9 ⟨rfl, hb9⟩
                have hbb := (HI3.out.below.mono HBW.out.size).trans (hb9.mono (Nat.le_trans HBW.out.size HI3.out.below.size))
                have HB9 := hid (p := Below w.heap.size w w9) (HBW.out.trans hbb)
                have HZ9 := hid (Bt.on (Bt.on HZW.out HI3.out.below) hb9)
                clear hbb hb9
                have HQ := hid (show (hmk kk (cat xs j)).length = 32 by rw [HRE.out]; exact sha_length _)
                have HE := HRE.out
                rw [← HE]
                clear HE HRE
                generalize hre : hmk kk (cat xs j) = r at *
                have HRR := hid hre
                clear hre
                have HI44 := hi44 r HQ.out
                have HO8 := hsz (List.replicate 32 0) r (by rw [HQ.out, List.length_replicate])
                have HZR := hid (HZ9.out.row (m := r))
                have HBR := hid (p := Below w.heap.size w (w9.setRow w.heap.size (bvs r).toArray)) (below_setRow HB9.out (Nat.le_refl _) _)
                have HDA := bvs_all r
                have HZZ := HZ9.out
                unfold Bt at HZZ
                have HZZ := hid HZZ
                go_wp2_with (refine wpList_store_row rfl 23 (.tmp 4) (.tmp 64) rfl w.heap.size (bvs r).toArray rfl rfl 23 _ HZZ.out HI44.out HO8.out HDA ?_)
                exact bodyPost_ret (v := .agg (bvs r).toArray) (results_cell_row (p := 4) (ty := 23) Tryd.results27 _ _ w.heap.size 23 (bvs r).toArray (0, 0) _ rfl HZR.out Tryd.underlying23 rfl HI44.out) rfl ⟨by rw [HKK.out, HRR.out], HBR.out⟩
  · have HBG := hid hb
    have hbi : ¬ (64 : Int) < (n : Int) := by omega
    go_enter Tryd.func27, Tryd.ntmps27
    go_upto_region 1 with fail
    rw [← lit32]
    generalize w.alloc (.cells (bvs (List.replicate 32 0)).toArray 23) = w1 at *
    have HKI := hid (show kin key = key by unfold kin; rw [if_neg (by rw [HN.out]; exact HBG.out)])
    have HI := hid (p := Io w1 (kin key) [] (.slice A2 n c2) (.slice none 0 0) w2) (by rw [HKI.out]; exact HI2.out)
    have HL5 := hid (show n = (kin key).length by rw [HKI.out, HN.out])
    go_upto_region 5 with (at_builtin; refine step_append rfl (.const (.slice none 0 0)) (.tmp 12) rfl rfl _ _ rfl rfl _ w2 hrun.out ?_)
    clear hrun HI2 hbi
    go_wp2_with fail
    go_loopw [5] (fun v wr => ∃ (l c' : Nat) (A' : Option Addr), v = .slice A' l c' ∧ Hid (Io w1 (kin key ++ List.replicate (l - (kin key).length) 0) [] (.slice A' l c') (.slice none 0 0) wr) ∧ Hid ((kin key).length ≤ l ∧ l ≤ 64)) (fun v _ => 64 - lenV v)
    case atStart => exact ⟨n, c2, A2, rfl, hid (io_start HI.out HL5.out), hid ⟨Nat.le_of_eq HL5.out.symm, by rw [HL5.out]; exact kin_le key⟩⟩
    case round =>
      clear HI
      obtain ⟨l, c', A', rfl, HI, HLB⟩ := hrel
      by_cases hlt : l < 64
      · have HLT := hid hlt
        have hli : (l : Int) < 64 := by omega
        have hb := (Below.refl wr.heap.size wr).alloc (Nat.le_refl _) (.cells #[.int .u8 0] 5)
        obtain ⟨A2, n2, c2, w3, hrun, HI3, hn2⟩ := (HI.out.on hb).put (p := [0]) (A := some ⟨wr.heap.size, 0, none⟩) (m := 1) (c := 1) (rd_new wr [0]) rfl (by simp) (by simp; have := HLB.out; omega)
        have HN2 := hid (show n2 = l + 1 by rw [hn2.out]; simp; have := HLB.out; omega)
        have HI4 := hid (io_pad HI3.out HN2.out HLB.out.1)
        clear HI HI3 hb hn2
        go_wp2_with (at_builtin; refine step_append rfl (.tmp 24) (.tmp 25) rfl rfl _ _ rfl rfl _ w3 hrun.out ?_)
        go_roundw
        case rel => exact ⟨n2, c2, A2, rfl, HI4, hid ⟨by have := HLB.out; have := HN2.out; omega, by have := HLT.out; have := HN2.out; omega⟩⟩
        case measure => have h1 := HN2.out; have h2 := HLT.out; simp [lenV]; omega
      · obtain rfl : l = 64 := by have := HLB.out; omega
        have HKD := hid (p := Rd wr A' (kof key)) (by obtain ⟨A9, c9, e9, _, _, h9, _⟩ := HI.out.ox.form; injection e9 with e9 _ _; subst e9; exact h9)
        have HBW := hid (p := Below w.heap.size w wr) (HB1.out.trans (HI.out.below.mono HB1.out.size))
        have HZW := hid (HZ1.out.on HI.out.below)
        have HKL := hid (kof_length key)
        clear HI HLB hlt
        generalize hkk : kof key = kk at *
        have HKK := hid hkk
        clear hkk
        generalize wr = wk at *
        have HI := hid (Io.new wk)
        go_wp2_with fail
        go_loopw [7, 8, 9] (fun vi vo i wr => ∃ j : Nat, j ≤ 64 ∧ i = .int .i64 j ∧ Hid (Io wk (xr (kk.take j) 54) (xr (kk.take j) 92) vi vo wr)) (fun _ _ i _ => 64 - (intOf i).toNat)
        case atStart => exact ⟨0, Nat.zero_le _, rfl, by simpa [xr] using HI⟩
        case round =>
          clear HI
          obtain ⟨j, hj, rfl, HI⟩ := hrel
          by_cases hlt : j < 64
          · have HLT := hid hlt
            have hji : (j : Int) < 64 := by omega
            have hj0 : (0 : Int) ≤ (j : Int) := by omega
            have HJ := hid (show j < kk.length by rw [HKL.out]; exact hlt)
            obtain ⟨gk, ok, rfl, hgk, hck⟩ := HKD.out (by rw [HKL.out]; decide)
            have HCK := hid (p := ∀ u, Below wk.heap.size wk u → u.cell? ⟨gk, ok + j, none⟩ = some (.int .u8 (((kk[j]'HJ.out).toNat : Nat) : Int))) (fun u hu => (hu.cell (p := ⟨gk, ok + j, none⟩) hgk).trans (hck j HJ.out))
            have hx1 : bits .xor .u8 (((kk[j]'HJ.out).toNat : Nat) : Int) 54 = (((kk[j]'HJ.out ^^^ 54).toNat : Nat) : Int) := xor_u8 (kk[j]'HJ.out) 54
            have hx2 : bits .xor .u8 (((kk[j]'HJ.out).toNat : Nat) : Int) 92 = (((kk[j]'HJ.out ^^^ 92).toNat : Nat) : Int) := xor_u8 (kk[j]'HJ.out) 92
            have hc1 := HCK.out wr HI.out.below
            have hb := (Below.refl wr.heap.size wr).alloc (Nat.le_refl _) (.cells #[.int .u8 (((kk[j]'HJ.out ^^^ 54).toNat : Nat) : Int)] 5)
            obtain ⟨A2, n2, c2, w3, hrun, HI3, hn2⟩ := (HI.out.on hb).put (p := [kk[j]'HJ.out ^^^ 54]) (A := some ⟨wr.heap.size, 0, none⟩) (m := 1) (c := 1) (rd_new wr [kk[j]'HJ.out ^^^ 54]) rfl (by simp) (by simp [xr]; omega)
            have hc3 := HCK.out w3 HI3.out.below
            have hb2 := (Below.refl w3.heap.size w3).alloc (Nat.le_refl _) (.cells #[.int .u8 (((kk[j]'HJ.out ^^^ 92).toNat : Nat) : Int)] 5)
            obtain ⟨A4, n4, c4, w5, hrun5, HI5, hn4⟩ := (HI3.out.symm.on hb2).put (p := [kk[j]'HJ.out ^^^ 92]) (A := some ⟨w3.heap.size, 0, none⟩) (m := 1) (c := 1) (rd_new w3 [kk[j]'HJ.out ^^^ 92]) rfl (by simp) (by simp [xr]; omega)
            have HI6 := hid (p := Io wk (xr (kk.take (j + 1)) 54) (xr (kk.take (j + 1)) 92) (.slice A2 n2 c2) (.slice A4 n4 c4) w5) (by rw [xr_take kk 54 j HJ.out, xr_take kk 92 j HJ.out]; exact HI5.out.symm)
            clear HI HI3 HI5 hb hb2 hn2 hn4 hck HCK hgk
            generalize (((kk[j]'HJ.out ^^^ 54).toNat : Nat) : Int) = y1 at *
            generalize (((kk[j]'HJ.out ^^^ 92).toNat : Nat) : Int) = y2 at *
            generalize (((kk[j]'HJ.out).toNat : Nat) : Int) = y0 at *
            go_wp2_with (first | (at_builtin; refine step_append rfl (.tmp 31) (.tmp 37) rfl rfl _ _ rfl rfl _ w3 hrun.out ?_) | (at_builtin; refine step_append rfl (.tmp 39) (.tmp 45) rfl rfl _ _ rfl rfl _ w5 hrun5.out ?_))
            go_roundw
            case rel => exact ⟨j + 1, HLT.out, by go_num, HI6⟩
            case measure => have := HLT.out; simp [intOf]; omega
          · obtain rfl : j = 64 := by omega
            have HI2 := hid (p := Io wk (xr kk 54 ++ cat xs 0) (xr kk 92) u7 u8 wr) (by have := HI.out; rwa [List.take_of_length_le (by rw [HKL.out]; exact Nat.le_refl _), ← List.append_nil (xr kk 54)] at this)
            generalize wr = wi at *
            generalize u8 = vo at *
            generalize u7 = vi0 at *
            clear HI hlt HKD
            go_wp2_with fail
            go_loopw [7, 10] (fun vi i wr => ∃ j : Nat, j ≤ n0 ∧ i = .int .i64 j ∧ Hid (Io wk (xr kk 54 ++ cat xs j) (xr kk 92) vi vo wr)) (fun _ i _ => n0 - (intOf i).toNat)
            case atStart => exact ⟨0, Nat.zero_le _, rfl, HI2⟩
            case round =>
              clear HI2
              obtain ⟨j, hj, rfl, HI⟩ := hrel
              have HBY := hid (p := Below w.heap.size w wr) (HBW.out.trans (HI.out.below.mono HBW.out.size))
              by_cases hlt : j < n0
              · have HLT := hid hlt
                have hji : (j : Int) < (n0 : Int) := by omega
                have hw1 : IntKind.i64.wrap ((j : Int) + 1) = (j : Int) + 1 := by have := HN0.out; rw [IntKind.wrap_i64]; omega
                obtain ⟨⟨go, o, rfl, hgo, hcell⟩, hl1, hrd1, hlc, hcb, hac⟩ := HR2.out j hlt
                have hcell2 := (HBY.out.cell (p := ⟨go, o + j, none⟩) hgo).trans hcell
                have hcs := cat_length xs j (fun r hr => by rw [(HR2.out r (by omega)).2.1]; exact HL.out r (by omega))
                have hlj := HL.out j hlt
                obtain ⟨A2, n2, c2, w3, hrun, HI3, hn2⟩ := HI.out.put (p := xs j) (A := A j) (m := L j) (c := C j) (hrd1.below HBY.out (Nat.le_refl _)) hl1 hac (by rw [List.length_append, xr_length, HKL.out]; have := HN0.out; omega)
                have HI4 := hid (p := Io wk (xr kk 54 ++ cat xs (j + 1)) (xr kk 92) (.slice A2 n2 c2) vo w3) (by have := HI3.out; simpa [cat] using this)
                clear HI HI3 hn2 hcell hl1 hrd1 hlc hcb hac hgo hcs hlj
                go_wp2_with (at_builtin; refine step_append rfl (.tmp 53) (.tmp 57) rfl rfl _ _ rfl rfl _ w3 hrun.out ?_)
                go_roundw
                case rel => exact ⟨_, _, _, _, _, _, _, _, _, _, _, _, _, _, ⟨j + 1, HLT.out, by go_num, HI4⟩, rfl⟩
                case measure => have := HLT.out; simp [intOf]; omega
              · obtain rfl : j = n0 := by omega
                have hcs := cat_length xs j (fun r hr => by rw [(HR2.out r hr).2.1]; exact HL.out r hr)
                obtain ⟨Ai, ci, e7, hci, _, hrdi, hai⟩ := HI.out.ox.form
                obtain ⟨li, hli⟩ : ∃ li, li = (xr kk 54 ++ cat xs j).length := ⟨_, rfl⟩
                rw [← hli] at e7 hci
                have HLX := hid hli.symm
                subst e7
                have HLI := hid (show li ≤ 70368744177664 by rw [hli, List.length_append, xr_length, HKL.out]; have := HN0.out; omega)
                have HRI := hid hrdi
                have HCI := hid hci
                have HAI := hid hai
                clear hrdi hci hai hcs hli
                go_wp2_with fail
                refine (refof_any Ai ci (xr kk 54 ++ cat xs j) li wr HLX.out HRI.out HCI.out HAI.out HLI.out).mono ?_
                rintro e wz ⟨rfl, hbz⟩
                have HIZ := hid (HI.out.on hbz)
                have HIL := hid (sha_length (xr kk 54 ++ cat xs j))
                clear HI hbz HRI HCI HAI HLI HLX
                have HRE := hid (show hmk kk (cat xs j) = sha (xr kk 92 ++ sha (xr kk 54 ++ cat xs j)) from rfl)
                generalize sha (xr kk 54 ++ cat xs j) = inn at *
                have HO2 := ho32 inn HIL.out
                have HI2 := hi44 inn HIL.out
                obtain ⟨hBa, hXa, hsa⟩ := box1 wz 23 inn
                have HIA := hid (HIZ.out.on hBa.out)
                have HXA := hid hXa.out
                clear hBa hXa hsa HIZ
                go_upto_region 18 with (refine wpList_store_row rfl 23 (.tmp 11) (.tmp 60) rfl wz.heap.size (bvs inn).toArray rfl rfl 23 _ (heap_alloc_new _ _) HI2.out HO2.out (bvs_all _) ?_; rw [World.setRow_alloc_new])
                generalize wz.alloc (.cells (bvs inn).toArray 23) = wa at *
                generalize wz.heap.size = ga at *
                have hsl := sl32 ga
                obtain ⟨A2, n2, c2, w3, hrun, HI3, hn2⟩ := HIA.out.symm.put (p := inn) (A := some ⟨ga, 0, none⟩) (m := 32) (c := 32) (bt_rd HXA.out) HIL.out (by simp) (by rw [xr_length, HKL.out]; decide)
                have HN2 := hid (show n2 = 96 by rw [hn2.out, xr_length, HKL.out])
                obtain ⟨Ao, co, eo, hco, _, hrdo, hao⟩ := HI3.out.ox.form
                injection eo with eo1 eo2 eo3
                subst eo1
                subst eo3
                have HRO := hid hrdo
                have HCO := hid (show n2 ≤ c2 by rw [eo2]; exact hco)
                have HAO := hid hao
                have HLO := hid (show (xr kk 92 ++ inn).length = n2 by rw [eo2])
                clear eo2 hrdo hco hao HIA hn2
                go_wp2_with (at_builtin; refine step_append rfl (.tmp 61) (.tmp 62) rfl rfl _ _ rfl rfl _ w3 hrun.out ?_)
                refine (refof_any A2 c2 (xr kk 92 ++ inn) n2 w3 HLO.out HRO.out HCO.out HAO.out (by have := HN2.out; omega)).mono ?_
                rintro e w9 ⟨rfl, hb9⟩
                have hbb := (HI3.out.below.mono HBW.out.size).trans (hb9.mono (Nat.le_trans HBW.out.size HI3.out.below.size))
                have HB9 := hid (p := Below w.heap.size w w9) (HBW.out.trans hbb)
                have HZ9 := hid (Bt.on (Bt.on HZW.out HI3.out.below) hb9)
                clear hbb hb9
                have HQ := hid (show (hmk kk (cat xs j)).length = 32 by rw [HRE.out]; exact sha_length _)
                have HE := HRE.out
                rw [← HE]
                clear HE HRE
                generalize hre : hmk kk (cat xs j) = r at *
                have HRR := hid hre
                clear hre
                have HI44 := hi44 r HQ.out
                have HO8 := hsz (List.replicate 32 0) r (by rw [HQ.out, List.length_replicate])
                have HZR := hid (HZ9.out.row (m := r))
                have HBR := hid (p := Below w.heap.size w (w9.setRow w.heap.size (bvs r).toArray)) (below_setRow HB9.out (Nat.le_refl _) _)
                have HDA := bvs_all r
                have HZZ := HZ9.out
                unfold Bt at HZZ
                have HZZ := hid HZZ
                go_wp2_with (refine wpList_store_row rfl 23 (.tmp 4) (.tmp 64) rfl w.heap.size (bvs r).toArray rfl rfl 23 _ HZZ.out HI44.out HO8.out HDA ?_)
                exact bodyPost_ret (v := .agg (bvs r).toArray) (results_cell_row (p := 4) (ty := 23) Tryd.results27 _ _ w.heap.size 23 (bvs r).toArray (0, 0) _ rfl HZR.out Tryd.underlying23 rfl HI44.out) rfl ⟨by rw [HKK.out, HRR.out], HBR.out⟩
end Go.Proofs.YtcijnoapjicliaaDoor
