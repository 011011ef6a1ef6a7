/-
  burrowlaw08.MacsSame, walked: it answers true. Condition: the library's table holds what its text lays.
-/
import Derived.Test.YtaejcifpipegnaaDoorMcf
import Derived.Test.YtaejcifpipegnaaDoorPkB
namespace Go.Proofs.YtaejcifpipegnaaDoor
open Go.RowKit
set_option linter.unusedVariables false
set_option linter.unusedSimpArgs false

theorem row_bt {w : World} {g : Nat} {b : List UInt8} (h : Row w g b) : Bt w g 5 b := h
theorem bt_row {w : World} {g : Nat} {b : List UInt8} (h : Bt w g 5 b) : Row w g b := h
theorem rd_head {w : World} {g : Nat} {b r : List UInt8} (h : Row w g (b ++ r)) : Rd w (some ⟨g, 0, none⟩) b := by
  have := h.rd0.take b.length
  rwa [List.take_left] at this
/-- an append, wanted by its guard, whose run is known -/
theorem step_append_w {ops : Array Oper} {rest : List Oper} {o : Oper} {a : Act} {w : World} {Q : Exit → Act → World → Prop} (hw : Region.wanted o (yielded ops a.tmps) = true) (s x : Operand)
    (ho : o.op = .call { callee := .builtin .append, args := #[s, x], argTypes := #[22, 22] }) (hty : o.type = 22) (vs vx : Value) (hs : a.eval s = vs) (hx : a.eval x = vx) (v' : Value) (w' : World)
    (hrun : (Builtin.append_ #[22, 22] 22 #[vs, vx]).run Tryd.prog w = .ok v' w') (h : wpList Tryd.prog ops Q rest (a.put o.dst v') w') : wpList Tryd.prog ops Q (o :: rest) a w := by
  refine Go.BigFrame.wpList_want hw fun K hK => ?_
  unfold Oper.wp
  simp [execOp, ho, hty, resolve, invoke, builtin, hs, hx, hrun, Result.andThen]
  exact hK _ _ h
theorem u8_zero (y : UInt8) : ((y.toNat : Nat) : Int) = 0 ↔ y = 0 := by
  constructor
  · intro h
    have h2 : y.toNat = 0 := by omega
    exact UInt8.toNat.inj h2
  · rintro rfl; rfl
theorem ne_end (b r : List UInt8) (h : 0 < r.length) : ¬ b = b ++ r := fun e => by have := congrArg List.length e; simp at this; subst this; simp at h
theorem set_eq (b : List UInt8) (i : Nat) (y : UInt8) (h : i < b.length) : b = b.set i (b[i] ^^^ y) ↔ y = 0 := by
  constructor
  · intro e
    have e2 := congrArg (fun l => l[i]?) e
    simp only [List.getElem?_eq_getElem h, List.getElem?_set_self h, Option.some.injEq] at e2
    have e3 : b[i] ^^^ b[i] = b[i] ^^^ (b[i] ^^^ y) := by rw [← e2]
    rw [← UInt8.xor_assoc, UInt8.xor_self, UInt8.zero_xor] at e3
    exact e3.symm
  · rintro rfl
    rw [UInt8.xor_zero, List.set_getElem_self]
theorem ne_rest (b b' : List UInt8) (h : b'.length = b.length) (h0 : 0 < b.length) : ¬ b = b'.drop 1 := fun e => by have := congrArg List.length e; simp at this; omega
set_option maxRecDepth 100000 in
set_option maxHeartbeats 4000000 in
theorem same8_law (A : Option Addr) (c : Nat) (b : List UInt8) (n x : Nat) (y : UInt8) (w : World) (hn : b.length = n) (hr : Rd w A b) (hc : n ≤ c) (hx : x < 65536) (hK : Kt w) :
    Calls Tryd.prog 6 #[.slice A n c, .int .u16 (x : Int), .int .u8 ((y.toNat : Nat) : Int)] w fun e w' => e = .returned (.bool true) ∧ Below w.heap.size w w' := by
  have HN := hid hn
  have HR := hid hr
  have HC := hid hc
  have HX := hid hx
  have HK := hid hK
  clear hr hc hx hK
  by_cases hx1 : (10000 : Int) < (n : Int)
  · go_enter Tryd.func6, Tryd.ntmps6
    go_wp2_with fail
    refine (lives8_any w HK.out).mono ?_
    rintro e w1 ⟨rfl, hb1⟩
    go_wp2
    go_ret
    exact ⟨rfl, hb1⟩
  have HNB := hid (show n ≤ 10000 by omega)
  have HTW := hid (twin_any A c b w HR.out (by omega))
  rw [hn] at HTW
  go_enter Tryd.func6, Tryd.ntmps6
  go_wp2_with fail
  clear hx1
  refine HTW.out.mono ?_
  rintro e w1 ⟨rfl, hrow1, hb1⟩
  have HB1 := hid hb1
  have HRW := hid hrow1
  clear HTW hrow1 hb1
  obtain ⟨g, hg⟩ : ∃ g, g = w.heap.size := ⟨_, rfl⟩
  rw [← hg] at HRW
  rw [← hg]
  have HG := hid (Nat.le_of_eq hg.symm)
  clear hg
  go_wp2_with fail
  refine (macsame_any A (some ⟨g, 0, none⟩) n c n (n + 1) b b w1 HN.out HN.out (HR.out.below HB1.out (Nat.le_refl _)) (rd_head HRW.out) (by have := HNB.out; omega) (by have := HNB.out; omega)).mono ?_
  rintro e w2 ⟨rfl, k2, rfl⟩
  have HB2 := hid (below_dN HB1.out k2)
  have HR2 := hid (show Row (w1.drewN k2) g (b ++ [77]) from HRW.out)
  clear HB1 HRW
  generalize w1.drewN k2 = w2 at *
  have hd : decide (b = b) = true := by simp
  rw [hd]
  clear hd
  have HTW := hid (twin_any A c b w2 (HR.out.below HB2.out (Nat.le_refl _)) (by have := HNB.out; omega))
  rw [hn] at HTW
  clear hn
  go_wp2_with fail
  refine HTW.out.mono ?_
  rintro e w3 ⟨rfl, hrow3, hb3⟩
  have HB3 := hid (HB2.out.trans (hb3.mono HB2.out.size))
  have HR3 := hid (HR2.out.below hb3 HR2.out.lt)
  have HT3 := hid hrow3
  have HBS := hid HB2.out.size
  have HRL := hid HR2.out.lt
  clear HTW hrow3 hb3 HB2 HR2
  have HGS := hid (show w.heap.size ≤ w2.heap.size from HBS.out)
  have HGN := hid (show g < w2.heap.size from HRL.out)
  generalize w2.heap.size = g3 at *
  have hb4 := (Below.refl w3.heap.size w3).alloc (Nat.le_refl _) (.cells #[.int .u8 0] 5)
  have hh4 := Row.of_new w3 [0]
  have e0 : (bvs [0]).toArray = #[Value.int .u8 0] := rfl
  rw [e0] at hh4
  have HB4 := hid (HB3.out.trans (hb4.mono HB3.out.size))
  have HR4 := hid (HR3.out.below hb4 HR3.out.lt)
  have HT4 := hid (HT3.out.below hb4 HT3.out.lt)
  have hf4 := HT4.out.frozen n
  have hc4 : (w3.alloc (.cells #[.int .u8 0] 5)).cell? ⟨g3, n, none⟩ = some (.int .u8 77) := by
    have := HT4.out.cell n (by rw [List.length_append, HN.out]; exact Nat.lt_succ_self n)
    rw [this, List.getElem_append_right (by rw [HN.out]; exact Nat.le_refl _)]
    simp [HN.out]
  have hn4 : (w3.alloc (.cells #[.int .u8 0] 5)).cell? ⟨w3.heap.size, 0, none⟩ = some (.int .u8 0) := hh4.cell 0 (by decide)
  have e5 : (b ++ [77]).set n 0 = b ++ [0] := by
    rw [List.set_append_right _ _ (by rw [HN.out]; exact Nat.le_refl _), HN.out, Nat.sub_self]; rfl
  have ht5 := Bt.set (row_bt HT4.out) n 0
  rw [e5] at ht5
  have HT5 := hid (show Row ((w3.alloc (.cells #[.int .u8 0] 5)).setCell ⟨g3, n, none⟩ (.int .u8 0)) g3 (b ++ [0]) from ht5)
  have HB5 := hid (p := Below w.heap.size w ((w3.alloc (.cells #[.int .u8 0] 5)).setCell ⟨g3, n, none⟩ (.int .u8 0))) (HB4.out.setCell (p := ⟨g3, n, none⟩) HGS.out _)
  have HR5 := hid (show Row ((w3.alloc (.cells #[.int .u8 0] 5)).setCell ⟨g3, n, none⟩ (.int .u8 0)) g (b ++ [77]) from Bt.other (row_bt HR4.out) _ (Nat.ne_of_lt HGN.out))
  clear hb4 hh4 e0 HB4 HR4 HT4 ht5 e5
  go_wp2_with fail
  clear hf4 hc4 hn4
  generalize (w3.alloc (.cells #[.int .u8 0] 5)).setCell ⟨g3, n, none⟩ (.int .u8 0) = w5 at *
  refine (macsame_any A (some ⟨g3, 0, none⟩) n c (n + 1) (n + 1) b (b ++ [0]) w5 HN.out (by rw [List.length_append, HN.out]; rfl) (HR.out.below HB5.out (Nat.le_refl _)) HT5.out.rd0 (by have := HNB.out; omega) (by have := HNB.out; omega)).mono ?_
  rintro e w6 ⟨rfl, k6, rfl⟩
  have HB6 := hid (below_dN HB5.out k6)
  have HR6 := hid (show Row (w5.drewN k6) g (b ++ [77]) from HR5.out)
  clear HB5 HR5 HT5
  generalize w5.drewN k6 = w6 at *
  have hd : decide (b = b ++ [0]) = false := decide_eq_false (ne_end b [0] (by decide))
  rw [hd]
  clear hd
  by_cases h0 : (n : Int) = 0
  · go_wp2_with fail
    refine (lives8_any w6 (HK.out.on HB6.out)).mono ?_
    rintro e w7 ⟨rfl, hb7⟩
    go_wp2
    go_ret
    exact ⟨rfl, HB6.out.trans (hb7.mono HB6.out.size)⟩
  obtain ⟨i, hi⟩ : ∃ i, i = x % n := ⟨_, rfl⟩
  have hin : i < n := by rw [hi]; exact Nat.mod_lt _ (by omega)
  have HI := hid (show i < b.length by rw [HN.out]; exact hin)
  have HP := hid (show 0 < n by omega)
  have hxx := HX.out
  have hwc : IntKind.i64.wrap (x : Int) = (x : Int) := by rw [IntKind.wrap_i64]; omega
  have hrem : (x : Int) % (n : Int) = (i : Int) := by rw [hi]; simp
  have hremt : (x : Int).tmod (n : Int) = (i : Int) := by rw [Int.tmod_eq_emod_of_nonneg (by omega)]; exact hrem
  have hne : ((n : Int) == 0) = false := by simp; omega
  have hne3 : ¬ (n = 0) := by omega
  have hlt : (i : Int) < (n : Int) := by omega
  have hi0 : (0 : Int) ≤ (i : Int) := by omega
  have hcell : w6.cell? ⟨g, i, none⟩ = some (.int .u8 ((b[i]'HI.out).toNat : Int)) := by
    have := HR6.out.cell i (by rw [List.length_append]; have := HI.out; omega)
    rw [this, List.getElem_append_left HI.out]
  have hfr := HR6.out.frozen i
  have hxr := xor_u8 (b[i]'HI.out) y
  obtain ⟨b2, hb2⟩ : ∃ b2, b2 = b.set i (b[i]'HI.out ^^^ y) := ⟨_, rfl⟩
  have HSET := hid (show b = b2 ↔ y = 0 by rw [hb2]; exact set_eq b i y HI.out)
  have HL2 := hid (show b2.length = n by rw [hb2, List.length_set, HN.out])
  have HR7 := hid (show Row (w6.setCell ⟨g, i, none⟩ (.int .u8 (((b[i]'HI.out ^^^ y).toNat : Nat) : Int))) g (b2 ++ [77]) from by
    have := Bt.set (row_bt HR6.out) i (b[i]'HI.out ^^^ y)
    rw [List.set_append_left _ _ HI.out, ← hb2] at this
    exact this)
  have HB7 := hid (p := Below w.heap.size w (w6.setCell ⟨g, i, none⟩ (.int .u8 (((b[i]'HI.out ^^^ y).toNat : Nat) : Int)))) (HB6.out.setCell (p := ⟨g, i, none⟩) HG.out _)
  generalize (((b[i]'HI.out ^^^ y).toNat : Nat) : Int) = zv at *
  generalize ((b[i]'HI.out).toNat : Int) = ov at *
  clear hi hin hxx HR6 HB6 hb2
  have HYZ := hid (u8_zero y)
  have hsl : ∀ u : World, (Instr.slice 22 (.slice (some ⟨g, 0, none⟩) n (n + 1)) (some (.int .i64 1)) none none).run Tryd.prog u = .ok (.slice (past (some ⟨g, 0, none⟩) 1 (n + 1)) (n - 1) (n + 1 - 1)) u := fun u => slice_rest (some ⟨g, 0, none⟩) n (n + 1) 1 HP.out u
  obtain ⟨A9, hA9⟩ : ∃ A9, A9 = past (some ⟨g, 0, none⟩) 1 (n + 1) := ⟨_, rfl⟩
  obtain ⟨n9, hn9⟩ : ∃ n9, n9 = n - 1 := ⟨_, rfl⟩
  obtain ⟨c9, hc9⟩ : ∃ c9, c9 = n + 1 - 1 := ⟨_, rfl⟩
  rw [← hA9, ← hn9, ← hc9] at hsl
  have HA9 := hid hA9
  have HN9 := hid (show n9 ≤ 140737488355328 ∧ n - 1 = n9 by have := HNB.out; omega)
  have HRD9 := hid (p := ∀ u : World, Row u g (b2 ++ [77]) → Rd u A9 (b2.drop 1)) (fun u hu => by rw [HA9.out]; exact (rd_head hu).past 1 (n + 1) (by rw [HL2.out]; exact HP.out) (by rw [HL2.out]; omega))
  clear hA9 hn9 hc9
  generalize ((y.toNat : Nat) : Int) = yi at *
  go_wp2_with fail
  generalize w6.setCell ⟨g, i, none⟩ (.int .u8 zv) = w7 at *
  refine (macsame_any A (some ⟨g, 0, none⟩) n c n (n + 1) b b2 w7 HN.out HL2.out (HR.out.below HB7.out (Nat.le_refl _)) (rd_head HR7.out) (by have := HNB.out; omega) (by have := HNB.out; omega)).mono ?_
  rintro e w8 ⟨rfl, k8, rfl⟩
  have HB8 := hid (below_dN HB7.out k8)
  have HR8 := hid (show Row (w7.drewN k8) g (b2 ++ [77]) from HR7.out)
  clear HB7 HR7
  generalize w7.drewN k8 = w8 at *
  clear hcell hfr hxr hwc hrem hremt hne hne3 hlt hi0
  have HD1 := hid (show decide (b = b2) = decide (yi = 0) by rw [decide_eq_decide, HSET.out, HYZ.out])
  have HD2 := hid (show decide (b2 = b) = decide (yi = 0) by rw [decide_eq_decide, eq_comm, HSET.out, HYZ.out])
  have HD3 := hid (show decide (b = b2.drop 1) = false from decide_eq_false (ne_rest b b2 (by rw [HN.out, HL2.out]) (by rw [HN.out]; exact HP.out)))
  rw [HD1.out]
  by_cases hy : yi = 0
  · have hd : decide (yi = 0) = true := by simp [hy]
    rw [hd]
    go_wp2_with fail
    refine (macsame_any (some ⟨g, 0, none⟩) A n (n + 1) n c b2 b w8 HL2.out HN.out (rd_head HR8.out) (HR.out.below HB8.out (Nat.le_refl _)) (by have := HNB.out; omega) (by have := HNB.out; omega)).mono ?_
    rintro e w9 ⟨rfl, k9, rfl⟩
    have HB9 := hid (below_dN HB8.out k9)
    have HR9 := hid (show Row (w8.drewN k9) g (b2 ++ [77]) from HR8.out)
    generalize w8.drewN k9 = w9 at *
    rw [HD2.out, hd]
    go_wp2_with fail
    have p1 : (b2.drop 1).length = n9 := by rw [List.length_drop, HL2.out]; exact HN9.out.2
    have p2 : Rd w9 A b := HR.out.below HB9.out (Nat.le_refl _)
    have p3 : Rd w9 A9 (b2.drop 1) := HRD9.out w9 HR9.out
    have p4 : n ≤ 140737488355328 := by have := HNB.out; omega
    have p5 := macsame_any A A9 n c n9 c9 b (b2.drop 1) w9 HN.out p1 p2 p3 p4 HN9.out.1
    clear p1 p2 p3 p4
    refine p5.mono ?_
    clear p5
    rintro e w10 ⟨rfl, k10, rfl⟩
    have HB10 := hid (below_dN HB9.out k10)
    generalize w9.drewN k10 = w10 at *
    rw [HD3.out]
    go_wp2_with fail
    refine (lives8_any w10 (HK.out.on HB10.out)).mono ?_
    rintro e w11 ⟨rfl, hb11⟩
    go_wp2
    go_ret
    exact ⟨rfl, HB10.out.trans (hb11.mono HB10.out.size)⟩
  · have hd : decide (yi = 0) = false := by simp [hy]
    have hyb : (yi == 0) = false := by simp [hy]
    rw [hd]
    go_wp2_with fail
    refine (macsame_any (some ⟨g, 0, none⟩) A n (n + 1) n c b2 b w8 HL2.out HN.out (rd_head HR8.out) (HR.out.below HB8.out (Nat.le_refl _)) (by have := HNB.out; omega) (by have := HNB.out; omega)).mono ?_
    rintro e w9 ⟨rfl, k9, rfl⟩
    have HB9 := hid (below_dN HB8.out k9)
    have HR9 := hid (show Row (w8.drewN k9) g (b2 ++ [77]) from HR8.out)
    generalize w8.drewN k9 = w9 at *
    rw [HD2.out, hd]
    go_wp2_with fail
    have p1 : (b2.drop 1).length = n9 := by rw [List.length_drop, HL2.out]; exact HN9.out.2
    have p2 : Rd w9 A b := HR.out.below HB9.out (Nat.le_refl _)
    have p3 : Rd w9 A9 (b2.drop 1) := HRD9.out w9 HR9.out
    have p4 : n ≤ 140737488355328 := by have := HNB.out; omega
    have p5 := macsame_any A A9 n c n9 c9 b (b2.drop 1) w9 HN.out p1 p2 p3 p4 HN9.out.1
    clear p1 p2 p3 p4
    refine p5.mono ?_
    clear p5
    rintro e w10 ⟨rfl, k10, rfl⟩
    have HB10 := hid (below_dN HB9.out k10)
    generalize w9.drewN k10 = w10 at *
    rw [HD3.out]
    go_wp2_with fail
    refine (lives8_any w10 (HK.out.on HB10.out)).mono ?_
    rintro e w11 ⟨rfl, hb11⟩
    go_wp2
    go_ret
    exact ⟨rfl, HB10.out.trans (hb11.mono HB10.out.size)⟩
end Go.Proofs.YtaejcifpipegnaaDoor
