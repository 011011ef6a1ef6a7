/-
  shas.spread, walked: a block's numbers. Conditions: none.
  shas.takeIn: what its loop carries, and the region that reckons, walked. Conditions: none.
-/
import Derived.Test.YtgmnpkgnedngjaaDoorSp11
import Derived.Deep.DeepCutAuto
import Derived.Deep.Cut
import Derived.Test.YtgmnpkgnedngjaaDoorPkC
namespace Go.Proofs.YtgmnpkgnedngjaaDoor
open Go.RowKit
set_option linter.unusedVariables false
theorem hi132 (b : List UInt8) : Hid ((Tryd.prog.info? 77).map (·.size) = some (dv (wof b)).toArray.size) := by
  have h : (dv (wof b)).toArray.size = 64 := by rw [dv_size]; exact wof_length b
  rw [h]; exact hid i132
theorem ho132 (b : List UInt8) : Hid ((dv (List.replicate 64 0)).toArray.size = (dv (wof b)).toArray.size) := by
  have h : (dv (wof b)).toArray.size = 64 := by rw [dv_size]; exact wof_length b
  rw [h]; exact hid rfl
set_option maxRecDepth 100000 in
set_option maxHeartbeats 1000000 in
theorem spread_any (b : List UInt8) (w : World) (hb : b.length = 64) :
    Calls Tryd.prog 44 #[.agg (bvs b).toArray] w fun e w' => e = .returned (.agg (dv (wof b)).toArray) ∧ Below w.heap.size w w' := by
  have HB := hid hb
  clear hb
  go_enter Tryd.func44, Tryd.ntmps44
  go_wp2_with fail
  have HS := hid (Spr.init w b)
  have hlit : (dv (List.replicate 64 0)).toArray = #[.int .u32 0, .int .u32 0, .int .u32 0, .int .u32 0, .int .u32 0, .int .u32 0, .int .u32 0, .int .u32 0, .int .u32 0, .int .u32 0, .int .u32 0, .int .u32 0, .int .u32 0, .int .u32 0, .int .u32 0, .int .u32 0, .int .u32 0, .int .u32 0, .int .u32 0, .int .u32 0, .int .u32 0, .int .u32 0, .int .u32 0, .int .u32 0, .int .u32 0, .int .u32 0, .int .u32 0, .int .u32 0, .int .u32 0, .int .u32 0, .int .u32 0, .int .u32 0, .int .u32 0, .int .u32 0, .int .u32 0, .int .u32 0, .int .u32 0, .int .u32 0, .int .u32 0, .int .u32 0, .int .u32 0, .int .u32 0, .int .u32 0, .int .u32 0, .int .u32 0, .int .u32 0, .int .u32 0, .int .u32 0, .int .u32 0, .int .u32 0, .int .u32 0, .int .u32 0, .int .u32 0, .int .u32 0, .int .u32 0, .int .u32 0, .int .u32 0, .int .u32 0, .int .u32 0, .int .u32 0, .int .u32 0, .int .u32 0, .int .u32 0, .int .u32 0] := rfl
  rw [← hlit]
  clear hlit
  generalize ((w.alloc (.cells (bvs b).toArray 68)).alloc (.cells (dv (List.replicate 64 0)).toArray 77)).alloc (.cells (dv (List.replicate 64 0)).toArray 77) = w0 at *
  go_loopw [8] (fun i wr => ∃ (k : Nat) (l : List Nat), k ≤ 64 ∧ i = .int .i64 k ∧ Hid (Spr w b l wr) ∧ Hid (l.length = 64) ∧ Hid (∀ j, j < 64 → at' l j = part b k j)) (fun i _ => 64 - (intOf i).toNat)
  case atStart => exact ⟨0, List.replicate 64 0, by omega, rfl, HS, hid (by simp), hid (fun j hj => by rw [part_none, at_lt (by simpa using hj), List.getElem_replicate])⟩
  case round =>
    obtain ⟨k, l, hk, rfl, HS, HL, HA⟩ := hrel
    by_cases hlt : k < 64
    · obtain ⟨q, hq⟩ : ∃ q : Nat, q = k / 4 := ⟨_, rfl⟩
      have hqi : (k : Int) / 4 = (q : Int) := by omega
      have hq16 : q < 16 := by omega
      have HQ := hid hq
      clear hq
      have cw := HS.out.l.cell q (by have := HL.out; omega)
      have cf := HS.out.l.frozen q
      have cb := HS.out.b.cell k (by have := HB.out; omega)
      rw [HA.out q (by omega)] at cw
      have HP := hid (p := part b k q < 16777216) (by rw [HQ.out]; exact part_lt b k)
      have HST := hid (part_step b k (by have := HB.out; omega))
      have HBL := hid ((b[k]'(by have := HB.out; omega)).toNat_lt)
      generalize (b[k]'(by have := HB.out; omega)).toNat = x at *
      have HPE := hid (p := part b k q = part b k q) rfl
      generalize hpe : part b k q = t at cw HP
      have HT := hid hpe
      clear hpe HPE
      have HO := hid (or_step t x HP.out HBL.out)
      go_wp2
      go_region
      go_wp2
      go_roundw
      case rel =>
        refine ⟨k + 1, l.set q (t * 256 + x), by omega, by go_num, ?_, hid (by rw [List.length_set]; exact HL.out), hid ?_⟩
        · have := (HS.out.set q (t * 256 + x)).drew
          rw [← HO.out] at this
          exact hid this
        · intro j hj
          rw [at_set _ _ _ _ (by have := HL.out; omega), HST.out j, HA.out j hj, ← HQ.out]
          by_cases h : j = q
          · subst h; rw [if_pos rfl, if_pos rfl, HT.out]
          · rw [if_neg h, if_neg h]
      case measure => simp [intOf]; omega
    · obtain rfl : k = 64 := by omega
      have HA2 := hid (p := ∀ j, j < 64 → at' l j = at' (ext (own b 16) 0) j) (fun j hj => by rw [HA.out j hj, part_all b HB.out]; rfl)
      clear HA
      go_wp2
      go_loopw [5] (fun i wr => ∃ (k : Nat) (l : List Nat), 16 ≤ k ∧ k ≤ 64 ∧ i = .int .i64 k ∧ Hid (Spr w b l wr) ∧ Hid (l.length = 64) ∧ Hid (∀ j, j < 64 → at' l j = at' (ext (own b 16) (k - 16)) j)) (fun i _ => 64 - (intOf i).toNat)
      case atStart => exact ⟨16, l, by omega, by omega, rfl, HS, HL, HA2⟩
      case round =>
        clear HS HL HA2
        obtain ⟨k, l, hk0, hk, rfl, HS, HL, HA⟩ := hrel
        by_cases hlt : k < 64
        · have HF := spr_facts HS.out HL.out HA.out hk0 hlt
          have HK := hid hk0
          have HK2 := hid hk
          clear hk0 hk
          obtain ⟨p15, p16, p7, p2, x, v16, v7, y, zx, zy, hp15, hp16, hp7, hp2, l15, l2, c15, c2, b15, b2, hzx, hzy, bx7, bx18, bzx, by17, by19, bzy, w16, w7, i16, i7, ik, j16, j7, jk, hS, HC, HKA, HKC, HV⟩ := HF
          go_wp2
          go_region
          go_wp2_with fail
          refine sp11_ok (hid HS.out.drew) p16 p7 x v16 v7 y zx zy hp16 hp7 b15 b2 hzx hzy bx7 bx18 bzx by17 by19 bzy w16 w7 i16 i7 ik j16 j7 jk hS HC HKA HKC _ _ _ _ _ _ _ _ _ _ _ _ _ _ _ _ _ _ _ _ _ _ _ _ _ _ _ _ _ _ _ _ _ _ _ _ _ _ _ _ _ _ _ _ _ _ _ _ _ _ _ _ _ _ _ _ _ _ _ _ _ _ _ (hid ?_)
          intro d37 d38 d39 d40 d41 d42 d43 d44 d45 d46 d47 d48 d49 d50 d51 d52 d53 d54 d55 d56 d57 d58 d59 d60 d61 d62 d63 d64 d65 wn HN
          rw [HV.out]
          go_wp2
          go_roundw
          case rel =>
            have h0 := HK.out
            refine ⟨k + 1, l.set k (nxw (ext (own b 16) (k - 16))), by omega, by omega, by go_num, hid (HN.out.set _ _), hid (by rw [List.length_set]; exact HL.out), hid ?_⟩
            intro j hj
            rw [at_set _ _ _ _ (by have := HL.out; omega), show k + 1 - 16 = (k - 16) + 1 by omega, ext, at_end, ext_length, own_length, show 16 + (k - 16) = k by omega]
            by_cases h : j = k
            · rw [if_pos h, if_pos h]
            · rw [if_neg h, if_neg h, HA.out j hj]
          case measure => simp [intOf]; omega
        · obtain rfl : k = 64 := by omega
          have hl : l = wof b := by
            refine eq_of_at (by rw [HL.out, wof_length]) (fun j hj => ?_)
            rw [HA.out j (by have := HL.out; omega)]; rfl
          have HS2 : Hid (Spr w b (wof b) wr) := hid (hl ▸ HS.out)
          clear HA HL HS hl
          have HS := HS2
          clear HS2
          have HI := hi132 b
          have HO := ho132 b
          have HZ := hid (HS.out.z.row (m := wof b))
          have HBW := hid (p := Below w.heap.size w (wr.setRow (w.heap.size + 1) (dv (wof b)).toArray)) (below_setRow HS.out.below (Nat.le_succ _) _)
          go_upto_region 12 with fail
          have HDA := dv_all (wof b)
          have HZL := HS.out.l
          have HZZ := HS.out.z
          unfold Us at HZL HZZ
          have HZL := hid HZL
          have HZZ := hid HZZ
          generalize (dv (wof b)).toArray = dw at *
          go_wp2_with (first | (refine wpList_load_row rfl 77 (.tmp 3) rfl (w.heap.size + 1 + 1) rfl 77 dw (0, 0) _ HZL.out Tryd.underlying77 rfl HI.out ?_) | (refine wpList_store_row rfl 77 (.tmp 2) (.tmp 66) rfl (w.heap.size + 1) dw rfl rfl 77 _ HZZ.out HI.out HO.out (by assumption) ?_))
          exact bodyPost_ret (v := .agg (dv (wof b)).toArray) (results_cell_row (p := 2) (ty := 77) Tryd.results44 _ _ (w.heap.size + 1) 77 (dv (wof b)).toArray (0, 0) _ rfl HZ.out Tryd.underlying77 rfl (hi132 b).out) rfl ⟨rfl, HBW.out⟩
end Go.Proofs.YtgmnpkgnedngjaaDoor
namespace Go.Proofs.YtgmnpkgnedngjaaDoor
open Go.RowKit
set_option linter.unusedVariables false

/-- the library's numbers K, in their variable -/
def Kt (w : World) : Prop := ∀ j, j < 64 → w.cell? ⟨2, j, none⟩ = some (.int .u32 (at' kk j : Nat))
theorem Kt.lt {w : World} (h : Kt w) : 2 < w.heap.size := World.block_lt_of_cell? w ⟨2, 0, none⟩ (h 0 (by decide))
theorem Kt.on {w w' : World} (h : Kt w) (hb : Below w.heap.size w w') : Kt w' := fun j hj => (hb.cell (p := ⟨2, j, none⟩) h.lt).trans (h j hj)
/-- the region that reckons t -/
noncomputable def tk6 : Code := ((Tryd.f36.body.bind (findRegion 6)).getD .skip)
theorem not32 (e : Nat) (he : e < 4294967296) : 4294967295 ^^^ e = 4294967295 - e := by
  apply Nat.eq_of_testBit_eq
  intro i
  rw [show 4294967295 - e = 2 ^ 32 - (e + 1) by omega, Nat.testBit_two_pow_sub_succ (by omega), Nat.testBit_xor, show 4294967295 = 2 ^ 32 - 1 by decide, Nat.testBit_two_pow_sub_one]
  rcases Nat.lt_or_ge i 32 with h | h
  · simp [h]
  · have : e.testBit i = false := Nat.testBit_lt_two_pow (Nat.lt_of_lt_of_le he (Nat.pow_le_pow_right (n := 2) (i := 32) (by decide) h))
    rw [this]; simp
theorem t_eq (e f g h kv wv : Nat) (he : e < 4294967296) (hf : f < 4294967296) (hg : g < 4294967296) (m : Nat) :
    IntKind.u32.wrap (IntKind.u32.wrap (IntKind.u32.wrap (IntKind.u32.wrap ((h : Int) + (m : Int)) + bits BinOp.or IntKind.u32 (bits BinOp.and IntKind.u32 (e : Int) (f : Int)) (bits BinOp.and IntKind.u32 (bits BinOp.xor IntKind.u32 IntKind.u32.max (e : Int)) (g : Int))) + (kv : Int)) + (wv : Int)) = ((((((h + m) % 4294967296 + cho e f g) % 4294967296 + kv) % 4294967296 + wv) % 4294967296 : Nat) : Int) := by
  have e1 : bits BinOp.xor IntKind.u32 IntKind.u32.max (e : Int) = ((4294967295 - e : Nat) : Int) := by
    rw [← not32 e he]; exact u32_xor_nat 4294967295 e (by decide) he
  rw [e1, u32_and_nat e f he hf, u32_and_nat (4294967295 - e) g (by omega) hg, u32_or_nat _ _ (and_lt _ he) (and_lt _ (by omega)), IntKind.wrap_u32, IntKind.wrap_u32, IntKind.wrap_u32, IntKind.wrap_u32]
  unfold cho
  omega
set_option maxRecDepth 100000 in
set_option maxHeartbeats 1000000 in
theorem tk6_ok {wr : World} {g3 i e f g h kv wv tv : Nat} {Q : Exit → Act → World → Prop} (be : e < 4294967296) (b6 : rot e 6 < 4294967296) (b11 : rot e 11 < 4294967296) (b25 : rot e 25 < 4294967296)
    (i64 : (i : Int) < 64) (i0 : (0 : Int) ≤ i) (wi : IntKind.i64.wrap (i : Int) = (i : Int))
    (hS : wr.cell? ⟨2, i, none⟩ = some (.int .u32 (kv : Int)) ∧ wr.cell? ⟨g3, i, none⟩ = some (.int .u32 (wv : Int)) ∧ 2 < wr.heap.size ∧ g3 < wr.heap.size) (HKA : Hid (∀ (W : World) (o : Obj), (W.cell? ⟨2, i, none⟩ = some (.int .u32 (kv : Int)) ∧ W.cell? ⟨g3, i, none⟩ = some (.int .u32 (wv : Int)) ∧ 2 < W.heap.size ∧ g3 < W.heap.size) → ((W.alloc o).cell? ⟨2, i, none⟩ = some (.int .u32 (kv : Int)) ∧ (W.alloc o).cell? ⟨g3, i, none⟩ = some (.int .u32 (wv : Int)) ∧ 2 < (W.alloc o).heap.size ∧ g3 < (W.alloc o).heap.size)))
    (HT : Hid (IntKind.u32.wrap (IntKind.u32.wrap (IntKind.u32.wrap (IntKind.u32.wrap ((h : Int) + ((rot e 6 ^^^ rot e 11 ^^^ rot e 25 : Nat) : Int)) + bits BinOp.or IntKind.u32 (bits BinOp.and IntKind.u32 (e : Int) (f : Int)) (bits BinOp.and IntKind.u32 (bits BinOp.xor IntKind.u32 IntKind.u32.max (e : Int)) (g : Int))) + (kv : Int)) + (wv : Int)) = (tv : Int)))
    (c0 c1 c2 c3 c4 c6 c7 c8 c9 c15 c16 c17 c18 c19 c20 c21 c22 c23 c24 c25 c26 c27 c28 c29 c30 c31 c32 c33 c34 c35 c36 c37 c38 c39 c40 c41 c42 c43 c44 c45 c46 c47 c48 c49 c50 c51 c52 c53 c54 c55 c56 c57 c58 c59 c60 c61 c62 c63 c64 c65 c66 c67 c68 c69 c70 c71 c72 c73 c74 c75 c76 c77 c78 c79 c80 c81 c82 c83 c84 c85 c86 c87 c88 c89 c90 c91 c92 c93 c94 c95 c96 c97 c98 c99 c100 c101 c102 c103 c104 c105 c106 c107 c108 c109 c110 c111 c112 c113 c114 c115 c116 c117 c118 c119 c120 : Value)
    (hQ : Hid (∀ (d40 d41 d42 d43 d44 d45 d46 d47 d48 d49 d50 d51 d52 d53 d54 d55 d56 d57 d58 d59 d60 d61 d62 d63 d64 d65 d66 : Value) (wn : World), Hid (Below wr.heap.size wr wn) → Q .normal ⟨#[c0, c1, c2, c3, c4, .pointer (some ⟨g3, 0, none⟩), c6, c7, c8, c9, .int .u32 (e : Int), .int .u32 (f : Int), .int .u32 (g : Int), .int .u32 (h : Int), .int .i64 (i : Int), .int .u32 (tv : Int), c16, c17, c18, c19, c20, c21, c22, c23, c24, c25, c26, c27, c28, c29, c30, c31, c32, c33, c34, c35, c36, c37, c38, c39, d40, d41, d42, d43, d44, d45, d46, d47, d48, d49, d50, d51, d52, d53, d54, d55, d56, d57, d58, d59, d60, d61, d62, d63, d64, d65, d66, c67, c68, c69, c70, c71, c72, c73, c74, c75, c76, c77, c78, c79, c80, c81, c82, c83, c84, c85, c86, c87, c88, c89, c90, c91, c92, c93, c94, c95, c96, c97, c98, c99, c100, c101, c102, c103, c104, c105, c106, c107, c108, c109, c110, c111, c112, c113, c114, c115, c116, c117, c118, c119, c120], []⟩ wn)) :
    Code.wp Tryd.prog tk6 Q ⟨#[c0, c1, c2, c3, c4, .pointer (some ⟨g3, 0, none⟩), c6, c7, c8, c9, .int .u32 (e : Int), .int .u32 (f : Int), .int .u32 (g : Int), .int .u32 (h : Int), .int .i64 (i : Int), c15, c16, c17, c18, c19, c20, c21, c22, c23, c24, c25, c26, c27, c28, c29, c30, c31, c32, c33, c34, c35, c36, c37, c38, c39, c40, c41, c42, c43, c44, c45, c46, c47, c48, c49, c50, c51, c52, c53, c54, c55, c56, c57, c58, c59, c60, c61, c62, c63, c64, c65, c66, c67, c68, c69, c70, c71, c72, c73, c74, c75, c76, c77, c78, c79, c80, c81, c82, c83, c84, c85, c86, c87, c88, c89, c90, c91, c92, c93, c94, c95, c96, c97, c98, c99, c100, c101, c102, c103, c104, c105, c106, c107, c108, c109, c110, c111, c112, c113, c114, c115, c116, c117, c118, c119, c120], []⟩ wr := by
  conv => arg 2; whnf
  have hs : wr.drew.cell? ⟨2, i, none⟩ = some (.int .u32 (kv : Int)) ∧ wr.drew.cell? ⟨g3, i, none⟩ = some (.int .u32 (wv : Int)) ∧ 2 < wr.drew.heap.size ∧ g3 < wr.drew.heap.size := hS
  refine wp_region_noPanic ?_
  refine Goes.region (fun (L : Array Bool) (w' : World) => w'.cell? ⟨2, i, none⟩ = some (.int .u32 (kv : Int)) ∧ w'.cell? ⟨g3, i, none⟩ = some (.int .u32 (wv : Int)) ∧ 2 < w'.heap.size ∧ g3 < w'.heap.size) (by as_aux_lemma => kernel_rfl) ?_
  refine Goes.take (i := 0) (o := ⟨some 40, _, _, _, _, _⟩) (v := ?_) [] rfl (by as_aux_lemma => kernel_rfl) (by as_aux_lemma => kernel_rfl) (by as_aux_lemma => kernel_rfl) (fun _ _ _ h => h) (by as_aux_lemma => kernel_rfl) (fun L u h => h) (Or.inl ⟨by rfl, ?_⟩) hs ?_
  rotate_left
  · intro w hY; go_simp; try with_reducible rfl
  try simp only [putz]
  refine Goes.take (i := 1) (o := ⟨some 41, _, _, _, _, _⟩) (v := ?_) [] rfl (by as_aux_lemma => kernel_rfl) (by as_aux_lemma => kernel_rfl) (by as_aux_lemma => kernel_rfl) (fun _ _ _ h => h) (by as_aux_lemma => kernel_rfl) (fun L u h => h) (Or.inl ⟨by rfl, ?_⟩) hs ?_
  rotate_left
  · intro w hY; go_simp; try with_reducible rfl
  try simp only [putz]
  refine Goes.take (i := 3) (o := ⟨some 43, _, _, _, _, _⟩) (v := ?_) [] rfl (by as_aux_lemma => kernel_rfl) (by as_aux_lemma => kernel_rfl) (by as_aux_lemma => kernel_rfl) (fun _ _ _ h => h) (by as_aux_lemma => kernel_rfl) (fun L u h => h) (Or.inl ⟨by rfl, ?_⟩) hs ?_
  rotate_left
  · intro w hY; go_simp; try with_reducible rfl
  try simp only [putz]
  refine Goes.take (i := 5) (o := ⟨some 45, _, _, _, _, _⟩) (v := ?_) [] rfl (by as_aux_lemma => kernel_rfl) (by as_aux_lemma => kernel_rfl) (by as_aux_lemma => kernel_rfl) (fun _ _ _ h => h) (by as_aux_lemma => kernel_rfl) (fun L u h => h) (Or.inl ⟨by rfl, ?_⟩) hs ?_
  rotate_left
  · intro w hY; go_simp; try with_reducible rfl
  try simp only [putz]
  refine Goes.take (i := 10) (o := ⟨some 50, _, _, _, _, _⟩) (v := ?_) [] rfl (by as_aux_lemma => kernel_rfl) (by as_aux_lemma => kernel_rfl) (by as_aux_lemma => kernel_rfl) (fun _ _ _ h => h) (by as_aux_lemma => kernel_rfl) (fun L u h => h) (Or.inl ⟨by rfl, ?_⟩) hs ?_
  rotate_left
  · intro w hY; go_simp; try with_reducible rfl
  try simp only [putz]
  refine Goes.take (i := 11) (o := ⟨some 51, _, _, _, _, _⟩) (v := ?_) [] rfl (by as_aux_lemma => kernel_rfl) (by as_aux_lemma => kernel_rfl) (by as_aux_lemma => kernel_rfl) (fun _ _ _ h => h) (by as_aux_lemma => kernel_rfl) (fun L u h => h) (Or.inl ⟨by rfl, ?_⟩) hs ?_
  rotate_left
  · intro w hY; go_simp; try with_reducible rfl
  try simp only [putz]
  refine Goes.take (i := 12) (o := ⟨some 52, _, _, _, _, _⟩) (v := ?_) [] rfl (by as_aux_lemma => kernel_rfl) (by as_aux_lemma => kernel_rfl) (by as_aux_lemma => kernel_rfl) (fun _ _ _ h => h) (by as_aux_lemma => kernel_rfl) (fun L u h => h) (Or.inl ⟨by rfl, ?_⟩) hs ?_
  rotate_left
  · intro w hY; go_simp; try with_reducible rfl
  try simp only [putz]
  refine Goes.take (i := 13) (o := ⟨some 53, _, _, _, _, _⟩) (v := ?_) [] rfl (by as_aux_lemma => kernel_rfl) (by as_aux_lemma => kernel_rfl) (by as_aux_lemma => kernel_rfl) (fun _ _ _ h => h) (by as_aux_lemma => kernel_rfl) (fun L u h => h) (Or.inl ⟨by rfl, ?_⟩) hs ?_
  rotate_left
  · intro w hY; go_simp; try with_reducible rfl
  try simp only [putz]
  refine Goes.take (i := 14) (o := ⟨some 54, _, _, _, _, _⟩) (v := ?_) [] rfl (by as_aux_lemma => kernel_rfl) (by as_aux_lemma => kernel_rfl) (by as_aux_lemma => kernel_rfl) (fun _ _ _ h => h) (by as_aux_lemma => kernel_rfl) (fun L u h => h) (Or.inl ⟨by rfl, ?_⟩) hs ?_
  rotate_left
  · intro w hY; go_simp; try with_reducible rfl
  try simp only [putz]
  refine Goes.take (i := 15) (o := ⟨some 55, _, _, _, _, _⟩) (v := ?_) [] rfl (by as_aux_lemma => kernel_rfl) (by as_aux_lemma => kernel_rfl) (by as_aux_lemma => kernel_rfl) (fun _ _ _ h => h) (by as_aux_lemma => kernel_rfl) (fun L u h => h) (Or.inl ⟨by rfl, ?_⟩) hs ?_
  rotate_left
  · intro w hY; go_simp; try with_reducible rfl
  try simp only [putz]
  refine Goes.take (i := 16) (o := ⟨some 56, _, _, _, _, _⟩) (v := ?_) [] rfl (by as_aux_lemma => kernel_rfl) (by as_aux_lemma => kernel_rfl) (by as_aux_lemma => kernel_rfl) (fun _ _ _ h => h) (by as_aux_lemma => kernel_rfl) (fun L u h => h) (Or.inl ⟨by rfl, ?_⟩) hs ?_
  rotate_left
  · intro w hY; go_simp; try with_reducible rfl
  try simp only [putz]
  refine Goes.take (i := 17) (o := ⟨some 57, _, _, _, _, _⟩) (v := ?_) [] rfl (by as_aux_lemma => kernel_rfl) (by as_aux_lemma => kernel_rfl) (by as_aux_lemma => kernel_rfl) (fun _ _ _ h => h) (by as_aux_lemma => kernel_rfl) (fun L u h => h) (Or.inl ⟨by rfl, ?_⟩) hs ?_
  rotate_left
  · intro w hY; go_simp; try with_reducible rfl
  try simp only [putz]
  refine Goes.take (i := 19) (o := ⟨some 59, _, _, _, _, _⟩) (v := ?_) [] rfl (by as_aux_lemma => kernel_rfl) (by as_aux_lemma => kernel_rfl) (by as_aux_lemma => kernel_rfl) (fun _ _ _ h => h) (by as_aux_lemma => kernel_rfl) (fun L u h => h) (Or.inl ⟨by rfl, ?_⟩) hs ?_
  rotate_left
  · intro w hY; go_simp; try with_reducible rfl
  try simp only [putz]
  refine Goes.take (i := 20) (o := ⟨some 60, _, _, _, _, _⟩) (v := ?_) [] rfl (by as_aux_lemma => kernel_rfl) (by as_aux_lemma => kernel_rfl) (by as_aux_lemma => kernel_rfl) (fun _ _ _ h => h) (by as_aux_lemma => kernel_rfl) (fun L u h => h) (Or.inl ⟨by rfl, ?_⟩) hs ?_
  rotate_left
  · intro w hY; go_simp; try with_reducible rfl
  try simp only [putz]
  refine Goes.take (i := 21) (o := ⟨some 61, _, _, _, _, _⟩) (v := ?_) [] rfl (by as_aux_lemma => kernel_rfl) (by as_aux_lemma => kernel_rfl) (by as_aux_lemma => kernel_rfl) (fun _ _ _ h => h) (by as_aux_lemma => kernel_rfl) (fun L u h => h) (Or.inl ⟨by rfl, ?_⟩) hs ?_
  rotate_left
  · intro w hY; obtain ⟨up, hL⟩ := hY; have hX := hL.2.1; clear hL; (try dsimp only at hX); go_simp; try with_reducible rfl
  try simp only [putz]
  refine Goes.take (i := 23) (o := ⟨some 63, _, _, _, _, _⟩) (v := ?_) [] rfl (by as_aux_lemma => kernel_rfl) (by as_aux_lemma => kernel_rfl) (by as_aux_lemma => kernel_rfl) (fun _ _ _ h => h) (by as_aux_lemma => kernel_rfl) (fun L u h => h) (Or.inl ⟨by rfl, ?_⟩) hs ?_
  rotate_left
  · intro w hY; go_simp; try with_reducible rfl
  try simp only [putz]
  refine Goes.take (i := 24) (o := ⟨some 64, _, _, _, _, _⟩) (v := ?_) [] rfl (by as_aux_lemma => kernel_rfl) (by as_aux_lemma => kernel_rfl) (by as_aux_lemma => kernel_rfl) (fun _ _ _ h => h) (by as_aux_lemma => kernel_rfl) (fun L u h => h) (Or.inl ⟨by rfl, ?_⟩) hs ?_
  rotate_left
  · intro w hY; go_simp; try with_reducible rfl
  try simp only [putz]
  refine Goes.take (i := 25) (o := ⟨some 65, _, _, _, _, _⟩) (v := ?_) [] rfl (by as_aux_lemma => kernel_rfl) (by as_aux_lemma => kernel_rfl) (by as_aux_lemma => kernel_rfl) (fun _ _ _ h => h) (by as_aux_lemma => kernel_rfl) (fun L u h => h) (Or.inl ⟨by rfl, ?_⟩) hs ?_
  rotate_left
  · intro w hY; obtain ⟨up, hL⟩ := hY; have hX := hL.2.2.1; clear hL; (try dsimp only at hX); go_simp; try with_reducible rfl
  try simp only [putz]
  refine Goes.one (i := 2) (o := ⟨some 42, _, _, _, _, _⟩) (by as_aux_lemma => kernel_rfl) rfl (fun K hK => ?_)
  go_simp
  with_reducible refine (turn_6 _ _ be).mono ?_
  rintro e' wa ⟨rfl, rfl⟩
  go_wp2_with fail
  refine hK.out _ _ hs ?_
  clear hK K
  try simp only [putz]
  refine Goes.one (i := 4) (o := ⟨some 44, _, _, _, _, _⟩) (by as_aux_lemma => kernel_rfl) rfl (fun K hK => ?_)
  go_simp
  with_reducible refine (turn_11 _ _ be).mono ?_
  rintro e' wb ⟨rfl, rfl⟩
  go_wp2_with fail
  refine hK.out _ _ hs ?_
  clear hK K
  try simp only [putz]
  refine Goes.one (i := 6) (o := ⟨some 46, _, _, _, _, _⟩) (by as_aux_lemma => kernel_rfl) rfl (fun K hK => ?_)
  go_simp
  with_reducible refine (turn_25 _ _ be).mono ?_
  rintro e' wc ⟨rfl, rfl⟩
  go_wp2_with fail
  refine hK.out _ _ hs ?_
  clear hK K
  try simp only [putz]
  refine Goes.one (i := 7) (o := ⟨some 47, _, _, _, _, _⟩) (by as_aux_lemma => kernel_rfl) rfl (fun K hK => ?_)
  go_simp
  have T1 : Hid (Tri ((wr.alloc (.cells #[.int .u32 (rot e 6 : Nat), .int .u32 (rot e 11 : Nat), .int .u32 (rot e 25 : Nat)] 63)).drew) wr.heap.size _ _ _) := hid (Tri.n1 wr _ _ _)
  have hs1 : ((wr.alloc (.cells #[.int .u32 (rot e 6 : Nat), .int .u32 (rot e 11 : Nat), .int .u32 (rot e 25 : Nat)] 63)).drew).cell? ⟨2, i, none⟩ = some (.int .u32 (kv : Int)) ∧ ((wr.alloc (.cells #[.int .u32 (rot e 6 : Nat), .int .u32 (rot e 11 : Nat), .int .u32 (rot e 25 : Nat)] 63)).drew).cell? ⟨g3, i, none⟩ = some (.int .u32 (wv : Int)) ∧ 2 < ((wr.alloc (.cells #[.int .u32 (rot e 6 : Nat), .int .u32 (rot e 11 : Nat), .int .u32 (rot e 25 : Nat)] 63)).drew).heap.size ∧ g3 < ((wr.alloc (.cells #[.int .u32 (rot e 6 : Nat), .int .u32 (rot e 11 : Nat), .int .u32 (rot e 25 : Nat)] 63)).drew).heap.size := HKA.out wr _ hS
  refine hK.out _ _ hs1 ?_
  have HW : Hid (Below wr.heap.size wr ((wr.alloc (.cells #[.int .u32 (rot e 6 : Nat), .int .u32 (rot e 11 : Nat), .int .u32 (rot e 25 : Nat)] 63)).drew)) := hid (((Below.refl _ _).alloc (Nat.le_refl _) _).drew)
  clear hK K hs hS
  generalize (wr.alloc (.cells #[.int .u32 (rot e 6 : Nat), .int .u32 (rot e 11 : Nat), .int .u32 (rot e 25 : Nat)] 63)).drew = w1 at *
  generalize wr.heap.size = s1 at *
  have hs := hs1
  clear hs1
  try simp only [putz]
  refine Goes.one (i := 8) (o := ⟨some 48, _, _, _, _, _⟩) (by as_aux_lemma => kernel_rfl) rfl (fun K hK => ?_)
  go_simp
  with_reducible refine (mix_any _ _ _ _ _ T1.out b6 b11 b25).mono ?_
  rintro e' wd ⟨rfl, rfl⟩
  go_wp2_with fail
  refine hK.out _ _ hs ?_
  clear hK K
  try simp only [putz]
  refine Goes.take (i := 9) (o := ⟨some 49, _, _, _, _, _⟩) (v := ?_) [] rfl (by as_aux_lemma => kernel_rfl) (by as_aux_lemma => kernel_rfl) (by as_aux_lemma => kernel_rfl) (fun _ _ _ h => h) (by as_aux_lemma => kernel_rfl) (fun L u h => h) (Or.inl ⟨by rfl, ?_⟩) hs ?_
  rotate_left
  · intro w hY; go_simp; try with_reducible rfl
  try simp only [putz]
  refine Goes.take (i := 18) (o := ⟨some 58, _, _, _, _, _⟩) (v := ?_) [] rfl (by as_aux_lemma => kernel_rfl) (by as_aux_lemma => kernel_rfl) (by as_aux_lemma => kernel_rfl) (fun _ _ _ h => h) (by as_aux_lemma => kernel_rfl) (fun L u h => h) (Or.inl ⟨by rfl, ?_⟩) hs ?_
  rotate_left
  · intro w hY; go_simp; try with_reducible rfl
  try simp only [putz]
  refine Goes.take (i := 22) (o := ⟨some 62, _, _, _, _, _⟩) (v := ?_) [] rfl (by as_aux_lemma => kernel_rfl) (by as_aux_lemma => kernel_rfl) (by as_aux_lemma => kernel_rfl) (fun _ _ _ h => h) (by as_aux_lemma => kernel_rfl) (fun L u h => h) (Or.inl ⟨by rfl, ?_⟩) hs ?_
  rotate_left
  · intro w hY; go_simp; try with_reducible rfl
  try simp only [putz]
  refine Goes.take (i := 26) (o := ⟨some 66, _, _, _, _, _⟩) (v := ?_) [] rfl (by as_aux_lemma => kernel_rfl) (by as_aux_lemma => kernel_rfl) (by as_aux_lemma => kernel_rfl) (fun _ _ _ h => h) (by as_aux_lemma => kernel_rfl) (fun L u h => h) (Or.inl ⟨by rfl, ?_⟩) hs ?_
  rotate_left
  · intro w hY; go_simp; try with_reducible rfl
  try simp only [putz]
  refine Goes.take (i := 27) (o := ⟨some 15, _, _, _, _, _⟩) (v := ?_) [] rfl (by as_aux_lemma => kernel_rfl) (by as_aux_lemma => kernel_rfl) (by as_aux_lemma => kernel_rfl) (fun _ _ _ h => h) (by as_aux_lemma => kernel_rfl) (fun L u h => h) (Or.inl ⟨by rfl, ?_⟩) hs ?_
  rotate_left
  · intro w hY; go_simp; try with_reducible rfl
  try simp only [putz]
  refine Goes.done (by as_aux_lemma => kernel_rfl) ?_ _
  refine NoPanic.normal ?_
  rw [HT.out]
  exact hQ.out _ _ _ _ _ _ _ _ _ _ _ _ _ _ _ _ _ _ _ _ _ _ _ _ _ _ _ _ HW
end Go.Proofs.YtgmnpkgnedngjaaDoor
