/-
  burrowref05.block: what its loops carry, and the regions that reckon, walked. Conditions: none.
-/
import Derived.Test.YtaejcifpipegnaaDoorOrdT
import Derived.Test.YtaejcifpipegnaaDoorRnd
namespace Go.Proofs.YtaejcifpipegnaaDoor
open Go.RowKit
set_option linter.unusedVariables false
set_option linter.unusedSimpArgs false

/-- what stands while the document takes a block in: h's box, the answer's, the block's numbers; the bytes and the table as they came -/
structure Rb (w : World) (h : List Nat) (b : List UInt8) (gb o gt : Nat) (l : List Nat) (w' : World) : Prop where
  below : Below w.heap.size w w'
  n : Us w' w.heap.size 57 h
  z : Us w' (w.heap.size + 1) 57 (List.replicate 8 0)
  l : Us w' (w.heap.size + 1 + 1) 69 l
  b : ∀ j, (hj : j < b.length) → w.cell? ⟨gb, o + j, none⟩ = some (.int .u8 ((b[j].toNat : Nat) : Int))
  hb : gb < w.heap.size
  k : Us w gt 56 kk
theorem Rb.bytes {w w' : World} {h : List Nat} {b : List UInt8} {gb o gt : Nat} {l : List Nat} (H : Rb w h b gb o gt l w') (j : Nat) (hj : j < b.length) : w'.cell? ⟨gb, o + j, none⟩ = some (.int .u8 ((b[j].toNat : Nat) : Int)) :=
  (H.below.cell (p := ⟨gb, o + j, none⟩) H.hb).trans (H.b j hj)
theorem Rb.kt {w w' : World} {h : List Nat} {b : List UInt8} {gb o gt : Nat} {l : List Nat} (H : Rb w h b gb o gt l w') : Us w' gt 56 kk := H.k.on H.below
theorem Rb.init (w : World) (h : List Nat) (b : List UInt8) (gb o gt : Nat) (hb : ∀ j, (hj : j < b.length) → w.cell? ⟨gb, o + j, none⟩ = some (.int .u8 ((b[j].toNat : Nat) : Int))) (hg : gb < w.heap.size) (hk : Us w gt 56 kk) :
    Hid (Rb w h b gb o gt (List.replicate 64 0) (((w.alloc (.cells (dv h).toArray 57)).alloc (.cells #[.int .u32 0, .int .u32 0, .int .u32 0, .int .u32 0, .int .u32 0, .int .u32 0, .int .u32 0, .int .u32 0] 57)).alloc (.cells #[.int .u32 0, .int .u32 0, .int .u32 0, .int .u32 0, .int .u32 0, .int .u32 0, .int .u32 0, .int .u32 0, .int .u32 0, .int .u32 0, .int .u32 0, .int .u32 0, .int .u32 0, .int .u32 0, .int .u32 0, .int .u32 0, .int .u32 0, .int .u32 0, .int .u32 0, .int .u32 0, .int .u32 0, .int .u32 0, .int .u32 0, .int .u32 0, .int .u32 0, .int .u32 0, .int .u32 0, .int .u32 0, .int .u32 0, .int .u32 0, .int .u32 0, .int .u32 0, .int .u32 0, .int .u32 0, .int .u32 0, .int .u32 0, .int .u32 0, .int .u32 0, .int .u32 0, .int .u32 0, .int .u32 0, .int .u32 0, .int .u32 0, .int .u32 0, .int .u32 0, .int .u32 0, .int .u32 0, .int .u32 0, .int .u32 0, .int .u32 0, .int .u32 0, .int .u32 0, .int .u32 0, .int .u32 0, .int .u32 0, .int .u32 0, .int .u32 0, .int .u32 0, .int .u32 0, .int .u32 0, .int .u32 0, .int .u32 0, .int .u32 0, .int .u32 0] 69))) := by
  have s1 : ∀ (w : World) (o : Obj), (w.alloc o).heap.size = w.heap.size + 1 := fun w o => Array.size_push _
  refine hid ⟨(((Below.refl _ _).alloc (Nat.le_refl _) _).alloc (by rw [s1]; omega) _).alloc (by rw [s1, s1]; omega) _, Us.alloc (Us.alloc (heap_alloc_new _ _) _) _, Us.alloc ?_ _, ?_, hb, hg, hk⟩
  · rw [← s1 w (.cells (dv h).toArray 57)]; exact heap_alloc_new _ _
  · rw [← s1 w (.cells (dv h).toArray 57), ← s1 _ (.cells #[.int .u32 0, .int .u32 0, .int .u32 0, .int .u32 0, .int .u32 0, .int .u32 0, .int .u32 0, .int .u32 0] 57)]; exact heap_alloc_new _ _
theorem Rb.set {w w' : World} {h : List Nat} {b : List UInt8} {gb o gt : Nat} {l : List Nat} (H : Rb w h b gb o gt l w') (k v : Nat) : Rb w h b gb o gt (l.set k v) (w'.setCell ⟨w.heap.size + 1 + 1, k, none⟩ (.int .u32 (v : Int))) :=
  ⟨H.below.setCell (by simp; omega) _, H.n.other _ (by omega), H.z.other _ (by omega), H.l.set k v, H.b, H.hb, H.k⟩
theorem Rb.drew {w w' : World} {h : List Nat} {b : List UInt8} {gb o gt : Nat} {l : List Nat} (H : Rb w h b gb o gt l w') : Rb w h b gb o gt l w'.drew := ⟨H.below.drew, H.n, H.z, H.l, H.b, H.hb, H.k⟩
theorem sh_or (b c i : Nat) (h : c < 2 ^ i) : b * 2 ^ i ||| c = b * 2 ^ i + c := by
  have h := Nat.shiftLeft_add_eq_or_of_lt h b
  rw [Nat.shiftLeft_eq] at h
  exact h.symm
theorem or_a (b0 b1 : Nat) (h1 : b1 < 256) : b0 * 16777216 ||| b1 * 65536 = b0 * 16777216 + b1 * 65536 := sh_or b0 (b1 * 65536) 24 (by omega)
theorem or_b (b0 b1 b2 : Nat) (h2 : b2 < 256) : (b0 * 16777216 + b1 * 65536) ||| b2 * 256 = b0 * 16777216 + b1 * 65536 + b2 * 256 := by
  have h := sh_or (b0 * 256 + b1) (b2 * 256) 16 (by omega)
  have e : (b0 * 256 + b1) * 2 ^ 16 = b0 * 16777216 + b1 * 65536 := by omega
  rw [e] at h; exact h
theorem or_c (b0 b1 b2 b3 : Nat) (h3 : b3 < 256) : (b0 * 16777216 + b1 * 65536 + b2 * 256) ||| b3 = b0 * 16777216 + b1 * 65536 + b2 * 256 + b3 := by
  have h := sh_or (b0 * 65536 + b1 * 256 + b2) b3 8 (by omega)
  have e : (b0 * 65536 + b1 * 256 + b2) * 2 ^ 8 = b0 * 16777216 + b1 * 65536 + b2 * 256 := by omega
  rw [e] at h; exact h
/-- four bytes as one number -/
theorem four_eq (b0 b1 b2 b3 : Nat) (h0 : b0 < 256) (h1 : b1 < 256) (h2 : b2 < 256) (h3 : b3 < 256) :
    bits .or .u32 (bits .or .u32 (bits .or .u32 ((b0 : Int) % 4294967296 * 16777216 % 4294967296) ((b1 : Int) % 4294967296 * 65536 % 4294967296)) ((b2 : Int) % 4294967296 * 256 % 4294967296)) ((b3 : Int) % 4294967296) = ((b0 * 16777216 + b1 * 65536 + b2 * 256 + b3 : Nat) : Int) := by
  have e3 : (b3 : Int) % 4294967296 = (b3 : Int) := by omega
  have e0 : (b0 : Int) % 4294967296 * 16777216 % 4294967296 = ((b0 * 16777216 : Nat) : Int) := by omega
  have e1 : (b1 : Int) % 4294967296 * 65536 % 4294967296 = ((b1 * 65536 : Nat) : Int) := by omega
  have e2 : (b2 : Int) % 4294967296 * 256 % 4294967296 = ((b2 * 256 : Nat) : Int) := by omega
  have s0 := or_a b0 b1 h1
  have s1 := or_b b0 b1 b2 h2
  have s2 := or_c b0 b1 b2 b3 h3
  rw [e0, e1, e2, e3, u32_or_nat _ _ (by omega) (by omega), s0, u32_or_nat _ _ (by omega) (by omega), s1, u32_or_nat _ _ (by omega) (by omega), s2]
theorem tell4 (b : List UInt8) (k : Nat) (h : 4 * k + 3 < b.length) : tell ((b.drop (4 * k)).take 4) = b[4 * k].toNat * 16777216 + b[4 * k + 1].toNat * 65536 + b[4 * k + 2].toNat * 256 + b[4 * k + 3].toNat := by
  rw [List.drop_eq_getElem_cons (show 4 * k < b.length by omega), List.drop_eq_getElem_cons (show 4 * k + 1 < b.length by omega), List.drop_eq_getElem_cons (show 4 * k + 1 + 1 < b.length by omega), List.drop_eq_getElem_cons (show 4 * k + 1 + 1 + 1 < b.length by omega)]
  simp only [List.take_succ_cons, List.take_zero, tell, List.foldl_cons, List.foldl_nil, Nat.zero_mul, Nat.zero_add]
  have e2 : b[4 * k + 1 + 1] = b[4 * k + 2] := rfl
  have e3 : b[4 * k + 1 + 1 + 1] = b[4 * k + 3] := rfl
  rw [e2, e3]
  omega
/-- what a round of the second loop leans on -/
theorem rb_facts {w wr : World} {h : List Nat} {b : List UInt8} {gb o gt : Nat} {l : List Nat} {k : Nat} (HS : Rb w h b gb o gt l wr) (HL : l.length = 64) (HA : ∀ j, j < 64 → at' l j = at' (ext (own b 16) (k - 16)) j) (hk0 : 16 ≤ k) (hlt : k < 64) :
    ∃ p15 p16 p7 p2 x v16 v7 y zx zy : Nat, (k : Int) - 15 = (p15 : Int) ∧ (k : Int) - 16 = (p16 : Int) ∧ (k : Int) - 7 = (p7 : Int) ∧ (k : Int) - 2 = (p2 : Int) ∧ p15 < 64 ∧ p2 < 64 ∧
      wr.cell? ⟨w.heap.size + 1 + 1, p15, none⟩ = some (.int .u32 (x : Int)) ∧ wr.cell? ⟨w.heap.size + 1 + 1, p2, none⟩ = some (.int .u32 (y : Int)) ∧
      x < 4294967296 ∧ y < 4294967296 ∧ (x : Int) / 8 = (zx : Int) ∧ (y : Int) / 1024 = (zy : Int) ∧
      IntKind.i64.wrap (p16 : Int) = (p16 : Int) ∧ IntKind.i64.wrap (p7 : Int) = (p7 : Int) ∧ (p16 : Int) < 64 ∧ (p7 : Int) < 64 ∧ (k : Int) < 64 ∧ (0 : Int) ≤ p16 ∧ (0 : Int) ≤ p7 ∧ (0 : Int) ≤ k ∧
      (wr.cell? ⟨w.heap.size + 1 + 1, p16, none⟩ = some (.int .u32 (v16 : Int)) ∧ wr.cell? ⟨w.heap.size + 1 + 1, p7, none⟩ = some (.int .u32 (v7 : Int)) ∧ w.heap.size + 1 + 1 < wr.heap.size) ∧
      Hid (wr.cell? ⟨w.heap.size + 1 + 1, k, none⟩ = some (.int .u32 (at' l k : Nat)) ∧ wr.frozen? ⟨w.heap.size + 1 + 1, k, none⟩ = false) ∧
      Hid (∀ (W : World) (v : Value), (W.cell? ⟨w.heap.size + 1 + 1, p16, none⟩ = some (.int .u32 (v16 : Int)) ∧ W.cell? ⟨w.heap.size + 1 + 1, p7, none⟩ = some (.int .u32 (v7 : Int)) ∧ w.heap.size + 1 + 1 < W.heap.size) → ((W.setCell ⟨w.heap.size + 1 + 1, k, none⟩ v).cell? ⟨w.heap.size + 1 + 1, p16, none⟩ = some (.int .u32 (v16 : Int)) ∧ (W.setCell ⟨w.heap.size + 1 + 1, k, none⟩ v).cell? ⟨w.heap.size + 1 + 1, p7, none⟩ = some (.int .u32 (v7 : Int)) ∧ w.heap.size + 1 + 1 < (W.setCell ⟨w.heap.size + 1 + 1, k, none⟩ v).heap.size)) ∧
      Hid (IntKind.u32.wrap (IntKind.u32.wrap (IntKind.u32.wrap ((v16 : Int) + (v7 : Int)) + bits BinOp.xor IntKind.u32 (bits BinOp.xor IntKind.u32 ((rot x 7 : Nat) : Int) ((rot x 18 : Nat) : Int)) (zx : Int)) + bits BinOp.xor IntKind.u32 (bits BinOp.xor IntKind.u32 ((rot y 17 : Nat) : Int) ((rot y 19 : Nat) : Int)) (zy : Int)) = ((nxw (ext (own b 16) (k - 16)) : Nat) : Int)) := by
  have HM : Sm (ext (own b 16) (k - 16)) := ext_sm (own_sm b 16) _
  have hE : (ext (own b 16) (k - 16)).length = k := by rw [ext_length, own_length]; omega
  have lt : ∀ j, j < 64 → at' l j < 4294967296 := fun j hj => by rw [HA j hj]; exact at_sm HM _
  have b15 := lt (k - 15) (by omega)
  have b2 := lt (k - 2) (by omega)
  refine ⟨k - 15, k - 16, k - 7, k - 2, at' l (k - 15), at' l (k - 16), at' l (k - 7), at' l (k - 2), at' l (k - 15) / 8, at' l (k - 2) / 1024, by omega, by omega, by omega, by omega, by omega, by omega,
    HS.l.cell _ (by omega), HS.l.cell _ (by omega), b15, b2, by omega, by omega,
    by rw [IntKind.wrap_i64]; omega, by rw [IntKind.wrap_i64]; omega, by omega, by omega, by omega, by omega, by omega, by omega, ⟨HS.l.cell _ (by omega), HS.l.cell _ (by omega), HS.l.lt⟩,
    hid ⟨HS.l.cell _ (by omega), HS.l.frozen _⟩,
    hid (fun W v h => ⟨by rw [World.cell?_setCell_other _ _ _ _ (by simp; try omega)]; exact h.1, by rw [World.cell?_setCell_other _ _ _ _ (by simp; try omega)]; exact h.2.1, by have := h.2.2; simp; omega⟩), hid ?_⟩
  have e0 : nxw (ext (own b 16) (k - 16)) = (((at' l (k - 16) + s0 (at' l (k - 15))) % 4294967296 + at' l (k - 7)) % 4294967296 + s1 (at' l (k - 2))) % 4294967296 := by
    rw [nxw, hE, HA (k - 16) (by omega), HA (k - 15) (by omega), HA (k - 7) (by omega), HA (k - 2) (by omega)]
  have z1 : at' l (k - 15) / 8 < 4294967296 := by omega
  have z2 : at' l (k - 2) / 1024 < 4294967296 := by omega
  rw [e0, s0, s1, show (2 : Nat) ^ 3 = 8 by decide, show (2 : Nat) ^ 10 = 1024 by decide, u32_xor_nat _ _ (rot_lt 7 b15) (rot_lt 18 b15), u32_xor_nat _ _ (xor_lt (rot_lt 7 b15) (rot_lt 18 b15)) z1, u32_xor_nat _ _ (rot_lt 17 b2) (rot_lt 19 b2), u32_xor_nat _ _ (xor_lt (rot_lt 17 b2) (rot_lt 19 b2)) z2, IntKind.wrap_u32, IntKind.wrap_u32, IntKind.wrap_u32]
  omega
/-- the region of the second loop that reckons -/
noncomputable def rb11 : Code := ((Tryd.f30.body.bind (findRegion 11)).getD .skip)
set_option maxRecDepth 100000 in
set_option maxHeartbeats 1000000 in
theorem rb11_ok {w wr : World} {k p16 p7 x v16 v7 y zx zy nv old : Nat} {Q : Exit → Act → World → Prop} (hp16 : (k : Int) - 16 = (p16 : Int)) (hp7 : (k : Int) - 7 = (p7 : Int))
    (b15 : x < 4294967296) (b2 : y < 4294967296) (hzx : (x : Int) / 8 = (zx : Int)) (hzy : (y : Int) / 1024 = (zy : Int))
    (w16 : IntKind.i64.wrap (p16 : Int) = (p16 : Int)) (w7 : IntKind.i64.wrap (p7 : Int) = (p7 : Int)) (i16 : (p16 : Int) < 64) (i7 : (p7 : Int) < 64) (ik : (k : Int) < 64) (j16 : (0 : Int) ≤ p16) (j7 : (0 : Int) ≤ p7) (jk : (0 : Int) ≤ k)
    (hS : wr.cell? ⟨w.heap.size + 1 + 1, p16, none⟩ = some (.int .u32 (v16 : Int)) ∧ wr.cell? ⟨w.heap.size + 1 + 1, p7, none⟩ = some (.int .u32 (v7 : Int)) ∧ w.heap.size + 1 + 1 < wr.heap.size) (nk : wr.cell? ⟨w.heap.size + 1 + 1, k, none⟩ = some (.int .u32 (old : Int))) (nf : wr.frozen? ⟨w.heap.size + 1 + 1, k, none⟩ = false)
    (HKC : Hid (∀ (W : World) (v : Value), (W.cell? ⟨w.heap.size + 1 + 1, p16, none⟩ = some (.int .u32 (v16 : Int)) ∧ W.cell? ⟨w.heap.size + 1 + 1, p7, none⟩ = some (.int .u32 (v7 : Int)) ∧ w.heap.size + 1 + 1 < W.heap.size) → ((W.setCell ⟨w.heap.size + 1 + 1, k, none⟩ v).cell? ⟨w.heap.size + 1 + 1, p16, none⟩ = some (.int .u32 (v16 : Int)) ∧ (W.setCell ⟨w.heap.size + 1 + 1, k, none⟩ v).cell? ⟨w.heap.size + 1 + 1, p7, none⟩ = some (.int .u32 (v7 : Int)) ∧ w.heap.size + 1 + 1 < (W.setCell ⟨w.heap.size + 1 + 1, k, none⟩ v).heap.size)))
    (HV : Hid (IntKind.u32.wrap (IntKind.u32.wrap (IntKind.u32.wrap ((v16 : Int) + (v7 : Int)) + bits BinOp.xor IntKind.u32 (bits BinOp.xor IntKind.u32 ((rot x 7 : Nat) : Int) ((rot x 18 : Nat) : Int)) (zx : Int)) + bits BinOp.xor IntKind.u32 (bits BinOp.xor IntKind.u32 ((rot y 17 : Nat) : Int) ((rot y 19 : Nat) : Int)) (zy : Int)) = (nv : Int)))
    (c0 c1 c2 c3 c4 c5 c6 c8 c12 c13 c14 c15 c16 c17 c18 c19 c20 c21 c22 c23 c24 c25 c26 c27 c28 c29 c30 c31 c32 c33 c34 c35 c36 c37 c38 c39 c40 c41 c42 c43 c44 c45 c46 c47 c48 c49 c50 c51 c52 c53 c54 c55 c56 c57 c58 c59 c60 c61 c62 c63 c64 c65 c66 c67 c68 c69 c70 c71 c72 c73 c74 c75 c76 c77 c78 c79 c80 c81 c82 c83 c84 c85 c86 c87 c88 c89 c90 c91 c92 c93 c94 c95 c96 c97 c98 c99 c100 c101 c102 c103 c104 c105 c106 c107 c108 c109 c110 c111 c112 c113 c114 c115 c116 c117 c118 c119 c120 c121 c122 c123 c124 c125 c126 c127 c128 c129 c130 c131 c132 c133 c134 c135 c136 c137 c138 c139 c140 c141 c142 c143 c144 c145 c146 c147 c148 c149 c150 c151 c152 c153 c154 c155 c156 c157 c158 c159 c160 c161 c162 c163 c164 c165 c166 c167 c168 c169 c170 c171 c172 c173 c174 c175 c176 c177 c178 c179 c180 c181 c182 c183 c184 c185 c186 c187 c188 c189 c190 c191 c192 c193 c194 : Value)
    (hQ : Hid (∀ (d70 d71 d72 d73 d74 d75 d76 d77 d78 d79 d80 d81 d82 d83 d84 d85 d86 d87 d88 d89 d90 d91 d92 d93 d94 d95 d96 d97 d98 : Value), Q .normal ⟨#[c0, c1, c2, c3, c4, c5, c6, .pointer (some ⟨w.heap.size + 1 + 1, 0, none⟩), c8, .int .i64 (k : Int), .int .u32 (x : Int), .int .u32 (y : Int), c12, c13, c14, c15, c16, c17, c18, c19, c20, c21, c22, c23, c24, c25, c26, c27, c28, c29, c30, c31, c32, c33, c34, c35, c36, c37, c38, c39, c40, c41, c42, c43, c44, c45, c46, c47, c48, c49, c50, c51, c52, c53, c54, c55, c56, c57, c58, c59, c60, c61, c62, c63, c64, c65, c66, c67, c68, c69, d70, d71, d72, d73, d74, d75, d76, d77, d78, d79, d80, d81, d82, d83, d84, d85, d86, d87, d88, d89, d90, d91, d92, d93, d94, d95, d96, d97, d98, c99, c100, c101, c102, c103, c104, c105, c106, c107, c108, c109, c110, c111, c112, c113, c114, c115, c116, c117, c118, c119, c120, c121, c122, c123, c124, c125, c126, c127, c128, c129, c130, c131, c132, c133, c134, c135, c136, c137, c138, c139, c140, c141, c142, c143, c144, c145, c146, c147, c148, c149, c150, c151, c152, c153, c154, c155, c156, c157, c158, c159, c160, c161, c162, c163, c164, c165, c166, c167, c168, c169, c170, c171, c172, c173, c174, c175, c176, c177, c178, c179, c180, c181, c182, c183, c184, c185, c186, c187, c188, c189, c190, c191, c192, c193, c194], []⟩ (wr.drew.setCell ⟨w.heap.size + 1 + 1, k, none⟩ (.int .u32 (nv : Int)))))  :
    Code.wp Tryd.prog rb11 Q ⟨#[c0, c1, c2, c3, c4, c5, c6, .pointer (some ⟨w.heap.size + 1 + 1, 0, none⟩), c8, .int .i64 (k : Int), .int .u32 (x : Int), .int .u32 (y : Int), c12, c13, c14, c15, c16, c17, c18, c19, c20, c21, c22, c23, c24, c25, c26, c27, c28, c29, c30, c31, c32, c33, c34, c35, c36, c37, c38, c39, c40, c41, c42, c43, c44, c45, c46, c47, c48, c49, c50, c51, c52, c53, c54, c55, c56, c57, c58, c59, c60, c61, c62, c63, c64, c65, c66, c67, c68, c69, c70, c71, c72, c73, c74, c75, c76, c77, c78, c79, c80, c81, c82, c83, c84, c85, c86, c87, c88, c89, c90, c91, c92, c93, c94, c95, c96, c97, c98, c99, c100, c101, c102, c103, c104, c105, c106, c107, c108, c109, c110, c111, c112, c113, c114, c115, c116, c117, c118, c119, c120, c121, c122, c123, c124, c125, c126, c127, c128, c129, c130, c131, c132, c133, c134, c135, c136, c137, c138, c139, c140, c141, c142, c143, c144, c145, c146, c147, c148, c149, c150, c151, c152, c153, c154, c155, c156, c157, c158, c159, c160, c161, c162, c163, c164, c165, c166, c167, c168, c169, c170, c171, c172, c173, c174, c175, c176, c177, c178, c179, c180, c181, c182, c183, c184, c185, c186, c187, c188, c189, c190, c191, c192, c193, c194], []⟩ wr := by
  conv => arg 2; whnf
  have hs : wr.drew.cell? ⟨w.heap.size + 1 + 1, p16, none⟩ = some (.int .u32 (v16 : Int)) ∧ wr.drew.cell? ⟨w.heap.size + 1 + 1, p7, none⟩ = some (.int .u32 (v7 : Int)) ∧ w.heap.size + 1 + 1 < wr.drew.heap.size := hS
  refine wp_region_noPanic ?_
  refine Goes.region (fun (L : Array Bool) (w' : World) => w'.cell? ⟨w.heap.size + 1 + 1, p16, none⟩ = some (.int .u32 (v16 : Int)) ∧ w'.cell? ⟨w.heap.size + 1 + 1, p7, none⟩ = some (.int .u32 (v7 : Int)) ∧ w.heap.size + 1 + 1 < w'.heap.size) (by as_aux_lemma => kernel_rfl) ?_
  refine Goes.take (i := 0) (o := ⟨some 70, _, _, _, _, _⟩) (v := ?_) [] rfl (by as_aux_lemma => kernel_rfl) (by as_aux_lemma => kernel_rfl) (by as_aux_lemma => kernel_rfl) (fun _ _ _ h => h) (by as_aux_lemma => kernel_rfl) (fun L u h => h) (Or.inl ⟨by rfl, ?_⟩) hs ?_
  rotate_left
  · intro w hY; go_simp; try with_reducible rfl
  try simp only [putz]
  refine Goes.take (i := 1) (o := ⟨some 71, _, _, _, _, _⟩) (v := ?_) [] rfl (by as_aux_lemma => kernel_rfl) (by as_aux_lemma => kernel_rfl) (by as_aux_lemma => kernel_rfl) (fun _ _ _ h => h) (by as_aux_lemma => kernel_rfl) (fun L u h => h) (Or.inl ⟨by rfl, ?_⟩) hs ?_
  rotate_left
  · intro w hY; go_simp; try with_reducible rfl
  try simp only [putz]
  refine Goes.take (i := 2) (o := ⟨some 72, _, _, _, _, _⟩) (v := ?_) [] rfl (by as_aux_lemma => kernel_rfl) (by as_aux_lemma => kernel_rfl) (by as_aux_lemma => kernel_rfl) (fun _ _ _ h => h) (by as_aux_lemma => kernel_rfl) (fun L u h => h) (Or.inl ⟨by rfl, ?_⟩) hs ?_
  rotate_left
  · intro w hY; go_simp; try with_reducible rfl
  try simp only [putz]
  refine Goes.take (i := 3) (o := ⟨some 73, _, _, _, _, _⟩) (v := ?_) [] rfl (by as_aux_lemma => kernel_rfl) (by as_aux_lemma => kernel_rfl) (by as_aux_lemma => kernel_rfl) (fun _ _ _ h => h) (by as_aux_lemma => kernel_rfl) (fun L u h => h) (Or.inl ⟨by rfl, ?_⟩) hs ?_
  rotate_left
  · intro w hY; go_simp; try with_reducible rfl
  try simp only [putz]
  refine Goes.take (i := 4) (o := ⟨some 74, _, _, _, _, _⟩) (v := ?_) [] rfl (by as_aux_lemma => kernel_rfl) (by as_aux_lemma => kernel_rfl) (by as_aux_lemma => kernel_rfl) (fun _ _ _ h => h) (by as_aux_lemma => kernel_rfl) (fun L u h => h) (Or.inl ⟨by rfl, ?_⟩) hs ?_
  rotate_left
  · intro w hY; obtain ⟨up, hL⟩ := hY; have hX := hL.2.1; clear hL; (try dsimp only at hX); go_simp; try with_reducible rfl
  try simp only [putz]
  refine Goes.take (i := 5) (o := ⟨some 75, _, _, _, _, _⟩) (v := ?_) [] rfl (by as_aux_lemma => kernel_rfl) (by as_aux_lemma => kernel_rfl) (by as_aux_lemma => kernel_rfl) (fun _ _ _ h => h) (by as_aux_lemma => kernel_rfl) (fun L u h => h) (Or.inl ⟨by rfl, ?_⟩) hs ?_
  rotate_left
  · intro w hY; go_simp; try with_reducible rfl
  try simp only [putz]
  refine Goes.take (i := 6) (o := ⟨some 76, _, _, _, _, _⟩) (v := ?_) [] rfl (by as_aux_lemma => kernel_rfl) (by as_aux_lemma => kernel_rfl) (by as_aux_lemma => kernel_rfl) (fun _ _ _ h => h) (by as_aux_lemma => kernel_rfl) (fun L u h => h) (Or.inl ⟨by rfl, ?_⟩) hs ?_
  rotate_left
  · intro w hY; go_simp; try with_reducible rfl
  try simp only [putz]
  refine Goes.take (i := 7) (o := ⟨some 77, _, _, _, _, _⟩) (v := ?_) [] rfl (by as_aux_lemma => kernel_rfl) (by as_aux_lemma => kernel_rfl) (by as_aux_lemma => kernel_rfl) (fun _ _ _ h => h) (by as_aux_lemma => kernel_rfl) (fun L u h => h) (Or.inl ⟨by rfl, ?_⟩) hs ?_
  rotate_left
  · intro w hY; go_simp; try with_reducible rfl
  try simp only [putz]
  refine Goes.take (i := 8) (o := ⟨some 78, _, _, _, _, _⟩) (v := ?_) [] rfl (by as_aux_lemma => kernel_rfl) (by as_aux_lemma => kernel_rfl) (by as_aux_lemma => kernel_rfl) (fun _ _ _ h => h) (by as_aux_lemma => kernel_rfl) (fun L u h => h) (Or.inl ⟨by rfl, ?_⟩) hs ?_
  rotate_left
  · intro w hY; obtain ⟨up, hL⟩ := hY; have hX := hL.2.2.1; clear hL; (try dsimp only at hX); go_simp; try with_reducible rfl
  try simp only [putz]
  refine Goes.take (i := 9) (o := ⟨some 79, _, _, _, _, _⟩) (v := ?_) [] rfl (by as_aux_lemma => kernel_rfl) (by as_aux_lemma => kernel_rfl) (by as_aux_lemma => kernel_rfl) (fun _ _ _ h => h) (by as_aux_lemma => kernel_rfl) (fun L u h => h) (Or.inl ⟨by rfl, ?_⟩) hs ?_
  rotate_left
  · intro w hY; go_simp; try with_reducible rfl
  try simp only [putz]
  refine Goes.take (i := 10) (o := ⟨some 80, _, _, _, _, _⟩) (v := ?_) [] rfl (by as_aux_lemma => kernel_rfl) (by as_aux_lemma => kernel_rfl) (by as_aux_lemma => kernel_rfl) (fun _ _ _ h => h) (by as_aux_lemma => kernel_rfl) (fun L u h => h) (Or.inl ⟨by rfl, ?_⟩) hs ?_
  rotate_left
  · intro w hY; go_simp; try with_reducible rfl
  try simp only [putz]
  refine Goes.take (i := 12) (o := ⟨some 82, _, _, _, _, _⟩) (v := ?_) [] rfl (by as_aux_lemma => kernel_rfl) (by as_aux_lemma => kernel_rfl) (by as_aux_lemma => kernel_rfl) (fun _ _ _ h => h) (by as_aux_lemma => kernel_rfl) (fun L u h => h) (Or.inl ⟨by rfl, ?_⟩) hs ?_
  rotate_left
  · intro w hY; go_simp; try with_reducible rfl
  try simp only [putz]
  refine Goes.take (i := 15) (o := ⟨some 85, _, _, _, _, _⟩) (v := ?_) [] rfl (by as_aux_lemma => kernel_rfl) (by as_aux_lemma => kernel_rfl) (by as_aux_lemma => kernel_rfl) (fun _ _ _ h => h) (by as_aux_lemma => kernel_rfl) (fun L u h => h) (Or.inl ⟨by rfl, ?_⟩) hs ?_
  rotate_left
  · intro w hY; go_simp; try with_reducible rfl
  try simp only [putz]
  refine Goes.take (i := 16) (o := ⟨some 86, _, _, _, _, _⟩) (v := ?_) [] rfl (by as_aux_lemma => kernel_rfl) (by as_aux_lemma => kernel_rfl) (by as_aux_lemma => kernel_rfl) (fun _ _ _ h => h) (by as_aux_lemma => kernel_rfl) (fun L u h => h) (Or.inl ⟨by rfl, ?_⟩) hs ?_
  rotate_left
  · intro w hY; go_simp; try with_reducible rfl
  try simp only [putz]
  refine Goes.take (i := 19) (o := ⟨some 89, _, _, _, _, _⟩) (v := ?_) [] rfl (by as_aux_lemma => kernel_rfl) (by as_aux_lemma => kernel_rfl) (by as_aux_lemma => kernel_rfl) (fun _ _ _ h => h) (by as_aux_lemma => kernel_rfl) (fun L u h => h) (Or.inl ⟨by rfl, ?_⟩) hs ?_
  rotate_left
  · intro w hY; go_simp; try with_reducible rfl
  try simp only [putz]
  refine Goes.take (i := 21) (o := ⟨some 91, _, _, _, _, _⟩) (v := ?_) [] rfl (by as_aux_lemma => kernel_rfl) (by as_aux_lemma => kernel_rfl) (by as_aux_lemma => kernel_rfl) (fun _ _ _ h => h) (by as_aux_lemma => kernel_rfl) (fun L u h => h) (Or.inl ⟨by rfl, ?_⟩) hs ?_
  rotate_left
  · intro w hY; go_simp; try with_reducible rfl
  try simp only [putz]
  refine Goes.take (i := 24) (o := ⟨some 94, _, _, _, _, _⟩) (v := ?_) [] rfl (by as_aux_lemma => kernel_rfl) (by as_aux_lemma => kernel_rfl) (by as_aux_lemma => kernel_rfl) (fun _ _ _ h => h) (by as_aux_lemma => kernel_rfl) (fun L u h => h) (Or.inl ⟨by rfl, ?_⟩) hs ?_
  rotate_left
  · intro w hY; go_simp; try with_reducible rfl
  try simp only [putz]
  refine Goes.take (i := 25) (o := ⟨some 95, _, _, _, _, _⟩) (v := ?_) [] rfl (by as_aux_lemma => kernel_rfl) (by as_aux_lemma => kernel_rfl) (by as_aux_lemma => kernel_rfl) (fun _ _ _ h => h) (by as_aux_lemma => kernel_rfl) (fun L u h => h) (Or.inl ⟨by rfl, ?_⟩) hs ?_
  rotate_left
  · intro w hY; go_simp; try with_reducible rfl
  try simp only [putz]
  refine Goes.one (i := 11) (o := ⟨some 81, _, _, _, _, _⟩) (by as_aux_lemma => kernel_rfl) rfl (fun K hK => ?_)
  go_simp
  with_reducible refine (round_7 _ _ b15).mono ?_
  rintro e' wa ⟨rfl, rfl⟩
  go_wp2_with fail
  refine hK.out _ _ hs ?_
  clear hK K
  try simp only [putz]
  refine Goes.one (i := 13) (o := ⟨some 83, _, _, _, _, _⟩) (by as_aux_lemma => kernel_rfl) rfl (fun K hK => ?_)
  go_simp
  with_reducible refine (round_18 _ _ b15).mono ?_
  rintro e' wb ⟨rfl, rfl⟩
  go_wp2_with fail
  refine hK.out _ _ hs ?_
  clear hK K
  try simp only [putz]
  refine Goes.take (i := 14) (o := ⟨some 84, _, _, _, _, _⟩) (v := ?_) [] rfl (by as_aux_lemma => kernel_rfl) (by as_aux_lemma => kernel_rfl) (by as_aux_lemma => kernel_rfl) (fun _ _ _ h => h) (by as_aux_lemma => kernel_rfl) (fun L u h => h) (Or.inl ⟨by rfl, ?_⟩) hs ?_
  rotate_left
  · intro w hY; go_simp; try with_reducible rfl
  try simp only [putz]
  refine Goes.take (i := 17) (o := ⟨some 87, _, _, _, _, _⟩) (v := ?_) [] rfl (by as_aux_lemma => kernel_rfl) (by as_aux_lemma => kernel_rfl) (by as_aux_lemma => kernel_rfl) (fun _ _ _ h => h) (by as_aux_lemma => kernel_rfl) (fun L u h => h) (Or.inl ⟨by rfl, ?_⟩) hs ?_
  rotate_left
  · intro w hY; go_simp; try with_reducible rfl
  try simp only [putz]
  refine Goes.take (i := 18) (o := ⟨some 88, _, _, _, _, _⟩) (v := ?_) [] rfl (by as_aux_lemma => kernel_rfl) (by as_aux_lemma => kernel_rfl) (by as_aux_lemma => kernel_rfl) (fun _ _ _ h => h) (by as_aux_lemma => kernel_rfl) (fun L u h => h) (Or.inl ⟨by rfl, ?_⟩) hs ?_
  rotate_left
  · intro w hY; go_simp; try with_reducible rfl
  try simp only [putz]
  refine Goes.one (i := 20) (o := ⟨some 90, _, _, _, _, _⟩) (by as_aux_lemma => kernel_rfl) rfl (fun K hK => ?_)
  go_simp
  with_reducible refine (round_17 _ _ b2).mono ?_
  rintro e' wc ⟨rfl, rfl⟩
  go_wp2_with fail
  refine hK.out _ _ hs ?_
  clear hK K
  try simp only [putz]
  refine Goes.one (i := 22) (o := ⟨some 92, _, _, _, _, _⟩) (by as_aux_lemma => kernel_rfl) rfl (fun K hK => ?_)
  go_simp
  with_reducible refine (round_19 _ _ b2).mono ?_
  rintro e' wd ⟨rfl, rfl⟩
  go_wp2_with fail
  refine hK.out _ _ hs ?_
  clear hK K
  try simp only [putz]
  refine Goes.take (i := 23) (o := ⟨some 93, _, _, _, _, _⟩) (v := ?_) [] rfl (by as_aux_lemma => kernel_rfl) (by as_aux_lemma => kernel_rfl) (by as_aux_lemma => kernel_rfl) (fun _ _ _ h => h) (by as_aux_lemma => kernel_rfl) (fun L u h => h) (Or.inl ⟨by rfl, ?_⟩) hs ?_
  rotate_left
  · intro w hY; go_simp; try with_reducible rfl
  try simp only [putz]
  refine Goes.take (i := 26) (o := ⟨some 96, _, _, _, _, _⟩) (v := ?_) [] rfl (by as_aux_lemma => kernel_rfl) (by as_aux_lemma => kernel_rfl) (by as_aux_lemma => kernel_rfl) (fun _ _ _ h => h) (by as_aux_lemma => kernel_rfl) (fun L u h => h) (Or.inl ⟨by rfl, ?_⟩) hs ?_
  rotate_left
  · intro w hY; go_simp; try with_reducible rfl
  try simp only [putz]
  refine Goes.take (i := 27) (o := ⟨some 97, _, _, _, _, _⟩) (v := ?_) [] rfl (by as_aux_lemma => kernel_rfl) (by as_aux_lemma => kernel_rfl) (by as_aux_lemma => kernel_rfl) (fun _ _ _ h => h) (by as_aux_lemma => kernel_rfl) (fun L u h => h) (Or.inl ⟨by rfl, ?_⟩) hs ?_
  rotate_left
  · intro w hY; go_simp; try with_reducible rfl
  try simp only [putz]
  refine Goes.take (i := 28) (o := ⟨some 98, _, _, _, _, _⟩) (v := ?_) [] rfl (by as_aux_lemma => kernel_rfl) (by as_aux_lemma => kernel_rfl) (by as_aux_lemma => kernel_rfl) (fun _ _ _ h => h) (by as_aux_lemma => kernel_rfl) (fun L u h => h) (Or.inl ⟨by rfl, ?_⟩) hs ?_
  rotate_left
  · intro w hY; go_simp; try with_reducible rfl
  try simp only [putz]
  refine Goes.one (i := 29) (o := ⟨none, _, _, _, _, _⟩) (by as_aux_lemma => kernel_rfl) rfl (fun K hK => ?_)
  go_simp
  refine hK.out _ _ (HKC.out _ _ hs) ?_
  clear hK K
  try simp only [putz]
  refine Goes.done (by as_aux_lemma => kernel_rfl) ?_ _
  refine NoPanic.normal ?_
  rw [HV.out]
  exact hQ.out _ _ _ _ _ _ _ _ _ _ _ _ _ _ _ _ _ _ _ _ _ _ _ _ _ _ _ _ _
end Go.Proofs.YtaejcifpipegnaaDoor
