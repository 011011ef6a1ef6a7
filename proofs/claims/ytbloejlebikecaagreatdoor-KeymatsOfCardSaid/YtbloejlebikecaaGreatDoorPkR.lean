/-
  burrowref05.round, table, walked: the document's own. Conditions: none.
  burrowref05.block: what its loops carry, and the regions that reckon, walked. Conditions: none.
  burrowref05.block: the regions of its third loop that reckon, walked. Conditions: none.
  burrowref05.block, walked: the document's own way of taking a block in. Conditions: none.
  burrowref05.Of: what its loops carry. Conditions: none.
  burrowref05.Of, walked: the document's own sum. Condition: no more than 2^46 bytes.
-/
import Derived.Test.YtbloejlebikecaaGreatDoorPkS
import Derived.Test.YtbloejlebikecaaGreatDoorOrd
import Derived.Test.YtbloejlebikecaaGreatDoorOrdT
import Derived.Deep.WholeRow
import Derived.Deep.Cut
import Derived.Test.YtbloejlebikecaaGreatDoorRef
import Derived.Test.YtbloejlebikecaaGreatDoorAlive
namespace Go.Proofs.YtbloejlebikecaaGreatDoor
open Go.RowKit
set_option linter.unusedVariables false
set_option linter.unusedSimpArgs false

theorem rot_eq2 (x n : Nat) (hx : x < 4294967296) : bits .or .u32 ((x : Int) / ((2 ^ n : Nat) : Int)) (IntKind.u32.wrap ((x : Int) * ((2 ^ (32 - n) : Nat) : Int))) = ((rot x n : Nat) : Int) := by
  have e1 : IntKind.u32.wrap ((x : Int) * ((2 ^ (32 - n) : Nat) : Int)) = ((x * 2 ^ (32 - n) % 4294967296 : Nat) : Int) := by rw [IntKind.wrap_u32]; omega
  have e2 : (x : Int) / ((2 ^ n : Nat) : Int) = ((x / 2 ^ n : Nat) : Int) := by omega
  rw [e1, e2, u32_or_nat _ _ (dn_lt _ hx) (Nat.mod_lt _ (by decide)), rot]

theorem round_2 (x : Nat) (w : World) (hx : x < 4294967296) : Calls Tryz.prog 114 #[.int .u32 x, .int .u64 2] w fun e w' => e = .returned (.int .u32 (rot x 2 : Nat)) ∧ w = w' := by
  have hb : IntKind.u64.wrap (32 - 2) = 30 := by decide +kernel
  go_enter Tryz.func114, Tryz.ntmps114
  go_wp2
  go_ret
  exact ⟨by rw [← rot_eq2 x 2 hx]; rfl, rfl⟩
theorem round_6 (x : Nat) (w : World) (hx : x < 4294967296) : Calls Tryz.prog 114 #[.int .u32 x, .int .u64 6] w fun e w' => e = .returned (.int .u32 (rot x 6 : Nat)) ∧ w = w' := by
  have hb : IntKind.u64.wrap (32 - 6) = 26 := by decide +kernel
  go_enter Tryz.func114, Tryz.ntmps114
  go_wp2
  go_ret
  exact ⟨by rw [← rot_eq2 x 6 hx]; rfl, rfl⟩
theorem round_7 (x : Nat) (w : World) (hx : x < 4294967296) : Calls Tryz.prog 114 #[.int .u32 x, .int .u64 7] w fun e w' => e = .returned (.int .u32 (rot x 7 : Nat)) ∧ w = w' := by
  have hb : IntKind.u64.wrap (32 - 7) = 25 := by decide +kernel
  go_enter Tryz.func114, Tryz.ntmps114
  go_wp2
  go_ret
  exact ⟨by rw [← rot_eq2 x 7 hx]; rfl, rfl⟩
theorem round_11 (x : Nat) (w : World) (hx : x < 4294967296) : Calls Tryz.prog 114 #[.int .u32 x, .int .u64 11] w fun e w' => e = .returned (.int .u32 (rot x 11 : Nat)) ∧ w = w' := by
  have hb : IntKind.u64.wrap (32 - 11) = 21 := by decide +kernel
  go_enter Tryz.func114, Tryz.ntmps114
  go_wp2
  go_ret
  exact ⟨by rw [← rot_eq2 x 11 hx]; rfl, rfl⟩
theorem round_13 (x : Nat) (w : World) (hx : x < 4294967296) : Calls Tryz.prog 114 #[.int .u32 x, .int .u64 13] w fun e w' => e = .returned (.int .u32 (rot x 13 : Nat)) ∧ w = w' := by
  have hb : IntKind.u64.wrap (32 - 13) = 19 := by decide +kernel
  go_enter Tryz.func114, Tryz.ntmps114
  go_wp2
  go_ret
  exact ⟨by rw [← rot_eq2 x 13 hx]; rfl, rfl⟩
theorem round_17 (x : Nat) (w : World) (hx : x < 4294967296) : Calls Tryz.prog 114 #[.int .u32 x, .int .u64 17] w fun e w' => e = .returned (.int .u32 (rot x 17 : Nat)) ∧ w = w' := by
  have hb : IntKind.u64.wrap (32 - 17) = 15 := by decide +kernel
  go_enter Tryz.func114, Tryz.ntmps114
  go_wp2
  go_ret
  exact ⟨by rw [← rot_eq2 x 17 hx]; rfl, rfl⟩
theorem round_18 (x : Nat) (w : World) (hx : x < 4294967296) : Calls Tryz.prog 114 #[.int .u32 x, .int .u64 18] w fun e w' => e = .returned (.int .u32 (rot x 18 : Nat)) ∧ w = w' := by
  have hb : IntKind.u64.wrap (32 - 18) = 14 := by decide +kernel
  go_enter Tryz.func114, Tryz.ntmps114
  go_wp2
  go_ret
  exact ⟨by rw [← rot_eq2 x 18 hx]; rfl, rfl⟩
theorem round_19 (x : Nat) (w : World) (hx : x < 4294967296) : Calls Tryz.prog 114 #[.int .u32 x, .int .u64 19] w fun e w' => e = .returned (.int .u32 (rot x 19 : Nat)) ∧ w = w' := by
  have hb : IntKind.u64.wrap (32 - 19) = 13 := by decide +kernel
  go_enter Tryz.func114, Tryz.ntmps114
  go_wp2
  go_ret
  exact ⟨by rw [← rot_eq2 x 19 hx]; rfl, rfl⟩
theorem round_22 (x : Nat) (w : World) (hx : x < 4294967296) : Calls Tryz.prog 114 #[.int .u32 x, .int .u64 22] w fun e w' => e = .returned (.int .u32 (rot x 22 : Nat)) ∧ w = w' := by
  have hb : IntKind.u64.wrap (32 - 22) = 10 := by decide +kernel
  go_enter Tryz.func114, Tryz.ntmps114
  go_wp2
  go_ret
  exact ⟨by rw [← rot_eq2 x 22 hx]; rfl, rfl⟩
theorem round_25 (x : Nat) (w : World) (hx : x < 4294967296) : Calls Tryz.prog 114 #[.int .u32 x, .int .u64 25] w fun e w' => e = .returned (.int .u32 (rot x 25 : Nat)) ∧ w = w' := by
  have hb : IntKind.u64.wrap (32 - 25) = 7 := by decide +kernel
  go_enter Tryz.func114, Tryz.ntmps114
  go_wp2
  go_ret
  exact ⟨by rw [← rot_eq2 x 25 hx]; rfl, rfl⟩
set_option maxRecDepth 100000 in
/-- the table's slice -/
theorem table_any (w : World) : Calls Tryz.prog 106 #[] w fun e w' => e = .returned (.slice (some ⟨w.heap.size, 0, none⟩) 64 64) ∧ Hid (Us w' w.heap.size 102 kk) ∧ Below w.heap.size w w' := by
  go_enter Tryz.func106, Tryz.ntmps106
  go_wp2
  have h : Us (w.alloc (.cells (dv kk).toArray 102)) w.heap.size 102 kk := heap_alloc_new w _
  have hB : Below w.heap.size w (w.alloc (.cells (dv kk).toArray 102)) := (Below.refl _ _).alloc (Nat.le_refl _) _
  go_ret
  exact ⟨rfl, hid h, hB⟩
end Go.Proofs.YtbloejlebikecaaGreatDoor
namespace Go.Proofs.YtbloejlebikecaaGreatDoor
open Go.RowKit
set_option linter.unusedVariables false
set_option linter.unusedSimpArgs false

/-- what stands while the document takes a block in: h's box, the answer's, the block's numbers; the bytes and the table as they came -/
structure Rb (w : World) (h : List Nat) (b : List UInt8) (gb o gt : Nat) (l : List Nat) (w' : World) : Prop where
  below : Below w.heap.size w w'
  n : Us w' w.heap.size 166 h
  z : Us w' (w.heap.size + 1) 166 (List.replicate 8 0)
  l : Us w' (w.heap.size + 1 + 1) 177 l
  b : ∀ j, (hj : j < b.length) → w.cell? ⟨gb, o + j, none⟩ = some (.int .u8 ((b[j].toNat : Nat) : Int))
  hb : gb < w.heap.size
  k : Us w gt 102 kk
theorem Rb.bytes {w w' : World} {h : List Nat} {b : List UInt8} {gb o gt : Nat} {l : List Nat} (H : Rb w h b gb o gt l w') (j : Nat) (hj : j < b.length) : w'.cell? ⟨gb, o + j, none⟩ = some (.int .u8 ((b[j].toNat : Nat) : Int)) :=
  (H.below.cell (p := ⟨gb, o + j, none⟩) H.hb).trans (H.b j hj)
theorem Rb.kt {w w' : World} {h : List Nat} {b : List UInt8} {gb o gt : Nat} {l : List Nat} (H : Rb w h b gb o gt l w') : Us w' gt 102 kk := H.k.on H.below
theorem Rb.init (w : World) (h : List Nat) (b : List UInt8) (gb o gt : Nat) (hb : ∀ j, (hj : j < b.length) → w.cell? ⟨gb, o + j, none⟩ = some (.int .u8 ((b[j].toNat : Nat) : Int))) (hg : gb < w.heap.size) (hk : Us w gt 102 kk) :
    Hid (Rb w h b gb o gt (List.replicate 64 0) (((w.alloc (.cells (dv h).toArray 166)).alloc (.cells #[.int .u32 0, .int .u32 0, .int .u32 0, .int .u32 0, .int .u32 0, .int .u32 0, .int .u32 0, .int .u32 0] 166)).alloc (.cells #[.int .u32 0, .int .u32 0, .int .u32 0, .int .u32 0, .int .u32 0, .int .u32 0, .int .u32 0, .int .u32 0, .int .u32 0, .int .u32 0, .int .u32 0, .int .u32 0, .int .u32 0, .int .u32 0, .int .u32 0, .int .u32 0, .int .u32 0, .int .u32 0, .int .u32 0, .int .u32 0, .int .u32 0, .int .u32 0, .int .u32 0, .int .u32 0, .int .u32 0, .int .u32 0, .int .u32 0, .int .u32 0, .int .u32 0, .int .u32 0, .int .u32 0, .int .u32 0, .int .u32 0, .int .u32 0, .int .u32 0, .int .u32 0, .int .u32 0, .int .u32 0, .int .u32 0, .int .u32 0, .int .u32 0, .int .u32 0, .int .u32 0, .int .u32 0, .int .u32 0, .int .u32 0, .int .u32 0, .int .u32 0, .int .u32 0, .int .u32 0, .int .u32 0, .int .u32 0, .int .u32 0, .int .u32 0, .int .u32 0, .int .u32 0, .int .u32 0, .int .u32 0, .int .u32 0, .int .u32 0, .int .u32 0, .int .u32 0, .int .u32 0, .int .u32 0] 177))) := by
  have s1 : ∀ (w : World) (o : Obj), (w.alloc o).heap.size = w.heap.size + 1 := fun w o => Array.size_push _
  refine hid ⟨(((Below.refl _ _).alloc (Nat.le_refl _) _).alloc (by rw [s1]; omega) _).alloc (by rw [s1, s1]; omega) _, Us.alloc (Us.alloc (heap_alloc_new _ _) _) _, Us.alloc ?_ _, ?_, hb, hg, hk⟩
  · rw [← s1 w (.cells (dv h).toArray 166)]; exact heap_alloc_new _ _
  · rw [← s1 w (.cells (dv h).toArray 166), ← s1 _ (.cells #[.int .u32 0, .int .u32 0, .int .u32 0, .int .u32 0, .int .u32 0, .int .u32 0, .int .u32 0, .int .u32 0] 166)]; exact heap_alloc_new _ _
theorem Rb.set {w w' : World} {h : List Nat} {b : List UInt8} {gb o gt : Nat} {l : List Nat} (H : Rb w h b gb o gt l w') (k v : Nat) : Rb w h b gb o gt (l.set k v) (w'.setCell ⟨w.heap.size + 1 + 1, k, none⟩ (.int .u32 (v : Int))) :=
  ⟨H.below.setCell (by simp; omega) _, H.n.other _ (by omega), H.z.other _ (by omega), H.l.set k v, H.b, H.hb, H.k⟩
theorem Rb.drew {w w' : World} {h : List Nat} {b : List UInt8} {gb o gt : Nat} {l : List Nat} (H : Rb w h b gb o gt l w') : Rb w h b gb o gt l w'.drew := ⟨H.below.drew, H.n, H.z, H.l, H.b, H.hb, H.k⟩
theorem sh_or (b c i : Nat) (h : c < 2 ^ i) : b * 2 ^ i ||| c = b * 2 ^ i + c := by
  have h := Nat.shiftLeft_add_eq_or_of_lt h b
  rw [Nat.shiftLeft_eq] at h
  exact h.symm
theorem or_a (b0 b1 : Nat) (h1 : b1 < 256) : b0 * 16777216 ||| b1 * 65536 = b0 * 16777216 + b1 * 65536 := sh_or b0 (b1 * 65536) 24 (by omega)
theorem or_b (b0 b1 b2 : Nat) (h2 : b2 < 256) : (b0 * 16777216 + b1 * 65536) ||| b2 * 256 = b0 * 16777216 + b1 * 65536 + b2 * 256 := by
  have h := sh_or (b0 * 256 + b1) (b2 * 256) 16 (by omega)
  have e : (b0 * 256 + b1) * 2 ^ 16 = b0 * 16777216 + b1 * 65536 := by omega
  rw [e] at h; exact h
theorem or_c (b0 b1 b2 b3 : Nat) (h3 : b3 < 256) : (b0 * 16777216 + b1 * 65536 + b2 * 256) ||| b3 = b0 * 16777216 + b1 * 65536 + b2 * 256 + b3 := by
  have h := sh_or (b0 * 65536 + b1 * 256 + b2) b3 8 (by omega)
  have e : (b0 * 65536 + b1 * 256 + b2) * 2 ^ 8 = b0 * 16777216 + b1 * 65536 + b2 * 256 := by omega
  rw [e] at h; exact h
/-- four bytes as one number -/
theorem four_eq (b0 b1 b2 b3 : Nat) (h0 : b0 < 256) (h1 : b1 < 256) (h2 : b2 < 256) (h3 : b3 < 256) :
    bits .or .u32 (bits .or .u32 (bits .or .u32 ((b0 : Int) % 4294967296 * 16777216 % 4294967296) ((b1 : Int) % 4294967296 * 65536 % 4294967296)) ((b2 : Int) % 4294967296 * 256 % 4294967296)) ((b3 : Int) % 4294967296) = ((b0 * 16777216 + b1 * 65536 + b2 * 256 + b3 : Nat) : Int) := by
  have e3 : (b3 : Int) % 4294967296 = (b3 : Int) := by omega
  have e0 : (b0 : Int) % 4294967296 * 16777216 % 4294967296 = ((b0 * 16777216 : Nat) : Int) := by omega
  have e1 : (b1 : Int) % 4294967296 * 65536 % 4294967296 = ((b1 * 65536 : Nat) : Int) := by omega
  have e2 : (b2 : Int) % 4294967296 * 256 % 4294967296 = ((b2 * 256 : Nat) : Int) := by omega
  have s0 := or_a b0 b1 h1
  have s1 := or_b b0 b1 b2 h2
  have s2 := or_c b0 b1 b2 b3 h3
  rw [e0, e1, e2, e3, u32_or_nat _ _ (by omega) (by omega), s0, u32_or_nat _ _ (by omega) (by omega), s1, u32_or_nat _ _ (by omega) (by omega), s2]
theorem tell4 (b : List UInt8) (k : Nat) (h : 4 * k + 3 < b.length) : tell ((b.drop (4 * k)).take 4) = b[4 * k].toNat * 16777216 + b[4 * k + 1].toNat * 65536 + b[4 * k + 2].toNat * 256 + b[4 * k + 3].toNat := by
  rw [List.drop_eq_getElem_cons (show 4 * k < b.length by omega), List.drop_eq_getElem_cons (show 4 * k + 1 < b.length by omega), List.drop_eq_getElem_cons (show 4 * k + 1 + 1 < b.length by omega), List.drop_eq_getElem_cons (show 4 * k + 1 + 1 + 1 < b.length by omega)]
  simp only [List.take_succ_cons, List.take_zero, tell, List.foldl_cons, List.foldl_nil, Nat.zero_mul, Nat.zero_add]
  have e2 : b[4 * k + 1 + 1] = b[4 * k + 2] := rfl
  have e3 : b[4 * k + 1 + 1 + 1] = b[4 * k + 3] := rfl
  rw [e2, e3]
  omega
/-- what a round of the second loop leans on -/
theorem rb_facts {w wr : World} {h : List Nat} {b : List UInt8} {gb o gt : Nat} {l : List Nat} {k : Nat} (HS : Rb w h b gb o gt l wr) (HL : l.length = 64) (HA : ∀ j, j < 64 → at' l j = at' (ext (own b 16) (k - 16)) j) (hk0 : 16 ≤ k) (hlt : k < 64) :
    ∃ p15 p16 p7 p2 x v16 v7 y zx zy : Nat, (k : Int) - 15 = (p15 : Int) ∧ (k : Int) - 16 = (p16 : Int) ∧ (k : Int) - 7 = (p7 : Int) ∧ (k : Int) - 2 = (p2 : Int) ∧ p15 < 64 ∧ p2 < 64 ∧
      wr.cell? ⟨w.heap.size + 1 + 1, p15, none⟩ = some (.int .u32 (x : Int)) ∧ wr.cell? ⟨w.heap.size + 1 + 1, p2, none⟩ = some (.int .u32 (y : Int)) ∧
      x < 4294967296 ∧ y < 4294967296 ∧ (x : Int) / 8 = (zx : Int) ∧ (y : Int) / 1024 = (zy : Int) ∧
      IntKind.i64.wrap (p16 : Int) = (p16 : Int) ∧ IntKind.i64.wrap (p7 : Int) = (p7 : Int) ∧ (p16 : Int) < 64 ∧ (p7 : Int) < 64 ∧ (k : Int) < 64 ∧ (0 : Int) ≤ p16 ∧ (0 : Int) ≤ p7 ∧ (0 : Int) ≤ k ∧
      (wr.cell? ⟨w.heap.size + 1 + 1, p16, none⟩ = some (.int .u32 (v16 : Int)) ∧ wr.cell? ⟨w.heap.size + 1 + 1, p7, none⟩ = some (.int .u32 (v7 : Int)) ∧ w.heap.size + 1 + 1 < wr.heap.size) ∧
      Hid (wr.cell? ⟨w.heap.size + 1 + 1, k, none⟩ = some (.int .u32 (at' l k : Nat)) ∧ wr.frozen? ⟨w.heap.size + 1 + 1, k, none⟩ = false) ∧
      Hid (∀ (W : World) (v : Value), (W.cell? ⟨w.heap.size + 1 + 1, p16, none⟩ = some (.int .u32 (v16 : Int)) ∧ W.cell? ⟨w.heap.size + 1 + 1, p7, none⟩ = some (.int .u32 (v7 : Int)) ∧ w.heap.size + 1 + 1 < W.heap.size) → ((W.setCell ⟨w.heap.size + 1 + 1, k, none⟩ v).cell? ⟨w.heap.size + 1 + 1, p16, none⟩ = some (.int .u32 (v16 : Int)) ∧ (W.setCell ⟨w.heap.size + 1 + 1, k, none⟩ v).cell? ⟨w.heap.size + 1 + 1, p7, none⟩ = some (.int .u32 (v7 : Int)) ∧ w.heap.size + 1 + 1 < (W.setCell ⟨w.heap.size + 1 + 1, k, none⟩ v).heap.size)) ∧
      Hid (IntKind.u32.wrap (IntKind.u32.wrap (IntKind.u32.wrap ((v16 : Int) + (v7 : Int)) + bits BinOp.xor IntKind.u32 (bits BinOp.xor IntKind.u32 ((rot x 7 : Nat) : Int) ((rot x 18 : Nat) : Int)) (zx : Int)) + bits BinOp.xor IntKind.u32 (bits BinOp.xor IntKind.u32 ((rot y 17 : Nat) : Int) ((rot y 19 : Nat) : Int)) (zy : Int)) = ((nxw (ext (own b 16) (k - 16)) : Nat) : Int)) := by
  have HM : Sm (ext (own b 16) (k - 16)) := ext_sm (own_sm b 16) _
  have hE : (ext (own b 16) (k - 16)).length = k := by rw [ext_length, own_length]; omega
  have lt : ∀ j, j < 64 → at' l j < 4294967296 := fun j hj => by rw [HA j hj]; exact at_sm HM _
  have b15 := lt (k - 15) (by omega)
  have b2 := lt (k - 2) (by omega)
  refine ⟨k - 15, k - 16, k - 7, k - 2, at' l (k - 15), at' l (k - 16), at' l (k - 7), at' l (k - 2), at' l (k - 15) / 8, at' l (k - 2) / 1024, by omega, by omega, by omega, by omega, by omega, by omega,
    HS.l.cell _ (by omega), HS.l.cell _ (by omega), b15, b2, by omega, by omega,
    by rw [IntKind.wrap_i64]; omega, by rw [IntKind.wrap_i64]; omega, by omega, by omega, by omega, by omega, by omega, by omega, ⟨HS.l.cell _ (by omega), HS.l.cell _ (by omega), HS.l.lt⟩,
    hid ⟨HS.l.cell _ (by omega), HS.l.frozen _⟩,
    hid (fun W v h => ⟨by rw [World.cell?_setCell_other _ _ _ _ (by simp; try omega)]; exact h.1, by rw [World.cell?_setCell_other _ _ _ _ (by simp; try omega)]; exact h.2.1, by have := h.2.2; simp; omega⟩), hid ?_⟩
  have e0 : nxw (ext (own b 16) (k - 16)) = (((at' l (k - 16) + s0 (at' l (k - 15))) % 4294967296 + at' l (k - 7)) % 4294967296 + s1 (at' l (k - 2))) % 4294967296 := by
    rw [nxw, hE, HA (k - 16) (by omega), HA (k - 15) (by omega), HA (k - 7) (by omega), HA (k - 2) (by omega)]
  have z1 : at' l (k - 15) / 8 < 4294967296 := by omega
  have z2 : at' l (k - 2) / 1024 < 4294967296 := by omega
  rw [e0, s0, s1, show (2 : Nat) ^ 3 = 8 by decide, show (2 : Nat) ^ 10 = 1024 by decide, u32_xor_nat _ _ (rot_lt 7 b15) (rot_lt 18 b15), u32_xor_nat _ _ (xor_lt (rot_lt 7 b15) (rot_lt 18 b15)) z1, u32_xor_nat _ _ (rot_lt 17 b2) (rot_lt 19 b2), u32_xor_nat _ _ (xor_lt (rot_lt 17 b2) (rot_lt 19 b2)) z2, IntKind.wrap_u32, IntKind.wrap_u32, IntKind.wrap_u32]
  omega
/-- the region of the second loop that reckons -/
noncomputable def rb11 : Code := ((Tryz.f107.body.bind (findRegion 11)).getD .skip)
set_option maxRecDepth 100000 in
set_option maxHeartbeats 1000000 in
theorem rb11_ok {w wr : World} {k p16 p7 x v16 v7 y zx zy nv old : Nat} {Q : Exit → Act → World → Prop} (hp16 : (k : Int) - 16 = (p16 : Int)) (hp7 : (k : Int) - 7 = (p7 : Int))
    (b15 : x < 4294967296) (b2 : y < 4294967296) (hzx : (x : Int) / 8 = (zx : Int)) (hzy : (y : Int) / 1024 = (zy : Int))
    (w16 : IntKind.i64.wrap (p16 : Int) = (p16 : Int)) (w7 : IntKind.i64.wrap (p7 : Int) = (p7 : Int)) (i16 : (p16 : Int) < 64) (i7 : (p7 : Int) < 64) (ik : (k : Int) < 64) (j16 : (0 : Int) ≤ p16) (j7 : (0 : Int) ≤ p7) (jk : (0 : Int) ≤ k)
    (hS : wr.cell? ⟨w.heap.size + 1 + 1, p16, none⟩ = some (.int .u32 (v16 : Int)) ∧ wr.cell? ⟨w.heap.size + 1 + 1, p7, none⟩ = some (.int .u32 (v7 : Int)) ∧ w.heap.size + 1 + 1 < wr.heap.size) (nk : wr.cell? ⟨w.heap.size + 1 + 1, k, none⟩ = some (.int .u32 (old : Int))) (nf : wr.frozen? ⟨w.heap.size + 1 + 1, k, none⟩ = false)
    (HKC : Hid (∀ (W : World) (v : Value), (W.cell? ⟨w.heap.size + 1 + 1, p16, none⟩ = some (.int .u32 (v16 : Int)) ∧ W.cell? ⟨w.heap.size + 1 + 1, p7, none⟩ = some (.int .u32 (v7 : Int)) ∧ w.heap.size + 1 + 1 < W.heap.size) → ((W.setCell ⟨w.heap.size + 1 + 1, k, none⟩ v).cell? ⟨w.heap.size + 1 + 1, p16, none⟩ = some (.int .u32 (v16 : Int)) ∧ (W.setCell ⟨w.heap.size + 1 + 1, k, none⟩ v).cell? ⟨w.heap.size + 1 + 1, p7, none⟩ = some (.int .u32 (v7 : Int)) ∧ w.heap.size + 1 + 1 < (W.setCell ⟨w.heap.size + 1 + 1, k, none⟩ v).heap.size)))
    (HV : Hid (IntKind.u32.wrap (IntKind.u32.wrap (IntKind.u32.wrap ((v16 : Int) + (v7 : Int)) + bits BinOp.xor IntKind.u32 (bits BinOp.xor IntKind.u32 ((rot x 7 : Nat) : Int) ((rot x 18 : Nat) : Int)) (zx : Int)) + bits BinOp.xor IntKind.u32 (bits BinOp.xor IntKind.u32 ((rot y 17 : Nat) : Int) ((rot y 19 : Nat) : Int)) (zy : Int)) = (nv : Int)))
    (c0 c1 c2 c3 c4 c5 c6 c8 c12 c13 c14 c15 c16 c17 c18 c19 c20 c21 c22 c23 c24 c25 c26 c27 c28 c29 c30 c31 c32 c33 c34 c35 c36 c37 c38 c39 c40 c41 c42 c43 c44 c45 c46 c47 c48 c49 c50 c51 c52 c53 c54 c55 c56 c57 c58 c59 c60 c61 c62 c63 c64 c65 c66 c67 c68 c69 c70 c71 c72 c73 c74 c75 c76 c77 c78 c79 c80 c81 c82 c83 c84 c85 c86 c87 c88 c89 c90 c91 c92 c93 c94 c95 c96 c97 c98 c99 c100 c101 c102 c103 c104 c105 c106 c107 c108 c109 c110 c111 c112 c113 c114 c115 c116 c117 c118 c119 c120 c121 c122 c123 c124 c125 c126 c127 c128 c129 c130 c131 c132 c133 c134 c135 c136 c137 c138 c139 c140 c141 c142 c143 c144 c145 c146 c147 c148 c149 c150 c151 c152 c153 c154 c155 c156 c157 c158 c159 c160 c161 c162 c163 c164 c165 c166 c167 c168 c169 c170 c171 c172 c173 c174 c175 c176 c177 c178 c179 c180 c181 c182 c183 c184 c185 c186 c187 c188 c189 c190 c191 c192 c193 c194 : Value)
    (hQ : Hid (∀ (d70 d71 d72 d73 d74 d75 d76 d77 d78 d79 d80 d81 d82 d83 d84 d85 d86 d87 d88 d89 d90 d91 d92 d93 d94 d95 d96 d97 d98 : Value), Q .normal ⟨#[c0, c1, c2, c3, c4, c5, c6, .pointer (some ⟨w.heap.size + 1 + 1, 0, none⟩), c8, .int .i64 (k : Int), .int .u32 (x : Int), .int .u32 (y : Int), c12, c13, c14, c15, c16, c17, c18, c19, c20, c21, c22, c23, c24, c25, c26, c27, c28, c29, c30, c31, c32, c33, c34, c35, c36, c37, c38, c39, c40, c41, c42, c43, c44, c45, c46, c47, c48, c49, c50, c51, c52, c53, c54, c55, c56, c57, c58, c59, c60, c61, c62, c63, c64, c65, c66, c67, c68, c69, d70, d71, d72, d73, d74, d75, d76, d77, d78, d79, d80, d81, d82, d83, d84, d85, d86, d87, d88, d89, d90, d91, d92, d93, d94, d95, d96, d97, d98, c99, c100, c101, c102, c103, c104, c105, c106, c107, c108, c109, c110, c111, c112, c113, c114, c115, c116, c117, c118, c119, c120, c121, c122, c123, c124, c125, c126, c127, c128, c129, c130, c131, c132, c133, c134, c135, c136, c137, c138, c139, c140, c141, c142, c143, c144, c145, c146, c147, c148, c149, c150, c151, c152, c153, c154, c155, c156, c157, c158, c159, c160, c161, c162, c163, c164, c165, c166, c167, c168, c169, c170, c171, c172, c173, c174, c175, c176, c177, c178, c179, c180, c181, c182, c183, c184, c185, c186, c187, c188, c189, c190, c191, c192, c193, c194], []⟩ (wr.drew.setCell ⟨w.heap.size + 1 + 1, k, none⟩ (.int .u32 (nv : Int)))))  :
    Code.wp Tryz.prog rb11 Q ⟨#[c0, c1, c2, c3, c4, c5, c6, .pointer (some ⟨w.heap.size + 1 + 1, 0, none⟩), c8, .int .i64 (k : Int), .int .u32 (x : Int), .int .u32 (y : Int), c12, c13, c14, c15, c16, c17, c18, c19, c20, c21, c22, c23, c24, c25, c26, c27, c28, c29, c30, c31, c32, c33, c34, c35, c36, c37, c38, c39, c40, c41, c42, c43, c44, c45, c46, c47, c48, c49, c50, c51, c52, c53, c54, c55, c56, c57, c58, c59, c60, c61, c62, c63, c64, c65, c66, c67, c68, c69, c70, c71, c72, c73, c74, c75, c76, c77, c78, c79, c80, c81, c82, c83, c84, c85, c86, c87, c88, c89, c90, c91, c92, c93, c94, c95, c96, c97, c98, c99, c100, c101, c102, c103, c104, c105, c106, c107, c108, c109, c110, c111, c112, c113, c114, c115, c116, c117, c118, c119, c120, c121, c122, c123, c124, c125, c126, c127, c128, c129, c130, c131, c132, c133, c134, c135, c136, c137, c138, c139, c140, c141, c142, c143, c144, c145, c146, c147, c148, c149, c150, c151, c152, c153, c154, c155, c156, c157, c158, c159, c160, c161, c162, c163, c164, c165, c166, c167, c168, c169, c170, c171, c172, c173, c174, c175, c176, c177, c178, c179, c180, c181, c182, c183, c184, c185, c186, c187, c188, c189, c190, c191, c192, c193, c194], []⟩ wr := by
  conv => arg 2; whnf
  have hs : wr.drew.cell? ⟨w.heap.size + 1 + 1, p16, none⟩ = some (.int .u32 (v16 : Int)) ∧ wr.drew.cell? ⟨w.heap.size + 1 + 1, p7, none⟩ = some (.int .u32 (v7 : Int)) ∧ w.heap.size + 1 + 1 < wr.drew.heap.size := hS
  refine wp_region_noPanic ?_
  refine Goes.region (fun (L : Array Bool) (w' : World) => w'.cell? ⟨w.heap.size + 1 + 1, p16, none⟩ = some (.int .u32 (v16 : Int)) ∧ w'.cell? ⟨w.heap.size + 1 + 1, p7, none⟩ = some (.int .u32 (v7 : Int)) ∧ w.heap.size + 1 + 1 < w'.heap.size) (by as_aux_lemma => kernel_rfl) ?_
  refine Goes.take (i := 0) (o := ⟨some 70, _, _, _, _, _⟩) (v := ?_) [] rfl (by as_aux_lemma => kernel_rfl) (by as_aux_lemma => kernel_rfl) (by as_aux_lemma => kernel_rfl) (fun _ _ _ h => h) (by as_aux_lemma => kernel_rfl) (fun L u h => h) (Or.inl ⟨by rfl, ?_⟩) hs ?_
  rotate_left
  · intro w hY; go_simp; try with_reducible rfl
  try simp only [putz]
  refine Goes.take (i := 1) (o := ⟨some 71, _, _, _, _, _⟩) (v := ?_) [] rfl (by as_aux_lemma => kernel_rfl) (by as_aux_lemma => kernel_rfl) (by as_aux_lemma => kernel_rfl) (fun _ _ _ h => h) (by as_aux_lemma => kernel_rfl) (fun L u h => h) (Or.inl ⟨by rfl, ?_⟩) hs ?_
  rotate_left
  · intro w hY; go_simp; try with_reducible rfl
  try simp only [putz]
  refine Goes.take (i := 2) (o := ⟨some 72, _, _, _, _, _⟩) (v := ?_) [] rfl (by as_aux_lemma => kernel_rfl) (by as_aux_lemma => kernel_rfl) (by as_aux_lemma => kernel_rfl) (fun _ _ _ h => h) (by as_aux_lemma => kernel_rfl) (fun L u h => h) (Or.inl ⟨by rfl, ?_⟩) hs ?_
  rotate_left
  · intro w hY; go_simp; try with_reducible rfl
  try simp only [putz]
  refine Goes.take (i := 3) (o := ⟨some 73, _, _, _, _, _⟩) (v := ?_) [] rfl (by as_aux_lemma => kernel_rfl) (by as_aux_lemma => kernel_rfl) (by as_aux_lemma => kernel_rfl) (fun _ _ _ h => h) (by as_aux_lemma => kernel_rfl) (fun L u h => h) (Or.inl ⟨by rfl, ?_⟩) hs ?_
  rotate_left
  · intro w hY; go_simp; try with_reducible rfl
  try simp only [putz]
  refine Goes.take (i := 4) (o := ⟨some 74, _, _, _, _, _⟩) (v := ?_) [] rfl (by as_aux_lemma => kernel_rfl) (by as_aux_lemma => kernel_rfl) (by as_aux_lemma => kernel_rfl) (fun _ _ _ h => h) (by as_aux_lemma => kernel_rfl) (fun L u h => h) (Or.inl ⟨by rfl, ?_⟩) hs ?_
  rotate_left
  · intro w hY; obtain ⟨up, hL⟩ := hY; have hX := hL.2.1; clear hL; (try dsimp only at hX); go_simp; try with_reducible rfl
  try simp only [putz]
  refine Goes.take (i := 5) (o := ⟨some 75, _, _, _, _, _⟩) (v := ?_) [] rfl (by as_aux_lemma => kernel_rfl) (by as_aux_lemma => kernel_rfl) (by as_aux_lemma => kernel_rfl) (fun _ _ _ h => h) (by as_aux_lemma => kernel_rfl) (fun L u h => h) (Or.inl ⟨by rfl, ?_⟩) hs ?_
  rotate_left
  · intro w hY; go_simp; try with_reducible rfl
  try simp only [putz]
  refine Goes.take (i := 6) (o := ⟨some 76, _, _, _, _, _⟩) (v := ?_) [] rfl (by as_aux_lemma => kernel_rfl) (by as_aux_lemma => kernel_rfl) (by as_aux_lemma => kernel_rfl) (fun _ _ _ h => h) (by as_aux_lemma => kernel_rfl) (fun L u h => h) (Or.inl ⟨by rfl, ?_⟩) hs ?_
  rotate_left
  · intro w hY; go_simp; try with_reducible rfl
  try simp only [putz]
  refine Goes.take (i := 7) (o := ⟨some 77, _, _, _, _, _⟩) (v := ?_) [] rfl (by as_aux_lemma => kernel_rfl) (by as_aux_lemma => kernel_rfl) (by as_aux_lemma => kernel_rfl) (fun _ _ _ h => h) (by as_aux_lemma => kernel_rfl) (fun L u h => h) (Or.inl ⟨by rfl, ?_⟩) hs ?_
  rotate_left
  · intro w hY; go_simp; try with_reducible rfl
  try simp only [putz]
  refine Goes.take (i := 8) (o := ⟨some 78, _, _, _, _, _⟩) (v := ?_) [] rfl (by as_aux_lemma => kernel_rfl) (by as_aux_lemma => kernel_rfl) (by as_aux_lemma => kernel_rfl) (fun _ _ _ h => h) (by as_aux_lemma => kernel_rfl) (fun L u h => h) (Or.inl ⟨by rfl, ?_⟩) hs ?_
  rotate_left
  · intro w hY; obtain ⟨up, hL⟩ := hY; have hX := hL.2.2.1; clear hL; (try dsimp only at hX); go_simp; try with_reducible rfl
  try simp only [putz]
  refine Goes.take (i := 9) (o := ⟨some 79, _, _, _, _, _⟩) (v := ?_) [] rfl (by as_aux_lemma => kernel_rfl) (by as_aux_lemma => kernel_rfl) (by as_aux_lemma => kernel_rfl) (fun _ _ _ h => h) (by as_aux_lemma => kernel_rfl) (fun L u h => h) (Or.inl ⟨by rfl, ?_⟩) hs ?_
  rotate_left
  · intro w hY; go_simp; try with_reducible rfl
  try simp only [putz]
  refine Goes.take (i := 10) (o := ⟨some 80, _, _, _, _, _⟩) (v := ?_) [] rfl (by as_aux_lemma => kernel_rfl) (by as_aux_lemma => kernel_rfl) (by as_aux_lemma => kernel_rfl) (fun _ _ _ h => h) (by as_aux_lemma => kernel_rfl) (fun L u h => h) (Or.inl ⟨by rfl, ?_⟩) hs ?_
  rotate_left
  · intro w hY; go_simp; try with_reducible rfl
  try simp only [putz]
  refine Goes.take (i := 12) (o := ⟨some 82, _, _, _, _, _⟩) (v := ?_) [] rfl (by as_aux_lemma => kernel_rfl) (by as_aux_lemma => kernel_rfl) (by as_aux_lemma => kernel_rfl) (fun _ _ _ h => h) (by as_aux_lemma => kernel_rfl) (fun L u h => h) (Or.inl ⟨by rfl, ?_⟩) hs ?_
  rotate_left
  · intro w hY; go_simp; try with_reducible rfl
  try simp only [putz]
  refine Goes.take (i := 15) (o := ⟨some 85, _, _, _, _, _⟩) (v := ?_) [] rfl (by as_aux_lemma => kernel_rfl) (by as_aux_lemma => kernel_rfl) (by as_aux_lemma => kernel_rfl) (fun _ _ _ h => h) (by as_aux_lemma => kernel_rfl) (fun L u h => h) (Or.inl ⟨by rfl, ?_⟩) hs ?_
  rotate_left
  · intro w hY; go_simp; try with_reducible rfl
  try simp only [putz]
  refine Goes.take (i := 16) (o := ⟨some 86, _, _, _, _, _⟩) (v := ?_) [] rfl (by as_aux_lemma => kernel_rfl) (by as_aux_lemma => kernel_rfl) (by as_aux_lemma => kernel_rfl) (fun _ _ _ h => h) (by as_aux_lemma => kernel_rfl) (fun L u h => h) (Or.inl ⟨by rfl, ?_⟩) hs ?_
  rotate_left
  · intro w hY; go_simp; try with_reducible rfl
  try simp only [putz]
  refine Goes.take (i := 19) (o := ⟨some 89, _, _, _, _, _⟩) (v := ?_) [] rfl (by as_aux_lemma => kernel_rfl) (by as_aux_lemma => kernel_rfl) (by as_aux_lemma => kernel_rfl) (fun _ _ _ h => h) (by as_aux_lemma => kernel_rfl) (fun L u h => h) (Or.inl ⟨by rfl, ?_⟩) hs ?_
  rotate_left
  · intro w hY; go_simp; try with_reducible rfl
  try simp only [putz]
  refine Goes.take (i := 21) (o := ⟨some 91, _, _, _, _, _⟩) (v := ?_) [] rfl (by as_aux_lemma => kernel_rfl) (by as_aux_lemma => kernel_rfl) (by as_aux_lemma => kernel_rfl) (fun _ _ _ h => h) (by as_aux_lemma => kernel_rfl) (fun L u h => h) (Or.inl ⟨by rfl, ?_⟩) hs ?_
  rotate_left
  · intro w hY; go_simp; try with_reducible rfl
  try simp only [putz]
  refine Goes.take (i := 24) (o := ⟨some 94, _, _, _, _, _⟩) (v := ?_) [] rfl (by as_aux_lemma => kernel_rfl) (by as_aux_lemma => kernel_rfl) (by as_aux_lemma => kernel_rfl) (fun _ _ _ h => h) (by as_aux_lemma => kernel_rfl) (fun L u h => h) (Or.inl ⟨by rfl, ?_⟩) hs ?_
  rotate_left
  · intro w hY; go_simp; try with_reducible rfl
  try simp only [putz]
  refine Goes.take (i := 25) (o := ⟨some 95, _, _, _, _, _⟩) (v := ?_) [] rfl (by as_aux_lemma => kernel_rfl) (by as_aux_lemma => kernel_rfl) (by as_aux_lemma => kernel_rfl) (fun _ _ _ h => h) (by as_aux_lemma => kernel_rfl) (fun L u h => h) (Or.inl ⟨by rfl, ?_⟩) hs ?_
  rotate_left
  · intro w hY; go_simp; try with_reducible rfl
  try simp only [putz]
  refine Goes.one (i := 11) (o := ⟨some 81, _, _, _, _, _⟩) (by as_aux_lemma => kernel_rfl) rfl (fun K hK => ?_)
  go_simp
  with_reducible refine (round_7 _ _ b15).mono ?_
  rintro e' wa ⟨rfl, rfl⟩
  go_wp2_with fail
  refine hK.out _ _ hs ?_
  clear hK K
  try simp only [putz]
  refine Goes.one (i := 13) (o := ⟨some 83, _, _, _, _, _⟩) (by as_aux_lemma => kernel_rfl) rfl (fun K hK => ?_)
  go_simp
  with_reducible refine (round_18 _ _ b15).mono ?_
  rintro e' wb ⟨rfl, rfl⟩
  go_wp2_with fail
  refine hK.out _ _ hs ?_
  clear hK K
  try simp only [putz]
  refine Goes.take (i := 14) (o := ⟨some 84, _, _, _, _, _⟩) (v := ?_) [] rfl (by as_aux_lemma => kernel_rfl) (by as_aux_lemma => kernel_rfl) (by as_aux_lemma => kernel_rfl) (fun _ _ _ h => h) (by as_aux_lemma => kernel_rfl) (fun L u h => h) (Or.inl ⟨by rfl, ?_⟩) hs ?_
  rotate_left
  · intro w hY; go_simp; try with_reducible rfl
  try simp only [putz]
  refine Goes.take (i := 17) (o := ⟨some 87, _, _, _, _, _⟩) (v := ?_) [] rfl (by as_aux_lemma => kernel_rfl) (by as_aux_lemma => kernel_rfl) (by as_aux_lemma => kernel_rfl) (fun _ _ _ h => h) (by as_aux_lemma => kernel_rfl) (fun L u h => h) (Or.inl ⟨by rfl, ?_⟩) hs ?_
  rotate_left
  · intro w hY; go_simp; try with_reducible rfl
  try simp only [putz]
  refine Goes.take (i := 18) (o := ⟨some 88, _, _, _, _, _⟩) (v := ?_) [] rfl (by as_aux_lemma => kernel_rfl) (by as_aux_lemma => kernel_rfl) (by as_aux_lemma => kernel_rfl) (fun _ _ _ h => h) (by as_aux_lemma => kernel_rfl) (fun L u h => h) (Or.inl ⟨by rfl, ?_⟩) hs ?_
  rotate_left
  · intro w hY; go_simp; try with_reducible rfl
  try simp only [putz]
  refine Goes.one (i := 20) (o := ⟨some 90, _, _, _, _, _⟩) (by as_aux_lemma => kernel_rfl) rfl (fun K hK => ?_)
  go_simp
  with_reducible refine (round_17 _ _ b2).mono ?_
  rintro e' wc ⟨rfl, rfl⟩
  go_wp2_with fail
  refine hK.out _ _ hs ?_
  clear hK K
  try simp only [putz]
  refine Goes.one (i := 22) (o := ⟨some 92, _, _, _, _, _⟩) (by as_aux_lemma => kernel_rfl) rfl (fun K hK => ?_)
  go_simp
  with_reducible refine (round_19 _ _ b2).mono ?_
  rintro e' wd ⟨rfl, rfl⟩
  go_wp2_with fail
  refine hK.out _ _ hs ?_
  clear hK K
  try simp only [putz]
  refine Goes.take (i := 23) (o := ⟨some 93, _, _, _, _, _⟩) (v := ?_) [] rfl (by as_aux_lemma => kernel_rfl) (by as_aux_lemma => kernel_rfl) (by as_aux_lemma => kernel_rfl) (fun _ _ _ h => h) (by as_aux_lemma => kernel_rfl) (fun L u h => h) (Or.inl ⟨by rfl, ?_⟩) hs ?_
  rotate_left
  · intro w hY; go_simp; try with_reducible rfl
  try simp only [putz]
  refine Goes.take (i := 26) (o := ⟨some 96, _, _, _, _, _⟩) (v := ?_) [] rfl (by as_aux_lemma => kernel_rfl) (by as_aux_lemma => kernel_rfl) (by as_aux_lemma => kernel_rfl) (fun _ _ _ h => h) (by as_aux_lemma => kernel_rfl) (fun L u h => h) (Or.inl ⟨by rfl, ?_⟩) hs ?_
  rotate_left
  · intro w hY; go_simp; try with_reducible rfl
  try simp only [putz]
  refine Goes.take (i := 27) (o := ⟨some 97, _, _, _, _, _⟩) (v := ?_) [] rfl (by as_aux_lemma => kernel_rfl) (by as_aux_lemma => kernel_rfl) (by as_aux_lemma => kernel_rfl) (fun _ _ _ h => h) (by as_aux_lemma => kernel_rfl) (fun L u h => h) (Or.inl ⟨by rfl, ?_⟩) hs ?_
  rotate_left
  · intro w hY; go_simp; try with_reducible rfl
  try simp only [putz]
  refine Goes.take (i := 28) (o := ⟨some 98, _, _, _, _, _⟩) (v := ?_) [] rfl (by as_aux_lemma => kernel_rfl) (by as_aux_lemma => kernel_rfl) (by as_aux_lemma => kernel_rfl) (fun _ _ _ h => h) (by as_aux_lemma => kernel_rfl) (fun L u h => h) (Or.inl ⟨by rfl, ?_⟩) hs ?_
  rotate_left
  · intro w hY; go_simp; try with_reducible rfl
  try simp only [putz]
  refine Goes.one (i := 29) (o := ⟨none, _, _, _, _, _⟩) (by as_aux_lemma => kernel_rfl) rfl (fun K hK => ?_)
  go_simp
  refine hK.out _ _ (HKC.out _ _ hs) ?_
  clear hK K
  try simp only [putz]
  refine Goes.done (by as_aux_lemma => kernel_rfl) ?_ _
  refine NoPanic.normal ?_
  rw [HV.out]
  exact hQ.out _ _ _ _ _ _ _ _ _ _ _ _ _ _ _ _ _ _ _ _ _ _ _ _ _ _ _ _ _
end Go.Proofs.YtbloejlebikecaaGreatDoor
namespace Go.Proofs.YtbloejlebikecaaGreatDoor
open Go.RowKit
set_option linter.unusedVariables false
set_option linter.unusedSimpArgs false

/-- one of two, taken against each other or together -/
theorem cho_xor (e f g : Nat) (he : e < 4294967296) : (e &&& f) ^^^ ((4294967295 - e) &&& g) = cho e f g := by
  unfold cho
  rw [← not32 e he]
  apply Nat.eq_of_testBit_eq
  intro i
  have hb : e.testBit i = true → (4294967295 : Nat).testBit i = true := by
    intro h
    rw [show (4294967295 : Nat) = 2 ^ 32 - 1 by decide, Nat.testBit_two_pow_sub_one]
    rcases Nat.lt_or_ge i 32 with h2 | h2
    · simpa using h2
    · rw [Nat.testBit_lt_two_pow (Nat.lt_of_lt_of_le he (Nat.pow_le_pow_right (n := 2) (i := 32) (by decide) h2))] at h; cases h
  simp only [Nat.testBit_xor, Nat.testBit_or, Nat.testBit_and]
  cases h1 : e.testBit i
  · simp
  · rw [hb h1]; simp
theorem t_eq2 (e f g h kv wv : Nat) (he : e < 4294967296) (hf : f < 4294967296) (hg : g < 4294967296) :
    IntKind.u32.wrap (IntKind.u32.wrap (IntKind.u32.wrap (IntKind.u32.wrap ((h : Int) + bits BinOp.xor IntKind.u32 (bits BinOp.xor IntKind.u32 ((rot e 6 : Nat) : Int) ((rot e 11 : Nat) : Int)) ((rot e 25 : Nat) : Int)) + bits BinOp.xor IntKind.u32 (bits BinOp.and IntKind.u32 (e : Int) (f : Int)) (bits BinOp.and IntKind.u32 (bits BinOp.xor IntKind.u32 IntKind.u32.max (e : Int)) (g : Int))) + (kv : Int)) + (wv : Int)) = ((((((h + b1 e) % 4294967296 + cho e f g) % 4294967296 + kv) % 4294967296 + wv) % 4294967296 : Nat) : Int) := by
  have e1 : bits BinOp.xor IntKind.u32 IntKind.u32.max (e : Int) = ((4294967295 - e : Nat) : Int) := by
    rw [← not32 e he]; exact u32_xor_nat 4294967295 e (by decide) he
  rw [e1, u32_xor_nat _ _ (rot_lt 6 he) (rot_lt 11 he), u32_xor_nat _ _ (xor_lt (rot_lt 6 he) (rot_lt 11 he)) (rot_lt 25 he), u32_and_nat e f he hf, u32_and_nat (4294967295 - e) g (by omega) hg, u32_xor_nat _ _ (and_lt _ he) (and_lt _ (by omega)), cho_xor e f g he, IntKind.wrap_u32, IntKind.wrap_u32, IntKind.wrap_u32, IntKind.wrap_u32]
  unfold b1
  omega
theorem u_eq2 (a b c : Nat) (ha : a < 4294967296) (hb : b < 4294967296) (hc : c < 4294967296) : IntKind.u32.wrap (bits BinOp.xor IntKind.u32 (bits BinOp.xor IntKind.u32 ((rot a 2 : Nat) : Int) ((rot a 13 : Nat) : Int)) ((rot a 22 : Nat) : Int) + bits BinOp.or IntKind.u32 (bits BinOp.or IntKind.u32 (bits BinOp.and IntKind.u32 (a : Int) (b : Int)) (bits BinOp.and IntKind.u32 (a : Int) (c : Int))) (bits BinOp.and IntKind.u32 (b : Int) (c : Int))) = (((b0 a + maj a b c) % 4294967296 : Nat) : Int) := by
  rw [u32_xor_nat _ _ (rot_lt 2 ha) (rot_lt 13 ha), u32_xor_nat _ _ (xor_lt (rot_lt 2 ha) (rot_lt 13 ha)) (rot_lt 22 ha), IntKind.wrap_u32, u_eq a b c _ ha hb hc]
  rfl
noncomputable def rb18 : Code := ((Tryz.f107.body.bind (findRegion 18)).getD .skip)
noncomputable def rb19 : Code := ((Tryz.f107.body.bind (findRegion 19)).getD .skip)
set_option maxRecDepth 100000 in
set_option maxHeartbeats 1000000 in
theorem rb18_ok {w wr : World} {g12 gt i e f g h kv wv tv : Nat} {Q : Exit → Act → World → Prop} (be : e < 4294967296) (i64 : (i : Int) < 64) (i0 : (0 : Int) ≤ i) (wi : IntKind.i64.wrap (i : Int) = (i : Int)) (hS : wr.cell? ⟨g12, 7, none⟩ = some (.int .u32 (h : Int)) ∧ wr.cell? ⟨g12, 5, none⟩ = some (.int .u32 (f : Int)) ∧ wr.cell? ⟨g12, 6, none⟩ = some (.int .u32 (g : Int)) ∧ wr.cell? ⟨gt, i, none⟩ = some (.int .u32 (kv : Int)) ∧ wr.cell? ⟨w.heap.size + 1 + 1, i, none⟩ = some (.int .u32 (wv : Int)))
    (HT : Hid (IntKind.u32.wrap (IntKind.u32.wrap (IntKind.u32.wrap (IntKind.u32.wrap ((h : Int) + bits BinOp.xor IntKind.u32 (bits BinOp.xor IntKind.u32 ((rot e 6 : Nat) : Int) ((rot e 11 : Nat) : Int)) ((rot e 25 : Nat) : Int)) + bits BinOp.xor IntKind.u32 (bits BinOp.and IntKind.u32 (e : Int) (f : Int)) (bits BinOp.and IntKind.u32 (bits BinOp.xor IntKind.u32 IntKind.u32.max (e : Int)) (g : Int))) + (kv : Int)) + (wv : Int)) = (tv : Int)))
    (c0 c1 c3 c4 c5 c6 c8 c9 c10 c11 c14 c16 c17 c18 c19 c20 c21 c22 c23 c24 c25 c26 c27 c28 c29 c30 c31 c32 c33 c34 c35 c36 c37 c38 c39 c40 c41 c42 c43 c44 c45 c46 c47 c48 c49 c50 c51 c52 c53 c54 c55 c56 c57 c58 c59 c60 c61 c62 c63 c64 c65 c66 c67 c68 c69 c70 c71 c72 c73 c74 c75 c76 c77 c78 c79 c80 c81 c82 c83 c84 c85 c86 c87 c88 c89 c90 c91 c92 c93 c94 c95 c96 c97 c98 c99 c100 c101 c102 c103 c104 c105 c106 c107 c108 c109 c110 c111 c112 c113 c114 c115 c116 c117 c118 c119 c120 c121 c122 c123 c124 c125 c126 c127 c128 c129 c130 c131 c132 c133 c134 c135 c136 c137 c138 c139 c140 c141 c142 c143 c144 c145 c146 c147 c148 c149 c150 c151 c152 c153 c154 c155 c156 c157 c158 c159 c160 c161 c162 c163 c164 c165 c166 c167 c168 c169 c170 c171 c172 c173 c174 c175 c176 c177 c178 c179 c180 c181 c182 c183 c184 c185 c186 c187 c188 c189 c190 c191 c192 c193 c194 : Value)
    (hQ : Hid (∀ (d108 d109 d110 d111 d112 d113 d114 d115 d116 d117 d118 d119 d120 d121 d122 d123 d124 d125 d126 d127 d128 d129 d130 d131 d132 d133 d134 d135 d136 d137 d138 : Value), Q .normal ⟨#[c0, c1, .slice (some ⟨gt, 0, none⟩) 64 64, c3, c4, c5, c6, .pointer (some ⟨w.heap.size + 1 + 1, 0, none⟩), c8, c9, c10, c11, .pointer (some ⟨g12, 0, none⟩), .int .i64 (i : Int), c14, .int .u32 (e : Int), .int .u32 (tv : Int), c17, c18, c19, c20, c21, c22, c23, c24, c25, c26, c27, c28, c29, c30, c31, c32, c33, c34, c35, c36, c37, c38, c39, c40, c41, c42, c43, c44, c45, c46, c47, c48, c49, c50, c51, c52, c53, c54, c55, c56, c57, c58, c59, c60, c61, c62, c63, c64, c65, c66, c67, c68, c69, c70, c71, c72, c73, c74, c75, c76, c77, c78, c79, c80, c81, c82, c83, c84, c85, c86, c87, c88, c89, c90, c91, c92, c93, c94, c95, c96, c97, c98, c99, c100, c101, c102, c103, c104, c105, c106, c107, d108, d109, d110, d111, d112, d113, d114, d115, d116, d117, d118, d119, d120, d121, d122, d123, d124, d125, d126, d127, d128, d129, d130, d131, d132, d133, d134, d135, d136, d137, d138, c139, c140, c141, c142, c143, c144, c145, c146, c147, c148, c149, c150, c151, c152, c153, c154, c155, c156, c157, c158, c159, c160, c161, c162, c163, c164, c165, c166, c167, c168, c169, c170, c171, c172, c173, c174, c175, c176, c177, c178, c179, c180, c181, c182, c183, c184, c185, c186, c187, c188, c189, c190, c191, c192, c193, c194], []⟩ wr.drew)) :
    Code.wp Tryz.prog rb18 Q ⟨#[c0, c1, .slice (some ⟨gt, 0, none⟩) 64 64, c3, c4, c5, c6, .pointer (some ⟨w.heap.size + 1 + 1, 0, none⟩), c8, c9, c10, c11, .pointer (some ⟨g12, 0, none⟩), .int .i64 (i : Int), c14, .int .u32 (e : Int), c16, c17, c18, c19, c20, c21, c22, c23, c24, c25, c26, c27, c28, c29, c30, c31, c32, c33, c34, c35, c36, c37, c38, c39, c40, c41, c42, c43, c44, c45, c46, c47, c48, c49, c50, c51, c52, c53, c54, c55, c56, c57, c58, c59, c60, c61, c62, c63, c64, c65, c66, c67, c68, c69, c70, c71, c72, c73, c74, c75, c76, c77, c78, c79, c80, c81, c82, c83, c84, c85, c86, c87, c88, c89, c90, c91, c92, c93, c94, c95, c96, c97, c98, c99, c100, c101, c102, c103, c104, c105, c106, c107, c108, c109, c110, c111, c112, c113, c114, c115, c116, c117, c118, c119, c120, c121, c122, c123, c124, c125, c126, c127, c128, c129, c130, c131, c132, c133, c134, c135, c136, c137, c138, c139, c140, c141, c142, c143, c144, c145, c146, c147, c148, c149, c150, c151, c152, c153, c154, c155, c156, c157, c158, c159, c160, c161, c162, c163, c164, c165, c166, c167, c168, c169, c170, c171, c172, c173, c174, c175, c176, c177, c178, c179, c180, c181, c182, c183, c184, c185, c186, c187, c188, c189, c190, c191, c192, c193, c194], []⟩ wr := by
  conv => arg 2; whnf
  have hs : wr.drew.cell? ⟨g12, 7, none⟩ = some (.int .u32 (h : Int)) ∧ wr.drew.cell? ⟨g12, 5, none⟩ = some (.int .u32 (f : Int)) ∧ wr.drew.cell? ⟨g12, 6, none⟩ = some (.int .u32 (g : Int)) ∧ wr.drew.cell? ⟨gt, i, none⟩ = some (.int .u32 (kv : Int)) ∧ wr.drew.cell? ⟨w.heap.size + 1 + 1, i, none⟩ = some (.int .u32 (wv : Int)) := hS
  refine wp_region_noPanic ?_
  refine Goes.region (fun (L : Array Bool) (w' : World) => w'.cell? ⟨g12, 7, none⟩ = some (.int .u32 (h : Int)) ∧ w'.cell? ⟨g12, 5, none⟩ = some (.int .u32 (f : Int)) ∧ w'.cell? ⟨g12, 6, none⟩ = some (.int .u32 (g : Int)) ∧ w'.cell? ⟨gt, i, none⟩ = some (.int .u32 (kv : Int)) ∧ w'.cell? ⟨w.heap.size + 1 + 1, i, none⟩ = some (.int .u32 (wv : Int))) (by as_aux_lemma => kernel_rfl) ?_
  refine Goes.take (i := 0) (o := ⟨some 108, _, _, _, _, _⟩) (v := ?_) [] rfl (by as_aux_lemma => kernel_rfl) (by as_aux_lemma => kernel_rfl) (by as_aux_lemma => kernel_rfl) (fun _ _ _ h => h) (by as_aux_lemma => kernel_rfl) (fun L u h => h) (Or.inl ⟨by rfl, ?_⟩) hs ?_
  rotate_left
  · intro w hY; go_simp; try with_reducible rfl
  try simp only [putz]
  refine Goes.take (i := 1) (o := ⟨some 109, _, _, _, _, _⟩) (v := ?_) [] rfl (by as_aux_lemma => kernel_rfl) (by as_aux_lemma => kernel_rfl) (by as_aux_lemma => kernel_rfl) (fun _ _ _ h => h) (by as_aux_lemma => kernel_rfl) (fun L u h => h) (Or.inl ⟨by rfl, ?_⟩) hs ?_
  rotate_left
  · intro w hY; obtain ⟨up, hL⟩ := hY; have hX := hL.2.1; clear hL; (try dsimp only at hX); go_simp; try with_reducible rfl
  try simp only [putz]
  refine Goes.take (i := 2) (o := ⟨some 110, _, _, _, _, _⟩) (v := ?_) [] rfl (by as_aux_lemma => kernel_rfl) (by as_aux_lemma => kernel_rfl) (by as_aux_lemma => kernel_rfl) (fun _ _ _ h => h) (by as_aux_lemma => kernel_rfl) (fun L u h => h) (Or.inl ⟨by rfl, ?_⟩) hs ?_
  rotate_left
  · intro w hY; go_simp; try with_reducible rfl
  try simp only [putz]
  refine Goes.take (i := 4) (o := ⟨some 112, _, _, _, _, _⟩) (v := ?_) [] rfl (by as_aux_lemma => kernel_rfl) (by as_aux_lemma => kernel_rfl) (by as_aux_lemma => kernel_rfl) (fun _ _ _ h => h) (by as_aux_lemma => kernel_rfl) (fun L u h => h) (Or.inl ⟨by rfl, ?_⟩) hs ?_
  rotate_left
  · intro w hY; go_simp; try with_reducible rfl
  try simp only [putz]
  refine Goes.take (i := 7) (o := ⟨some 115, _, _, _, _, _⟩) (v := ?_) [] rfl (by as_aux_lemma => kernel_rfl) (by as_aux_lemma => kernel_rfl) (by as_aux_lemma => kernel_rfl) (fun _ _ _ h => h) (by as_aux_lemma => kernel_rfl) (fun L u h => h) (Or.inl ⟨by rfl, ?_⟩) hs ?_
  rotate_left
  · intro w hY; go_simp; try with_reducible rfl
  try simp only [putz]
  refine Goes.take (i := 11) (o := ⟨some 119, _, _, _, _, _⟩) (v := ?_) [] rfl (by as_aux_lemma => kernel_rfl) (by as_aux_lemma => kernel_rfl) (by as_aux_lemma => kernel_rfl) (fun _ _ _ h => h) (by as_aux_lemma => kernel_rfl) (fun L u h => h) (Or.inl ⟨by rfl, ?_⟩) hs ?_
  rotate_left
  · intro w hY; go_simp; try with_reducible rfl
  try simp only [putz]
  refine Goes.take (i := 12) (o := ⟨some 120, _, _, _, _, _⟩) (v := ?_) [] rfl (by as_aux_lemma => kernel_rfl) (by as_aux_lemma => kernel_rfl) (by as_aux_lemma => kernel_rfl) (fun _ _ _ h => h) (by as_aux_lemma => kernel_rfl) (fun L u h => h) (Or.inl ⟨by rfl, ?_⟩) hs ?_
  rotate_left
  · intro w hY; go_simp; try with_reducible rfl
  try simp only [putz]
  refine Goes.take (i := 13) (o := ⟨some 121, _, _, _, _, _⟩) (v := ?_) [] rfl (by as_aux_lemma => kernel_rfl) (by as_aux_lemma => kernel_rfl) (by as_aux_lemma => kernel_rfl) (fun _ _ _ h => h) (by as_aux_lemma => kernel_rfl) (fun L u h => h) (Or.inl ⟨by rfl, ?_⟩) hs ?_
  rotate_left
  · intro w hY; obtain ⟨up, hL⟩ := hY; have hX := hL.2.2.1; clear hL; (try dsimp only at hX); go_simp; try with_reducible rfl
  try simp only [putz]
  refine Goes.take (i := 14) (o := ⟨some 122, _, _, _, _, _⟩) (v := ?_) [] rfl (by as_aux_lemma => kernel_rfl) (by as_aux_lemma => kernel_rfl) (by as_aux_lemma => kernel_rfl) (fun _ _ _ h => h) (by as_aux_lemma => kernel_rfl) (fun L u h => h) (Or.inl ⟨by rfl, ?_⟩) hs ?_
  rotate_left
  · intro w hY; go_simp; try with_reducible rfl
  try simp only [putz]
  refine Goes.take (i := 15) (o := ⟨some 123, _, _, _, _, _⟩) (v := ?_) [] rfl (by as_aux_lemma => kernel_rfl) (by as_aux_lemma => kernel_rfl) (by as_aux_lemma => kernel_rfl) (fun _ _ _ h => h) (by as_aux_lemma => kernel_rfl) (fun L u h => h) (Or.inl ⟨by rfl, ?_⟩) hs ?_
  rotate_left
  · intro w hY; go_simp; try with_reducible rfl
  try simp only [putz]
  refine Goes.take (i := 16) (o := ⟨some 124, _, _, _, _, _⟩) (v := ?_) [] rfl (by as_aux_lemma => kernel_rfl) (by as_aux_lemma => kernel_rfl) (by as_aux_lemma => kernel_rfl) (fun _ _ _ h => h) (by as_aux_lemma => kernel_rfl) (fun L u h => h) (Or.inl ⟨by rfl, ?_⟩) hs ?_
  rotate_left
  · intro w hY; go_simp; try with_reducible rfl
  try simp only [putz]
  refine Goes.take (i := 17) (o := ⟨some 125, _, _, _, _, _⟩) (v := ?_) [] rfl (by as_aux_lemma => kernel_rfl) (by as_aux_lemma => kernel_rfl) (by as_aux_lemma => kernel_rfl) (fun _ _ _ h => h) (by as_aux_lemma => kernel_rfl) (fun L u h => h) (Or.inl ⟨by rfl, ?_⟩) hs ?_
  rotate_left
  · intro w hY; go_simp; try with_reducible rfl
  try simp only [putz]
  refine Goes.take (i := 18) (o := ⟨some 126, _, _, _, _, _⟩) (v := ?_) [] rfl (by as_aux_lemma => kernel_rfl) (by as_aux_lemma => kernel_rfl) (by as_aux_lemma => kernel_rfl) (fun _ _ _ h => h) (by as_aux_lemma => kernel_rfl) (fun L u h => h) (Or.inl ⟨by rfl, ?_⟩) hs ?_
  rotate_left
  · intro w hY; obtain ⟨up, hL⟩ := hY; have hX := hL.2.2.2.1; clear hL; (try dsimp only at hX); go_simp; try with_reducible rfl
  try simp only [putz]
  refine Goes.take (i := 19) (o := ⟨some 127, _, _, _, _, _⟩) (v := ?_) [] rfl (by as_aux_lemma => kernel_rfl) (by as_aux_lemma => kernel_rfl) (by as_aux_lemma => kernel_rfl) (fun _ _ _ h => h) (by as_aux_lemma => kernel_rfl) (fun L u h => h) (Or.inl ⟨by rfl, ?_⟩) hs ?_
  rotate_left
  · intro w hY; go_simp; try with_reducible rfl
  try simp only [putz]
  refine Goes.take (i := 20) (o := ⟨some 128, _, _, _, _, _⟩) (v := ?_) [] rfl (by as_aux_lemma => kernel_rfl) (by as_aux_lemma => kernel_rfl) (by as_aux_lemma => kernel_rfl) (fun _ _ _ h => h) (by as_aux_lemma => kernel_rfl) (fun L u h => h) (Or.inl ⟨by rfl, ?_⟩) hs ?_
  rotate_left
  · intro w hY; go_simp; try with_reducible rfl
  try simp only [putz]
  refine Goes.take (i := 22) (o := ⟨some 130, _, _, _, _, _⟩) (v := ?_) [] rfl (by as_aux_lemma => kernel_rfl) (by as_aux_lemma => kernel_rfl) (by as_aux_lemma => kernel_rfl) (fun _ _ _ h => h) (by as_aux_lemma => kernel_rfl) (fun L u h => h) (Or.inl ⟨by rfl, ?_⟩) hs ?_
  rotate_left
  · intro w hY; go_simp; try with_reducible rfl
  try simp only [putz]
  refine Goes.take (i := 23) (o := ⟨some 131, _, _, _, _, _⟩) (v := ?_) [] rfl (by as_aux_lemma => kernel_rfl) (by as_aux_lemma => kernel_rfl) (by as_aux_lemma => kernel_rfl) (fun _ _ _ h => h) (by as_aux_lemma => kernel_rfl) (fun L u h => h) (Or.inl ⟨by rfl, ?_⟩) hs ?_
  rotate_left
  · intro w hY; go_simp; try with_reducible rfl
  try simp only [putz]
  refine Goes.take (i := 24) (o := ⟨some 132, _, _, _, _, _⟩) (v := ?_) [] rfl (by as_aux_lemma => kernel_rfl) (by as_aux_lemma => kernel_rfl) (by as_aux_lemma => kernel_rfl) (fun _ _ _ h => h) (by as_aux_lemma => kernel_rfl) (fun L u h => h) (Or.inl ⟨by rfl, ?_⟩) hs ?_
  rotate_left
  · intro w hY; go_simp; try with_reducible rfl
  try simp only [putz]
  refine Goes.take (i := 25) (o := ⟨some 133, _, _, _, _, _⟩) (v := ?_) [] rfl (by as_aux_lemma => kernel_rfl) (by as_aux_lemma => kernel_rfl) (by as_aux_lemma => kernel_rfl) (fun _ _ _ h => h) (by as_aux_lemma => kernel_rfl) (fun L u h => h) (Or.inl ⟨by rfl, ?_⟩) hs ?_
  rotate_left
  · intro w hY; obtain ⟨up, hL⟩ := hY; have hX := hL.2.2.2.2.1; clear hL; (try dsimp only at hX); go_simp; try with_reducible rfl
  try simp only [putz]
  refine Goes.take (i := 27) (o := ⟨some 135, _, _, _, _, _⟩) (v := ?_) [] rfl (by as_aux_lemma => kernel_rfl) (by as_aux_lemma => kernel_rfl) (by as_aux_lemma => kernel_rfl) (fun _ _ _ h => h) (by as_aux_lemma => kernel_rfl) (fun L u h => h) (Or.inl ⟨by rfl, ?_⟩) hs ?_
  rotate_left
  · intro w hY; go_simp; try with_reducible rfl
  try simp only [putz]
  refine Goes.take (i := 28) (o := ⟨some 136, _, _, _, _, _⟩) (v := ?_) [] rfl (by as_aux_lemma => kernel_rfl) (by as_aux_lemma => kernel_rfl) (by as_aux_lemma => kernel_rfl) (fun _ _ _ h => h) (by as_aux_lemma => kernel_rfl) (fun L u h => h) (Or.inl ⟨by rfl, ?_⟩) hs ?_
  rotate_left
  · intro w hY; go_simp; try with_reducible rfl
  try simp only [putz]
  refine Goes.take (i := 29) (o := ⟨some 137, _, _, _, _, _⟩) (v := ?_) [] rfl (by as_aux_lemma => kernel_rfl) (by as_aux_lemma => kernel_rfl) (by as_aux_lemma => kernel_rfl) (fun _ _ _ h => h) (by as_aux_lemma => kernel_rfl) (fun L u h => h) (Or.inl ⟨by rfl, ?_⟩) hs ?_
  rotate_left
  · intro w hY; obtain ⟨up, hL⟩ := hY; have hX := hL.2.2.2.2.2; clear hL; (try dsimp only at hX); go_simp; try with_reducible rfl
  try simp only [putz]
  refine Goes.one (i := 3) (o := ⟨some 111, _, _, _, _, _⟩) (by as_aux_lemma => kernel_rfl) rfl (fun K hK => ?_)
  go_simp
  with_reducible refine (round_6 _ _ be).mono ?_
  rintro e' wa ⟨rfl, rfl⟩
  go_wp2_with fail
  refine hK.out _ _ hs ?_
  clear hK K
  try simp only [putz]
  refine Goes.one (i := 5) (o := ⟨some 113, _, _, _, _, _⟩) (by as_aux_lemma => kernel_rfl) rfl (fun K hK => ?_)
  go_simp
  with_reducible refine (round_11 _ _ be).mono ?_
  rintro e' wb ⟨rfl, rfl⟩
  go_wp2_with fail
  refine hK.out _ _ hs ?_
  clear hK K
  try simp only [putz]
  refine Goes.take (i := 6) (o := ⟨some 114, _, _, _, _, _⟩) (v := ?_) [] rfl (by as_aux_lemma => kernel_rfl) (by as_aux_lemma => kernel_rfl) (by as_aux_lemma => kernel_rfl) (fun _ _ _ h => h) (by as_aux_lemma => kernel_rfl) (fun L u h => h) (Or.inl ⟨by rfl, ?_⟩) hs ?_
  rotate_left
  · intro w hY; go_simp; try with_reducible rfl
  try simp only [putz]
  refine Goes.one (i := 8) (o := ⟨some 116, _, _, _, _, _⟩) (by as_aux_lemma => kernel_rfl) rfl (fun K hK => ?_)
  go_simp
  with_reducible refine (round_25 _ _ be).mono ?_
  rintro e' wc ⟨rfl, rfl⟩
  go_wp2_with fail
  refine hK.out _ _ hs ?_
  clear hK K
  try simp only [putz]
  refine Goes.take (i := 9) (o := ⟨some 117, _, _, _, _, _⟩) (v := ?_) [] rfl (by as_aux_lemma => kernel_rfl) (by as_aux_lemma => kernel_rfl) (by as_aux_lemma => kernel_rfl) (fun _ _ _ h => h) (by as_aux_lemma => kernel_rfl) (fun L u h => h) (Or.inl ⟨by rfl, ?_⟩) hs ?_
  rotate_left
  · intro w hY; go_simp; try with_reducible rfl
  try simp only [putz]
  refine Goes.take (i := 10) (o := ⟨some 118, _, _, _, _, _⟩) (v := ?_) [] rfl (by as_aux_lemma => kernel_rfl) (by as_aux_lemma => kernel_rfl) (by as_aux_lemma => kernel_rfl) (fun _ _ _ h => h) (by as_aux_lemma => kernel_rfl) (fun L u h => h) (Or.inl ⟨by rfl, ?_⟩) hs ?_
  rotate_left
  · intro w hY; go_simp; try with_reducible rfl
  try simp only [putz]
  refine Goes.take (i := 21) (o := ⟨some 129, _, _, _, _, _⟩) (v := ?_) [] rfl (by as_aux_lemma => kernel_rfl) (by as_aux_lemma => kernel_rfl) (by as_aux_lemma => kernel_rfl) (fun _ _ _ h => h) (by as_aux_lemma => kernel_rfl) (fun L u h => h) (Or.inl ⟨by rfl, ?_⟩) hs ?_
  rotate_left
  · intro w hY; go_simp; try with_reducible rfl
  try simp only [putz]
  refine Goes.take (i := 26) (o := ⟨some 134, _, _, _, _, _⟩) (v := ?_) [] rfl (by as_aux_lemma => kernel_rfl) (by as_aux_lemma => kernel_rfl) (by as_aux_lemma => kernel_rfl) (fun _ _ _ h => h) (by as_aux_lemma => kernel_rfl) (fun L u h => h) (Or.inl ⟨by rfl, ?_⟩) hs ?_
  rotate_left
  · intro w hY; go_simp; try with_reducible rfl
  try simp only [putz]
  refine Goes.take (i := 30) (o := ⟨some 138, _, _, _, _, _⟩) (v := ?_) [] rfl (by as_aux_lemma => kernel_rfl) (by as_aux_lemma => kernel_rfl) (by as_aux_lemma => kernel_rfl) (fun _ _ _ h => h) (by as_aux_lemma => kernel_rfl) (fun L u h => h) (Or.inl ⟨by rfl, ?_⟩) hs ?_
  rotate_left
  · intro w hY; go_simp; try with_reducible rfl
  try simp only [putz]
  refine Goes.take (i := 31) (o := ⟨some 16, _, _, _, _, _⟩) (v := ?_) [] rfl (by as_aux_lemma => kernel_rfl) (by as_aux_lemma => kernel_rfl) (by as_aux_lemma => kernel_rfl) (fun _ _ _ h => h) (by as_aux_lemma => kernel_rfl) (fun L u h => h) (Or.inl ⟨by rfl, ?_⟩) hs ?_
  rotate_left
  · intro w hY; go_simp; try with_reducible rfl
  try simp only [putz]
  refine Goes.done (by as_aux_lemma => kernel_rfl) ?_ _
  refine NoPanic.normal ?_
  rw [HT.out]
  exact hQ.out _ _ _ _ _ _ _ _ _ _ _ _ _ _ _ _ _ _ _ _ _ _ _ _ _ _ _ _ _ _ _
set_option maxRecDepth 100000 in
set_option maxHeartbeats 1000000 in
theorem rb19_ok {wr : World} {g12 a b c uv : Nat} {Q : Exit → Act → World → Prop} (ba : a < 4294967296) (hS : wr.cell? ⟨g12, 1, none⟩ = some (.int .u32 (b : Int)) ∧ wr.cell? ⟨g12, 2, none⟩ = some (.int .u32 (c : Int)))
    (HT : Hid (IntKind.u32.wrap (bits BinOp.xor IntKind.u32 (bits BinOp.xor IntKind.u32 ((rot a 2 : Nat) : Int) ((rot a 13 : Nat) : Int)) ((rot a 22 : Nat) : Int) + bits BinOp.or IntKind.u32 (bits BinOp.or IntKind.u32 (bits BinOp.and IntKind.u32 (a : Int) (b : Int)) (bits BinOp.and IntKind.u32 (a : Int) (c : Int))) (bits BinOp.and IntKind.u32 (b : Int) (c : Int))) = (uv : Int)))
    (c0 c1 c2 c3 c4 c5 c6 c7 c8 c9 c10 c11 c13 c15 c16 c17 c18 c19 c20 c21 c22 c23 c24 c25 c26 c27 c28 c29 c30 c31 c32 c33 c34 c35 c36 c37 c38 c39 c40 c41 c42 c43 c44 c45 c46 c47 c48 c49 c50 c51 c52 c53 c54 c55 c56 c57 c58 c59 c60 c61 c62 c63 c64 c65 c66 c67 c68 c69 c70 c71 c72 c73 c74 c75 c76 c77 c78 c79 c80 c81 c82 c83 c84 c85 c86 c87 c88 c89 c90 c91 c92 c93 c94 c95 c96 c97 c98 c99 c100 c101 c102 c103 c104 c105 c106 c107 c108 c109 c110 c111 c112 c113 c114 c115 c116 c117 c118 c119 c120 c121 c122 c123 c124 c125 c126 c127 c128 c129 c130 c131 c132 c133 c134 c135 c136 c137 c138 c139 c140 c141 c142 c143 c144 c145 c146 c147 c148 c149 c150 c151 c152 c153 c154 c155 c156 c157 c158 c159 c160 c161 c162 c163 c164 c165 c166 c167 c168 c169 c170 c171 c172 c173 c174 c175 c176 c177 c178 c179 c180 c181 c182 c183 c184 c185 c186 c187 c188 c189 c190 c191 c192 c193 c194 : Value)
    (hQ : Hid (∀ (d139 d140 d141 d142 d143 d144 d145 d146 d147 d148 d149 d150 d151 d152 d153 d154 d155 d156 d157 d158 d159 d160 d161 d162 : Value), Q .normal ⟨#[c0, c1, c2, c3, c4, c5, c6, c7, c8, c9, c10, c11, .pointer (some ⟨g12, 0, none⟩), c13, .int .u32 (a : Int), c15, c16, .int .u32 (uv : Int), c18, c19, c20, c21, c22, c23, c24, c25, c26, c27, c28, c29, c30, c31, c32, c33, c34, c35, c36, c37, c38, c39, c40, c41, c42, c43, c44, c45, c46, c47, c48, c49, c50, c51, c52, c53, c54, c55, c56, c57, c58, c59, c60, c61, c62, c63, c64, c65, c66, c67, c68, c69, c70, c71, c72, c73, c74, c75, c76, c77, c78, c79, c80, c81, c82, c83, c84, c85, c86, c87, c88, c89, c90, c91, c92, c93, c94, c95, c96, c97, c98, c99, c100, c101, c102, c103, c104, c105, c106, c107, c108, c109, c110, c111, c112, c113, c114, c115, c116, c117, c118, c119, c120, c121, c122, c123, c124, c125, c126, c127, c128, c129, c130, c131, c132, c133, c134, c135, c136, c137, c138, d139, d140, d141, d142, d143, d144, d145, d146, d147, d148, d149, d150, d151, d152, d153, d154, d155, d156, d157, d158, d159, d160, d161, d162, c163, c164, c165, c166, c167, c168, c169, c170, c171, c172, c173, c174, c175, c176, c177, c178, c179, c180, c181, c182, c183, c184, c185, c186, c187, c188, c189, c190, c191, c192, c193, c194], []⟩ wr.drew)) :
    Code.wp Tryz.prog rb19 Q ⟨#[c0, c1, c2, c3, c4, c5, c6, c7, c8, c9, c10, c11, .pointer (some ⟨g12, 0, none⟩), c13, .int .u32 (a : Int), c15, c16, c17, c18, c19, c20, c21, c22, c23, c24, c25, c26, c27, c28, c29, c30, c31, c32, c33, c34, c35, c36, c37, c38, c39, c40, c41, c42, c43, c44, c45, c46, c47, c48, c49, c50, c51, c52, c53, c54, c55, c56, c57, c58, c59, c60, c61, c62, c63, c64, c65, c66, c67, c68, c69, c70, c71, c72, c73, c74, c75, c76, c77, c78, c79, c80, c81, c82, c83, c84, c85, c86, c87, c88, c89, c90, c91, c92, c93, c94, c95, c96, c97, c98, c99, c100, c101, c102, c103, c104, c105, c106, c107, c108, c109, c110, c111, c112, c113, c114, c115, c116, c117, c118, c119, c120, c121, c122, c123, c124, c125, c126, c127, c128, c129, c130, c131, c132, c133, c134, c135, c136, c137, c138, c139, c140, c141, c142, c143, c144, c145, c146, c147, c148, c149, c150, c151, c152, c153, c154, c155, c156, c157, c158, c159, c160, c161, c162, c163, c164, c165, c166, c167, c168, c169, c170, c171, c172, c173, c174, c175, c176, c177, c178, c179, c180, c181, c182, c183, c184, c185, c186, c187, c188, c189, c190, c191, c192, c193, c194], []⟩ wr := by
  conv => arg 2; whnf
  have hs : wr.drew.cell? ⟨g12, 1, none⟩ = some (.int .u32 (b : Int)) ∧ wr.drew.cell? ⟨g12, 2, none⟩ = some (.int .u32 (c : Int)) := hS
  refine wp_region_noPanic ?_
  refine Goes.region (fun (L : Array Bool) (w' : World) => w'.cell? ⟨g12, 1, none⟩ = some (.int .u32 (b : Int)) ∧ w'.cell? ⟨g12, 2, none⟩ = some (.int .u32 (c : Int))) (by as_aux_lemma => kernel_rfl) ?_
  refine Goes.take (i := 0) (o := ⟨some 139, _, _, _, _, _⟩) (v := ?_) [] rfl (by as_aux_lemma => kernel_rfl) (by as_aux_lemma => kernel_rfl) (by as_aux_lemma => kernel_rfl) (fun _ _ _ h => h) (by as_aux_lemma => kernel_rfl) (fun L u h => h) (Or.inl ⟨by rfl, ?_⟩) hs ?_
  rotate_left
  · intro w hY; go_simp; try with_reducible rfl
  try simp only [putz]
  refine Goes.take (i := 2) (o := ⟨some 141, _, _, _, _, _⟩) (v := ?_) [] rfl (by as_aux_lemma => kernel_rfl) (by as_aux_lemma => kernel_rfl) (by as_aux_lemma => kernel_rfl) (fun _ _ _ h => h) (by as_aux_lemma => kernel_rfl) (fun L u h => h) (Or.inl ⟨by rfl, ?_⟩) hs ?_
  rotate_left
  · intro w hY; go_simp; try with_reducible rfl
  try simp only [putz]
  refine Goes.take (i := 5) (o := ⟨some 144, _, _, _, _, _⟩) (v := ?_) [] rfl (by as_aux_lemma => kernel_rfl) (by as_aux_lemma => kernel_rfl) (by as_aux_lemma => kernel_rfl) (fun _ _ _ h => h) (by as_aux_lemma => kernel_rfl) (fun L u h => h) (Or.inl ⟨by rfl, ?_⟩) hs ?_
  rotate_left
  · intro w hY; go_simp; try with_reducible rfl
  try simp only [putz]
  refine Goes.take (i := 8) (o := ⟨some 147, _, _, _, _, _⟩) (v := ?_) [] rfl (by as_aux_lemma => kernel_rfl) (by as_aux_lemma => kernel_rfl) (by as_aux_lemma => kernel_rfl) (fun _ _ _ h => h) (by as_aux_lemma => kernel_rfl) (fun L u h => h) (Or.inl ⟨by rfl, ?_⟩) hs ?_
  rotate_left
  · intro w hY; go_simp; try with_reducible rfl
  try simp only [putz]
  refine Goes.take (i := 9) (o := ⟨some 148, _, _, _, _, _⟩) (v := ?_) [] rfl (by as_aux_lemma => kernel_rfl) (by as_aux_lemma => kernel_rfl) (by as_aux_lemma => kernel_rfl) (fun _ _ _ h => h) (by as_aux_lemma => kernel_rfl) (fun L u h => h) (Or.inl ⟨by rfl, ?_⟩) hs ?_
  rotate_left
  · intro w hY; go_simp; try with_reducible rfl
  try simp only [putz]
  refine Goes.take (i := 10) (o := ⟨some 149, _, _, _, _, _⟩) (v := ?_) [] rfl (by as_aux_lemma => kernel_rfl) (by as_aux_lemma => kernel_rfl) (by as_aux_lemma => kernel_rfl) (fun _ _ _ h => h) (by as_aux_lemma => kernel_rfl) (fun L u h => h) (Or.inl ⟨by rfl, ?_⟩) hs ?_
  rotate_left
  · intro w hY; obtain ⟨up, hL⟩ := hY; have hX := hL.2.1; clear hL; (try dsimp only at hX); go_simp; try with_reducible rfl
  try simp only [putz]
  refine Goes.take (i := 11) (o := ⟨some 150, _, _, _, _, _⟩) (v := ?_) [] rfl (by as_aux_lemma => kernel_rfl) (by as_aux_lemma => kernel_rfl) (by as_aux_lemma => kernel_rfl) (fun _ _ _ h => h) (by as_aux_lemma => kernel_rfl) (fun L u h => h) (Or.inl ⟨by rfl, ?_⟩) hs ?_
  rotate_left
  · intro w hY; go_simp; try with_reducible rfl
  try simp only [putz]
  refine Goes.take (i := 12) (o := ⟨some 151, _, _, _, _, _⟩) (v := ?_) [] rfl (by as_aux_lemma => kernel_rfl) (by as_aux_lemma => kernel_rfl) (by as_aux_lemma => kernel_rfl) (fun _ _ _ h => h) (by as_aux_lemma => kernel_rfl) (fun L u h => h) (Or.inl ⟨by rfl, ?_⟩) hs ?_
  rotate_left
  · intro w hY; go_simp; try with_reducible rfl
  try simp only [putz]
  refine Goes.take (i := 13) (o := ⟨some 152, _, _, _, _, _⟩) (v := ?_) [] rfl (by as_aux_lemma => kernel_rfl) (by as_aux_lemma => kernel_rfl) (by as_aux_lemma => kernel_rfl) (fun _ _ _ h => h) (by as_aux_lemma => kernel_rfl) (fun L u h => h) (Or.inl ⟨by rfl, ?_⟩) hs ?_
  rotate_left
  · intro w hY; go_simp; try with_reducible rfl
  try simp only [putz]
  refine Goes.take (i := 14) (o := ⟨some 153, _, _, _, _, _⟩) (v := ?_) [] rfl (by as_aux_lemma => kernel_rfl) (by as_aux_lemma => kernel_rfl) (by as_aux_lemma => kernel_rfl) (fun _ _ _ h => h) (by as_aux_lemma => kernel_rfl) (fun L u h => h) (Or.inl ⟨by rfl, ?_⟩) hs ?_
  rotate_left
  · intro w hY; obtain ⟨up, hL⟩ := hY; have hX := hL.2.2; clear hL; (try dsimp only at hX); go_simp; try with_reducible rfl
  try simp only [putz]
  refine Goes.take (i := 15) (o := ⟨some 154, _, _, _, _, _⟩) (v := ?_) [] rfl (by as_aux_lemma => kernel_rfl) (by as_aux_lemma => kernel_rfl) (by as_aux_lemma => kernel_rfl) (fun _ _ _ h => h) (by as_aux_lemma => kernel_rfl) (fun L u h => h) (Or.inl ⟨by rfl, ?_⟩) hs ?_
  rotate_left
  · intro w hY; go_simp; try with_reducible rfl
  try simp only [putz]
  refine Goes.take (i := 16) (o := ⟨some 155, _, _, _, _, _⟩) (v := ?_) [] rfl (by as_aux_lemma => kernel_rfl) (by as_aux_lemma => kernel_rfl) (by as_aux_lemma => kernel_rfl) (fun _ _ _ h => h) (by as_aux_lemma => kernel_rfl) (fun L u h => h) (Or.inl ⟨by rfl, ?_⟩) hs ?_
  rotate_left
  · intro w hY; go_simp; try with_reducible rfl
  try simp only [putz]
  refine Goes.take (i := 17) (o := ⟨some 156, _, _, _, _, _⟩) (v := ?_) [] rfl (by as_aux_lemma => kernel_rfl) (by as_aux_lemma => kernel_rfl) (by as_aux_lemma => kernel_rfl) (fun _ _ _ h => h) (by as_aux_lemma => kernel_rfl) (fun L u h => h) (Or.inl ⟨by rfl, ?_⟩) hs ?_
  rotate_left
  · intro w hY; go_simp; try with_reducible rfl
  try simp only [putz]
  refine Goes.take (i := 18) (o := ⟨some 157, _, _, _, _, _⟩) (v := ?_) [] rfl (by as_aux_lemma => kernel_rfl) (by as_aux_lemma => kernel_rfl) (by as_aux_lemma => kernel_rfl) (fun _ _ _ h => h) (by as_aux_lemma => kernel_rfl) (fun L u h => h) (Or.inl ⟨by rfl, ?_⟩) hs ?_
  rotate_left
  · intro w hY; obtain ⟨up, hL⟩ := hY; have hX := hL.2.1; clear hL; (try dsimp only at hX); go_simp; try with_reducible rfl
  try simp only [putz]
  refine Goes.take (i := 19) (o := ⟨some 158, _, _, _, _, _⟩) (v := ?_) [] rfl (by as_aux_lemma => kernel_rfl) (by as_aux_lemma => kernel_rfl) (by as_aux_lemma => kernel_rfl) (fun _ _ _ h => h) (by as_aux_lemma => kernel_rfl) (fun L u h => h) (Or.inl ⟨by rfl, ?_⟩) hs ?_
  rotate_left
  · intro w hY; go_simp; try with_reducible rfl
  try simp only [putz]
  refine Goes.take (i := 20) (o := ⟨some 159, _, _, _, _, _⟩) (v := ?_) [] rfl (by as_aux_lemma => kernel_rfl) (by as_aux_lemma => kernel_rfl) (by as_aux_lemma => kernel_rfl) (fun _ _ _ h => h) (by as_aux_lemma => kernel_rfl) (fun L u h => h) (Or.inl ⟨by rfl, ?_⟩) hs ?_
  rotate_left
  · intro w hY; obtain ⟨up, hL⟩ := hY; have hX := hL.2.2; clear hL; (try dsimp only at hX); go_simp; try with_reducible rfl
  try simp only [putz]
  refine Goes.take (i := 21) (o := ⟨some 160, _, _, _, _, _⟩) (v := ?_) [] rfl (by as_aux_lemma => kernel_rfl) (by as_aux_lemma => kernel_rfl) (by as_aux_lemma => kernel_rfl) (fun _ _ _ h => h) (by as_aux_lemma => kernel_rfl) (fun L u h => h) (Or.inl ⟨by rfl, ?_⟩) hs ?_
  rotate_left
  · intro w hY; go_simp; try with_reducible rfl
  try simp only [putz]
  refine Goes.take (i := 22) (o := ⟨some 161, _, _, _, _, _⟩) (v := ?_) [] rfl (by as_aux_lemma => kernel_rfl) (by as_aux_lemma => kernel_rfl) (by as_aux_lemma => kernel_rfl) (fun _ _ _ h => h) (by as_aux_lemma => kernel_rfl) (fun L u h => h) (Or.inl ⟨by rfl, ?_⟩) hs ?_
  rotate_left
  · intro w hY; go_simp; try with_reducible rfl
  try simp only [putz]
  refine Goes.one (i := 1) (o := ⟨some 140, _, _, _, _, _⟩) (by as_aux_lemma => kernel_rfl) rfl (fun K hK => ?_)
  go_simp
  with_reducible refine (round_2 _ _ ba).mono ?_
  rintro e' wa ⟨rfl, rfl⟩
  go_wp2_with fail
  refine hK.out _ _ hs ?_
  clear hK K
  try simp only [putz]
  refine Goes.one (i := 3) (o := ⟨some 142, _, _, _, _, _⟩) (by as_aux_lemma => kernel_rfl) rfl (fun K hK => ?_)
  go_simp
  with_reducible refine (round_13 _ _ ba).mono ?_
  rintro e' wb ⟨rfl, rfl⟩
  go_wp2_with fail
  refine hK.out _ _ hs ?_
  clear hK K
  try simp only [putz]
  refine Goes.take (i := 4) (o := ⟨some 143, _, _, _, _, _⟩) (v := ?_) [] rfl (by as_aux_lemma => kernel_rfl) (by as_aux_lemma => kernel_rfl) (by as_aux_lemma => kernel_rfl) (fun _ _ _ h => h) (by as_aux_lemma => kernel_rfl) (fun L u h => h) (Or.inl ⟨by rfl, ?_⟩) hs ?_
  rotate_left
  · intro w hY; go_simp; try with_reducible rfl
  try simp only [putz]
  refine Goes.one (i := 6) (o := ⟨some 145, _, _, _, _, _⟩) (by as_aux_lemma => kernel_rfl) rfl (fun K hK => ?_)
  go_simp
  with_reducible refine (round_22 _ _ ba).mono ?_
  rintro e' wc ⟨rfl, rfl⟩
  go_wp2_with fail
  refine hK.out _ _ hs ?_
  clear hK K
  try simp only [putz]
  refine Goes.take (i := 7) (o := ⟨some 146, _, _, _, _, _⟩) (v := ?_) [] rfl (by as_aux_lemma => kernel_rfl) (by as_aux_lemma => kernel_rfl) (by as_aux_lemma => kernel_rfl) (fun _ _ _ h => h) (by as_aux_lemma => kernel_rfl) (fun L u h => h) (Or.inl ⟨by rfl, ?_⟩) hs ?_
  rotate_left
  · intro w hY; go_simp; try with_reducible rfl
  try simp only [putz]
  refine Goes.take (i := 23) (o := ⟨some 162, _, _, _, _, _⟩) (v := ?_) [] rfl (by as_aux_lemma => kernel_rfl) (by as_aux_lemma => kernel_rfl) (by as_aux_lemma => kernel_rfl) (fun _ _ _ h => h) (by as_aux_lemma => kernel_rfl) (fun L u h => h) (Or.inl ⟨by rfl, ?_⟩) hs ?_
  rotate_left
  · intro w hY; go_simp; try with_reducible rfl
  try simp only [putz]
  refine Goes.take (i := 24) (o := ⟨some 17, _, _, _, _, _⟩) (v := ?_) [] rfl (by as_aux_lemma => kernel_rfl) (by as_aux_lemma => kernel_rfl) (by as_aux_lemma => kernel_rfl) (fun _ _ _ h => h) (by as_aux_lemma => kernel_rfl) (fun L u h => h) (Or.inl ⟨by rfl, ?_⟩) hs ?_
  rotate_left
  · intro w hY; go_simp; try with_reducible rfl
  try simp only [putz]
  refine Goes.done (by as_aux_lemma => kernel_rfl) ?_ _
  refine NoPanic.normal ?_
  rw [HT.out]
  exact hQ.out _ _ _ _ _ _ _ _ _ _ _ _ _ _ _ _ _ _ _ _ _ _ _ _
end Go.Proofs.YtbloejlebikecaaGreatDoor
namespace Go.Proofs.YtbloejlebikecaaGreatDoor
open Go.RowKit
set_option linter.unusedVariables false
set_option linter.unusedSimpArgs false

/-- and the eight numbers of a round in a box of their own -/
structure Rc (w : World) (h : List Nat) (b : List UInt8) (gb o gt g12 : Nat) (l : List Nat) (w' : World) : Prop where
 rb : Rb w h b gb o gt (wof b) w'
 e : Us w' g12 166 l
 lt : w.heap.size + 1 + 1 < g12
theorem Rc.drew {w w' : World} {h : List Nat} {b : List UInt8} {gb o gt g12 : Nat} {l : List Nat} (H : Rc w h b gb o gt g12 l w') : Rc w h b gb o gt g12 l w'.drew := ⟨H.rb.drew, H.e, H.lt⟩
theorem Rb.on {w w' w2 : World} {h : List Nat} {b : List UInt8} {gb o gt : Nat} {l : List Nat} (H : Rb w h b gb o gt l w') (hb : Below w'.heap.size w' w2) : Rb w h b gb o gt l w2 :=
 ⟨H.below.trans (hb.mono (Nat.le_of_lt H.n.lt)), H.n.on hb, H.z.on hb, H.l.on hb, H.b, H.hb, H.k⟩
theorem Rc.new {w wr : World} {h : List Nat} {b : List UInt8} {gb o gt : Nat} (H : Rb w h b gb o gt (wof b) wr) : ∃ w2, (wr.alloc (.cells #[.int .u32 0, .int .u32 0, .int .u32 0, .int .u32 0, .int .u32 0, .int .u32 0, .int .u32 0, .int .u32 0] 166)).setRow wr.heap.size (dv h).toArray = w2 ∧ Hid (Rc w h b gb o gt wr.heap.size h w2) := by
 refine ⟨_, rfl, ?_⟩
 rw [World.setRow_alloc_new]
 exact hid ⟨H.on ((Below.refl _ _).alloc (Nat.le_refl _) _), heap_alloc_new _ _, H.l.lt⟩
theorem Rc.row {w w' : World} {h : List Nat} {b : List UInt8} {gb o gt g12 : Nat} {l m : List Nat} (H : Rc w h b gb o gt g12 l w') : Rc w h b gb o gt g12 m (w'.setRow g12 (dv m).toArray) := by
 have hl := H.lt
 exact ⟨⟨below_setRow H.rb.below (by omega) _, H.rb.n.rowOther _ (by omega), H.rb.z.rowOther _ (by omega), H.rb.l.rowOther _ (by omega), H.rb.b, H.rb.hb, H.rb.k⟩, H.e.row, hl⟩
theorem Rc.set {w w' : World} {h : List Nat} {b : List UInt8} {gb o gt g12 : Nat} {l : List Nat} (H : Rc w h b gb o gt g12 l w') (k v : Nat) : Rc w h b gb o gt g12 (l.set k v) (w'.setCell ⟨g12, k, none⟩ (.int .u32 (v : Int))) := by
 have hl := H.lt
 exact ⟨⟨H.rb.below.setCell (by simp; omega) _, H.rb.n.other _ (by omega), H.rb.z.other _ (by omega), H.rb.l.other _ (by omega), H.rb.b, H.rb.hb, H.rb.k⟩, H.e.set k v, hl⟩
theorem i56 : (Tryz.prog.info? 166).map (·.size) = some 8 := by kernel_rfl
theorem hi56 (l : List Nat) (h : l.length = 8) : Hid ((Tryz.prog.info? 166).map (·.size) = some (dv l).toArray.size) := by rw [dv_size, h]; exact hid i56
theorem ho8 (l : List Nat) (h : l.length = 8) : Hid ((#[.int .u32 0, .int .u32 0, .int .u32 0, .int .u32 0, .int .u32 0, .int .u32 0, .int .u32 0, .int .u32 0] : Array Value).size = (dv l).toArray.size) := hid (by rw [dv_size, h]; rfl)
set_option maxRecDepth 100000 in
set_option maxHeartbeats 4000000 in
theorem block_any (h : List Nat) (b : List UInt8) (gb o gt cb : Nat) (w : World) (hl : h.length = 8) (hs : Sm h) (hb : b.length = 64) (hbs : ∀ j, (hj : j < b.length) → w.cell? ⟨gb, o + j, none⟩ = some (.int .u8 ((b[j].toNat : Nat) : Int))) (hg : gb < w.heap.size) (hk : Us w gt 102 kk) :
  Calls Tryz.prog 107 #[.agg (dv h).toArray, .slice (some ⟨gb, o, none⟩) 64 cb, .slice (some ⟨gt, 0, none⟩) 64 64] w fun e w' => e = .returned (.agg (dv (comp h b)).toArray) ∧ Below w.heap.size w w' := by
 have HT := Rb.init w h b gb o gt hbs hg hk
 have HB := hid hb
 have HL := hid hl
 have HSm := hid hs
 clear hl hs hb hbs hg hk
 go_enter Tryz.func107, Tryz.ntmps107
 go_wp2_with fail
 generalize ((w.alloc (.cells (dv h).toArray 166)).alloc (.cells #[.int .u32 0, .int .u32 0, .int .u32 0, .int .u32 0, .int .u32 0, .int .u32 0, .int .u32 0, .int .u32 0] 166)).alloc (.cells #[.int .u32 0, .int .u32 0, .int .u32 0, .int .u32 0, .int .u32 0, .int .u32 0, .int .u32 0, .int .u32 0, .int .u32 0, .int .u32 0, .int .u32 0, .int .u32 0, .int .u32 0, .int .u32 0, .int .u32 0, .int .u32 0, .int .u32 0, .int .u32 0, .int .u32 0, .int .u32 0, .int .u32 0, .int .u32 0, .int .u32 0, .int .u32 0, .int .u32 0, .int .u32 0, .int .u32 0, .int .u32 0, .int .u32 0, .int .u32 0, .int .u32 0, .int .u32 0, .int .u32 0, .int .u32 0, .int .u32 0, .int .u32 0, .int .u32 0, .int .u32 0, .int .u32 0, .int .u32 0, .int .u32 0, .int .u32 0, .int .u32 0, .int .u32 0, .int .u32 0, .int .u32 0, .int .u32 0, .int .u32 0, .int .u32 0, .int .u32 0, .int .u32 0, .int .u32 0, .int .u32 0, .int .u32 0, .int .u32 0, .int .u32 0, .int .u32 0, .int .u32 0, .int .u32 0, .int .u32 0, .int .u32 0, .int .u32 0, .int .u32 0, .int .u32 0] 177) = w0 at *
 go_loopw [8] (fun i wr => ∃ (k : Nat) (l : List Nat), k ≤ 16 ∧ i = .int .i64 k ∧ Hid (Rb w h b gb o gt l wr) ∧ Hid (l.length = 64) ∧ Hid (∀ j, j < 64 → at' l j = at' (own b k) j)) (fun i _ => 16 - (intOf i).toNat)
 case atStart => exact ⟨0, List.replicate 64 0, by omega, rfl, HT, hid rfl, hid (fun j hj => by rw [at_none (own b 0) j (Nat.zero_le _), at_lt (by simpa using hj), List.getElem_replicate])⟩
 case round =>
  clear HT
  obtain ⟨k, l, hk, rfl, HT, HLl, HA⟩ := hrel
  by_cases hlt : k < 16
  ·obtain ⟨q0, hq0⟩ : ∃ q, q = 4 * k := ⟨_, rfl⟩
   obtain ⟨q1, hq1⟩ : ∃ q, q = 4 * k + 1 := ⟨_, rfl⟩
   obtain ⟨q2, hq2⟩ : ∃ q, q = 4 * k + 2 := ⟨_, rfl⟩
   obtain ⟨q3, hq3⟩ : ∃ q, q = 4 * k + 3 := ⟨_, rfl⟩
   have i0 : 4 * (k : Int) = (q0 : Int) := by omega
   have i1 : (q0 : Int) + 1 = (q1 : Int) := by omega
   have i2 : (q0 : Int) + 2 = (q2 : Int) := by omega
   have i3 : (q0 : Int) + 3 = (q3 : Int) := by omega
   have l0 : q0 < 64 := by omega
   have l1 : q1 < 64 := by omega
   have l2 : q2 < 64 := by omega
   have l3 : q3 < 64 := by omega
   have H4 := hid (tell4 b k (by have := HB.out; omega))
   have c0 := HT.out.bytes (4 * k) (by have := HB.out; omega)
   have c1 := HT.out.bytes (4 * k + 1) (by have := HB.out; omega)
   have c2 := HT.out.bytes (4 * k + 2) (by have := HB.out; omega)
   have c3 := HT.out.bytes (4 * k + 3) (by have := HB.out; omega)
   have cw := HT.out.l.cell k (by have := HLl.out; omega)
   have cf := HT.out.l.frozen k
   have b0 := (b[4 * k]'(by have := HB.out; omega)).toNat_lt
   have b1 := (b[4 * k + 1]'(by have := HB.out; omega)).toNat_lt
   have b2 := (b[4 * k + 2]'(by have := HB.out; omega)).toNat_lt
   have b3 := (b[4 * k + 3]'(by have := HB.out; omega)).toNat_lt
   generalize (b[4 * k]'(by have := HB.out; omega)).toNat = x0 at *
   generalize (b[4 * k + 1]'(by have := HB.out; omega)).toNat = x1 at *
   generalize (b[4 * k + 2]'(by have := HB.out; omega)).toNat = x2 at *
   generalize (b[4 * k + 3]'(by have := HB.out; omega)).toNat = x3 at *
   rw [← hq0] at c0
   rw [← hq1] at c1
   rw [← hq2] at c2
   rw [← hq3] at c3
   have HX := hid (four_eq x0 x1 x2 x3 b0 b1 b2 b3)
   rw [← H4.out] at HX
   clear b0 b1 b2 b3 hq0 hq1 hq2 hq3
   go_wp2_with fail
   go_region
   go_wp2
   refine ⟨⟨k + 1, l.set k (tell ((b.drop (4 * k)).take 4)), by omega, by go_num, ?_, hid (by rw [List.length_set]; exact HLl.out), hid ?_⟩, by simp [intOf]; omega⟩
   ·have := (HT.out.set k (tell ((b.drop (4 * k)).take 4))).drew
    rw [← HX.out] at this
    exact hid this
   ·intro j hj
    rw [at_set _ _ _ _ (by have := HLl.out; omega), HA.out j hj, own, at_end, own_length]
  ·obtain rfl : k = 16 := by omega
   have HA2 := hid (p := ∀ j, j < 64 → at' l j = at' (ext (own b 16) 0) j) (fun j hj => HA.out j hj)
   clear HA
   go_wp2_with fail
   go_loopw [9] (fun i wr => ∃ (k : Nat) (l : List Nat), 16 ≤ k ∧ k ≤ 64 ∧ i = .int .i64 k ∧ Hid (Rb w h b gb o gt l wr) ∧ Hid (l.length = 64) ∧ Hid (∀ j, j < 64 → at' l j = at' (ext (own b 16) (k - 16)) j)) (fun i _ => 64 - (intOf i).toNat)
   case atStart => exact ⟨16, l, by omega, by omega, rfl, HT, HLl, HA2⟩
   case round =>
    clear HT HLl HA2
    obtain ⟨k, l, hk0, hk, rfl, HT, HLl, HA⟩ := hrel
    by_cases hlt : k < 64
    ·have HF := rb_facts HT.out HLl.out HA.out hk0 hlt
     have HK := hid hk0
     have HK2 := hid hk
     clear hk0 hk
     obtain ⟨p15, p16, p7, p2, x, v16, v7, y, zx, zy, hp15, hp16, hp7, hp2, l15, l2, c15, c2, b15, b2, hzx, hzy, w16, w7, i16, i7, ik, j16, j7, jk, hS, HC, HKC, HV⟩ := HF
     go_wp2_with fail
     refine rb11_ok hp16 hp7 b15 b2 hzx hzy w16 w7 i16 i7 ik j16 j7 jk hS HC.out.1 HC.out.2 HKC HV _ _ _ _ _ _ _ _ _ _ _ _ _ _ _ _ _ _ _ _ _ _ _ _ _ _ _ _ _ _ _ _ _ _ _ _ _ _ _ _ _ _ _ _ _ _ _ _ _ _ _ _ _ _ _ _ _ _ _ _ _ _ _ _ _ _ _ _ _ _ _ _ _ _ _ _ _ _ _ _ _ _ _ _ _ _ _ _ _ _ _ _ _ _ _ _ _ _ _ _ _ _ _ _ _ _ _ _ _ _ _ _ _ _ _ _ _ _ _ _ _ _ _ _ _ _ _ _ _ _ _ _ _ _ _ _ _ _ _ _ _ _ _ _ _ _ _ _ _ _ _ _ _ _ _ _ _ _ _ _ _ _ _ _ _ _ _ _ _ _ _ _ _ _ _ _ _ _ _ _ _ _ _ _ _ _ _ _ _ _ _ (hid ?_)
     intro d70 d71 d72 d73 d74 d75 d76 d77 d78 d79 d80 d81 d82 d83 d84 d85 d86 d87 d88 d89 d90 d91 d92 d93 d94 d95 d96 d97 d98
     have HN := hid (HT.out.drew.set k (nxw (ext (own b 16) (k - 16))))
     generalize wr.drew.setCell ⟨w.heap.size + 1 + 1, k, none⟩ (.int .u32 ((nxw (ext (own b 16) (k - 16)) : Nat) : Int)) = wn at *
     go_wp2
     have h0 := HK.out
     refine ⟨⟨k + 1, l.set k (nxw (ext (own b 16) (k - 16))), by omega, by omega, by go_num, HN, hid (by rw [List.length_set]; exact HLl.out), hid ?_⟩, by simp [intOf]; omega⟩
     intro j hj
     rw [at_set _ _ _ _ (by have := HLl.out; omega), show k + 1 - 16 = (k - 16) + 1 by omega, ext, at_end, ext_length, own_length, show 16 + (k - 16) = k by omega]
     by_cases h : j = k
     ·rw [if_pos h, if_pos h]
     ·rw [if_neg h, if_neg h, HA.out j hj]
    ·obtain rfl : k = 64 := by omega
     have hlw : l = wof b := by
      refine eq_of_at (by rw [HLl.out, wof_length]) (fun j hj => ?_)
      rw [HA.out j (by have := HLl.out; omega)]; rfl
     have HT2 : Hid (Rb w h b gb o gt (wof b) wr) := hid (hlw ▸ HT.out)
     clear HA HLl HT hlw
     have HI := hi56 h HL.out
     have HO := ho8 h HL.out
     have HDA := dv_all h
     obtain ⟨w3, hw3, HT3⟩ := Rc.new HT2.out
     have HZN := HT2.out.n
     unfold Us at HZN
     have HZN := hid HZN
     go_upto_region 12 with fail
     go_wp2_with (first | (refine wpList_load_row rfl 166 (.tmp 3) rfl w.heap.size rfl 166 (dv h).toArray (0, 0) _ HZN.out Tryz.underlying166 rfl HI.out ?_) | (refine wpList_store_row rfl 166 (.tmp 12) (.tmp 99) rfl wr.heap.size (dv h).toArray rfl rfl 166 _ (heap_alloc_new _ _) HI.out HO.out HDA ?_; rw [hw3]))
     clear hw3 HI HO HDA HZN HT2
     generalize wr.heap.size = g12 at *
     go_loopw [13] (fun i wr => ∃ (k : Nat) (oc : Oct), k ≤ 64 ∧ i = .int .i64 k ∧ Hid oc.Sm ∧ Hid (oc = rnds (oct h) (wof b) k) ∧ Hid (Rc w h b gb o gt g12 oc.l wr)) (fun i _ => 64 - (intOf i).toNat)
     case atStart => exact ⟨0, oct h, by omega, rfl, hid (oct_sm HSm.out), hid rfl, hid (by rw [oct_l HL.out]; exact HT3.out)⟩
     case round =>
      clear HT3
      obtain ⟨k, oc, hk, rfl, HO, HR, HT⟩ := hrel
      have x0 : wr.cell? ⟨g12, 0, none⟩ = some (.int .u32 (oc.a : Nat)) := HT.out.e.cell 0 (by decide : (0 : Nat) < 8)
      have x1 : wr.cell? ⟨g12, 1, none⟩ = some (.int .u32 (oc.b : Nat)) := HT.out.e.cell 1 (by decide : (1 : Nat) < 8)
      have x2 : wr.cell? ⟨g12, 2, none⟩ = some (.int .u32 (oc.c : Nat)) := HT.out.e.cell 2 (by decide : (2 : Nat) < 8)
      have x3 : wr.cell? ⟨g12, 3, none⟩ = some (.int .u32 (oc.d : Nat)) := HT.out.e.cell 3 (by decide : (3 : Nat) < 8)
      have x4 : wr.cell? ⟨g12, 4, none⟩ = some (.int .u32 (oc.e : Nat)) := HT.out.e.cell 4 (by decide : (4 : Nat) < 8)
      have x5 : wr.cell? ⟨g12, 5, none⟩ = some (.int .u32 (oc.f : Nat)) := HT.out.e.cell 5 (by decide : (5 : Nat) < 8)
      have x6 : wr.cell? ⟨g12, 6, none⟩ = some (.int .u32 (oc.g : Nat)) := HT.out.e.cell 6 (by decide : (6 : Nat) < 8)
      have x7 : wr.cell? ⟨g12, 7, none⟩ = some (.int .u32 (oc.h : Nat)) := HT.out.e.cell 7 (by decide : (7 : Nat) < 8)
      by_cases hlt : k < 64
      ·have xk := HT.out.rb.kt.cell k (by rw [kk_length]; exact hlt)
       have xw := HT.out.rb.l.cell k (by rw [wof_length]; exact hlt)
       go_wp2_with fail
       refine rb18_ok (w := w) (g12 := g12) (gt := gt) (tv := tt oc (at' kk k) (at' (wof b) k)) HO.out.e (by omega) (by omega) (wi_eq k hlt) ⟨x7, x5, x6, xk, xw⟩ (hid (t_eq2 oc.e oc.f oc.g oc.h (at' kk k) (at' (wof b) k) HO.out.e HO.out.f HO.out.g)) _ _ _ _ _ _ _ _ _ _ _ _ _ _ _ _ _ _ _ _ _ _ _ _ _ _ _ _ _ _ _ _ _ _ _ _ _ _ _ _ _ _ _ _ _ _ _ _ _ _ _ _ _ _ _ _ _ _ _ _ _ _ _ _ _ _ _ _ _ _ _ _ _ _ _ _ _ _ _ _ _ _ _ _ _ _ _ _ _ _ _ _ _ _ _ _ _ _ _ _ _ _ _ _ _ _ _ _ _ _ _ _ _ _ _ _ _ _ _ _ _ _ _ _ _ _ _ _ _ _ _ _ _ _ _ _ _ _ _ _ _ _ _ _ _ _ _ _ _ _ _ _ _ _ _ _ _ _ _ _ _ _ _ _ _ _ _ _ _ _ _ _ _ _ _ _ _ _ _ _ _ _ _ _ _ _ _ _ _ _ (hid ?_)
       intro d108 d109 d110 d111 d112 d113 d114 d115 d116 d117 d118 d119 d120 d121 d122 d123 d124 d125 d126 d127 d128 d129 d130 d131 d132 d133 d134 d135 d136 d137 d138
       have HT2 := hid HT.out.drew
       have y1 : wr.drew.cell? ⟨g12, 1, none⟩ = some (.int .u32 (oc.b : Nat)) := x1
       have y2 : wr.drew.cell? ⟨g12, 2, none⟩ = some (.int .u32 (oc.c : Nat)) := x2
       have y3 : wr.drew.cell? ⟨g12, 3, none⟩ = some (.int .u32 (oc.d : Nat)) := x3
       have y5 : wr.drew.cell? ⟨g12, 5, none⟩ = some (.int .u32 (oc.f : Nat)) := x5
       have y6 : wr.drew.cell? ⟨g12, 6, none⟩ = some (.int .u32 (oc.g : Nat)) := x6
       clear x0 x1 x2 x3 x4 x5 x6 x7 xk xw HT
       generalize wr.drew = wd at *
       go_wp2_with fail
       refine rb19_ok (g12 := g12) (uv := uu oc) HO.out.a ⟨y1, y2⟩ (hid (u_eq2 oc.a oc.b oc.c HO.out.a HO.out.b HO.out.c)) _ _ _ _ _ _ _ _ _ _ _ _ _ _ _ _ _ _ _ _ _ _ _ _ _ _ _ _ _ _ _ _ _ _ _ _ _ _ _ _ _ _ _ _ _ _ _ _ _ _ _ _ _ _ _ _ _ _ _ _ _ _ _ _ _ _ _ _ _ _ _ _ _ _ _ _ _ _ _ _ _ _ _ _ _ _ _ _ _ _ _ _ _ _ _ _ _ _ _ _ _ _ _ _ _ _ _ _ _ _ _ _ _ _ _ _ _ _ _ _ _ _ _ _ _ _ _ _ _ _ _ _ _ _ _ _ _ _ _ _ _ _ _ _ _ _ _ _ _ _ _ _ _ _ _ _ _ _ _ _ _ _ _ _ _ _ _ _ _ _ _ _ _ _ _ _ _ _ _ _ _ _ _ _ _ _ _ _ _ _ _ _ _ (hid ?_)
       intro d139 d140 d141 d142 d143 d144 d145 d146 d147 d148 d149 d150 d151 d152 d153 d154 d155 d156 d157 d158 d159 d160 d161 d162
       have HT3 := hid HT2.out.drew
       have z1 : wd.drew.cell? ⟨g12, 1, none⟩ = some (.int .u32 (oc.b : Nat)) := y1
       have z2 : wd.drew.cell? ⟨g12, 2, none⟩ = some (.int .u32 (oc.c : Nat)) := y2
       have z3 : wd.drew.cell? ⟨g12, 3, none⟩ = some (.int .u32 (oc.d : Nat)) := y3
       have z5 : wd.drew.cell? ⟨g12, 5, none⟩ = some (.int .u32 (oc.f : Nat)) := y5
       have z6 : wd.drew.cell? ⟨g12, 6, none⟩ = some (.int .u32 (oc.g : Nat)) := y6
       clear y1 y2 y3 y5 y6 HT2
       generalize wd.drew = we at *
       have HRS := hid (p := rnd oc (at' kk k) (at' (wof b) k) = rnds (oct h) (wof b) (k + 1)) (by rw [rnds, ← HR.out])
       have HOS := hid (rnd_sm HO.out (at' kk k) (at' (wof b) k))
       obtain ⟨na, hna⟩ : ∃ na, na = (tt oc (at' kk k) (at' (wof b) k) + uu oc) % 4294967296 := ⟨_, rfl⟩
       obtain ⟨ne, hne⟩ : ∃ ne, ne = (oc.d + tt oc (at' kk k) (at' (wof b) k)) % 4294967296 := ⟨_, rfl⟩
       have hl2 : (rnd oc (at' kk k) (at' (wof b) k)).l = [na, oc.a, oc.b, oc.c, ne, oc.e, oc.f, oc.g] := by rw [hna, hne]; rfl
       have HN := hid (HT3.out.row (m := [na, oc.a, oc.b, oc.c, ne, oc.e, oc.f, oc.g]))
       have hta : IntKind.u32.wrap (((tt oc (at' kk k) (at' (wof b) k) : Nat) : Int) + ((uu oc : Nat) : Int)) = (na : Int) := by rw [IntKind.wrap_u32]; omega
       have htd : IntKind.u32.wrap ((oc.d : Int) + ((tt oc (at' kk k) (at' (wof b) k) : Nat) : Int)) = (ne : Int) := by rw [IntKind.wrap_u32]; omega
       have HL2 := hid hl2
       clear hna hne hl2
       have HZE := HT3.out.e
       unfold Us at HZE
       have HZE := hid HZE
       have HI := hi56 [na, oc.a, oc.b, oc.c, ne, oc.e, oc.f, oc.g] rfl
       have HO8 : Hid ((dv oc.l).toArray.size = (dv [na, oc.a, oc.b, oc.c, ne, oc.e, oc.f, oc.g]).toArray.size) := hid rfl
       go_wp2_with (refine wpList_store_row rfl 166 (.tmp 12) (.tmp 180) rfl g12 (dv [na, oc.a, oc.b, oc.c, ne, oc.e, oc.f, oc.g]).toArray rfl rfl 166 _ HZE.out HI.out HO8.out (dv_all _) ?_)
       refine ⟨⟨k + 1, rnd oc (at' kk k) (at' (wof b) k), by omega, by go_num, HOS, HRS, hid (by rw [HL2.out]; exact HN.out)⟩, by simp [intOf]; omega⟩
      ·obtain rfl : k = 64 := by omega
       clear x0 x1 x2 x3 x4 x5 x6 x7
       have HR2 := hid (p := oc.l = (rnds (oct h) (wof b) 64).l) (by rw [← HR.out])
       have HRL := hid (show oc.l.length = 8 from rfl)
       clear HR
       go_wp2_with fail
       generalize oc.l = r at *
       go_loopw [18] (fun i wr => ∃ (k : Nat) (m : List Nat), k ≤ 8 ∧ i = .int .i64 k ∧ Hid (Rc w h b gb o gt g12 m wr) ∧ Hid (m.length = 8) ∧ Hid (∀ j, j < 8 → at' m j = if j < k then (at' h j + at' r j) % 4294967296 else at' r j)) (fun i _ => 8 - (intOf i).toNat)
       case atStart => exact ⟨0, r, by omega, rfl, HT, HRL, hid (fun j _ => by rw [if_neg (Nat.not_lt_zero _)])⟩
       case round =>
        clear HT
        obtain ⟨k, m, hk, rfl, HT, HM, HA⟩ := hrel
        by_cases hlt : k < 8
        ·have hcl := HT.out.e.cell k (by have := HM.out; omega)
         have hfr := HT.out.e.frozen k
         have hch := HT.out.rb.n.cell k (by have := HL.out; omega)
         rw [HA.out k hlt, if_neg (Nat.lt_irrefl _)] at hcl
         have HVV := hid (p := (((at' r k : Nat) : Int) + ((at' h k : Nat) : Int)) % 4294967296 = (((at' h k + at' r k) % 4294967296 : Nat) : Int)) (by omega)
         generalize hz : (at' h k + at' r k) % 4294967296 = z at HVV
         have HZ := hid hz
         clear hz
         go_wp2_with fail
         go_region
         go_wp2
         refine ⟨⟨k + 1, m.set k z, by omega, by go_num, ?_, hid (by rw [List.length_set]; exact HM.out), hid ?_⟩, by simp [intOf]; omega⟩
         ·have := (HT.out.set k z).drew
          rw [← HVV.out] at this
          exact hid this
         ·intro j hj
          rw [at_set _ _ _ _ (by have := HM.out; omega), HA.out j hj]
          by_cases h : j = k
          ·subst h; rw [if_pos rfl, if_pos (by omega), HZ.out]
          ·rw [if_neg h]
           by_cases h2 : j < k
           ·rw [if_pos h2, if_pos (by omega)]
           ·rw [if_neg h2, if_neg (by omega)]
        ·obtain rfl : k = 8 := by omega
         have hme : m = comp h b := by
          refine eq_of_at (by rw [HM.out, comp_length _ _ HL.out]) (fun j hj => ?_)
          have hj8 : j < 8 := by have := HM.out; omega
          rw [HA.out j hj8, if_pos hj8, comp, at_addl _ _ HL.out rfl j hj8, HR2.out]
         have HT2 : Hid (Rc w h b gb o gt g12 (comp h b) wr) := hid (hme ▸ HT.out)
         have HCL := hid (comp_length h b HL.out)
         clear HT HM HA hme
         generalize hr : comp h b = q at *
         have HRR := hid hr
         clear hr
         have HI := hi56 q HCL.out
         have HO8 : Hid ((dv (List.replicate 8 0)).toArray.size = (dv q).toArray.size) := hid (by rw [dv_size, dv_size, HCL.out, List.length_replicate])
         have HZ := hid (HT2.out.rb.z.row (m := q))
         have HBW := hid (p := Below w.heap.size w (wr.setRow (w.heap.size + 1) (dv q).toArray)) (below_setRow HT2.out.rb.below (Nat.le_succ _) _)
         go_upto_region 25 with fail
         have HDA := dv_all q
         have HZL := HT2.out.e
         have HZZ := HT2.out.rb.z
         unfold Us at HZL HZZ
         have HZL := hid HZL
         have HZZ := hid HZZ
         go_wp2_with (first | (refine wpList_load_row rfl 166 (.tmp 12) rfl g12 rfl 166 (dv q).toArray (0, 0) _ HZL.out Tryz.underlying166 rfl HI.out ?_) | (refine wpList_store_row rfl 166 (.tmp 6) (.tmp 194) rfl (w.heap.size + 1) (dv q).toArray rfl rfl 166 _ HZZ.out HI.out HO8.out HDA ?_))
         exact bodyPost_ret (v := .agg (dv q).toArray) (results_cell_row (p := 6) (ty := 166) Tryz.results107 _ _ (w.heap.size + 1) 166 (dv q).toArray (0, 0) _ rfl HZ.out Tryz.underlying166 rfl HI.out) rfl ⟨by rw [HRR.out], HBW.out⟩
end Go.Proofs.YtbloejlebikecaaGreatDoor
namespace Go.Proofs.YtbloejlebikecaaGreatDoor
open Go.RowKit
set_option linter.unusedVariables false
set_option linter.unusedSimpArgs false

/-- a slice of the call's own, the answer's box, what came in as it was -/
structure Fo (w : World) (x : List UInt8) (v : Value) (w' : World) : Prop where
  below : Below w.heap.size w w'
  z : Bt w' w.heap.size 26 (List.replicate 32 0)
  own : Ow w' (w.heap.size + 1) v x
theorem Fo.sz {w w' : World} {x : List UInt8} {v : Value} (h : Fo w x v w') : w.heap.size + 1 ≤ w'.heap.size := h.z.lt
theorem Fo.alloc {w w' : World} {x : List UInt8} {v : Value} (h : Fo w x v w') (o : Obj) : Fo w x v (w'.alloc o) := ⟨h.below.alloc h.below.size o, h.z.alloc o, World.ownsRow.alloc h.own o⟩
theorem Fo.app {w w' : World} {x ls : List UInt8} {v : Value} {A : Option Addr} {m c : Nat} (h : Fo w x v w') (hr : Rd w' A ls) (hl : ls.length = m) (hA : A = none → c = 0) (hs : x.length + m ≤ 140737488355328) :
    ∃ A2 c2 n2 w2, Hid ((Builtin.append_ #[27, 27] 27 #[v, .slice A m c]).run Tryz.prog w' = .ok (.slice A2 n2 c2) w2) ∧ Hid (Fo w (x ++ ls) (.slice A2 n2 c2) w2) ∧ Hid (n2 = x.length + m) := by
  obtain ⟨v2, w2, hrun, hown, hg, _⟩ := append_bytes w' (w.heap.size + 1) v x ls A m c h.own hr hl hA hs h.sz
  obtain ⟨A2, c2, rfl, _, _, _, _⟩ := hown.form
  have hsome : ∀ k, v.ownBlock = some k → w.heap.size + 1 ≤ k := fun k hk => (World.ownsRow.lt h.own k hk).1
  refine ⟨A2, c2, _, w2, hid hrun, hid ⟨h.below.grown hg h.below.size (fun k hk => by have := hsome k hk; omega), ?_, hown⟩, hid (by rw [List.length_append, hl])⟩
  exact (hg.block w.heap.size h.z.lt (by intro e; have := hsome _ e.symm; omega)).trans h.z
/-- one byte more, out of a slice made for it -/
theorem Fo.push {w w' : World} {x : List UInt8} {v : Value} (h : Fo w x v w') (b : UInt8) (bi : Int) (hbi : bi = ((b.toNat : Nat) : Int)) (hs : x.length + 1 ≤ 140737488355328) :
    ∃ A2 c2 n2 w2, Hid ((Builtin.append_ #[27, 27] 27 #[v, .slice (some ⟨w'.heap.size, 0, none⟩) 1 1]).run Tryz.prog (w'.alloc (.cells #[.int .u8 bi] 5)) = .ok (.slice A2 n2 c2) w2) ∧ Hid (Fo w (x ++ [b]) (.slice A2 n2 c2) w2) ∧ Hid (n2 = x.length + 1) := by
  subst hbi
  exact (h.alloc (.cells #[.int .u8 ((b.toNat : Nat) : Int)] 5)).app (m := 1) (c := 1) (rd_new w' [b]) rfl (fun h => by cases h) hs
/-- the noughts behind the byte 128 -/
def pad (bs : List UInt8) (j : Nat) : List UInt8 := bs ++ (128 : UInt8) :: List.replicate j 0
theorem pad_length (bs : List UInt8) (j : Nat) : (pad bs j).length = bs.length + 1 + j := by simp [pad]; omega
theorem pad_step (bs : List UInt8) (j : Nat) : pad bs j ++ [0] = pad bs (j + 1) := by simp [pad, List.replicate_succ']
theorem pad_full (bs : List UInt8) : pad bs (nought bs.length) ++ be (8 * bs.length) 8 = full bs := by simp [pad, full, tail]
theorem be_take (N i : Nat) (h : i < 8) : (be N 8).take (i + 1) = (be N 8).take i ++ [UInt8.ofNat (N / 256 ^ (7 - i))] := by
  match i, h with
  | 0, _ => rfl
  | 1, _ => rfl
  | 2, _ => rfl
  | 3, _ => rfl
  | 4, _ => rfl
  | 5, _ => rfl
  | 6, _ => rfl
  | 7, _ => rfl
/-- where a slice of one's own lies -/
theorem ow_at {w : World} {base n c : Nat} {A : Option Addr} {x : List UInt8} (h : Ow w base (.slice A n c) x) (hp : 0 < x.length) : ∃ g, A = some ⟨g, 0, none⟩ ∧ n = x.length ∧ n ≤ c ∧ g < w.heap.size ∧ base ≤ g ∧ ∀ j, (hj : j < x.length) → w.cell? ⟨g, 0 + j, none⟩ = some (.int .u8 ((x[j].toNat : Nat) : Int)) := by
  rcases h.2 with ⟨h1, hn⟩ | ⟨g, cap, cur, h1, hb, hh, hnc, hm, hs, ht⟩
  · omega
  · injection h1 with e1 e2 e3
    subst e1; subst e2; subst e3
    refine ⟨g, rfl, rfl, by omega, lt_of_block hh, hb, fun j hj => ?_⟩
    have := World.ownsRow.cellAt h j (by simpa using hj)
    rw [Nat.zero_add, this]
    simp [bvs, hj]
/-- what stands while block after block is taken in: the answer's box, all bytes, the eight numbers, the table -/
structure Lo (w : World) (x : List UInt8) (ga gh gt : Nat) (l : List Nat) (w' : World) : Prop where
  below : Below w.heap.size w w'
  z : Bt w' w.heap.size 26 (List.replicate 32 0)
  h : Us w' gh 166 l
  k : Us w' gt 102 kk
  b : ∀ j, (hj : j < x.length) → w'.cell? ⟨ga, 0 + j, none⟩ = some (.int .u8 ((x[j].toNat : Nat) : Int))
  la : ga < w'.heap.size
  nh : w.heap.size < gh
  na : ga ≠ gh
  nt : gt ≠ gh
theorem Lo.on {w w' w2 : World} {x : List UInt8} {ga gh gt : Nat} {l : List Nat} (H : Lo w x ga gh gt l w') (hb : Below w'.heap.size w' w2) : Lo w x ga gh gt l w2 :=
  ⟨H.below.trans (hb.mono H.below.size), H.z.on hb, H.h.on hb, H.k.on hb, fun j hj => (hb.cell (p := ⟨ga, 0 + j, none⟩) H.la).trans (H.b j hj), Nat.lt_of_lt_of_le H.la hb.size, H.nh, H.na, H.nt⟩
theorem Lo.drew {w w' : World} {x : List UInt8} {ga gh gt : Nat} {l : List Nat} (H : Lo w x ga gh gt l w') : Lo w x ga gh gt l w'.drew := ⟨H.below.drew, H.z, H.h, H.k, H.b, H.la, H.nh, H.na, H.nt⟩
theorem Us.cells {w : World} {g : Nat} {t : TypeId} {l m : List Nat} (h : Us w g t l) (hl : l.length = m.length) : Us (w.setCells g 0 (dv m)) g t m := by
  have := setCells_mid g t (dv m) (dv l) [] [] w (by rw [dv_length, dv_length, hl]) (by unfold Us at h; simpa using h)
  unfold Us
  simpa using this
theorem Lo.cells {w w' : World} {x : List UInt8} {ga gh gt : Nat} {l m : List Nat} (H : Lo w x ga gh gt l w') (hl : l.length = m.length) : Lo w x ga gh gt m (w'.setCells gh 0 (dv m)) := by
  have ho := fun k (hk : k ≠ gh) => setCells_other gh k hk (dv m) 0 w'
  have hn := H.nh
  refine ⟨⟨(setCells_rest gh (dv m) 0 w').1.trans H.below.os, (setCells_rest gh (dv m) 0 w').2.1.trans H.below.tape, (setCells_rest gh (dv m) 0 w').2.2.trans H.below.output, by rw [setCells_size]; exact H.below.size, fun k hk => (ho k (by omega)).trans (H.below.block k hk)⟩,
    (ho _ (by omega)).trans H.z, H.h.cells hl, (ho _ H.nt).trans H.k, fun j hj => ?_, by rw [setCells_size]; exact H.la, H.nh, H.na, H.nt⟩
  rw [World.cell?_of_block (a := ⟨ga, 0 + j, none⟩) (ho ga H.na)]; exact H.b j hj
theorem Us.range {w : World} {g : Nat} {t : TypeId} {l : List Nat} (h : Us w g t l) : w.rangeAt g 0 (dv l) := by
  intro j v hv
  rw [Nat.zero_add, cell_of_row w g j _ t (0, 0) h]; simpa using hv
theorem Us.there {w : World} {g : Nat} {t : TypeId} {l : List Nat} (h : Us w g t l) (n : Nat) (hn : n ≤ l.length) : w.there g 0 n := by
  intro j hj
  refine ⟨?_, h.frozen _⟩
  rw [Nat.zero_add, h.cell j (by omega)]; rfl
set_option maxRecDepth 100000 in
theorem slice_blk (g m c i i2 : Nat) (h2 : i2 = i + 64) (hi : i + 64 ≤ m) (hm : m ≤ c) (w : World) : (Instr.slice 27 (.slice (some ⟨g, 0, none⟩) m c) (some (.int .i64 (i : Int))) (some (.int .i64 (i2 : Int))) none).run Tryz.prog w = .ok (.slice (some ⟨g, i, none⟩) 64 (c - i)) w := by
  subst h2
  have h5 : Tryz.prog.elem 27 = 5 := by kernel_rfl
  rw [run_slice_lh (P := Tryz.prog) w 27 (some ⟨g, 0, none⟩) m c (by rw [h5]; exact Tryz.underlying27) .i64 .i64 (i : Int) ((i + 64 : Nat) : Int) (by omega) (by omega) (by omega)]
  have hs : (sizeOf 5).run Tryz.prog w = .ok 1 w := by kernel_rfl
  rw [h5, hs]
  simp only [Result.andThen, sliced, Int.toNat_natCast, Nat.mul_one]
  rw [if_neg (by omega), show i + 64 - i = 64 by omega]
  congr 3
  unfold Addr.add
  by_cases h0 : i = 0
  · subst h0; rfl
  · simp [h0]
/-- and the bytes of the answer -/
structure Lq (w : World) (gh go : Nat) (l : List Nat) (m : List UInt8) (w' : World) : Prop where
  below : Below w.heap.size w w'
  z : Bt w' w.heap.size 26 (List.replicate 32 0)
  h : Us w' gh 166 l
  m : Bt w' go 26 m
  nh : w.heap.size < gh
  no : gh < go
theorem Lo.out {w w' : World} {x : List UInt8} {ga gh gt : Nat} {l : List Nat} (H : Lo w x ga gh gt l w') : Hid (Lq w gh w'.heap.size l (List.replicate 32 0) (w'.alloc (.cells #[.int .u8 0, .int .u8 0, .int .u8 0, .int .u8 0, .int .u8 0, .int .u8 0, .int .u8 0, .int .u8 0, .int .u8 0, .int .u8 0, .int .u8 0, .int .u8 0, .int .u8 0, .int .u8 0, .int .u8 0, .int .u8 0, .int .u8 0, .int .u8 0, .int .u8 0, .int .u8 0, .int .u8 0, .int .u8 0, .int .u8 0, .int .u8 0, .int .u8 0, .int .u8 0, .int .u8 0, .int .u8 0, .int .u8 0, .int .u8 0, .int .u8 0, .int .u8 0] 26))) := by
  have h2 := H.on ((Below.refl w'.heap.size w').alloc (Nat.le_refl _) (.cells #[.int .u8 0, .int .u8 0, .int .u8 0, .int .u8 0, .int .u8 0, .int .u8 0, .int .u8 0, .int .u8 0, .int .u8 0, .int .u8 0, .int .u8 0, .int .u8 0, .int .u8 0, .int .u8 0, .int .u8 0, .int .u8 0, .int .u8 0, .int .u8 0, .int .u8 0, .int .u8 0, .int .u8 0, .int .u8 0, .int .u8 0, .int .u8 0, .int .u8 0, .int .u8 0, .int .u8 0, .int .u8 0, .int .u8 0, .int .u8 0, .int .u8 0, .int .u8 0] 26))
  exact hid ⟨h2.below, h2.z, h2.h, heap_alloc_new _ _, H.nh, H.h.lt⟩
theorem Lq.set {w w' : World} {gh go : Nat} {l : List Nat} {m : List UInt8} (H : Lq w gh go l m w') (k : Nat) (b : UInt8) : Lq w gh go l (m.set k b) (w'.setCell ⟨go, k, none⟩ (.int .u8 ((b.toNat : Nat) : Int))) := by
  have h1 := H.nh; have h2 := H.no
  exact ⟨H.below.setCell (by simp; omega) _, H.z.other _ (by omega), H.h.other _ (by omega), H.m.set k b, h1, h2⟩
end Go.Proofs.YtbloejlebikecaaGreatDoor
namespace Go.Proofs.YtbloejlebikecaaGreatDoor
open Go.RowKit
set_option linter.unusedVariables false
set_option linter.unusedSimpArgs false

set_option maxRecDepth 100000 in
set_option maxHeartbeats 4000000 in
theorem refof_any (A : Option Addr) (c : Nat) (bs : List UInt8) (n : Nat) (w : World) (hl : bs.length = n) (hr : Rd w A bs) (hc : n ≤ c) (hA : A = none → c = 0) (hn : n ≤ 70368744177664) :
  Calls Tryz.prog 69 #[.slice A n c] w fun e w' => e = .returned (.agg (bvs (sha bs)).toArray) ∧ Below w.heap.size w w' := by
 have HL := hid hl
 have HR := hid hr
 have HN := hid hn
 have HAc := hid hA
 clear hl hr hc hA hn
 have HB1 : Hid (Below w.heap.size w (w.alloc (.cells #[.int .u8 0, .int .u8 0, .int .u8 0, .int .u8 0, .int .u8 0, .int .u8 0, .int .u8 0, .int .u8 0, .int .u8 0, .int .u8 0, .int .u8 0, .int .u8 0, .int .u8 0, .int .u8 0, .int .u8 0, .int .u8 0, .int .u8 0, .int .u8 0, .int .u8 0, .int .u8 0, .int .u8 0, .int .u8 0, .int .u8 0, .int .u8 0, .int .u8 0, .int .u8 0, .int .u8 0, .int .u8 0, .int .u8 0, .int .u8 0, .int .u8 0, .int .u8 0] 26))) := hid ((Below.refl _ _).alloc (Nat.le_refl _) _)
 have HF0 : Hid (Fo w [] (.slice none 0 0) (w.alloc (.cells #[.int .u8 0, .int .u8 0, .int .u8 0, .int .u8 0, .int .u8 0, .int .u8 0, .int .u8 0, .int .u8 0, .int .u8 0, .int .u8 0, .int .u8 0, .int .u8 0, .int .u8 0, .int .u8 0, .int .u8 0, .int .u8 0, .int .u8 0, .int .u8 0, .int .u8 0, .int .u8 0, .int .u8 0, .int .u8 0, .int .u8 0, .int .u8 0, .int .u8 0, .int .u8 0, .int .u8 0, .int .u8 0, .int .u8 0, .int .u8 0, .int .u8 0, .int .u8 0] 26))) := hid ⟨HB1.out, heap_alloc_new w _, Ow.nil _ _⟩
 obtain ⟨A1, c1, n1, w2, R1, HF1, HN1⟩ := HF0.out.app (HR.out.below HB1.out (Nat.le_refl _)) HL.out HAc.out (by simp; have := HN.out; omega)
 obtain ⟨A2, c2, n2, w3, R2, HF2, HN2⟩ := HF1.out.push 128 128 rfl (by rw [List.nil_append, HL.out]; have := HN.out; omega)
 have HF3 := hid (p := Fo w (pad bs 0) (.slice A2 n2 c2) w3) (by have := HF2.out; simpa [pad] using this)
 have HN3 := hid (p := n2 = n + 1) (by rw [HN2.out, List.nil_append, HL.out])
 clear HF0 HF1 HF2 HN1 HN2
 go_enter Tryz.func69, Tryz.ntmps69
 go_wp2_with (first | (at_builtin; refine step_append rfl (.const (.slice none 0 0)) (.tmp 11) rfl rfl _ _ rfl rfl (.slice A1 n1 c1) w2 R1.out ?_) | (at_builtin; refine step_append rfl (.tmp 12) (.tmp 13) rfl rfl _ _ rfl rfl (.slice A2 n2 c2) w3 R2.out ?_))
 clear R1 R2 HB1
 have HNo := hid (show nought n < 64 from Nat.mod_lt _ (by decide))
 go_loopw [3] (fun s wr => ∃ (j m c' : Nat) (A' : Option Addr), j ≤ nought n ∧ s = .slice A' m c' ∧ Hid (m = n + 1 + j) ∧ Hid (Fo w (pad bs j) (.slice A' m c') wr)) (fun s _ => n + 65 - lenV s)
 case atStart => exact ⟨0, n2, c2, A2, Nat.zero_le _, rfl, HN3, HF3⟩
 case round =>
  clear HN3 HF3
  obtain ⟨j, m, c', A', hj, rfl, HM, HF⟩ := hrel
  have HJ := hid hj
  clear hj
  by_cases hlt : j < nought n
  ·have hmi : (m : Int) % 64 ≠ 56 := by have h1 := HM.out; have h2 := HJ.out; have h3 := hlt; unfold nought at h3; omega
   have hmt : (m : Int).tmod 64 ≠ 56 := by rw [Int.tmod_eq_emod_of_nonneg (by omega)]; exact hmi
   have hmb : (((m : Int) % 64) == 56) = false := by simpa using hmi
   have hmtb : (((m : Int).tmod 64) == 56) = false := by simpa using hmt
   have HLT := hid hlt
   clear hlt
   obtain ⟨A3, c3, n3, w4, R3, HF3, HN3⟩ := HF.out.push 0 0 rfl (by rw [pad_length, HL.out]; have h1 := HN.out; have h2 := HJ.out; have h3 := HNo.out; omega)
   have HF4 := hid (p := Fo w (pad bs (j + 1)) (.slice A3 n3 c3) w4) (by have := HF3.out; rwa [pad_step] at this)
   have HN4 := hid (p := n3 = n + 1 + (j + 1)) (by rw [HN3.out, pad_length, HL.out]; omega)
   clear HF3 HN3
   go_wp2_with (at_builtin; refine step_append rfl (.tmp 19) (.tmp 20) rfl rfl _ _ rfl rfl (.slice A3 n3 c3) w4 R3.out ?_)
   refine ⟨⟨j + 1, n3, c3, A3, HLT.out, rfl, HN4, HF4⟩, ?_⟩
   have h1 := HM.out; have h2 := HN4.out; have h3 := HLT.out; have h4 := HNo.out
   show n + 65 - n3 < n + 65 - m
   omega
  ·obtain rfl : j = nought n := by have := HJ.out; omega
   have hmi : (m : Int) % 64 = 56 := by have h1 := HM.out; unfold nought at h1; omega
   have hmt : (m : Int).tmod 64 = 56 := by rw [Int.tmod_eq_emod_of_nonneg (by omega)]; exact hmi
   obtain ⟨N, hNN⟩ : ∃ N, N = 8 * n := ⟨_, rfl⟩
   have hN8 : IntKind.u64.wrap (8 * IntKind.u64.wrap (n : Int)) = (N : Int) := by have := HN.out; rw [IntKind.wrap_u64, IntKind.wrap_u64]; omega
   have hN9 : IntKind.u64.wrap (8 * (n : Int)) = (N : Int) := by have := HN.out; rw [IntKind.wrap_u64]; omega
   have hn0 : IntKind.u64.wrap (n : Int) = (n : Int) := by have := HN.out; rw [IntKind.wrap_u64]; omega
   have HNN := hid hNN
   clear hNN hlt
   go_upto_region 6 with fail
   go_loopw [3, 5] (fun s i wr => ∃ (k m c' : Nat) (A' : Option Addr), k ≤ 8 ∧ i = .int .i64 k ∧ s = .slice A' m c' ∧ Hid (m = n + 1 + nought n + k) ∧ Hid (Fo w (pad bs (nought n) ++ (be N 8).take k) (.slice A' m c') wr)) (fun _ i _ => 8 - (intOf i).toNat)
   case atStart => exact ⟨0, m, c', A', by omega, rfl, rfl, HM, hid (by rw [List.take_zero, List.append_nil]; exact HF.out)⟩
   case round =>
    clear HF HM hmi hmt hN8 hN9 hn0
    obtain ⟨k, m, c', A', hk, rfl, rfl, HM, HF⟩ := hrel
    have HKl := hid (show (pad bs (nought n) ++ (be N 8).take k).length + 1 ≤ 140737488355328 by rw [List.length_append, pad_length, List.length_take, be_length, HL.out]; have h1 := HN.out; have h2 := HNo.out; omega)
    rcases (show k = 0 ∨ k = 1 ∨ k = 2 ∨ k = 3 ∨ k = 4 ∨ k = 5 ∨ k = 6 ∨ k = 7 ∨ k = 8 by omega) with rfl | rfl | rfl | rfl | rfl | rfl | rfl | rfl | rfl
    ·obtain ⟨A3, c3, n3, w4, R3, HF3, HN3⟩ := HF.out.push (UInt8.ofNat (N / 256 ^ (7 - 0))) ((N : Int) / 72057594037927936 % 256) (by rw [UInt8.toNat_ofNat']; omega) HKl.out
     have HF4 := hid (p := Fo w (pad bs (nought n) ++ (be N 8).take (0 + 1)) (.slice A3 n3 c3) w4) (by have := HF3.out; rw [List.append_assoc, ← be_take N 0 (by decide)] at this; exact this)
     have HN4 := hid (p := n3 = n + 1 + nought n + 1) (by rw [HN3.out, List.length_append, pad_length, List.length_take, be_length, HL.out]; omega)
     clear HF3 HN3
     go_wp2_with (at_builtin; refine step_append rfl (.tmp 30) (.tmp 37) rfl rfl _ _ rfl rfl (.slice A3 n3 c3) w4 R3.out ?_)
     exact ⟨⟨1, n3, c3, A3, by decide, by go_num, rfl, HN4, HF4⟩, by simp [intOf]⟩
    ·obtain ⟨A3, c3, n3, w4, R3, HF3, HN3⟩ := HF.out.push (UInt8.ofNat (N / 256 ^ (7 - 1))) ((N : Int) / 281474976710656 % 256) (by rw [UInt8.toNat_ofNat']; omega) HKl.out
     have HF4 := hid (p := Fo w (pad bs (nought n) ++ (be N 8).take (1 + 1)) (.slice A3 n3 c3) w4) (by have := HF3.out; rw [List.append_assoc, ← be_take N 1 (by decide)] at this; exact this)
     have HN4 := hid (p := n3 = n + 1 + nought n + 2) (by rw [HN3.out, List.length_append, pad_length, List.length_take, be_length, HL.out]; omega)
     clear HF3 HN3
     go_wp2_with (at_builtin; refine step_append rfl (.tmp 30) (.tmp 37) rfl rfl _ _ rfl rfl (.slice A3 n3 c3) w4 R3.out ?_)
     exact ⟨⟨2, n3, c3, A3, by decide, by go_num, rfl, HN4, HF4⟩, by simp [intOf]⟩
    ·obtain ⟨A3, c3, n3, w4, R3, HF3, HN3⟩ := HF.out.push (UInt8.ofNat (N / 256 ^ (7 - 2))) ((N : Int) / 1099511627776 % 256) (by rw [UInt8.toNat_ofNat']; omega) HKl.out
     have HF4 := hid (p := Fo w (pad bs (nought n) ++ (be N 8).take (2 + 1)) (.slice A3 n3 c3) w4) (by have := HF3.out; rw [List.append_assoc, ← be_take N 2 (by decide)] at this; exact this)
     have HN4 := hid (p := n3 = n + 1 + nought n + 3) (by rw [HN3.out, List.length_append, pad_length, List.length_take, be_length, HL.out]; omega)
     clear HF3 HN3
     go_wp2_with (at_builtin; refine step_append rfl (.tmp 30) (.tmp 37) rfl rfl _ _ rfl rfl (.slice A3 n3 c3) w4 R3.out ?_)
     exact ⟨⟨3, n3, c3, A3, by decide, by go_num, rfl, HN4, HF4⟩, by simp [intOf]⟩
    ·obtain ⟨A3, c3, n3, w4, R3, HF3, HN3⟩ := HF.out.push (UInt8.ofNat (N / 256 ^ (7 - 3))) ((N : Int) / 4294967296 % 256) (by rw [UInt8.toNat_ofNat']; omega) HKl.out
     have HF4 := hid (p := Fo w (pad bs (nought n) ++ (be N 8).take (3 + 1)) (.slice A3 n3 c3) w4) (by have := HF3.out; rw [List.append_assoc, ← be_take N 3 (by decide)] at this; exact this)
     have HN4 := hid (p := n3 = n + 1 + nought n + 4) (by rw [HN3.out, List.length_append, pad_length, List.length_take, be_length, HL.out]; omega)
     clear HF3 HN3
     go_wp2_with (at_builtin; refine step_append rfl (.tmp 30) (.tmp 37) rfl rfl _ _ rfl rfl (.slice A3 n3 c3) w4 R3.out ?_)
     exact ⟨⟨4, n3, c3, A3, by decide, by go_num, rfl, HN4, HF4⟩, by simp [intOf]⟩
    ·obtain ⟨A3, c3, n3, w4, R3, HF3, HN3⟩ := HF.out.push (UInt8.ofNat (N / 256 ^ (7 - 4))) ((N : Int) / 16777216 % 256) (by rw [UInt8.toNat_ofNat']; omega) HKl.out
     have HF4 := hid (p := Fo w (pad bs (nought n) ++ (be N 8).take (4 + 1)) (.slice A3 n3 c3) w4) (by have := HF3.out; rw [List.append_assoc, ← be_take N 4 (by decide)] at this; exact this)
     have HN4 := hid (p := n3 = n + 1 + nought n + 5) (by rw [HN3.out, List.length_append, pad_length, List.length_take, be_length, HL.out]; omega)
     clear HF3 HN3
     go_wp2_with (at_builtin; refine step_append rfl (.tmp 30) (.tmp 37) rfl rfl _ _ rfl rfl (.slice A3 n3 c3) w4 R3.out ?_)
     exact ⟨⟨5, n3, c3, A3, by decide, by go_num, rfl, HN4, HF4⟩, by simp [intOf]⟩
    ·obtain ⟨A3, c3, n3, w4, R3, HF3, HN3⟩ := HF.out.push (UInt8.ofNat (N / 256 ^ (7 - 5))) ((N : Int) / 65536 % 256) (by rw [UInt8.toNat_ofNat']; omega) HKl.out
     have HF4 := hid (p := Fo w (pad bs (nought n) ++ (be N 8).take (5 + 1)) (.slice A3 n3 c3) w4) (by have := HF3.out; rw [List.append_assoc, ← be_take N 5 (by decide)] at this; exact this)
     have HN4 := hid (p := n3 = n + 1 + nought n + 6) (by rw [HN3.out, List.length_append, pad_length, List.length_take, be_length, HL.out]; omega)
     clear HF3 HN3
     go_wp2_with (at_builtin; refine step_append rfl (.tmp 30) (.tmp 37) rfl rfl _ _ rfl rfl (.slice A3 n3 c3) w4 R3.out ?_)
     exact ⟨⟨6, n3, c3, A3, by decide, by go_num, rfl, HN4, HF4⟩, by simp [intOf]⟩
    ·obtain ⟨A3, c3, n3, w4, R3, HF3, HN3⟩ := HF.out.push (UInt8.ofNat (N / 256 ^ (7 - 6))) ((N : Int) / 256 % 256) (by rw [UInt8.toNat_ofNat']; omega) HKl.out
     have HF4 := hid (p := Fo w (pad bs (nought n) ++ (be N 8).take (6 + 1)) (.slice A3 n3 c3) w4) (by have := HF3.out; rw [List.append_assoc, ← be_take N 6 (by decide)] at this; exact this)
     have HN4 := hid (p := n3 = n + 1 + nought n + 7) (by rw [HN3.out, List.length_append, pad_length, List.length_take, be_length, HL.out]; omega)
     clear HF3 HN3
     go_wp2_with (at_builtin; refine step_append rfl (.tmp 30) (.tmp 37) rfl rfl _ _ rfl rfl (.slice A3 n3 c3) w4 R3.out ?_)
     exact ⟨⟨7, n3, c3, A3, by decide, by go_num, rfl, HN4, HF4⟩, by simp [intOf]⟩
    ·obtain ⟨A3, c3, n3, w4, R3, HF3, HN3⟩ := HF.out.push (UInt8.ofNat (N / 256 ^ (7 - 7))) ((N : Int) % 256) (by rw [UInt8.toNat_ofNat']; omega) HKl.out
     have HF4 := hid (p := Fo w (pad bs (nought n) ++ (be N 8).take (7 + 1)) (.slice A3 n3 c3) w4) (by have := HF3.out; rw [List.append_assoc, ← be_take N 7 (by decide)] at this; exact this)
     have HN4 := hid (p := n3 = n + 1 + nought n + 8) (by rw [HN3.out, List.length_append, pad_length, List.length_take, be_length, HL.out]; omega)
     clear HF3 HN3
     go_wp2_with (at_builtin; refine step_append rfl (.tmp 30) (.tmp 37) rfl rfl _ _ rfl rfl (.slice A3 n3 c3) w4 R3.out ?_)
     exact ⟨⟨8, n3, c3, A3, by decide, by go_num, rfl, HN4, HF4⟩, by simp [intOf]⟩
    ·have HFF := hid (p := Fo w (full bs) (.slice A' m c') wr) (by have := HF.out; rw [List.take_of_length_le (by rw [be_length]; decide), HNN.out, ← HL.out, pad_full] at this; exact this)
     have HML := hid (p := m = (full bs).length) (by rw [HM.out, full, List.length_append, tail_length, HL.out]; omega)
     clear HF HM HKl
     have HF9 := hid (HFF.out.alloc (.cells #[.int .u32 1779033703, .int .u32 3144134277, .int .u32 1013904242, .int .u32 2773480762, .int .u32 1359893119, .int .u32 2600822924, .int .u32 528734635, .int .u32 1541459225] 166))
     have HH9 : Hid (Us (wr.alloc (.cells #[.int .u32 1779033703, .int .u32 3144134277, .int .u32 1013904242, .int .u32 2773480762, .int .u32 1359893119, .int .u32 2600822924, .int .u32 528734635, .int .u32 1541459225] 166)) wr.heap.size 166 hh) := hid (heap_alloc_new _ _)
     have hsz9 := HFF.out.sz
     go_wp2_with fail
     generalize wr.alloc (.cells #[.int .u32 1779033703, .int .u32 3144134277, .int .u32 1013904242, .int .u32 2773480762, .int .u32 1359893119, .int .u32 2600822924, .int .u32 528734635, .int .u32 1541459225] 166) = w9 at *
     obtain ⟨ga, rfl, hmx, hmc, hga, hgb, hbytes⟩ := ow_at HF9.out.own (by rw [← HML.out, HML.out, full, List.length_append, tail_length]; omega)
     have hgal : ga < wr.heap.size := by
      rcases HFF.out.own.2 with ⟨h1, _⟩ | ⟨g', cap, cur, h1, _, hh', _⟩
      ·injection h1 with e1; cases e1
      ·injection h1 with e1; injection e1 with e1; injection e1 with e1; subst e1; exact lt_of_block hh'
     generalize hghe : wr.heap.size = gh at *
     have HMC := hid hmc
     have HLo0 := hid (p := ∀ gt W, Us W gt 102 kk → Below w9.heap.size w9 W → gt = w9.heap.size → Lo w (full bs) ga gh gt hh W) (fun gt W hk hb hgt => by
      have hlh := HH9.out.lt
      exact ⟨HF9.out.below.trans (hb.mono HF9.out.below.size), HF9.out.z.on hb, HH9.out.on hb, hk, fun j hj => (hb.cell (p := ⟨ga, 0 + j, none⟩) hga).trans (hbytes j hj), Nat.lt_of_lt_of_le hga hb.size, by omega, by omega, by omega⟩)
     clear hbytes hga hgb hsz9 hgal hghe hmx hmc
     refine (table_any w9).mono ?_
     rintro e w10 ⟨rfl, hk10, hb10⟩
     have HLo := hid (HLo0.out _ w10 hk10.out hb10 rfl)
     clear HLo0 HF9 HH9 HFF hk10 hb10
     generalize w9.heap.size = gt at *
     have HD := hid (full_whole bs)
     go_wp2_with fail
     go_loopw [8] (fun i wr => ∃ (q iv : Nat) (hq : List Nat), i = .int .i64 iv ∧ iv ≤ m ∧ Hid (iv = 64 * q) ∧ Hid (hq = eat hh (full bs) q) ∧ Hid (Lo w (full bs) ga gh gt hq wr)) (fun i _ => m - (intOf i).toNat)
     case atStart => exact ⟨0, 0, hh, rfl, Nat.zero_le _, hid rfl, hid rfl, HLo⟩
     case round =>
      clear HLo
      obtain ⟨q, iv, hq, rfl, him, HIV, HQE, HLo⟩ := hrel
      have HIM := hid him
      clear him
      by_cases hlt : iv < m
      ·have h64 : iv + 64 ≤ m := by have h1 := HML.out; have h2 := HD.out; have h3 := HIV.out; omega
       have hlti : (iv : Int) < (m : Int) := by omega
       obtain ⟨iv2, hiv2⟩ : ∃ iv2, iv2 = iv + 64 := ⟨_, rfl⟩
       have hsl := slice_blk ga m c' iv iv2 hiv2 h64 HMC.out
       have hw : IntKind.i64.wrap ((iv : Int) + 64) = (iv2 : Int) := by have h1 := HML.out; have h2 := HN.out; have h3 := HL.out; rw [IntKind.wrap_i64]; rw [full, List.length_append, tail_length] at h1; have h4 := HNo.out; rw [h3] at h1; omega
       have HQ8 := hid (show hq.length = 8 by rw [HQE.out]; exact so_length _ _)
       have HQS := hid (show Sm hq by rw [HQE.out]; exact so_sm _ _)
       have HB64 := hid (show ((full bs).drop iv |>.take 64).length = 64 by have h1 := HML.out; simp; omega)
       have HBB := hid (p := ∀ j, (hj : j < ((full bs).drop iv |>.take 64).length) → wr.drew.cell? ⟨ga, iv + j, none⟩ = some (.int .u8 ((((full bs).drop iv |>.take 64)[j].toNat : Nat) : Int))) (fun j hj => by
        have h1 := HML.out
        have hj2 : j < 64 := by rw [HB64.out] at hj; exact hj
        have h2 := HLo.out.b (iv + j) (by omega)
        rw [Nat.zero_add] at h2
        refine Eq.trans h2 ?_
        simp)
       have HI56 := hi56 hq HQ8.out
       rw [dv_size, ← dv_length] at HI56
       have hR : wr.drew.rangeAt gh 0 (dv hq) := HLo.out.h.range
       have H64 := hid h64
       have HI2 := hid hiv2
       clear hiv2 h64
       go_wp2_with fail
       refine wp_region_noPanic ?_
       refine Goes.region (fun (L : Array Bool) (wX : World) => (L.getD 8 true = false → wX.rangeAt gh 0 (dv hq))) (by as_aux_lemma => kernel_rfl) ?_
       refine Goes.take (i := 0) (o := ⟨some 47, _, _, _, _, _⟩) [8] rfl (by as_aux_lemma => kernel_rfl) (by as_aux_lemma => kernel_rfl) (by as_aux_lemma => kernel_rfl) (fun _ _ _ h => h) (by as_aux_lemma => kernel_rfl) (fun L u h e => h (by rw [getD_set_ne true (by decide)]; exact e)) (yieldsIf_load_mid (by rfl) 166 (.tmp 6) rfl gh 0 rfl (dv hq) _ (fun W hY => by obtain ⟨up, hU, hL⟩ := hY; exact hL (hU 8 (by simp))) Tryz.underlying166 rfl HI56.out) (fun _ => hR) ?_
       try simp only [putz]
       refine Goes.take (i := 1) (o := ⟨some 48, _, _, _, _, _⟩) (v := ?_) [] rfl (by as_aux_lemma => kernel_rfl) (by as_aux_lemma => kernel_rfl) (by as_aux_lemma => kernel_rfl) (fun _ _ _ h => h) (by as_aux_lemma => kernel_rfl) (fun L u h e => h (by rw [getD_set_ne true (by decide)]; exact e)) (Or.inl ⟨by rfl, ?_⟩) (fun _ => hR) ?_
       rotate_left
       ·intro w hY; go_simp; try with_reducible rfl
       try simp only [putz]
       refine Goes.take (i := 2) (o := ⟨some 49, _, _, _, _, _⟩) (v := ?_) [] rfl (by as_aux_lemma => kernel_rfl) (by as_aux_lemma => kernel_rfl) (by as_aux_lemma => kernel_rfl) (fun _ _ _ h => h) (by as_aux_lemma => kernel_rfl) (fun L u h e => h (by rw [getD_set_ne true (by decide)]; exact e)) (Or.inl ⟨by rfl, ?_⟩) (fun _ => hR) ?_
       rotate_left
       ·intro w hY; go_simp; try with_reducible rfl
       try simp only [putz]
       refine Goes.take (i := 3) (o := ⟨some 50, _, _, _, _, _⟩) (v := ?_) [] rfl (by as_aux_lemma => kernel_rfl) (by as_aux_lemma => kernel_rfl) (by as_aux_lemma => kernel_rfl) (fun _ _ _ h => h) (by as_aux_lemma => kernel_rfl) (fun L u h e => h (by rw [getD_set_ne true (by decide)]; exact e)) (Or.inl ⟨by rfl, ?_⟩) (fun _ => hR) ?_
       rotate_left
       ·intro w hY; go_simp; try with_reducible rfl
       try simp only [putz]
       refine Goes.take (i := 4) (o := ⟨some 51, _, _, _, _, _⟩) (v := ?_) [] rfl (by as_aux_lemma => kernel_rfl) (by as_aux_lemma => kernel_rfl) (by as_aux_lemma => kernel_rfl) (fun _ _ _ h => h) (by as_aux_lemma => kernel_rfl) (fun L u h e => h (by rw [getD_set_ne true (by decide)]; exact e)) (Or.inl ⟨by rfl, ?_⟩) (fun _ => hR) ?_
       rotate_left
       ·intro w hY; go_simp; try with_reducible rfl
       try simp only [putz]
       refine Goes.take (i := 5) (o := ⟨some 52, _, _, _, _, _⟩) (v := ?_) [] rfl (by as_aux_lemma => kernel_rfl) (by as_aux_lemma => kernel_rfl) (by as_aux_lemma => kernel_rfl) (fun _ _ _ h => h) (by as_aux_lemma => kernel_rfl) (fun L u h e => h (by rw [getD_set_ne true (by decide)]; exact e)) (Or.inl ⟨by rfl, ?_⟩) (fun _ => hR) ?_
       rotate_left
       ·intro w hY; go_simp; try with_reducible rfl
       try simp only [putz]
       refine Goes.take (i := 6) (o := ⟨some 53, _, _, _, _, _⟩) (v := ?_) [] rfl (by as_aux_lemma => kernel_rfl) (by as_aux_lemma => kernel_rfl) (by as_aux_lemma => kernel_rfl) (fun _ _ _ h => h) (by as_aux_lemma => kernel_rfl) (fun L u h e => h (by rw [getD_set_ne true (by decide)]; exact e)) (Or.inl ⟨by rfl, ?_⟩) (fun _ => hR) ?_
       rotate_left
       ·intro w hY; go_simp; try with_reducible rfl
       try simp only [putz]
       refine Goes.one (i := 7) (o := ⟨some 54, _, _, _, _, _⟩) (by as_aux_lemma => kernel_rfl) rfl (fun K hK => ?_)
       go_simp
       refine (block_any hq ((full bs).drop iv |>.take 64) ga iv gt (c' - iv) _ HQ8.out HQS.out HB64.out HBB.out HLo.out.la HLo.out.k).mono ?_
       rintro e' wb ⟨rfl, hb2⟩
       go_wp2_with fail
       have HL2 := hid (HLo.out.drew.on hb2)
       have hR2 : wb.rangeAt gh 0 (dv hq) := HL2.out.h.range
       refine hK.out _ _ (fun _ => hR2) ?_
       clear hK K hR hb2
       have hR := hR2
       clear hR2
       try simp only [putz]
       refine Goes.one (i := 8) (o := ⟨none, _, _, _, _, _⟩) (by as_aux_lemma => kernel_rfl) rfl (fun K hK => ?_)
       refine step_store_mid rfl 166 (.tmp 6) (.tmp 54) rfl gh 0 (dv (comp hq ((full bs).drop iv |>.take 64))).toArray rfl rfl (by rw [dv_size, comp_length _ _ HQ8.out]; exact HL2.out.h.there 8 (by rw [HQ8.out]; exact Nat.le_refl _)) (hi56 _ (comp_length _ _ HQ8.out)).out (dv_all _) ?_
       refine hK.out _ _ (fun e => absurd e (by as_aux_lemma => decide +kernel)) ?_
       clear hK K
       try simp only [putz]
       refine Goes.done (by as_aux_lemma => kernel_rfl) ?_ _
       refine NoPanic.normal ?_
       go_wp2
       have HLN := hid (HL2.out.cells (m := comp hq ((full bs).drop iv |>.take 64)) (HQ8.out.trans (comp_length _ _ HQ8.out).symm))
       refine ⟨⟨q + 1, iv2, comp hq ((full bs).drop iv |>.take 64), rfl, by rw [HI2.out]; exact H64.out, hid (by rw [HI2.out, HIV.out]; omega), hid (by rw [eat, ← HQE.out, ← HIV.out]), HLN⟩, ?_⟩
       have h1 := H64.out
       have h2 := HI2.out
       simp [intOf]
       omega
      ·obtain rfl : iv = m := by have := HIM.out; omega
       have HQF := hid (p := hq = eat hh (full bs) ((full bs).length / 64)) (by rw [HQE.out]; congr 1; have h1 := HML.out; have h2 := HIV.out; omega)
       have HQ8 := hid (show hq.length = 8 by rw [HQF.out]; exact so_length _ _)
       have HQo := HLo.out.out
       clear HLo HQE HIV hlt
       go_wp2_with fail
       generalize hw4 : wr.alloc (.cells #[.int .u8 0, .int .u8 0, .int .u8 0, .int .u8 0, .int .u8 0, .int .u8 0, .int .u8 0, .int .u8 0, .int .u8 0, .int .u8 0, .int .u8 0, .int .u8 0, .int .u8 0, .int .u8 0, .int .u8 0, .int .u8 0, .int .u8 0, .int .u8 0, .int .u8 0, .int .u8 0, .int .u8 0, .int .u8 0, .int .u8 0, .int .u8 0, .int .u8 0, .int .u8 0, .int .u8 0, .int .u8 0, .int .u8 0, .int .u8 0, .int .u8 0, .int .u8 0] 26) = w4 at *
       generalize hgo : wr.heap.size = go at *
       clear hw4 hgo
       go_loopw [10] (fun i wr => ∃ (k : Nat) (mm : List UInt8), k ≤ 32 ∧ i = .int .i64 k ∧ Hid (Lq w gh go hq mm wr) ∧ Hid (mm.length = 32) ∧ Hid (∀ j, j < k → mm[j]? = some (sb hq j))) (fun i _ => 32 - (intOf i).toNat)
       case atStart => exact ⟨0, List.replicate 32 0, by omega, rfl, HQo, hid rfl, hid (fun j hj => absurd hj (Nat.not_lt_zero _))⟩
       case round =>
        clear HQo
        obtain ⟨k, mm, hk, rfl, HQo, HM, HA⟩ := hrel
        by_cases hlt : k < 32
        ·obtain ⟨q4, hq4⟩ : ∃ q : Nat, q = k / 4 := ⟨_, rfl⟩
         have hqi : (k : Int) / 4 = (q4 : Int) := by omega
         have hq8 : q4 < 8 := by omega
         have HQ4 := hid hq4
         clear hq4
         have hcn := HQo.out.h.cell q4 (by have := HQ8.out; omega)
         have hcm := HQo.out.m.cell k (by have := HM.out; omega)
         have hfm := HQo.out.m.frozen k
         generalize (mm[k]'(by have := HM.out; omega)).toNat = old at hcm
         rcases (show k % 4 = 0 ∨ k % 4 = 1 ∨ k % 4 = 2 ∨ k % 4 = 3 by omega) with hr | hr | hr | hr
         ·have hri : (k : Int) % 4 = 0 := by omega
          have HV := hid (sb_val hq k 0 hr)
          rw [← HQ4.out] at HV
          have HR := hid hr
          clear hr
          go_wp2
          refine ⟨⟨k + 1, mm.set k (sb hq k), by omega, by go_num, ?_, hid (by rw [List.length_set]; exact HM.out), hid ?_⟩, by simp [intOf]; omega⟩
          ·have := HQo.out.set k (sb hq k)
           rw [HV.out] at this
           simpa using hid this
          ·intro j hj
           rw [List.getElem?_set]
           by_cases h : k = j
           ·subst h; rw [if_pos rfl, if_pos (by have := HM.out; omega)]
           ·rw [if_neg h]; exact HA.out j (by omega)
         ·have hri : (k : Int) % 4 = 1 := by omega
          have HV := hid (sb_val hq k 1 hr)
          rw [← HQ4.out] at HV
          have HR := hid hr
          clear hr
          go_wp2
          refine ⟨⟨k + 1, mm.set k (sb hq k), by omega, by go_num, ?_, hid (by rw [List.length_set]; exact HM.out), hid ?_⟩, by simp [intOf]; omega⟩
          ·have := HQo.out.set k (sb hq k)
           rw [HV.out] at this
           simpa using hid this
          ·intro j hj
           rw [List.getElem?_set]
           by_cases h : k = j
           ·subst h; rw [if_pos rfl, if_pos (by have := HM.out; omega)]
           ·rw [if_neg h]; exact HA.out j (by omega)
         ·have hri : (k : Int) % 4 = 2 := by omega
          have HV := hid (sb_val hq k 2 hr)
          rw [← HQ4.out] at HV
          have HR := hid hr
          clear hr
          go_wp2
          refine ⟨⟨k + 1, mm.set k (sb hq k), by omega, by go_num, ?_, hid (by rw [List.length_set]; exact HM.out), hid ?_⟩, by simp [intOf]; omega⟩
          ·have := HQo.out.set k (sb hq k)
           rw [HV.out] at this
           simpa using hid this
          ·intro j hj
           rw [List.getElem?_set]
           by_cases h : k = j
           ·subst h; rw [if_pos rfl, if_pos (by have := HM.out; omega)]
           ·rw [if_neg h]; exact HA.out j (by omega)
         ·have hri : (k : Int) % 4 = 3 := by omega
          have HV := hid (sb_val hq k 3 hr)
          rw [← HQ4.out] at HV
          have HR := hid hr
          clear hr
          go_wp2
          refine ⟨⟨k + 1, mm.set k (sb hq k), by omega, by go_num, ?_, hid (by rw [List.length_set]; exact HM.out), hid ?_⟩, by simp [intOf]; omega⟩
          ·have := HQo.out.set k (sb hq k)
           rw [HV.out] at this
           simpa using hid this
          ·intro j hj
           rw [List.getElem?_set]
           by_cases h : k = j
           ·subst h; rw [if_pos rfl, if_pos (by have := HM.out; omega)]
           ·rw [if_neg h]; exact HA.out j (by omega)
        ·obtain rfl : k = 32 := by omega
         have hme : mm = spell hq := by
          apply List.ext_getElem?
          intro j
          rcases Nat.lt_or_ge j 32 with h | h
          ·rw [HA.out j h, spell_at hq j (by have := HQ8.out; omega)]; rfl
          ·rw [List.getElem?_eq_none (by have := HM.out; omega), List.getElem?_eq_none (by rw [spell_length, HQ8.out]; exact h)]
         have hms : mm = sha bs := by rw [hme, HQF.out]; rfl
         have HT2 : Hid (Lq w gh go hq (sha bs) wr) := hid (hms ▸ HQo.out)
         have HCL := hid (sha_length bs)
         clear HQo HM HA hme hms
         generalize hr : sha bs = r at *
         have HRR := hid hr
         clear hr
         have HI := hi44 r HCL.out
         have HO8 : Hid ((bvs (List.replicate 32 0)).toArray.size = (bvs r).toArray.size) := hid (by rw [bvs_size, bvs_size, HCL.out, List.length_replicate])
         have HZ := hid (HT2.out.z.row (m := r))
         have HBW := hid (p := Below w.heap.size w (wr.setRow w.heap.size (bvs r).toArray)) (below_setRow HT2.out.below (Nat.le_refl _) _)
         go_upto_region 20 with fail
         have HDA := bvs_all r
         have HZL := HT2.out.m
         have HZZ := HT2.out.z
         unfold Bt at HZL HZZ
         have HZL := hid HZL
         have HZZ := hid HZZ
         go_wp2_with (first | (refine wpList_load_row rfl 26 (.tmp 9) rfl go rfl 26 (bvs r).toArray (0, 0) _ HZL.out Tryz.underlying26 rfl HI.out ?_) | (refine wpList_store_row rfl 26 (.tmp 2) (.tmp 71) rfl w.heap.size (bvs r).toArray rfl rfl 26 _ HZZ.out HI.out HO8.out HDA ?_))
         exact bodyPost_ret (v := .agg (bvs r).toArray) (results_cell_row (p := 2) (ty := 26) Tryz.results69 _ _ w.heap.size 26 (bvs r).toArray (0, 0) _ rfl HZ.out Tryz.underlying26 rfl HI.out) rfl ⟨by rw [HRR.out], HBW.out⟩
end Go.Proofs.YtbloejlebikecaaGreatDoor
