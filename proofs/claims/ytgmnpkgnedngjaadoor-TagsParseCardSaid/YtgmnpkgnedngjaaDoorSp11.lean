/-
  shas.spread: what its loops carry, and the region of its second loop, walked. Conditions: none.
-/
import Derived.Test.YtgmnpkgnedngjaaDoorUs
import Derived.Test.YtgmnpkgnedngjaaDoorPkD
import Derived.Test.YtgmnpkgnedngjaaDoorPkB
import Derived.Outline
import Derived.WalkLawsBesides
import Derived.WalkSpells
import Derived.Deep.RegionHeld3
import Derived.StillTail
import Derived.Test.YtgmnpkgnedngjaaDoorPkC
namespace Go.Proofs.YtgmnpkgnedngjaaDoor
open Go.RowKit
set_option linter.unusedVariables false
theorem i132 : (Tryd.prog.info? 77).map (·.size) = some 64 := by kernel_rfl
theorem dv_all (l : List Nat) : (dv l).toArray.all (·.oneCell') = true := all_oneCell_toArray (dv_one l)
theorem dv_size (l : List Nat) : (dv l).toArray.size = l.length := by simp [dv]
theorem Us.row {w : World} {g : Nat} {t : TypeId} {l m : List Nat} (h : Us w g t l) : Us (w.setRow g (dv m).toArray) g t m := setRow_heap w g _ _ t (0, 0) h
/-- what stands while a block is spread -/
structure Spr (w : World) (b : List UInt8) (l : List Nat) (w' : World) : Prop where
  below : Below w.heap.size w w'
  b : Bt w' w.heap.size 68 b
  z : Us w' (w.heap.size + 1) 77 (List.replicate 64 0)
  l : Us w' (w.heap.size + 1 + 1) 77 l
theorem Spr.init (w : World) (b : List UInt8) : Spr w b (List.replicate 64 0) (((w.alloc (.cells (bvs b).toArray 68)).alloc (.cells (dv (List.replicate 64 0)).toArray 77)).alloc (.cells (dv (List.replicate 64 0)).toArray 77)) := by
  have s1 : ∀ (w : World) (o : Obj), (w.alloc o).heap.size = w.heap.size + 1 := fun w o => Array.size_push _
  refine ⟨(((Below.refl _ _).alloc (by simp) _).alloc (by rw [s1]; omega) _).alloc (by rw [s1, s1]; omega) _, ?_, ?_, ?_⟩
  · exact Bt.alloc (Bt.alloc (heap_alloc_new _ _) _) _
  · have : Us ((w.alloc (.cells (bvs b).toArray 68)).alloc (.cells (dv (List.replicate 64 0)).toArray 77)) (w.heap.size + 1) 77 (List.replicate 64 0) := by rw [← s1 w]; exact heap_alloc_new _ _
    exact this.alloc _
  · rw [← s1 w (.cells (bvs b).toArray 68), ← s1 _ (.cells (dv (List.replicate 64 0)).toArray 77)]; exact heap_alloc_new _ _
theorem Spr.set {w w' : World} {b : List UInt8} {l : List Nat} (h : Spr w b l w') (k v : Nat) : Spr w b (l.set k v) (w'.setCell ⟨w.heap.size + 1 + 1, k, none⟩ (.int .u32 (v : Int))) :=
  ⟨h.below.setCell (by simp; omega) _, h.b.other _ (by omega), h.z.other _ (by omega), h.l.set k v⟩
theorem Spr.on {w w' w2 : World} {b : List UInt8} {l : List Nat} (h : Spr w b l w') (hb : Below w'.heap.size w' w2) : Spr w b l w2 :=
  ⟨h.below.trans (hb.mono (Nat.le_of_lt h.b.lt)), h.b.on hb, h.z.on hb, h.l.on hb⟩
theorem Spr.drew {w w' : World} {b : List UInt8} {l : List Nat} (h : Spr w b l w') : Spr w b l w'.drew := ⟨h.below.drew, h.b, h.z, h.l⟩
theorem Spr.alloc {w w' : World} {b : List UInt8} {l : List Nat} (h : Spr w b l w') (o : Obj) : Spr w b l (w'.alloc o) := ⟨h.below.alloc (Nat.le_of_lt h.b.lt) o, h.b.alloc o, h.z.alloc o, h.l.alloc o⟩
theorem Tri.new (w : World) (a b c : Nat) : Tri (w.alloc (.cells #[.int .u32 (a : Int), .int .u32 (b : Int), .int .u32 (c : Int)] 63)) w.heap.size a b c := by
  have h := heap_alloc_new w (.cells #[.int .u32 (a : Int), .int .u32 (b : Int), .int .u32 (c : Int)] 63)
  exact ⟨by rw [cell_of_row _ _ 0 _ 63 (0, 0) h]; rfl, by rw [cell_of_row _ _ 1 _ 63 (0, 0) h]; rfl, by rw [cell_of_row _ _ 2 _ 63 (0, 0) h]; rfl⟩
theorem Tri.n1 (w : World) (a b c : Nat) : Tri (w.alloc (.cells #[.int .u32 (a : Int), .int .u32 (b : Int), .int .u32 (c : Int)] 63)).drew w.heap.size a b c := Tri.new w a b c
theorem Tri.n2 (w : World) (A : Obj) (a b c : Nat) : Tri ((w.alloc A).alloc (.cells #[.int .u32 (a : Int), .int .u32 (b : Int), .int .u32 (c : Int)] 63)).drew (w.heap.size + 1) a b c := by
  have h := Tri.new (w.alloc A) a b c
  rwa [show (w.alloc A).heap.size = w.heap.size + 1 from Array.size_push _] at h
/-- what a round of the second loop leans on -/
theorem spr_facts {w wr : World} {b : List UInt8} {l : List Nat} {k : Nat} (HS : Spr w b l wr) (HL : l.length = 64) (HA : ∀ j, j < 64 → at' l j = at' (ext (own b 16) (k - 16)) j) (hk0 : 16 ≤ k) (hlt : k < 64) :
    ∃ p15 p16 p7 p2 x v16 v7 y zx zy : Nat, (k : Int) - 15 = (p15 : Int) ∧ (k : Int) - 16 = (p16 : Int) ∧ (k : Int) - 7 = (p7 : Int) ∧ (k : Int) - 2 = (p2 : Int) ∧ p15 < 64 ∧ p2 < 64 ∧
      wr.cell? ⟨w.heap.size + 1 + 1, p15, none⟩ = some (.int .u32 (x : Int)) ∧ wr.cell? ⟨w.heap.size + 1 + 1, p2, none⟩ = some (.int .u32 (y : Int)) ∧
      x < 4294967296 ∧ y < 4294967296 ∧ (x : Int) / 8 = (zx : Int) ∧ (y : Int) / 1024 = (zy : Int) ∧ rot x 7 < 4294967296 ∧ rot x 18 < 4294967296 ∧ zx < 4294967296 ∧ rot y 17 < 4294967296 ∧ rot y 19 < 4294967296 ∧ zy < 4294967296 ∧
      IntKind.i64.wrap (p16 : Int) = (p16 : Int) ∧ IntKind.i64.wrap (p7 : Int) = (p7 : Int) ∧ (p16 : Int) < 64 ∧ (p7 : Int) < 64 ∧ (k : Int) < 64 ∧ (0 : Int) ≤ p16 ∧ (0 : Int) ≤ p7 ∧ (0 : Int) ≤ k ∧
      (wr.cell? ⟨w.heap.size + 1 + 1, p16, none⟩ = some (.int .u32 (v16 : Int)) ∧ wr.cell? ⟨w.heap.size + 1 + 1, p7, none⟩ = some (.int .u32 (v7 : Int)) ∧ w.heap.size + 1 + 1 < wr.heap.size) ∧
      Hid (∀ W : World, Spr w b l W → (W.cell? ⟨w.heap.size + 1 + 1, p16, none⟩ = some (.int .u32 (v16 : Int)) ∧ W.cell? ⟨w.heap.size + 1 + 1, p7, none⟩ = some (.int .u32 (v7 : Int)) ∧ w.heap.size + 1 + 1 < W.heap.size) ∧ W.cell? ⟨w.heap.size + 1 + 1, k, none⟩ = some (.int .u32 (at' l k : Nat)) ∧ W.frozen? ⟨w.heap.size + 1 + 1, k, none⟩ = false) ∧
      Hid (∀ (W : World) (o : Obj), (W.cell? ⟨w.heap.size + 1 + 1, p16, none⟩ = some (.int .u32 (v16 : Int)) ∧ W.cell? ⟨w.heap.size + 1 + 1, p7, none⟩ = some (.int .u32 (v7 : Int)) ∧ w.heap.size + 1 + 1 < W.heap.size) → ((W.alloc o).cell? ⟨w.heap.size + 1 + 1, p16, none⟩ = some (.int .u32 (v16 : Int)) ∧ (W.alloc o).cell? ⟨w.heap.size + 1 + 1, p7, none⟩ = some (.int .u32 (v7 : Int)) ∧ w.heap.size + 1 + 1 < (W.alloc o).heap.size)) ∧
      Hid (∀ (W : World) (v : Value), (W.cell? ⟨w.heap.size + 1 + 1, p16, none⟩ = some (.int .u32 (v16 : Int)) ∧ W.cell? ⟨w.heap.size + 1 + 1, p7, none⟩ = some (.int .u32 (v7 : Int)) ∧ w.heap.size + 1 + 1 < W.heap.size) → ((W.setCell ⟨w.heap.size + 1 + 1, k, none⟩ v).cell? ⟨w.heap.size + 1 + 1, p16, none⟩ = some (.int .u32 (v16 : Int)) ∧ (W.setCell ⟨w.heap.size + 1 + 1, k, none⟩ v).cell? ⟨w.heap.size + 1 + 1, p7, none⟩ = some (.int .u32 (v7 : Int)) ∧ w.heap.size + 1 + 1 < (W.setCell ⟨w.heap.size + 1 + 1, k, none⟩ v).heap.size)) ∧
      Hid (IntKind.u32.wrap (IntKind.u32.wrap (IntKind.u32.wrap ((v16 : Int) + ((rot x 7 ^^^ rot x 18 ^^^ zx : Nat) : Int)) + (v7 : Int)) + ((rot y 17 ^^^ rot y 19 ^^^ zy : Nat) : Int)) = ((nxw (ext (own b 16) (k - 16)) : Nat) : Int)) := by
  have HM : Sm (ext (own b 16) (k - 16)) := ext_sm (own_sm b 16) _
  have hE : (ext (own b 16) (k - 16)).length = k := by rw [ext_length, own_length]; omega
  have lt : ∀ j, j < 64 → at' l j < 4294967296 := fun j hj => by rw [HA j hj]; exact at_sm HM _
  have b15 := lt (k - 15) (by omega)
  have b2 := lt (k - 2) (by omega)
  refine ⟨k - 15, k - 16, k - 7, k - 2, at' l (k - 15), at' l (k - 16), at' l (k - 7), at' l (k - 2), at' l (k - 15) / 8, at' l (k - 2) / 1024, by omega, by omega, by omega, by omega, by omega, by omega,
    HS.l.cell _ (by omega), HS.l.cell _ (by omega), b15, b2, by omega, by omega, rot_lt 7 b15, rot_lt 18 b15, by omega, rot_lt 17 b2, rot_lt 19 b2, by omega,
    by rw [IntKind.wrap_i64]; omega, by rw [IntKind.wrap_i64]; omega, by omega, by omega, by omega, by omega, by omega, by omega, ⟨HS.l.cell _ (by omega), HS.l.cell _ (by omega), HS.l.lt⟩,
    hid (fun W h => ⟨⟨h.l.cell _ (by omega), h.l.cell _ (by omega), h.l.lt⟩, h.l.cell _ (by omega), h.l.frozen _⟩),
    hid (fun W o h => ⟨by rw [World.cell?_alloc_lt _ _ _ h.2.2]; exact h.1, by rw [World.cell?_alloc_lt _ _ _ h.2.2]; exact h.2.1, by have := h.2.2; simp; omega⟩),
    hid (fun W v h => ⟨by rw [World.cell?_setCell_other _ _ _ _ (by simp; try omega)]; exact h.1, by rw [World.cell?_setCell_other _ _ _ _ (by simp; try omega)]; exact h.2.1, by have := h.2.2; simp; omega⟩), hid ?_⟩
  have e0 : nxw (ext (own b 16) (k - 16)) = (((at' l (k - 16) + s0 (at' l (k - 15))) % 4294967296 + at' l (k - 7)) % 4294967296 + s1 (at' l (k - 2))) % 4294967296 := by
    rw [nxw, hE, HA (k - 16) (by omega), HA (k - 15) (by omega), HA (k - 7) (by omega), HA (k - 2) (by omega)]
  rw [e0, s0, s1, show (2 : Nat) ^ 3 = 8 by decide, show (2 : Nat) ^ 10 = 1024 by decide, IntKind.wrap_u32, IntKind.wrap_u32, IntKind.wrap_u32]
  omega

/-- region n of a body -/
def findRegion (n : Nat) : Code → Option Code
  | .region i ops d => if i = n then some (.region i ops d) else none
  | .seq a b => match findRegion n a with
    | some c => some c
    | none => findRegion n b
  | .block _ c => findRegion n c
  | .scope c => findRegion n c
  | .loop c => findRegion n c
  | .cond _ a b => match findRegion n a with
    | some c => some c
    | none => findRegion n b
  | _ => none
/-- the region of the second loop that reckons -/
noncomputable def sp11 : Code := ((Tryd.f44.body.bind (findRegion 11)).getD .skip)
set_option maxRecDepth 100000 in
set_option maxHeartbeats 1000000 in
theorem sp11_ok {w wr : World} {b : List UInt8} {l : List Nat} {k : Nat} {Q : Exit → Act → World → Prop} (HS : Hid (Spr w b l wr)) (p16 p7 x v16 v7 y zx zy : Nat) (hp16 : (k : Int) - 16 = (p16 : Int)) (hp7 : (k : Int) - 7 = (p7 : Int))
    (b15 : x < 4294967296) (b2 : y < 4294967296) (hzx : (x : Int) / 8 = (zx : Int)) (hzy : (y : Int) / 1024 = (zy : Int)) (bx7 : rot x 7 < 4294967296) (bx18 : rot x 18 < 4294967296) (bzx : zx < 4294967296) (by17 : rot y 17 < 4294967296) (by19 : rot y 19 < 4294967296) (bzy : zy < 4294967296)
    (w16 : IntKind.i64.wrap (p16 : Int) = (p16 : Int)) (w7 : IntKind.i64.wrap (p7 : Int) = (p7 : Int)) (i16 : (p16 : Int) < 64) (i7 : (p7 : Int) < 64) (ik : (k : Int) < 64) (j16 : (0 : Int) ≤ p16) (j7 : (0 : Int) ≤ p7) (jk : (0 : Int) ≤ k)
    (hS : wr.cell? ⟨w.heap.size + 1 + 1, p16, none⟩ = some (.int .u32 (v16 : Int)) ∧ wr.cell? ⟨w.heap.size + 1 + 1, p7, none⟩ = some (.int .u32 (v7 : Int)) ∧ w.heap.size + 1 + 1 < wr.heap.size)
    (HC : Hid (∀ W : World, Spr w b l W → (W.cell? ⟨w.heap.size + 1 + 1, p16, none⟩ = some (.int .u32 (v16 : Int)) ∧ W.cell? ⟨w.heap.size + 1 + 1, p7, none⟩ = some (.int .u32 (v7 : Int)) ∧ w.heap.size + 1 + 1 < W.heap.size) ∧ W.cell? ⟨w.heap.size + 1 + 1, k, none⟩ = some (.int .u32 (at' l k : Nat)) ∧ W.frozen? ⟨w.heap.size + 1 + 1, k, none⟩ = false))
    (HKA : Hid (∀ (W : World) (o : Obj), (W.cell? ⟨w.heap.size + 1 + 1, p16, none⟩ = some (.int .u32 (v16 : Int)) ∧ W.cell? ⟨w.heap.size + 1 + 1, p7, none⟩ = some (.int .u32 (v7 : Int)) ∧ w.heap.size + 1 + 1 < W.heap.size) → ((W.alloc o).cell? ⟨w.heap.size + 1 + 1, p16, none⟩ = some (.int .u32 (v16 : Int)) ∧ (W.alloc o).cell? ⟨w.heap.size + 1 + 1, p7, none⟩ = some (.int .u32 (v7 : Int)) ∧ w.heap.size + 1 + 1 < (W.alloc o).heap.size)))
    (HKC : Hid (∀ (W : World) (v : Value), (W.cell? ⟨w.heap.size + 1 + 1, p16, none⟩ = some (.int .u32 (v16 : Int)) ∧ W.cell? ⟨w.heap.size + 1 + 1, p7, none⟩ = some (.int .u32 (v7 : Int)) ∧ w.heap.size + 1 + 1 < W.heap.size) → ((W.setCell ⟨w.heap.size + 1 + 1, k, none⟩ v).cell? ⟨w.heap.size + 1 + 1, p16, none⟩ = some (.int .u32 (v16 : Int)) ∧ (W.setCell ⟨w.heap.size + 1 + 1, k, none⟩ v).cell? ⟨w.heap.size + 1 + 1, p7, none⟩ = some (.int .u32 (v7 : Int)) ∧ w.heap.size + 1 + 1 < (W.setCell ⟨w.heap.size + 1 + 1, k, none⟩ v).heap.size)))
    (c0 c1 c2 c4 c8 c9 c10 c11 c12 c13 c14 c15 c16 c17 c18 c19 c20 c21 c22 c23 c24 c25 c26 c27 c28 c29 c30 c31 c32 c33 c34 c35 c36 c37 c38 c39 c40 c41 c42 c43 c44 c45 c46 c47 c48 c49 c50 c51 c52 c53 c54 c55 c56 c57 c58 c59 c60 c61 c62 c63 c64 c65 c66 : Value)
    (hQ : Hid (∀ (d37 d38 d39 d40 d41 d42 d43 d44 d45 d46 d47 d48 d49 d50 d51 d52 d53 d54 d55 d56 d57 d58 d59 d60 d61 d62 d63 d64 d65 : Value) (wn : World), Hid (Spr w b l wn) → Q .normal ⟨#[c0, c1, c2, .pointer (some ⟨w.heap.size + 1 + 1, 0, none⟩), c4, .int .i64 (k : Int), .int .u32 (x : Int), .int .u32 (y : Int), c8, c9, c10, c11, c12, c13, c14, c15, c16, c17, c18, c19, c20, c21, c22, c23, c24, c25, c26, c27, c28, c29, c30, c31, c32, c33, c34, c35, c36, d37, d38, d39, d40, d41, d42, d43, d44, d45, d46, d47, d48, d49, d50, d51, d52, d53, d54, d55, d56, d57, d58, d59, d60, d61, d62, d63, d64, d65, c66], []⟩ (wn.setCell ⟨w.heap.size + 1 + 1, k, none⟩ (.int .u32 (IntKind.u32.wrap (IntKind.u32.wrap (IntKind.u32.wrap ((v16 : Int) + ((rot x 7 ^^^ rot x 18 ^^^ zx : Nat) : Int)) + (v7 : Int)) + ((rot y 17 ^^^ rot y 19 ^^^ zy : Nat) : Int)))))))  :
    Code.wp Tryd.prog sp11 Q ⟨#[c0, c1, c2, .pointer (some ⟨w.heap.size + 1 + 1, 0, none⟩), c4, .int .i64 (k : Int), .int .u32 (x : Int), .int .u32 (y : Int), c8, c9, c10, c11, c12, c13, c14, c15, c16, c17, c18, c19, c20, c21, c22, c23, c24, c25, c26, c27, c28, c29, c30, c31, c32, c33, c34, c35, c36, c37, c38, c39, c40, c41, c42, c43, c44, c45, c46, c47, c48, c49, c50, c51, c52, c53, c54, c55, c56, c57, c58, c59, c60, c61, c62, c63, c64, c65, c66], []⟩ wr := by
  conv => arg 2; whnf
  have hs : wr.drew.cell? ⟨w.heap.size + 1 + 1, p16, none⟩ = some (.int .u32 (v16 : Int)) ∧ wr.drew.cell? ⟨w.heap.size + 1 + 1, p7, none⟩ = some (.int .u32 (v7 : Int)) ∧ w.heap.size + 1 + 1 < wr.drew.heap.size := hS
  refine wp_region_noPanic ?_
  refine Goes.region (fun (L : Array Bool) (w' : World) => w'.cell? ⟨w.heap.size + 1 + 1, p16, none⟩ = some (.int .u32 (v16 : Int)) ∧ w'.cell? ⟨w.heap.size + 1 + 1, p7, none⟩ = some (.int .u32 (v7 : Int)) ∧ w.heap.size + 1 + 1 < w'.heap.size) (by as_aux_lemma => kernel_rfl) ?_
  refine Goes.take (i := 0) (o := ⟨some 37, _, _, _, _, _⟩) (v := ?_) [] rfl (by as_aux_lemma => kernel_rfl) (by as_aux_lemma => kernel_rfl) (by as_aux_lemma => kernel_rfl) (fun _ _ _ h => h) (by as_aux_lemma => kernel_rfl) (fun L u h => h) (Or.inl ⟨by rfl, ?_⟩) hs ?_
  rotate_left
  · intro w hY; go_simp; try with_reducible rfl
  try simp only [putz]
  refine Goes.take (i := 1) (o := ⟨some 38, _, _, _, _, _⟩) (v := ?_) [] rfl (by as_aux_lemma => kernel_rfl) (by as_aux_lemma => kernel_rfl) (by as_aux_lemma => kernel_rfl) (fun _ _ _ h => h) (by as_aux_lemma => kernel_rfl) (fun L u h => h) (Or.inl ⟨by rfl, ?_⟩) hs ?_
  rotate_left
  · intro w hY; go_simp; try with_reducible rfl
  try simp only [putz]
  refine Goes.take (i := 2) (o := ⟨some 39, _, _, _, _, _⟩) (v := ?_) [] rfl (by as_aux_lemma => kernel_rfl) (by as_aux_lemma => kernel_rfl) (by as_aux_lemma => kernel_rfl) (fun _ _ _ h => h) (by as_aux_lemma => kernel_rfl) (fun L u h => h) (Or.inl ⟨by rfl, ?_⟩) hs ?_
  rotate_left
  · intro w hY; go_simp; try with_reducible rfl
  try simp only [putz]
  refine Goes.take (i := 3) (o := ⟨some 40, _, _, _, _, _⟩) (v := ?_) [] rfl (by as_aux_lemma => kernel_rfl) (by as_aux_lemma => kernel_rfl) (by as_aux_lemma => kernel_rfl) (fun _ _ _ h => h) (by as_aux_lemma => kernel_rfl) (fun L u h => h) (Or.inl ⟨by rfl, ?_⟩) hs ?_
  rotate_left
  · intro w hY; go_simp; try with_reducible rfl
  try simp only [putz]
  refine Goes.take (i := 4) (o := ⟨some 41, _, _, _, _, _⟩) (v := ?_) [] rfl (by as_aux_lemma => kernel_rfl) (by as_aux_lemma => kernel_rfl) (by as_aux_lemma => kernel_rfl) (fun _ _ _ h => h) (by as_aux_lemma => kernel_rfl) (fun L u h => h) (Or.inl ⟨by rfl, ?_⟩) hs ?_
  rotate_left
  · intro w hY; obtain ⟨up, hL⟩ := hY; have hX := hL.2.1; clear hL; (try dsimp only at hX); go_simp; try with_reducible rfl
  try simp only [putz]
  refine Goes.take (i := 5) (o := ⟨some 42, _, _, _, _, _⟩) (v := ?_) [] rfl (by as_aux_lemma => kernel_rfl) (by as_aux_lemma => kernel_rfl) (by as_aux_lemma => kernel_rfl) (fun _ _ _ h => h) (by as_aux_lemma => kernel_rfl) (fun L u h => h) (Or.inl ⟨by rfl, ?_⟩) hs ?_
  rotate_left
  · intro w hY; go_simp; try with_reducible rfl
  try simp only [putz]
  refine Goes.take (i := 7) (o := ⟨some 44, _, _, _, _, _⟩) (v := ?_) [] rfl (by as_aux_lemma => kernel_rfl) (by as_aux_lemma => kernel_rfl) (by as_aux_lemma => kernel_rfl) (fun _ _ _ h => h) (by as_aux_lemma => kernel_rfl) (fun L u h => h) (Or.inl ⟨by rfl, ?_⟩) hs ?_
  rotate_left
  · intro w hY; go_simp; try with_reducible rfl
  try simp only [putz]
  refine Goes.take (i := 9) (o := ⟨some 46, _, _, _, _, _⟩) (v := ?_) [] rfl (by as_aux_lemma => kernel_rfl) (by as_aux_lemma => kernel_rfl) (by as_aux_lemma => kernel_rfl) (fun _ _ _ h => h) (by as_aux_lemma => kernel_rfl) (fun L u h => h) (Or.inl ⟨by rfl, ?_⟩) hs ?_
  rotate_left
  · intro w hY; go_simp; try with_reducible rfl
  try simp only [putz]
  refine Goes.take (i := 10) (o := ⟨some 47, _, _, _, _, _⟩) (v := ?_) [] rfl (by as_aux_lemma => kernel_rfl) (by as_aux_lemma => kernel_rfl) (by as_aux_lemma => kernel_rfl) (fun _ _ _ h => h) (by as_aux_lemma => kernel_rfl) (fun L u h => h) (Or.inl ⟨by rfl, ?_⟩) hs ?_
  rotate_left
  · intro w hY; go_simp; try with_reducible rfl
  try simp only [putz]
  refine Goes.take (i := 14) (o := ⟨some 51, _, _, _, _, _⟩) (v := ?_) [] rfl (by as_aux_lemma => kernel_rfl) (by as_aux_lemma => kernel_rfl) (by as_aux_lemma => kernel_rfl) (fun _ _ _ h => h) (by as_aux_lemma => kernel_rfl) (fun L u h => h) (Or.inl ⟨by rfl, ?_⟩) hs ?_
  rotate_left
  · intro w hY; go_simp; try with_reducible rfl
  try simp only [putz]
  refine Goes.take (i := 15) (o := ⟨some 52, _, _, _, _, _⟩) (v := ?_) [] rfl (by as_aux_lemma => kernel_rfl) (by as_aux_lemma => kernel_rfl) (by as_aux_lemma => kernel_rfl) (fun _ _ _ h => h) (by as_aux_lemma => kernel_rfl) (fun L u h => h) (Or.inl ⟨by rfl, ?_⟩) hs ?_
  rotate_left
  · intro w hY; go_simp; try with_reducible rfl
  try simp only [putz]
  refine Goes.take (i := 16) (o := ⟨some 53, _, _, _, _, _⟩) (v := ?_) [] rfl (by as_aux_lemma => kernel_rfl) (by as_aux_lemma => kernel_rfl) (by as_aux_lemma => kernel_rfl) (fun _ _ _ h => h) (by as_aux_lemma => kernel_rfl) (fun L u h => h) (Or.inl ⟨by rfl, ?_⟩) hs ?_
  rotate_left
  · intro w hY; go_simp; try with_reducible rfl
  try simp only [putz]
  refine Goes.take (i := 17) (o := ⟨some 54, _, _, _, _, _⟩) (v := ?_) [] rfl (by as_aux_lemma => kernel_rfl) (by as_aux_lemma => kernel_rfl) (by as_aux_lemma => kernel_rfl) (fun _ _ _ h => h) (by as_aux_lemma => kernel_rfl) (fun L u h => h) (Or.inl ⟨by rfl, ?_⟩) hs ?_
  rotate_left
  · intro w hY; obtain ⟨up, hL⟩ := hY; have hX := hL.2.2.1; clear hL; (try dsimp only at hX); go_simp; try with_reducible rfl
  try simp only [putz]
  refine Goes.take (i := 19) (o := ⟨some 56, _, _, _, _, _⟩) (v := ?_) [] rfl (by as_aux_lemma => kernel_rfl) (by as_aux_lemma => kernel_rfl) (by as_aux_lemma => kernel_rfl) (fun _ _ _ h => h) (by as_aux_lemma => kernel_rfl) (fun L u h => h) (Or.inl ⟨by rfl, ?_⟩) hs ?_
  rotate_left
  · intro w hY; go_simp; try with_reducible rfl
  try simp only [putz]
  refine Goes.take (i := 21) (o := ⟨some 58, _, _, _, _, _⟩) (v := ?_) [] rfl (by as_aux_lemma => kernel_rfl) (by as_aux_lemma => kernel_rfl) (by as_aux_lemma => kernel_rfl) (fun _ _ _ h => h) (by as_aux_lemma => kernel_rfl) (fun L u h => h) (Or.inl ⟨by rfl, ?_⟩) hs ?_
  rotate_left
  · intro w hY; go_simp; try with_reducible rfl
  try simp only [putz]
  refine Goes.take (i := 23) (o := ⟨some 60, _, _, _, _, _⟩) (v := ?_) [] rfl (by as_aux_lemma => kernel_rfl) (by as_aux_lemma => kernel_rfl) (by as_aux_lemma => kernel_rfl) (fun _ _ _ h => h) (by as_aux_lemma => kernel_rfl) (fun L u h => h) (Or.inl ⟨by rfl, ?_⟩) hs ?_
  rotate_left
  · intro w hY; go_simp; try with_reducible rfl
  try simp only [putz]
  refine Goes.take (i := 24) (o := ⟨some 61, _, _, _, _, _⟩) (v := ?_) [] rfl (by as_aux_lemma => kernel_rfl) (by as_aux_lemma => kernel_rfl) (by as_aux_lemma => kernel_rfl) (fun _ _ _ h => h) (by as_aux_lemma => kernel_rfl) (fun L u h => h) (Or.inl ⟨by rfl, ?_⟩) hs ?_
  rotate_left
  · intro w hY; go_simp; try with_reducible rfl
  try simp only [putz]
  refine Goes.one (i := 6) (o := ⟨some 43, _, _, _, _, _⟩) (by as_aux_lemma => kernel_rfl) rfl (fun K hK => ?_)
  go_simp
  with_reducible refine (turn_7 _ _ b15).mono ?_
  rintro e wa ⟨rfl, rfl⟩
  go_wp2_with fail
  refine hK.out _ _ hs ?_
  clear hK K
  try simp only [putz]
  refine Goes.one (i := 8) (o := ⟨some 45, _, _, _, _, _⟩) (by as_aux_lemma => kernel_rfl) rfl (fun K hK => ?_)
  go_simp
  with_reducible refine (turn_18 _ _ b15).mono ?_
  rintro e wb ⟨rfl, rfl⟩
  go_wp2_with fail
  refine hK.out _ _ hs ?_
  clear hK K
  try simp only [putz]
  refine Goes.one (i := 11) (o := ⟨some 48, _, _, _, _, _⟩) (by as_aux_lemma => kernel_rfl) rfl (fun K hK => ?_)
  go_simp
  have T1 : Hid (Tri ((wr.alloc (.cells #[.int .u32 (rot x 7 : Nat), .int .u32 (rot x 18 : Nat), .int .u32 (zx : Int)] 63)).drew) wr.heap.size _ _ _) := hid (Tri.n1 wr _ _ _)
  have HN1 : Hid (Spr w b l ((wr.alloc (.cells #[.int .u32 (rot x 7 : Nat), .int .u32 (rot x 18 : Nat), .int .u32 (zx : Int)] 63)).drew)) := hid (HS.out.alloc _).drew
  have hs1 : ((wr.alloc (.cells #[.int .u32 (rot x 7 : Nat), .int .u32 (rot x 18 : Nat), .int .u32 (zx : Int)] 63)).drew).cell? ⟨w.heap.size + 1 + 1, p16, none⟩ = some (.int .u32 (v16 : Int)) ∧ ((wr.alloc (.cells #[.int .u32 (rot x 7 : Nat), .int .u32 (rot x 18 : Nat), .int .u32 (zx : Int)] 63)).drew).cell? ⟨w.heap.size + 1 + 1, p7, none⟩ = some (.int .u32 (v7 : Int)) ∧ w.heap.size + 1 + 1 < ((wr.alloc (.cells #[.int .u32 (rot x 7 : Nat), .int .u32 (rot x 18 : Nat), .int .u32 (zx : Int)] 63)).drew).heap.size := HKA.out wr _ hS
  refine hK.out _ _ hs1 ?_
  clear hK K hs
  generalize (wr.alloc (.cells #[.int .u32 (rot x 7 : Nat), .int .u32 (rot x 18 : Nat), .int .u32 (zx : Int)] 63)).drew = w1 at *
  generalize wr.heap.size = s1 at *
  have hs := hs1
  clear hs1
  try simp only [putz]
  refine Goes.one (i := 12) (o := ⟨some 49, _, _, _, _, _⟩) (by as_aux_lemma => kernel_rfl) rfl (fun K hK => ?_)
  go_simp
  with_reducible refine (mix_any _ _ _ _ _ T1.out bx7 bx18 bzx).mono ?_
  rintro e wc ⟨rfl, rfl⟩
  go_wp2_with fail
  refine hK.out _ _ hs ?_
  clear hK K
  try simp only [putz]
  refine Goes.take (i := 13) (o := ⟨some 50, _, _, _, _, _⟩) (v := ?_) [] rfl (by as_aux_lemma => kernel_rfl) (by as_aux_lemma => kernel_rfl) (by as_aux_lemma => kernel_rfl) (fun _ _ _ h => h) (by as_aux_lemma => kernel_rfl) (fun L u h => h) (Or.inl ⟨by rfl, ?_⟩) hs ?_
  rotate_left
  · intro w hY; go_simp; try with_reducible rfl
  try simp only [putz]
  refine Goes.take (i := 18) (o := ⟨some 55, _, _, _, _, _⟩) (v := ?_) [] rfl (by as_aux_lemma => kernel_rfl) (by as_aux_lemma => kernel_rfl) (by as_aux_lemma => kernel_rfl) (fun _ _ _ h => h) (by as_aux_lemma => kernel_rfl) (fun L u h => h) (Or.inl ⟨by rfl, ?_⟩) hs ?_
  rotate_left
  · intro w hY; go_simp; try with_reducible rfl
  try simp only [putz]
  refine Goes.one (i := 20) (o := ⟨some 57, _, _, _, _, _⟩) (by as_aux_lemma => kernel_rfl) rfl (fun K hK => ?_)
  go_simp
  with_reducible refine (turn_17 _ _ b2).mono ?_
  rintro e wd ⟨rfl, rfl⟩
  go_wp2_with fail
  refine hK.out _ _ hs ?_
  clear hK K
  try simp only [putz]
  refine Goes.one (i := 22) (o := ⟨some 59, _, _, _, _, _⟩) (by as_aux_lemma => kernel_rfl) rfl (fun K hK => ?_)
  go_simp
  with_reducible refine (turn_19 _ _ b2).mono ?_
  rintro e we ⟨rfl, rfl⟩
  go_wp2_with fail
  refine hK.out _ _ hs ?_
  clear hK K
  try simp only [putz]
  refine Goes.one (i := 25) (o := ⟨some 62, _, _, _, _, _⟩) (by as_aux_lemma => kernel_rfl) rfl (fun K hK => ?_)
  go_simp
  have T2 : Hid (Tri (w1.alloc (.cells #[.int .u32 (rot y 17 : Nat), .int .u32 (rot y 19 : Nat), .int .u32 (zy : Int)] 63)) w1.heap.size _ _ _) := hid (Tri.new w1 _ _ _)
  have HN2 : Hid (Spr w b l (w1.alloc (.cells #[.int .u32 (rot y 17 : Nat), .int .u32 (rot y 19 : Nat), .int .u32 (zy : Int)] 63))) := hid (HN1.out.alloc _)
  have hs2 : (w1.alloc (.cells #[.int .u32 (rot y 17 : Nat), .int .u32 (rot y 19 : Nat), .int .u32 (zy : Int)] 63)).cell? ⟨w.heap.size + 1 + 1, p16, none⟩ = some (.int .u32 (v16 : Int)) ∧ (w1.alloc (.cells #[.int .u32 (rot y 17 : Nat), .int .u32 (rot y 19 : Nat), .int .u32 (zy : Int)] 63)).cell? ⟨w.heap.size + 1 + 1, p7, none⟩ = some (.int .u32 (v7 : Int)) ∧ w.heap.size + 1 + 1 < (w1.alloc (.cells #[.int .u32 (rot y 17 : Nat), .int .u32 (rot y 19 : Nat), .int .u32 (zy : Int)] 63)).heap.size := HKA.out w1 _ hs
  refine hK.out _ _ hs2 ?_
  clear hK K hs
  generalize w1.alloc (.cells #[.int .u32 (rot y 17 : Nat), .int .u32 (rot y 19 : Nat), .int .u32 (zy : Int)] 63) = w2 at *
  generalize w1.heap.size = s2 at *
  have hs := hs2
  clear hs2
  try simp only [putz]
  refine Goes.one (i := 26) (o := ⟨some 63, _, _, _, _, _⟩) (by as_aux_lemma => kernel_rfl) rfl (fun K hK => ?_)
  go_simp
  with_reducible refine (mix_any _ _ _ _ _ T2.out by17 by19 bzy).mono ?_
  rintro e wn ⟨rfl, rfl⟩
  have HN := HN2
  obtain ⟨hSn, nk, nf⟩ := HC.out _ HN.out
  clear hs HN1 HN2 T1 T2
  have hs := hSn
  go_wp2_with fail
  refine hK.out _ _ hs ?_
  clear hK K
  try simp only [putz]
  refine Goes.take (i := 27) (o := ⟨some 64, _, _, _, _, _⟩) (v := ?_) [] rfl (by as_aux_lemma => kernel_rfl) (by as_aux_lemma => kernel_rfl) (by as_aux_lemma => kernel_rfl) (fun _ _ _ h => h) (by as_aux_lemma => kernel_rfl) (fun L u h => h) (Or.inl ⟨by rfl, ?_⟩) hs ?_
  rotate_left
  · intro w hY; go_simp; try with_reducible rfl
  try simp only [putz]
  refine Goes.take (i := 28) (o := ⟨some 65, _, _, _, _, _⟩) (v := ?_) [] rfl (by as_aux_lemma => kernel_rfl) (by as_aux_lemma => kernel_rfl) (by as_aux_lemma => kernel_rfl) (fun _ _ _ h => h) (by as_aux_lemma => kernel_rfl) (fun L u h => h) (Or.inl ⟨by rfl, ?_⟩) hs ?_
  rotate_left
  · intro w hY; go_simp; try with_reducible rfl
  try simp only [putz]
  refine Goes.one (i := 29) (o := ⟨none, _, _, _, _, _⟩) (by as_aux_lemma => kernel_rfl) rfl (fun K hK => ?_)
  go_simp
  refine hK.out _ _ (HKC.out _ _ hSn) ?_
  clear hK K
  try simp only [putz]
  refine Goes.done (by as_aux_lemma => kernel_rfl) ?_ _
  refine NoPanic.normal ?_
  exact hQ.out _ _ _ _ _ _ _ _ _ _ _ _ _ _ _ _ _ _ _ _ _ _ _ _ _ _ _ _ _ _ HN
end Go.Proofs.YtgmnpkgnedngjaaDoor
