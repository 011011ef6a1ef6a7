/-
  burrowref05.Of: what its loops carry. Conditions: none.
-/
import Derived.Test.YtaejcifpipegnaaDoorBlock
import Derived.Test.YtaejcifpipegnaaDoorRef
import Derived.Test.YtaejcifpipegnaaDoorAlive
namespace Go.Proofs.YtaejcifpipegnaaDoor
open Go.RowKit
set_option linter.unusedVariables false
set_option linter.unusedSimpArgs false

/-- a slice of the call's own, the answer's box, what came in as it was -/
structure Fo (w : World) (x : List UInt8) (v : Value) (w' : World) : Prop where
  below : Below w.heap.size w w'
  z : Bt w' w.heap.size 29 (List.replicate 32 0)
  own : Ow w' (w.heap.size + 1) v x
theorem Fo.sz {w w' : World} {x : List UInt8} {v : Value} (h : Fo w x v w') : w.heap.size + 1 ≤ w'.heap.size := h.z.lt
theorem Fo.alloc {w w' : World} {x : List UInt8} {v : Value} (h : Fo w x v w') (o : Obj) : Fo w x v (w'.alloc o) := ⟨h.below.alloc h.below.size o, h.z.alloc o, World.ownsRow.alloc h.own o⟩
theorem Fo.app {w w' : World} {x ls : List UInt8} {v : Value} {A : Option Addr} {m c : Nat} (h : Fo w x v w') (hr : Rd w' A ls) (hl : ls.length = m) (hA : A = none → c = 0) (hs : x.length + m ≤ 140737488355328) :
    ∃ A2 c2 n2 w2, Hid ((Builtin.append_ #[22, 22] 22 #[v, .slice A m c]).run Tryd.prog w' = .ok (.slice A2 n2 c2) w2) ∧ Hid (Fo w (x ++ ls) (.slice A2 n2 c2) w2) ∧ Hid (n2 = x.length + m) := by
  obtain ⟨v2, w2, hrun, hown, hg, _⟩ := append_bytes w' (w.heap.size + 1) v x ls A m c h.own hr hl hA hs h.sz
  obtain ⟨A2, c2, rfl, _, _, _, _⟩ := hown.form
  have hsome : ∀ k, v.ownBlock = some k → w.heap.size + 1 ≤ k := fun k hk => (World.ownsRow.lt h.own k hk).1
  refine ⟨A2, c2, _, w2, hid hrun, hid ⟨h.below.grown hg h.below.size (fun k hk => by have := hsome k hk; omega), ?_, hown⟩, hid (by rw [List.length_append, hl])⟩
  exact (hg.block w.heap.size h.z.lt (by intro e; have := hsome _ e.symm; omega)).trans h.z
/-- one byte more, out of a slice made for it -/
theorem Fo.push {w w' : World} {x : List UInt8} {v : Value} (h : Fo w x v w') (b : UInt8) (bi : Int) (hbi : bi = ((b.toNat : Nat) : Int)) (hs : x.length + 1 ≤ 140737488355328) :
    ∃ A2 c2 n2 w2, Hid ((Builtin.append_ #[22, 22] 22 #[v, .slice (some ⟨w'.heap.size, 0, none⟩) 1 1]).run Tryd.prog (w'.alloc (.cells #[.int .u8 bi] 5)) = .ok (.slice A2 n2 c2) w2) ∧ Hid (Fo w (x ++ [b]) (.slice A2 n2 c2) w2) ∧ Hid (n2 = x.length + 1) := by
  subst hbi
  exact (h.alloc (.cells #[.int .u8 ((b.toNat : Nat) : Int)] 5)).app (m := 1) (c := 1) (rd_new w' [b]) rfl (fun h => by cases h) hs
/-- the noughts behind the byte 128 -/
def pad (bs : List UInt8) (j : Nat) : List UInt8 := bs ++ (128 : UInt8) :: List.replicate j 0
theorem pad_length (bs : List UInt8) (j : Nat) : (pad bs j).length = bs.length + 1 + j := by simp [pad]; omega
theorem pad_step (bs : List UInt8) (j : Nat) : pad bs j ++ [0] = pad bs (j + 1) := by simp [pad, List.replicate_succ']
theorem pad_full (bs : List UInt8) : pad bs (nought bs.length) ++ be (8 * bs.length) 8 = full bs := by simp [pad, full, tail]
theorem be_take (N i : Nat) (h : i < 8) : (be N 8).take (i + 1) = (be N 8).take i ++ [UInt8.ofNat (N / 256 ^ (7 - i))] := by
  match i, h with
  | 0, _ => rfl
  | 1, _ => rfl
  | 2, _ => rfl
  | 3, _ => rfl
  | 4, _ => rfl
  | 5, _ => rfl
  | 6, _ => rfl
  | 7, _ => rfl
/-- where a slice of one's own lies -/
theorem ow_at {w : World} {base n c : Nat} {A : Option Addr} {x : List UInt8} (h : Ow w base (.slice A n c) x) (hp : 0 < x.length) : ∃ g, A = some ⟨g, 0, none⟩ ∧ n = x.length ∧ n ≤ c ∧ g < w.heap.size ∧ base ≤ g ∧ ∀ j, (hj : j < x.length) → w.cell? ⟨g, 0 + j, none⟩ = some (.int .u8 ((x[j].toNat : Nat) : Int)) := by
  rcases h.2 with ⟨h1, hn⟩ | ⟨g, cap, cur, h1, hb, hh, hnc, hm, hs, ht⟩
  · omega
  · injection h1 with e1 e2 e3
    subst e1; subst e2; subst e3
    refine ⟨g, rfl, rfl, by omega, lt_of_block hh, hb, fun j hj => ?_⟩
    have := World.ownsRow.cellAt h j (by simpa using hj)
    rw [Nat.zero_add, this]
    simp [bvs, hj]
/-- what stands while block after block is taken in: the answer's box, all bytes, the eight numbers, the table -/
structure Lo (w : World) (x : List UInt8) (ga gh gt : Nat) (l : List Nat) (w' : World) : Prop where
  below : Below w.heap.size w w'
  z : Bt w' w.heap.size 29 (List.replicate 32 0)
  h : Us w' gh 57 l
  k : Us w' gt 56 kk
  b : ∀ j, (hj : j < x.length) → w'.cell? ⟨ga, 0 + j, none⟩ = some (.int .u8 ((x[j].toNat : Nat) : Int))
  la : ga < w'.heap.size
  nh : w.heap.size < gh
  na : ga ≠ gh
  nt : gt ≠ gh
theorem Lo.on {w w' w2 : World} {x : List UInt8} {ga gh gt : Nat} {l : List Nat} (H : Lo w x ga gh gt l w') (hb : Below w'.heap.size w' w2) : Lo w x ga gh gt l w2 :=
  ⟨H.below.trans (hb.mono H.below.size), H.z.on hb, H.h.on hb, H.k.on hb, fun j hj => (hb.cell (p := ⟨ga, 0 + j, none⟩) H.la).trans (H.b j hj), Nat.lt_of_lt_of_le H.la hb.size, H.nh, H.na, H.nt⟩
theorem Lo.drew {w w' : World} {x : List UInt8} {ga gh gt : Nat} {l : List Nat} (H : Lo w x ga gh gt l w') : Lo w x ga gh gt l w'.drew := ⟨H.below.drew, H.z, H.h, H.k, H.b, H.la, H.nh, H.na, H.nt⟩
theorem Us.cells {w : World} {g : Nat} {t : TypeId} {l m : List Nat} (h : Us w g t l) (hl : l.length = m.length) : Us (w.setCells g 0 (dv m)) g t m := by
  have := setCells_mid g t (dv m) (dv l) [] [] w (by rw [dv_length, dv_length, hl]) (by unfold Us at h; simpa using h)
  unfold Us
  simpa using this
theorem Lo.cells {w w' : World} {x : List UInt8} {ga gh gt : Nat} {l m : List Nat} (H : Lo w x ga gh gt l w') (hl : l.length = m.length) : Lo w x ga gh gt m (w'.setCells gh 0 (dv m)) := by
  have ho := fun k (hk : k ≠ gh) => setCells_other gh k hk (dv m) 0 w'
  have hn := H.nh
  refine ⟨⟨(setCells_rest gh (dv m) 0 w').1.trans H.below.os, (setCells_rest gh (dv m) 0 w').2.1.trans H.below.tape, (setCells_rest gh (dv m) 0 w').2.2.trans H.below.output, by rw [setCells_size]; exact H.below.size, fun k hk => (ho k (by omega)).trans (H.below.block k hk)⟩,
    (ho _ (by omega)).trans H.z, H.h.cells hl, (ho _ H.nt).trans H.k, fun j hj => ?_, by rw [setCells_size]; exact H.la, H.nh, H.na, H.nt⟩
  rw [World.cell?_of_block (a := ⟨ga, 0 + j, none⟩) (ho ga H.na)]; exact H.b j hj
theorem Us.range {w : World} {g : Nat} {t : TypeId} {l : List Nat} (h : Us w g t l) : w.rangeAt g 0 (dv l) := by
  intro j v hv
  rw [Nat.zero_add, cell_of_row w g j _ t (0, 0) h]; simpa using hv
theorem Us.there {w : World} {g : Nat} {t : TypeId} {l : List Nat} (h : Us w g t l) (n : Nat) (hn : n ≤ l.length) : w.there g 0 n := by
  intro j hj
  refine ⟨?_, h.frozen _⟩
  rw [Nat.zero_add, h.cell j (by omega)]; rfl
set_option maxRecDepth 100000 in
theorem slice_blk (g m c i i2 : Nat) (h2 : i2 = i + 64) (hi : i + 64 ≤ m) (hm : m ≤ c) (w : World) : (Instr.slice 22 (.slice (some ⟨g, 0, none⟩) m c) (some (.int .i64 (i : Int))) (some (.int .i64 (i2 : Int))) none).run Tryd.prog w = .ok (.slice (some ⟨g, i, none⟩) 64 (c - i)) w := by
  subst h2
  have h5 : Tryd.prog.elem 22 = 5 := by kernel_rfl
  rw [run_slice_lh (P := Tryd.prog) w 22 (some ⟨g, 0, none⟩) m c (by rw [h5]; exact Tryd.underlying22) .i64 .i64 (i : Int) ((i + 64 : Nat) : Int) (by omega) (by omega) (by omega)]
  have hs : (sizeOf 5).run Tryd.prog w = .ok 1 w := by kernel_rfl
  rw [h5, hs]
  simp only [Result.andThen, sliced, Int.toNat_natCast, Nat.mul_one]
  rw [if_neg (by omega), show i + 64 - i = 64 by omega]
  congr 3
  unfold Addr.add
  by_cases h0 : i = 0
  · subst h0; rfl
  · simp [h0]
/-- and the bytes of the answer -/
structure Lq (w : World) (gh go : Nat) (l : List Nat) (m : List UInt8) (w' : World) : Prop where
  below : Below w.heap.size w w'
  z : Bt w' w.heap.size 29 (List.replicate 32 0)
  h : Us w' gh 57 l
  m : Bt w' go 29 m
  nh : w.heap.size < gh
  no : gh < go
theorem Lo.out {w w' : World} {x : List UInt8} {ga gh gt : Nat} {l : List Nat} (H : Lo w x ga gh gt l w') : Hid (Lq w gh w'.heap.size l (List.replicate 32 0) (w'.alloc (.cells #[.int .u8 0, .int .u8 0, .int .u8 0, .int .u8 0, .int .u8 0, .int .u8 0, .int .u8 0, .int .u8 0, .int .u8 0, .int .u8 0, .int .u8 0, .int .u8 0, .int .u8 0, .int .u8 0, .int .u8 0, .int .u8 0, .int .u8 0, .int .u8 0, .int .u8 0, .int .u8 0, .int .u8 0, .int .u8 0, .int .u8 0, .int .u8 0, .int .u8 0, .int .u8 0, .int .u8 0, .int .u8 0, .int .u8 0, .int .u8 0, .int .u8 0, .int .u8 0] 29))) := by
  have h2 := H.on ((Below.refl w'.heap.size w').alloc (Nat.le_refl _) (.cells #[.int .u8 0, .int .u8 0, .int .u8 0, .int .u8 0, .int .u8 0, .int .u8 0, .int .u8 0, .int .u8 0, .int .u8 0, .int .u8 0, .int .u8 0, .int .u8 0, .int .u8 0, .int .u8 0, .int .u8 0, .int .u8 0, .int .u8 0, .int .u8 0, .int .u8 0, .int .u8 0, .int .u8 0, .int .u8 0, .int .u8 0, .int .u8 0, .int .u8 0, .int .u8 0, .int .u8 0, .int .u8 0, .int .u8 0, .int .u8 0, .int .u8 0, .int .u8 0] 29))
  exact hid ⟨h2.below, h2.z, h2.h, heap_alloc_new _ _, H.nh, H.h.lt⟩
theorem Lq.set {w w' : World} {gh go : Nat} {l : List Nat} {m : List UInt8} (H : Lq w gh go l m w') (k : Nat) (b : UInt8) : Lq w gh go l (m.set k b) (w'.setCell ⟨go, k, none⟩ (.int .u8 ((b.toNat : Nat) : Int))) := by
  have h1 := H.nh; have h2 := H.no
  exact ⟨H.below.setCell (by simp; omega) _, H.z.other _ (by omega), H.h.other _ (by omega), H.m.set k b, h1, h2⟩
end Go.Proofs.YtaejcifpipegnaaDoor
