/-
  burrowref05.Of: what its loops carry. Conditions: none.
  burrowref05.Of, walked: the document's own sum. Condition: no more than 2^46 bytes.
-/
import Derived.Test.YtgmnpkgnedngjaaDoorPkF
import Derived.Test.YtgmnpkgnedngjaaDoorRef
import Derived.Test.YtgmnpkgnedngjaaDoorPkH
import Derived.Test.YtgmnpkgnedngjaaDoorPkC
import Derived.Deep.Cut
namespace Go.Proofs.YtgmnpkgnedngjaaDoor
open Go.RowKit
set_option linter.unusedVariables false
set_option linter.unusedSimpArgs false

/-- a slice of the call's own, the answer's box, what came in as it was -/
structure Fo (w : World) (x : List UInt8) (v : Value) (w' : World) : Prop where
  below : Below w.heap.size w w'
  z : Bt w' w.heap.size 40 (List.replicate 32 0)
  own : Ow w' (w.heap.size + 1) v x
theorem Fo.sz {w w' : World} {x : List UInt8} {v : Value} (h : Fo w x v w') : w.heap.size + 1 ≤ w'.heap.size := h.z.lt
theorem Fo.alloc {w w' : World} {x : List UInt8} {v : Value} (h : Fo w x v w') (o : Obj) : Fo w x v (w'.alloc o) := ⟨h.below.alloc h.below.size o, h.z.alloc o, World.ownsRow.alloc h.own o⟩
theorem Fo.app {w w' : World} {x ls : List UInt8} {v : Value} {A : Option Addr} {m c : Nat} (h : Fo w x v w') (hr : Rd w' A ls) (hl : ls.length = m) (hA : A = none → c = 0) (hs : x.length + m ≤ 140737488355328) :
    ∃ A2 c2 n2 w2, Hid ((Builtin.append_ #[37, 37] 37 #[v, .slice A m c]).run Tryd.prog w' = .ok (.slice A2 n2 c2) w2) ∧ Hid (Fo w (x ++ ls) (.slice A2 n2 c2) w2) ∧ Hid (n2 = x.length + m) := by
  obtain ⟨v2, w2, hrun, hown, hg, _⟩ := append_bytes w' (w.heap.size + 1) v x ls A m c h.own hr hl hA hs h.sz
  obtain ⟨A2, c2, rfl, _, _, _, _⟩ := hown.form
  have hsome : ∀ k, v.ownBlock = some k → w.heap.size + 1 ≤ k := fun k hk => (World.ownsRow.lt h.own k hk).1
  refine ⟨A2, c2, _, w2, hid hrun, hid ⟨h.below.grown hg h.below.size (fun k hk => by have := hsome k hk; omega), ?_, hown⟩, hid (by rw [List.length_append, hl])⟩
  exact (hg.block w.heap.size h.z.lt (by intro e; have := hsome _ e.symm; omega)).trans h.z
/-- one byte more, out of a slice made for it -/
theorem Fo.push {w w' : World} {x : List UInt8} {v : Value} (h : Fo w x v w') (b : UInt8) (bi : Int) (hbi : bi = ((b.toNat : Nat) : Int)) (hs : x.length + 1 ≤ 140737488355328) :
    ∃ A2 c2 n2 w2, Hid ((Builtin.append_ #[37, 37] 37 #[v, .slice (some ⟨w'.heap.size, 0, none⟩) 1 1]).run Tryd.prog (w'.alloc (.cells #[.int .u8 bi] 5)) = .ok (.slice A2 n2 c2) w2) ∧ Hid (Fo w (x ++ [b]) (.slice A2 n2 c2) w2) ∧ Hid (n2 = x.length + 1) := by
  subst hbi
  exact (h.alloc (.cells #[.int .u8 ((b.toNat : Nat) : Int)] 5)).app (m := 1) (c := 1) (rd_new w' [b]) rfl (fun h => by cases h) hs
/-- the noughts behind the byte 128 -/
def pad (bs : List UInt8) (j : Nat) : List UInt8 := bs ++ (128 : UInt8) :: List.replicate j 0
theorem pad_length (bs : List UInt8) (j : Nat) : (pad bs j).length = bs.length + 1 + j := by simp [pad]; omega
theorem pad_step (bs : List UInt8) (j : Nat) : pad bs j ++ [0] = pad bs (j + 1) := by simp [pad, List.replicate_succ']
theorem pad_full (bs : List UInt8) : pad bs (nought bs.length) ++ be (8 * bs.length) 8 = full bs := by simp [pad, full, tail]
theorem be_take (N i : Nat) (h : i < 8) : (be N 8).take (i + 1) = (be N 8).take i ++ [UInt8.ofNat (N / 256 ^ (7 - i))] := by
  match i, h with
  | 0, _ => rfl
  | 1, _ => rfl
  | 2, _ => rfl
  | 3, _ => rfl
  | 4, _ => rfl
  | 5, _ => rfl
  | 6, _ => rfl
  | 7, _ => rfl
/-- where a slice of one's own lies -/
theorem ow_at {w : World} {base n c : Nat} {A : Option Addr} {x : List UInt8} (h : Ow w base (.slice A n c) x) (hp : 0 < x.length) : ∃ g, A = some ⟨g, 0, none⟩ ∧ n = x.length ∧ n ≤ c ∧ g < w.heap.size ∧ base ≤ g ∧ ∀ j, (hj : j < x.length) → w.cell? ⟨g, 0 + j, none⟩ = some (.int .u8 ((x[j].toNat : Nat) : Int)) := by
  rcases h.2 with ⟨h1, hn⟩ | ⟨g, cap, cur, h1, hb, hh, hnc, hm, hs, ht⟩
  · omega
  · injection h1 with e1 e2 e3
    subst e1; subst e2; subst e3
    refine ⟨g, rfl, rfl, by omega, lt_of_block hh, hb, fun j hj => ?_⟩
    have := World.ownsRow.cellAt h j (by simpa using hj)
    rw [Nat.zero_add, this]
    simp [bvs, hj]
/-- what stands while block after block is taken in: the answer's box, all bytes, the eight numbers, the table -/
structure Lo (w : World) (x : List UInt8) (ga gh gt : Nat) (l : List Nat) (w' : World) : Prop where
  below : Below w.heap.size w w'
  z : Bt w' w.heap.size 40 (List.replicate 32 0)
  h : Us w' gh 64 l
  k : Us w' gt 63 kk
  b : ∀ j, (hj : j < x.length) → w'.cell? ⟨ga, 0 + j, none⟩ = some (.int .u8 ((x[j].toNat : Nat) : Int))
  la : ga < w'.heap.size
  nh : w.heap.size < gh
  na : ga ≠ gh
  nt : gt ≠ gh
theorem Lo.on {w w' w2 : World} {x : List UInt8} {ga gh gt : Nat} {l : List Nat} (H : Lo w x ga gh gt l w') (hb : Below w'.heap.size w' w2) : Lo w x ga gh gt l w2 :=
  ⟨H.below.trans (hb.mono H.below.size), H.z.on hb, H.h.on hb, H.k.on hb, fun j hj => (hb.cell (p := ⟨ga, 0 + j, none⟩) H.la).trans (H.b j hj), Nat.lt_of_lt_of_le H.la hb.size, H.nh, H.na, H.nt⟩
theorem Lo.drew {w w' : World} {x : List UInt8} {ga gh gt : Nat} {l : List Nat} (H : Lo w x ga gh gt l w') : Lo w x ga gh gt l w'.drew := ⟨H.below.drew, H.z, H.h, H.k, H.b, H.la, H.nh, H.na, H.nt⟩
theorem Us.cells {w : World} {g : Nat} {t : TypeId} {l m : List Nat} (h : Us w g t l) (hl : l.length = m.length) : Us (w.setCells g 0 (dv m)) g t m := by
  have := setCells_mid g t (dv m) (dv l) [] [] w (by rw [dv_length, dv_length, hl]) (by unfold Us at h; simpa using h)
  unfold Us
  simpa using this
theorem Lo.cells {w w' : World} {x : List UInt8} {ga gh gt : Nat} {l m : List Nat} (H : Lo w x ga gh gt l w') (hl : l.length = m.length) : Lo w x ga gh gt m (w'.setCells gh 0 (dv m)) := by
  have ho := fun k (hk : k ≠ gh) => setCells_other gh k hk (dv m) 0 w'
  have hn := H.nh
  refine ⟨⟨(setCells_rest gh (dv m) 0 w').1.trans H.below.os, (setCells_rest gh (dv m) 0 w').2.1.trans H.below.tape, (setCells_rest gh (dv m) 0 w').2.2.trans H.below.output, by rw [setCells_size]; exact H.below.size, fun k hk => (ho k (by omega)).trans (H.below.block k hk)⟩,
    (ho _ (by omega)).trans H.z, H.h.cells hl, (ho _ H.nt).trans H.k, fun j hj => ?_, by rw [setCells_size]; exact H.la, H.nh, H.na, H.nt⟩
  rw [World.cell?_of_block (a := ⟨ga, 0 + j, none⟩) (ho ga H.na)]; exact H.b j hj
theorem Us.range {w : World} {g : Nat} {t : TypeId} {l : List Nat} (h : Us w g t l) : w.rangeAt g 0 (dv l) := by
  intro j v hv
  rw [Nat.zero_add, cell_of_row w g j _ t (0, 0) h]; simpa using hv
theorem Us.there {w : World} {g : Nat} {t : TypeId} {l : List Nat} (h : Us w g t l) (n : Nat) (hn : n ≤ l.length) : w.there g 0 n := by
  intro j hj
  refine ⟨?_, h.frozen _⟩
  rw [Nat.zero_add, h.cell j (by omega)]; rfl
set_option maxRecDepth 100000 in
theorem slice_blk (g m c i i2 : Nat) (h2 : i2 = i + 64) (hi : i + 64 ≤ m) (hm : m ≤ c) (w : World) : (Instr.slice 37 (.slice (some ⟨g, 0, none⟩) m c) (some (.int .i64 (i : Int))) (some (.int .i64 (i2 : Int))) none).run Tryd.prog w = .ok (.slice (some ⟨g, i, none⟩) 64 (c - i)) w := by
  subst h2
  have h5 : Tryd.prog.elem 37 = 5 := by kernel_rfl
  rw [run_slice_lh (P := Tryd.prog) w 37 (some ⟨g, 0, none⟩) m c (by rw [h5]; exact Tryd.underlying37) .i64 .i64 (i : Int) ((i + 64 : Nat) : Int) (by omega) (by omega) (by omega)]
  have hs : (sizeOf 5).run Tryd.prog w = .ok 1 w := by kernel_rfl
  rw [h5, hs]
  simp only [Result.andThen, sliced, Int.toNat_natCast, Nat.mul_one]
  rw [if_neg (by omega), show i + 64 - i = 64 by omega]
  congr 3
  unfold Addr.add
  by_cases h0 : i = 0
  · subst h0; rfl
  · simp [h0]
/-- and the bytes of the answer -/
structure Lq (w : World) (gh go : Nat) (l : List Nat) (m : List UInt8) (w' : World) : Prop where
  below : Below w.heap.size w w'
  z : Bt w' w.heap.size 40 (List.replicate 32 0)
  h : Us w' gh 64 l
  m : Bt w' go 40 m
  nh : w.heap.size < gh
  no : gh < go
theorem Lo.out {w w' : World} {x : List UInt8} {ga gh gt : Nat} {l : List Nat} (H : Lo w x ga gh gt l w') : Hid (Lq w gh w'.heap.size l (List.replicate 32 0) (w'.alloc (.cells #[.int .u8 0, .int .u8 0, .int .u8 0, .int .u8 0, .int .u8 0, .int .u8 0, .int .u8 0, .int .u8 0, .int .u8 0, .int .u8 0, .int .u8 0, .int .u8 0, .int .u8 0, .int .u8 0, .int .u8 0, .int .u8 0, .int .u8 0, .int .u8 0, .int .u8 0, .int .u8 0, .int .u8 0, .int .u8 0, .int .u8 0, .int .u8 0, .int .u8 0, .int .u8 0, .int .u8 0, .int .u8 0, .int .u8 0, .int .u8 0, .int .u8 0, .int .u8 0] 40))) := by
  have h2 := H.on ((Below.refl w'.heap.size w').alloc (Nat.le_refl _) (.cells #[.int .u8 0, .int .u8 0, .int .u8 0, .int .u8 0, .int .u8 0, .int .u8 0, .int .u8 0, .int .u8 0, .int .u8 0, .int .u8 0, .int .u8 0, .int .u8 0, .int .u8 0, .int .u8 0, .int .u8 0, .int .u8 0, .int .u8 0, .int .u8 0, .int .u8 0, .int .u8 0, .int .u8 0, .int .u8 0, .int .u8 0, .int .u8 0, .int .u8 0, .int .u8 0, .int .u8 0, .int .u8 0, .int .u8 0, .int .u8 0, .int .u8 0, .int .u8 0] 40))
  exact hid ⟨h2.below, h2.z, h2.h, heap_alloc_new _ _, H.nh, H.h.lt⟩
theorem Lq.set {w w' : World} {gh go : Nat} {l : List Nat} {m : List UInt8} (H : Lq w gh go l m w') (k : Nat) (b : UInt8) : Lq w gh go l (m.set k b) (w'.setCell ⟨go, k, none⟩ (.int .u8 ((b.toNat : Nat) : Int))) := by
  have h1 := H.nh; have h2 := H.no
  exact ⟨H.below.setCell (by simp; omega) _, H.z.other _ (by omega), H.h.other _ (by omega), H.m.set k b, h1, h2⟩
end Go.Proofs.YtgmnpkgnedngjaaDoor
namespace Go.Proofs.YtgmnpkgnedngjaaDoor
open Go.RowKit
set_option linter.unusedVariables false
set_option linter.unusedSimpArgs false

set_option maxRecDepth 100000 in
set_option maxHeartbeats 4000000 in
theorem refof_any (A : Option Addr) (c : Nat) (bs : List UInt8) (n : Nat) (w : World) (hl : bs.length = n) (hr : Rd w A bs) (hc : n ≤ c) (hA : A = none → c = 0) (hn : n ≤ 70368744177664) :
  Calls Tryd.prog 30 #[.slice A n c] w fun e w' => e = .returned (.agg (bvs (sha bs)).toArray) ∧ Below w.heap.size w w' := by
 have HL := hid hl
 have HR := hid hr
 have HN := hid hn
 have HAc := hid hA
 clear hl hr hc hA hn
 have HB1 : Hid (Below w.heap.size w (w.alloc (.cells #[.int .u8 0, .int .u8 0, .int .u8 0, .int .u8 0, .int .u8 0, .int .u8 0, .int .u8 0, .int .u8 0, .int .u8 0, .int .u8 0, .int .u8 0, .int .u8 0, .int .u8 0, .int .u8 0, .int .u8 0, .int .u8 0, .int .u8 0, .int .u8 0, .int .u8 0, .int .u8 0, .int .u8 0, .int .u8 0, .int .u8 0, .int .u8 0, .int .u8 0, .int .u8 0, .int .u8 0, .int .u8 0, .int .u8 0, .int .u8 0, .int .u8 0, .int .u8 0] 40))) := hid ((Below.refl _ _).alloc (Nat.le_refl _) _)
 have HF0 : Hid (Fo w [] (.slice none 0 0) (w.alloc (.cells #[.int .u8 0, .int .u8 0, .int .u8 0, .int .u8 0, .int .u8 0, .int .u8 0, .int .u8 0, .int .u8 0, .int .u8 0, .int .u8 0, .int .u8 0, .int .u8 0, .int .u8 0, .int .u8 0, .int .u8 0, .int .u8 0, .int .u8 0, .int .u8 0, .int .u8 0, .int .u8 0, .int .u8 0, .int .u8 0, .int .u8 0, .int .u8 0, .int .u8 0, .int .u8 0, .int .u8 0, .int .u8 0, .int .u8 0, .int .u8 0, .int .u8 0, .int .u8 0] 40))) := hid ⟨HB1.out, heap_alloc_new w _, Ow.nil _ _⟩
 obtain ⟨A1, c1, n1, w2, R1, HF1, HN1⟩ := HF0.out.app (HR.out.below HB1.out (Nat.le_refl _)) HL.out HAc.out (by simp; have := HN.out; omega)
 obtain ⟨A2, c2, n2, w3, R2, HF2, HN2⟩ := HF1.out.push 128 128 rfl (by rw [List.nil_append, HL.out]; have := HN.out; omega)
 have HF3 := hid (p := Fo w (pad bs 0) (.slice A2 n2 c2) w3) (by have := HF2.out; simpa [pad] using this)
 have HN3 := hid (p := n2 = n + 1) (by rw [HN2.out, List.nil_append, HL.out])
 clear HF0 HF1 HF2 HN1 HN2
 go_enter Tryd.func30, Tryd.ntmps30
 go_wp2_with (first | (at_builtin; refine step_append rfl (.const (.slice none 0 0)) (.tmp 11) rfl rfl _ _ rfl rfl (.slice A1 n1 c1) w2 R1.out ?_) | (at_builtin; refine step_append rfl (.tmp 12) (.tmp 13) rfl rfl _ _ rfl rfl (.slice A2 n2 c2) w3 R2.out ?_))
 clear R1 R2 HB1
 have HNo := hid (show nought n < 64 from Nat.mod_lt _ (by decide))
 go_loopw [3] (fun s wr => ∃ (j m c' : Nat) (A' : Option Addr), j ≤ nought n ∧ s = .slice A' m c' ∧ Hid (m = n + 1 + j) ∧ Hid (Fo w (pad bs j) (.slice A' m c') wr)) (fun s _ => n + 65 - lenV s)
 case atStart => exact ⟨0, n2, c2, A2, Nat.zero_le _, rfl, HN3, HF3⟩
 case round =>
  clear HN3 HF3
  obtain ⟨j, m, c', A', hj, rfl, HM, HF⟩ := hrel
  have HJ := hid hj
  clear hj
  by_cases hlt : j < nought n
  ·have hmi : (m : Int) % 64 ≠ 56 := by have h1 := HM.out; have h2 := HJ.out; have h3 := hlt; unfold nought at h3; omega
   have hmt : (m : Int).tmod 64 ≠ 56 := by rw [Int.tmod_eq_emod_of_nonneg (by omega)]; exact hmi
   have hmb : (((m : Int) % 64) == 56) = false := by simpa using hmi
   have hmtb : (((m : Int).tmod 64) == 56) = false := by simpa using hmt
   have HLT := hid hlt
   clear hlt
   obtain ⟨A3, c3, n3, w4, R3, HF3, HN3⟩ := HF.out.push 0 0 rfl (by rw [pad_length, HL.out]; have h1 := HN.out; have h2 := HJ.out; have h3 := HNo.out; omega)
   have HF4 := hid (p := Fo w (pad bs (j + 1)) (.slice A3 n3 c3) w4) (by have := HF3.out; rwa [pad_step] at this)
   have HN4 := hid (p := n3 = n + 1 + (j + 1)) (by rw [HN3.out, pad_length, HL.out]; omega)
   clear HF3 HN3
   go_wp2_with (at_builtin; refine step_append rfl (.tmp 19) (.tmp 20) rfl rfl _ _ rfl rfl (.slice A3 n3 c3) w4 R3.out ?_)
   refine ⟨⟨j + 1, n3, c3, A3, HLT.out, rfl, HN4, HF4⟩, ?_⟩
   have h1 := HM.out; have h2 := HN4.out; have h3 := HLT.out; have h4 := HNo.out
   show n + 65 - n3 < n + 65 - m
   omega
  ·obtain rfl : j = nought n := by have := HJ.out; omega
   have hmi : (m : Int) % 64 = 56 := by have h1 := HM.out; unfold nought at h1; omega
   have hmt : (m : Int).tmod 64 = 56 := by rw [Int.tmod_eq_emod_of_nonneg (by omega)]; exact hmi
   obtain ⟨N, hNN⟩ : ∃ N, N = 8 * n := ⟨_, rfl⟩
   have hN8 : IntKind.u64.wrap (8 * IntKind.u64.wrap (n : Int)) = (N : Int) := by have := HN.out; rw [IntKind.wrap_u64, IntKind.wrap_u64]; omega
   have hN9 : IntKind.u64.wrap (8 * (n : Int)) = (N : Int) := by have := HN.out; rw [IntKind.wrap_u64]; omega
   have hn0 : IntKind.u64.wrap (n : Int) = (n : Int) := by have := HN.out; rw [IntKind.wrap_u64]; omega
   have HNN := hid hNN
   clear hNN hlt
   go_upto_region 6 with fail
   go_loopw [3, 5] (fun s i wr => ∃ (k m c' : Nat) (A' : Option Addr), k ≤ 8 ∧ i = .int .i64 k ∧ s = .slice A' m c' ∧ Hid (m = n + 1 + nought n + k) ∧ Hid (Fo w (pad bs (nought n) ++ (be N 8).take k) (.slice A' m c') wr)) (fun _ i _ => 8 - (intOf i).toNat)
   case atStart => exact ⟨0, m, c', A', by omega, rfl, rfl, HM, hid (by rw [List.take_zero, List.append_nil]; exact HF.out)⟩
   case round =>
    clear HF HM hmi hmt hN8 hN9 hn0
    obtain ⟨k, m, c', A', hk, rfl, rfl, HM, HF⟩ := hrel
    have HKl := hid (show (pad bs (nought n) ++ (be N 8).take k).length + 1 ≤ 140737488355328 by rw [List.length_append, pad_length, List.length_take, be_length, HL.out]; have h1 := HN.out; have h2 := HNo.out; omega)
    rcases (show k = 0 ∨ k = 1 ∨ k = 2 ∨ k = 3 ∨ k = 4 ∨ k = 5 ∨ k = 6 ∨ k = 7 ∨ k = 8 by omega) with rfl | rfl | rfl | rfl | rfl | rfl | rfl | rfl | rfl
    ·obtain ⟨A3, c3, n3, w4, R3, HF3, HN3⟩ := HF.out.push (UInt8.ofNat (N / 256 ^ (7 - 0))) ((N : Int) / 72057594037927936 % 256) (by rw [UInt8.toNat_ofNat']; omega) HKl.out
     have HF4 := hid (p := Fo w (pad bs (nought n) ++ (be N 8).take (0 + 1)) (.slice A3 n3 c3) w4) (by have := HF3.out; rw [List.append_assoc, ← be_take N 0 (by decide)] at this; exact this)
     have HN4 := hid (p := n3 = n + 1 + nought n + 1) (by rw [HN3.out, List.length_append, pad_length, List.length_take, be_length, HL.out]; omega)
     clear HF3 HN3
     go_wp2_with (at_builtin; refine step_append rfl (.tmp 30) (.tmp 37) rfl rfl _ _ rfl rfl (.slice A3 n3 c3) w4 R3.out ?_)
     exact ⟨⟨1, n3, c3, A3, by decide, by go_num, rfl, HN4, HF4⟩, by simp [intOf]⟩
    ·obtain ⟨A3, c3, n3, w4, R3, HF3, HN3⟩ := HF.out.push (UInt8.ofNat (N / 256 ^ (7 - 1))) ((N : Int) / 281474976710656 % 256) (by rw [UInt8.toNat_ofNat']; omega) HKl.out
     have HF4 := hid (p := Fo w (pad bs (nought n) ++ (be N 8).take (1 + 1)) (.slice A3 n3 c3) w4) (by have := HF3.out; rw [List.append_assoc, ← be_take N 1 (by decide)] at this; exact this)
     have HN4 := hid (p := n3 = n + 1 + nought n + 2) (by rw [HN3.out, List.length_append, pad_length, List.length_take, be_length, HL.out]; omega)
     clear HF3 HN3
     go_wp2_with (at_builtin; refine step_append rfl (.tmp 30) (.tmp 37) rfl rfl _ _ rfl rfl (.slice A3 n3 c3) w4 R3.out ?_)
     exact ⟨⟨2, n3, c3, A3, by decide, by go_num, rfl, HN4, HF4⟩, by simp [intOf]⟩
    ·obtain ⟨A3, c3, n3, w4, R3, HF3, HN3⟩ := HF.out.push (UInt8.ofNat (N / 256 ^ (7 - 2))) ((N : Int) / 1099511627776 % 256) (by rw [UInt8.toNat_ofNat']; omega) HKl.out
     have HF4 := hid (p := Fo w (pad bs (nought n) ++ (be N 8).take (2 + 1)) (.slice A3 n3 c3) w4) (by have := HF3.out; rw [List.append_assoc, ← be_take N 2 (by decide)] at this; exact this)
     have HN4 := hid (p := n3 = n + 1 + nought n + 3) (by rw [HN3.out, List.length_append, pad_length, List.length_take, be_length, HL.out]; omega)
     clear HF3 HN3
     go_wp2_with (at_builtin; refine step_append rfl (.tmp 30) (.tmp 37) rfl rfl _ _ rfl rfl (.slice A3 n3 c3) w4 R3.out ?_)
     exact ⟨⟨3, n3, c3, A3, by decide, by go_num, rfl, HN4, HF4⟩, by simp [intOf]⟩
    ·obtain ⟨A3, c3, n3, w4, R3, HF3, HN3⟩ := HF.out.push (UInt8.ofNat (N / 256 ^ (7 - 3))) ((N : Int) / 4294967296 % 256) (by rw [UInt8.toNat_ofNat']; omega) HKl.out
     have HF4 := hid (p := Fo w (pad bs (nought n) ++ (be N 8).take (3 + 1)) (.slice A3 n3 c3) w4) (by have := HF3.out; rw [List.append_assoc, ← be_take N 3 (by decide)] at this; exact this)
     have HN4 := hid (p := n3 = n + 1 + nought n + 4) (by rw [HN3.out, List.length_append, pad_length, List.length_take, be_length, HL.out]; omega)
     clear HF3 HN3
     go_wp2_with (at_builtin; refine step_append rfl (.tmp 30) (.tmp 37) rfl rfl _ _ rfl rfl (.slice A3 n3 c3) w4 R3.out ?_)
     exact ⟨⟨4, n3, c3, A3, by decide, by go_num, rfl, HN4, HF4⟩, by simp [intOf]⟩
    ·obtain ⟨A3, c3, n3, w4, R3, HF3, HN3⟩ := HF.out.push (UInt8.ofNat (N / 256 ^ (7 - 4))) ((N : Int) / 16777216 % 256) (by rw [UInt8.toNat_ofNat']; omega) HKl.out
     have HF4 := hid (p := Fo w (pad bs (nought n) ++ (be N 8).take (4 + 1)) (.slice A3 n3 c3) w4) (by have := HF3.out; rw [List.append_assoc, ← be_take N 4 (by decide)] at this; exact this)
     have HN4 := hid (p := n3 = n + 1 + nought n + 5) (by rw [HN3.out, List.length_append, pad_length, List.length_take, be_length, HL.out]; omega)
     clear HF3 HN3
     go_wp2_with (at_builtin; refine step_append rfl (.tmp 30) (.tmp 37) rfl rfl _ _ rfl rfl (.slice A3 n3 c3) w4 R3.out ?_)
     exact ⟨⟨5, n3, c3, A3, by decide, by go_num, rfl, HN4, HF4⟩, by simp [intOf]⟩
    ·obtain ⟨A3, c3, n3, w4, R3, HF3, HN3⟩ := HF.out.push (UInt8.ofNat (N / 256 ^ (7 - 5))) ((N : Int) / 65536 % 256) (by rw [UInt8.toNat_ofNat']; omega) HKl.out
     have HF4 := hid (p := Fo w (pad bs (nought n) ++ (be N 8).take (5 + 1)) (.slice A3 n3 c3) w4) (by have := HF3.out; rw [List.append_assoc, ← be_take N 5 (by decide)] at this; exact this)
     have HN4 := hid (p := n3 = n + 1 + nought n + 6) (by rw [HN3.out, List.length_append, pad_length, List.length_take, be_length, HL.out]; omega)
     clear HF3 HN3
     go_wp2_with (at_builtin; refine step_append rfl (.tmp 30) (.tmp 37) rfl rfl _ _ rfl rfl (.slice A3 n3 c3) w4 R3.out ?_)
     exact ⟨⟨6, n3, c3, A3, by decide, by go_num, rfl, HN4, HF4⟩, by simp [intOf]⟩
    ·obtain ⟨A3, c3, n3, w4, R3, HF3, HN3⟩ := HF.out.push (UInt8.ofNat (N / 256 ^ (7 - 6))) ((N : Int) / 256 % 256) (by rw [UInt8.toNat_ofNat']; omega) HKl.out
     have HF4 := hid (p := Fo w (pad bs (nought n) ++ (be N 8).take (6 + 1)) (.slice A3 n3 c3) w4) (by have := HF3.out; rw [List.append_assoc, ← be_take N 6 (by decide)] at this; exact this)
     have HN4 := hid (p := n3 = n + 1 + nought n + 7) (by rw [HN3.out, List.length_append, pad_length, List.length_take, be_length, HL.out]; omega)
     clear HF3 HN3
     go_wp2_with (at_builtin; refine step_append rfl (.tmp 30) (.tmp 37) rfl rfl _ _ rfl rfl (.slice A3 n3 c3) w4 R3.out ?_)
     exact ⟨⟨7, n3, c3, A3, by decide, by go_num, rfl, HN4, HF4⟩, by simp [intOf]⟩
    ·obtain ⟨A3, c3, n3, w4, R3, HF3, HN3⟩ := HF.out.push (UInt8.ofNat (N / 256 ^ (7 - 7))) ((N : Int) % 256) (by rw [UInt8.toNat_ofNat']; omega) HKl.out
     have HF4 := hid (p := Fo w (pad bs (nought n) ++ (be N 8).take (7 + 1)) (.slice A3 n3 c3) w4) (by have := HF3.out; rw [List.append_assoc, ← be_take N 7 (by decide)] at this; exact this)
     have HN4 := hid (p := n3 = n + 1 + nought n + 8) (by rw [HN3.out, List.length_append, pad_length, List.length_take, be_length, HL.out]; omega)
     clear HF3 HN3
     go_wp2_with (at_builtin; refine step_append rfl (.tmp 30) (.tmp 37) rfl rfl _ _ rfl rfl (.slice A3 n3 c3) w4 R3.out ?_)
     exact ⟨⟨8, n3, c3, A3, by decide, by go_num, rfl, HN4, HF4⟩, by simp [intOf]⟩
    ·have HFF := hid (p := Fo w (full bs) (.slice A' m c') wr) (by have := HF.out; rw [List.take_of_length_le (by rw [be_length]; decide), HNN.out, ← HL.out, pad_full] at this; exact this)
     have HML := hid (p := m = (full bs).length) (by rw [HM.out, full, List.length_append, tail_length, HL.out]; omega)
     clear HF HM HKl
     have HF9 := hid (HFF.out.alloc (.cells #[.int .u32 1779033703, .int .u32 3144134277, .int .u32 1013904242, .int .u32 2773480762, .int .u32 1359893119, .int .u32 2600822924, .int .u32 528734635, .int .u32 1541459225] 64))
     have HH9 : Hid (Us (wr.alloc (.cells #[.int .u32 1779033703, .int .u32 3144134277, .int .u32 1013904242, .int .u32 2773480762, .int .u32 1359893119, .int .u32 2600822924, .int .u32 528734635, .int .u32 1541459225] 64)) wr.heap.size 64 hh) := hid (heap_alloc_new _ _)
     have hsz9 := HFF.out.sz
     go_wp2_with fail
     generalize wr.alloc (.cells #[.int .u32 1779033703, .int .u32 3144134277, .int .u32 1013904242, .int .u32 2773480762, .int .u32 1359893119, .int .u32 2600822924, .int .u32 528734635, .int .u32 1541459225] 64) = w9 at *
     obtain ⟨ga, rfl, hmx, hmc, hga, hgb, hbytes⟩ := ow_at HF9.out.own (by rw [← HML.out, HML.out, full, List.length_append, tail_length]; omega)
     have hgal : ga < wr.heap.size := by
      rcases HFF.out.own.2 with ⟨h1, _⟩ | ⟨g', cap, cur, h1, _, hh', _⟩
      ·injection h1 with e1; cases e1
      ·injection h1 with e1; injection e1 with e1; injection e1 with e1; subst e1; exact lt_of_block hh'
     generalize hghe : wr.heap.size = gh at *
     have HMC := hid hmc
     have HLo0 := hid (p := ∀ gt W, Us W gt 63 kk → Below w9.heap.size w9 W → gt = w9.heap.size → Lo w (full bs) ga gh gt hh W) (fun gt W hk hb hgt => by
      have hlh := HH9.out.lt
      exact ⟨HF9.out.below.trans (hb.mono HF9.out.below.size), HF9.out.z.on hb, HH9.out.on hb, hk, fun j hj => (hb.cell (p := ⟨ga, 0 + j, none⟩) hga).trans (hbytes j hj), Nat.lt_of_lt_of_le hga hb.size, by omega, by omega, by omega⟩)
     clear hbytes hga hgb hsz9 hgal hghe hmx hmc
     refine (table_any w9).mono ?_
     rintro e w10 ⟨rfl, hk10, hb10⟩
     have HLo := hid (HLo0.out _ w10 hk10.out hb10 rfl)
     clear HLo0 HF9 HH9 HFF hk10 hb10
     generalize w9.heap.size = gt at *
     have HD := hid (full_whole bs)
     go_wp2_with fail
     go_loopw [8] (fun i wr => ∃ (q iv : Nat) (hq : List Nat), i = .int .i64 iv ∧ iv ≤ m ∧ Hid (iv = 64 * q) ∧ Hid (hq = eat hh (full bs) q) ∧ Hid (Lo w (full bs) ga gh gt hq wr)) (fun i _ => m - (intOf i).toNat)
     case atStart => exact ⟨0, 0, hh, rfl, Nat.zero_le _, hid rfl, hid rfl, HLo⟩
     case round =>
      clear HLo
      obtain ⟨q, iv, hq, rfl, him, HIV, HQE, HLo⟩ := hrel
      have HIM := hid him
      clear him
      by_cases hlt : iv < m
      ·have h64 : iv + 64 ≤ m := by have h1 := HML.out; have h2 := HD.out; have h3 := HIV.out; omega
       have hlti : (iv : Int) < (m : Int) := by omega
       obtain ⟨iv2, hiv2⟩ : ∃ iv2, iv2 = iv + 64 := ⟨_, rfl⟩
       have hsl := slice_blk ga m c' iv iv2 hiv2 h64 HMC.out
       have hw : IntKind.i64.wrap ((iv : Int) + 64) = (iv2 : Int) := by have h1 := HML.out; have h2 := HN.out; have h3 := HL.out; rw [IntKind.wrap_i64]; rw [full, List.length_append, tail_length] at h1; have h4 := HNo.out; rw [h3] at h1; omega
       have HQ8 := hid (show hq.length = 8 by rw [HQE.out]; exact so_length _ _)
       have HQS := hid (show Sm hq by rw [HQE.out]; exact so_sm _ _)
       have HB64 := hid (show ((full bs).drop iv |>.take 64).length = 64 by have h1 := HML.out; simp; omega)
       have HBB := hid (p := ∀ j, (hj : j < ((full bs).drop iv |>.take 64).length) → wr.drew.cell? ⟨ga, iv + j, none⟩ = some (.int .u8 ((((full bs).drop iv |>.take 64)[j].toNat : Nat) : Int))) (fun j hj => by
        have h1 := HML.out
        have hj2 : j < 64 := by rw [HB64.out] at hj; exact hj
        have h2 := HLo.out.b (iv + j) (by omega)
        rw [Nat.zero_add] at h2
        refine Eq.trans h2 ?_
        simp)
       have HI56 := hi56 hq HQ8.out
       rw [dv_size, ← dv_length] at HI56
       have hR : wr.drew.rangeAt gh 0 (dv hq) := HLo.out.h.range
       have H64 := hid h64
       have HI2 := hid hiv2
       clear hiv2 h64
       go_wp2_with fail
       refine wp_region_noPanic ?_
       refine Goes.region (fun (L : Array Bool) (wX : World) => (L.getD 8 true = false → wX.rangeAt gh 0 (dv hq))) (by as_aux_lemma => kernel_rfl) ?_
       refine Goes.take (i := 0) (o := ⟨some 47, _, _, _, _, _⟩) [8] rfl (by as_aux_lemma => kernel_rfl) (by as_aux_lemma => kernel_rfl) (by as_aux_lemma => kernel_rfl) (fun _ _ _ h => h) (by as_aux_lemma => kernel_rfl) (fun L u h e => h (by rw [getD_set_ne true (by decide)]; exact e)) (yieldsIf_load_mid (by rfl) 64 (.tmp 6) rfl gh 0 rfl (dv hq) _ (fun W hY => by obtain ⟨up, hU, hL⟩ := hY; exact hL (hU 8 (by simp))) Tryd.underlying64 rfl HI56.out) (fun _ => hR) ?_
       try simp only [putz]
       refine Goes.take (i := 1) (o := ⟨some 48, _, _, _, _, _⟩) (v := ?_) [] rfl (by as_aux_lemma => kernel_rfl) (by as_aux_lemma => kernel_rfl) (by as_aux_lemma => kernel_rfl) (fun _ _ _ h => h) (by as_aux_lemma => kernel_rfl) (fun L u h e => h (by rw [getD_set_ne true (by decide)]; exact e)) (Or.inl ⟨by rfl, ?_⟩) (fun _ => hR) ?_
       rotate_left
       ·intro w hY; go_simp; try with_reducible rfl
       try simp only [putz]
       refine Goes.take (i := 2) (o := ⟨some 49, _, _, _, _, _⟩) (v := ?_) [] rfl (by as_aux_lemma => kernel_rfl) (by as_aux_lemma => kernel_rfl) (by as_aux_lemma => kernel_rfl) (fun _ _ _ h => h) (by as_aux_lemma => kernel_rfl) (fun L u h e => h (by rw [getD_set_ne true (by decide)]; exact e)) (Or.inl ⟨by rfl, ?_⟩) (fun _ => hR) ?_
       rotate_left
       ·intro w hY; go_simp; try with_reducible rfl
       try simp only [putz]
       refine Goes.take (i := 3) (o := ⟨some 50, _, _, _, _, _⟩) (v := ?_) [] rfl (by as_aux_lemma => kernel_rfl) (by as_aux_lemma => kernel_rfl) (by as_aux_lemma => kernel_rfl) (fun _ _ _ h => h) (by as_aux_lemma => kernel_rfl) (fun L u h e => h (by rw [getD_set_ne true (by decide)]; exact e)) (Or.inl ⟨by rfl, ?_⟩) (fun _ => hR) ?_
       rotate_left
       ·intro w hY; go_simp; try with_reducible rfl
       try simp only [putz]
       refine Goes.take (i := 4) (o := ⟨some 51, _, _, _, _, _⟩) (v := ?_) [] rfl (by as_aux_lemma => kernel_rfl) (by as_aux_lemma => kernel_rfl) (by as_aux_lemma => kernel_rfl) (fun _ _ _ h => h) (by as_aux_lemma => kernel_rfl) (fun L u h e => h (by rw [getD_set_ne true (by decide)]; exact e)) (Or.inl ⟨by rfl, ?_⟩) (fun _ => hR) ?_
       rotate_left
       ·intro w hY; go_simp; try with_reducible rfl
       try simp only [putz]
       refine Goes.take (i := 5) (o := ⟨some 52, _, _, _, _, _⟩) (v := ?_) [] rfl (by as_aux_lemma => kernel_rfl) (by as_aux_lemma => kernel_rfl) (by as_aux_lemma => kernel_rfl) (fun _ _ _ h => h) (by as_aux_lemma => kernel_rfl) (fun L u h e => h (by rw [getD_set_ne true (by decide)]; exact e)) (Or.inl ⟨by rfl, ?_⟩) (fun _ => hR) ?_
       rotate_left
       ·intro w hY; go_simp; try with_reducible rfl
       try simp only [putz]
       refine Goes.take (i := 6) (o := ⟨some 53, _, _, _, _, _⟩) (v := ?_) [] rfl (by as_aux_lemma => kernel_rfl) (by as_aux_lemma => kernel_rfl) (by as_aux_lemma => kernel_rfl) (fun _ _ _ h => h) (by as_aux_lemma => kernel_rfl) (fun L u h e => h (by rw [getD_set_ne true (by decide)]; exact e)) (Or.inl ⟨by rfl, ?_⟩) (fun _ => hR) ?_
       rotate_left
       ·intro w hY; go_simp; try with_reducible rfl
       try simp only [putz]
       refine Goes.one (i := 7) (o := ⟨some 54, _, _, _, _, _⟩) (by as_aux_lemma => kernel_rfl) rfl (fun K hK => ?_)
       go_simp
       refine (block_any hq ((full bs).drop iv |>.take 64) ga iv gt (c' - iv) _ HQ8.out HQS.out HB64.out HBB.out HLo.out.la HLo.out.k).mono ?_
       rintro e' wb ⟨rfl, hb2⟩
       go_wp2_with fail
       have HL2 := hid (HLo.out.drew.on hb2)
       have hR2 : wb.rangeAt gh 0 (dv hq) := HL2.out.h.range
       refine hK.out _ _ (fun _ => hR2) ?_
       clear hK K hR hb2
       have hR := hR2
       clear hR2
       try simp only [putz]
       refine Goes.one (i := 8) (o := ⟨none, _, _, _, _, _⟩) (by as_aux_lemma => kernel_rfl) rfl (fun K hK => ?_)
       refine step_store_mid rfl 64 (.tmp 6) (.tmp 54) rfl gh 0 (dv (comp hq ((full bs).drop iv |>.take 64))).toArray rfl rfl (by rw [dv_size, comp_length _ _ HQ8.out]; exact HL2.out.h.there 8 (by rw [HQ8.out]; exact Nat.le_refl _)) (hi56 _ (comp_length _ _ HQ8.out)).out (dv_all _) ?_
       refine hK.out _ _ (fun e => absurd e (by as_aux_lemma => decide +kernel)) ?_
       clear hK K
       try simp only [putz]
       refine Goes.done (by as_aux_lemma => kernel_rfl) ?_ _
       refine NoPanic.normal ?_
       go_wp2
       have HLN := hid (HL2.out.cells (m := comp hq ((full bs).drop iv |>.take 64)) (HQ8.out.trans (comp_length _ _ HQ8.out).symm))
       refine ⟨⟨q + 1, iv2, comp hq ((full bs).drop iv |>.take 64), rfl, by rw [HI2.out]; exact H64.out, hid (by rw [HI2.out, HIV.out]; omega), hid (by rw [eat, ← HQE.out, ← HIV.out]), HLN⟩, ?_⟩
       have h1 := H64.out
       have h2 := HI2.out
       simp [intOf]
       omega
      ·obtain rfl : iv = m := by have := HIM.out; omega
       have HQF := hid (p := hq = eat hh (full bs) ((full bs).length / 64)) (by rw [HQE.out]; congr 1; have h1 := HML.out; have h2 := HIV.out; omega)
       have HQ8 := hid (show hq.length = 8 by rw [HQF.out]; exact so_length _ _)
       have HQo := HLo.out.out
       clear HLo HQE HIV hlt
       go_wp2_with fail
       generalize hw4 : wr.alloc (.cells #[.int .u8 0, .int .u8 0, .int .u8 0, .int .u8 0, .int .u8 0, .int .u8 0, .int .u8 0, .int .u8 0, .int .u8 0, .int .u8 0, .int .u8 0, .int .u8 0, .int .u8 0, .int .u8 0, .int .u8 0, .int .u8 0, .int .u8 0, .int .u8 0, .int .u8 0, .int .u8 0, .int .u8 0, .int .u8 0, .int .u8 0, .int .u8 0, .int .u8 0, .int .u8 0, .int .u8 0, .int .u8 0, .int .u8 0, .int .u8 0, .int .u8 0, .int .u8 0] 40) = w4 at *
       generalize hgo : wr.heap.size = go at *
       clear hw4 hgo
       go_loopw [10] (fun i wr => ∃ (k : Nat) (mm : List UInt8), k ≤ 32 ∧ i = .int .i64 k ∧ Hid (Lq w gh go hq mm wr) ∧ Hid (mm.length = 32) ∧ Hid (∀ j, j < k → mm[j]? = some (sb hq j))) (fun i _ => 32 - (intOf i).toNat)
       case atStart => exact ⟨0, List.replicate 32 0, by omega, rfl, HQo, hid rfl, hid (fun j hj => absurd hj (Nat.not_lt_zero _))⟩
       case round =>
        clear HQo
        obtain ⟨k, mm, hk, rfl, HQo, HM, HA⟩ := hrel
        by_cases hlt : k < 32
        ·obtain ⟨q4, hq4⟩ : ∃ q : Nat, q = k / 4 := ⟨_, rfl⟩
         have hqi : (k : Int) / 4 = (q4 : Int) := by omega
         have hq8 : q4 < 8 := by omega
         have HQ4 := hid hq4
         clear hq4
         have hcn := HQo.out.h.cell q4 (by have := HQ8.out; omega)
         have hcm := HQo.out.m.cell k (by have := HM.out; omega)
         have hfm := HQo.out.m.frozen k
         generalize (mm[k]'(by have := HM.out; omega)).toNat = old at hcm
         rcases (show k % 4 = 0 ∨ k % 4 = 1 ∨ k % 4 = 2 ∨ k % 4 = 3 by omega) with hr | hr | hr | hr
         ·have hri : (k : Int) % 4 = 0 := by omega
          have HV := hid (sb_val hq k 0 hr)
          rw [← HQ4.out] at HV
          have HR := hid hr
          clear hr
          go_wp2
          refine ⟨⟨k + 1, mm.set k (sb hq k), by omega, by go_num, ?_, hid (by rw [List.length_set]; exact HM.out), hid ?_⟩, by simp [intOf]; omega⟩
          ·have := HQo.out.set k (sb hq k)
           rw [HV.out] at this
           simpa using hid this
          ·intro j hj
           rw [List.getElem?_set]
           by_cases h : k = j
           ·subst h; rw [if_pos rfl, if_pos (by have := HM.out; omega)]
           ·rw [if_neg h]; exact HA.out j (by omega)
         ·have hri : (k : Int) % 4 = 1 := by omega
          have HV := hid (sb_val hq k 1 hr)
          rw [← HQ4.out] at HV
          have HR := hid hr
          clear hr
          go_wp2
          refine ⟨⟨k + 1, mm.set k (sb hq k), by omega, by go_num, ?_, hid (by rw [List.length_set]; exact HM.out), hid ?_⟩, by simp [intOf]; omega⟩
          ·have := HQo.out.set k (sb hq k)
           rw [HV.out] at this
           simpa using hid this
          ·intro j hj
           rw [List.getElem?_set]
           by_cases h : k = j
           ·subst h; rw [if_pos rfl, if_pos (by have := HM.out; omega)]
           ·rw [if_neg h]; exact HA.out j (by omega)
         ·have hri : (k : Int) % 4 = 2 := by omega
          have HV := hid (sb_val hq k 2 hr)
          rw [← HQ4.out] at HV
          have HR := hid hr
          clear hr
          go_wp2
          refine ⟨⟨k + 1, mm.set k (sb hq k), by omega, by go_num, ?_, hid (by rw [List.length_set]; exact HM.out), hid ?_⟩, by simp [intOf]; omega⟩
          ·have := HQo.out.set k (sb hq k)
           rw [HV.out] at this
           simpa using hid this
          ·intro j hj
           rw [List.getElem?_set]
           by_cases h : k = j
           ·subst h; rw [if_pos rfl, if_pos (by have := HM.out; omega)]
           ·rw [if_neg h]; exact HA.out j (by omega)
         ·have hri : (k : Int) % 4 = 3 := by omega
          have HV := hid (sb_val hq k 3 hr)
          rw [← HQ4.out] at HV
          have HR := hid hr
          clear hr
          go_wp2
          refine ⟨⟨k + 1, mm.set k (sb hq k), by omega, by go_num, ?_, hid (by rw [List.length_set]; exact HM.out), hid ?_⟩, by simp [intOf]; omega⟩
          ·have := HQo.out.set k (sb hq k)
           rw [HV.out] at this
           simpa using hid this
          ·intro j hj
           rw [List.getElem?_set]
           by_cases h : k = j
           ·subst h; rw [if_pos rfl, if_pos (by have := HM.out; omega)]
           ·rw [if_neg h]; exact HA.out j (by omega)
        ·obtain rfl : k = 32 := by omega
         have hme : mm = spell hq := by
          apply List.ext_getElem?
          intro j
          rcases Nat.lt_or_ge j 32 with h | h
          ·rw [HA.out j h, spell_at hq j (by have := HQ8.out; omega)]; rfl
          ·rw [List.getElem?_eq_none (by have := HM.out; omega), List.getElem?_eq_none (by rw [spell_length, HQ8.out]; exact h)]
         have hms : mm = sha bs := by rw [hme, HQF.out]; rfl
         have HT2 : Hid (Lq w gh go hq (sha bs) wr) := hid (hms ▸ HQo.out)
         have HCL := hid (sha_length bs)
         clear HQo HM HA hme hms
         generalize hr : sha bs = r at *
         have HRR := hid hr
         clear hr
         have HI := hi44 r HCL.out
         have HO8 : Hid ((bvs (List.replicate 32 0)).toArray.size = (bvs r).toArray.size) := hid (by rw [bvs_size, bvs_size, HCL.out, List.length_replicate])
         have HZ := hid (HT2.out.z.row (m := r))
         have HBW := hid (p := Below w.heap.size w (wr.setRow w.heap.size (bvs r).toArray)) (below_setRow HT2.out.below (Nat.le_refl _) _)
         go_upto_region 20 with fail
         have HDA := bvs_all r
         have HZL := HT2.out.m
         have HZZ := HT2.out.z
         unfold Bt at HZL HZZ
         have HZL := hid HZL
         have HZZ := hid HZZ
         go_wp2_with (first | (refine wpList_load_row rfl 40 (.tmp 9) rfl go rfl 40 (bvs r).toArray (0, 0) _ HZL.out Tryd.underlying40 rfl HI.out ?_) | (refine wpList_store_row rfl 40 (.tmp 2) (.tmp 71) rfl w.heap.size (bvs r).toArray rfl rfl 40 _ HZZ.out HI.out HO8.out HDA ?_))
         exact bodyPost_ret (v := .agg (bvs r).toArray) (results_cell_row (p := 2) (ty := 40) Tryd.results30 _ _ w.heap.size 40 (bvs r).toArray (0, 0) _ rfl HZ.out Tryd.underlying40 rfl HI.out) rfl ⟨by rw [HRR.out], HBW.out⟩
end Go.Proofs.YtgmnpkgnedngjaaDoor
