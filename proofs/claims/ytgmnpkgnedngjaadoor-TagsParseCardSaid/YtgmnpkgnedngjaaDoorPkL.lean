/-
  macs.Of, walked: the sum by a key. Conditions: the library's table holds what its text lays; a key of 2^46 bytes at most, a thousand parts at most, each of 2^20 bytes at most.
  burrowlaw08.lives, walked: it answers true. Condition: the library's table holds what its text lays.
  Words for keys out of what two share: numbers and bytes in boxes, parts in a list, a copy into the middle. Conditions: none.
  From numbers, sums and slices of bytes, as the reading gives them, to what the walks ask. Conditions: none.
-/
import Derived.Test.YtgmnpkgnedngjaaDoorPkK
import Derived.Test.YtgmnpkgnedngjaaDoorPkC
import Derived.Laws.EntriesVeiled
import Derived.Test.YtgmnpkgnedngjaaDoorPkH
import Derived.Test.YtgmnpkgnedngjaaDoorPkF
import Derived.Lib.SlBytesConst
import Derived.Test.YtgmnpkgnedngjaaDoorPkI
import Derived.Test.YtgmnpkgnedngjaaDoorKma
import Derived.Deep.MidRow
import Derived.Deep.DeepCutAuto
import Derived.Test.YtgmnpkgnedngjaaDoorOpen
import Derived.Test.YtgmnpkgnedngjaaDoorLaid
import Derived.SizedLaws
namespace Go.Proofs.YtgmnpkgnedngjaaDoor
open Go.RowKit
set_option linter.unusedVariables false
set_option linter.unusedSimpArgs false

theorem rws_one {w : World} {gb l c : Nat} {A : Option Addr} {x : List UInt8} (h : w.heap[gb]? = some (.cells #[.slice A l c] 37 (0, 0))) (hr : Rd w A x) (hl : x.length = l) (hc : l ≤ c) (hm : c ≤ 9223372036854775807) (hn : A = none → c = 0 := by simp) :
    Rws w (some ⟨gb, 0, none⟩) 1 (fun _ => A) (fun _ => l) (fun _ => c) (fun _ => x) := by
  intro r hr1
  obtain rfl : r = 0 := by omega
  exact ⟨⟨gb, 0, rfl, lt_of_block h, by rw [cell_of_row w gb _ _ 37 (0, 0) h]; rfl⟩, hl, hr, hc, hm, hn⟩
end Go.Proofs.YtgmnpkgnedngjaaDoor
namespace Go.Proofs.YtgmnpkgnedngjaaDoor
open Go.RowKit
set_option linter.unusedVariables false
set_option linter.unusedSimpArgs false

theorem jefe_in : sha (xr (kof [74, 101, 102, 101]) 54 ++ [119, 104, 97, 116, 32, 100, 111, 32, 121, 97, 32, 119, 97, 110, 116, 32, 102, 111, 114, 32, 110, 111, 116, 104, 105, 110, 103, 63]) = [162, 228, 133, 134, 61, 39, 249, 216, 100, 172, 141, 128, 36, 50, 161, 237, 71, 125, 140, 76, 111, 52, 157, 22, 212, 231, 233, 23, 198, 41, 202, 215] := by decide +kernel
theorem jefe_out : sha (xr (kof [74, 101, 102, 101]) 92 ++ [162, 228, 133, 134, 61, 39, 249, 216, 100, 172, 141, 128, 36, 50, 161, 237, 71, 125, 140, 76, 111, 52, 157, 22, 212, 231, 233, 23, 198, 41, 202, 215]) = [91, 220, 193, 70, 191, 96, 117, 78, 106, 4, 36, 38, 8, 149, 117, 199, 90, 0, 63, 8, 157, 39, 57, 131, 157, 236, 88, 185, 100, 236, 56, 67] := by decide +kernel
theorem jefe : hm [74, 101, 102, 101] [119, 104, 97, 116, 32, 100, 111, 32, 121, 97, 32, 119, 97, 110, 116, 32, 102, 111, 114, 32, 110, 111, 116, 104, 105, 110, 103, 63] = [91, 220, 193, 70, 191, 96, 117, 78, 106, 4, 36, 38, 8, 149, 117, 199, 90, 0, 63, 8, 157, 39, 57, 131, 157, 236, 88, 185, 100, 236, 56, 67] := by unfold hm; rw [jefe_in, jefe_out]
theorem hex_jefe : hexs [91, 220, 193, 70, 191, 96, 117, 78, 106, 4, 36, 38, 8, 149, 117, 199, 90, 0, 63, 8, 157, 39, 57, 131, 157, 236, 88, 185, 100, 236, 56, 67] 32 = { data := #[53, 98, 100, 99, 99, 49, 52, 54, 98, 102, 54, 48, 55, 53, 52, 101, 54, 97, 48, 52, 50, 52, 50, 54, 48, 56, 57, 53, 55, 53, 99, 55, 53, 97, 48, 48, 51, 102, 48, 56, 57, 100, 50, 55, 51, 57, 56, 51, 57, 100, 101, 99, 53, 56, 98, 57, 54, 52, 101, 99, 51, 56, 52, 51] } := by kernel_rfl
theorem below_dN {B : Nat} {w w' : World} (h : Below B w w') (k : Nat) : Below B w (w'.drewN k) := by
  induction k with
  | zero => exact h
  | succ k ih => exact ih.drew
theorem conv_c (w : World) (C : Array Value) (n s : Nat) (h : w.heap.size = s) (hn : C.size = n) : (convert 37 37 (.slice (some ⟨s, 0, none⟩) n n)).run Tryd.prog (w.alloc (.cells C 5)) = .ok (.slice (some ⟨s, 0, none⟩) n n) (w.alloc (.cells C 5 (n, n + 1))) := by
  subst h; subst hn
  exact Lib.run_convert_bytes_const (P := Tryd.prog) w 37 5 C C.size C.size Tryd.underlying37 Tryd.underlying5
end Go.Proofs.YtgmnpkgnedngjaaDoor
namespace Go.Proofs.YtgmnpkgnedngjaaDoor
open Go.RowKit
set_option linter.unusedVariables false
set_option linter.unusedSimpArgs false

/-- a number's bytes; its block -/
def nb (n0 n1 n2 n3 : Nat) : List UInt8 := be (wnum [n0, n1, n2, n3]) 32
theorem nb_length (n0 n1 n2 n3 : Nat) : (nb n0 n1 n2 n3).length = 32 := be_length _ _
def Nb (w : World) (g n0 n1 n2 n3 : Nat) : Prop := w.heap[g]? = some (.cells #[.int .u64 (n0 : Int), .int .u64 (n1 : Int), .int .u64 (n2 : Int), .int .u64 (n3 : Int)] 24 (0, 0))
theorem Nb.lt {w : World} {g n0 n1 n2 n3 : Nat} (h : Nb w g n0 n1 n2 n3) : g < w.heap.size := lt_of_block h
theorem Nb.on {w w' : World} {g n0 n1 n2 n3 : Nat} (h : Nb w g n0 n1 n2 n3) (hb : Below w.heap.size w w') : Nb w' g n0 n1 n2 n3 := (hb.block g h.lt).trans h
theorem on_nb {w : World} {g n0 n1 n2 n3 : Nat} (h : Nb w g n0 n1 n2 n3) : On w fun u => Nb u g n0 n1 n2 n3 := fun u hu => h.on hu
theorem ld_num {w : World} {g n0 n1 n2 n3 : Nat} (h : Nb w g n0 n1 n2 n3) : (Instr.loadAt 24 (.pointer (some ⟨g, 0, none⟩))).run Tryd.prog w = .ok (.agg #[.int .u64 (n0 : Int), .int .u64 (n1 : Int), .int .u64 (n2 : Int), .int .u64 (n3 : Int)]) w := by
  refine run_loadAt_mid w g 0 24 [.int .u64 (n0 : Int), .int .u64 (n1 : Int), .int .u64 (n2 : Int), .int .u64 (n3 : Int)] _ (fun j v hv => ?_) Tryd.underlying24 rfl (by kernel_rfl)
  unfold Nb at h
  rw [cell_of_row w g (0 + j) _ 24 (0, 0) h, Nat.zero_add]
  simpa using hv
theorem bt_range {w : World} {g : Nat} {t : TypeId} {l : List UInt8} (h : Bt w g t l) (o n : Nat) (hn : o + n ≤ l.length) : w.rangeAt g o (bvs ((l.drop o).take n)) := by
  intro j v hv
  have hj : j < ((l.drop o).take n).length := by
    rcases Nat.lt_or_ge j ((l.drop o).take n).length with h | h
    · exact h
    · rw [List.getElem?_eq_none (by rw [bvs_length]; exact h)] at hv; cases hv
  have hj2 : j < n := by simp at hj; omega
  rw [h.cell (o + j) (by omega)]
  simp [bvs, hj2, show o + j < l.length by omega] at hv ⊢
  exact hv
/-- bytes in a block, loaded -/
theorem ld_all {w : World} {g : Nat} {t : TypeId} {l : List UInt8} (h : Bt w g t l) (ty : TypeId) (d : TypeDesc) (hu : Tryd.prog.underlying ty = some d) (hd : d.isRow = true) (n : Nat) (hn : l.length = n) (hi : (Tryd.prog.info? ty).map (·.size) = some n) :
    (Instr.loadAt ty (.pointer (some ⟨g, 0, none⟩))).run Tryd.prog w = .ok (.agg (bvs l).toArray) w := by
  have := run_loadAt_mid w g 0 ty _ d (bt_range h 0 n (by omega)) hu hd (by rw [hi, bvs_length]; simp; omega)
  rwa [List.drop_zero, List.take_of_length_le (by omega)] at this
theorem ld_sum {w : World} {g : Nat} {l : List UInt8} (h : Bt w g 40 l) (hl : l.length = 32) : (Instr.loadAt 40 (.pointer (some ⟨g, 0, none⟩))).run Tryd.prog w = .ok (.agg (bvs l).toArray) w :=
  ld_all h 40 _ Tryd.underlying40 rfl 32 hl (by kernel_rfl)
/-- this list begins with the operation that fills slot d -/
theorem isD {P : Program} {ops : Array Oper} {Q : Exit → Act → World → Prop} {l : List Oper} {o : Oper} {a : Act} {w : World} (d : Nat) (hd : o.dst = some d) (h : wpList P ops Q (o :: l) a w) : wpList P ops Q (o :: l) a w := h
theorem isS {P : Program} {ops : Array Oper} {Q : Exit → Act → World → Prop} {l : List Oper} {o : Oper} {a : Act} {w : World} (ty : TypeId) (x y : Operand) (ho : o.op = .store ty x y) (h : wpList P ops Q (o :: l) a w) : wpList P ops Q (o :: l) a w := h
theorem wp_ld {ops : Array Oper} {rest : List Oper} {o : Oper} {a : Act} {w : World} {Q : Exit → Act → World → Prop} (hw : Region.wanted o (yielded ops a.tmps) = true) (ty : TypeId) (x : Operand) (ho : o.op = .load ty x) (p : Value) (hx : a.eval x = p) (v : Value) (hl : (Instr.loadAt ty p).run Tryd.prog w = .ok v w)
    (h : wpList Tryd.prog ops Q rest (a.put o.dst v) w) : wpList Tryd.prog ops Q (o :: rest) a w := by
  refine Go.BigFrame.wpList_want hw fun K hK => ?_
  unfold Oper.wp execOp
  simp only [ho, hx, Sem.run_bind, Result.andThen_ok, hl]
  exact hK _ _ h
theorem wp_st {ops : Array Oper} {rest : List Oper} {o : Oper} {a : Act} {w w' : World} {Q : Exit → Act → World → Prop} (hw : Region.wanted o (yielded ops a.tmps) = true) (ty : TypeId) (x y : Operand) (ho : o.op = .store ty x y) (p v : Value) (hx : a.eval x = p) (hy : a.eval y = v) (hl : (Instr.storeAt ty p v).run Tryd.prog w = .ok () w')
    (h : wpList Tryd.prog ops Q rest (a.put o.dst undef) w') : wpList Tryd.prog ops Q (o :: rest) a w := by
  refine Go.BigFrame.wpList_want hw fun K hK => ?_
  unfold Oper.wp execOp
  simp only [ho, hx, hy, Sem.run_bind, Result.andThen_ok, hl]
  exact hK _ _ h
theorem y_ld {o : Oper} {a : Act} {u : World} (ty : TypeId) (x : Operand) (ho : o.op = .load ty x) (p v : Value) (hx : a.eval x = p) (hl : (Instr.loadAt ty p).run Tryd.prog u = .ok v u) : (execOp a.eval o).run Tryd.prog u = .ok (.value v) u := by
  unfold execOp
  simp only [ho, hx, Sem.run_bind, Sem.run_pure, Result.andThen_ok, hl]
theorem yet_of {u : World} {P : World → Prop} {W : List Nat} (h : Yet (fun (_ : Array Bool) (u : World) => P u) W u) : P u := by
  obtain ⟨_, _, h⟩ := h; exact h
/-- the greater one of two numbers -/
theorem step_max {ops : Array Oper} {rest : List Oper} {o : Oper} {a : Act} {w : World} {Q : Exit → Act → World → Prop} (hgd : o.guard = none) (x y : Operand)
    (ho : o.op = .call { callee := .builtin .max, args := #[x, y], argTypes := #[3, 3] }) (vx vy : Int) (hx : a.eval x = .int .i64 vx) (hy : a.eval y = .int .i64 vy) (m : Int) (hm : m = if vy > vx then vy else vx)
    (h : wpList Tryd.prog ops Q rest (a.put o.dst (.int .i64 m)) w) : wpList Tryd.prog ops Q (o :: rest) a w := by
  refine wpList_plain hgd fun K hK => ?_
  unfold Oper.wp
  have hr := run_max_int2 (P := Tryd.prog) (w := w) #[3, 3] o.type .i64 .i64 vx vy
  rw [← hm] at hr
  simp [execOp, ho, resolve, invoke, builtin, hx, hy, hr, Result.andThen]
  exact hK _ _ h
theorem slice_lhm (A : Option Addr) (n c f t m : Nat) (h1 : f ≤ t) (h2 : t ≤ m) (h3 : m ≤ c) (w : World) : (Instr.slice 37 (.slice A n c) (some (.int .i64 (f : Int))) (some (.int .i64 (t : Int))) (some (.int .i64 (m : Int)))).run Tryd.prog w = .ok (.slice (past A f m) (t - f) (m - f)) w := by
  have h5 : Tryd.prog.elem 37 = 5 := by kernel_rfl
  rw [run_slice_lhm (P := Tryd.prog) w 37 A n c (by rw [h5]; exact Tryd.underlying37) .i64 .i64 .i64 (f : Int) (t : Int) (m : Int) (by omega) (by omega) (by omega) (by omega)]
  have hs : (sizeOf 5).run Tryd.prog w = .ok 1 w := by kernel_rfl
  rw [h5, hs]
  simp only [Result.andThen, sliced, Int.toNat_natCast, past, Nat.mul_one]
theorem slice_cut1 (A : Option Addr) (n c f t : Nat) (h1 : f ≤ t) (h2 : t ≤ n) (hc : n ≤ c) (w : World) : (Instr.slice 37 (.slice A n c) (some (.int .i64 (f : Int))) (some (.int .i64 (t : Int))) none).run Tryd.prog w = .ok (.slice (past A f c) (t - f) (c - f)) w := by
  have h5 : Tryd.prog.elem 37 = 5 := by kernel_rfl
  rw [run_slice_lh (P := Tryd.prog) w 37 A n c (by rw [h5]; exact Tryd.underlying37) .i64 .i64 (f : Int) (t : Int) (by omega) (by omega) (by omega)]
  have hs : (sizeOf 5).run Tryd.prog w = .ok 1 w := by kernel_rfl
  rw [h5, hs]
  simp only [Result.andThen, sliced, Int.toNat_natCast, past, Nat.mul_one]
theorem slice_from (A : Option Addr) (n c f : Nat) (h1 : f ≤ n) (w : World) : (Instr.slice 37 (.slice A n c) (some (.int .i64 (f : Int))) none none).run Tryd.prog w = .ok (.slice (past A f c) (n - f) (c - f)) w := by
  have h5 : Tryd.prog.elem 37 = 5 := by kernel_rfl
  rw [run_slice_l (P := Tryd.prog) w 37 A n c (by rw [h5]; exact Tryd.underlying37) .i64 (f : Int) (by omega) (by omega)]
  have hs : (sizeOf 5).run Tryd.prog w = .ok 1 w := by kernel_rfl
  rw [h5, hs]
  simp only [Result.andThen, sliced, Int.toNat_natCast, past, Nat.mul_one]
theorem past_in (g f c : Nat) (h : f < c) : past (some ⟨g, 0, none⟩) f c = some ⟨g, f, none⟩ := by
  unfold past
  rw [if_neg (by omega)]
  simp only [Option.map, add_plain, Nat.zero_add]
theorem past_some (g f c : Nat) : past (some ⟨g, 0, none⟩) f c ≠ none := by
  unfold past
  split <;> simp
/-- a copy into the middle of a block -/
theorem run_copy_at (w : World) (g t : Nat) (dst bs : List UInt8) (A : Option Addr) (off d dc n c k : Nat) (hg : Bt w g t dst) (hr : Rd w A bs) (hn : bs.length = n) (hk : k = min n d) (h0 : 0 < k) (hl : off + k ≤ dst.length) :
    ∃ w', (Builtin.copy_ #[37, 37] 3 #[.slice (some ⟨g, off, none⟩) d dc, .slice A n c]).run Tryd.prog w = .ok (goInt k) w' ∧ Bt w' g t (dst.take off ++ bs.take k ++ dst.drop (off + k)) ∧ w.grownBy w' (some g) := by
  have hs : (Tryd.prog.info? 5).map (·.size) = some 1 := u8_size
  have hkl : (bs.take k).length = k := by rw [List.length_take, hn]; omega
  obtain ⟨ad, rfl, hc⟩ := (hr.take k).cells (by omega)
  have hrun := run_copy_row (P := Tryd.prog) w 37 37 3 5 g off d dc ad n c (bvs dst).toArray t (bvs (bs.take k)) Tryd.underlying37 hs hg (by rw [bvs_length, hkl, hk]) hc (by rw [bvs_length, bvs_size, hkl]; omega) (bvs_one _)
  rw [bvs_length, hkl] at hrun
  refine ⟨_, hrun, ?_, ?_⟩
  · have e : ((bvs dst).toArray.toList.take off ++ bvs (bs.take k) ++ (bvs dst).toArray.toList.drop (off + k)) = bvs (dst.take off ++ bs.take k ++ dst.drop (off + k)) := by rw [bvs_append, bvs_append, bvs_drop, bvs_take dst]
    rw [e]
    exact Bt.row hg
  · exact ⟨rfl, rfl, rfl, by simp [World.setRow], fun j hj hne => setRow_other w g j _ (fun e => hne (by rw [e]))⟩
/-- block g holds these cells, marked or not -/
def Blk (w : World) (g : Nat) (cs : Array Value) (t : TypeId) : Prop := ∃ fz, w.heap[g]? = some (.cells cs t fz)
theorem Blk.lt {w : World} {g : Nat} {cs : Array Value} {t : TypeId} (h : Blk w g cs t) : g < w.heap.size := by
  obtain ⟨fz, h⟩ := h
  exact lt_of_block h
theorem Blk.on {w w' : World} {g : Nat} {cs : Array Value} {t : TypeId} (h : Blk w g cs t) (hb : Below w.heap.size w w') : Blk w' g cs t := by
  obtain ⟨fz, h⟩ := h
  exact ⟨fz, (hb.block g (lt_of_block h)).trans h⟩
theorem Blk.new (w : World) (cs : Array Value) (t : TypeId) : Blk (w.alloc (.cells cs t)) w.heap.size cs t := ⟨_, heap_alloc_new w _⟩
theorem Blk.cell {w : World} {g j : Nat} {cs : Array Value} {t : TypeId} (h : Blk w g cs t) : w.cell? ⟨g, j, none⟩ = cs[j]? := by
  obtain ⟨fz, h⟩ := h
  exact cell_of_row w g j cs t fz h
theorem rd_blk {w : World} {g : Nat} (bs : List UInt8) {cs : Array Value} (h : Blk w g cs 5) (e : (bvs bs).toArray = cs) : Rd w (some ⟨g, 0, none⟩) bs := by
  subst e
  intro hp
  refine ⟨g, 0, rfl, h.lt, fun j hj => ?_⟩
  rw [Nat.zero_add, h.cell]
  simp [bvs, hj]
set_option maxRecDepth 100000 in
/-- '[]byte(..)' of a constant text: the row is marked, nothing else -/
theorem conv_mark {w0 w : World} (g n : Nat) (cs : Array Value) (hn : cs.size = n) (h0 : w0.heap.size ≤ g) (h : Blk w g cs 5) (hb : Below w0.heap.size w0 w) :
    ∃ w', Hid ((convert 37 37 (.slice (some ⟨g, 0, none⟩) n n)).run Tryd.prog w = .ok (.slice (some ⟨g, 0, none⟩) n n) w') ∧ Hid (Below w0.heap.size w0 w') ∧ Hid (Blk w' g cs 5) ∧ Hid (w.grownBy w' (some g)) := by
  obtain ⟨fz, hh⟩ := h
  have hsh : w.shape? g = some (5, cs.size) := by unfold World.shape?; rw [hh]
  have hot : ∀ k, k ≠ g → (w.freeze ⟨g, cs.size, none⟩ 1).heap[k]? = w.heap[k]? := fun k hk => by
    unfold World.freeze
    rw [if_neg (by decide)]
    show (w.heap.modify g _)[k]? = _
    rw [Array.getElem?_modify, if_neg (by omega)]
  have hsz : (w.freeze ⟨g, cs.size, none⟩ 1).heap.size = w.heap.size := by
    unfold World.freeze
    rw [if_neg (by decide)]
    simp
  have hos : (w.freeze ⟨g, cs.size, none⟩ 1).os = w.os ∧ (w.freeze ⟨g, cs.size, none⟩ 1).tape = w.tape ∧ (w.freeze ⟨g, cs.size, none⟩ 1).output = w.output := by
    unfold World.freeze
    rw [if_neg (by decide)]
    exact ⟨rfl, rfl, rfl⟩
  refine ⟨w.freeze ⟨g, cs.size, none⟩ 1, hid ?_, hid ?_, hid ?_, hid ?_⟩
  · simp [convert, run_underlying Tryd.underlying37, run_underlying Tryd.underlying5, markStringish, hsh, Addr.add]
  · exact ⟨hos.1.trans hb.os, hos.2.1.trans hb.tape, hos.2.2.trans hb.output, by rw [hsz]; exact hb.size, fun k hk => (hot k (by omega)).trans (hb.block k hk)⟩
  · unfold World.freeze
    rw [if_neg (by decide)]
    show ∃ f2, (w.heap.modify g _)[g]? = _
    rw [Array.getElem?_modify, if_pos rfl, hh]
    exact ⟨_, rfl⟩
  · exact ⟨hos.1, hos.2.1, hos.2.2, by rw [hsz]; exact Nat.le_refl _, fun k _ hne => hot k (fun e => hne (by rw [e]))⟩
theorem Blk.grown {w w' : World} {g b : Nat} {cs : Array Value} {t : TypeId} (h : Blk w b cs t) (hg : w.grownBy w' (some g)) (hne : b ≠ g) : Blk w' b cs t := by
  obtain ⟨fz, h⟩ := h
  exact ⟨fz, (hg.block b (lt_of_block h) (by intro e; injection e with e; exact hne e)).trans h⟩
theorem wp_convert {o : Oper} {a : Act} {w : World} {K : Act → World → Prop} {Q : Exit → Act → World → Prop} (x : Operand) (ho : o.op = .convert 37 37 x) (v : Value) (hx : a.eval x = v) (v' : Value) (w' : World)
    (hrun : (convert 37 37 v).run Tryd.prog w = .ok v' w') (h : K (a.put o.dst v') w') : o.wp Tryd.prog a w K Q := by
  unfold Oper.wp
  simp [execOp, ho, hx, hrun, Result.andThen]
  exact h
theorem cat3 (x0 x1 x2 : List UInt8) : cat (fun r => if r = 0 then x0 else if r = 1 then x1 else x2) 3 = x0 ++ x1 ++ x2 := by simp [cat]
theorem cat1 (x : List UInt8) : cat (fun _ => x) 1 = x := by simp [cat]
theorem lane_cells : (bvs lane).toArray = #[.int .u8 108, .int .u8 97, .int .u8 110, .int .u8 101] := rfl
theorem one_cells (x : UInt8) : (bvs [x]).toArray = #[.int .u8 ((x.toNat : Nat) : Int)] := rfl
end Go.Proofs.YtgmnpkgnedngjaaDoor
namespace Go.Proofs.YtgmnpkgnedngjaaDoor
open Go.RowKit Go.ChangeShapes Go.WideShapes Go.ChangeAt
set_option linter.unusedVariables false
set_option linter.unusedSimpArgs false
set_option maxRecDepth 100000

theorem cells_num4 : Tryd.prog.cellsOf 24 = 4 := by kernel_rfl
theorem cells_u64' : Tryd.prog.cellsOf 22 = 1 := by kernel_rfl
theorem cells_sum32 : Tryd.prog.cellsOf 40 = 32 := by kernel_rfl
theorem cells_u8' : Tryd.prog.cellsOf 5 = 1 := by kernel_rfl
theorem cells_sl' : Tryd.prog.cellsOf 37 = 1 := by kernel_rfl
theorem okWide_arr' {P : Program} {W : World} {r : Reach} {b0 : Nat} {t e : TypeId} {n : Nat} {v : Value} (ht : P.underlying t = some (.array n e)) (h : Value.okWide P W r b0 t v) : ∃ cs : Array Value, v = .agg cs ∧ cs.size = P.cellsOf t := by
  simp only [Value.okWide, ht] at h
  obtain ⟨cs, h1, h2, _⟩ := h
  exact ⟨cs, h1, h2⟩
theorem bytes_of' : ∀ (l : List Value), (∀ i, i < l.length → ∃ b : UInt8, l[i]? = some (.int .u8 ((b.toNat : Nat) : Int))) → ∃ bs : List UInt8, l = bvs bs
  | [], _ => ⟨[], rfl⟩
  | c :: l, h => by
    obtain ⟨b, hb⟩ := h 0 (by simp)
    obtain ⟨bs, hbs⟩ := bytes_of' l (fun i hi => by have := h (i + 1) (by simpa using hi); simpa using this)
    refine ⟨b :: bs, ?_⟩
    simp at hb
    simp [bvs, hb]
    simpa [bvs] using hbs
theorem part_at' {l cs : List Value} {o n : Nat} (h : (l.drop o).take n = cs) : ∀ j v, cs[j]? = some v → l[o + j]? = some v := by
  intro j v hj
  rw [← h, List.getElem?_take] at hj
  split at hj
  · rw [List.getElem?_drop] at hj; exact hj
  · cases hj
section
variable {H : Type} {enc : TypeId × Value → H} {W : World} {base : Nat} {spare : Nat → Bool} {held : Bool} {r : Reach} {b0 : Nat} {v : Value} {d : DataW H} {p : List MemPlace}
theorem word_at' {m : Nat} {cs : List Value} {y : DataW H × List MemPlace} (h : DataW.trod enc Tryd.prog W base spare held m 22 cs = some y) : ∃ n : Nat, cs = [.int .u64 (n : Int)] ∧ n < 18446744073709551616 := by
  obtain ⟨z, rfl, _, hw⟩ := DataW.trod_int Tryd.underlying22 h
  have hb : 0 ≤ z ∧ z ≤ 18446744073709551615 := by simpa [Lit.wf, IntKind.min, IntKind.max, IntKind.signed, IntKind.bits] using hw
  obtain ⟨n, rfl⟩ := Int.eq_ofNat_of_zero_le hb.1
  exact ⟨n, rfl, by omega⟩
theorem u8_at' {m : Nat} {cs : List Value} {y : DataW H × List MemPlace} (h : DataW.trod enc Tryd.prog W base spare held m 5 cs = some y) : ∃ n : Nat, cs = [.int .u8 (n : Int)] ∧ n < 256 := by
  obtain ⟨z, rfl, _, hw⟩ := DataW.trod_int Tryd.underlying5 h
  have hb : 0 ≤ z ∧ z ≤ 255 := by simpa [Lit.wf, IntKind.min, IntKind.max, IntKind.signed, IntKind.bits] using hw
  obtain ⟨n, rfl⟩ := Int.eq_ofNat_of_zero_le hb.1
  exact ⟨n, rfl, by omega⟩
theorem int_at' {m : Nat} {cs : List Value} {y : DataW H × List MemPlace} (h : DataW.trod enc Tryd.prog W base spare held m 3 cs = some y) : ∃ z : Int, cs = [.int .i64 z] ∧ -9223372036854775808 ≤ z ∧ z ≤ 9223372036854775807 := by
  obtain ⟨z, rfl, _, hw⟩ := DataW.trod_int Tryd.underlying3 h
  have hb : -9223372036854775808 ≤ z ∧ z ≤ 9223372036854775807 := by simpa [Lit.wf, IntKind.min, IntKind.max, IntKind.signed, IntKind.bits] using hw
  exact ⟨z, rfl, hb.1, hb.2⟩
theorem num_list' {m : Nat} {l : List Value} {y : DataW H × List MemPlace} (h : DataW.trod enc Tryd.prog W base spare held m 24 l = some y) :
    ∃ n0 n1 n2 n3 : Nat, l = [.int .u64 (n0 : Int), .int .u64 (n1 : Int), .int .u64 (n2 : Int), .int .u64 (n3 : Int)] ∧ n0 < 18446744073709551616 ∧ n1 < 18446744073709551616 ∧ n2 < 18446744073709551616 ∧ n3 < 18446744073709551616 := by
  obtain ⟨xs, m', _, _, hlen, hl, hx⟩ := DataW.trod_array Tryd.underlying24 h
  rw [cells_num4] at hlen
  obtain ⟨c0, c1, c2, c3, rfl⟩ : ∃ c0 c1 c2 c3, l = [c0, c1, c2, c3] := by
    match l, hlen with
    | [c0, c1, c2, c3], _ => exact ⟨c0, c1, c2, c3, rfl⟩
  rw [cells_u64'] at hx
  have g0 := hx 0 (by omega)
  have g1 := hx 1 (by omega)
  have g2 := hx 2 (by omega)
  have g3 := hx 3 (by omega)
  rw [List.getElem?_eq_getElem (by omega)] at g0 g1 g2 g3
  obtain ⟨n0, e0, h0⟩ := word_at' g0
  obtain ⟨n1, e1, h1⟩ := word_at' g1
  obtain ⟨n2, e2, h2⟩ := word_at' g2
  obtain ⟨n3, e3, h3⟩ := word_at' g3
  simp at e0 e1 e2 e3
  subst e0; subst e1; subst e2; subst e3
  exact ⟨n0, n1, n2, n3, rfl, h0, h1, h2, h3⟩
theorem open_num4 (hv : Value.okWide Tryd.prog W r b0 24 v) (h : DataW.Trod enc Tryd.prog W base spare held 24 v d p) :
    ∃ n0 n1 n2 n3 : Nat, v = .agg #[.int .u64 (n0 : Int), .int .u64 (n1 : Int), .int .u64 (n2 : Int), .int .u64 (n3 : Int)] ∧ n0 < 18446744073709551616 ∧ n1 < 18446744073709551616 ∧ n2 < 18446744073709551616 ∧ n3 < 18446744073709551616 := by
  obtain ⟨cs, rfl, hs⟩ := okWide_arr' Tryd.underlying24 hv
  obtain ⟨fuel, hf⟩ := h
  obtain ⟨n0, n1, n2, n3, e, hh⟩ := num_list' (l := cs.toList) (by simpa [Value.cells] using hf)
  exact ⟨n0, n1, n2, n3, by rw [show cs = cs.toList.toArray from by simp, e], hh⟩
set_option maxRecDepth 100000 in
theorem sum_list' {m : Nat} {l : List Value} {y : DataW H × List MemPlace} (h : DataW.trod enc Tryd.prog W base spare held m 40 l = some y) : ∃ bs : List UInt8, l = bvs bs ∧ bs.length = 32 := by
  obtain ⟨xs, m', _, _, hlen, hl, hx⟩ := DataW.trod_array Tryd.underlying40 h
  rw [cells_sum32] at hlen
  rw [cells_u8'] at hx
  obtain ⟨bs, rfl⟩ := bytes_of' l (fun i hi => by
    have g := hx i (by omega)
    rw [List.getElem?_eq_getElem (by omega)] at g
    obtain ⟨n, e, hn⟩ := u8_at' g
    refine ⟨UInt8.ofNat n, ?_⟩
    have e2 := congrArg (fun x : List Value => x[0]?) e
    have e3 : l[i]? = some (.int .u8 (n : Int)) := by simpa using e2
    rw [e3, UInt8.toNat_ofNat', Nat.mod_eq_of_lt (by omega)])
  exact ⟨bs, rfl, by rw [← bvs_length]; exact hlen⟩
theorem open_sum (hv : Value.okWide Tryd.prog W r b0 40 v) (h : DataW.Trod enc Tryd.prog W base spare held 40 v d p) : ∃ bs : List UInt8, v = .agg (bvs bs).toArray ∧ bs.length = 32 := by
  obtain ⟨cs, rfl, hs⟩ := okWide_arr' Tryd.underlying40 hv
  obtain ⟨fuel, hf⟩ := h
  obtain ⟨bs, hb, hl⟩ := sum_list' (l := cs.toList) (by simpa [Value.cells] using hf)
  exact ⟨bs, by rw [← hb], hl⟩
theorem open_u8 (hv : Value.okWide Tryd.prog W r b0 5 v) (h : DataW.Trod enc Tryd.prog W base spare held 5 v d p) : ∃ n : Nat, v = .int .u8 (n : Int) ∧ n < 256 := by
  obtain ⟨z, rfl⟩ := okWide_int Tryd.underlying5 hv
  obtain ⟨fuel, hf⟩ := h
  obtain ⟨n, e, hn⟩ := u8_at' hf
  simp [Value.cells] at e
  subst e
  exact ⟨n, rfl, hn⟩
/-- a slice of bytes, by its cell -/
theorem sl_at' {m : Nat} {c : Value} {y : DataW H × List MemPlace} (h : DataW.trod enc Tryd.prog W base (fun _ => true) held m 37 [c] = some y) :
    ∃ a len cap zs, c = .slice a len cap ∧ IsRow .u8 W a len cap zs := by
  rcases open_ints Tryd.underlying37 Tryd.underlying5 (by kernel_rfl) h with ⟨hcs, _⟩ | ⟨x, l, c', zs, hcs, _, hl, hm, hz, hx, hcell, hwz⟩
  · simp at hcs
    subst hcs
    exact ⟨none, 0, 0, [], rfl, .inl ⟨rfl, rfl, rfl, rfl⟩⟩
  · simp at hcs
    subst hcs
    exact ⟨_, _, _, zs, rfl, .inr ⟨_, rfl, hl, hm, by simpa using hz, hcell, hwz⟩⟩
end
end Go.Proofs.YtgmnpkgnedngjaaDoor
