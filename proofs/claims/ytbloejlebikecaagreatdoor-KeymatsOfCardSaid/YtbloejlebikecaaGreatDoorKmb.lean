/-
  Words for keys out of what two share: numbers and bytes in boxes, parts in a list, a copy into the middle. Conditions: none.
-/
import Derived.Test.YtbloejlebikecaaGreatDoorMcf
import Derived.Test.YtbloejlebikecaaGreatDoorPkA
import Derived.Test.YtbloejlebikecaaGreatDoorKma
import Derived.Deep.MidRow
import Derived.Deep.DeepCutAuto
namespace Go.Proofs.YtbloejlebikecaaGreatDoor
open Go.RowKit
set_option linter.unusedVariables false
set_option linter.unusedSimpArgs false

/-- a number's bytes; its block -/
def nb (n0 n1 n2 n3 : Nat) : List UInt8 := be (wnum [n0, n1, n2, n3]) 32
theorem nb_length (n0 n1 n2 n3 : Nat) : (nb n0 n1 n2 n3).length = 32 := be_length _ _
def Nb (w : World) (g n0 n1 n2 n3 : Nat) : Prop := w.heap[g]? = some (.cells #[.int .u64 (n0 : Int), .int .u64 (n1 : Int), .int .u64 (n2 : Int), .int .u64 (n3 : Int)] 24 (0, 0))
theorem Nb.lt {w : World} {g n0 n1 n2 n3 : Nat} (h : Nb w g n0 n1 n2 n3) : g < w.heap.size := lt_of_block h
theorem Nb.on {w w' : World} {g n0 n1 n2 n3 : Nat} (h : Nb w g n0 n1 n2 n3) (hb : Below w.heap.size w w') : Nb w' g n0 n1 n2 n3 := (hb.block g h.lt).trans h
theorem on_nb {w : World} {g n0 n1 n2 n3 : Nat} (h : Nb w g n0 n1 n2 n3) : On w fun u => Nb u g n0 n1 n2 n3 := fun u hu => h.on hu
theorem ld_num {w : World} {g n0 n1 n2 n3 : Nat} (h : Nb w g n0 n1 n2 n3) : (Instr.loadAt 24 (.pointer (some ⟨g, 0, none⟩))).run Tryz.prog w = .ok (.agg #[.int .u64 (n0 : Int), .int .u64 (n1 : Int), .int .u64 (n2 : Int), .int .u64 (n3 : Int)]) w := by
  refine run_loadAt_mid w g 0 24 [.int .u64 (n0 : Int), .int .u64 (n1 : Int), .int .u64 (n2 : Int), .int .u64 (n3 : Int)] _ (fun j v hv => ?_) Tryz.underlying24 rfl (by kernel_rfl)
  unfold Nb at h
  rw [cell_of_row w g (0 + j) _ 24 (0, 0) h, Nat.zero_add]
  simpa using hv
theorem bt_range {w : World} {g : Nat} {t : TypeId} {l : List UInt8} (h : Bt w g t l) (o n : Nat) (hn : o + n ≤ l.length) : w.rangeAt g o (bvs ((l.drop o).take n)) := by
  intro j v hv
  have hj : j < ((l.drop o).take n).length := by
    rcases Nat.lt_or_ge j ((l.drop o).take n).length with h | h
    · exact h
    · rw [List.getElem?_eq_none (by rw [bvs_length]; exact h)] at hv; cases hv
  have hj2 : j < n := by simp at hj; omega
  rw [h.cell (o + j) (by omega)]
  simp [bvs, hj2, show o + j < l.length by omega] at hv ⊢
  exact hv
/-- bytes in a block, loaded -/
theorem ld_all {w : World} {g : Nat} {t : TypeId} {l : List UInt8} (h : Bt w g t l) (ty : TypeId) (d : TypeDesc) (hu : Tryz.prog.underlying ty = some d) (hd : d.isRow = true) (n : Nat) (hn : l.length = n) (hi : (Tryz.prog.info? ty).map (·.size) = some n) :
    (Instr.loadAt ty (.pointer (some ⟨g, 0, none⟩))).run Tryz.prog w = .ok (.agg (bvs l).toArray) w := by
  have := run_loadAt_mid w g 0 ty _ d (bt_range h 0 n (by omega)) hu hd (by rw [hi, bvs_length]; simp; omega)
  rwa [List.drop_zero, List.take_of_length_le (by omega)] at this
theorem ld_sum {w : World} {g : Nat} {l : List UInt8} (h : Bt w g 26 l) (hl : l.length = 32) : (Instr.loadAt 26 (.pointer (some ⟨g, 0, none⟩))).run Tryz.prog w = .ok (.agg (bvs l).toArray) w :=
  ld_all h 26 _ Tryz.underlying26 rfl 32 hl (by kernel_rfl)
/-- this list begins with the operation that fills slot d -/
theorem isD {P : Program} {ops : Array Oper} {Q : Exit → Act → World → Prop} {l : List Oper} {o : Oper} {a : Act} {w : World} (d : Nat) (hd : o.dst = some d) (h : wpList P ops Q (o :: l) a w) : wpList P ops Q (o :: l) a w := h
theorem isS {P : Program} {ops : Array Oper} {Q : Exit → Act → World → Prop} {l : List Oper} {o : Oper} {a : Act} {w : World} (ty : TypeId) (x y : Operand) (ho : o.op = .store ty x y) (h : wpList P ops Q (o :: l) a w) : wpList P ops Q (o :: l) a w := h
theorem wp_ld {ops : Array Oper} {rest : List Oper} {o : Oper} {a : Act} {w : World} {Q : Exit → Act → World → Prop} (hw : Region.wanted o (yielded ops a.tmps) = true) (ty : TypeId) (x : Operand) (ho : o.op = .load ty x) (p : Value) (hx : a.eval x = p) (v : Value) (hl : (Instr.loadAt ty p).run Tryz.prog w = .ok v w)
    (h : wpList Tryz.prog ops Q rest (a.put o.dst v) w) : wpList Tryz.prog ops Q (o :: rest) a w := by
  refine Go.BigFrame.wpList_want hw fun K hK => ?_
  unfold Oper.wp execOp
  simp only [ho, hx, Sem.run_bind, Result.andThen_ok, hl]
  exact hK _ _ h
theorem wp_st {ops : Array Oper} {rest : List Oper} {o : Oper} {a : Act} {w w' : World} {Q : Exit → Act → World → Prop} (hw : Region.wanted o (yielded ops a.tmps) = true) (ty : TypeId) (x y : Operand) (ho : o.op = .store ty x y) (p v : Value) (hx : a.eval x = p) (hy : a.eval y = v) (hl : (Instr.storeAt ty p v).run Tryz.prog w = .ok () w')
    (h : wpList Tryz.prog ops Q rest (a.put o.dst undef) w') : wpList Tryz.prog ops Q (o :: rest) a w := by
  refine Go.BigFrame.wpList_want hw fun K hK => ?_
  unfold Oper.wp execOp
  simp only [ho, hx, hy, Sem.run_bind, Result.andThen_ok, hl]
  exact hK _ _ h
theorem y_ld {o : Oper} {a : Act} {u : World} (ty : TypeId) (x : Operand) (ho : o.op = .load ty x) (p v : Value) (hx : a.eval x = p) (hl : (Instr.loadAt ty p).run Tryz.prog u = .ok v u) : (execOp a.eval o).run Tryz.prog u = .ok (.value v) u := by
  unfold execOp
  simp only [ho, hx, Sem.run_bind, Sem.run_pure, Result.andThen_ok, hl]
theorem yet_of {u : World} {P : World → Prop} {W : List Nat} (h : Yet (fun (_ : Array Bool) (u : World) => P u) W u) : P u := by
  obtain ⟨_, _, h⟩ := h; exact h
/-- the greater one of two numbers -/
theorem step_max {ops : Array Oper} {rest : List Oper} {o : Oper} {a : Act} {w : World} {Q : Exit → Act → World → Prop} (hgd : o.guard = none) (x y : Operand)
    (ho : o.op = .call { callee := .builtin .max, args := #[x, y], argTypes := #[3, 3] }) (vx vy : Int) (hx : a.eval x = .int .i64 vx) (hy : a.eval y = .int .i64 vy) (m : Int) (hm : m = if vy > vx then vy else vx)
    (h : wpList Tryz.prog ops Q rest (a.put o.dst (.int .i64 m)) w) : wpList Tryz.prog ops Q (o :: rest) a w := by
  refine wpList_plain hgd fun K hK => ?_
  unfold Oper.wp
  have hr := run_max_int2 (P := Tryz.prog) (w := w) #[3, 3] o.type .i64 .i64 vx vy
  rw [← hm] at hr
  simp [execOp, ho, resolve, invoke, builtin, hx, hy, hr, Result.andThen]
  exact hK _ _ h
theorem slice_lhm (A : Option Addr) (n c f t m : Nat) (h1 : f ≤ t) (h2 : t ≤ m) (h3 : m ≤ c) (w : World) : (Instr.slice 27 (.slice A n c) (some (.int .i64 (f : Int))) (some (.int .i64 (t : Int))) (some (.int .i64 (m : Int)))).run Tryz.prog w = .ok (.slice (past A f m) (t - f) (m - f)) w := by
  have h5 : Tryz.prog.elem 27 = 5 := by kernel_rfl
  rw [run_slice_lhm (P := Tryz.prog) w 27 A n c (by rw [h5]; exact Tryz.underlying27) .i64 .i64 .i64 (f : Int) (t : Int) (m : Int) (by omega) (by omega) (by omega) (by omega)]
  have hs : (sizeOf 5).run Tryz.prog w = .ok 1 w := by kernel_rfl
  rw [h5, hs]
  simp only [Result.andThen, sliced, Int.toNat_natCast, past, Nat.mul_one]
theorem slice_cut1 (A : Option Addr) (n c f t : Nat) (h1 : f ≤ t) (h2 : t ≤ n) (hc : n ≤ c) (w : World) : (Instr.slice 27 (.slice A n c) (some (.int .i64 (f : Int))) (some (.int .i64 (t : Int))) none).run Tryz.prog w = .ok (.slice (past A f c) (t - f) (c - f)) w := by
  have h5 : Tryz.prog.elem 27 = 5 := by kernel_rfl
  rw [run_slice_lh (P := Tryz.prog) w 27 A n c (by rw [h5]; exact Tryz.underlying27) .i64 .i64 (f : Int) (t : Int) (by omega) (by omega) (by omega)]
  have hs : (sizeOf 5).run Tryz.prog w = .ok 1 w := by kernel_rfl
  rw [h5, hs]
  simp only [Result.andThen, sliced, Int.toNat_natCast, past, Nat.mul_one]
theorem slice_from (A : Option Addr) (n c f : Nat) (h1 : f ≤ n) (w : World) : (Instr.slice 27 (.slice A n c) (some (.int .i64 (f : Int))) none none).run Tryz.prog w = .ok (.slice (past A f c) (n - f) (c - f)) w := by
  have h5 : Tryz.prog.elem 27 = 5 := by kernel_rfl
  rw [run_slice_l (P := Tryz.prog) w 27 A n c (by rw [h5]; exact Tryz.underlying27) .i64 (f : Int) (by omega) (by omega)]
  have hs : (sizeOf 5).run Tryz.prog w = .ok 1 w := by kernel_rfl
  rw [h5, hs]
  simp only [Result.andThen, sliced, Int.toNat_natCast, past, Nat.mul_one]
theorem past_in (g f c : Nat) (h : f < c) : past (some ⟨g, 0, none⟩) f c = some ⟨g, f, none⟩ := by
  unfold past
  rw [if_neg (by omega)]
  simp only [Option.map, add_plain, Nat.zero_add]
theorem past_some (g f c : Nat) : past (some ⟨g, 0, none⟩) f c ≠ none := by
  unfold past
  split <;> simp
/-- a copy into the middle of a block -/
theorem run_copy_at (w : World) (g t : Nat) (dst bs : List UInt8) (A : Option Addr) (off d dc n c k : Nat) (hg : Bt w g t dst) (hr : Rd w A bs) (hn : bs.length = n) (hk : k = min n d) (h0 : 0 < k) (hl : off + k ≤ dst.length) :
    ∃ w', (Builtin.copy_ #[27, 27] 3 #[.slice (some ⟨g, off, none⟩) d dc, .slice A n c]).run Tryz.prog w = .ok (goInt k) w' ∧ Bt w' g t (dst.take off ++ bs.take k ++ dst.drop (off + k)) ∧ w.grownBy w' (some g) := by
  have hs : (Tryz.prog.info? 5).map (·.size) = some 1 := u8_size
  have hkl : (bs.take k).length = k := by rw [List.length_take, hn]; omega
  obtain ⟨ad, rfl, hc⟩ := (hr.take k).cells (by omega)
  have hrun := run_copy_row (P := Tryz.prog) w 27 27 3 5 g off d dc ad n c (bvs dst).toArray t (bvs (bs.take k)) Tryz.underlying27 hs hg (by rw [bvs_length, hkl, hk]) hc (by rw [bvs_length, bvs_size, hkl]; omega) (bvs_one _)
  rw [bvs_length, hkl] at hrun
  refine ⟨_, hrun, ?_, ?_⟩
  · have e : ((bvs dst).toArray.toList.take off ++ bvs (bs.take k) ++ (bvs dst).toArray.toList.drop (off + k)) = bvs (dst.take off ++ bs.take k ++ dst.drop (off + k)) := by rw [bvs_append, bvs_append, bvs_drop, bvs_take dst]
    rw [e]
    exact Bt.row hg
  · exact ⟨rfl, rfl, rfl, by simp [World.setRow], fun j hj hne => setRow_other w g j _ (fun e => hne (by rw [e]))⟩
/-- block g holds these cells, marked or not -/
def Blk (w : World) (g : Nat) (cs : Array Value) (t : TypeId) : Prop := ∃ fz, w.heap[g]? = some (.cells cs t fz)
theorem Blk.lt {w : World} {g : Nat} {cs : Array Value} {t : TypeId} (h : Blk w g cs t) : g < w.heap.size := by
  obtain ⟨fz, h⟩ := h
  exact lt_of_block h
theorem Blk.on {w w' : World} {g : Nat} {cs : Array Value} {t : TypeId} (h : Blk w g cs t) (hb : Below w.heap.size w w') : Blk w' g cs t := by
  obtain ⟨fz, h⟩ := h
  exact ⟨fz, (hb.block g (lt_of_block h)).trans h⟩
theorem Blk.new (w : World) (cs : Array Value) (t : TypeId) : Blk (w.alloc (.cells cs t)) w.heap.size cs t := ⟨_, heap_alloc_new w _⟩
theorem Blk.cell {w : World} {g j : Nat} {cs : Array Value} {t : TypeId} (h : Blk w g cs t) : w.cell? ⟨g, j, none⟩ = cs[j]? := by
  obtain ⟨fz, h⟩ := h
  exact cell_of_row w g j cs t fz h
theorem rd_blk {w : World} {g : Nat} (bs : List UInt8) {cs : Array Value} (h : Blk w g cs 5) (e : (bvs bs).toArray = cs) : Rd w (some ⟨g, 0, none⟩) bs := by
  subst e
  intro hp
  refine ⟨g, 0, rfl, h.lt, fun j hj => ?_⟩
  rw [Nat.zero_add, h.cell]
  simp [bvs, hj]
set_option maxRecDepth 100000 in
/-- '[]byte(..)' of a constant text: the row is marked, nothing else -/
theorem conv_mark {w0 w : World} (g n : Nat) (cs : Array Value) (hn : cs.size = n) (h0 : w0.heap.size ≤ g) (h : Blk w g cs 5) (hb : Below w0.heap.size w0 w) :
    ∃ w', Hid ((convert 27 27 (.slice (some ⟨g, 0, none⟩) n n)).run Tryz.prog w = .ok (.slice (some ⟨g, 0, none⟩) n n) w') ∧ Hid (Below w0.heap.size w0 w') ∧ Hid (Blk w' g cs 5) ∧ Hid (w.grownBy w' (some g)) := by
  obtain ⟨fz, hh⟩ := h
  have hsh : w.shape? g = some (5, cs.size) := by unfold World.shape?; rw [hh]
  have hot : ∀ k, k ≠ g → (w.freeze ⟨g, cs.size, none⟩ 1).heap[k]? = w.heap[k]? := fun k hk => by
    unfold World.freeze
    rw [if_neg (by decide)]
    show (w.heap.modify g _)[k]? = _
    rw [Array.getElem?_modify, if_neg (by omega)]
  have hsz : (w.freeze ⟨g, cs.size, none⟩ 1).heap.size = w.heap.size := by
    unfold World.freeze
    rw [if_neg (by decide)]
    simp
  have hos : (w.freeze ⟨g, cs.size, none⟩ 1).os = w.os ∧ (w.freeze ⟨g, cs.size, none⟩ 1).tape = w.tape ∧ (w.freeze ⟨g, cs.size, none⟩ 1).output = w.output := by
    unfold World.freeze
    rw [if_neg (by decide)]
    exact ⟨rfl, rfl, rfl⟩
  refine ⟨w.freeze ⟨g, cs.size, none⟩ 1, hid ?_, hid ?_, hid ?_, hid ?_⟩
  · simp [convert, run_underlying Tryz.underlying27, run_underlying Tryz.underlying5, markStringish, hsh, Addr.add]
  · exact ⟨hos.1.trans hb.os, hos.2.1.trans hb.tape, hos.2.2.trans hb.output, by rw [hsz]; exact hb.size, fun k hk => (hot k (by omega)).trans (hb.block k hk)⟩
  · unfold World.freeze
    rw [if_neg (by decide)]
    show ∃ f2, (w.heap.modify g _)[g]? = _
    rw [Array.getElem?_modify, if_pos rfl, hh]
    exact ⟨_, rfl⟩
  · exact ⟨hos.1, hos.2.1, hos.2.2, by rw [hsz]; exact Nat.le_refl _, fun k _ hne => hot k (fun e => hne (by rw [e]))⟩
theorem Blk.grown {w w' : World} {g b : Nat} {cs : Array Value} {t : TypeId} (h : Blk w b cs t) (hg : w.grownBy w' (some g)) (hne : b ≠ g) : Blk w' b cs t := by
  obtain ⟨fz, h⟩ := h
  exact ⟨fz, (hg.block b (lt_of_block h) (by intro e; injection e with e; exact hne e)).trans h⟩
theorem wp_convert {o : Oper} {a : Act} {w : World} {K : Act → World → Prop} {Q : Exit → Act → World → Prop} (x : Operand) (ho : o.op = .convert 27 27 x) (v : Value) (hx : a.eval x = v) (v' : Value) (w' : World)
    (hrun : (convert 27 27 v).run Tryz.prog w = .ok v' w') (h : K (a.put o.dst v') w') : o.wp Tryz.prog a w K Q := by
  unfold Oper.wp
  simp [execOp, ho, hx, hrun, Result.andThen]
  exact h
/-- three parts in a list -/
theorem rws3 {w : World} {b : Nat} {A0 A1 A2 : Option Addr} {l0 l1 l2 c0 c1 c2 : Nat} {x0 x1 x2 : List UInt8} (h : Blk w b #[.slice A0 l0 c0, .slice A1 l1 c1, .slice A2 l2 c2] 27)
    (r0 : Rd w A0 x0) (e0 : x0.length = l0) (k0 : l0 ≤ c0) (m0 : c0 ≤ 140737488351232) (n0 : A0 = none → c0 = 0) (r1 : Rd w A1 x1) (e1 : x1.length = l1) (k1 : l1 ≤ c1) (m1 : c1 ≤ 140737488351232) (n1 : A1 = none → c1 = 0)
    (r2 : Rd w A2 x2) (e2 : x2.length = l2) (k2 : l2 ≤ c2) (m2 : c2 ≤ 140737488351232) (n2 : A2 = none → c2 = 0) :
    Rws w (some ⟨b, 0, none⟩) 3 (fun r => if r = 0 then A0 else if r = 1 then A1 else A2) (fun r => if r = 0 then l0 else if r = 1 then l1 else l2) (fun r => if r = 0 then c0 else if r = 1 then c1 else c2) (fun r => if r = 0 then x0 else if r = 1 then x1 else x2) := by
  intro r hr
  rcases (show r = 0 ∨ r = 1 ∨ r = 2 by omega) with rfl | rfl | rfl
  · exact ⟨⟨b, 0, rfl, h.lt, by rw [h.cell]; rfl⟩, e0, r0, k0, m0, n0⟩
  · exact ⟨⟨b, 0, rfl, h.lt, by rw [h.cell]; rfl⟩, e1, r1, k1, m1, n1⟩
  · exact ⟨⟨b, 0, rfl, h.lt, by rw [h.cell]; rfl⟩, e2, r2, k2, m2, n2⟩
theorem cat3 (x0 x1 x2 : List UInt8) : cat (fun r => if r = 0 then x0 else if r = 1 then x1 else x2) 3 = x0 ++ x1 ++ x2 := by simp [cat]
theorem cat1 (x : List UInt8) : cat (fun _ => x) 1 = x := by simp [cat]
theorem lane_cells : (bvs lane).toArray = #[.int .u8 108, .int .u8 97, .int .u8 110, .int .u8 101] := rfl
theorem one_cells (x : UInt8) : (bvs [x]).toArray = #[.int .u8 ((x.toNat : Nat) : Int)] := rfl
/-- the parts of the next sum, laid as they come -/
theorem parts3 (w : World) (A : Option Addr) (l c : Nat) (x : List UInt8) (b : UInt8) (hr : Rd w A x) (hl : x.length = l) (hc : l ≤ c) (hm : c ≤ 140737488351232) (hA : A = none → c = 0) :
    ∃ w4, w4 = ((w.alloc (.cells #[.int .u8 108, .int .u8 97, .int .u8 110, .int .u8 101] 5 (4, 5))).alloc (.cells #[.int .u8 ((b.toNat : Nat) : Int)] 5)).alloc (.cells #[.slice A l c, .slice (some ⟨w.heap.size, 0, none⟩) 4 4, .slice (some ⟨w.heap.size + 1, 0, none⟩) 1 1] 27) ∧
      Hid (Below w.heap.size w w4) ∧ Hid (Rws w4 (some ⟨w.heap.size + 1 + 1, 0, none⟩) 3 (fun r => if r = 0 then A else if r = 1 then some ⟨w.heap.size, 0, none⟩ else some ⟨w.heap.size + 1, 0, none⟩) (fun r => if r = 0 then l else if r = 1 then 4 else 1) (fun r => if r = 0 then c else if r = 1 then 4 else 1) (fun r => if r = 0 then x else if r = 1 then lane else [b])) := by
  refine ⟨_, rfl, ?_⟩
  have a1 : Below w.heap.size w (w.alloc (.cells (bvs lane).toArray 5 (4, 5))) := (Below.refl _ _).alloc (Nat.le_refl _) _
  have r1 := rd_mark w lane (4, 5)
  have s1 := al_size w (.cells (bvs lane).toArray 5 (4, 5))
  rw [lane_cells] at a1 r1 s1
  generalize w.alloc (.cells #[.int .u8 108, .int .u8 97, .int .u8 110, .int .u8 101] 5 (4, 5)) = w1 at *
  have a2 : Below w1.heap.size w1 (w1.alloc (.cells (bvs [b]).toArray 5)) := (Below.refl _ _).alloc (Nat.le_refl _) _
  have r2 := rd_new w1 [b]
  have s2 := al_size w1 (.cells (bvs [b]).toArray 5)
  rw [one_cells] at a2 r2 s2
  generalize w1.alloc (.cells #[.int .u8 ((b.toNat : Nat) : Int)] 5) = w2 at *
  rw [s1] at r2 s2
  generalize hob : (Obj.cells #[Value.slice A l c, Value.slice (some ⟨w.heap.size, 0, none⟩) 4 4, Value.slice (some ⟨w.heap.size + 1, 0, none⟩) 1 1] 27) = ob
  have a4 : Below w2.heap.size w2 (w2.alloc ob) := (Below.refl _ _).alloc (Nat.le_refl _) _
  have hn : (w2.alloc ob).heap[w2.heap.size]? = some ob := heap_alloc_new w2 ob
  generalize w2.alloc ob = w4 at *
  rw [s2] at hn
  subst hob
  have b1 := (a2.mono (by omega) : Below w.heap.size w1 w2)
  have b4 := (a4.mono (by omega) : Below w.heap.size w2 w4)
  have hb := (a1.trans b1).trans b4
  exact ⟨hid hb, hid (rws3 ⟨_, hn⟩ (hr.below hb (Nat.le_refl _)) hl hc hm hA ((r1.below a2 (Nat.le_refl _)).below a4 (Nat.le_refl _)) rfl (by decide) (by decide) (by simp) (r2.below a4 (Nat.le_refl _)) rfl (by decide) (by decide) (by simp))⟩
end Go.Proofs.YtbloejlebikecaaGreatDoor
