/-
  burrowlaw05.fixed, walked: it answers true. Condition: the library's table K lies there.
-/
import Derived.Test.YtikmhnlhaolbfaaDoorPkF
import Derived.Test.YtikmhnlhaolbfaaDoorPkC
namespace Go.Proofs.YtikmhnlhaolbfaaDoor
open Go.RowKit
set_option linter.unusedVariables false
set_option linter.unusedSimpArgs false

/-- block g holds these cells, marked or not -/
def Blk (w : World) (g : Nat) (cs : Array Value) (t : TypeId) : Prop := ∃ fz, w.heap[g]? = some (.cells cs t fz)
theorem Blk.lt {w : World} {g : Nat} {cs : Array Value} {t : TypeId} (h : Blk w g cs t) : g < w.heap.size := by
  obtain ⟨fz, h⟩ := h
  exact lt_of_block h
theorem Blk.on {w w' : World} {g : Nat} {cs : Array Value} {t : TypeId} (h : Blk w g cs t) (hb : Below w.heap.size w w') : Blk w' g cs t := by
  obtain ⟨fz, h⟩ := h
  exact ⟨fz, (hb.block g (lt_of_block h)).trans h⟩
theorem Blk.new (w : World) (cs : Array Value) (t : TypeId) : Blk (w.alloc (.cells cs t)) w.heap.size cs t := ⟨_, heap_alloc_new w _⟩
theorem Blk.cell {w : World} {g j : Nat} {cs : Array Value} {t : TypeId} (h : Blk w g cs t) : w.cell? ⟨g, j, none⟩ = cs[j]? := by
  obtain ⟨fz, h⟩ := h
  exact cell_of_row w g j cs t fz h
/-- what stood stands, marks aside -/
structure Mkd (w0 w w' : World) : Prop where
  old : Below w0.heap.size w0 w'
  blk : ∀ g cs t, Blk w g cs t → Blk w' g cs t
theorem Mkd.of {w0 w w' : World} (h : Below w0.heap.size w0 w) (hb : Below w.heap.size w w') : Mkd w0 w w' := ⟨h.trans (hb.mono h.size), fun g cs t k => k.on hb⟩
set_option maxRecDepth 100000 in
/-- '[]byte(..)' of a constant text: the row is marked, nothing else -/
theorem conv_mark {w0 w : World} (g n : Nat) (cs : Array Value) (hn : cs.size = n) (h0 : w0.heap.size ≤ g) (h : Blk w g cs 5) (hb : Below w0.heap.size w0 w) :
    ∃ w', Hid ((convert 41 41 (.slice (some ⟨g, 0, none⟩) n n)).run Tryd.prog w = .ok (.slice (some ⟨g, 0, none⟩) n n) w') ∧ Hid (Mkd w0 w w') := by
  obtain ⟨fz, hh⟩ := h
  have hsh : w.shape? g = some (5, cs.size) := by unfold World.shape?; rw [hh]
  refine ⟨w.freeze ⟨g, cs.size, none⟩ 1, hid ?_, hid ⟨?_, ?_⟩⟩
  · simp [convert, run_underlying Tryd.underlying41, run_underlying Tryd.underlying5, markStringish, hsh, Addr.add]
  · unfold World.freeze
    rw [if_neg (by decide)]
    refine ⟨hb.os, hb.tape, hb.output, by simpa using hb.size, fun k hk => ?_⟩
    show (w.heap.modify g _)[k]? = _
    rw [Array.getElem?_modify, if_neg (by omega)]
    exact hb.block k hk
  · intro k ds t ⟨fk, hk⟩
    unfold World.freeze
    rw [if_neg (by decide)]
    show ∃ f2, (w.heap.modify g _)[k]? = _
    rw [Array.getElem?_modify]
    by_cases e : g = k
    · subst e
      rw [if_pos rfl, hk]
      exact ⟨_, rfl⟩
    · rw [if_neg e, hk]
      exact ⟨_, rfl⟩
theorem wp_convert {o : Oper} {a : Act} {w : World} {K : Act → World → Prop} {Q : Exit → Act → World → Prop} (x : Operand) (ho : o.op = .convert 41 41 x) (v : Value) (hx : a.eval x = v) (v' : Value) (w' : World)
    (hrun : (convert 41 41 v).run Tryd.prog w = .ok v' w') (h : K (a.put o.dst v') w') : o.wp Tryd.prog a w K Q := by
  unfold Oper.wp
  simp [execOp, ho, hx, hrun, Result.andThen]
  exact h
theorem lof_zero (w : World) : Calls Tryd.prog 54 #[.int .u64 0] w fun e w' => e = .returned (num 0) ∧ Below w.heap.size w w' := lof_any 0 w (by decide)
theorem rd_blk {w : World} {g : Nat} (bs : List UInt8) {cs : Array Value} (h : Blk w g cs 5) (e : (bvs bs).toArray = cs) : Rd w (some ⟨g, 0, none⟩) bs := by
  subst e
  intro hp
  refine ⟨g, 0, rfl, h.lt, fun j hj => ?_⟩
  rw [Nat.zero_add, h.cell]
  simp [bvs, hj]
/-- the two parts 'a', 'bc' -/
def abc : Nat → List UInt8 := fun r => if r = 0 then [97] else [98, 99]
theorem abc_rows {w : World} {b0 b2 b4 : Nat} (h0 : Blk w b0 #[.int .u8 97] 5) (h2 : Blk w b2 #[.int .u8 98, .int .u8 99] 5) (h4 : Blk w b4 #[.slice (some ⟨b0, 0, none⟩) 1 1, .slice (some ⟨b2, 0, none⟩) 2 2] 41) :
    Rws w (some ⟨b4, 0, none⟩) 2 (fun r => if r = 0 then some ⟨b0, 0, none⟩ else some ⟨b2, 0, none⟩) (fun r => if r = 0 then 1 else 2) (fun r => if r = 0 then 1 else 2) abc := by
  intro r hr
  rcases (show r = 0 ∨ r = 1 by omega) with rfl | rfl
  · exact ⟨⟨b4, 0, rfl, h4.lt, by rw [h4.cell]; rfl⟩, rfl, rd_blk [97] h0 rfl, Nat.le_refl _, by decide, fun e => by cases e⟩
  · exact ⟨⟨b4, 0, rfl, h4.lt, by rw [h4.cell]; rfl⟩, rfl, rd_blk [98, 99] h2 rfl, Nat.le_refl _, by decide, fun e => by cases e⟩
def abc20 : List UInt8 := [0, 0, 0, 1, 120, 0, 0, 0, 2, 0, 0, 0, 1, 97, 0, 0, 0, 2, 98, 99]
theorem abc_spelt : spelt (⟨#[120]⟩ : ByteArray).data.toList 2 abc 2 = abc20 := by decide
noncomputable def fxr : Code := ((Tryd.f49.body.bind (findRegion 3)).getD .skip)
noncomputable def fxOps : Array Oper := match fxr with
  | .region _ ops _ => ops
  | _ => #[]
/-- the box of the first number -/
abbrev FxS (g1 : Nat) : Array Bool → World → Prop := fun _ u => (u.cell? ⟨g1, 0, none⟩ = some (.int .u64 (wd (0) 0 : Int)) ∧ u.cell? ⟨g1, 1, none⟩ = some (.int .u64 (wd (0) 1 : Int)) ∧ u.cell? ⟨g1, 2, none⟩ = some (.int .u64 (wd (0) 2 : Int)) ∧ u.cell? ⟨g1, 3, none⟩ = some (.int .u64 (wd (0) 3 : Int)))
theorem fxs_on {w0 w : World} {g1 : Nat} (h : Nm w0 g1 0) (hb : Below w0.heap.size w0 w) (up : Array Bool) : FxS g1 up w := by
  have h2 := (Env.cell (w := w0) (l := [(g1, 0)]) ⟨hb, fun p hp => by obtain rfl := List.mem_singleton.1 hp; exact (on_nm h) _ hb⟩ g1 0 (by simp))
  exact h2
theorem of_r (A : Option Addr) (c n : Nat) (bs r : List UInt8) (w : World) (hr : Rd w A bs) (hK : Kt w) (hl : bs.length = n) (hs : sha bs = r) (hc : n ≤ c) (hn : n ≤ 70368744177664) :
    Calls Tryd.prog 33 #[.slice A n c] w fun e w' => e = .returned (.agg (bvs r).toArray) ∧ Below w.heap.size w w' := by
  subst hs
  exact of_any A c bs w n hl hr hc hK hn
set_option maxRecDepth 100000 in
set_option maxHeartbeats 2000000 in
theorem fx_111111111 {w0 : World} {g1 : Nat} {r : List UInt8} {Q : Exit → Act → World → Prop} (HK : Hid (Kt w0)) (H1 : Hid (Nm w0 g1 0)) (HR : Hid (sha abc20 = r)) (HQ : Hid (∀ (c3 c5 c6 c7 c8 c9 c10 c11 c12 c13 c14 d15 d16 d17 d18 d19 d20 d21 d22 d23 d24 d25 d26 d27 d28 d29 d30 d31 d32 d33 d34 d35 d36 d37 : Value) (u : World), Below w0.heap.size w0 u → Q .normal ⟨#[.bool true, .pointer (some ⟨g1, 0, none⟩), .int .i64 0, c3, .int .i64 1, c5, c6, c7, c8, c9, c10, c11, c12, c13, c14, d15, d16, d17, d18, d19, d20, d21, d22, d23, d24, d25, d26, d27, d28, d29, d30, d31, d32, d33, d34, d35, d36, d37], []⟩ u)) (w : World) (b0 b2 b4 b6 : Nat) (HB : Hid (Below w0.heap.size w0 w)) (F0 : Hid (w0.heap.size ≤ b0 ∧ Blk w b0 #[.int .u8 97] 5)) (F2 : Hid (w0.heap.size ≤ b2 ∧ Blk w b2 #[.int .u8 98, .int .u8 99] 5)) (F4 : Hid (Blk w b4 #[.slice (some ⟨b0, 0, none⟩) 1 1, .slice (some ⟨b2, 0, none⟩) 2 2] 41)) (F6 : Hid (w0.heap.size ≤ b6 ∧ Blk w b6 #[.int .u8 0, .int .u8 0, .int .u8 0, .int .u8 1, .int .u8 120, .int .u8 0, .int .u8 0, .int .u8 0, .int .u8 2, .int .u8 0, .int .u8 0, .int .u8 0, .int .u8 1, .int .u8 97, .int .u8 0, .int .u8 0, .int .u8 0, .int .u8 2, .int .u8 98, .int .u8 99] 5)) (c0 c3 c5 c6 c7 c8 c9 c10 c11 c12 c13 c14 c24 c25 c26 c27 c28 c29 c30 c31 c32 c33 c34 c35 c36 c37 : Value) :
    Goes Tryd.prog .any fxOps (NoPanic Q) (FxS g1) 15 #[true, true, true, true, true, true, true, true, true, false, false, false, false, false, false, false, false, false, false, false, false, false, false, false] ⟨#[c0, .pointer (some ⟨g1, 0, none⟩), .int .i64 0, c3, .int .i64 1, c5, c6, c7, c8, c9, c10, c11, c12, c13, c14, .slice (some ⟨b0, 0, none⟩) 1 1, .slice (some ⟨b0, 0, none⟩) 1 1, .slice (some ⟨b2, 0, none⟩) 2 2, .slice (some ⟨b2, 0, none⟩) 2 2, .slice (some ⟨b4, 0, none⟩) 2 2, .agg (bvs r).toArray, .slice (some ⟨b6, 0, none⟩) 20 20, .slice (some ⟨b6, 0, none⟩) 20 20, .agg (bvs r).toArray, c24, c25, c26, c27, c28, c29, c30, c31, c32, c33, c34, c35, c36, c37], []⟩ w := by
  have qr : r.length = 32 := by rw [← HR.out]; exact sha_length _
  have heq := fun W : World => eq_sum r r qr qr W
  simp only [decide_true] at heq
  clear qr
  have q0 := fun W : World => eq_yes 0 0 rfl W
  have HB := HB.out
  refine Goes.take (i := 9) (o := ⟨some 24, _, _, _, _, _⟩) (v := ?_) [] rfl (by kernel_rfl) (by kernel_rfl) (by kernel_rfl) (fun _ _ _ h => h) (by kernel_rfl) (fun L u h => h) (Or.inl ⟨by rfl, ?_⟩) (fxs_on H1.out HB _) ?_
  rotate_left
  · intro u hY; go_simp; try with_reducible rfl
  try simp only [Act.put, List.setIfInBounds_toArray, List.set_cons_zero, List.set_cons_succ]
  refine Goes.take (i := 10) (o := ⟨some 25, _, _, _, _, _⟩) (v := ?_) [] rfl (by kernel_rfl) (by kernel_rfl) (by kernel_rfl) (fun _ _ _ h => h) (by kernel_rfl) (fun L u h => h) (Or.inl ⟨by rfl, ?_⟩) (fxs_on H1.out HB _) ?_
  rotate_left
  · intro u hY; go_simp; try with_reducible rfl
  try simp only [Act.put, List.setIfInBounds_toArray, List.set_cons_zero, List.set_cons_succ]
  refine Goes.take (i := 11) (o := ⟨some 26, _, _, _, _, _⟩) (v := ?_) [] rfl (by kernel_rfl) (by kernel_rfl) (by kernel_rfl) (fun _ _ _ h => h) (by kernel_rfl) (fun L u h => h) (Or.inl ⟨by rfl, ?_⟩) (fxs_on H1.out HB _) ?_
  rotate_left
  · rintro u ⟨up, -, hX⟩; (try dsimp only at hX); obtain ⟨x0, x1, x2, x3⟩ := hX; go_simp; try with_reducible rfl
  try simp only [Act.put, List.setIfInBounds_toArray, List.set_cons_zero, List.set_cons_succ]
  refine Goes.one (i := 12) (o := ⟨some 27, _, _, _, _, _⟩) (by kernel_rfl) rfl (fun K hK => ?_)
  rw [if_pos (by rfl)]
  go_simp
  with_reducible refine (lof_zero _).mono ?_
  rintro e wn ⟨rfl, hb⟩
  have HB2 := HB.trans (hb.mono HB.size)
  go_wp2_with fail
  refine hK.out _ _ (fxs_on H1.out HB2 _) ?_
  clear hK K HB
  have HB := HB2
  clear HB2
  try simp only [Act.put, List.setIfInBounds_toArray, List.set_cons_zero, List.set_cons_succ]
  refine Goes.take (i := 13) (o := ⟨some 28, _, _, _, _, _⟩) (v := ?_) [] rfl (by kernel_rfl) (by kernel_rfl) (by kernel_rfl) (fun _ _ _ h => h) (by kernel_rfl) (fun L u h => h) (Or.inl ⟨by rfl, ?_⟩) (fxs_on H1.out HB _) ?_
  rotate_left
  · intro u hY; go_simp; try with_reducible rfl
  try simp only [Act.put, List.setIfInBounds_toArray, List.set_cons_zero, List.set_cons_succ]
  refine Goes.take (i := 14) (o := ⟨some 29, _, _, _, _, _⟩) (v := ?_) [] rfl (by kernel_rfl) (by kernel_rfl) (by kernel_rfl) (fun _ _ _ h => h) (by kernel_rfl) (fun L u h => h) (Or.inl ⟨by rfl, ?_⟩) (fxs_on H1.out HB _) ?_
  rotate_left
  · intro u hY; go_simp; try with_reducible rfl
  try simp only [Act.put, List.setIfInBounds_toArray, List.set_cons_zero, List.set_cons_succ]
  refine Goes.take (i := 15) (o := ⟨some 30, _, _, _, _, _⟩) (v := ?_) [] rfl (by kernel_rfl) (by kernel_rfl) (by kernel_rfl) (fun _ _ _ h => h) (by kernel_rfl) (fun L u h => h) (Or.inl ⟨by rfl, ?_⟩) (fxs_on H1.out HB _) ?_
  rotate_left
  · intro u hY; go_simp; try with_reducible rfl
  try simp only [Act.put, List.setIfInBounds_toArray, List.set_cons_zero, List.set_cons_succ]
  refine Goes.take (i := 16) (o := ⟨some 31, _, _, _, _, _⟩) (v := ?_) [] rfl (by kernel_rfl) (by kernel_rfl) (by kernel_rfl) (fun _ _ _ h => h) (by kernel_rfl) (fun L u h => h) (Or.inl ⟨by rfl, ?_⟩) (fxs_on H1.out HB _) ?_
  rotate_left
  · intro u hY; go_simp; try with_reducible rfl
  try simp only [Act.put, List.setIfInBounds_toArray, List.set_cons_zero, List.set_cons_succ]
  refine Goes.take (i := 17) (o := ⟨some 32, _, _, _, _, _⟩) (v := ?_) [] rfl (by kernel_rfl) (by kernel_rfl) (by kernel_rfl) (fun _ _ _ h => h) (by kernel_rfl) (fun L u h => h) (Or.inl ⟨by rfl, ?_⟩) (fxs_on H1.out HB _) ?_
  rotate_left
  · intro u hY; go_simp; try with_reducible rfl
  try simp only [Act.put, List.setIfInBounds_toArray, List.set_cons_zero, List.set_cons_succ]
  refine Goes.take (i := 18) (o := ⟨some 33, _, _, _, _, _⟩) (v := ?_) [] rfl (by kernel_rfl) (by kernel_rfl) (by kernel_rfl) (fun _ _ _ h => h) (by kernel_rfl) (fun L u h => h) (Or.inl ⟨by rfl, ?_⟩) (fxs_on H1.out HB _) ?_
  rotate_left
  · intro u hY; go_simp; try with_reducible rfl
  try simp only [Act.put, List.setIfInBounds_toArray, List.set_cons_zero, List.set_cons_succ]
  refine Goes.take (i := 19) (o := ⟨some 34, _, _, _, _, _⟩) (v := ?_) [] rfl (by kernel_rfl) (by kernel_rfl) (by kernel_rfl) (fun _ _ _ h => h) (by kernel_rfl) (fun L u h => h) (Or.inl ⟨by rfl, ?_⟩) (fxs_on H1.out HB _) ?_
  rotate_left
  · intro u hY; go_simp; try with_reducible rfl
  try simp only [Act.put, List.setIfInBounds_toArray, List.set_cons_zero, List.set_cons_succ]
  refine Goes.take (i := 20) (o := ⟨some 35, _, _, _, _, _⟩) (v := ?_) [] rfl (by kernel_rfl) (by kernel_rfl) (by kernel_rfl) (fun _ _ _ h => h) (by kernel_rfl) (fun L u h => h) (Or.inl ⟨by rfl, ?_⟩) (fxs_on H1.out HB _) ?_
  rotate_left
  · intro u hY; go_simp; try with_reducible rfl
  try simp only [Act.put, List.setIfInBounds_toArray, List.set_cons_zero, List.set_cons_succ]
  refine Goes.take (i := 21) (o := ⟨some 36, _, _, _, _, _⟩) (v := ?_) [] rfl (by kernel_rfl) (by kernel_rfl) (by kernel_rfl) (fun _ _ _ h => h) (by kernel_rfl) (fun L u h => h) (Or.inl ⟨by rfl, ?_⟩) (fxs_on H1.out HB _) ?_
  rotate_left
  · intro u hY; go_simp; try with_reducible rfl
  try simp only [Act.put, List.setIfInBounds_toArray, List.set_cons_zero, List.set_cons_succ]
  refine Goes.take (i := 22) (o := ⟨some 37, _, _, _, _, _⟩) (v := ?_) [] rfl (by kernel_rfl) (by kernel_rfl) (by kernel_rfl) (fun _ _ _ h => h) (by kernel_rfl) (fun L u h => h) (Or.inl ⟨by rfl, ?_⟩) (fxs_on H1.out HB _) ?_
  rotate_left
  · intro u hY; go_simp; try with_reducible rfl
  try simp only [Act.put, List.setIfInBounds_toArray, List.set_cons_zero, List.set_cons_succ]
  refine Goes.take (i := 23) (o := ⟨some 0, _, _, _, _, _⟩) (v := ?_) [] rfl (by kernel_rfl) (by kernel_rfl) (by kernel_rfl) (fun _ _ _ h => h) (by kernel_rfl) (fun L u h => h) (Or.inl ⟨by rfl, ?_⟩) (fxs_on H1.out HB _) ?_
  rotate_left
  · intro u hY; go_simp; try with_reducible rfl
  try simp only [Act.put, List.setIfInBounds_toArray, List.set_cons_zero, List.set_cons_succ]
  refine Goes.done (by kernel_rfl) ?_ _
  refine NoPanic.normal ?_
  exact HQ.out _ _ _ _ _ _ _ _ _ _ _ _ _ _ _ _ _ _ _ _ _ _ _ _ _ _ _ _ _ _ _ _ _ _ _ HB
set_option maxRecDepth 100000 in
set_option maxHeartbeats 1000000 in
theorem fx_111111110 {w0 : World} {g1 : Nat} {r : List UInt8} {Q : Exit → Act → World → Prop} (HK : Hid (Kt w0)) (H1 : Hid (Nm w0 g1 0)) (HR : Hid (sha abc20 = r)) (HQ : Hid (∀ (c3 c5 c6 c7 c8 c9 c10 c11 c12 c13 c14 d15 d16 d17 d18 d19 d20 d21 d22 d23 d24 d25 d26 d27 d28 d29 d30 d31 d32 d33 d34 d35 d36 d37 : Value) (u : World), Below w0.heap.size w0 u → Q .normal ⟨#[.bool true, .pointer (some ⟨g1, 0, none⟩), .int .i64 0, c3, .int .i64 1, c5, c6, c7, c8, c9, c10, c11, c12, c13, c14, d15, d16, d17, d18, d19, d20, d21, d22, d23, d24, d25, d26, d27, d28, d29, d30, d31, d32, d33, d34, d35, d36, d37], []⟩ u)) (w : World) (b0 b2 b4 b6 : Nat) (HB : Hid (Below w0.heap.size w0 w)) (F0 : Hid (w0.heap.size ≤ b0 ∧ Blk w b0 #[.int .u8 97] 5)) (F2 : Hid (w0.heap.size ≤ b2 ∧ Blk w b2 #[.int .u8 98, .int .u8 99] 5)) (F4 : Hid (Blk w b4 #[.slice (some ⟨b0, 0, none⟩) 1 1, .slice (some ⟨b2, 0, none⟩) 2 2] 41)) (F6 : Hid (w0.heap.size ≤ b6 ∧ Blk w b6 #[.int .u8 0, .int .u8 0, .int .u8 0, .int .u8 1, .int .u8 120, .int .u8 0, .int .u8 0, .int .u8 0, .int .u8 2, .int .u8 0, .int .u8 0, .int .u8 0, .int .u8 1, .int .u8 97, .int .u8 0, .int .u8 0, .int .u8 0, .int .u8 2, .int .u8 98, .int .u8 99] 5)) (c0 c3 c5 c6 c7 c8 c9 c10 c11 c12 c13 c14 c23 c24 c25 c26 c27 c28 c29 c30 c31 c32 c33 c34 c35 c36 c37 : Value) :
    Goes Tryd.prog .any fxOps (NoPanic Q) (FxS g1) 16 #[true, true, true, true, true, true, true, true, false, false, false, false, false, false, false, false, false, false, false, false, false, false, false, false] ⟨#[c0, .pointer (some ⟨g1, 0, none⟩), .int .i64 0, c3, .int .i64 1, c5, c6, c7, c8, c9, c10, c11, c12, c13, c14, .slice (some ⟨b0, 0, none⟩) 1 1, .slice (some ⟨b0, 0, none⟩) 1 1, .slice (some ⟨b2, 0, none⟩) 2 2, .slice (some ⟨b2, 0, none⟩) 2 2, .slice (some ⟨b4, 0, none⟩) 2 2, .agg (bvs r).toArray, .slice (some ⟨b6, 0, none⟩) 20 20, .slice (some ⟨b6, 0, none⟩) 20 20, c23, c24, c25, c26, c27, c28, c29, c30, c31, c32, c33, c34, c35, c36, c37], []⟩ w := by
  refine Goes.one (i := 8) (o := ⟨some 23, _, _, _, _, _⟩) (by kernel_rfl) rfl (fun K hK => ?_)
  · skip
    have hc := of_r (some ⟨b6, 0, none⟩) 20 20 abc20 r w (rd_blk abc20 F6.out.2 rfl) ((on_kt HK.out) _ HB.out) rfl HR.out (by decide) (by decide)
    go_simp
    with_reducible refine hc.mono ?_
    clear hc
    rintro e wn ⟨rfl, hb⟩
    go_wp2_with fail
    have hm := Mkd.of HB.out hb
    refine hK.out _ _ (fxs_on H1.out hm.old _) ?_
    clear hK K
    try simp only [Act.put, List.setIfInBounds_toArray, List.set_cons_zero, List.set_cons_succ]
    exact fx_111111111 HK H1 HR HQ _ b0 b2 b4 b6 (hid hm.old) (hid ⟨F0.out.1, hm.blk _ _ _ F0.out.2⟩) (hid ⟨F2.out.1, hm.blk _ _ _ F2.out.2⟩) (hid (hm.blk _ _ _ F4.out)) (hid ⟨F6.out.1, hm.blk _ _ _ F6.out.2⟩) _ _ _ _ _ _ _ _ _ _ _ _ _ _ _ _ _ _ _ _ _ _ _ _ _ _
set_option maxRecDepth 100000 in
set_option maxHeartbeats 1000000 in
theorem fx_111110110 {w0 : World} {g1 : Nat} {r : List UInt8} {Q : Exit → Act → World → Prop} (HK : Hid (Kt w0)) (H1 : Hid (Nm w0 g1 0)) (HR : Hid (sha abc20 = r)) (HQ : Hid (∀ (c3 c5 c6 c7 c8 c9 c10 c11 c12 c13 c14 d15 d16 d17 d18 d19 d20 d21 d22 d23 d24 d25 d26 d27 d28 d29 d30 d31 d32 d33 d34 d35 d36 d37 : Value) (u : World), Below w0.heap.size w0 u → Q .normal ⟨#[.bool true, .pointer (some ⟨g1, 0, none⟩), .int .i64 0, c3, .int .i64 1, c5, c6, c7, c8, c9, c10, c11, c12, c13, c14, d15, d16, d17, d18, d19, d20, d21, d22, d23, d24, d25, d26, d27, d28, d29, d30, d31, d32, d33, d34, d35, d36, d37], []⟩ u)) (w : World) (b0 b2 b4 b6 : Nat) (HB : Hid (Below w0.heap.size w0 w)) (F0 : Hid (w0.heap.size ≤ b0 ∧ Blk w b0 #[.int .u8 97] 5)) (F2 : Hid (w0.heap.size ≤ b2 ∧ Blk w b2 #[.int .u8 98, .int .u8 99] 5)) (F4 : Hid (Blk w b4 #[.slice (some ⟨b0, 0, none⟩) 1 1, .slice (some ⟨b2, 0, none⟩) 2 2] 41)) (F6 : Hid (w0.heap.size ≤ b6 ∧ Blk w b6 #[.int .u8 0, .int .u8 0, .int .u8 0, .int .u8 1, .int .u8 120, .int .u8 0, .int .u8 0, .int .u8 0, .int .u8 2, .int .u8 0, .int .u8 0, .int .u8 0, .int .u8 1, .int .u8 97, .int .u8 0, .int .u8 0, .int .u8 0, .int .u8 2, .int .u8 98, .int .u8 99] 5)) (c0 c3 c5 c6 c7 c8 c9 c10 c11 c12 c13 c14 c20 c23 c24 c25 c26 c27 c28 c29 c30 c31 c32 c33 c34 c35 c36 c37 : Value) :
    Goes Tryd.prog .any fxOps (NoPanic Q) (FxS g1) 17 #[true, true, true, true, true, false, true, true, false, false, false, false, false, false, false, false, false, false, false, false, false, false, false, false] ⟨#[c0, .pointer (some ⟨g1, 0, none⟩), .int .i64 0, c3, .int .i64 1, c5, c6, c7, c8, c9, c10, c11, c12, c13, c14, .slice (some ⟨b0, 0, none⟩) 1 1, .slice (some ⟨b0, 0, none⟩) 1 1, .slice (some ⟨b2, 0, none⟩) 2 2, .slice (some ⟨b2, 0, none⟩) 2 2, .slice (some ⟨b4, 0, none⟩) 2 2, c20, .slice (some ⟨b6, 0, none⟩) 20 20, .slice (some ⟨b6, 0, none⟩) 20 20, c23, c24, c25, c26, c27, c28, c29, c30, c31, c32, c33, c34, c35, c36, c37], []⟩ w := by
  refine Goes.one (i := 5) (o := ⟨some 20, _, _, _, _, _⟩) (by kernel_rfl) rfl (fun K hK => ?_)
  · skip
    have hc := as_r ⟨#[120]⟩ (some ⟨b4, 0, none⟩) 2 2 _ _ _ abc r w (abc_rows F0.out.2 F2.out.2 F4.out) ((on_kt HK.out) _ HB.out) (by decide) (fun r hr => by split <;> decide) (by decide) (by rw [abc_spelt]; exact HR.out)
    go_simp
    with_reducible refine hc.mono ?_
    clear hc
    rintro e wn ⟨rfl, hb⟩
    go_wp2_with fail
    have hm := Mkd.of HB.out hb
    refine hK.out _ _ (fxs_on H1.out hm.old _) ?_
    clear hK K
    try simp only [Act.put, List.setIfInBounds_toArray, List.set_cons_zero, List.set_cons_succ]
    exact fx_111111110 HK H1 HR HQ _ b0 b2 b4 b6 (hid hm.old) (hid ⟨F0.out.1, hm.blk _ _ _ F0.out.2⟩) (hid ⟨F2.out.1, hm.blk _ _ _ F2.out.2⟩) (hid (hm.blk _ _ _ F4.out)) (hid ⟨F6.out.1, hm.blk _ _ _ F6.out.2⟩) _ _ _ _ _ _ _ _ _ _ _ _ _ _ _ _ _ _ _ _ _ _ _ _ _ _ _
set_option maxRecDepth 100000 in
set_option maxHeartbeats 1000000 in
theorem fx_111111100 {w0 : World} {g1 : Nat} {r : List UInt8} {Q : Exit → Act → World → Prop} (HK : Hid (Kt w0)) (H1 : Hid (Nm w0 g1 0)) (HR : Hid (sha abc20 = r)) (HQ : Hid (∀ (c3 c5 c6 c7 c8 c9 c10 c11 c12 c13 c14 d15 d16 d17 d18 d19 d20 d21 d22 d23 d24 d25 d26 d27 d28 d29 d30 d31 d32 d33 d34 d35 d36 d37 : Value) (u : World), Below w0.heap.size w0 u → Q .normal ⟨#[.bool true, .pointer (some ⟨g1, 0, none⟩), .int .i64 0, c3, .int .i64 1, c5, c6, c7, c8, c9, c10, c11, c12, c13, c14, d15, d16, d17, d18, d19, d20, d21, d22, d23, d24, d25, d26, d27, d28, d29, d30, d31, d32, d33, d34, d35, d36, d37], []⟩ u)) (w : World) (b0 b2 b4 b6 : Nat) (HB : Hid (Below w0.heap.size w0 w)) (F0 : Hid (w0.heap.size ≤ b0 ∧ Blk w b0 #[.int .u8 97] 5)) (F2 : Hid (w0.heap.size ≤ b2 ∧ Blk w b2 #[.int .u8 98, .int .u8 99] 5)) (F4 : Hid (Blk w b4 #[.slice (some ⟨b0, 0, none⟩) 1 1, .slice (some ⟨b2, 0, none⟩) 2 2] 41)) (F6 : Hid (w0.heap.size ≤ b6 ∧ Blk w b6 #[.int .u8 0, .int .u8 0, .int .u8 0, .int .u8 1, .int .u8 120, .int .u8 0, .int .u8 0, .int .u8 0, .int .u8 2, .int .u8 0, .int .u8 0, .int .u8 0, .int .u8 1, .int .u8 97, .int .u8 0, .int .u8 0, .int .u8 0, .int .u8 2, .int .u8 98, .int .u8 99] 5)) (c0 c3 c5 c6 c7 c8 c9 c10 c11 c12 c13 c14 c22 c23 c24 c25 c26 c27 c28 c29 c30 c31 c32 c33 c34 c35 c36 c37 : Value) :
    Goes Tryd.prog .any fxOps (NoPanic Q) (FxS g1) 17 #[true, true, true, true, true, true, true, false, false, false, false, false, false, false, false, false, false, false, false, false, false, false, false, false] ⟨#[c0, .pointer (some ⟨g1, 0, none⟩), .int .i64 0, c3, .int .i64 1, c5, c6, c7, c8, c9, c10, c11, c12, c13, c14, .slice (some ⟨b0, 0, none⟩) 1 1, .slice (some ⟨b0, 0, none⟩) 1 1, .slice (some ⟨b2, 0, none⟩) 2 2, .slice (some ⟨b2, 0, none⟩) 2 2, .slice (some ⟨b4, 0, none⟩) 2 2, .agg (bvs r).toArray, .slice (some ⟨b6, 0, none⟩) 20 20, c22, c23, c24, c25, c26, c27, c28, c29, c30, c31, c32, c33, c34, c35, c36, c37], []⟩ w := by
  refine Goes.one (i := 7) (o := ⟨some 22, _, _, _, _, _⟩) (by kernel_rfl) rfl (fun K hK => ?_)
  · skip
    rw [if_pos (by rfl)]
    obtain ⟨wn, hrun, HM⟩ := conv_mark b6 20 _ rfl F6.out.1 F6.out.2 HB.out
    refine wp_convert (.tmp 21) (by rfl) _ (by rfl) _ wn hrun.out ?_
    have hm := HM.out
    refine hK.out _ _ (fxs_on H1.out hm.old _) ?_
    clear hK K
    try simp only [Act.put, List.setIfInBounds_toArray, List.set_cons_zero, List.set_cons_succ]
    exact fx_111111110 HK H1 HR HQ _ b0 b2 b4 b6 (hid hm.old) (hid ⟨F0.out.1, hm.blk _ _ _ F0.out.2⟩) (hid ⟨F2.out.1, hm.blk _ _ _ F2.out.2⟩) (hid (hm.blk _ _ _ F4.out)) (hid ⟨F6.out.1, hm.blk _ _ _ F6.out.2⟩) _ _ _ _ _ _ _ _ _ _ _ _ _ _ _ _ _ _ _ _ _ _ _ _ _ _ _
set_option maxRecDepth 100000 in
set_option maxHeartbeats 1000000 in
theorem fx_111100110 {w0 : World} {g1 : Nat} {r : List UInt8} {Q : Exit → Act → World → Prop} (HK : Hid (Kt w0)) (H1 : Hid (Nm w0 g1 0)) (HR : Hid (sha abc20 = r)) (HQ : Hid (∀ (c3 c5 c6 c7 c8 c9 c10 c11 c12 c13 c14 d15 d16 d17 d18 d19 d20 d21 d22 d23 d24 d25 d26 d27 d28 d29 d30 d31 d32 d33 d34 d35 d36 d37 : Value) (u : World), Below w0.heap.size w0 u → Q .normal ⟨#[.bool true, .pointer (some ⟨g1, 0, none⟩), .int .i64 0, c3, .int .i64 1, c5, c6, c7, c8, c9, c10, c11, c12, c13, c14, d15, d16, d17, d18, d19, d20, d21, d22, d23, d24, d25, d26, d27, d28, d29, d30, d31, d32, d33, d34, d35, d36, d37], []⟩ u)) (w : World) (b0 b2 b6 : Nat) (HB : Hid (Below w0.heap.size w0 w)) (F0 : Hid (w0.heap.size ≤ b0 ∧ Blk w b0 #[.int .u8 97] 5)) (F2 : Hid (w0.heap.size ≤ b2 ∧ Blk w b2 #[.int .u8 98, .int .u8 99] 5)) (F6 : Hid (w0.heap.size ≤ b6 ∧ Blk w b6 #[.int .u8 0, .int .u8 0, .int .u8 0, .int .u8 1, .int .u8 120, .int .u8 0, .int .u8 0, .int .u8 0, .int .u8 2, .int .u8 0, .int .u8 0, .int .u8 0, .int .u8 1, .int .u8 97, .int .u8 0, .int .u8 0, .int .u8 0, .int .u8 2, .int .u8 98, .int .u8 99] 5)) (c0 c3 c5 c6 c7 c8 c9 c10 c11 c12 c13 c14 c19 c20 c23 c24 c25 c26 c27 c28 c29 c30 c31 c32 c33 c34 c35 c36 c37 : Value) :
    Goes Tryd.prog .any fxOps (NoPanic Q) (FxS g1) 18 #[true, true, true, true, false, false, true, true, false, false, false, false, false, false, false, false, false, false, false, false, false, false, false, false] ⟨#[c0, .pointer (some ⟨g1, 0, none⟩), .int .i64 0, c3, .int .i64 1, c5, c6, c7, c8, c9, c10, c11, c12, c13, c14, .slice (some ⟨b0, 0, none⟩) 1 1, .slice (some ⟨b0, 0, none⟩) 1 1, .slice (some ⟨b2, 0, none⟩) 2 2, .slice (some ⟨b2, 0, none⟩) 2 2, c19, c20, .slice (some ⟨b6, 0, none⟩) 20 20, .slice (some ⟨b6, 0, none⟩) 20 20, c23, c24, c25, c26, c27, c28, c29, c30, c31, c32, c33, c34, c35, c36, c37], []⟩ w := by
  refine Goes.one (i := 4) (o := ⟨some 19, _, _, _, _, _⟩) (by kernel_rfl) rfl (fun K hK => ?_)
  · skip
    go_simp
    have hm := Mkd.of HB.out ((Below.refl w.heap.size w).alloc (Nat.le_refl _) (.cells #[.slice (some ⟨b0, 0, none⟩) 1 1, .slice (some ⟨b2, 0, none⟩) 2 2] 41))
    refine hK.out _ _ (fxs_on H1.out hm.old _) ?_
    clear hK K
    try simp only [Act.put, List.setIfInBounds_toArray, List.set_cons_zero, List.set_cons_succ]
    exact fx_111110110 HK H1 HR HQ _ b0 b2 w.heap.size b6 (hid hm.old) (hid ⟨F0.out.1, hm.blk _ _ _ F0.out.2⟩) (hid ⟨F2.out.1, hm.blk _ _ _ F2.out.2⟩) (hid (Blk.new w #[.slice (some ⟨b0, 0, none⟩) 1 1, .slice (some ⟨b2, 0, none⟩) 2 2] 41)) (hid ⟨F6.out.1, hm.blk _ _ _ F6.out.2⟩) _ _ _ _ _ _ _ _ _ _ _ _ _ _ _ _ _ _ _ _ _ _ _ _ _ _ _ _
set_option maxRecDepth 100000 in
set_option maxHeartbeats 1000000 in
theorem fx_111110100 {w0 : World} {g1 : Nat} {r : List UInt8} {Q : Exit → Act → World → Prop} (HK : Hid (Kt w0)) (H1 : Hid (Nm w0 g1 0)) (HR : Hid (sha abc20 = r)) (HQ : Hid (∀ (c3 c5 c6 c7 c8 c9 c10 c11 c12 c13 c14 d15 d16 d17 d18 d19 d20 d21 d22 d23 d24 d25 d26 d27 d28 d29 d30 d31 d32 d33 d34 d35 d36 d37 : Value) (u : World), Below w0.heap.size w0 u → Q .normal ⟨#[.bool true, .pointer (some ⟨g1, 0, none⟩), .int .i64 0, c3, .int .i64 1, c5, c6, c7, c8, c9, c10, c11, c12, c13, c14, d15, d16, d17, d18, d19, d20, d21, d22, d23, d24, d25, d26, d27, d28, d29, d30, d31, d32, d33, d34, d35, d36, d37], []⟩ u)) (w : World) (b0 b2 b4 b6 : Nat) (HB : Hid (Below w0.heap.size w0 w)) (F0 : Hid (w0.heap.size ≤ b0 ∧ Blk w b0 #[.int .u8 97] 5)) (F2 : Hid (w0.heap.size ≤ b2 ∧ Blk w b2 #[.int .u8 98, .int .u8 99] 5)) (F4 : Hid (Blk w b4 #[.slice (some ⟨b0, 0, none⟩) 1 1, .slice (some ⟨b2, 0, none⟩) 2 2] 41)) (F6 : Hid (w0.heap.size ≤ b6 ∧ Blk w b6 #[.int .u8 0, .int .u8 0, .int .u8 0, .int .u8 1, .int .u8 120, .int .u8 0, .int .u8 0, .int .u8 0, .int .u8 2, .int .u8 0, .int .u8 0, .int .u8 0, .int .u8 1, .int .u8 97, .int .u8 0, .int .u8 0, .int .u8 0, .int .u8 2, .int .u8 98, .int .u8 99] 5)) (c0 c3 c5 c6 c7 c8 c9 c10 c11 c12 c13 c14 c20 c22 c23 c24 c25 c26 c27 c28 c29 c30 c31 c32 c33 c34 c35 c36 c37 : Value) :
    Goes Tryd.prog .any fxOps (NoPanic Q) (FxS g1) 18 #[true, true, true, true, true, false, true, false, false, false, false, false, false, false, false, false, false, false, false, false, false, false, false, false] ⟨#[c0, .pointer (some ⟨g1, 0, none⟩), .int .i64 0, c3, .int .i64 1, c5, c6, c7, c8, c9, c10, c11, c12, c13, c14, .slice (some ⟨b0, 0, none⟩) 1 1, .slice (some ⟨b0, 0, none⟩) 1 1, .slice (some ⟨b2, 0, none⟩) 2 2, .slice (some ⟨b2, 0, none⟩) 2 2, .slice (some ⟨b4, 0, none⟩) 2 2, c20, .slice (some ⟨b6, 0, none⟩) 20 20, c22, c23, c24, c25, c26, c27, c28, c29, c30, c31, c32, c33, c34, c35, c36, c37], []⟩ w := by
  refine Goes.two (i := 5) (j := 7) (o := ⟨some 20, _, _, _, _, _⟩) (p := ⟨some 22, _, _, _, _, _⟩) (by kernel_rfl) rfl rfl (fun K hK => ?_) (fun K hK => ?_)
  · skip
    have hc := as_r ⟨#[120]⟩ (some ⟨b4, 0, none⟩) 2 2 _ _ _ abc r w (abc_rows F0.out.2 F2.out.2 F4.out) ((on_kt HK.out) _ HB.out) (by decide) (fun r hr => by split <;> decide) (by decide) (by rw [abc_spelt]; exact HR.out)
    go_simp
    with_reducible refine hc.mono ?_
    clear hc
    rintro e wn ⟨rfl, hb⟩
    go_wp2_with fail
    have hm := Mkd.of HB.out hb
    refine hK.out _ _ (fxs_on H1.out hm.old _) ?_
    clear hK K
    try simp only [Act.put, List.setIfInBounds_toArray, List.set_cons_zero, List.set_cons_succ]
    exact fx_111111100 HK H1 HR HQ _ b0 b2 b4 b6 (hid hm.old) (hid ⟨F0.out.1, hm.blk _ _ _ F0.out.2⟩) (hid ⟨F2.out.1, hm.blk _ _ _ F2.out.2⟩) (hid (hm.blk _ _ _ F4.out)) (hid ⟨F6.out.1, hm.blk _ _ _ F6.out.2⟩) _ _ _ _ _ _ _ _ _ _ _ _ _ _ _ _ _ _ _ _ _ _ _ _ _ _ _ _
  · skip
    rw [if_pos (by rfl)]
    obtain ⟨wn, hrun, HM⟩ := conv_mark b6 20 _ rfl F6.out.1 F6.out.2 HB.out
    refine wp_convert (.tmp 21) (by rfl) _ (by rfl) _ wn hrun.out ?_
    have hm := HM.out
    refine hK.out _ _ (fxs_on H1.out hm.old _) ?_
    clear hK K
    try simp only [Act.put, List.setIfInBounds_toArray, List.set_cons_zero, List.set_cons_succ]
    exact fx_111110110 HK H1 HR HQ _ b0 b2 b4 b6 (hid hm.old) (hid ⟨F0.out.1, hm.blk _ _ _ F0.out.2⟩) (hid ⟨F2.out.1, hm.blk _ _ _ F2.out.2⟩) (hid (hm.blk _ _ _ F4.out)) (hid ⟨F6.out.1, hm.blk _ _ _ F6.out.2⟩) _ _ _ _ _ _ _ _ _ _ _ _ _ _ _ _ _ _ _ _ _ _ _ _ _ _ _ _
set_option maxRecDepth 100000 in
set_option maxHeartbeats 1000000 in
theorem fx_111111000 {w0 : World} {g1 : Nat} {r : List UInt8} {Q : Exit → Act → World → Prop} (HK : Hid (Kt w0)) (H1 : Hid (Nm w0 g1 0)) (HR : Hid (sha abc20 = r)) (HQ : Hid (∀ (c3 c5 c6 c7 c8 c9 c10 c11 c12 c13 c14 d15 d16 d17 d18 d19 d20 d21 d22 d23 d24 d25 d26 d27 d28 d29 d30 d31 d32 d33 d34 d35 d36 d37 : Value) (u : World), Below w0.heap.size w0 u → Q .normal ⟨#[.bool true, .pointer (some ⟨g1, 0, none⟩), .int .i64 0, c3, .int .i64 1, c5, c6, c7, c8, c9, c10, c11, c12, c13, c14, d15, d16, d17, d18, d19, d20, d21, d22, d23, d24, d25, d26, d27, d28, d29, d30, d31, d32, d33, d34, d35, d36, d37], []⟩ u)) (w : World) (b0 b2 b4 : Nat) (HB : Hid (Below w0.heap.size w0 w)) (F0 : Hid (w0.heap.size ≤ b0 ∧ Blk w b0 #[.int .u8 97] 5)) (F2 : Hid (w0.heap.size ≤ b2 ∧ Blk w b2 #[.int .u8 98, .int .u8 99] 5)) (F4 : Hid (Blk w b4 #[.slice (some ⟨b0, 0, none⟩) 1 1, .slice (some ⟨b2, 0, none⟩) 2 2] 41)) (c0 c3 c5 c6 c7 c8 c9 c10 c11 c12 c13 c14 c21 c22 c23 c24 c25 c26 c27 c28 c29 c30 c31 c32 c33 c34 c35 c36 c37 : Value) :
    Goes Tryd.prog .any fxOps (NoPanic Q) (FxS g1) 18 #[true, true, true, true, true, true, false, false, false, false, false, false, false, false, false, false, false, false, false, false, false, false, false, false] ⟨#[c0, .pointer (some ⟨g1, 0, none⟩), .int .i64 0, c3, .int .i64 1, c5, c6, c7, c8, c9, c10, c11, c12, c13, c14, .slice (some ⟨b0, 0, none⟩) 1 1, .slice (some ⟨b0, 0, none⟩) 1 1, .slice (some ⟨b2, 0, none⟩) 2 2, .slice (some ⟨b2, 0, none⟩) 2 2, .slice (some ⟨b4, 0, none⟩) 2 2, .agg (bvs r).toArray, c21, c22, c23, c24, c25, c26, c27, c28, c29, c30, c31, c32, c33, c34, c35, c36, c37], []⟩ w := by
  refine Goes.one (i := 6) (o := ⟨some 21, _, _, _, _, _⟩) (by kernel_rfl) rfl (fun K hK => ?_)
  · skip
    go_simp
    have hm := Mkd.of HB.out ((Below.refl w.heap.size w).alloc (Nat.le_refl _) (.cells #[.int .u8 0, .int .u8 0, .int .u8 0, .int .u8 1, .int .u8 120, .int .u8 0, .int .u8 0, .int .u8 0, .int .u8 2, .int .u8 0, .int .u8 0, .int .u8 0, .int .u8 1, .int .u8 97, .int .u8 0, .int .u8 0, .int .u8 0, .int .u8 2, .int .u8 98, .int .u8 99] 5))
    refine hK.out _ _ (fxs_on H1.out hm.old _) ?_
    clear hK K
    try simp only [Act.put, List.setIfInBounds_toArray, List.set_cons_zero, List.set_cons_succ]
    exact fx_111111100 HK H1 HR HQ _ b0 b2 b4 w.heap.size (hid hm.old) (hid ⟨F0.out.1, hm.blk _ _ _ F0.out.2⟩) (hid ⟨F2.out.1, hm.blk _ _ _ F2.out.2⟩) (hid (hm.blk _ _ _ F4.out)) (hid ⟨HB.out.size, Blk.new w #[.int .u8 0, .int .u8 0, .int .u8 0, .int .u8 1, .int .u8 120, .int .u8 0, .int .u8 0, .int .u8 0, .int .u8 2, .int .u8 0, .int .u8 0, .int .u8 0, .int .u8 1, .int .u8 97, .int .u8 0, .int .u8 0, .int .u8 0, .int .u8 2, .int .u8 98, .int .u8 99] 5⟩) _ _ _ _ _ _ _ _ _ _ _ _ _ _ _ _ _ _ _ _ _ _ _ _ _ _ _ _
set_option maxRecDepth 100000 in
set_option maxHeartbeats 1000000 in
theorem fx_101100110 {w0 : World} {g1 : Nat} {r : List UInt8} {Q : Exit → Act → World → Prop} (HK : Hid (Kt w0)) (H1 : Hid (Nm w0 g1 0)) (HR : Hid (sha abc20 = r)) (HQ : Hid (∀ (c3 c5 c6 c7 c8 c9 c10 c11 c12 c13 c14 d15 d16 d17 d18 d19 d20 d21 d22 d23 d24 d25 d26 d27 d28 d29 d30 d31 d32 d33 d34 d35 d36 d37 : Value) (u : World), Below w0.heap.size w0 u → Q .normal ⟨#[.bool true, .pointer (some ⟨g1, 0, none⟩), .int .i64 0, c3, .int .i64 1, c5, c6, c7, c8, c9, c10, c11, c12, c13, c14, d15, d16, d17, d18, d19, d20, d21, d22, d23, d24, d25, d26, d27, d28, d29, d30, d31, d32, d33, d34, d35, d36, d37], []⟩ u)) (w : World) (b0 b2 b6 : Nat) (HB : Hid (Below w0.heap.size w0 w)) (F0 : Hid (w0.heap.size ≤ b0 ∧ Blk w b0 #[.int .u8 97] 5)) (F2 : Hid (w0.heap.size ≤ b2 ∧ Blk w b2 #[.int .u8 98, .int .u8 99] 5)) (F6 : Hid (w0.heap.size ≤ b6 ∧ Blk w b6 #[.int .u8 0, .int .u8 0, .int .u8 0, .int .u8 1, .int .u8 120, .int .u8 0, .int .u8 0, .int .u8 0, .int .u8 2, .int .u8 0, .int .u8 0, .int .u8 0, .int .u8 1, .int .u8 97, .int .u8 0, .int .u8 0, .int .u8 0, .int .u8 2, .int .u8 98, .int .u8 99] 5)) (c0 c3 c5 c6 c7 c8 c9 c10 c11 c12 c13 c14 c16 c19 c20 c23 c24 c25 c26 c27 c28 c29 c30 c31 c32 c33 c34 c35 c36 c37 : Value) :
    Goes Tryd.prog .any fxOps (NoPanic Q) (FxS g1) 19 #[true, false, true, true, false, false, true, true, false, false, false, false, false, false, false, false, false, false, false, false, false, false, false, false] ⟨#[c0, .pointer (some ⟨g1, 0, none⟩), .int .i64 0, c3, .int .i64 1, c5, c6, c7, c8, c9, c10, c11, c12, c13, c14, .slice (some ⟨b0, 0, none⟩) 1 1, c16, .slice (some ⟨b2, 0, none⟩) 2 2, .slice (some ⟨b2, 0, none⟩) 2 2, c19, c20, .slice (some ⟨b6, 0, none⟩) 20 20, .slice (some ⟨b6, 0, none⟩) 20 20, c23, c24, c25, c26, c27, c28, c29, c30, c31, c32, c33, c34, c35, c36, c37], []⟩ w := by
  refine Goes.one (i := 1) (o := ⟨some 16, _, _, _, _, _⟩) (by kernel_rfl) rfl (fun K hK => ?_)
  · skip
    rw [if_pos (by rfl)]
    obtain ⟨wn, hrun, HM⟩ := conv_mark b0 1 _ rfl F0.out.1 F0.out.2 HB.out
    refine wp_convert (.tmp 15) (by rfl) _ (by rfl) _ wn hrun.out ?_
    have hm := HM.out
    refine hK.out _ _ (fxs_on H1.out hm.old _) ?_
    clear hK K
    try simp only [Act.put, List.setIfInBounds_toArray, List.set_cons_zero, List.set_cons_succ]
    exact fx_111100110 HK H1 HR HQ _ b0 b2 b6 (hid hm.old) (hid ⟨F0.out.1, hm.blk _ _ _ F0.out.2⟩) (hid ⟨F2.out.1, hm.blk _ _ _ F2.out.2⟩) (hid ⟨F6.out.1, hm.blk _ _ _ F6.out.2⟩) _ _ _ _ _ _ _ _ _ _ _ _ _ _ _ _ _ _ _ _ _ _ _ _ _ _ _ _ _
set_option maxRecDepth 100000 in
set_option maxHeartbeats 1000000 in
theorem fx_111000110 {w0 : World} {g1 : Nat} {r : List UInt8} {Q : Exit → Act → World → Prop} (HK : Hid (Kt w0)) (H1 : Hid (Nm w0 g1 0)) (HR : Hid (sha abc20 = r)) (HQ : Hid (∀ (c3 c5 c6 c7 c8 c9 c10 c11 c12 c13 c14 d15 d16 d17 d18 d19 d20 d21 d22 d23 d24 d25 d26 d27 d28 d29 d30 d31 d32 d33 d34 d35 d36 d37 : Value) (u : World), Below w0.heap.size w0 u → Q .normal ⟨#[.bool true, .pointer (some ⟨g1, 0, none⟩), .int .i64 0, c3, .int .i64 1, c5, c6, c7, c8, c9, c10, c11, c12, c13, c14, d15, d16, d17, d18, d19, d20, d21, d22, d23, d24, d25, d26, d27, d28, d29, d30, d31, d32, d33, d34, d35, d36, d37], []⟩ u)) (w : World) (b0 b2 b6 : Nat) (HB : Hid (Below w0.heap.size w0 w)) (F0 : Hid (w0.heap.size ≤ b0 ∧ Blk w b0 #[.int .u8 97] 5)) (F2 : Hid (w0.heap.size ≤ b2 ∧ Blk w b2 #[.int .u8 98, .int .u8 99] 5)) (F6 : Hid (w0.heap.size ≤ b6 ∧ Blk w b6 #[.int .u8 0, .int .u8 0, .int .u8 0, .int .u8 1, .int .u8 120, .int .u8 0, .int .u8 0, .int .u8 0, .int .u8 2, .int .u8 0, .int .u8 0, .int .u8 0, .int .u8 1, .int .u8 97, .int .u8 0, .int .u8 0, .int .u8 0, .int .u8 2, .int .u8 98, .int .u8 99] 5)) (c0 c3 c5 c6 c7 c8 c9 c10 c11 c12 c13 c14 c18 c19 c20 c23 c24 c25 c26 c27 c28 c29 c30 c31 c32 c33 c34 c35 c36 c37 : Value) :
    Goes Tryd.prog .any fxOps (NoPanic Q) (FxS g1) 19 #[true, true, true, false, false, false, true, true, false, false, false, false, false, false, false, false, false, false, false, false, false, false, false, false] ⟨#[c0, .pointer (some ⟨g1, 0, none⟩), .int .i64 0, c3, .int .i64 1, c5, c6, c7, c8, c9, c10, c11, c12, c13, c14, .slice (some ⟨b0, 0, none⟩) 1 1, .slice (some ⟨b0, 0, none⟩) 1 1, .slice (some ⟨b2, 0, none⟩) 2 2, c18, c19, c20, .slice (some ⟨b6, 0, none⟩) 20 20, .slice (some ⟨b6, 0, none⟩) 20 20, c23, c24, c25, c26, c27, c28, c29, c30, c31, c32, c33, c34, c35, c36, c37], []⟩ w := by
  refine Goes.one (i := 3) (o := ⟨some 18, _, _, _, _, _⟩) (by kernel_rfl) rfl (fun K hK => ?_)
  · skip
    rw [if_pos (by rfl)]
    obtain ⟨wn, hrun, HM⟩ := conv_mark b2 2 _ rfl F2.out.1 F2.out.2 HB.out
    refine wp_convert (.tmp 17) (by rfl) _ (by rfl) _ wn hrun.out ?_
    have hm := HM.out
    refine hK.out _ _ (fxs_on H1.out hm.old _) ?_
    clear hK K
    try simp only [Act.put, List.setIfInBounds_toArray, List.set_cons_zero, List.set_cons_succ]
    exact fx_111100110 HK H1 HR HQ _ b0 b2 b6 (hid hm.old) (hid ⟨F0.out.1, hm.blk _ _ _ F0.out.2⟩) (hid ⟨F2.out.1, hm.blk _ _ _ F2.out.2⟩) (hid ⟨F6.out.1, hm.blk _ _ _ F6.out.2⟩) _ _ _ _ _ _ _ _ _ _ _ _ _ _ _ _ _ _ _ _ _ _ _ _ _ _ _ _ _
set_option maxRecDepth 100000 in
set_option maxHeartbeats 1000000 in
theorem fx_111100100 {w0 : World} {g1 : Nat} {r : List UInt8} {Q : Exit → Act → World → Prop} (HK : Hid (Kt w0)) (H1 : Hid (Nm w0 g1 0)) (HR : Hid (sha abc20 = r)) (HQ : Hid (∀ (c3 c5 c6 c7 c8 c9 c10 c11 c12 c13 c14 d15 d16 d17 d18 d19 d20 d21 d22 d23 d24 d25 d26 d27 d28 d29 d30 d31 d32 d33 d34 d35 d36 d37 : Value) (u : World), Below w0.heap.size w0 u → Q .normal ⟨#[.bool true, .pointer (some ⟨g1, 0, none⟩), .int .i64 0, c3, .int .i64 1, c5, c6, c7, c8, c9, c10, c11, c12, c13, c14, d15, d16, d17, d18, d19, d20, d21, d22, d23, d24, d25, d26, d27, d28, d29, d30, d31, d32, d33, d34, d35, d36, d37], []⟩ u)) (w : World) (b0 b2 b6 : Nat) (HB : Hid (Below w0.heap.size w0 w)) (F0 : Hid (w0.heap.size ≤ b0 ∧ Blk w b0 #[.int .u8 97] 5)) (F2 : Hid (w0.heap.size ≤ b2 ∧ Blk w b2 #[.int .u8 98, .int .u8 99] 5)) (F6 : Hid (w0.heap.size ≤ b6 ∧ Blk w b6 #[.int .u8 0, .int .u8 0, .int .u8 0, .int .u8 1, .int .u8 120, .int .u8 0, .int .u8 0, .int .u8 0, .int .u8 2, .int .u8 0, .int .u8 0, .int .u8 0, .int .u8 1, .int .u8 97, .int .u8 0, .int .u8 0, .int .u8 0, .int .u8 2, .int .u8 98, .int .u8 99] 5)) (c0 c3 c5 c6 c7 c8 c9 c10 c11 c12 c13 c14 c19 c20 c22 c23 c24 c25 c26 c27 c28 c29 c30 c31 c32 c33 c34 c35 c36 c37 : Value) :
    Goes Tryd.prog .any fxOps (NoPanic Q) (FxS g1) 19 #[true, true, true, true, false, false, true, false, false, false, false, false, false, false, false, false, false, false, false, false, false, false, false, false] ⟨#[c0, .pointer (some ⟨g1, 0, none⟩), .int .i64 0, c3, .int .i64 1, c5, c6, c7, c8, c9, c10, c11, c12, c13, c14, .slice (some ⟨b0, 0, none⟩) 1 1, .slice (some ⟨b0, 0, none⟩) 1 1, .slice (some ⟨b2, 0, none⟩) 2 2, .slice (some ⟨b2, 0, none⟩) 2 2, c19, c20, .slice (some ⟨b6, 0, none⟩) 20 20, c22, c23, c24, c25, c26, c27, c28, c29, c30, c31, c32, c33, c34, c35, c36, c37], []⟩ w := by
  refine Goes.two (i := 4) (j := 7) (o := ⟨some 19, _, _, _, _, _⟩) (p := ⟨some 22, _, _, _, _, _⟩) (by kernel_rfl) rfl rfl (fun K hK => ?_) (fun K hK => ?_)
  · skip
    go_simp
    have hm := Mkd.of HB.out ((Below.refl w.heap.size w).alloc (Nat.le_refl _) (.cells #[.slice (some ⟨b0, 0, none⟩) 1 1, .slice (some ⟨b2, 0, none⟩) 2 2] 41))
    refine hK.out _ _ (fxs_on H1.out hm.old _) ?_
    clear hK K
    try simp only [Act.put, List.setIfInBounds_toArray, List.set_cons_zero, List.set_cons_succ]
    exact fx_111110100 HK H1 HR HQ _ b0 b2 w.heap.size b6 (hid hm.old) (hid ⟨F0.out.1, hm.blk _ _ _ F0.out.2⟩) (hid ⟨F2.out.1, hm.blk _ _ _ F2.out.2⟩) (hid (Blk.new w #[.slice (some ⟨b0, 0, none⟩) 1 1, .slice (some ⟨b2, 0, none⟩) 2 2] 41)) (hid ⟨F6.out.1, hm.blk _ _ _ F6.out.2⟩) _ _ _ _ _ _ _ _ _ _ _ _ _ _ _ _ _ _ _ _ _ _ _ _ _ _ _ _ _
  · skip
    rw [if_pos (by rfl)]
    obtain ⟨wn, hrun, HM⟩ := conv_mark b6 20 _ rfl F6.out.1 F6.out.2 HB.out
    refine wp_convert (.tmp 21) (by rfl) _ (by rfl) _ wn hrun.out ?_
    have hm := HM.out
    refine hK.out _ _ (fxs_on H1.out hm.old _) ?_
    clear hK K
    try simp only [Act.put, List.setIfInBounds_toArray, List.set_cons_zero, List.set_cons_succ]
    exact fx_111100110 HK H1 HR HQ _ b0 b2 b6 (hid hm.old) (hid ⟨F0.out.1, hm.blk _ _ _ F0.out.2⟩) (hid ⟨F2.out.1, hm.blk _ _ _ F2.out.2⟩) (hid ⟨F6.out.1, hm.blk _ _ _ F6.out.2⟩) _ _ _ _ _ _ _ _ _ _ _ _ _ _ _ _ _ _ _ _ _ _ _ _ _ _ _ _ _
set_option maxRecDepth 100000 in
set_option maxHeartbeats 1000000 in
theorem fx_111110000 {w0 : World} {g1 : Nat} {r : List UInt8} {Q : Exit → Act → World → Prop} (HK : Hid (Kt w0)) (H1 : Hid (Nm w0 g1 0)) (HR : Hid (sha abc20 = r)) (HQ : Hid (∀ (c3 c5 c6 c7 c8 c9 c10 c11 c12 c13 c14 d15 d16 d17 d18 d19 d20 d21 d22 d23 d24 d25 d26 d27 d28 d29 d30 d31 d32 d33 d34 d35 d36 d37 : Value) (u : World), Below w0.heap.size w0 u → Q .normal ⟨#[.bool true, .pointer (some ⟨g1, 0, none⟩), .int .i64 0, c3, .int .i64 1, c5, c6, c7, c8, c9, c10, c11, c12, c13, c14, d15, d16, d17, d18, d19, d20, d21, d22, d23, d24, d25, d26, d27, d28, d29, d30, d31, d32, d33, d34, d35, d36, d37], []⟩ u)) (w : World) (b0 b2 b4 : Nat) (HB : Hid (Below w0.heap.size w0 w)) (F0 : Hid (w0.heap.size ≤ b0 ∧ Blk w b0 #[.int .u8 97] 5)) (F2 : Hid (w0.heap.size ≤ b2 ∧ Blk w b2 #[.int .u8 98, .int .u8 99] 5)) (F4 : Hid (Blk w b4 #[.slice (some ⟨b0, 0, none⟩) 1 1, .slice (some ⟨b2, 0, none⟩) 2 2] 41)) (c0 c3 c5 c6 c7 c8 c9 c10 c11 c12 c13 c14 c20 c21 c22 c23 c24 c25 c26 c27 c28 c29 c30 c31 c32 c33 c34 c35 c36 c37 : Value) :
    Goes Tryd.prog .any fxOps (NoPanic Q) (FxS g1) 19 #[true, true, true, true, true, false, false, false, false, false, false, false, false, false, false, false, false, false, false, false, false, false, false, false] ⟨#[c0, .pointer (some ⟨g1, 0, none⟩), .int .i64 0, c3, .int .i64 1, c5, c6, c7, c8, c9, c10, c11, c12, c13, c14, .slice (some ⟨b0, 0, none⟩) 1 1, .slice (some ⟨b0, 0, none⟩) 1 1, .slice (some ⟨b2, 0, none⟩) 2 2, .slice (some ⟨b2, 0, none⟩) 2 2, .slice (some ⟨b4, 0, none⟩) 2 2, c20, c21, c22, c23, c24, c25, c26, c27, c28, c29, c30, c31, c32, c33, c34, c35, c36, c37], []⟩ w := by
  refine Goes.two (i := 5) (j := 6) (o := ⟨some 20, _, _, _, _, _⟩) (p := ⟨some 21, _, _, _, _, _⟩) (by kernel_rfl) rfl rfl (fun K hK => ?_) (fun K hK => ?_)
  · skip
    have hc := as_r ⟨#[120]⟩ (some ⟨b4, 0, none⟩) 2 2 _ _ _ abc r w (abc_rows F0.out.2 F2.out.2 F4.out) ((on_kt HK.out) _ HB.out) (by decide) (fun r hr => by split <;> decide) (by decide) (by rw [abc_spelt]; exact HR.out)
    go_simp
    with_reducible refine hc.mono ?_
    clear hc
    rintro e wn ⟨rfl, hb⟩
    go_wp2_with fail
    have hm := Mkd.of HB.out hb
    refine hK.out _ _ (fxs_on H1.out hm.old _) ?_
    clear hK K
    try simp only [Act.put, List.setIfInBounds_toArray, List.set_cons_zero, List.set_cons_succ]
    exact fx_111111000 HK H1 HR HQ _ b0 b2 b4 (hid hm.old) (hid ⟨F0.out.1, hm.blk _ _ _ F0.out.2⟩) (hid ⟨F2.out.1, hm.blk _ _ _ F2.out.2⟩) (hid (hm.blk _ _ _ F4.out)) _ _ _ _ _ _ _ _ _ _ _ _ _ _ _ _ _ _ _ _ _ _ _ _ _ _ _ _ _
  · skip
    go_simp
    have hm := Mkd.of HB.out ((Below.refl w.heap.size w).alloc (Nat.le_refl _) (.cells #[.int .u8 0, .int .u8 0, .int .u8 0, .int .u8 1, .int .u8 120, .int .u8 0, .int .u8 0, .int .u8 0, .int .u8 2, .int .u8 0, .int .u8 0, .int .u8 0, .int .u8 1, .int .u8 97, .int .u8 0, .int .u8 0, .int .u8 0, .int .u8 2, .int .u8 98, .int .u8 99] 5))
    refine hK.out _ _ (fxs_on H1.out hm.old _) ?_
    clear hK K
    try simp only [Act.put, List.setIfInBounds_toArray, List.set_cons_zero, List.set_cons_succ]
    exact fx_111110100 HK H1 HR HQ _ b0 b2 b4 w.heap.size (hid hm.old) (hid ⟨F0.out.1, hm.blk _ _ _ F0.out.2⟩) (hid ⟨F2.out.1, hm.blk _ _ _ F2.out.2⟩) (hid (hm.blk _ _ _ F4.out)) (hid ⟨HB.out.size, Blk.new w #[.int .u8 0, .int .u8 0, .int .u8 0, .int .u8 1, .int .u8 120, .int .u8 0, .int .u8 0, .int .u8 0, .int .u8 2, .int .u8 0, .int .u8 0, .int .u8 0, .int .u8 1, .int .u8 97, .int .u8 0, .int .u8 0, .int .u8 0, .int .u8 2, .int .u8 98, .int .u8 99] 5⟩) _ _ _ _ _ _ _ _ _ _ _ _ _ _ _ _ _ _ _ _ _ _ _ _ _ _ _ _ _
set_option maxRecDepth 100000 in
set_option maxHeartbeats 1000000 in
theorem fx_001100110 {w0 : World} {g1 : Nat} {r : List UInt8} {Q : Exit → Act → World → Prop} (HK : Hid (Kt w0)) (H1 : Hid (Nm w0 g1 0)) (HR : Hid (sha abc20 = r)) (HQ : Hid (∀ (c3 c5 c6 c7 c8 c9 c10 c11 c12 c13 c14 d15 d16 d17 d18 d19 d20 d21 d22 d23 d24 d25 d26 d27 d28 d29 d30 d31 d32 d33 d34 d35 d36 d37 : Value) (u : World), Below w0.heap.size w0 u → Q .normal ⟨#[.bool true, .pointer (some ⟨g1, 0, none⟩), .int .i64 0, c3, .int .i64 1, c5, c6, c7, c8, c9, c10, c11, c12, c13, c14, d15, d16, d17, d18, d19, d20, d21, d22, d23, d24, d25, d26, d27, d28, d29, d30, d31, d32, d33, d34, d35, d36, d37], []⟩ u)) (w : World) (b2 b6 : Nat) (HB : Hid (Below w0.heap.size w0 w)) (F2 : Hid (w0.heap.size ≤ b2 ∧ Blk w b2 #[.int .u8 98, .int .u8 99] 5)) (F6 : Hid (w0.heap.size ≤ b6 ∧ Blk w b6 #[.int .u8 0, .int .u8 0, .int .u8 0, .int .u8 1, .int .u8 120, .int .u8 0, .int .u8 0, .int .u8 0, .int .u8 2, .int .u8 0, .int .u8 0, .int .u8 0, .int .u8 1, .int .u8 97, .int .u8 0, .int .u8 0, .int .u8 0, .int .u8 2, .int .u8 98, .int .u8 99] 5)) (c0 c3 c5 c6 c7 c8 c9 c10 c11 c12 c13 c14 c15 c16 c19 c20 c23 c24 c25 c26 c27 c28 c29 c30 c31 c32 c33 c34 c35 c36 c37 : Value) :
    Goes Tryd.prog .any fxOps (NoPanic Q) (FxS g1) 20 #[false, false, true, true, false, false, true, true, false, false, false, false, false, false, false, false, false, false, false, false, false, false, false, false] ⟨#[c0, .pointer (some ⟨g1, 0, none⟩), .int .i64 0, c3, .int .i64 1, c5, c6, c7, c8, c9, c10, c11, c12, c13, c14, c15, c16, .slice (some ⟨b2, 0, none⟩) 2 2, .slice (some ⟨b2, 0, none⟩) 2 2, c19, c20, .slice (some ⟨b6, 0, none⟩) 20 20, .slice (some ⟨b6, 0, none⟩) 20 20, c23, c24, c25, c26, c27, c28, c29, c30, c31, c32, c33, c34, c35, c36, c37], []⟩ w := by
  refine Goes.one (i := 0) (o := ⟨some 15, _, _, _, _, _⟩) (by kernel_rfl) rfl (fun K hK => ?_)
  · skip
    go_simp
    have hm := Mkd.of HB.out ((Below.refl w.heap.size w).alloc (Nat.le_refl _) (.cells #[.int .u8 97] 5))
    refine hK.out _ _ (fxs_on H1.out hm.old _) ?_
    clear hK K
    try simp only [Act.put, List.setIfInBounds_toArray, List.set_cons_zero, List.set_cons_succ]
    exact fx_101100110 HK H1 HR HQ _ w.heap.size b2 b6 (hid hm.old) (hid ⟨HB.out.size, Blk.new w #[.int .u8 97] 5⟩) (hid ⟨F2.out.1, hm.blk _ _ _ F2.out.2⟩) (hid ⟨F6.out.1, hm.blk _ _ _ F6.out.2⟩) _ _ _ _ _ _ _ _ _ _ _ _ _ _ _ _ _ _ _ _ _ _ _ _ _ _ _ _ _ _
set_option maxRecDepth 100000 in
set_option maxHeartbeats 1000000 in
theorem fx_101000110 {w0 : World} {g1 : Nat} {r : List UInt8} {Q : Exit → Act → World → Prop} (HK : Hid (Kt w0)) (H1 : Hid (Nm w0 g1 0)) (HR : Hid (sha abc20 = r)) (HQ : Hid (∀ (c3 c5 c6 c7 c8 c9 c10 c11 c12 c13 c14 d15 d16 d17 d18 d19 d20 d21 d22 d23 d24 d25 d26 d27 d28 d29 d30 d31 d32 d33 d34 d35 d36 d37 : Value) (u : World), Below w0.heap.size w0 u → Q .normal ⟨#[.bool true, .pointer (some ⟨g1, 0, none⟩), .int .i64 0, c3, .int .i64 1, c5, c6, c7, c8, c9, c10, c11, c12, c13, c14, d15, d16, d17, d18, d19, d20, d21, d22, d23, d24, d25, d26, d27, d28, d29, d30, d31, d32, d33, d34, d35, d36, d37], []⟩ u)) (w : World) (b0 b2 b6 : Nat) (HB : Hid (Below w0.heap.size w0 w)) (F0 : Hid (w0.heap.size ≤ b0 ∧ Blk w b0 #[.int .u8 97] 5)) (F2 : Hid (w0.heap.size ≤ b2 ∧ Blk w b2 #[.int .u8 98, .int .u8 99] 5)) (F6 : Hid (w0.heap.size ≤ b6 ∧ Blk w b6 #[.int .u8 0, .int .u8 0, .int .u8 0, .int .u8 1, .int .u8 120, .int .u8 0, .int .u8 0, .int .u8 0, .int .u8 2, .int .u8 0, .int .u8 0, .int .u8 0, .int .u8 1, .int .u8 97, .int .u8 0, .int .u8 0, .int .u8 0, .int .u8 2, .int .u8 98, .int .u8 99] 5)) (c0 c3 c5 c6 c7 c8 c9 c10 c11 c12 c13 c14 c16 c18 c19 c20 c23 c24 c25 c26 c27 c28 c29 c30 c31 c32 c33 c34 c35 c36 c37 : Value) :
    Goes Tryd.prog .any fxOps (NoPanic Q) (FxS g1) 20 #[true, false, true, false, false, false, true, true, false, false, false, false, false, false, false, false, false, false, false, false, false, false, false, false] ⟨#[c0, .pointer (some ⟨g1, 0, none⟩), .int .i64 0, c3, .int .i64 1, c5, c6, c7, c8, c9, c10, c11, c12, c13, c14, .slice (some ⟨b0, 0, none⟩) 1 1, c16, .slice (some ⟨b2, 0, none⟩) 2 2, c18, c19, c20, .slice (some ⟨b6, 0, none⟩) 20 20, .slice (some ⟨b6, 0, none⟩) 20 20, c23, c24, c25, c26, c27, c28, c29, c30, c31, c32, c33, c34, c35, c36, c37], []⟩ w := by
  refine Goes.two (i := 1) (j := 3) (o := ⟨some 16, _, _, _, _, _⟩) (p := ⟨some 18, _, _, _, _, _⟩) (by kernel_rfl) rfl rfl (fun K hK => ?_) (fun K hK => ?_)
  · skip
    rw [if_pos (by rfl)]
    obtain ⟨wn, hrun, HM⟩ := conv_mark b0 1 _ rfl F0.out.1 F0.out.2 HB.out
    refine wp_convert (.tmp 15) (by rfl) _ (by rfl) _ wn hrun.out ?_
    have hm := HM.out
    refine hK.out _ _ (fxs_on H1.out hm.old _) ?_
    clear hK K
    try simp only [Act.put, List.setIfInBounds_toArray, List.set_cons_zero, List.set_cons_succ]
    exact fx_111000110 HK H1 HR HQ _ b0 b2 b6 (hid hm.old) (hid ⟨F0.out.1, hm.blk _ _ _ F0.out.2⟩) (hid ⟨F2.out.1, hm.blk _ _ _ F2.out.2⟩) (hid ⟨F6.out.1, hm.blk _ _ _ F6.out.2⟩) _ _ _ _ _ _ _ _ _ _ _ _ _ _ _ _ _ _ _ _ _ _ _ _ _ _ _ _ _ _
  · skip
    rw [if_pos (by rfl)]
    obtain ⟨wn, hrun, HM⟩ := conv_mark b2 2 _ rfl F2.out.1 F2.out.2 HB.out
    refine wp_convert (.tmp 17) (by rfl) _ (by rfl) _ wn hrun.out ?_
    have hm := HM.out
    refine hK.out _ _ (fxs_on H1.out hm.old _) ?_
    clear hK K
    try simp only [Act.put, List.setIfInBounds_toArray, List.set_cons_zero, List.set_cons_succ]
    exact fx_101100110 HK H1 HR HQ _ b0 b2 b6 (hid hm.old) (hid ⟨F0.out.1, hm.blk _ _ _ F0.out.2⟩) (hid ⟨F2.out.1, hm.blk _ _ _ F2.out.2⟩) (hid ⟨F6.out.1, hm.blk _ _ _ F6.out.2⟩) _ _ _ _ _ _ _ _ _ _ _ _ _ _ _ _ _ _ _ _ _ _ _ _ _ _ _ _ _ _
set_option maxRecDepth 100000 in
set_option maxHeartbeats 1000000 in
theorem fx_110000110 {w0 : World} {g1 : Nat} {r : List UInt8} {Q : Exit → Act → World → Prop} (HK : Hid (Kt w0)) (H1 : Hid (Nm w0 g1 0)) (HR : Hid (sha abc20 = r)) (HQ : Hid (∀ (c3 c5 c6 c7 c8 c9 c10 c11 c12 c13 c14 d15 d16 d17 d18 d19 d20 d21 d22 d23 d24 d25 d26 d27 d28 d29 d30 d31 d32 d33 d34 d35 d36 d37 : Value) (u : World), Below w0.heap.size w0 u → Q .normal ⟨#[.bool true, .pointer (some ⟨g1, 0, none⟩), .int .i64 0, c3, .int .i64 1, c5, c6, c7, c8, c9, c10, c11, c12, c13, c14, d15, d16, d17, d18, d19, d20, d21, d22, d23, d24, d25, d26, d27, d28, d29, d30, d31, d32, d33, d34, d35, d36, d37], []⟩ u)) (w : World) (b0 b6 : Nat) (HB : Hid (Below w0.heap.size w0 w)) (F0 : Hid (w0.heap.size ≤ b0 ∧ Blk w b0 #[.int .u8 97] 5)) (F6 : Hid (w0.heap.size ≤ b6 ∧ Blk w b6 #[.int .u8 0, .int .u8 0, .int .u8 0, .int .u8 1, .int .u8 120, .int .u8 0, .int .u8 0, .int .u8 0, .int .u8 2, .int .u8 0, .int .u8 0, .int .u8 0, .int .u8 1, .int .u8 97, .int .u8 0, .int .u8 0, .int .u8 0, .int .u8 2, .int .u8 98, .int .u8 99] 5)) (c0 c3 c5 c6 c7 c8 c9 c10 c11 c12 c13 c14 c17 c18 c19 c20 c23 c24 c25 c26 c27 c28 c29 c30 c31 c32 c33 c34 c35 c36 c37 : Value) :
    Goes Tryd.prog .any fxOps (NoPanic Q) (FxS g1) 20 #[true, true, false, false, false, false, true, true, false, false, false, false, false, false, false, false, false, false, false, false, false, false, false, false] ⟨#[c0, .pointer (some ⟨g1, 0, none⟩), .int .i64 0, c3, .int .i64 1, c5, c6, c7, c8, c9, c10, c11, c12, c13, c14, .slice (some ⟨b0, 0, none⟩) 1 1, .slice (some ⟨b0, 0, none⟩) 1 1, c17, c18, c19, c20, .slice (some ⟨b6, 0, none⟩) 20 20, .slice (some ⟨b6, 0, none⟩) 20 20, c23, c24, c25, c26, c27, c28, c29, c30, c31, c32, c33, c34, c35, c36, c37], []⟩ w := by
  refine Goes.one (i := 2) (o := ⟨some 17, _, _, _, _, _⟩) (by kernel_rfl) rfl (fun K hK => ?_)
  · skip
    go_simp
    have hm := Mkd.of HB.out ((Below.refl w.heap.size w).alloc (Nat.le_refl _) (.cells #[.int .u8 98, .int .u8 99] 5))
    refine hK.out _ _ (fxs_on H1.out hm.old _) ?_
    clear hK K
    try simp only [Act.put, List.setIfInBounds_toArray, List.set_cons_zero, List.set_cons_succ]
    exact fx_111000110 HK H1 HR HQ _ b0 w.heap.size b6 (hid hm.old) (hid ⟨F0.out.1, hm.blk _ _ _ F0.out.2⟩) (hid ⟨HB.out.size, Blk.new w #[.int .u8 98, .int .u8 99] 5⟩) (hid ⟨F6.out.1, hm.blk _ _ _ F6.out.2⟩) _ _ _ _ _ _ _ _ _ _ _ _ _ _ _ _ _ _ _ _ _ _ _ _ _ _ _ _ _ _
set_option maxRecDepth 100000 in
set_option maxHeartbeats 1000000 in
theorem fx_101100100 {w0 : World} {g1 : Nat} {r : List UInt8} {Q : Exit → Act → World → Prop} (HK : Hid (Kt w0)) (H1 : Hid (Nm w0 g1 0)) (HR : Hid (sha abc20 = r)) (HQ : Hid (∀ (c3 c5 c6 c7 c8 c9 c10 c11 c12 c13 c14 d15 d16 d17 d18 d19 d20 d21 d22 d23 d24 d25 d26 d27 d28 d29 d30 d31 d32 d33 d34 d35 d36 d37 : Value) (u : World), Below w0.heap.size w0 u → Q .normal ⟨#[.bool true, .pointer (some ⟨g1, 0, none⟩), .int .i64 0, c3, .int .i64 1, c5, c6, c7, c8, c9, c10, c11, c12, c13, c14, d15, d16, d17, d18, d19, d20, d21, d22, d23, d24, d25, d26, d27, d28, d29, d30, d31, d32, d33, d34, d35, d36, d37], []⟩ u)) (w : World) (b0 b2 b6 : Nat) (HB : Hid (Below w0.heap.size w0 w)) (F0 : Hid (w0.heap.size ≤ b0 ∧ Blk w b0 #[.int .u8 97] 5)) (F2 : Hid (w0.heap.size ≤ b2 ∧ Blk w b2 #[.int .u8 98, .int .u8 99] 5)) (F6 : Hid (w0.heap.size ≤ b6 ∧ Blk w b6 #[.int .u8 0, .int .u8 0, .int .u8 0, .int .u8 1, .int .u8 120, .int .u8 0, .int .u8 0, .int .u8 0, .int .u8 2, .int .u8 0, .int .u8 0, .int .u8 0, .int .u8 1, .int .u8 97, .int .u8 0, .int .u8 0, .int .u8 0, .int .u8 2, .int .u8 98, .int .u8 99] 5)) (c0 c3 c5 c6 c7 c8 c9 c10 c11 c12 c13 c14 c16 c19 c20 c22 c23 c24 c25 c26 c27 c28 c29 c30 c31 c32 c33 c34 c35 c36 c37 : Value) :
    Goes Tryd.prog .any fxOps (NoPanic Q) (FxS g1) 20 #[true, false, true, true, false, false, true, false, false, false, false, false, false, false, false, false, false, false, false, false, false, false, false, false] ⟨#[c0, .pointer (some ⟨g1, 0, none⟩), .int .i64 0, c3, .int .i64 1, c5, c6, c7, c8, c9, c10, c11, c12, c13, c14, .slice (some ⟨b0, 0, none⟩) 1 1, c16, .slice (some ⟨b2, 0, none⟩) 2 2, .slice (some ⟨b2, 0, none⟩) 2 2, c19, c20, .slice (some ⟨b6, 0, none⟩) 20 20, c22, c23, c24, c25, c26, c27, c28, c29, c30, c31, c32, c33, c34, c35, c36, c37], []⟩ w := by
  refine Goes.two (i := 1) (j := 7) (o := ⟨some 16, _, _, _, _, _⟩) (p := ⟨some 22, _, _, _, _, _⟩) (by kernel_rfl) rfl rfl (fun K hK => ?_) (fun K hK => ?_)
  · skip
    rw [if_pos (by rfl)]
    obtain ⟨wn, hrun, HM⟩ := conv_mark b0 1 _ rfl F0.out.1 F0.out.2 HB.out
    refine wp_convert (.tmp 15) (by rfl) _ (by rfl) _ wn hrun.out ?_
    have hm := HM.out
    refine hK.out _ _ (fxs_on H1.out hm.old _) ?_
    clear hK K
    try simp only [Act.put, List.setIfInBounds_toArray, List.set_cons_zero, List.set_cons_succ]
    exact fx_111100100 HK H1 HR HQ _ b0 b2 b6 (hid hm.old) (hid ⟨F0.out.1, hm.blk _ _ _ F0.out.2⟩) (hid ⟨F2.out.1, hm.blk _ _ _ F2.out.2⟩) (hid ⟨F6.out.1, hm.blk _ _ _ F6.out.2⟩) _ _ _ _ _ _ _ _ _ _ _ _ _ _ _ _ _ _ _ _ _ _ _ _ _ _ _ _ _ _
  · skip
    rw [if_pos (by rfl)]
    obtain ⟨wn, hrun, HM⟩ := conv_mark b6 20 _ rfl F6.out.1 F6.out.2 HB.out
    refine wp_convert (.tmp 21) (by rfl) _ (by rfl) _ wn hrun.out ?_
    have hm := HM.out
    refine hK.out _ _ (fxs_on H1.out hm.old _) ?_
    clear hK K
    try simp only [Act.put, List.setIfInBounds_toArray, List.set_cons_zero, List.set_cons_succ]
    exact fx_101100110 HK H1 HR HQ _ b0 b2 b6 (hid hm.old) (hid ⟨F0.out.1, hm.blk _ _ _ F0.out.2⟩) (hid ⟨F2.out.1, hm.blk _ _ _ F2.out.2⟩) (hid ⟨F6.out.1, hm.blk _ _ _ F6.out.2⟩) _ _ _ _ _ _ _ _ _ _ _ _ _ _ _ _ _ _ _ _ _ _ _ _ _ _ _ _ _ _
set_option maxRecDepth 100000 in
set_option maxHeartbeats 1000000 in
theorem fx_111000100 {w0 : World} {g1 : Nat} {r : List UInt8} {Q : Exit → Act → World → Prop} (HK : Hid (Kt w0)) (H1 : Hid (Nm w0 g1 0)) (HR : Hid (sha abc20 = r)) (HQ : Hid (∀ (c3 c5 c6 c7 c8 c9 c10 c11 c12 c13 c14 d15 d16 d17 d18 d19 d20 d21 d22 d23 d24 d25 d26 d27 d28 d29 d30 d31 d32 d33 d34 d35 d36 d37 : Value) (u : World), Below w0.heap.size w0 u → Q .normal ⟨#[.bool true, .pointer (some ⟨g1, 0, none⟩), .int .i64 0, c3, .int .i64 1, c5, c6, c7, c8, c9, c10, c11, c12, c13, c14, d15, d16, d17, d18, d19, d20, d21, d22, d23, d24, d25, d26, d27, d28, d29, d30, d31, d32, d33, d34, d35, d36, d37], []⟩ u)) (w : World) (b0 b2 b6 : Nat) (HB : Hid (Below w0.heap.size w0 w)) (F0 : Hid (w0.heap.size ≤ b0 ∧ Blk w b0 #[.int .u8 97] 5)) (F2 : Hid (w0.heap.size ≤ b2 ∧ Blk w b2 #[.int .u8 98, .int .u8 99] 5)) (F6 : Hid (w0.heap.size ≤ b6 ∧ Blk w b6 #[.int .u8 0, .int .u8 0, .int .u8 0, .int .u8 1, .int .u8 120, .int .u8 0, .int .u8 0, .int .u8 0, .int .u8 2, .int .u8 0, .int .u8 0, .int .u8 0, .int .u8 1, .int .u8 97, .int .u8 0, .int .u8 0, .int .u8 0, .int .u8 2, .int .u8 98, .int .u8 99] 5)) (c0 c3 c5 c6 c7 c8 c9 c10 c11 c12 c13 c14 c18 c19 c20 c22 c23 c24 c25 c26 c27 c28 c29 c30 c31 c32 c33 c34 c35 c36 c37 : Value) :
    Goes Tryd.prog .any fxOps (NoPanic Q) (FxS g1) 20 #[true, true, true, false, false, false, true, false, false, false, false, false, false, false, false, false, false, false, false, false, false, false, false, false] ⟨#[c0, .pointer (some ⟨g1, 0, none⟩), .int .i64 0, c3, .int .i64 1, c5, c6, c7, c8, c9, c10, c11, c12, c13, c14, .slice (some ⟨b0, 0, none⟩) 1 1, .slice (some ⟨b0, 0, none⟩) 1 1, .slice (some ⟨b2, 0, none⟩) 2 2, c18, c19, c20, .slice (some ⟨b6, 0, none⟩) 20 20, c22, c23, c24, c25, c26, c27, c28, c29, c30, c31, c32, c33, c34, c35, c36, c37], []⟩ w := by
  refine Goes.two (i := 3) (j := 7) (o := ⟨some 18, _, _, _, _, _⟩) (p := ⟨some 22, _, _, _, _, _⟩) (by kernel_rfl) rfl rfl (fun K hK => ?_) (fun K hK => ?_)
  · skip
    rw [if_pos (by rfl)]
    obtain ⟨wn, hrun, HM⟩ := conv_mark b2 2 _ rfl F2.out.1 F2.out.2 HB.out
    refine wp_convert (.tmp 17) (by rfl) _ (by rfl) _ wn hrun.out ?_
    have hm := HM.out
    refine hK.out _ _ (fxs_on H1.out hm.old _) ?_
    clear hK K
    try simp only [Act.put, List.setIfInBounds_toArray, List.set_cons_zero, List.set_cons_succ]
    exact fx_111100100 HK H1 HR HQ _ b0 b2 b6 (hid hm.old) (hid ⟨F0.out.1, hm.blk _ _ _ F0.out.2⟩) (hid ⟨F2.out.1, hm.blk _ _ _ F2.out.2⟩) (hid ⟨F6.out.1, hm.blk _ _ _ F6.out.2⟩) _ _ _ _ _ _ _ _ _ _ _ _ _ _ _ _ _ _ _ _ _ _ _ _ _ _ _ _ _ _
  · skip
    rw [if_pos (by rfl)]
    obtain ⟨wn, hrun, HM⟩ := conv_mark b6 20 _ rfl F6.out.1 F6.out.2 HB.out
    refine wp_convert (.tmp 21) (by rfl) _ (by rfl) _ wn hrun.out ?_
    have hm := HM.out
    refine hK.out _ _ (fxs_on H1.out hm.old _) ?_
    clear hK K
    try simp only [Act.put, List.setIfInBounds_toArray, List.set_cons_zero, List.set_cons_succ]
    exact fx_111000110 HK H1 HR HQ _ b0 b2 b6 (hid hm.old) (hid ⟨F0.out.1, hm.blk _ _ _ F0.out.2⟩) (hid ⟨F2.out.1, hm.blk _ _ _ F2.out.2⟩) (hid ⟨F6.out.1, hm.blk _ _ _ F6.out.2⟩) _ _ _ _ _ _ _ _ _ _ _ _ _ _ _ _ _ _ _ _ _ _ _ _ _ _ _ _ _ _
set_option maxRecDepth 100000 in
set_option maxHeartbeats 1000000 in
theorem fx_111100000 {w0 : World} {g1 : Nat} {r : List UInt8} {Q : Exit → Act → World → Prop} (HK : Hid (Kt w0)) (H1 : Hid (Nm w0 g1 0)) (HR : Hid (sha abc20 = r)) (HQ : Hid (∀ (c3 c5 c6 c7 c8 c9 c10 c11 c12 c13 c14 d15 d16 d17 d18 d19 d20 d21 d22 d23 d24 d25 d26 d27 d28 d29 d30 d31 d32 d33 d34 d35 d36 d37 : Value) (u : World), Below w0.heap.size w0 u → Q .normal ⟨#[.bool true, .pointer (some ⟨g1, 0, none⟩), .int .i64 0, c3, .int .i64 1, c5, c6, c7, c8, c9, c10, c11, c12, c13, c14, d15, d16, d17, d18, d19, d20, d21, d22, d23, d24, d25, d26, d27, d28, d29, d30, d31, d32, d33, d34, d35, d36, d37], []⟩ u)) (w : World) (b0 b2 : Nat) (HB : Hid (Below w0.heap.size w0 w)) (F0 : Hid (w0.heap.size ≤ b0 ∧ Blk w b0 #[.int .u8 97] 5)) (F2 : Hid (w0.heap.size ≤ b2 ∧ Blk w b2 #[.int .u8 98, .int .u8 99] 5)) (c0 c3 c5 c6 c7 c8 c9 c10 c11 c12 c13 c14 c19 c20 c21 c22 c23 c24 c25 c26 c27 c28 c29 c30 c31 c32 c33 c34 c35 c36 c37 : Value) :
    Goes Tryd.prog .any fxOps (NoPanic Q) (FxS g1) 20 #[true, true, true, true, false, false, false, false, false, false, false, false, false, false, false, false, false, false, false, false, false, false, false, false] ⟨#[c0, .pointer (some ⟨g1, 0, none⟩), .int .i64 0, c3, .int .i64 1, c5, c6, c7, c8, c9, c10, c11, c12, c13, c14, .slice (some ⟨b0, 0, none⟩) 1 1, .slice (some ⟨b0, 0, none⟩) 1 1, .slice (some ⟨b2, 0, none⟩) 2 2, .slice (some ⟨b2, 0, none⟩) 2 2, c19, c20, c21, c22, c23, c24, c25, c26, c27, c28, c29, c30, c31, c32, c33, c34, c35, c36, c37], []⟩ w := by
  refine Goes.two (i := 4) (j := 6) (o := ⟨some 19, _, _, _, _, _⟩) (p := ⟨some 21, _, _, _, _, _⟩) (by kernel_rfl) rfl rfl (fun K hK => ?_) (fun K hK => ?_)
  · skip
    go_simp
    have hm := Mkd.of HB.out ((Below.refl w.heap.size w).alloc (Nat.le_refl _) (.cells #[.slice (some ⟨b0, 0, none⟩) 1 1, .slice (some ⟨b2, 0, none⟩) 2 2] 41))
    refine hK.out _ _ (fxs_on H1.out hm.old _) ?_
    clear hK K
    try simp only [Act.put, List.setIfInBounds_toArray, List.set_cons_zero, List.set_cons_succ]
    exact fx_111110000 HK H1 HR HQ _ b0 b2 w.heap.size (hid hm.old) (hid ⟨F0.out.1, hm.blk _ _ _ F0.out.2⟩) (hid ⟨F2.out.1, hm.blk _ _ _ F2.out.2⟩) (hid (Blk.new w #[.slice (some ⟨b0, 0, none⟩) 1 1, .slice (some ⟨b2, 0, none⟩) 2 2] 41)) _ _ _ _ _ _ _ _ _ _ _ _ _ _ _ _ _ _ _ _ _ _ _ _ _ _ _ _ _ _
  · skip
    go_simp
    have hm := Mkd.of HB.out ((Below.refl w.heap.size w).alloc (Nat.le_refl _) (.cells #[.int .u8 0, .int .u8 0, .int .u8 0, .int .u8 1, .int .u8 120, .int .u8 0, .int .u8 0, .int .u8 0, .int .u8 2, .int .u8 0, .int .u8 0, .int .u8 0, .int .u8 1, .int .u8 97, .int .u8 0, .int .u8 0, .int .u8 0, .int .u8 2, .int .u8 98, .int .u8 99] 5))
    refine hK.out _ _ (fxs_on H1.out hm.old _) ?_
    clear hK K
    try simp only [Act.put, List.setIfInBounds_toArray, List.set_cons_zero, List.set_cons_succ]
    exact fx_111100100 HK H1 HR HQ _ b0 b2 w.heap.size (hid hm.old) (hid ⟨F0.out.1, hm.blk _ _ _ F0.out.2⟩) (hid ⟨F2.out.1, hm.blk _ _ _ F2.out.2⟩) (hid ⟨HB.out.size, Blk.new w #[.int .u8 0, .int .u8 0, .int .u8 0, .int .u8 1, .int .u8 120, .int .u8 0, .int .u8 0, .int .u8 0, .int .u8 2, .int .u8 0, .int .u8 0, .int .u8 0, .int .u8 1, .int .u8 97, .int .u8 0, .int .u8 0, .int .u8 0, .int .u8 2, .int .u8 98, .int .u8 99] 5⟩) _ _ _ _ _ _ _ _ _ _ _ _ _ _ _ _ _ _ _ _ _ _ _ _ _ _ _ _ _ _
set_option maxRecDepth 100000 in
set_option maxHeartbeats 1000000 in
theorem fx_001000110 {w0 : World} {g1 : Nat} {r : List UInt8} {Q : Exit → Act → World → Prop} (HK : Hid (Kt w0)) (H1 : Hid (Nm w0 g1 0)) (HR : Hid (sha abc20 = r)) (HQ : Hid (∀ (c3 c5 c6 c7 c8 c9 c10 c11 c12 c13 c14 d15 d16 d17 d18 d19 d20 d21 d22 d23 d24 d25 d26 d27 d28 d29 d30 d31 d32 d33 d34 d35 d36 d37 : Value) (u : World), Below w0.heap.size w0 u → Q .normal ⟨#[.bool true, .pointer (some ⟨g1, 0, none⟩), .int .i64 0, c3, .int .i64 1, c5, c6, c7, c8, c9, c10, c11, c12, c13, c14, d15, d16, d17, d18, d19, d20, d21, d22, d23, d24, d25, d26, d27, d28, d29, d30, d31, d32, d33, d34, d35, d36, d37], []⟩ u)) (w : World) (b2 b6 : Nat) (HB : Hid (Below w0.heap.size w0 w)) (F2 : Hid (w0.heap.size ≤ b2 ∧ Blk w b2 #[.int .u8 98, .int .u8 99] 5)) (F6 : Hid (w0.heap.size ≤ b6 ∧ Blk w b6 #[.int .u8 0, .int .u8 0, .int .u8 0, .int .u8 1, .int .u8 120, .int .u8 0, .int .u8 0, .int .u8 0, .int .u8 2, .int .u8 0, .int .u8 0, .int .u8 0, .int .u8 1, .int .u8 97, .int .u8 0, .int .u8 0, .int .u8 0, .int .u8 2, .int .u8 98, .int .u8 99] 5)) (c0 c3 c5 c6 c7 c8 c9 c10 c11 c12 c13 c14 c15 c16 c18 c19 c20 c23 c24 c25 c26 c27 c28 c29 c30 c31 c32 c33 c34 c35 c36 c37 : Value) :
    Goes Tryd.prog .any fxOps (NoPanic Q) (FxS g1) 21 #[false, false, true, false, false, false, true, true, false, false, false, false, false, false, false, false, false, false, false, false, false, false, false, false] ⟨#[c0, .pointer (some ⟨g1, 0, none⟩), .int .i64 0, c3, .int .i64 1, c5, c6, c7, c8, c9, c10, c11, c12, c13, c14, c15, c16, .slice (some ⟨b2, 0, none⟩) 2 2, c18, c19, c20, .slice (some ⟨b6, 0, none⟩) 20 20, .slice (some ⟨b6, 0, none⟩) 20 20, c23, c24, c25, c26, c27, c28, c29, c30, c31, c32, c33, c34, c35, c36, c37], []⟩ w := by
  refine Goes.two (i := 0) (j := 3) (o := ⟨some 15, _, _, _, _, _⟩) (p := ⟨some 18, _, _, _, _, _⟩) (by kernel_rfl) rfl rfl (fun K hK => ?_) (fun K hK => ?_)
  · skip
    go_simp
    have hm := Mkd.of HB.out ((Below.refl w.heap.size w).alloc (Nat.le_refl _) (.cells #[.int .u8 97] 5))
    refine hK.out _ _ (fxs_on H1.out hm.old _) ?_
    clear hK K
    try simp only [Act.put, List.setIfInBounds_toArray, List.set_cons_zero, List.set_cons_succ]
    exact fx_101000110 HK H1 HR HQ _ w.heap.size b2 b6 (hid hm.old) (hid ⟨HB.out.size, Blk.new w #[.int .u8 97] 5⟩) (hid ⟨F2.out.1, hm.blk _ _ _ F2.out.2⟩) (hid ⟨F6.out.1, hm.blk _ _ _ F6.out.2⟩) _ _ _ _ _ _ _ _ _ _ _ _ _ _ _ _ _ _ _ _ _ _ _ _ _ _ _ _ _ _ _
  · skip
    rw [if_pos (by rfl)]
    obtain ⟨wn, hrun, HM⟩ := conv_mark b2 2 _ rfl F2.out.1 F2.out.2 HB.out
    refine wp_convert (.tmp 17) (by rfl) _ (by rfl) _ wn hrun.out ?_
    have hm := HM.out
    refine hK.out _ _ (fxs_on H1.out hm.old _) ?_
    clear hK K
    try simp only [Act.put, List.setIfInBounds_toArray, List.set_cons_zero, List.set_cons_succ]
    exact fx_001100110 HK H1 HR HQ _ b2 b6 (hid hm.old) (hid ⟨F2.out.1, hm.blk _ _ _ F2.out.2⟩) (hid ⟨F6.out.1, hm.blk _ _ _ F6.out.2⟩) _ _ _ _ _ _ _ _ _ _ _ _ _ _ _ _ _ _ _ _ _ _ _ _ _ _ _ _ _ _ _
set_option maxRecDepth 100000 in
set_option maxHeartbeats 1000000 in
theorem fx_100000110 {w0 : World} {g1 : Nat} {r : List UInt8} {Q : Exit → Act → World → Prop} (HK : Hid (Kt w0)) (H1 : Hid (Nm w0 g1 0)) (HR : Hid (sha abc20 = r)) (HQ : Hid (∀ (c3 c5 c6 c7 c8 c9 c10 c11 c12 c13 c14 d15 d16 d17 d18 d19 d20 d21 d22 d23 d24 d25 d26 d27 d28 d29 d30 d31 d32 d33 d34 d35 d36 d37 : Value) (u : World), Below w0.heap.size w0 u → Q .normal ⟨#[.bool true, .pointer (some ⟨g1, 0, none⟩), .int .i64 0, c3, .int .i64 1, c5, c6, c7, c8, c9, c10, c11, c12, c13, c14, d15, d16, d17, d18, d19, d20, d21, d22, d23, d24, d25, d26, d27, d28, d29, d30, d31, d32, d33, d34, d35, d36, d37], []⟩ u)) (w : World) (b0 b6 : Nat) (HB : Hid (Below w0.heap.size w0 w)) (F0 : Hid (w0.heap.size ≤ b0 ∧ Blk w b0 #[.int .u8 97] 5)) (F6 : Hid (w0.heap.size ≤ b6 ∧ Blk w b6 #[.int .u8 0, .int .u8 0, .int .u8 0, .int .u8 1, .int .u8 120, .int .u8 0, .int .u8 0, .int .u8 0, .int .u8 2, .int .u8 0, .int .u8 0, .int .u8 0, .int .u8 1, .int .u8 97, .int .u8 0, .int .u8 0, .int .u8 0, .int .u8 2, .int .u8 98, .int .u8 99] 5)) (c0 c3 c5 c6 c7 c8 c9 c10 c11 c12 c13 c14 c16 c17 c18 c19 c20 c23 c24 c25 c26 c27 c28 c29 c30 c31 c32 c33 c34 c35 c36 c37 : Value) :
    Goes Tryd.prog .any fxOps (NoPanic Q) (FxS g1) 21 #[true, false, false, false, false, false, true, true, false, false, false, false, false, false, false, false, false, false, false, false, false, false, false, false] ⟨#[c0, .pointer (some ⟨g1, 0, none⟩), .int .i64 0, c3, .int .i64 1, c5, c6, c7, c8, c9, c10, c11, c12, c13, c14, .slice (some ⟨b0, 0, none⟩) 1 1, c16, c17, c18, c19, c20, .slice (some ⟨b6, 0, none⟩) 20 20, .slice (some ⟨b6, 0, none⟩) 20 20, c23, c24, c25, c26, c27, c28, c29, c30, c31, c32, c33, c34, c35, c36, c37], []⟩ w := by
  refine Goes.two (i := 1) (j := 2) (o := ⟨some 16, _, _, _, _, _⟩) (p := ⟨some 17, _, _, _, _, _⟩) (by kernel_rfl) rfl rfl (fun K hK => ?_) (fun K hK => ?_)
  · skip
    rw [if_pos (by rfl)]
    obtain ⟨wn, hrun, HM⟩ := conv_mark b0 1 _ rfl F0.out.1 F0.out.2 HB.out
    refine wp_convert (.tmp 15) (by rfl) _ (by rfl) _ wn hrun.out ?_
    have hm := HM.out
    refine hK.out _ _ (fxs_on H1.out hm.old _) ?_
    clear hK K
    try simp only [Act.put, List.setIfInBounds_toArray, List.set_cons_zero, List.set_cons_succ]
    exact fx_110000110 HK H1 HR HQ _ b0 b6 (hid hm.old) (hid ⟨F0.out.1, hm.blk _ _ _ F0.out.2⟩) (hid ⟨F6.out.1, hm.blk _ _ _ F6.out.2⟩) _ _ _ _ _ _ _ _ _ _ _ _ _ _ _ _ _ _ _ _ _ _ _ _ _ _ _ _ _ _ _
  · skip
    go_simp
    have hm := Mkd.of HB.out ((Below.refl w.heap.size w).alloc (Nat.le_refl _) (.cells #[.int .u8 98, .int .u8 99] 5))
    refine hK.out _ _ (fxs_on H1.out hm.old _) ?_
    clear hK K
    try simp only [Act.put, List.setIfInBounds_toArray, List.set_cons_zero, List.set_cons_succ]
    exact fx_101000110 HK H1 HR HQ _ b0 w.heap.size b6 (hid hm.old) (hid ⟨F0.out.1, hm.blk _ _ _ F0.out.2⟩) (hid ⟨HB.out.size, Blk.new w #[.int .u8 98, .int .u8 99] 5⟩) (hid ⟨F6.out.1, hm.blk _ _ _ F6.out.2⟩) _ _ _ _ _ _ _ _ _ _ _ _ _ _ _ _ _ _ _ _ _ _ _ _ _ _ _ _ _ _ _
set_option maxRecDepth 100000 in
set_option maxHeartbeats 1000000 in
theorem fx_001100100 {w0 : World} {g1 : Nat} {r : List UInt8} {Q : Exit → Act → World → Prop} (HK : Hid (Kt w0)) (H1 : Hid (Nm w0 g1 0)) (HR : Hid (sha abc20 = r)) (HQ : Hid (∀ (c3 c5 c6 c7 c8 c9 c10 c11 c12 c13 c14 d15 d16 d17 d18 d19 d20 d21 d22 d23 d24 d25 d26 d27 d28 d29 d30 d31 d32 d33 d34 d35 d36 d37 : Value) (u : World), Below w0.heap.size w0 u → Q .normal ⟨#[.bool true, .pointer (some ⟨g1, 0, none⟩), .int .i64 0, c3, .int .i64 1, c5, c6, c7, c8, c9, c10, c11, c12, c13, c14, d15, d16, d17, d18, d19, d20, d21, d22, d23, d24, d25, d26, d27, d28, d29, d30, d31, d32, d33, d34, d35, d36, d37], []⟩ u)) (w : World) (b2 b6 : Nat) (HB : Hid (Below w0.heap.size w0 w)) (F2 : Hid (w0.heap.size ≤ b2 ∧ Blk w b2 #[.int .u8 98, .int .u8 99] 5)) (F6 : Hid (w0.heap.size ≤ b6 ∧ Blk w b6 #[.int .u8 0, .int .u8 0, .int .u8 0, .int .u8 1, .int .u8 120, .int .u8 0, .int .u8 0, .int .u8 0, .int .u8 2, .int .u8 0, .int .u8 0, .int .u8 0, .int .u8 1, .int .u8 97, .int .u8 0, .int .u8 0, .int .u8 0, .int .u8 2, .int .u8 98, .int .u8 99] 5)) (c0 c3 c5 c6 c7 c8 c9 c10 c11 c12 c13 c14 c15 c16 c19 c20 c22 c23 c24 c25 c26 c27 c28 c29 c30 c31 c32 c33 c34 c35 c36 c37 : Value) :
    Goes Tryd.prog .any fxOps (NoPanic Q) (FxS g1) 21 #[false, false, true, true, false, false, true, false, false, false, false, false, false, false, false, false, false, false, false, false, false, false, false, false] ⟨#[c0, .pointer (some ⟨g1, 0, none⟩), .int .i64 0, c3, .int .i64 1, c5, c6, c7, c8, c9, c10, c11, c12, c13, c14, c15, c16, .slice (some ⟨b2, 0, none⟩) 2 2, .slice (some ⟨b2, 0, none⟩) 2 2, c19, c20, .slice (some ⟨b6, 0, none⟩) 20 20, c22, c23, c24, c25, c26, c27, c28, c29, c30, c31, c32, c33, c34, c35, c36, c37], []⟩ w := by
  refine Goes.two (i := 0) (j := 7) (o := ⟨some 15, _, _, _, _, _⟩) (p := ⟨some 22, _, _, _, _, _⟩) (by kernel_rfl) rfl rfl (fun K hK => ?_) (fun K hK => ?_)
  · skip
    go_simp
    have hm := Mkd.of HB.out ((Below.refl w.heap.size w).alloc (Nat.le_refl _) (.cells #[.int .u8 97] 5))
    refine hK.out _ _ (fxs_on H1.out hm.old _) ?_
    clear hK K
    try simp only [Act.put, List.setIfInBounds_toArray, List.set_cons_zero, List.set_cons_succ]
    exact fx_101100100 HK H1 HR HQ _ w.heap.size b2 b6 (hid hm.old) (hid ⟨HB.out.size, Blk.new w #[.int .u8 97] 5⟩) (hid ⟨F2.out.1, hm.blk _ _ _ F2.out.2⟩) (hid ⟨F6.out.1, hm.blk _ _ _ F6.out.2⟩) _ _ _ _ _ _ _ _ _ _ _ _ _ _ _ _ _ _ _ _ _ _ _ _ _ _ _ _ _ _ _
  · skip
    rw [if_pos (by rfl)]
    obtain ⟨wn, hrun, HM⟩ := conv_mark b6 20 _ rfl F6.out.1 F6.out.2 HB.out
    refine wp_convert (.tmp 21) (by rfl) _ (by rfl) _ wn hrun.out ?_
    have hm := HM.out
    refine hK.out _ _ (fxs_on H1.out hm.old _) ?_
    clear hK K
    try simp only [Act.put, List.setIfInBounds_toArray, List.set_cons_zero, List.set_cons_succ]
    exact fx_001100110 HK H1 HR HQ _ b2 b6 (hid hm.old) (hid ⟨F2.out.1, hm.blk _ _ _ F2.out.2⟩) (hid ⟨F6.out.1, hm.blk _ _ _ F6.out.2⟩) _ _ _ _ _ _ _ _ _ _ _ _ _ _ _ _ _ _ _ _ _ _ _ _ _ _ _ _ _ _ _
set_option maxRecDepth 100000 in
set_option maxHeartbeats 1000000 in
theorem fx_101000100 {w0 : World} {g1 : Nat} {r : List UInt8} {Q : Exit → Act → World → Prop} (HK : Hid (Kt w0)) (H1 : Hid (Nm w0 g1 0)) (HR : Hid (sha abc20 = r)) (HQ : Hid (∀ (c3 c5 c6 c7 c8 c9 c10 c11 c12 c13 c14 d15 d16 d17 d18 d19 d20 d21 d22 d23 d24 d25 d26 d27 d28 d29 d30 d31 d32 d33 d34 d35 d36 d37 : Value) (u : World), Below w0.heap.size w0 u → Q .normal ⟨#[.bool true, .pointer (some ⟨g1, 0, none⟩), .int .i64 0, c3, .int .i64 1, c5, c6, c7, c8, c9, c10, c11, c12, c13, c14, d15, d16, d17, d18, d19, d20, d21, d22, d23, d24, d25, d26, d27, d28, d29, d30, d31, d32, d33, d34, d35, d36, d37], []⟩ u)) (w : World) (b0 b2 b6 : Nat) (HB : Hid (Below w0.heap.size w0 w)) (F0 : Hid (w0.heap.size ≤ b0 ∧ Blk w b0 #[.int .u8 97] 5)) (F2 : Hid (w0.heap.size ≤ b2 ∧ Blk w b2 #[.int .u8 98, .int .u8 99] 5)) (F6 : Hid (w0.heap.size ≤ b6 ∧ Blk w b6 #[.int .u8 0, .int .u8 0, .int .u8 0, .int .u8 1, .int .u8 120, .int .u8 0, .int .u8 0, .int .u8 0, .int .u8 2, .int .u8 0, .int .u8 0, .int .u8 0, .int .u8 1, .int .u8 97, .int .u8 0, .int .u8 0, .int .u8 0, .int .u8 2, .int .u8 98, .int .u8 99] 5)) (c0 c3 c5 c6 c7 c8 c9 c10 c11 c12 c13 c14 c16 c18 c19 c20 c22 c23 c24 c25 c26 c27 c28 c29 c30 c31 c32 c33 c34 c35 c36 c37 : Value) :
    Goes Tryd.prog .any fxOps (NoPanic Q) (FxS g1) 21 #[true, false, true, false, false, false, true, false, false, false, false, false, false, false, false, false, false, false, false, false, false, false, false, false] ⟨#[c0, .pointer (some ⟨g1, 0, none⟩), .int .i64 0, c3, .int .i64 1, c5, c6, c7, c8, c9, c10, c11, c12, c13, c14, .slice (some ⟨b0, 0, none⟩) 1 1, c16, .slice (some ⟨b2, 0, none⟩) 2 2, c18, c19, c20, .slice (some ⟨b6, 0, none⟩) 20 20, c22, c23, c24, c25, c26, c27, c28, c29, c30, c31, c32, c33, c34, c35, c36, c37], []⟩ w := by
  refine Goes.three (i := 1) (j := 3) (k := 7) (o := ⟨some 16, _, _, _, _, _⟩) (p := ⟨some 18, _, _, _, _, _⟩) (q := ⟨some 22, _, _, _, _, _⟩) (by kernel_rfl) rfl rfl rfl (fun K hK => ?_) (fun K hK => ?_) (fun K hK => ?_)
  · skip
    rw [if_pos (by rfl)]
    obtain ⟨wn, hrun, HM⟩ := conv_mark b0 1 _ rfl F0.out.1 F0.out.2 HB.out
    refine wp_convert (.tmp 15) (by rfl) _ (by rfl) _ wn hrun.out ?_
    have hm := HM.out
    refine hK.out _ _ (fxs_on H1.out hm.old _) ?_
    clear hK K
    try simp only [Act.put, List.setIfInBounds_toArray, List.set_cons_zero, List.set_cons_succ]
    exact fx_111000100 HK H1 HR HQ _ b0 b2 b6 (hid hm.old) (hid ⟨F0.out.1, hm.blk _ _ _ F0.out.2⟩) (hid ⟨F2.out.1, hm.blk _ _ _ F2.out.2⟩) (hid ⟨F6.out.1, hm.blk _ _ _ F6.out.2⟩) _ _ _ _ _ _ _ _ _ _ _ _ _ _ _ _ _ _ _ _ _ _ _ _ _ _ _ _ _ _ _
  · skip
    rw [if_pos (by rfl)]
    obtain ⟨wn, hrun, HM⟩ := conv_mark b2 2 _ rfl F2.out.1 F2.out.2 HB.out
    refine wp_convert (.tmp 17) (by rfl) _ (by rfl) _ wn hrun.out ?_
    have hm := HM.out
    refine hK.out _ _ (fxs_on H1.out hm.old _) ?_
    clear hK K
    try simp only [Act.put, List.setIfInBounds_toArray, List.set_cons_zero, List.set_cons_succ]
    exact fx_101100100 HK H1 HR HQ _ b0 b2 b6 (hid hm.old) (hid ⟨F0.out.1, hm.blk _ _ _ F0.out.2⟩) (hid ⟨F2.out.1, hm.blk _ _ _ F2.out.2⟩) (hid ⟨F6.out.1, hm.blk _ _ _ F6.out.2⟩) _ _ _ _ _ _ _ _ _ _ _ _ _ _ _ _ _ _ _ _ _ _ _ _ _ _ _ _ _ _ _
  · skip
    rw [if_pos (by rfl)]
    obtain ⟨wn, hrun, HM⟩ := conv_mark b6 20 _ rfl F6.out.1 F6.out.2 HB.out
    refine wp_convert (.tmp 21) (by rfl) _ (by rfl) _ wn hrun.out ?_
    have hm := HM.out
    refine hK.out _ _ (fxs_on H1.out hm.old _) ?_
    clear hK K
    try simp only [Act.put, List.setIfInBounds_toArray, List.set_cons_zero, List.set_cons_succ]
    exact fx_101000110 HK H1 HR HQ _ b0 b2 b6 (hid hm.old) (hid ⟨F0.out.1, hm.blk _ _ _ F0.out.2⟩) (hid ⟨F2.out.1, hm.blk _ _ _ F2.out.2⟩) (hid ⟨F6.out.1, hm.blk _ _ _ F6.out.2⟩) _ _ _ _ _ _ _ _ _ _ _ _ _ _ _ _ _ _ _ _ _ _ _ _ _ _ _ _ _ _ _
set_option maxRecDepth 100000 in
set_option maxHeartbeats 1000000 in
theorem fx_110000100 {w0 : World} {g1 : Nat} {r : List UInt8} {Q : Exit → Act → World → Prop} (HK : Hid (Kt w0)) (H1 : Hid (Nm w0 g1 0)) (HR : Hid (sha abc20 = r)) (HQ : Hid (∀ (c3 c5 c6 c7 c8 c9 c10 c11 c12 c13 c14 d15 d16 d17 d18 d19 d20 d21 d22 d23 d24 d25 d26 d27 d28 d29 d30 d31 d32 d33 d34 d35 d36 d37 : Value) (u : World), Below w0.heap.size w0 u → Q .normal ⟨#[.bool true, .pointer (some ⟨g1, 0, none⟩), .int .i64 0, c3, .int .i64 1, c5, c6, c7, c8, c9, c10, c11, c12, c13, c14, d15, d16, d17, d18, d19, d20, d21, d22, d23, d24, d25, d26, d27, d28, d29, d30, d31, d32, d33, d34, d35, d36, d37], []⟩ u)) (w : World) (b0 b6 : Nat) (HB : Hid (Below w0.heap.size w0 w)) (F0 : Hid (w0.heap.size ≤ b0 ∧ Blk w b0 #[.int .u8 97] 5)) (F6 : Hid (w0.heap.size ≤ b6 ∧ Blk w b6 #[.int .u8 0, .int .u8 0, .int .u8 0, .int .u8 1, .int .u8 120, .int .u8 0, .int .u8 0, .int .u8 0, .int .u8 2, .int .u8 0, .int .u8 0, .int .u8 0, .int .u8 1, .int .u8 97, .int .u8 0, .int .u8 0, .int .u8 0, .int .u8 2, .int .u8 98, .int .u8 99] 5)) (c0 c3 c5 c6 c7 c8 c9 c10 c11 c12 c13 c14 c17 c18 c19 c20 c22 c23 c24 c25 c26 c27 c28 c29 c30 c31 c32 c33 c34 c35 c36 c37 : Value) :
    Goes Tryd.prog .any fxOps (NoPanic Q) (FxS g1) 21 #[true, true, false, false, false, false, true, false, false, false, false, false, false, false, false, false, false, false, false, false, false, false, false, false] ⟨#[c0, .pointer (some ⟨g1, 0, none⟩), .int .i64 0, c3, .int .i64 1, c5, c6, c7, c8, c9, c10, c11, c12, c13, c14, .slice (some ⟨b0, 0, none⟩) 1 1, .slice (some ⟨b0, 0, none⟩) 1 1, c17, c18, c19, c20, .slice (some ⟨b6, 0, none⟩) 20 20, c22, c23, c24, c25, c26, c27, c28, c29, c30, c31, c32, c33, c34, c35, c36, c37], []⟩ w := by
  refine Goes.two (i := 2) (j := 7) (o := ⟨some 17, _, _, _, _, _⟩) (p := ⟨some 22, _, _, _, _, _⟩) (by kernel_rfl) rfl rfl (fun K hK => ?_) (fun K hK => ?_)
  · skip
    go_simp
    have hm := Mkd.of HB.out ((Below.refl w.heap.size w).alloc (Nat.le_refl _) (.cells #[.int .u8 98, .int .u8 99] 5))
    refine hK.out _ _ (fxs_on H1.out hm.old _) ?_
    clear hK K
    try simp only [Act.put, List.setIfInBounds_toArray, List.set_cons_zero, List.set_cons_succ]
    exact fx_111000100 HK H1 HR HQ _ b0 w.heap.size b6 (hid hm.old) (hid ⟨F0.out.1, hm.blk _ _ _ F0.out.2⟩) (hid ⟨HB.out.size, Blk.new w #[.int .u8 98, .int .u8 99] 5⟩) (hid ⟨F6.out.1, hm.blk _ _ _ F6.out.2⟩) _ _ _ _ _ _ _ _ _ _ _ _ _ _ _ _ _ _ _ _ _ _ _ _ _ _ _ _ _ _ _
  · skip
    rw [if_pos (by rfl)]
    obtain ⟨wn, hrun, HM⟩ := conv_mark b6 20 _ rfl F6.out.1 F6.out.2 HB.out
    refine wp_convert (.tmp 21) (by rfl) _ (by rfl) _ wn hrun.out ?_
    have hm := HM.out
    refine hK.out _ _ (fxs_on H1.out hm.old _) ?_
    clear hK K
    try simp only [Act.put, List.setIfInBounds_toArray, List.set_cons_zero, List.set_cons_succ]
    exact fx_110000110 HK H1 HR HQ _ b0 b6 (hid hm.old) (hid ⟨F0.out.1, hm.blk _ _ _ F0.out.2⟩) (hid ⟨F6.out.1, hm.blk _ _ _ F6.out.2⟩) _ _ _ _ _ _ _ _ _ _ _ _ _ _ _ _ _ _ _ _ _ _ _ _ _ _ _ _ _ _ _
set_option maxRecDepth 100000 in
set_option maxHeartbeats 1000000 in
theorem fx_101100000 {w0 : World} {g1 : Nat} {r : List UInt8} {Q : Exit → Act → World → Prop} (HK : Hid (Kt w0)) (H1 : Hid (Nm w0 g1 0)) (HR : Hid (sha abc20 = r)) (HQ : Hid (∀ (c3 c5 c6 c7 c8 c9 c10 c11 c12 c13 c14 d15 d16 d17 d18 d19 d20 d21 d22 d23 d24 d25 d26 d27 d28 d29 d30 d31 d32 d33 d34 d35 d36 d37 : Value) (u : World), Below w0.heap.size w0 u → Q .normal ⟨#[.bool true, .pointer (some ⟨g1, 0, none⟩), .int .i64 0, c3, .int .i64 1, c5, c6, c7, c8, c9, c10, c11, c12, c13, c14, d15, d16, d17, d18, d19, d20, d21, d22, d23, d24, d25, d26, d27, d28, d29, d30, d31, d32, d33, d34, d35, d36, d37], []⟩ u)) (w : World) (b0 b2 : Nat) (HB : Hid (Below w0.heap.size w0 w)) (F0 : Hid (w0.heap.size ≤ b0 ∧ Blk w b0 #[.int .u8 97] 5)) (F2 : Hid (w0.heap.size ≤ b2 ∧ Blk w b2 #[.int .u8 98, .int .u8 99] 5)) (c0 c3 c5 c6 c7 c8 c9 c10 c11 c12 c13 c14 c16 c19 c20 c21 c22 c23 c24 c25 c26 c27 c28 c29 c30 c31 c32 c33 c34 c35 c36 c37 : Value) :
    Goes Tryd.prog .any fxOps (NoPanic Q) (FxS g1) 21 #[true, false, true, true, false, false, false, false, false, false, false, false, false, false, false, false, false, false, false, false, false, false, false, false] ⟨#[c0, .pointer (some ⟨g1, 0, none⟩), .int .i64 0, c3, .int .i64 1, c5, c6, c7, c8, c9, c10, c11, c12, c13, c14, .slice (some ⟨b0, 0, none⟩) 1 1, c16, .slice (some ⟨b2, 0, none⟩) 2 2, .slice (some ⟨b2, 0, none⟩) 2 2, c19, c20, c21, c22, c23, c24, c25, c26, c27, c28, c29, c30, c31, c32, c33, c34, c35, c36, c37], []⟩ w := by
  refine Goes.two (i := 1) (j := 6) (o := ⟨some 16, _, _, _, _, _⟩) (p := ⟨some 21, _, _, _, _, _⟩) (by kernel_rfl) rfl rfl (fun K hK => ?_) (fun K hK => ?_)
  · skip
    rw [if_pos (by rfl)]
    obtain ⟨wn, hrun, HM⟩ := conv_mark b0 1 _ rfl F0.out.1 F0.out.2 HB.out
    refine wp_convert (.tmp 15) (by rfl) _ (by rfl) _ wn hrun.out ?_
    have hm := HM.out
    refine hK.out _ _ (fxs_on H1.out hm.old _) ?_
    clear hK K
    try simp only [Act.put, List.setIfInBounds_toArray, List.set_cons_zero, List.set_cons_succ]
    exact fx_111100000 HK H1 HR HQ _ b0 b2 (hid hm.old) (hid ⟨F0.out.1, hm.blk _ _ _ F0.out.2⟩) (hid ⟨F2.out.1, hm.blk _ _ _ F2.out.2⟩) _ _ _ _ _ _ _ _ _ _ _ _ _ _ _ _ _ _ _ _ _ _ _ _ _ _ _ _ _ _ _
  · skip
    go_simp
    have hm := Mkd.of HB.out ((Below.refl w.heap.size w).alloc (Nat.le_refl _) (.cells #[.int .u8 0, .int .u8 0, .int .u8 0, .int .u8 1, .int .u8 120, .int .u8 0, .int .u8 0, .int .u8 0, .int .u8 2, .int .u8 0, .int .u8 0, .int .u8 0, .int .u8 1, .int .u8 97, .int .u8 0, .int .u8 0, .int .u8 0, .int .u8 2, .int .u8 98, .int .u8 99] 5))
    refine hK.out _ _ (fxs_on H1.out hm.old _) ?_
    clear hK K
    try simp only [Act.put, List.setIfInBounds_toArray, List.set_cons_zero, List.set_cons_succ]
    exact fx_101100100 HK H1 HR HQ _ b0 b2 w.heap.size (hid hm.old) (hid ⟨F0.out.1, hm.blk _ _ _ F0.out.2⟩) (hid ⟨F2.out.1, hm.blk _ _ _ F2.out.2⟩) (hid ⟨HB.out.size, Blk.new w #[.int .u8 0, .int .u8 0, .int .u8 0, .int .u8 1, .int .u8 120, .int .u8 0, .int .u8 0, .int .u8 0, .int .u8 2, .int .u8 0, .int .u8 0, .int .u8 0, .int .u8 1, .int .u8 97, .int .u8 0, .int .u8 0, .int .u8 0, .int .u8 2, .int .u8 98, .int .u8 99] 5⟩) _ _ _ _ _ _ _ _ _ _ _ _ _ _ _ _ _ _ _ _ _ _ _ _ _ _ _ _ _ _ _
set_option maxRecDepth 100000 in
set_option maxHeartbeats 1000000 in
theorem fx_111000000 {w0 : World} {g1 : Nat} {r : List UInt8} {Q : Exit → Act → World → Prop} (HK : Hid (Kt w0)) (H1 : Hid (Nm w0 g1 0)) (HR : Hid (sha abc20 = r)) (HQ : Hid (∀ (c3 c5 c6 c7 c8 c9 c10 c11 c12 c13 c14 d15 d16 d17 d18 d19 d20 d21 d22 d23 d24 d25 d26 d27 d28 d29 d30 d31 d32 d33 d34 d35 d36 d37 : Value) (u : World), Below w0.heap.size w0 u → Q .normal ⟨#[.bool true, .pointer (some ⟨g1, 0, none⟩), .int .i64 0, c3, .int .i64 1, c5, c6, c7, c8, c9, c10, c11, c12, c13, c14, d15, d16, d17, d18, d19, d20, d21, d22, d23, d24, d25, d26, d27, d28, d29, d30, d31, d32, d33, d34, d35, d36, d37], []⟩ u)) (w : World) (b0 b2 : Nat) (HB : Hid (Below w0.heap.size w0 w)) (F0 : Hid (w0.heap.size ≤ b0 ∧ Blk w b0 #[.int .u8 97] 5)) (F2 : Hid (w0.heap.size ≤ b2 ∧ Blk w b2 #[.int .u8 98, .int .u8 99] 5)) (c0 c3 c5 c6 c7 c8 c9 c10 c11 c12 c13 c14 c18 c19 c20 c21 c22 c23 c24 c25 c26 c27 c28 c29 c30 c31 c32 c33 c34 c35 c36 c37 : Value) :
    Goes Tryd.prog .any fxOps (NoPanic Q) (FxS g1) 21 #[true, true, true, false, false, false, false, false, false, false, false, false, false, false, false, false, false, false, false, false, false, false, false, false] ⟨#[c0, .pointer (some ⟨g1, 0, none⟩), .int .i64 0, c3, .int .i64 1, c5, c6, c7, c8, c9, c10, c11, c12, c13, c14, .slice (some ⟨b0, 0, none⟩) 1 1, .slice (some ⟨b0, 0, none⟩) 1 1, .slice (some ⟨b2, 0, none⟩) 2 2, c18, c19, c20, c21, c22, c23, c24, c25, c26, c27, c28, c29, c30, c31, c32, c33, c34, c35, c36, c37], []⟩ w := by
  refine Goes.two (i := 3) (j := 6) (o := ⟨some 18, _, _, _, _, _⟩) (p := ⟨some 21, _, _, _, _, _⟩) (by kernel_rfl) rfl rfl (fun K hK => ?_) (fun K hK => ?_)
  · skip
    rw [if_pos (by rfl)]
    obtain ⟨wn, hrun, HM⟩ := conv_mark b2 2 _ rfl F2.out.1 F2.out.2 HB.out
    refine wp_convert (.tmp 17) (by rfl) _ (by rfl) _ wn hrun.out ?_
    have hm := HM.out
    refine hK.out _ _ (fxs_on H1.out hm.old _) ?_
    clear hK K
    try simp only [Act.put, List.setIfInBounds_toArray, List.set_cons_zero, List.set_cons_succ]
    exact fx_111100000 HK H1 HR HQ _ b0 b2 (hid hm.old) (hid ⟨F0.out.1, hm.blk _ _ _ F0.out.2⟩) (hid ⟨F2.out.1, hm.blk _ _ _ F2.out.2⟩) _ _ _ _ _ _ _ _ _ _ _ _ _ _ _ _ _ _ _ _ _ _ _ _ _ _ _ _ _ _ _
  · skip
    go_simp
    have hm := Mkd.of HB.out ((Below.refl w.heap.size w).alloc (Nat.le_refl _) (.cells #[.int .u8 0, .int .u8 0, .int .u8 0, .int .u8 1, .int .u8 120, .int .u8 0, .int .u8 0, .int .u8 0, .int .u8 2, .int .u8 0, .int .u8 0, .int .u8 0, .int .u8 1, .int .u8 97, .int .u8 0, .int .u8 0, .int .u8 0, .int .u8 2, .int .u8 98, .int .u8 99] 5))
    refine hK.out _ _ (fxs_on H1.out hm.old _) ?_
    clear hK K
    try simp only [Act.put, List.setIfInBounds_toArray, List.set_cons_zero, List.set_cons_succ]
    exact fx_111000100 HK H1 HR HQ _ b0 b2 w.heap.size (hid hm.old) (hid ⟨F0.out.1, hm.blk _ _ _ F0.out.2⟩) (hid ⟨F2.out.1, hm.blk _ _ _ F2.out.2⟩) (hid ⟨HB.out.size, Blk.new w #[.int .u8 0, .int .u8 0, .int .u8 0, .int .u8 1, .int .u8 120, .int .u8 0, .int .u8 0, .int .u8 0, .int .u8 2, .int .u8 0, .int .u8 0, .int .u8 0, .int .u8 1, .int .u8 97, .int .u8 0, .int .u8 0, .int .u8 0, .int .u8 2, .int .u8 98, .int .u8 99] 5⟩) _ _ _ _ _ _ _ _ _ _ _ _ _ _ _ _ _ _ _ _ _ _ _ _ _ _ _ _ _ _ _
set_option maxRecDepth 100000 in
set_option maxHeartbeats 1000000 in
theorem fx_000000110 {w0 : World} {g1 : Nat} {r : List UInt8} {Q : Exit → Act → World → Prop} (HK : Hid (Kt w0)) (H1 : Hid (Nm w0 g1 0)) (HR : Hid (sha abc20 = r)) (HQ : Hid (∀ (c3 c5 c6 c7 c8 c9 c10 c11 c12 c13 c14 d15 d16 d17 d18 d19 d20 d21 d22 d23 d24 d25 d26 d27 d28 d29 d30 d31 d32 d33 d34 d35 d36 d37 : Value) (u : World), Below w0.heap.size w0 u → Q .normal ⟨#[.bool true, .pointer (some ⟨g1, 0, none⟩), .int .i64 0, c3, .int .i64 1, c5, c6, c7, c8, c9, c10, c11, c12, c13, c14, d15, d16, d17, d18, d19, d20, d21, d22, d23, d24, d25, d26, d27, d28, d29, d30, d31, d32, d33, d34, d35, d36, d37], []⟩ u)) (w : World) (b6 : Nat) (HB : Hid (Below w0.heap.size w0 w)) (F6 : Hid (w0.heap.size ≤ b6 ∧ Blk w b6 #[.int .u8 0, .int .u8 0, .int .u8 0, .int .u8 1, .int .u8 120, .int .u8 0, .int .u8 0, .int .u8 0, .int .u8 2, .int .u8 0, .int .u8 0, .int .u8 0, .int .u8 1, .int .u8 97, .int .u8 0, .int .u8 0, .int .u8 0, .int .u8 2, .int .u8 98, .int .u8 99] 5)) (c0 c3 c5 c6 c7 c8 c9 c10 c11 c12 c13 c14 c15 c16 c17 c18 c19 c20 c23 c24 c25 c26 c27 c28 c29 c30 c31 c32 c33 c34 c35 c36 c37 : Value) :
    Goes Tryd.prog .any fxOps (NoPanic Q) (FxS g1) 22 #[false, false, false, false, false, false, true, true, false, false, false, false, false, false, false, false, false, false, false, false, false, false, false, false] ⟨#[c0, .pointer (some ⟨g1, 0, none⟩), .int .i64 0, c3, .int .i64 1, c5, c6, c7, c8, c9, c10, c11, c12, c13, c14, c15, c16, c17, c18, c19, c20, .slice (some ⟨b6, 0, none⟩) 20 20, .slice (some ⟨b6, 0, none⟩) 20 20, c23, c24, c25, c26, c27, c28, c29, c30, c31, c32, c33, c34, c35, c36, c37], []⟩ w := by
  refine Goes.two (i := 0) (j := 2) (o := ⟨some 15, _, _, _, _, _⟩) (p := ⟨some 17, _, _, _, _, _⟩) (by kernel_rfl) rfl rfl (fun K hK => ?_) (fun K hK => ?_)
  · skip
    go_simp
    have hm := Mkd.of HB.out ((Below.refl w.heap.size w).alloc (Nat.le_refl _) (.cells #[.int .u8 97] 5))
    refine hK.out _ _ (fxs_on H1.out hm.old _) ?_
    clear hK K
    try simp only [Act.put, List.setIfInBounds_toArray, List.set_cons_zero, List.set_cons_succ]
    exact fx_100000110 HK H1 HR HQ _ w.heap.size b6 (hid hm.old) (hid ⟨HB.out.size, Blk.new w #[.int .u8 97] 5⟩) (hid ⟨F6.out.1, hm.blk _ _ _ F6.out.2⟩) _ _ _ _ _ _ _ _ _ _ _ _ _ _ _ _ _ _ _ _ _ _ _ _ _ _ _ _ _ _ _ _
  · skip
    go_simp
    have hm := Mkd.of HB.out ((Below.refl w.heap.size w).alloc (Nat.le_refl _) (.cells #[.int .u8 98, .int .u8 99] 5))
    refine hK.out _ _ (fxs_on H1.out hm.old _) ?_
    clear hK K
    try simp only [Act.put, List.setIfInBounds_toArray, List.set_cons_zero, List.set_cons_succ]
    exact fx_001000110 HK H1 HR HQ _ w.heap.size b6 (hid hm.old) (hid ⟨HB.out.size, Blk.new w #[.int .u8 98, .int .u8 99] 5⟩) (hid ⟨F6.out.1, hm.blk _ _ _ F6.out.2⟩) _ _ _ _ _ _ _ _ _ _ _ _ _ _ _ _ _ _ _ _ _ _ _ _ _ _ _ _ _ _ _ _
set_option maxRecDepth 100000 in
set_option maxHeartbeats 1000000 in
theorem fx_001000100 {w0 : World} {g1 : Nat} {r : List UInt8} {Q : Exit → Act → World → Prop} (HK : Hid (Kt w0)) (H1 : Hid (Nm w0 g1 0)) (HR : Hid (sha abc20 = r)) (HQ : Hid (∀ (c3 c5 c6 c7 c8 c9 c10 c11 c12 c13 c14 d15 d16 d17 d18 d19 d20 d21 d22 d23 d24 d25 d26 d27 d28 d29 d30 d31 d32 d33 d34 d35 d36 d37 : Value) (u : World), Below w0.heap.size w0 u → Q .normal ⟨#[.bool true, .pointer (some ⟨g1, 0, none⟩), .int .i64 0, c3, .int .i64 1, c5, c6, c7, c8, c9, c10, c11, c12, c13, c14, d15, d16, d17, d18, d19, d20, d21, d22, d23, d24, d25, d26, d27, d28, d29, d30, d31, d32, d33, d34, d35, d36, d37], []⟩ u)) (w : World) (b2 b6 : Nat) (HB : Hid (Below w0.heap.size w0 w)) (F2 : Hid (w0.heap.size ≤ b2 ∧ Blk w b2 #[.int .u8 98, .int .u8 99] 5)) (F6 : Hid (w0.heap.size ≤ b6 ∧ Blk w b6 #[.int .u8 0, .int .u8 0, .int .u8 0, .int .u8 1, .int .u8 120, .int .u8 0, .int .u8 0, .int .u8 0, .int .u8 2, .int .u8 0, .int .u8 0, .int .u8 0, .int .u8 1, .int .u8 97, .int .u8 0, .int .u8 0, .int .u8 0, .int .u8 2, .int .u8 98, .int .u8 99] 5)) (c0 c3 c5 c6 c7 c8 c9 c10 c11 c12 c13 c14 c15 c16 c18 c19 c20 c22 c23 c24 c25 c26 c27 c28 c29 c30 c31 c32 c33 c34 c35 c36 c37 : Value) :
    Goes Tryd.prog .any fxOps (NoPanic Q) (FxS g1) 22 #[false, false, true, false, false, false, true, false, false, false, false, false, false, false, false, false, false, false, false, false, false, false, false, false] ⟨#[c0, .pointer (some ⟨g1, 0, none⟩), .int .i64 0, c3, .int .i64 1, c5, c6, c7, c8, c9, c10, c11, c12, c13, c14, c15, c16, .slice (some ⟨b2, 0, none⟩) 2 2, c18, c19, c20, .slice (some ⟨b6, 0, none⟩) 20 20, c22, c23, c24, c25, c26, c27, c28, c29, c30, c31, c32, c33, c34, c35, c36, c37], []⟩ w := by
  refine Goes.three (i := 0) (j := 3) (k := 7) (o := ⟨some 15, _, _, _, _, _⟩) (p := ⟨some 18, _, _, _, _, _⟩) (q := ⟨some 22, _, _, _, _, _⟩) (by kernel_rfl) rfl rfl rfl (fun K hK => ?_) (fun K hK => ?_) (fun K hK => ?_)
  · skip
    go_simp
    have hm := Mkd.of HB.out ((Below.refl w.heap.size w).alloc (Nat.le_refl _) (.cells #[.int .u8 97] 5))
    refine hK.out _ _ (fxs_on H1.out hm.old _) ?_
    clear hK K
    try simp only [Act.put, List.setIfInBounds_toArray, List.set_cons_zero, List.set_cons_succ]
    exact fx_101000100 HK H1 HR HQ _ w.heap.size b2 b6 (hid hm.old) (hid ⟨HB.out.size, Blk.new w #[.int .u8 97] 5⟩) (hid ⟨F2.out.1, hm.blk _ _ _ F2.out.2⟩) (hid ⟨F6.out.1, hm.blk _ _ _ F6.out.2⟩) _ _ _ _ _ _ _ _ _ _ _ _ _ _ _ _ _ _ _ _ _ _ _ _ _ _ _ _ _ _ _ _
  · skip
    rw [if_pos (by rfl)]
    obtain ⟨wn, hrun, HM⟩ := conv_mark b2 2 _ rfl F2.out.1 F2.out.2 HB.out
    refine wp_convert (.tmp 17) (by rfl) _ (by rfl) _ wn hrun.out ?_
    have hm := HM.out
    refine hK.out _ _ (fxs_on H1.out hm.old _) ?_
    clear hK K
    try simp only [Act.put, List.setIfInBounds_toArray, List.set_cons_zero, List.set_cons_succ]
    exact fx_001100100 HK H1 HR HQ _ b2 b6 (hid hm.old) (hid ⟨F2.out.1, hm.blk _ _ _ F2.out.2⟩) (hid ⟨F6.out.1, hm.blk _ _ _ F6.out.2⟩) _ _ _ _ _ _ _ _ _ _ _ _ _ _ _ _ _ _ _ _ _ _ _ _ _ _ _ _ _ _ _ _
  · skip
    rw [if_pos (by rfl)]
    obtain ⟨wn, hrun, HM⟩ := conv_mark b6 20 _ rfl F6.out.1 F6.out.2 HB.out
    refine wp_convert (.tmp 21) (by rfl) _ (by rfl) _ wn hrun.out ?_
    have hm := HM.out
    refine hK.out _ _ (fxs_on H1.out hm.old _) ?_
    clear hK K
    try simp only [Act.put, List.setIfInBounds_toArray, List.set_cons_zero, List.set_cons_succ]
    exact fx_001000110 HK H1 HR HQ _ b2 b6 (hid hm.old) (hid ⟨F2.out.1, hm.blk _ _ _ F2.out.2⟩) (hid ⟨F6.out.1, hm.blk _ _ _ F6.out.2⟩) _ _ _ _ _ _ _ _ _ _ _ _ _ _ _ _ _ _ _ _ _ _ _ _ _ _ _ _ _ _ _ _
set_option maxRecDepth 100000 in
set_option maxHeartbeats 1000000 in
theorem fx_100000100 {w0 : World} {g1 : Nat} {r : List UInt8} {Q : Exit → Act → World → Prop} (HK : Hid (Kt w0)) (H1 : Hid (Nm w0 g1 0)) (HR : Hid (sha abc20 = r)) (HQ : Hid (∀ (c3 c5 c6 c7 c8 c9 c10 c11 c12 c13 c14 d15 d16 d17 d18 d19 d20 d21 d22 d23 d24 d25 d26 d27 d28 d29 d30 d31 d32 d33 d34 d35 d36 d37 : Value) (u : World), Below w0.heap.size w0 u → Q .normal ⟨#[.bool true, .pointer (some ⟨g1, 0, none⟩), .int .i64 0, c3, .int .i64 1, c5, c6, c7, c8, c9, c10, c11, c12, c13, c14, d15, d16, d17, d18, d19, d20, d21, d22, d23, d24, d25, d26, d27, d28, d29, d30, d31, d32, d33, d34, d35, d36, d37], []⟩ u)) (w : World) (b0 b6 : Nat) (HB : Hid (Below w0.heap.size w0 w)) (F0 : Hid (w0.heap.size ≤ b0 ∧ Blk w b0 #[.int .u8 97] 5)) (F6 : Hid (w0.heap.size ≤ b6 ∧ Blk w b6 #[.int .u8 0, .int .u8 0, .int .u8 0, .int .u8 1, .int .u8 120, .int .u8 0, .int .u8 0, .int .u8 0, .int .u8 2, .int .u8 0, .int .u8 0, .int .u8 0, .int .u8 1, .int .u8 97, .int .u8 0, .int .u8 0, .int .u8 0, .int .u8 2, .int .u8 98, .int .u8 99] 5)) (c0 c3 c5 c6 c7 c8 c9 c10 c11 c12 c13 c14 c16 c17 c18 c19 c20 c22 c23 c24 c25 c26 c27 c28 c29 c30 c31 c32 c33 c34 c35 c36 c37 : Value) :
    Goes Tryd.prog .any fxOps (NoPanic Q) (FxS g1) 22 #[true, false, false, false, false, false, true, false, false, false, false, false, false, false, false, false, false, false, false, false, false, false, false, false] ⟨#[c0, .pointer (some ⟨g1, 0, none⟩), .int .i64 0, c3, .int .i64 1, c5, c6, c7, c8, c9, c10, c11, c12, c13, c14, .slice (some ⟨b0, 0, none⟩) 1 1, c16, c17, c18, c19, c20, .slice (some ⟨b6, 0, none⟩) 20 20, c22, c23, c24, c25, c26, c27, c28, c29, c30, c31, c32, c33, c34, c35, c36, c37], []⟩ w := by
  refine Goes.three (i := 1) (j := 2) (k := 7) (o := ⟨some 16, _, _, _, _, _⟩) (p := ⟨some 17, _, _, _, _, _⟩) (q := ⟨some 22, _, _, _, _, _⟩) (by kernel_rfl) rfl rfl rfl (fun K hK => ?_) (fun K hK => ?_) (fun K hK => ?_)
  · skip
    rw [if_pos (by rfl)]
    obtain ⟨wn, hrun, HM⟩ := conv_mark b0 1 _ rfl F0.out.1 F0.out.2 HB.out
    refine wp_convert (.tmp 15) (by rfl) _ (by rfl) _ wn hrun.out ?_
    have hm := HM.out
    refine hK.out _ _ (fxs_on H1.out hm.old _) ?_
    clear hK K
    try simp only [Act.put, List.setIfInBounds_toArray, List.set_cons_zero, List.set_cons_succ]
    exact fx_110000100 HK H1 HR HQ _ b0 b6 (hid hm.old) (hid ⟨F0.out.1, hm.blk _ _ _ F0.out.2⟩) (hid ⟨F6.out.1, hm.blk _ _ _ F6.out.2⟩) _ _ _ _ _ _ _ _ _ _ _ _ _ _ _ _ _ _ _ _ _ _ _ _ _ _ _ _ _ _ _ _
  · skip
    go_simp
    have hm := Mkd.of HB.out ((Below.refl w.heap.size w).alloc (Nat.le_refl _) (.cells #[.int .u8 98, .int .u8 99] 5))
    refine hK.out _ _ (fxs_on H1.out hm.old _) ?_
    clear hK K
    try simp only [Act.put, List.setIfInBounds_toArray, List.set_cons_zero, List.set_cons_succ]
    exact fx_101000100 HK H1 HR HQ _ b0 w.heap.size b6 (hid hm.old) (hid ⟨F0.out.1, hm.blk _ _ _ F0.out.2⟩) (hid ⟨HB.out.size, Blk.new w #[.int .u8 98, .int .u8 99] 5⟩) (hid ⟨F6.out.1, hm.blk _ _ _ F6.out.2⟩) _ _ _ _ _ _ _ _ _ _ _ _ _ _ _ _ _ _ _ _ _ _ _ _ _ _ _ _ _ _ _ _
  · skip
    rw [if_pos (by rfl)]
    obtain ⟨wn, hrun, HM⟩ := conv_mark b6 20 _ rfl F6.out.1 F6.out.2 HB.out
    refine wp_convert (.tmp 21) (by rfl) _ (by rfl) _ wn hrun.out ?_
    have hm := HM.out
    refine hK.out _ _ (fxs_on H1.out hm.old _) ?_
    clear hK K
    try simp only [Act.put, List.setIfInBounds_toArray, List.set_cons_zero, List.set_cons_succ]
    exact fx_100000110 HK H1 HR HQ _ b0 b6 (hid hm.old) (hid ⟨F0.out.1, hm.blk _ _ _ F0.out.2⟩) (hid ⟨F6.out.1, hm.blk _ _ _ F6.out.2⟩) _ _ _ _ _ _ _ _ _ _ _ _ _ _ _ _ _ _ _ _ _ _ _ _ _ _ _ _ _ _ _ _
set_option maxRecDepth 100000 in
set_option maxHeartbeats 1000000 in
theorem fx_001100000 {w0 : World} {g1 : Nat} {r : List UInt8} {Q : Exit → Act → World → Prop} (HK : Hid (Kt w0)) (H1 : Hid (Nm w0 g1 0)) (HR : Hid (sha abc20 = r)) (HQ : Hid (∀ (c3 c5 c6 c7 c8 c9 c10 c11 c12 c13 c14 d15 d16 d17 d18 d19 d20 d21 d22 d23 d24 d25 d26 d27 d28 d29 d30 d31 d32 d33 d34 d35 d36 d37 : Value) (u : World), Below w0.heap.size w0 u → Q .normal ⟨#[.bool true, .pointer (some ⟨g1, 0, none⟩), .int .i64 0, c3, .int .i64 1, c5, c6, c7, c8, c9, c10, c11, c12, c13, c14, d15, d16, d17, d18, d19, d20, d21, d22, d23, d24, d25, d26, d27, d28, d29, d30, d31, d32, d33, d34, d35, d36, d37], []⟩ u)) (w : World) (b2 : Nat) (HB : Hid (Below w0.heap.size w0 w)) (F2 : Hid (w0.heap.size ≤ b2 ∧ Blk w b2 #[.int .u8 98, .int .u8 99] 5)) (c0 c3 c5 c6 c7 c8 c9 c10 c11 c12 c13 c14 c15 c16 c19 c20 c21 c22 c23 c24 c25 c26 c27 c28 c29 c30 c31 c32 c33 c34 c35 c36 c37 : Value) :
    Goes Tryd.prog .any fxOps (NoPanic Q) (FxS g1) 22 #[false, false, true, true, false, false, false, false, false, false, false, false, false, false, false, false, false, false, false, false, false, false, false, false] ⟨#[c0, .pointer (some ⟨g1, 0, none⟩), .int .i64 0, c3, .int .i64 1, c5, c6, c7, c8, c9, c10, c11, c12, c13, c14, c15, c16, .slice (some ⟨b2, 0, none⟩) 2 2, .slice (some ⟨b2, 0, none⟩) 2 2, c19, c20, c21, c22, c23, c24, c25, c26, c27, c28, c29, c30, c31, c32, c33, c34, c35, c36, c37], []⟩ w := by
  refine Goes.two (i := 0) (j := 6) (o := ⟨some 15, _, _, _, _, _⟩) (p := ⟨some 21, _, _, _, _, _⟩) (by kernel_rfl) rfl rfl (fun K hK => ?_) (fun K hK => ?_)
  · skip
    go_simp
    have hm := Mkd.of HB.out ((Below.refl w.heap.size w).alloc (Nat.le_refl _) (.cells #[.int .u8 97] 5))
    refine hK.out _ _ (fxs_on H1.out hm.old _) ?_
    clear hK K
    try simp only [Act.put, List.setIfInBounds_toArray, List.set_cons_zero, List.set_cons_succ]
    exact fx_101100000 HK H1 HR HQ _ w.heap.size b2 (hid hm.old) (hid ⟨HB.out.size, Blk.new w #[.int .u8 97] 5⟩) (hid ⟨F2.out.1, hm.blk _ _ _ F2.out.2⟩) _ _ _ _ _ _ _ _ _ _ _ _ _ _ _ _ _ _ _ _ _ _ _ _ _ _ _ _ _ _ _ _
  · skip
    go_simp
    have hm := Mkd.of HB.out ((Below.refl w.heap.size w).alloc (Nat.le_refl _) (.cells #[.int .u8 0, .int .u8 0, .int .u8 0, .int .u8 1, .int .u8 120, .int .u8 0, .int .u8 0, .int .u8 0, .int .u8 2, .int .u8 0, .int .u8 0, .int .u8 0, .int .u8 1, .int .u8 97, .int .u8 0, .int .u8 0, .int .u8 0, .int .u8 2, .int .u8 98, .int .u8 99] 5))
    refine hK.out _ _ (fxs_on H1.out hm.old _) ?_
    clear hK K
    try simp only [Act.put, List.setIfInBounds_toArray, List.set_cons_zero, List.set_cons_succ]
    exact fx_001100100 HK H1 HR HQ _ b2 w.heap.size (hid hm.old) (hid ⟨F2.out.1, hm.blk _ _ _ F2.out.2⟩) (hid ⟨HB.out.size, Blk.new w #[.int .u8 0, .int .u8 0, .int .u8 0, .int .u8 1, .int .u8 120, .int .u8 0, .int .u8 0, .int .u8 0, .int .u8 2, .int .u8 0, .int .u8 0, .int .u8 0, .int .u8 1, .int .u8 97, .int .u8 0, .int .u8 0, .int .u8 0, .int .u8 2, .int .u8 98, .int .u8 99] 5⟩) _ _ _ _ _ _ _ _ _ _ _ _ _ _ _ _ _ _ _ _ _ _ _ _ _ _ _ _ _ _ _ _
set_option maxRecDepth 100000 in
set_option maxHeartbeats 1000000 in
theorem fx_101000000 {w0 : World} {g1 : Nat} {r : List UInt8} {Q : Exit → Act → World → Prop} (HK : Hid (Kt w0)) (H1 : Hid (Nm w0 g1 0)) (HR : Hid (sha abc20 = r)) (HQ : Hid (∀ (c3 c5 c6 c7 c8 c9 c10 c11 c12 c13 c14 d15 d16 d17 d18 d19 d20 d21 d22 d23 d24 d25 d26 d27 d28 d29 d30 d31 d32 d33 d34 d35 d36 d37 : Value) (u : World), Below w0.heap.size w0 u → Q .normal ⟨#[.bool true, .pointer (some ⟨g1, 0, none⟩), .int .i64 0, c3, .int .i64 1, c5, c6, c7, c8, c9, c10, c11, c12, c13, c14, d15, d16, d17, d18, d19, d20, d21, d22, d23, d24, d25, d26, d27, d28, d29, d30, d31, d32, d33, d34, d35, d36, d37], []⟩ u)) (w : World) (b0 b2 : Nat) (HB : Hid (Below w0.heap.size w0 w)) (F0 : Hid (w0.heap.size ≤ b0 ∧ Blk w b0 #[.int .u8 97] 5)) (F2 : Hid (w0.heap.size ≤ b2 ∧ Blk w b2 #[.int .u8 98, .int .u8 99] 5)) (c0 c3 c5 c6 c7 c8 c9 c10 c11 c12 c13 c14 c16 c18 c19 c20 c21 c22 c23 c24 c25 c26 c27 c28 c29 c30 c31 c32 c33 c34 c35 c36 c37 : Value) :
    Goes Tryd.prog .any fxOps (NoPanic Q) (FxS g1) 22 #[true, false, true, false, false, false, false, false, false, false, false, false, false, false, false, false, false, false, false, false, false, false, false, false] ⟨#[c0, .pointer (some ⟨g1, 0, none⟩), .int .i64 0, c3, .int .i64 1, c5, c6, c7, c8, c9, c10, c11, c12, c13, c14, .slice (some ⟨b0, 0, none⟩) 1 1, c16, .slice (some ⟨b2, 0, none⟩) 2 2, c18, c19, c20, c21, c22, c23, c24, c25, c26, c27, c28, c29, c30, c31, c32, c33, c34, c35, c36, c37], []⟩ w := by
  refine Goes.three (i := 1) (j := 3) (k := 6) (o := ⟨some 16, _, _, _, _, _⟩) (p := ⟨some 18, _, _, _, _, _⟩) (q := ⟨some 21, _, _, _, _, _⟩) (by kernel_rfl) rfl rfl rfl (fun K hK => ?_) (fun K hK => ?_) (fun K hK => ?_)
  · skip
    rw [if_pos (by rfl)]
    obtain ⟨wn, hrun, HM⟩ := conv_mark b0 1 _ rfl F0.out.1 F0.out.2 HB.out
    refine wp_convert (.tmp 15) (by rfl) _ (by rfl) _ wn hrun.out ?_
    have hm := HM.out
    refine hK.out _ _ (fxs_on H1.out hm.old _) ?_
    clear hK K
    try simp only [Act.put, List.setIfInBounds_toArray, List.set_cons_zero, List.set_cons_succ]
    exact fx_111000000 HK H1 HR HQ _ b0 b2 (hid hm.old) (hid ⟨F0.out.1, hm.blk _ _ _ F0.out.2⟩) (hid ⟨F2.out.1, hm.blk _ _ _ F2.out.2⟩) _ _ _ _ _ _ _ _ _ _ _ _ _ _ _ _ _ _ _ _ _ _ _ _ _ _ _ _ _ _ _ _
  · skip
    rw [if_pos (by rfl)]
    obtain ⟨wn, hrun, HM⟩ := conv_mark b2 2 _ rfl F2.out.1 F2.out.2 HB.out
    refine wp_convert (.tmp 17) (by rfl) _ (by rfl) _ wn hrun.out ?_
    have hm := HM.out
    refine hK.out _ _ (fxs_on H1.out hm.old _) ?_
    clear hK K
    try simp only [Act.put, List.setIfInBounds_toArray, List.set_cons_zero, List.set_cons_succ]
    exact fx_101100000 HK H1 HR HQ _ b0 b2 (hid hm.old) (hid ⟨F0.out.1, hm.blk _ _ _ F0.out.2⟩) (hid ⟨F2.out.1, hm.blk _ _ _ F2.out.2⟩) _ _ _ _ _ _ _ _ _ _ _ _ _ _ _ _ _ _ _ _ _ _ _ _ _ _ _ _ _ _ _ _
  · skip
    go_simp
    have hm := Mkd.of HB.out ((Below.refl w.heap.size w).alloc (Nat.le_refl _) (.cells #[.int .u8 0, .int .u8 0, .int .u8 0, .int .u8 1, .int .u8 120, .int .u8 0, .int .u8 0, .int .u8 0, .int .u8 2, .int .u8 0, .int .u8 0, .int .u8 0, .int .u8 1, .int .u8 97, .int .u8 0, .int .u8 0, .int .u8 0, .int .u8 2, .int .u8 98, .int .u8 99] 5))
    refine hK.out _ _ (fxs_on H1.out hm.old _) ?_
    clear hK K
    try simp only [Act.put, List.setIfInBounds_toArray, List.set_cons_zero, List.set_cons_succ]
    exact fx_101000100 HK H1 HR HQ _ b0 b2 w.heap.size (hid hm.old) (hid ⟨F0.out.1, hm.blk _ _ _ F0.out.2⟩) (hid ⟨F2.out.1, hm.blk _ _ _ F2.out.2⟩) (hid ⟨HB.out.size, Blk.new w #[.int .u8 0, .int .u8 0, .int .u8 0, .int .u8 1, .int .u8 120, .int .u8 0, .int .u8 0, .int .u8 0, .int .u8 2, .int .u8 0, .int .u8 0, .int .u8 0, .int .u8 1, .int .u8 97, .int .u8 0, .int .u8 0, .int .u8 0, .int .u8 2, .int .u8 98, .int .u8 99] 5⟩) _ _ _ _ _ _ _ _ _ _ _ _ _ _ _ _ _ _ _ _ _ _ _ _ _ _ _ _ _ _ _ _
set_option maxRecDepth 100000 in
set_option maxHeartbeats 1000000 in
theorem fx_110000000 {w0 : World} {g1 : Nat} {r : List UInt8} {Q : Exit → Act → World → Prop} (HK : Hid (Kt w0)) (H1 : Hid (Nm w0 g1 0)) (HR : Hid (sha abc20 = r)) (HQ : Hid (∀ (c3 c5 c6 c7 c8 c9 c10 c11 c12 c13 c14 d15 d16 d17 d18 d19 d20 d21 d22 d23 d24 d25 d26 d27 d28 d29 d30 d31 d32 d33 d34 d35 d36 d37 : Value) (u : World), Below w0.heap.size w0 u → Q .normal ⟨#[.bool true, .pointer (some ⟨g1, 0, none⟩), .int .i64 0, c3, .int .i64 1, c5, c6, c7, c8, c9, c10, c11, c12, c13, c14, d15, d16, d17, d18, d19, d20, d21, d22, d23, d24, d25, d26, d27, d28, d29, d30, d31, d32, d33, d34, d35, d36, d37], []⟩ u)) (w : World) (b0 : Nat) (HB : Hid (Below w0.heap.size w0 w)) (F0 : Hid (w0.heap.size ≤ b0 ∧ Blk w b0 #[.int .u8 97] 5)) (c0 c3 c5 c6 c7 c8 c9 c10 c11 c12 c13 c14 c17 c18 c19 c20 c21 c22 c23 c24 c25 c26 c27 c28 c29 c30 c31 c32 c33 c34 c35 c36 c37 : Value) :
    Goes Tryd.prog .any fxOps (NoPanic Q) (FxS g1) 22 #[true, true, false, false, false, false, false, false, false, false, false, false, false, false, false, false, false, false, false, false, false, false, false, false] ⟨#[c0, .pointer (some ⟨g1, 0, none⟩), .int .i64 0, c3, .int .i64 1, c5, c6, c7, c8, c9, c10, c11, c12, c13, c14, .slice (some ⟨b0, 0, none⟩) 1 1, .slice (some ⟨b0, 0, none⟩) 1 1, c17, c18, c19, c20, c21, c22, c23, c24, c25, c26, c27, c28, c29, c30, c31, c32, c33, c34, c35, c36, c37], []⟩ w := by
  refine Goes.two (i := 2) (j := 6) (o := ⟨some 17, _, _, _, _, _⟩) (p := ⟨some 21, _, _, _, _, _⟩) (by kernel_rfl) rfl rfl (fun K hK => ?_) (fun K hK => ?_)
  · skip
    go_simp
    have hm := Mkd.of HB.out ((Below.refl w.heap.size w).alloc (Nat.le_refl _) (.cells #[.int .u8 98, .int .u8 99] 5))
    refine hK.out _ _ (fxs_on H1.out hm.old _) ?_
    clear hK K
    try simp only [Act.put, List.setIfInBounds_toArray, List.set_cons_zero, List.set_cons_succ]
    exact fx_111000000 HK H1 HR HQ _ b0 w.heap.size (hid hm.old) (hid ⟨F0.out.1, hm.blk _ _ _ F0.out.2⟩) (hid ⟨HB.out.size, Blk.new w #[.int .u8 98, .int .u8 99] 5⟩) _ _ _ _ _ _ _ _ _ _ _ _ _ _ _ _ _ _ _ _ _ _ _ _ _ _ _ _ _ _ _ _
  · skip
    go_simp
    have hm := Mkd.of HB.out ((Below.refl w.heap.size w).alloc (Nat.le_refl _) (.cells #[.int .u8 0, .int .u8 0, .int .u8 0, .int .u8 1, .int .u8 120, .int .u8 0, .int .u8 0, .int .u8 0, .int .u8 2, .int .u8 0, .int .u8 0, .int .u8 0, .int .u8 1, .int .u8 97, .int .u8 0, .int .u8 0, .int .u8 0, .int .u8 2, .int .u8 98, .int .u8 99] 5))
    refine hK.out _ _ (fxs_on H1.out hm.old _) ?_
    clear hK K
    try simp only [Act.put, List.setIfInBounds_toArray, List.set_cons_zero, List.set_cons_succ]
    exact fx_110000100 HK H1 HR HQ _ b0 w.heap.size (hid hm.old) (hid ⟨F0.out.1, hm.blk _ _ _ F0.out.2⟩) (hid ⟨HB.out.size, Blk.new w #[.int .u8 0, .int .u8 0, .int .u8 0, .int .u8 1, .int .u8 120, .int .u8 0, .int .u8 0, .int .u8 0, .int .u8 2, .int .u8 0, .int .u8 0, .int .u8 0, .int .u8 1, .int .u8 97, .int .u8 0, .int .u8 0, .int .u8 0, .int .u8 2, .int .u8 98, .int .u8 99] 5⟩) _ _ _ _ _ _ _ _ _ _ _ _ _ _ _ _ _ _ _ _ _ _ _ _ _ _ _ _ _ _ _ _
set_option maxRecDepth 100000 in
set_option maxHeartbeats 1000000 in
theorem fx_000000100 {w0 : World} {g1 : Nat} {r : List UInt8} {Q : Exit → Act → World → Prop} (HK : Hid (Kt w0)) (H1 : Hid (Nm w0 g1 0)) (HR : Hid (sha abc20 = r)) (HQ : Hid (∀ (c3 c5 c6 c7 c8 c9 c10 c11 c12 c13 c14 d15 d16 d17 d18 d19 d20 d21 d22 d23 d24 d25 d26 d27 d28 d29 d30 d31 d32 d33 d34 d35 d36 d37 : Value) (u : World), Below w0.heap.size w0 u → Q .normal ⟨#[.bool true, .pointer (some ⟨g1, 0, none⟩), .int .i64 0, c3, .int .i64 1, c5, c6, c7, c8, c9, c10, c11, c12, c13, c14, d15, d16, d17, d18, d19, d20, d21, d22, d23, d24, d25, d26, d27, d28, d29, d30, d31, d32, d33, d34, d35, d36, d37], []⟩ u)) (w : World) (b6 : Nat) (HB : Hid (Below w0.heap.size w0 w)) (F6 : Hid (w0.heap.size ≤ b6 ∧ Blk w b6 #[.int .u8 0, .int .u8 0, .int .u8 0, .int .u8 1, .int .u8 120, .int .u8 0, .int .u8 0, .int .u8 0, .int .u8 2, .int .u8 0, .int .u8 0, .int .u8 0, .int .u8 1, .int .u8 97, .int .u8 0, .int .u8 0, .int .u8 0, .int .u8 2, .int .u8 98, .int .u8 99] 5)) (c0 c3 c5 c6 c7 c8 c9 c10 c11 c12 c13 c14 c15 c16 c17 c18 c19 c20 c22 c23 c24 c25 c26 c27 c28 c29 c30 c31 c32 c33 c34 c35 c36 c37 : Value) :
    Goes Tryd.prog .any fxOps (NoPanic Q) (FxS g1) 23 #[false, false, false, false, false, false, true, false, false, false, false, false, false, false, false, false, false, false, false, false, false, false, false, false] ⟨#[c0, .pointer (some ⟨g1, 0, none⟩), .int .i64 0, c3, .int .i64 1, c5, c6, c7, c8, c9, c10, c11, c12, c13, c14, c15, c16, c17, c18, c19, c20, .slice (some ⟨b6, 0, none⟩) 20 20, c22, c23, c24, c25, c26, c27, c28, c29, c30, c31, c32, c33, c34, c35, c36, c37], []⟩ w := by
  refine Goes.three (i := 0) (j := 2) (k := 7) (o := ⟨some 15, _, _, _, _, _⟩) (p := ⟨some 17, _, _, _, _, _⟩) (q := ⟨some 22, _, _, _, _, _⟩) (by kernel_rfl) rfl rfl rfl (fun K hK => ?_) (fun K hK => ?_) (fun K hK => ?_)
  · skip
    go_simp
    have hm := Mkd.of HB.out ((Below.refl w.heap.size w).alloc (Nat.le_refl _) (.cells #[.int .u8 97] 5))
    refine hK.out _ _ (fxs_on H1.out hm.old _) ?_
    clear hK K
    try simp only [Act.put, List.setIfInBounds_toArray, List.set_cons_zero, List.set_cons_succ]
    exact fx_100000100 HK H1 HR HQ _ w.heap.size b6 (hid hm.old) (hid ⟨HB.out.size, Blk.new w #[.int .u8 97] 5⟩) (hid ⟨F6.out.1, hm.blk _ _ _ F6.out.2⟩) _ _ _ _ _ _ _ _ _ _ _ _ _ _ _ _ _ _ _ _ _ _ _ _ _ _ _ _ _ _ _ _ _
  · skip
    go_simp
    have hm := Mkd.of HB.out ((Below.refl w.heap.size w).alloc (Nat.le_refl _) (.cells #[.int .u8 98, .int .u8 99] 5))
    refine hK.out _ _ (fxs_on H1.out hm.old _) ?_
    clear hK K
    try simp only [Act.put, List.setIfInBounds_toArray, List.set_cons_zero, List.set_cons_succ]
    exact fx_001000100 HK H1 HR HQ _ w.heap.size b6 (hid hm.old) (hid ⟨HB.out.size, Blk.new w #[.int .u8 98, .int .u8 99] 5⟩) (hid ⟨F6.out.1, hm.blk _ _ _ F6.out.2⟩) _ _ _ _ _ _ _ _ _ _ _ _ _ _ _ _ _ _ _ _ _ _ _ _ _ _ _ _ _ _ _ _ _
  · skip
    rw [if_pos (by rfl)]
    obtain ⟨wn, hrun, HM⟩ := conv_mark b6 20 _ rfl F6.out.1 F6.out.2 HB.out
    refine wp_convert (.tmp 21) (by rfl) _ (by rfl) _ wn hrun.out ?_
    have hm := HM.out
    refine hK.out _ _ (fxs_on H1.out hm.old _) ?_
    clear hK K
    try simp only [Act.put, List.setIfInBounds_toArray, List.set_cons_zero, List.set_cons_succ]
    exact fx_000000110 HK H1 HR HQ _ b6 (hid hm.old) (hid ⟨F6.out.1, hm.blk _ _ _ F6.out.2⟩) _ _ _ _ _ _ _ _ _ _ _ _ _ _ _ _ _ _ _ _ _ _ _ _ _ _ _ _ _ _ _ _ _
set_option maxRecDepth 100000 in
set_option maxHeartbeats 1000000 in
theorem fx_001000000 {w0 : World} {g1 : Nat} {r : List UInt8} {Q : Exit → Act → World → Prop} (HK : Hid (Kt w0)) (H1 : Hid (Nm w0 g1 0)) (HR : Hid (sha abc20 = r)) (HQ : Hid (∀ (c3 c5 c6 c7 c8 c9 c10 c11 c12 c13 c14 d15 d16 d17 d18 d19 d20 d21 d22 d23 d24 d25 d26 d27 d28 d29 d30 d31 d32 d33 d34 d35 d36 d37 : Value) (u : World), Below w0.heap.size w0 u → Q .normal ⟨#[.bool true, .pointer (some ⟨g1, 0, none⟩), .int .i64 0, c3, .int .i64 1, c5, c6, c7, c8, c9, c10, c11, c12, c13, c14, d15, d16, d17, d18, d19, d20, d21, d22, d23, d24, d25, d26, d27, d28, d29, d30, d31, d32, d33, d34, d35, d36, d37], []⟩ u)) (w : World) (b2 : Nat) (HB : Hid (Below w0.heap.size w0 w)) (F2 : Hid (w0.heap.size ≤ b2 ∧ Blk w b2 #[.int .u8 98, .int .u8 99] 5)) (c0 c3 c5 c6 c7 c8 c9 c10 c11 c12 c13 c14 c15 c16 c18 c19 c20 c21 c22 c23 c24 c25 c26 c27 c28 c29 c30 c31 c32 c33 c34 c35 c36 c37 : Value) :
    Goes Tryd.prog .any fxOps (NoPanic Q) (FxS g1) 23 #[false, false, true, false, false, false, false, false, false, false, false, false, false, false, false, false, false, false, false, false, false, false, false, false] ⟨#[c0, .pointer (some ⟨g1, 0, none⟩), .int .i64 0, c3, .int .i64 1, c5, c6, c7, c8, c9, c10, c11, c12, c13, c14, c15, c16, .slice (some ⟨b2, 0, none⟩) 2 2, c18, c19, c20, c21, c22, c23, c24, c25, c26, c27, c28, c29, c30, c31, c32, c33, c34, c35, c36, c37], []⟩ w := by
  refine Goes.three (i := 0) (j := 3) (k := 6) (o := ⟨some 15, _, _, _, _, _⟩) (p := ⟨some 18, _, _, _, _, _⟩) (q := ⟨some 21, _, _, _, _, _⟩) (by kernel_rfl) rfl rfl rfl (fun K hK => ?_) (fun K hK => ?_) (fun K hK => ?_)
  · skip
    go_simp
    have hm := Mkd.of HB.out ((Below.refl w.heap.size w).alloc (Nat.le_refl _) (.cells #[.int .u8 97] 5))
    refine hK.out _ _ (fxs_on H1.out hm.old _) ?_
    clear hK K
    try simp only [Act.put, List.setIfInBounds_toArray, List.set_cons_zero, List.set_cons_succ]
    exact fx_101000000 HK H1 HR HQ _ w.heap.size b2 (hid hm.old) (hid ⟨HB.out.size, Blk.new w #[.int .u8 97] 5⟩) (hid ⟨F2.out.1, hm.blk _ _ _ F2.out.2⟩) _ _ _ _ _ _ _ _ _ _ _ _ _ _ _ _ _ _ _ _ _ _ _ _ _ _ _ _ _ _ _ _ _
  · skip
    rw [if_pos (by rfl)]
    obtain ⟨wn, hrun, HM⟩ := conv_mark b2 2 _ rfl F2.out.1 F2.out.2 HB.out
    refine wp_convert (.tmp 17) (by rfl) _ (by rfl) _ wn hrun.out ?_
    have hm := HM.out
    refine hK.out _ _ (fxs_on H1.out hm.old _) ?_
    clear hK K
    try simp only [Act.put, List.setIfInBounds_toArray, List.set_cons_zero, List.set_cons_succ]
    exact fx_001100000 HK H1 HR HQ _ b2 (hid hm.old) (hid ⟨F2.out.1, hm.blk _ _ _ F2.out.2⟩) _ _ _ _ _ _ _ _ _ _ _ _ _ _ _ _ _ _ _ _ _ _ _ _ _ _ _ _ _ _ _ _ _
  · skip
    go_simp
    have hm := Mkd.of HB.out ((Below.refl w.heap.size w).alloc (Nat.le_refl _) (.cells #[.int .u8 0, .int .u8 0, .int .u8 0, .int .u8 1, .int .u8 120, .int .u8 0, .int .u8 0, .int .u8 0, .int .u8 2, .int .u8 0, .int .u8 0, .int .u8 0, .int .u8 1, .int .u8 97, .int .u8 0, .int .u8 0, .int .u8 0, .int .u8 2, .int .u8 98, .int .u8 99] 5))
    refine hK.out _ _ (fxs_on H1.out hm.old _) ?_
    clear hK K
    try simp only [Act.put, List.setIfInBounds_toArray, List.set_cons_zero, List.set_cons_succ]
    exact fx_001000100 HK H1 HR HQ _ b2 w.heap.size (hid hm.old) (hid ⟨F2.out.1, hm.blk _ _ _ F2.out.2⟩) (hid ⟨HB.out.size, Blk.new w #[.int .u8 0, .int .u8 0, .int .u8 0, .int .u8 1, .int .u8 120, .int .u8 0, .int .u8 0, .int .u8 0, .int .u8 2, .int .u8 0, .int .u8 0, .int .u8 0, .int .u8 1, .int .u8 97, .int .u8 0, .int .u8 0, .int .u8 0, .int .u8 2, .int .u8 98, .int .u8 99] 5⟩) _ _ _ _ _ _ _ _ _ _ _ _ _ _ _ _ _ _ _ _ _ _ _ _ _ _ _ _ _ _ _ _ _
set_option maxRecDepth 100000 in
set_option maxHeartbeats 1000000 in
theorem fx_100000000 {w0 : World} {g1 : Nat} {r : List UInt8} {Q : Exit → Act → World → Prop} (HK : Hid (Kt w0)) (H1 : Hid (Nm w0 g1 0)) (HR : Hid (sha abc20 = r)) (HQ : Hid (∀ (c3 c5 c6 c7 c8 c9 c10 c11 c12 c13 c14 d15 d16 d17 d18 d19 d20 d21 d22 d23 d24 d25 d26 d27 d28 d29 d30 d31 d32 d33 d34 d35 d36 d37 : Value) (u : World), Below w0.heap.size w0 u → Q .normal ⟨#[.bool true, .pointer (some ⟨g1, 0, none⟩), .int .i64 0, c3, .int .i64 1, c5, c6, c7, c8, c9, c10, c11, c12, c13, c14, d15, d16, d17, d18, d19, d20, d21, d22, d23, d24, d25, d26, d27, d28, d29, d30, d31, d32, d33, d34, d35, d36, d37], []⟩ u)) (w : World) (b0 : Nat) (HB : Hid (Below w0.heap.size w0 w)) (F0 : Hid (w0.heap.size ≤ b0 ∧ Blk w b0 #[.int .u8 97] 5)) (c0 c3 c5 c6 c7 c8 c9 c10 c11 c12 c13 c14 c16 c17 c18 c19 c20 c21 c22 c23 c24 c25 c26 c27 c28 c29 c30 c31 c32 c33 c34 c35 c36 c37 : Value) :
    Goes Tryd.prog .any fxOps (NoPanic Q) (FxS g1) 23 #[true, false, false, false, false, false, false, false, false, false, false, false, false, false, false, false, false, false, false, false, false, false, false, false] ⟨#[c0, .pointer (some ⟨g1, 0, none⟩), .int .i64 0, c3, .int .i64 1, c5, c6, c7, c8, c9, c10, c11, c12, c13, c14, .slice (some ⟨b0, 0, none⟩) 1 1, c16, c17, c18, c19, c20, c21, c22, c23, c24, c25, c26, c27, c28, c29, c30, c31, c32, c33, c34, c35, c36, c37], []⟩ w := by
  refine Goes.three (i := 1) (j := 2) (k := 6) (o := ⟨some 16, _, _, _, _, _⟩) (p := ⟨some 17, _, _, _, _, _⟩) (q := ⟨some 21, _, _, _, _, _⟩) (by kernel_rfl) rfl rfl rfl (fun K hK => ?_) (fun K hK => ?_) (fun K hK => ?_)
  · skip
    rw [if_pos (by rfl)]
    obtain ⟨wn, hrun, HM⟩ := conv_mark b0 1 _ rfl F0.out.1 F0.out.2 HB.out
    refine wp_convert (.tmp 15) (by rfl) _ (by rfl) _ wn hrun.out ?_
    have hm := HM.out
    refine hK.out _ _ (fxs_on H1.out hm.old _) ?_
    clear hK K
    try simp only [Act.put, List.setIfInBounds_toArray, List.set_cons_zero, List.set_cons_succ]
    exact fx_110000000 HK H1 HR HQ _ b0 (hid hm.old) (hid ⟨F0.out.1, hm.blk _ _ _ F0.out.2⟩) _ _ _ _ _ _ _ _ _ _ _ _ _ _ _ _ _ _ _ _ _ _ _ _ _ _ _ _ _ _ _ _ _
  · skip
    go_simp
    have hm := Mkd.of HB.out ((Below.refl w.heap.size w).alloc (Nat.le_refl _) (.cells #[.int .u8 98, .int .u8 99] 5))
    refine hK.out _ _ (fxs_on H1.out hm.old _) ?_
    clear hK K
    try simp only [Act.put, List.setIfInBounds_toArray, List.set_cons_zero, List.set_cons_succ]
    exact fx_101000000 HK H1 HR HQ _ b0 w.heap.size (hid hm.old) (hid ⟨F0.out.1, hm.blk _ _ _ F0.out.2⟩) (hid ⟨HB.out.size, Blk.new w #[.int .u8 98, .int .u8 99] 5⟩) _ _ _ _ _ _ _ _ _ _ _ _ _ _ _ _ _ _ _ _ _ _ _ _ _ _ _ _ _ _ _ _ _
  · skip
    go_simp
    have hm := Mkd.of HB.out ((Below.refl w.heap.size w).alloc (Nat.le_refl _) (.cells #[.int .u8 0, .int .u8 0, .int .u8 0, .int .u8 1, .int .u8 120, .int .u8 0, .int .u8 0, .int .u8 0, .int .u8 2, .int .u8 0, .int .u8 0, .int .u8 0, .int .u8 1, .int .u8 97, .int .u8 0, .int .u8 0, .int .u8 0, .int .u8 2, .int .u8 98, .int .u8 99] 5))
    refine hK.out _ _ (fxs_on H1.out hm.old _) ?_
    clear hK K
    try simp only [Act.put, List.setIfInBounds_toArray, List.set_cons_zero, List.set_cons_succ]
    exact fx_100000100 HK H1 HR HQ _ b0 w.heap.size (hid hm.old) (hid ⟨F0.out.1, hm.blk _ _ _ F0.out.2⟩) (hid ⟨HB.out.size, Blk.new w #[.int .u8 0, .int .u8 0, .int .u8 0, .int .u8 1, .int .u8 120, .int .u8 0, .int .u8 0, .int .u8 0, .int .u8 2, .int .u8 0, .int .u8 0, .int .u8 0, .int .u8 1, .int .u8 97, .int .u8 0, .int .u8 0, .int .u8 0, .int .u8 2, .int .u8 98, .int .u8 99] 5⟩) _ _ _ _ _ _ _ _ _ _ _ _ _ _ _ _ _ _ _ _ _ _ _ _ _ _ _ _ _ _ _ _ _
set_option maxRecDepth 100000 in
set_option maxHeartbeats 1000000 in
theorem fx_000000000 {w0 : World} {g1 : Nat} {r : List UInt8} {Q : Exit → Act → World → Prop} (HK : Hid (Kt w0)) (H1 : Hid (Nm w0 g1 0)) (HR : Hid (sha abc20 = r)) (HQ : Hid (∀ (c3 c5 c6 c7 c8 c9 c10 c11 c12 c13 c14 d15 d16 d17 d18 d19 d20 d21 d22 d23 d24 d25 d26 d27 d28 d29 d30 d31 d32 d33 d34 d35 d36 d37 : Value) (u : World), Below w0.heap.size w0 u → Q .normal ⟨#[.bool true, .pointer (some ⟨g1, 0, none⟩), .int .i64 0, c3, .int .i64 1, c5, c6, c7, c8, c9, c10, c11, c12, c13, c14, d15, d16, d17, d18, d19, d20, d21, d22, d23, d24, d25, d26, d27, d28, d29, d30, d31, d32, d33, d34, d35, d36, d37], []⟩ u)) (w : World) (HB : Hid (Below w0.heap.size w0 w)) (c0 c3 c5 c6 c7 c8 c9 c10 c11 c12 c13 c14 c15 c16 c17 c18 c19 c20 c21 c22 c23 c24 c25 c26 c27 c28 c29 c30 c31 c32 c33 c34 c35 c36 c37 : Value) :
    Goes Tryd.prog .any fxOps (NoPanic Q) (FxS g1) 24 #[false, false, false, false, false, false, false, false, false, false, false, false, false, false, false, false, false, false, false, false, false, false, false, false] ⟨#[c0, .pointer (some ⟨g1, 0, none⟩), .int .i64 0, c3, .int .i64 1, c5, c6, c7, c8, c9, c10, c11, c12, c13, c14, c15, c16, c17, c18, c19, c20, c21, c22, c23, c24, c25, c26, c27, c28, c29, c30, c31, c32, c33, c34, c35, c36, c37], []⟩ w := by
  refine Goes.three (i := 0) (j := 2) (k := 6) (o := ⟨some 15, _, _, _, _, _⟩) (p := ⟨some 17, _, _, _, _, _⟩) (q := ⟨some 21, _, _, _, _, _⟩) (by kernel_rfl) rfl rfl rfl (fun K hK => ?_) (fun K hK => ?_) (fun K hK => ?_)
  · skip
    go_simp
    have hm := Mkd.of HB.out ((Below.refl w.heap.size w).alloc (Nat.le_refl _) (.cells #[.int .u8 97] 5))
    refine hK.out _ _ (fxs_on H1.out hm.old _) ?_
    clear hK K
    try simp only [Act.put, List.setIfInBounds_toArray, List.set_cons_zero, List.set_cons_succ]
    exact fx_100000000 HK H1 HR HQ _ w.heap.size (hid hm.old) (hid ⟨HB.out.size, Blk.new w #[.int .u8 97] 5⟩) _ _ _ _ _ _ _ _ _ _ _ _ _ _ _ _ _ _ _ _ _ _ _ _ _ _ _ _ _ _ _ _ _ _
  · skip
    go_simp
    have hm := Mkd.of HB.out ((Below.refl w.heap.size w).alloc (Nat.le_refl _) (.cells #[.int .u8 98, .int .u8 99] 5))
    refine hK.out _ _ (fxs_on H1.out hm.old _) ?_
    clear hK K
    try simp only [Act.put, List.setIfInBounds_toArray, List.set_cons_zero, List.set_cons_succ]
    exact fx_001000000 HK H1 HR HQ _ w.heap.size (hid hm.old) (hid ⟨HB.out.size, Blk.new w #[.int .u8 98, .int .u8 99] 5⟩) _ _ _ _ _ _ _ _ _ _ _ _ _ _ _ _ _ _ _ _ _ _ _ _ _ _ _ _ _ _ _ _ _ _
  · skip
    go_simp
    have hm := Mkd.of HB.out ((Below.refl w.heap.size w).alloc (Nat.le_refl _) (.cells #[.int .u8 0, .int .u8 0, .int .u8 0, .int .u8 1, .int .u8 120, .int .u8 0, .int .u8 0, .int .u8 0, .int .u8 2, .int .u8 0, .int .u8 0, .int .u8 0, .int .u8 1, .int .u8 97, .int .u8 0, .int .u8 0, .int .u8 0, .int .u8 2, .int .u8 98, .int .u8 99] 5))
    refine hK.out _ _ (fxs_on H1.out hm.old _) ?_
    clear hK K
    try simp only [Act.put, List.setIfInBounds_toArray, List.set_cons_zero, List.set_cons_succ]
    exact fx_000000100 HK H1 HR HQ _ w.heap.size (hid hm.old) (hid ⟨HB.out.size, Blk.new w #[.int .u8 0, .int .u8 0, .int .u8 0, .int .u8 1, .int .u8 120, .int .u8 0, .int .u8 0, .int .u8 0, .int .u8 2, .int .u8 0, .int .u8 0, .int .u8 0, .int .u8 1, .int .u8 97, .int .u8 0, .int .u8 0, .int .u8 0, .int .u8 2, .int .u8 98, .int .u8 99] 5⟩) _ _ _ _ _ _ _ _ _ _ _ _ _ _ _ _ _ _ _ _ _ _ _ _ _ _ _ _ _ _ _ _ _ _
end Go.Proofs.YtikmhnlhaolbfaaDoor
