/-
  Numbers as parts ahead of a sum; sigs.summed, walked: the parts' number below Q. Conditions: the library's table K lies there; a text of 1000000 bytes at most.
-/
import Derived.Test.YtioebjbjpjbodaaDoorPkAn
import Derived.Test.YtioebjbjpjbodaaDoorPkAl
import Derived.LoopN
import Derived.Deep.MidRow
namespace Go.Proofs.YtioebjbjpjbodaaDoor
open Go.RowKit
set_option linter.unusedVariables false
set_option linter.unusedSimpArgs false

theorem wnum_num (x : Nat) (hx : x < 2 ^ 256) : wnum [wd x 0, wd x 1, wd x 2, wd x 3] = x := by
  simp only [wnum, wd]
  rw [show (2 : Nat) ^ 256 = 115792089237316195423570985008687907853269984665640564039457584007913129639936 by decide] at hx
  rw [show (18446744073709551616 : Nat) ^ 0 = 1 by decide, show (18446744073709551616 : Nat) ^ 1 = 18446744073709551616 by decide, show (18446744073709551616 : Nat) ^ 2 = 340282366920938463463374607431768211456 by decide, show (18446744073709551616 : Nat) ^ 3 = 6277101735386680763835789423207666416102355444464034512896 by decide]
  omega
/-- these parts, and then that one -/
def pts (l : List (List UInt8)) (bs : List UInt8) : Nat → List UInt8 := fun r => l.getD r bs
/-- a list of parts of one's own: each is 32 bytes in a block that no list holds -/
def Pt (W0 : World) (v : Value) (ps : List (Nat × List UInt8)) (w : World) : Prop :=
  Below W0.heap.size W0 w ∧ w.ownsRow W0.heap.size 73 1 v ps.length (ps.map fun p => Value.slice (some ⟨p.1, 0, none⟩) 32 32) ∧ ∀ p ∈ ps, p.2.length = 32 ∧ Row w p.1 p.2 ∧ v.ownBlock ≠ some p.1
theorem Pt.nil {W0 w : World} (h : Below W0.heap.size W0 w) : Pt W0 (.slice none 0 0) [] w := ⟨h, World.ownsRow_nil w _ 73 1, fun p hp => by cases hp⟩
theorem Pt.old {W0 w : World} {v : Value} {ps : List (Nat × List UInt8)} (h : Pt W0 v ps w) : Below W0.heap.size W0 w := h.1
theorem Pt.on {W0 w w' : World} {v : Value} {ps : List (Nat × List UInt8)} (h : Pt W0 v ps w) (hb : Below w.heap.size w w') : Pt W0 v ps w' :=
  ⟨h.1.trans (hb.mono h.1.size), rowo_below h.2.1 hb, fun p hp => ⟨(h.2.2 p hp).1, (h.2.2 p hp).2.1.below hb (h.2.2 p hp).2.1.lt, (h.2.2 p hp).2.2⟩⟩
theorem Pt.free {W0 w : World} {v : Value} {ps : List (Nat × List UInt8)} (h : Pt W0 v ps w) (g : Nat) (hg : w.heap.size ≤ g) : v.ownBlock ≠ some g := fun e => by
  have := (World.ownsRow.lt h.2.1 g e).2; omega
theorem pt_grown {W0 w w' : World} {v v' : Value} {ps : List (Nat × List UInt8)} (h : Pt W0 v ps w) (hgr : w.grownBy w' v.ownBlock) : Below W0.heap.size W0 w' ∧ ∀ k, k < w.heap.size → v.ownBlock ≠ some k → w'.heap[k]? = w.heap[k]? := by
  have hkeep : ∀ k, k < w.heap.size → v.ownBlock ≠ some k → w'.heap[k]? = w.heap[k]? := fun k hk hv => hgr.block k hk (by intro e; exact hv e.symm)
  have hlo : ∀ k, v.ownBlock = some k → W0.heap.size ≤ k ∧ k < w.heap.size := World.ownsRow.lt h.2.1
  exact ⟨h.1.trans ⟨hgr.os, hgr.tape, hgr.output, hgr.size, fun k hk => hkeep k (by have := h.1.size; omega) (fun e => by have := (hlo k e).1; omega)⟩, hkeep⟩
theorem pt_cell {w : World} {b : Nat} {u : Value} (hb : w.cell? ⟨b, 0, none⟩ = some u) : ∀ j x, ([u] : List Value)[j]? = some x → w.cell? ((⟨b, 0, none⟩ : Addr).add j) = some x := by
  intro j x hj
  rcases j with _ | j
  · simp only [List.getElem?_cons_zero, Option.some.injEq] at hj
    subst hj
    rw [Addr.add_lit]; exact hb
  · simp at hj
set_option maxRecDepth 100000 in
theorem Pt.put {W0 w : World} {v : Value} {ps : List (Nat × List UInt8)} (h : Pt W0 v ps w) (hn : ps.length ≤ 10) {g b : Nat} {bs : List UInt8} (d : Nat) (hl : bs.length = 32) (hr : Row w g bs) (hg : v.ownBlock ≠ some g) (hb : w.cell? ⟨b, 0, none⟩ = some (.slice (some ⟨g, 0, none⟩) 32 32)) :
    ∃ v' w', Hid ((Builtin.append_ #[72, 72] 72 #[v, .slice (some ⟨b, 0, none⟩) 1 d]).run Tryd.prog w = .ok v' w') ∧ Hid (Pt W0 v' (ps ++ [(g, bs)]) w') := by
  obtain ⟨i0, hi, hz0, hz1, hz2⟩ := info_parts row_info
  obtain ⟨v', w', hrun, hown, hgr, _, hob⟩ := run_append_own_at (P := Tryd.prog) w W0.heap.size 72 72 73 i0 (.slice none 0 0) 1 24 Tryd.underlying72 hi hz0 hz1 hz2 rfl (by omega) v ps.length _ h.2.1 ⟨b, 0, none⟩ 1 d [.slice (some ⟨g, 0, none⟩) 32 32] rfl (pt_cell hb) (by simp [Value.oneCell']) (by simp only [maxLen]; omega) (by omega) h.1.size
  obtain ⟨hB, hk⟩ := pt_grown (v' := v') h hgr
  refine ⟨v', w', hid hrun, hid ⟨hB, by simpa using hown, fun p hp => ?_⟩⟩
  have hp2 : p.2.length = 32 ∧ Row w p.1 p.2 ∧ v.ownBlock ≠ some p.1 := by
    rcases List.mem_append.1 hp with hp | hp
    · exact h.2.2 p hp
    · obtain rfl := List.mem_singleton.1 hp; exact ⟨hl, hr, hg⟩
  refine ⟨hp2.1, (hk p.1 hp2.2.1.lt hp2.2.2).trans hp2.2.1, fun e => ?_⟩
  rcases hob with ho | ho
  · exact hp2.2.2 (ho ▸ e)
  · rw [ho] at e
    injection e with e
    have := hp2.2.1.lt
    omega
set_option maxRecDepth 100000 in
theorem Pt.last {W0 w : World} {v : Value} {ps : List (Nat × List UInt8)} (h : Pt W0 v ps w) (hn : ps.length ≤ 10) {gs b : Nat} {bs : List UInt8} (d : Nat) (hl : bs.length = 32) (hr : Rd W0 (some ⟨gs, 0, none⟩) bs) (hb : w.cell? ⟨b, 0, none⟩ = some (.slice (some ⟨gs, 0, none⟩) 32 32)) :
    ∃ g c w', Hid ((Builtin.append_ #[72, 72] 72 #[v, .slice (some ⟨b, 0, none⟩) 1 d]).run Tryd.prog w = .ok (.slice (some ⟨g, 0, none⟩) (ps.length + 1) c) w') ∧ Hid (Below W0.heap.size W0 w') ∧ Hid (ps.length + 1 ≤ c) ∧
      Hid (Rws w' (some ⟨g, 0, none⟩) (ps.length + 1) (fun r => some ⟨(ps.map Prod.fst).getD r gs, 0, none⟩) (fun _ => 32) (fun _ => 32) (pts (ps.map Prod.snd) bs)) ∧ Hid (∀ k, k < w.heap.size → v.ownBlock ≠ some k → w'.heap[k]? = w.heap[k]?) ∧ Hid (w.heap.size ≤ w'.heap.size) := by
  obtain ⟨i0, hi, hz0, hz1, hz2⟩ := info_parts row_info
  obtain ⟨v', w', hrun, hown, hgr, _, hob⟩ := run_append_own_at (P := Tryd.prog) w W0.heap.size 72 72 73 i0 (.slice none 0 0) 1 24 Tryd.underlying72 hi hz0 hz1 hz2 rfl (by omega) v ps.length _ h.2.1 ⟨b, 0, none⟩ 1 d [.slice (some ⟨gs, 0, none⟩) 32 32] rfl (pt_cell hb) (by simp [Value.oneCell']) (by simp only [maxLen]; omega) (by omega) h.1.size
  obtain ⟨hB, hk⟩ := pt_grown (v' := v') h hgr
  rcases hown.2 with ⟨_, h0⟩ | ⟨g, cap, cur, rfl, hbg, hh, hnc, hm, hs, ht⟩
  · omega
  refine ⟨g, cap, w', hid hrun, hid hB, hid hnc, hid fun r hr2 => ?_, hid hk, hid hgr.size⟩
  have hcell := World.ownsRow.cellAt hown r (by omega)
  rcases Nat.lt_or_ge r ps.length with hlt | hge
  · have hq := h.2.2 ps[r] (List.getElem_mem hlt)
    have e1 : (ps.map Prod.fst).getD r gs = ps[r].1 := by simp [List.getD_eq_getElem?_getD, hlt]
    have e2 : pts (ps.map Prod.snd) bs r = ps[r].2 := by simp [pts, List.getD_eq_getElem?_getD, hlt]
    rw [e2]
    refine ⟨⟨g, 0, rfl, lt_of_block hh, ?_⟩, hq.1, ?_, Nat.le_refl _, by show 32 ≤ _; omega, fun e => by cases e⟩
    · rw [Nat.zero_add, hcell, List.getElem?_append_left (by simpa using hlt)]
      simp [hlt]
    · show Rd w' (some ⟨(ps.map Prod.fst).getD r gs, 0, none⟩) _
      rw [e1]
      exact Row.rd0 ((hk _ hq.2.1.lt hq.2.2).trans hq.2.1)
  · obtain rfl : r = ps.length := by omega
    have e1 : (ps.map Prod.fst).getD ps.length gs = gs := by simp [List.getD_eq_getElem?_getD]
    have e2 : pts (ps.map Prod.snd) bs ps.length = bs := by simp [pts, List.getD_eq_getElem?_getD]
    rw [e2]
    refine ⟨⟨g, 0, rfl, lt_of_block hh, ?_⟩, hl, ?_, Nat.le_refl _, by show 32 ≤ _; omega, fun e => by cases e⟩
    · rw [Nat.zero_add, hcell, List.getElem?_append_right (by simp)]
      simp
    · show Rd w' (some ⟨(ps.map Prod.fst).getD ps.length gs, 0, none⟩) _
      rw [e1]
      exact hr.below hB (Nat.le_refl _)
theorem sp_append_rows {ops : Array Oper} {rest : List Oper} {o : Oper} {a : Act} {w : World} {Q : Exit → Act → World → Prop} (hgd : o.guard = none) (s x : Operand)
    (ho : o.op = .call { callee := .builtin .append, args := #[s, x], argTypes := #[72, 72] }) (hty : o.type = 72) (vs vx : Value) (hs : a.eval s = vs) (hx : a.eval x = vx) (v' : Value) (w' : World)
    (hrun : (Builtin.append_ #[72, 72] 72 #[vs, vx]).run Tryd.prog w = .ok v' w') (h : wpList Tryd.prog ops Q rest (a.put o.dst v') w') : wpList Tryd.prog ops Q (o :: rest) a w := by
  refine wpList_plain hgd fun K hK => ?_
  unfold Oper.wp
  simp [execOp, ho, hty, resolve, invoke, builtin, hs, hx, hrun, Result.andThen]
  exact hK _ _ h
theorem be32 (x : Nat) : (be x 32).length = 32 := be_length x 32
/-- nums.PutLong behind nothing -/
theorem pl_any (x : Nat) (w : World) (hx : x < 2 ^ 256) : Calls Tryd.prog 37 #[.slice none 0 0, num x] w fun e w' => ∃ g, e = .returned (.slice (some ⟨g, 0, none⟩) 32 32) ∧ w.heap.size ≤ g ∧ Row w' g (be x 32) ∧ Below w.heap.size w w' := by
  refine (putLong_any none 0 (wd x 0) (wd x 1) (wd x 2) (wd x 3) [] w (Rd.nil _ _) (by simp) (wd_lt x 0) (wd_lt x 1) (wd_lt x 2) (wd_lt x 3)).mono ?_
  rintro e w' ⟨rfl, h1, h2⟩
  rw [wnum_num x hx] at h1
  exact ⟨_, rfl, Nat.le_succ _, h1, h2⟩
/-- the number of these parts, below q -/
def nop (st : ByteArray) (l : List (List UInt8)) (bs : List UInt8) (q : Nat) : Nat := if q = 0 then 0 else nof st.data.toList (l.length + 1) (pts l bs) q
theorem nop_lt (st : ByteArray) (l : List (List UInt8)) (bs : List UInt8) (q : Nat) (hq : q ≠ 0) : nop st l bs q < q := by
  unfold nop nof wid
  rw [if_neg hq]
  exact Nat.mod_lt _ (by omega)
theorem numb_any (st : ByteArray) (a0 : Option Addr) (c0 : Nat) (A : Nat → Option Addr) (l : List (List UInt8)) (bs : List UInt8) (n m s : Nat) (w : World) (hn : l.length + 1 = n) (hm : m < 2 ^ 256) (hR : Rws w a0 n A (fun _ => 32) (fun _ => 32) (pts l bs)) (hK : Kt w) (hl : l.length ≤ 10) (hs : st.size ≤ 1000000) (hc : n ≤ c0) (h0 : a0 = none → c0 = 0)
    (hv : nop st l bs m = s) : Calls Tryd.prog 38 #[num m, .string st, .slice a0 n c0] w fun r w' => (∃ e, r = .returned (.tuple #[num s, .int .i64 e])) ∧ Below w.heap.size w w' := by
  subst hn
  refine (number_any st a0 (l.length + 1) c0 A _ _ _ m s _ w hm hR hK (by omega) (fun r _ => by decide) hs hc h0 hv rfl).mono ?_
  rintro e w' ⟨rfl, hb⟩
  exact ⟨⟨_, rfl⟩, hb⟩
theorem on_pt {W0 w : World} {v : Value} {ps : List (Nat × List UInt8)} (h : Pt W0 v ps w) : On w fun u => Pt W0 v ps u := fun u hu => h.on hu
theorem env_add {w w' : World} {l : List (Nat × Nat)} (h : Env w l w') {a x : Nat} (hn : Nm w' a x) : Env w ((a, x) :: l) w' :=
  ⟨h.1, fun p hp => by rcases List.mem_cons.1 hp with rfl | hp; exact hn; exact h.2 p hp⟩
theorem onNm {w : World} {g x : Nat} (h : Nm w g x) : On w fun u => Nm u g x := fun u hu => (hu.block g (lt_of_block h)).trans h
theorem bt_rd {w : World} {g : Nat} {t : TypeId} {bs : List UInt8} (h : Bt w g t bs) : Rd w (some ⟨g, 0, none⟩) bs := by
  intro hp
  refine ⟨g, 0, rfl, h.lt, fun j hj => ?_⟩
  rw [Nat.zero_add, h.cell j hj]
/-- from here on, what is loaded there is this -/
def Ld (w : World) (ty g o : Nat) (v : Value) : Prop := ∀ u, Below w.heap.size w u → (Instr.loadAt ty (.pointer (some ⟨g, o, none⟩))).run Tryd.prog u = .ok v u
theorem Ld.on {w w' : World} {ty g o : Nat} {v : Value} (h : Ld w ty g o v) (hb : Below w.heap.size w w') : Ld w' ty g o v := fun u hu => h u (hb.trans (hu.mono hb.size))
theorem Ld.here {w : World} {ty g o : Nat} {v : Value} (h : Ld w ty g o v) : (Instr.loadAt ty (.pointer (some ⟨g, o, none⟩))).run Tryd.prog w = .ok v w := h w (Below.refl _ _)
theorem rng_of {w : World} {g t : Nat} {cs : Array Value} (h : w.heap[g]? = some (.cells cs t (0, 0))) (o : Nat) (vs : List Value) (hv : ∀ j v, vs[j]? = some v → cs[o + j]? = some v) : w.rangeAt g o vs := fun j v hj => by
  rw [cell_of_row w g (o + j) _ t (0, 0) h]; exact hv j v hj
theorem ld_of {w : World} {g t : Nat} {cs : Array Value} (h : w.heap[g]? = some (.cells cs t (0, 0))) (ty o : Nat) (vs : List Value) (d : TypeDesc) (hv : ∀ j v, vs[j]? = some v → cs[o + j]? = some v)
    (hu : Tryd.prog.underlying ty = some d) (hd : d.isRow = true) (hi : (Tryd.prog.info? ty).map (·.size) = some vs.length) : Ld w ty g o (.agg vs.toArray) := fun u hu2 =>
  run_loadAt_mid u g o ty vs d (rng_of ((hu2.block g (lt_of_block h)).trans h) o vs hv) hu hd hi
theorem four_at (x : Nat) (cs : Array Value) (o : Nat) (h0 : cs[o]? = some (.int .u64 (wd x 0 : Int))) (h1 : cs[o + 1]? = some (.int .u64 (wd x 1 : Int))) (h2 : cs[o + 2]? = some (.int .u64 (wd x 2 : Int))) (h3 : cs[o + 3]? = some (.int .u64 (wd x 3 : Int))) : ∀ j v, (cls x).toList[j]? = some v → cs[o + j]? = some v := by
  intro j v hj
  match j, hj with
  | 0, hj => rw [← hj]; exact h0
  | 1, hj => rw [← hj]; exact h1
  | 2, hj => rw [← hj]; exact h2
  | 3, hj => rw [← hj]; exact h3
  | n + 4, hj => simp at hj
theorem ldN {w : World} {g t : Nat} {cs : Array Value} (x o : Nat) (h : w.heap[g]? = some (.cells cs t (0, 0))) (hv : ∀ j v, (cls x).toList[j]? = some v → cs[o + j]? = some v) : Ld w 24 g o (num x) :=
  ld_of h 24 o (cls x).toList _ hv Tryd.underlying24 rfl (by kernel_rfl)
theorem ldG {w : World} {g t : Nat} {cs : Array Value} (p q g0 o : Nat) (h : w.heap[g]? = some (.cells cs t (0, 0))) (hv : ∀ j v, (gcs p q g0).toList[j]? = some v → cs[o + j]? = some v) : Ld w 26 g o (gv p q g0) :=
  ld_of h 26 o (gcs p q g0).toList _ hv Tryd.underlying26 rfl (by kernel_rfl)
theorem ldS {w : World} {g t : Nat} {cs : Array Value} (bs : List UInt8) (hl : bs.length = 32) (o : Nat) (h : w.heap[g]? = some (.cells cs t (0, 0))) (hv : ∀ j v, (bvs bs)[j]? = some v → cs[o + j]? = some v) : Ld w 28 g o (.agg (bvs bs).toArray) :=
  ld_of h 28 o (bvs bs) _ hv Tryd.underlying28 rfl (by rw [bvs_length, hl]; kernel_rfl)
/-- a signature's cells, as a value -/
abbrev sgc (c s : Nat) : Array Value := #[.int .u64 (wd c 0 : Int), .int .u64 (wd c 1 : Int), .int .u64 (wd c 2 : Int), .int .u64 (wd c 3 : Int), .int .u64 (wd s 0 : Int), .int .u64 (wd s 1 : Int), .int .u64 (wd s 2 : Int), .int .u64 (wd s 3 : Int)]
abbrev sgv (c s : Nat) : Value := .agg (sgc c s)
theorem ldX {w : World} {g t : Nat} {cs : Array Value} (c s o : Nat) (h : w.heap[g]? = some (.cells cs t (0, 0))) (hv : ∀ j v, (sgc c s).toList[j]? = some v → cs[o + j]? = some v) : Ld w 33 g o (sgv c s) :=
  ld_of h 33 o (sgc c s).toList _ hv Tryd.underlying33 rfl (by kernel_rfl)
theorem all_at (cs : Array Value) : ∀ j v, cs.toList[j]? = some v → cs[0 + j]? = some v := fun j v h => by rw [Nat.zero_add]; simpa using h
theorem wp_ld {ops : Array Oper} {rest : List Oper} {o : Oper} {a : Act} {w : World} {Q : Exit → Act → World → Prop} (hgd : o.guard = none) (ty : TypeId) (x : Operand) (ho : o.op = .load ty x) (p : Value) (hx : a.eval x = p) (v : Value) (hl : (Instr.loadAt ty p).run Tryd.prog w = .ok v w)
    (h : wpList Tryd.prog ops Q rest (a.put o.dst v) w) : wpList Tryd.prog ops Q (o :: rest) a w := by
  refine wpList_plain hgd fun K hK => ?_
  unfold Oper.wp execOp
  simp only [ho, hx, Sem.run_bind, Result.andThen_ok, hl]
  exact hK _ _ h
theorem nm_zero {w : World} {g : Nat} (h : w.heap[g]? = some (.cells #[.int .u64 0, .int .u64 0, .int .u64 0, .int .u64 0] 24 (0, 0))) : Nm w g 0 := by unfold Nm; rw [← cls_zero]; exact h
theorem env_one {W0 w : World} {g x : Nat} (h : Below W0.heap.size W0 w) (hn : Nm w g x) : Env W0 [(g, x)] w := ⟨h, fun p hp => by obtain rfl := List.mem_singleton.1 hp; exact hn⟩
set_option maxRecDepth 100000 in
set_option maxHeartbeats 4000000 in
theorem summed1_any (p q g x : Nat) (st : ByteArray) (bs : List UInt8) (gl r : Nat) (w : World) (hq : q < 2 ^ 256) (hx : x < 2 ^ 256) (hbs : bs.length = 32) (hK : Kt w) (hs : st.size ≤ 1000000) (hS : Sl1 w gl x) (hv : nop st [be x 32] bs q = r) :
    Calls Tryd.prog 28 #[gv p q g, .string st, .agg (bvs bs).toArray, .slice (some ⟨gl, 0, none⟩) 1 1] w fun e w' => e = .returned (num r) ∧ Below w.heap.size w w' := by
  have QL := hid hq
  have XL := hid hx
  have HL := hid hbs
  have HS := hid hs
  have HV := hid hv
  obtain ⟨hB0, hs0, hG0, hT0⟩ := boxes2 w (gcs p q g) (bvs bs).toArray 26 28
  have hS0 : Sl1 ((w.alloc (.cells (gcs p q g) 26)).alloc (.cells (bvs bs).toArray 28)) gl x := (hB0.block gl (lt_of_block hS)).trans hS
  have hK0 := hK.on hB0
  clear hq hx hbs hs hv hS hK
  have HFIN : Hid (∀ u, Below ((w.alloc (.cells (gcs p q g) 26)).alloc (.cells (bvs bs).toArray 28)).heap.size ((w.alloc (.cells (gcs p q g) 26)).alloc (.cells (bvs bs).toArray 28)) u → Below w.heap.size w u) := hid (fun u hu => hB0.trans (hu.mono hB0.size))
  go_enter Tryd.func28, Tryd.ntmps28
  go_wp2_with fail
  generalize (w.alloc (.cells (gcs p q g) 26)).alloc (.cells (bvs bs).toArray 28) = W0 at *
  have hE := (Env.refl W0).zero
  rw [hs0] at hE
  have hb1 := (Below.refl W0.heap.size W0).alloc (Nat.le_refl _) (.cells #[.int .u64 0, .int .u64 0, .int .u64 0, .int .u64 0] 24)
  have HW0 := hid hb1.size
  have HZ0 : Hid (W0.heap.size = w.heap.size + 1 + 1) := hid hs0
  have HZ1 := hid (hE.lt (w.heap.size + 1 + 1) 0 (by simp))
  have H0 := hid hE
  have HGW : Hid (Gm _ w.heap.size 26 p q g) := hid (Gm.on hG0 hb1)
  have hT1 : Bt _ (w.heap.size + 1) 28 bs := Bt.on hT0 hb1
  have HRD := hid (bt_rd hT1)
  have HKT := hid (hK0.on hb1)
  have HSW : Hid (Sl1 _ gl x) := hid ((hb1.block gl (lt_of_block hS0)).trans hS0)
  clear hE hb1 hT1 hB0 hs0 hG0 hT0 hS0 hK0
  generalize W0.alloc (.cells #[.int .u64 0, .int .u64 0, .int .u64 0, .int .u64 0] 24) = w0 at *
  generalize w.heap.size + 1 + 1 = g_z at *
  generalize w.heap.size + 1 = g_s at *
  generalize hgp : w.heap.size = g_p at *
  have HP0 := hid (Pt.nil (Below.refl w0.heap.size w0))
  refine wp_loop_rounds 2 ?_
  rw [rounds_succ]
  obtain ⟨s0, s1, s2, s3, sl⟩ := HSW.out.at HP0.out.old
  go_wp2_with fail
  clear s0 s1 s2 s3 sl
  have HP0b := hid (HP0.out.on ((Below.refl _ _).alloc (Nat.le_refl _) (.cells (cls x) 24)))
  clear HP0
  generalize w0.alloc (.cells (cls x) 24) = w0b at *
  refine (pl_any x _ XL.out).mono ?_
  rintro e w0c ⟨h0, rfl, hge, hrow, hb⟩
  obtain ⟨v1, w1, R, HP1⟩ := Pt.put ((HP0b.out.on hb).on ((Below.refl _ _).alloc (Nat.le_refl _) (.cells #[.slice (some ⟨h0, 0, none⟩) 32 32] 73))) (by simp) 1 (be32 x) (hrow.alloc (.cells #[.slice (some ⟨h0, 0, none⟩) 32 32] 73)) (HP0b.out.free h0 hge) (by rw [cell_of_row _ _ 0 _ 73 (0, 0) (heap_alloc_new w0c (.cells #[.slice (some ⟨h0, 0, none⟩) 32 32] 73))]; rfl)
  clear hge hrow hb HP0b
  go_wp2_with (at_builtin; refine sp_append_rows rfl (.tmp 20) (.tmp 23) rfl rfl _ _ rfl rfl _ _ R.out ?_)
  clear R
  rw [rounds_succ]
  go_upto_region 7 with fail
  go_cut [12] (fun s12 wx => ∃ g12 : Nat, s12 = .pointer (some ⟨g12, 0, none⟩) ∧ Hid (Env W0 [(g12, r), (g_z, 0)] wx))
  case first =>
    have FP := hid (on_pt HP1.out)
    have hb := (Below.refl w1.heap.size w1).drew
    have FP := hid (FP.out.on hb)
    clear hb HP1 HSW
    refine wp_region_noPanic ?_
    refine Goes.region (fun (L : Array Bool) (u : World) => u.cell? ⟨g_p, 4, none⟩ = some (.int .u64 (wd q 0 : Int)) ∧ u.cell? ⟨g_p, 5, none⟩ = some (.int .u64 (wd q 1 : Int)) ∧ u.cell? ⟨g_p, 6, none⟩ = some (.int .u64 (wd q 2 : Int)) ∧ u.cell? ⟨g_p, 7, none⟩ = some (.int .u64 (wd q 3 : Int))) (by kernel_rfl) ?_
    generalize w1.drew = ud at *
    refine Goes.tk (i := 0) (o := ⟨some 27, _, _, _, _, _⟩) (v := ?_) [] (y := Or.inl ⟨by rfl, ?_⟩) (s := (HGW.out.on FP.out.here.old).q) (H := ?_)
    rotate_left
    · intro u hY; go_simp; try with_reducible rfl
    try simp only [putz]
    refine Goes.tk (i := 1) (o := ⟨some 28, _, _, _, _, _⟩) (v := ?_) [] (y := Or.inl ⟨by rfl, ?_⟩) (s := (HGW.out.on FP.out.here.old).q) (H := ?_)
    rotate_left
    · rintro u ⟨up, -, hX⟩; (try dsimp only at hX); obtain ⟨x0, x1, x2, x3⟩ := hX; go_simp; try with_reducible rfl
    try simp only [putz]
    refine Goes.tk (i := 2) (o := ⟨some 29, _, _, _, _, _⟩) (v := ?_) [] (y := Or.inl ⟨by rfl, ?_⟩) (s := (HGW.out.on FP.out.here.old).q) (H := ?_)
    rotate_left
    · intro u hY; go_simp; try with_reducible rfl
    try simp only [putz]
    refine Goes.tk (i := 3) (o := ⟨some 30, _, _, _, _, _⟩) (v := ?_) [] (y := Or.inl ⟨by rfl, ?_⟩) (s := (HGW.out.on FP.out.here.old).q) (H := ?_)
    rotate_left
    · intro u hY; go_simp; try with_reducible rfl
    try simp only [putz]
    refine Goes.tk (i := 4) (o := ⟨some 31, _, _, _, _, _⟩) (v := ?_) [] (y := Or.inl ⟨by rfl, ?_⟩) (s := (HGW.out.on FP.out.here.old).q) (H := ?_)
    rotate_left
    · intro u hY; go_simp; try with_reducible rfl
    try simp only [putz]
    refine Goes.two (i := 5) (j := 11) (o := ⟨some 32, _, _, _, _, _⟩) (p := ⟨some 12, _, _, _, _, _⟩) (by kernel_rfl) rfl rfl (fun K hK => ?_) (fun K hK => ?_)
    · skip
      go_simp
      have hb := (Below.refl ud.heap.size ud).alloc (Nat.le_refl _) (.cells #[.slice (some ⟨g_s, 0, none⟩) 32 32] 73)
      have hh := heap_alloc_new ud (.cells #[.slice (some ⟨g_s, 0, none⟩) 32 32] 73)
      have hbo := FP.out.here.old.trans (hb.mono FP.out.here.old.size)
      refine hK.out _ _ ((HGW.out.on hbo).q) ?_
      clear hK K
      try simp only [putz]
      have FP := hid (FP.out.on hb)
      have F2 := hid (on_cell (i := 0) (lt_of_block hh) (by rw [cell_of_row _ _ _ _ 73 _ hh]; rfl))
      clear hb hh hbo
      generalize ud.alloc (.cells #[.slice (some ⟨g_s, 0, none⟩) 32 32] 73) = u0 at *
      generalize ud.heap.size = gb at *
      refine Goes.two (i := 6) (j := 11) (o := ⟨some 33, _, _, _, _, _⟩) (p := ⟨some 12, _, _, _, _, _⟩) (by kernel_rfl) rfl rfl (fun K hK => ?_) (fun K hK => ?_)
      · skip
        rw [if_pos (by rfl)]
        obtain ⟨gA, cA, u1, R, HB, HC, HR, HKP, HSZ⟩ := Pt.last FP.out.here (by simp) 1 HL.out HRD.out F2.out.here
        have HC : Hid (2 ≤ cA) := HC
        have HR : Hid (Rws u1 (some ⟨gA, 0, none⟩) 2 (fun r => some ⟨([h0] : List Nat).getD r g_s, 0, none⟩) (fun _ => 32) (fun _ => 32) (pts [be x 32] bs)) := HR
        have R : Hid ((Builtin.append_ #[72, 72] 72 #[v1, .slice (some ⟨gb, 0, none⟩) 1 1]).run Tryd.prog u0 = .ok (.slice (some ⟨gA, 0, none⟩) 2 cA) u1) := R
        refine wp_append 72 (.tmp 30) (.tmp 32) (by rfl) (by rfl) _ _ (by rfl) (by rfl) _ _ R.out ?_
        refine hK.out _ _ ((HGW.out.on HB.out).q) ?_
        clear hK K
        try simp only [putz]
        have FB := hid (on_below HB.out)
        have FR := hid (on_rws HR.out)
        clear R HB HR HKP HSZ FP F2
        refine Goes.two (i := 7) (j := 11) (o := ⟨some 34, _, _, _, _, _⟩) (p := ⟨some 12, _, _, _, _, _⟩) (by kernel_rfl) rfl rfl (fun K hK => ?_) (fun K hK => ?_)
        · skip
          go_simp
          with_reducible refine (numb_any st (some ⟨gA, 0, none⟩) cA _ [be x 32] bs 2 q r _ rfl QL.out FR.out.here (HKT.out.on FB.out.here) (by simp) HS.out HC.out (fun e => by cases e) HV.out).mono ?_
          rintro e u2 ⟨⟨e5, rfl⟩, hb⟩
          go_wp2_with fail
          have hbo := FB.out.here.trans (hb.mono FB.out.here.size)
          refine hK.out _ _ ((HGW.out.on hbo).q) ?_
          clear hK K
          try simp only [putz]
          have FB := hid (FB.out.on hb)
          clear hb hbo FR
          refine Goes.tk (i := 8) (o := ⟨some 26, _, _, _, _, _⟩) (v := ?_) [] (y := Or.inl ⟨by rfl, ?_⟩) (s := (HGW.out.on FB.out.here).q) (H := ?_)
          rotate_left
          · intro u hY; go_simp; try with_reducible rfl
          try simp only [putz]
          refine Goes.tk (i := 9) (o := ⟨some 35, _, _, _, _, _⟩) (v := ?_) [] (y := Or.inl ⟨by rfl, ?_⟩) (s := (HGW.out.on FB.out.here).q) (H := ?_)
          rotate_left
          · intro u hY; go_simp; try with_reducible rfl
          try simp only [putz]
          refine Goes.tk (i := 10) (o := ⟨some 36, _, _, _, _, _⟩) (v := ?_) [] (y := Or.inl ⟨by rfl, ?_⟩) (s := (HGW.out.on FB.out.here).q) (H := ?_)
          rotate_left
          · intro u hY; go_simp; try with_reducible rfl
          try simp only [putz]
          refine Goes.one (i := 11) (o := ⟨some 12, _, _, _, _, _⟩) (by kernel_rfl) rfl (fun K hK => ?_)
          go_simp
          have hb := (Below.refl u2.heap.size u2).alloc (Nat.le_refl _) (.cells #[.int .u64 0, .int .u64 0, .int .u64 0, .int .u64 0] 24)
          have hh := heap_alloc_new u2 (.cells #[.int .u64 0, .int .u64 0, .int .u64 0, .int .u64 0] 24)
          rw [cls_zero] at hh
          have hbo := FB.out.here.trans (hb.mono FB.out.here.size)
          refine hK.out _ _ ((HGW.out.on hbo).q) ?_
          clear hK K
          try simp only [putz]
          have FG := hid (FB.out.here.size)
          have FB := hid (FB.out.on hb)
          have FZ := hid (onNm (show Nm (u2.alloc (.cells #[.int .u64 0, .int .u64 0, .int .u64 0, .int .u64 0] 24)) u2.heap.size 0 from by rw [cls_zero]; exact hh))
          clear hb hh hbo
          generalize u2.alloc (.cells #[.int .u64 0, .int .u64 0, .int .u64 0, .int .u64 0] 24) = u3 at *
          generalize u2.heap.size = g12 at *
          have hs := env_add (H0.out.on FB.out.here) FZ.out.here
          obtain ⟨z0, z1, z2, z3⟩ := hs.cell g12 0 (by simp)
          have zl := hs.lt g12 0 (by simp)
          have zf := hs.frozen g12 0 (by simp)
          have hs2 := hs.set g12 0 r [(g_z, 0)] (by simp) (Nat.le_trans HW0.out FG.out) (fun p hp => by obtain rfl := List.mem_singleton.1 hp; exact ⟨by simp, fun e => by have := FG.out; have := HZ1.out; simp at e; omega⟩)
          have hg2 := (Gm.fil (g' := g12) (HGW.out.on FB.out.here) r (show g_p ≠ g12 from fun e => by have := FG.out; have := HGW.out.lt; omega)).q
          refine Goes.one (i := 12) (o := ⟨none, _, _, _, _, _⟩) (by kernel_rfl) rfl (fun K hK => ?_)
          go_simp
          refine hK.out _ _ hg2 ?_
          clear hK K
          try simp only [putz]
          clear hs z0 z1 z2 z3 zl zf FZ FB
          change Goes _ _ _ _ _ _ _ _ (fil u3 g12 r)
          generalize fil u3 g12 r = u99 at *
          refine Goes.tk (i := 13) (o := ⟨some 13, _, _, _, _, _⟩) (v := ?_) [] (y := Or.inl ⟨by rfl, ?_⟩) (s := hg2) (H := ?_)
          rotate_left
          · intro u hY; go_simp; try with_reducible rfl
          try simp only [putz]
          refine Goes.done (by kernel_rfl) ?_ _
          refine NoPanic.normal ?_
          go_wp2_with fail
          go_meet
          exact ⟨_, rfl, hid hs2⟩
        · skip
          go_simp
          have hb := (Below.refl u1.heap.size u1).alloc (Nat.le_refl _) (.cells #[.int .u64 0, .int .u64 0, .int .u64 0, .int .u64 0] 24)
          have hh := heap_alloc_new u1 (.cells #[.int .u64 0, .int .u64 0, .int .u64 0, .int .u64 0] 24)
          rw [cls_zero] at hh
          have hbo := FB.out.here.trans (hb.mono FB.out.here.size)
          refine hK.out _ _ ((HGW.out.on hbo).q) ?_
          clear hK K
          try simp only [putz]
          have FG := hid (FB.out.here.size)
          have FB := hid (FB.out.on hb)
          have FR := hid (FR.out.on hb)
          have FZ := hid (onNm (show Nm (u1.alloc (.cells #[.int .u64 0, .int .u64 0, .int .u64 0, .int .u64 0] 24)) u1.heap.size 0 from by rw [cls_zero]; exact hh))
          clear hb hh hbo
          generalize u1.alloc (.cells #[.int .u64 0, .int .u64 0, .int .u64 0, .int .u64 0] 24) = u4 at *
          generalize u1.heap.size = g12 at *
          refine Goes.one (i := 7) (o := ⟨some 34, _, _, _, _, _⟩) (by kernel_rfl) rfl (fun K hK => ?_)
          go_simp
          with_reducible refine (numb_any st (some ⟨gA, 0, none⟩) cA _ [be x 32] bs 2 q r _ rfl QL.out FR.out.here (HKT.out.on FB.out.here) (by simp) HS.out HC.out (fun e => by cases e) HV.out).mono ?_
          rintro e u5 ⟨⟨e5, rfl⟩, hb⟩
          go_wp2_with fail
          have hbo := FB.out.here.trans (hb.mono FB.out.here.size)
          refine hK.out _ _ ((HGW.out.on hbo).q) ?_
          clear hK K
          try simp only [putz]
          have FB := hid (FB.out.on hb)
          have FZ := hid (FZ.out.on hb)
          clear hb hbo FR
          refine Goes.tk (i := 8) (o := ⟨some 26, _, _, _, _, _⟩) (v := ?_) [] (y := Or.inl ⟨by rfl, ?_⟩) (s := (HGW.out.on FB.out.here).q) (H := ?_)
          rotate_left
          · intro u hY; go_simp; try with_reducible rfl
          try simp only [putz]
          refine Goes.tk (i := 9) (o := ⟨some 35, _, _, _, _, _⟩) (v := ?_) [] (y := Or.inl ⟨by rfl, ?_⟩) (s := (HGW.out.on FB.out.here).q) (H := ?_)
          rotate_left
          · intro u hY; go_simp; try with_reducible rfl
          try simp only [putz]
          refine Goes.tk (i := 10) (o := ⟨some 36, _, _, _, _, _⟩) (v := ?_) [] (y := Or.inl ⟨by rfl, ?_⟩) (s := (HGW.out.on FB.out.here).q) (H := ?_)
          rotate_left
          · intro u hY; go_simp; try with_reducible rfl
          try simp only [putz]
          have hs := env_add (H0.out.on FB.out.here) FZ.out.here
          obtain ⟨z0, z1, z2, z3⟩ := hs.cell g12 0 (by simp)
          have zl := hs.lt g12 0 (by simp)
          have zf := hs.frozen g12 0 (by simp)
          have hs2 := hs.set g12 0 r [(g_z, 0)] (by simp) (Nat.le_trans HW0.out FG.out) (fun p hp => by obtain rfl := List.mem_singleton.1 hp; exact ⟨by simp, fun e => by have := FG.out; have := HZ1.out; simp at e; omega⟩)
          have hg2 := (Gm.fil (g' := g12) (HGW.out.on FB.out.here) r (show g_p ≠ g12 from fun e => by have := FG.out; have := HGW.out.lt; omega)).q
          refine Goes.one (i := 12) (o := ⟨none, _, _, _, _, _⟩) (by kernel_rfl) rfl (fun K hK => ?_)
          go_simp
          refine hK.out _ _ hg2 ?_
          clear hK K
          try simp only [putz]
          clear hs z0 z1 z2 z3 zl zf FZ FB
          change Goes _ _ _ _ _ _ _ _ (fil u5 g12 r)
          generalize fil u5 g12 r = u99 at *
          refine Goes.tk (i := 13) (o := ⟨some 13, _, _, _, _, _⟩) (v := ?_) [] (y := Or.inl ⟨by rfl, ?_⟩) (s := hg2) (H := ?_)
          rotate_left
          · intro u hY; go_simp; try with_reducible rfl
          try simp only [putz]
          refine Goes.done (by kernel_rfl) ?_ _
          refine NoPanic.normal ?_
          go_wp2_with fail
          go_meet
          exact ⟨_, rfl, hid hs2⟩
      · skip
        go_simp
        have hb := (Below.refl u0.heap.size u0).alloc (Nat.le_refl _) (.cells #[.int .u64 0, .int .u64 0, .int .u64 0, .int .u64 0] 24)
        have hh := heap_alloc_new u0 (.cells #[.int .u64 0, .int .u64 0, .int .u64 0, .int .u64 0] 24)
        rw [cls_zero] at hh
        have hbo := FP.out.here.old.trans (hb.mono FP.out.here.old.size)
        refine hK.out _ _ ((HGW.out.on hbo).q) ?_
        clear hK K
        try simp only [putz]
        have FG := hid (FP.out.here.old.size)
        have FF := hid (FP.out.here.free u0.heap.size (Nat.le_refl _))
        have FP := hid (FP.out.on hb)
        have F2 := hid (F2.out.on hb)
        have FZ := hid (onNm (show Nm (u0.alloc (.cells #[.int .u64 0, .int .u64 0, .int .u64 0, .int .u64 0] 24)) u0.heap.size 0 from by rw [cls_zero]; exact hh))
        clear hb hh hbo
        generalize u0.alloc (.cells #[.int .u64 0, .int .u64 0, .int .u64 0, .int .u64 0] 24) = u6 at *
        generalize u0.heap.size = g12 at *
        refine Goes.one (i := 6) (o := ⟨some 33, _, _, _, _, _⟩) (by kernel_rfl) rfl (fun K hK => ?_)
        rw [if_pos (by rfl)]
        obtain ⟨gA, cA, u7, R, HB, HC, HR, HKP, HSZ⟩ := Pt.last FP.out.here (by simp) 1 HL.out HRD.out F2.out.here
        have HC : Hid (2 ≤ cA) := HC
        have HR : Hid (Rws u7 (some ⟨gA, 0, none⟩) 2 (fun r => some ⟨([h0] : List Nat).getD r g_s, 0, none⟩) (fun _ => 32) (fun _ => 32) (pts [be x 32] bs)) := HR
        have R : Hid ((Builtin.append_ #[72, 72] 72 #[v1, .slice (some ⟨gb, 0, none⟩) 1 1]).run Tryd.prog u6 = .ok (.slice (some ⟨gA, 0, none⟩) 2 cA) u7) := R
        refine wp_append 72 (.tmp 30) (.tmp 32) (by rfl) (by rfl) _ _ (by rfl) (by rfl) _ _ R.out ?_
        refine hK.out _ _ ((HGW.out.on HB.out).q) ?_
        clear hK K
        try simp only [putz]
        have FZ := hid (onNm (show Nm u7 g12 0 from (HKP.out g12 (lt_of_block FZ.out.here) FF.out).trans FZ.out.here))
        have FB := hid (on_below HB.out)
        have FR := hid (on_rws HR.out)
        clear R HB HR HKP HSZ FP F2
        refine Goes.one (i := 7) (o := ⟨some 34, _, _, _, _, _⟩) (by kernel_rfl) rfl (fun K hK => ?_)
        go_simp
        with_reducible refine (numb_any st (some ⟨gA, 0, none⟩) cA _ [be x 32] bs 2 q r _ rfl QL.out FR.out.here (HKT.out.on FB.out.here) (by simp) HS.out HC.out (fun e => by cases e) HV.out).mono ?_
        rintro e u8 ⟨⟨e5, rfl⟩, hb⟩
        go_wp2_with fail
        have hbo := FB.out.here.trans (hb.mono FB.out.here.size)
        refine hK.out _ _ ((HGW.out.on hbo).q) ?_
        clear hK K
        try simp only [putz]
        have FB := hid (FB.out.on hb)
        have FZ := hid (FZ.out.on hb)
        clear hb hbo FR
        refine Goes.tk (i := 8) (o := ⟨some 26, _, _, _, _, _⟩) (v := ?_) [] (y := Or.inl ⟨by rfl, ?_⟩) (s := (HGW.out.on FB.out.here).q) (H := ?_)
        rotate_left
        · intro u hY; go_simp; try with_reducible rfl
        try simp only [putz]
        refine Goes.tk (i := 9) (o := ⟨some 35, _, _, _, _, _⟩) (v := ?_) [] (y := Or.inl ⟨by rfl, ?_⟩) (s := (HGW.out.on FB.out.here).q) (H := ?_)
        rotate_left
        · intro u hY; go_simp; try with_reducible rfl
        try simp only [putz]
        refine Goes.tk (i := 10) (o := ⟨some 36, _, _, _, _, _⟩) (v := ?_) [] (y := Or.inl ⟨by rfl, ?_⟩) (s := (HGW.out.on FB.out.here).q) (H := ?_)
        rotate_left
        · intro u hY; go_simp; try with_reducible rfl
        try simp only [putz]
        have hs := env_add (H0.out.on FB.out.here) FZ.out.here
        obtain ⟨z0, z1, z2, z3⟩ := hs.cell g12 0 (by simp)
        have zl := hs.lt g12 0 (by simp)
        have zf := hs.frozen g12 0 (by simp)
        have hs2 := hs.set g12 0 r [(g_z, 0)] (by simp) (Nat.le_trans HW0.out FG.out) (fun p hp => by obtain rfl := List.mem_singleton.1 hp; exact ⟨by simp, fun e => by have := FG.out; have := HZ1.out; simp at e; omega⟩)
        have hg2 := (Gm.fil (g' := g12) (HGW.out.on FB.out.here) r (show g_p ≠ g12 from fun e => by have := FG.out; have := HGW.out.lt; omega)).q
        refine Goes.one (i := 12) (o := ⟨none, _, _, _, _, _⟩) (by kernel_rfl) rfl (fun K hK => ?_)
        go_simp
        refine hK.out _ _ hg2 ?_
        clear hK K
        try simp only [putz]
        clear hs z0 z1 z2 z3 zl zf FZ FB
        change Goes _ _ _ _ _ _ _ _ (fil u8 g12 r)
        generalize fil u8 g12 r = u99 at *
        refine Goes.tk (i := 13) (o := ⟨some 13, _, _, _, _, _⟩) (v := ?_) [] (y := Or.inl ⟨by rfl, ?_⟩) (s := hg2) (H := ?_)
        rotate_left
        · intro u hY; go_simp; try with_reducible rfl
        try simp only [putz]
        refine Goes.done (by kernel_rfl) ?_ _
        refine NoPanic.normal ?_
        go_wp2_with fail
        go_meet
        exact ⟨_, rfl, hid hs2⟩
    · skip
      go_simp
      have hb := (Below.refl ud.heap.size ud).alloc (Nat.le_refl _) (.cells #[.int .u64 0, .int .u64 0, .int .u64 0, .int .u64 0] 24)
      have hh := heap_alloc_new ud (.cells #[.int .u64 0, .int .u64 0, .int .u64 0, .int .u64 0] 24)
      rw [cls_zero] at hh
      have hbo := FP.out.here.old.trans (hb.mono FP.out.here.old.size)
      refine hK.out _ _ ((HGW.out.on hbo).q) ?_
      clear hK K
      try simp only [putz]
      have FG := hid (FP.out.here.old.size)
      have FF := hid (FP.out.here.free ud.heap.size (Nat.le_refl _))
      have FP := hid (FP.out.on hb)
      have FZ := hid (onNm (show Nm (ud.alloc (.cells #[.int .u64 0, .int .u64 0, .int .u64 0, .int .u64 0] 24)) ud.heap.size 0 from by rw [cls_zero]; exact hh))
      clear hb hh hbo
      generalize ud.alloc (.cells #[.int .u64 0, .int .u64 0, .int .u64 0, .int .u64 0] 24) = u9 at *
      generalize ud.heap.size = g12 at *
      refine Goes.one (i := 5) (o := ⟨some 32, _, _, _, _, _⟩) (by kernel_rfl) rfl (fun K hK => ?_)
      go_simp
      have hb := (Below.refl u9.heap.size u9).alloc (Nat.le_refl _) (.cells #[.slice (some ⟨g_s, 0, none⟩) 32 32] 73)
      have hh := heap_alloc_new u9 (.cells #[.slice (some ⟨g_s, 0, none⟩) 32 32] 73)
      have hbo := FP.out.here.old.trans (hb.mono FP.out.here.old.size)
      refine hK.out _ _ ((HGW.out.on hbo).q) ?_
      clear hK K
      try simp only [putz]
      have FP := hid (FP.out.on hb)
      have FZ := hid (FZ.out.on hb)
      have F2 := hid (on_cell (i := 0) (lt_of_block hh) (by rw [cell_of_row _ _ _ _ 73 _ hh]; rfl))
      clear hb hh hbo
      generalize u9.alloc (.cells #[.slice (some ⟨g_s, 0, none⟩) 32 32] 73) = u10 at *
      generalize u9.heap.size = gb at *
      refine Goes.one (i := 6) (o := ⟨some 33, _, _, _, _, _⟩) (by kernel_rfl) rfl (fun K hK => ?_)
      rw [if_pos (by rfl)]
      obtain ⟨gA, cA, u11, R, HB, HC, HR, HKP, HSZ⟩ := Pt.last FP.out.here (by simp) 1 HL.out HRD.out F2.out.here
      have HC : Hid (2 ≤ cA) := HC
      have HR : Hid (Rws u11 (some ⟨gA, 0, none⟩) 2 (fun r => some ⟨([h0] : List Nat).getD r g_s, 0, none⟩) (fun _ => 32) (fun _ => 32) (pts [be x 32] bs)) := HR
      have R : Hid ((Builtin.append_ #[72, 72] 72 #[v1, .slice (some ⟨gb, 0, none⟩) 1 1]).run Tryd.prog u10 = .ok (.slice (some ⟨gA, 0, none⟩) 2 cA) u11) := R
      refine wp_append 72 (.tmp 30) (.tmp 32) (by rfl) (by rfl) _ _ (by rfl) (by rfl) _ _ R.out ?_
      refine hK.out _ _ ((HGW.out.on HB.out).q) ?_
      clear hK K
      try simp only [putz]
      have FZ := hid (onNm (show Nm u11 g12 0 from (HKP.out g12 (lt_of_block FZ.out.here) FF.out).trans FZ.out.here))
      have FB := hid (on_below HB.out)
      have FR := hid (on_rws HR.out)
      clear R HB HR HKP HSZ FP F2
      refine Goes.one (i := 7) (o := ⟨some 34, _, _, _, _, _⟩) (by kernel_rfl) rfl (fun K hK => ?_)
      go_simp
      with_reducible refine (numb_any st (some ⟨gA, 0, none⟩) cA _ [be x 32] bs 2 q r _ rfl QL.out FR.out.here (HKT.out.on FB.out.here) (by simp) HS.out HC.out (fun e => by cases e) HV.out).mono ?_
      rintro e u12 ⟨⟨e5, rfl⟩, hb⟩
      go_wp2_with fail
      have hbo := FB.out.here.trans (hb.mono FB.out.here.size)
      refine hK.out _ _ ((HGW.out.on hbo).q) ?_
      clear hK K
      try simp only [putz]
      have FB := hid (FB.out.on hb)
      have FZ := hid (FZ.out.on hb)
      clear hb hbo FR
      refine Goes.tk (i := 8) (o := ⟨some 26, _, _, _, _, _⟩) (v := ?_) [] (y := Or.inl ⟨by rfl, ?_⟩) (s := (HGW.out.on FB.out.here).q) (H := ?_)
      rotate_left
      · intro u hY; go_simp; try with_reducible rfl
      try simp only [putz]
      refine Goes.tk (i := 9) (o := ⟨some 35, _, _, _, _, _⟩) (v := ?_) [] (y := Or.inl ⟨by rfl, ?_⟩) (s := (HGW.out.on FB.out.here).q) (H := ?_)
      rotate_left
      · intro u hY; go_simp; try with_reducible rfl
      try simp only [putz]
      refine Goes.tk (i := 10) (o := ⟨some 36, _, _, _, _, _⟩) (v := ?_) [] (y := Or.inl ⟨by rfl, ?_⟩) (s := (HGW.out.on FB.out.here).q) (H := ?_)
      rotate_left
      · intro u hY; go_simp; try with_reducible rfl
      try simp only [putz]
      have hs := env_add (H0.out.on FB.out.here) FZ.out.here
      obtain ⟨z0, z1, z2, z3⟩ := hs.cell g12 0 (by simp)
      have zl := hs.lt g12 0 (by simp)
      have zf := hs.frozen g12 0 (by simp)
      have hs2 := hs.set g12 0 r [(g_z, 0)] (by simp) (Nat.le_trans HW0.out FG.out) (fun p hp => by obtain rfl := List.mem_singleton.1 hp; exact ⟨by simp, fun e => by have := FG.out; have := HZ1.out; simp at e; omega⟩)
      have hg2 := (Gm.fil (g' := g12) (HGW.out.on FB.out.here) r (show g_p ≠ g12 from fun e => by have := FG.out; have := HGW.out.lt; omega)).q
      refine Goes.one (i := 12) (o := ⟨none, _, _, _, _, _⟩) (by kernel_rfl) rfl (fun K hK => ?_)
      go_simp
      refine hK.out _ _ hg2 ?_
      clear hK K
      try simp only [putz]
      clear hs z0 z1 z2 z3 zl zf FZ FB
      change Goes _ _ _ _ _ _ _ _ (fil u12 g12 r)
      generalize fil u12 g12 r = u99 at *
      refine Goes.tk (i := 13) (o := ⟨some 13, _, _, _, _, _⟩) (v := ?_) [] (y := Or.inl ⟨by rfl, ?_⟩) (s := hg2) (H := ?_)
      rotate_left
      · intro u hY; go_simp; try with_reducible rfl
      try simp only [putz]
      refine Goes.done (by kernel_rfl) ?_ _
      refine NoPanic.normal ?_
      go_wp2_with fail
      go_meet
      exact ⟨_, rfl, hid hs2⟩
  case rest =>
    obtain ⟨g12, rfl, H9⟩ := hcut
    obtain ⟨c0, c1, c2, c3⟩ := H9.out.cell g12 r (by simp)
    have cl := H9.out.lt g12 r (by simp)
    have cm := Nat.le_of_lt cl
    obtain ⟨z0, z1, z2, z3⟩ := H9.out.cell g_z 0 (by simp)
    have zl := H9.out.lt g_z 0 (by simp)
    have zf := H9.out.frozen g_z 0 (by simp)
    have HZ := hid (H9.out.set g_z 0 r [] (by simp) (Nat.le_of_eq HZ0.out) (by simp))
    go_wp2
    clear z0 z1 z2 z3 zl zf c0 c1 c2 c3 cl cm
    try rw [Exit.noGoto_ret]
    change bodyPost _ _ _ _ _ (fil wc g_z r)
    generalize fil wc g_z r = wz at *
    obtain ⟨k0, k1, k2, k3⟩ := HZ.out.cell g_z r (by simp)
    exact bodyPost_ret (v := num r) (by simp [results, Tryd.results28, go_sem, k0, k1, k2, k3]) rfl ⟨rfl, by rw [hgp]; exact HFIN.out _ HZ.out.1⟩
set_option maxRecDepth 100000 in
set_option maxHeartbeats 4000000 in
theorem summed2_any (p q g x y : Nat) (st : ByteArray) (bs : List UInt8) (gl r : Nat) (w : World) (hq : q < 2 ^ 256) (hx : x < 2 ^ 256) (hy : y < 2 ^ 256) (hbs : bs.length = 32) (hK : Kt w) (hs : st.size ≤ 1000000) (hS : Sl2 w gl x y) (hv : nop st [be x 32, be y 32] bs q = r) :
    Calls Tryd.prog 28 #[gv p q g, .string st, .agg (bvs bs).toArray, .slice (some ⟨gl, 0, none⟩) 2 2] w fun e w' => e = .returned (num r) ∧ Below w.heap.size w w' := by
  have QL := hid hq
  have XL := hid hx
  have YL := hid hy
  have HL := hid hbs
  have HS := hid hs
  have HV := hid hv
  obtain ⟨hB0, hs0, hG0, hT0⟩ := boxes2 w (gcs p q g) (bvs bs).toArray 26 28
  have hS0 : Sl2 ((w.alloc (.cells (gcs p q g) 26)).alloc (.cells (bvs bs).toArray 28)) gl x y := (hB0.block gl (lt_of_block hS)).trans hS
  have hK0 := hK.on hB0
  clear hq hx hy hbs hs hv hS hK
  have HFIN : Hid (∀ u, Below ((w.alloc (.cells (gcs p q g) 26)).alloc (.cells (bvs bs).toArray 28)).heap.size ((w.alloc (.cells (gcs p q g) 26)).alloc (.cells (bvs bs).toArray 28)) u → Below w.heap.size w u) := hid (fun u hu => hB0.trans (hu.mono hB0.size))
  go_enter Tryd.func28, Tryd.ntmps28
  go_wp2_with fail
  generalize (w.alloc (.cells (gcs p q g) 26)).alloc (.cells (bvs bs).toArray 28) = W0 at *
  have hE := (Env.refl W0).zero
  rw [hs0] at hE
  have hb1 := (Below.refl W0.heap.size W0).alloc (Nat.le_refl _) (.cells #[.int .u64 0, .int .u64 0, .int .u64 0, .int .u64 0] 24)
  have HW0 := hid hb1.size
  have HZ0 : Hid (W0.heap.size = w.heap.size + 1 + 1) := hid hs0
  have HZ1 := hid (hE.lt (w.heap.size + 1 + 1) 0 (by simp))
  have H0 := hid hE
  have HGW : Hid (Gm _ w.heap.size 26 p q g) := hid (Gm.on hG0 hb1)
  have hT1 : Bt _ (w.heap.size + 1) 28 bs := Bt.on hT0 hb1
  have HRD := hid (bt_rd hT1)
  have HKT := hid (hK0.on hb1)
  have HSW : Hid (Sl2 _ gl x y) := hid ((hb1.block gl (lt_of_block hS0)).trans hS0)
  clear hE hb1 hT1 hB0 hs0 hG0 hT0 hS0 hK0
  generalize W0.alloc (.cells #[.int .u64 0, .int .u64 0, .int .u64 0, .int .u64 0] 24) = w0 at *
  generalize w.heap.size + 1 + 1 = g_z at *
  generalize w.heap.size + 1 = g_s at *
  generalize hgp : w.heap.size = g_p at *
  have HP0 := hid (Pt.nil (Below.refl w0.heap.size w0))
  refine wp_loop_rounds 3 ?_
  rw [rounds_succ]
  obtain ⟨s0, s1, s2, s3, s4, s5, s6, s7, sl⟩ := HSW.out.at HP0.out.old
  go_wp2_with fail
  clear s0 s1 s2 s3 s4 s5 s6 s7 sl
  have HP0b := hid (HP0.out.on ((Below.refl _ _).alloc (Nat.le_refl _) (.cells (cls x) 24)))
  clear HP0
  generalize w0.alloc (.cells (cls x) 24) = w0b at *
  refine (pl_any x _ XL.out).mono ?_
  rintro e w0c ⟨h0, rfl, hge, hrow, hb⟩
  obtain ⟨v1, w1, R, HP1⟩ := Pt.put ((HP0b.out.on hb).on ((Below.refl _ _).alloc (Nat.le_refl _) (.cells #[.slice (some ⟨h0, 0, none⟩) 32 32] 73))) (by simp) 1 (be32 x) (hrow.alloc (.cells #[.slice (some ⟨h0, 0, none⟩) 32 32] 73)) (HP0b.out.free h0 hge) (by rw [cell_of_row _ _ 0 _ 73 (0, 0) (heap_alloc_new w0c (.cells #[.slice (some ⟨h0, 0, none⟩) 32 32] 73))]; rfl)
  clear hge hrow hb HP0b
  go_wp2_with (at_builtin; refine sp_append_rows rfl (.tmp 20) (.tmp 23) rfl rfl _ _ rfl rfl _ _ R.out ?_)
  clear R
  rw [rounds_succ]
  obtain ⟨s0, s1, s2, s3, s4, s5, s6, s7, sl⟩ := HSW.out.at HP1.out.old
  go_wp2_with fail
  clear s0 s1 s2 s3 s4 s5 s6 s7 sl
  have HP1b := hid (HP1.out.on ((Below.refl _ _).alloc (Nat.le_refl _) (.cells (cls y) 24)))
  clear HP1
  generalize w1.alloc (.cells (cls y) 24) = w1b at *
  refine (pl_any y _ YL.out).mono ?_
  rintro e w1c ⟨h1, rfl, hge, hrow, hb⟩
  obtain ⟨v2, w2, R, HP2⟩ := Pt.put ((HP1b.out.on hb).on ((Below.refl _ _).alloc (Nat.le_refl _) (.cells #[.slice (some ⟨h1, 0, none⟩) 32 32] 73))) (by simp) 1 (be32 y) (hrow.alloc (.cells #[.slice (some ⟨h1, 0, none⟩) 32 32] 73)) (HP1b.out.free h1 hge) (by rw [cell_of_row _ _ 0 _ 73 (0, 0) (heap_alloc_new w1c (.cells #[.slice (some ⟨h1, 0, none⟩) 32 32] 73))]; rfl)
  clear hge hrow hb HP1b
  go_wp2_with (at_builtin; refine sp_append_rows rfl (.tmp 20) (.tmp 23) rfl rfl _ _ rfl rfl _ _ R.out ?_)
  clear R
  rw [rounds_succ]
  go_upto_region 7 with fail
  go_cut [12] (fun s12 wx => ∃ g12 : Nat, s12 = .pointer (some ⟨g12, 0, none⟩) ∧ Hid (Env W0 [(g12, r), (g_z, 0)] wx))
  case first =>
    have FP := hid (on_pt HP2.out)
    have hb := (Below.refl w2.heap.size w2).drew
    have FP := hid (FP.out.on hb)
    clear hb HP2 HSW
    refine wp_region_noPanic ?_
    refine Goes.region (fun (L : Array Bool) (u : World) => u.cell? ⟨g_p, 4, none⟩ = some (.int .u64 (wd q 0 : Int)) ∧ u.cell? ⟨g_p, 5, none⟩ = some (.int .u64 (wd q 1 : Int)) ∧ u.cell? ⟨g_p, 6, none⟩ = some (.int .u64 (wd q 2 : Int)) ∧ u.cell? ⟨g_p, 7, none⟩ = some (.int .u64 (wd q 3 : Int))) (by kernel_rfl) ?_
    generalize w2.drew = ud at *
    refine Goes.tk (i := 0) (o := ⟨some 27, _, _, _, _, _⟩) (v := ?_) [] (y := Or.inl ⟨by rfl, ?_⟩) (s := (HGW.out.on FP.out.here.old).q) (H := ?_)
    rotate_left
    · intro u hY; go_simp; try with_reducible rfl
    try simp only [putz]
    refine Goes.tk (i := 1) (o := ⟨some 28, _, _, _, _, _⟩) (v := ?_) [] (y := Or.inl ⟨by rfl, ?_⟩) (s := (HGW.out.on FP.out.here.old).q) (H := ?_)
    rotate_left
    · rintro u ⟨up, -, hX⟩; (try dsimp only at hX); obtain ⟨x0, x1, x2, x3⟩ := hX; go_simp; try with_reducible rfl
    try simp only [putz]
    refine Goes.tk (i := 2) (o := ⟨some 29, _, _, _, _, _⟩) (v := ?_) [] (y := Or.inl ⟨by rfl, ?_⟩) (s := (HGW.out.on FP.out.here.old).q) (H := ?_)
    rotate_left
    · intro u hY; go_simp; try with_reducible rfl
    try simp only [putz]
    refine Goes.tk (i := 3) (o := ⟨some 30, _, _, _, _, _⟩) (v := ?_) [] (y := Or.inl ⟨by rfl, ?_⟩) (s := (HGW.out.on FP.out.here.old).q) (H := ?_)
    rotate_left
    · intro u hY; go_simp; try with_reducible rfl
    try simp only [putz]
    refine Goes.tk (i := 4) (o := ⟨some 31, _, _, _, _, _⟩) (v := ?_) [] (y := Or.inl ⟨by rfl, ?_⟩) (s := (HGW.out.on FP.out.here.old).q) (H := ?_)
    rotate_left
    · intro u hY; go_simp; try with_reducible rfl
    try simp only [putz]
    refine Goes.two (i := 5) (j := 11) (o := ⟨some 32, _, _, _, _, _⟩) (p := ⟨some 12, _, _, _, _, _⟩) (by kernel_rfl) rfl rfl (fun K hK => ?_) (fun K hK => ?_)
    · skip
      go_simp
      have hb := (Below.refl ud.heap.size ud).alloc (Nat.le_refl _) (.cells #[.slice (some ⟨g_s, 0, none⟩) 32 32] 73)
      have hh := heap_alloc_new ud (.cells #[.slice (some ⟨g_s, 0, none⟩) 32 32] 73)
      have hbo := FP.out.here.old.trans (hb.mono FP.out.here.old.size)
      refine hK.out _ _ ((HGW.out.on hbo).q) ?_
      clear hK K
      try simp only [putz]
      have FP := hid (FP.out.on hb)
      have F2 := hid (on_cell (i := 0) (lt_of_block hh) (by rw [cell_of_row _ _ _ _ 73 _ hh]; rfl))
      clear hb hh hbo
      generalize ud.alloc (.cells #[.slice (some ⟨g_s, 0, none⟩) 32 32] 73) = u0 at *
      generalize ud.heap.size = gb at *
      refine Goes.two (i := 6) (j := 11) (o := ⟨some 33, _, _, _, _, _⟩) (p := ⟨some 12, _, _, _, _, _⟩) (by kernel_rfl) rfl rfl (fun K hK => ?_) (fun K hK => ?_)
      · skip
        rw [if_pos (by rfl)]
        obtain ⟨gA, cA, u1, R, HB, HC, HR, HKP, HSZ⟩ := Pt.last FP.out.here (by simp) 1 HL.out HRD.out F2.out.here
        have HC : Hid (3 ≤ cA) := HC
        have HR : Hid (Rws u1 (some ⟨gA, 0, none⟩) 3 (fun r => some ⟨([h0, h1] : List Nat).getD r g_s, 0, none⟩) (fun _ => 32) (fun _ => 32) (pts [be x 32, be y 32] bs)) := HR
        have R : Hid ((Builtin.append_ #[72, 72] 72 #[v2, .slice (some ⟨gb, 0, none⟩) 1 1]).run Tryd.prog u0 = .ok (.slice (some ⟨gA, 0, none⟩) 3 cA) u1) := R
        refine wp_append 72 (.tmp 30) (.tmp 32) (by rfl) (by rfl) _ _ (by rfl) (by rfl) _ _ R.out ?_
        refine hK.out _ _ ((HGW.out.on HB.out).q) ?_
        clear hK K
        try simp only [putz]
        have FB := hid (on_below HB.out)
        have FR := hid (on_rws HR.out)
        clear R HB HR HKP HSZ FP F2
        refine Goes.two (i := 7) (j := 11) (o := ⟨some 34, _, _, _, _, _⟩) (p := ⟨some 12, _, _, _, _, _⟩) (by kernel_rfl) rfl rfl (fun K hK => ?_) (fun K hK => ?_)
        · skip
          go_simp
          with_reducible refine (numb_any st (some ⟨gA, 0, none⟩) cA _ [be x 32, be y 32] bs 3 q r _ rfl QL.out FR.out.here (HKT.out.on FB.out.here) (by simp) HS.out HC.out (fun e => by cases e) HV.out).mono ?_
          rintro e u2 ⟨⟨e5, rfl⟩, hb⟩
          go_wp2_with fail
          have hbo := FB.out.here.trans (hb.mono FB.out.here.size)
          refine hK.out _ _ ((HGW.out.on hbo).q) ?_
          clear hK K
          try simp only [putz]
          have FB := hid (FB.out.on hb)
          clear hb hbo FR
          refine Goes.tk (i := 8) (o := ⟨some 26, _, _, _, _, _⟩) (v := ?_) [] (y := Or.inl ⟨by rfl, ?_⟩) (s := (HGW.out.on FB.out.here).q) (H := ?_)
          rotate_left
          · intro u hY; go_simp; try with_reducible rfl
          try simp only [putz]
          refine Goes.tk (i := 9) (o := ⟨some 35, _, _, _, _, _⟩) (v := ?_) [] (y := Or.inl ⟨by rfl, ?_⟩) (s := (HGW.out.on FB.out.here).q) (H := ?_)
          rotate_left
          · intro u hY; go_simp; try with_reducible rfl
          try simp only [putz]
          refine Goes.tk (i := 10) (o := ⟨some 36, _, _, _, _, _⟩) (v := ?_) [] (y := Or.inl ⟨by rfl, ?_⟩) (s := (HGW.out.on FB.out.here).q) (H := ?_)
          rotate_left
          · intro u hY; go_simp; try with_reducible rfl
          try simp only [putz]
          refine Goes.one (i := 11) (o := ⟨some 12, _, _, _, _, _⟩) (by kernel_rfl) rfl (fun K hK => ?_)
          go_simp
          have hb := (Below.refl u2.heap.size u2).alloc (Nat.le_refl _) (.cells #[.int .u64 0, .int .u64 0, .int .u64 0, .int .u64 0] 24)
          have hh := heap_alloc_new u2 (.cells #[.int .u64 0, .int .u64 0, .int .u64 0, .int .u64 0] 24)
          rw [cls_zero] at hh
          have hbo := FB.out.here.trans (hb.mono FB.out.here.size)
          refine hK.out _ _ ((HGW.out.on hbo).q) ?_
          clear hK K
          try simp only [putz]
          have FG := hid (FB.out.here.size)
          have FB := hid (FB.out.on hb)
          have FZ := hid (onNm (show Nm (u2.alloc (.cells #[.int .u64 0, .int .u64 0, .int .u64 0, .int .u64 0] 24)) u2.heap.size 0 from by rw [cls_zero]; exact hh))
          clear hb hh hbo
          generalize u2.alloc (.cells #[.int .u64 0, .int .u64 0, .int .u64 0, .int .u64 0] 24) = u3 at *
          generalize u2.heap.size = g12 at *
          have hs := env_add (H0.out.on FB.out.here) FZ.out.here
          obtain ⟨z0, z1, z2, z3⟩ := hs.cell g12 0 (by simp)
          have zl := hs.lt g12 0 (by simp)
          have zf := hs.frozen g12 0 (by simp)
          have hs2 := hs.set g12 0 r [(g_z, 0)] (by simp) (Nat.le_trans HW0.out FG.out) (fun p hp => by obtain rfl := List.mem_singleton.1 hp; exact ⟨by simp, fun e => by have := FG.out; have := HZ1.out; simp at e; omega⟩)
          have hg2 := (Gm.fil (g' := g12) (HGW.out.on FB.out.here) r (show g_p ≠ g12 from fun e => by have := FG.out; have := HGW.out.lt; omega)).q
          refine Goes.one (i := 12) (o := ⟨none, _, _, _, _, _⟩) (by kernel_rfl) rfl (fun K hK => ?_)
          go_simp
          refine hK.out _ _ hg2 ?_
          clear hK K
          try simp only [putz]
          clear hs z0 z1 z2 z3 zl zf FZ FB
          change Goes _ _ _ _ _ _ _ _ (fil u3 g12 r)
          generalize fil u3 g12 r = u99 at *
          refine Goes.tk (i := 13) (o := ⟨some 13, _, _, _, _, _⟩) (v := ?_) [] (y := Or.inl ⟨by rfl, ?_⟩) (s := hg2) (H := ?_)
          rotate_left
          · intro u hY; go_simp; try with_reducible rfl
          try simp only [putz]
          refine Goes.done (by kernel_rfl) ?_ _
          refine NoPanic.normal ?_
          go_wp2_with fail
          go_meet
          exact ⟨_, rfl, hid hs2⟩
        · skip
          go_simp
          have hb := (Below.refl u1.heap.size u1).alloc (Nat.le_refl _) (.cells #[.int .u64 0, .int .u64 0, .int .u64 0, .int .u64 0] 24)
          have hh := heap_alloc_new u1 (.cells #[.int .u64 0, .int .u64 0, .int .u64 0, .int .u64 0] 24)
          rw [cls_zero] at hh
          have hbo := FB.out.here.trans (hb.mono FB.out.here.size)
          refine hK.out _ _ ((HGW.out.on hbo).q) ?_
          clear hK K
          try simp only [putz]
          have FG := hid (FB.out.here.size)
          have FB := hid (FB.out.on hb)
          have FR := hid (FR.out.on hb)
          have FZ := hid (onNm (show Nm (u1.alloc (.cells #[.int .u64 0, .int .u64 0, .int .u64 0, .int .u64 0] 24)) u1.heap.size 0 from by rw [cls_zero]; exact hh))
          clear hb hh hbo
          generalize u1.alloc (.cells #[.int .u64 0, .int .u64 0, .int .u64 0, .int .u64 0] 24) = u4 at *
          generalize u1.heap.size = g12 at *
          refine Goes.one (i := 7) (o := ⟨some 34, _, _, _, _, _⟩) (by kernel_rfl) rfl (fun K hK => ?_)
          go_simp
          with_reducible refine (numb_any st (some ⟨gA, 0, none⟩) cA _ [be x 32, be y 32] bs 3 q r _ rfl QL.out FR.out.here (HKT.out.on FB.out.here) (by simp) HS.out HC.out (fun e => by cases e) HV.out).mono ?_
          rintro e u5 ⟨⟨e5, rfl⟩, hb⟩
          go_wp2_with fail
          have hbo := FB.out.here.trans (hb.mono FB.out.here.size)
          refine hK.out _ _ ((HGW.out.on hbo).q) ?_
          clear hK K
          try simp only [putz]
          have FB := hid (FB.out.on hb)
          have FZ := hid (FZ.out.on hb)
          clear hb hbo FR
          refine Goes.tk (i := 8) (o := ⟨some 26, _, _, _, _, _⟩) (v := ?_) [] (y := Or.inl ⟨by rfl, ?_⟩) (s := (HGW.out.on FB.out.here).q) (H := ?_)
          rotate_left
          · intro u hY; go_simp; try with_reducible rfl
          try simp only [putz]
          refine Goes.tk (i := 9) (o := ⟨some 35, _, _, _, _, _⟩) (v := ?_) [] (y := Or.inl ⟨by rfl, ?_⟩) (s := (HGW.out.on FB.out.here).q) (H := ?_)
          rotate_left
          · intro u hY; go_simp; try with_reducible rfl
          try simp only [putz]
          refine Goes.tk (i := 10) (o := ⟨some 36, _, _, _, _, _⟩) (v := ?_) [] (y := Or.inl ⟨by rfl, ?_⟩) (s := (HGW.out.on FB.out.here).q) (H := ?_)
          rotate_left
          · intro u hY; go_simp; try with_reducible rfl
          try simp only [putz]
          have hs := env_add (H0.out.on FB.out.here) FZ.out.here
          obtain ⟨z0, z1, z2, z3⟩ := hs.cell g12 0 (by simp)
          have zl := hs.lt g12 0 (by simp)
          have zf := hs.frozen g12 0 (by simp)
          have hs2 := hs.set g12 0 r [(g_z, 0)] (by simp) (Nat.le_trans HW0.out FG.out) (fun p hp => by obtain rfl := List.mem_singleton.1 hp; exact ⟨by simp, fun e => by have := FG.out; have := HZ1.out; simp at e; omega⟩)
          have hg2 := (Gm.fil (g' := g12) (HGW.out.on FB.out.here) r (show g_p ≠ g12 from fun e => by have := FG.out; have := HGW.out.lt; omega)).q
          refine Goes.one (i := 12) (o := ⟨none, _, _, _, _, _⟩) (by kernel_rfl) rfl (fun K hK => ?_)
          go_simp
          refine hK.out _ _ hg2 ?_
          clear hK K
          try simp only [putz]
          clear hs z0 z1 z2 z3 zl zf FZ FB
          change Goes _ _ _ _ _ _ _ _ (fil u5 g12 r)
          generalize fil u5 g12 r = u99 at *
          refine Goes.tk (i := 13) (o := ⟨some 13, _, _, _, _, _⟩) (v := ?_) [] (y := Or.inl ⟨by rfl, ?_⟩) (s := hg2) (H := ?_)
          rotate_left
          · intro u hY; go_simp; try with_reducible rfl
          try simp only [putz]
          refine Goes.done (by kernel_rfl) ?_ _
          refine NoPanic.normal ?_
          go_wp2_with fail
          go_meet
          exact ⟨_, rfl, hid hs2⟩
      · skip
        go_simp
        have hb := (Below.refl u0.heap.size u0).alloc (Nat.le_refl _) (.cells #[.int .u64 0, .int .u64 0, .int .u64 0, .int .u64 0] 24)
        have hh := heap_alloc_new u0 (.cells #[.int .u64 0, .int .u64 0, .int .u64 0, .int .u64 0] 24)
        rw [cls_zero] at hh
        have hbo := FP.out.here.old.trans (hb.mono FP.out.here.old.size)
        refine hK.out _ _ ((HGW.out.on hbo).q) ?_
        clear hK K
        try simp only [putz]
        have FG := hid (FP.out.here.old.size)
        have FF := hid (FP.out.here.free u0.heap.size (Nat.le_refl _))
        have FP := hid (FP.out.on hb)
        have F2 := hid (F2.out.on hb)
        have FZ := hid (onNm (show Nm (u0.alloc (.cells #[.int .u64 0, .int .u64 0, .int .u64 0, .int .u64 0] 24)) u0.heap.size 0 from by rw [cls_zero]; exact hh))
        clear hb hh hbo
        generalize u0.alloc (.cells #[.int .u64 0, .int .u64 0, .int .u64 0, .int .u64 0] 24) = u6 at *
        generalize u0.heap.size = g12 at *
        refine Goes.one (i := 6) (o := ⟨some 33, _, _, _, _, _⟩) (by kernel_rfl) rfl (fun K hK => ?_)
        rw [if_pos (by rfl)]
        obtain ⟨gA, cA, u7, R, HB, HC, HR, HKP, HSZ⟩ := Pt.last FP.out.here (by simp) 1 HL.out HRD.out F2.out.here
        have HC : Hid (3 ≤ cA) := HC
        have HR : Hid (Rws u7 (some ⟨gA, 0, none⟩) 3 (fun r => some ⟨([h0, h1] : List Nat).getD r g_s, 0, none⟩) (fun _ => 32) (fun _ => 32) (pts [be x 32, be y 32] bs)) := HR
        have R : Hid ((Builtin.append_ #[72, 72] 72 #[v2, .slice (some ⟨gb, 0, none⟩) 1 1]).run Tryd.prog u6 = .ok (.slice (some ⟨gA, 0, none⟩) 3 cA) u7) := R
        refine wp_append 72 (.tmp 30) (.tmp 32) (by rfl) (by rfl) _ _ (by rfl) (by rfl) _ _ R.out ?_
        refine hK.out _ _ ((HGW.out.on HB.out).q) ?_
        clear hK K
        try simp only [putz]
        have FZ := hid (onNm (show Nm u7 g12 0 from (HKP.out g12 (lt_of_block FZ.out.here) FF.out).trans FZ.out.here))
        have FB := hid (on_below HB.out)
        have FR := hid (on_rws HR.out)
        clear R HB HR HKP HSZ FP F2
        refine Goes.one (i := 7) (o := ⟨some 34, _, _, _, _, _⟩) (by kernel_rfl) rfl (fun K hK => ?_)
        go_simp
        with_reducible refine (numb_any st (some ⟨gA, 0, none⟩) cA _ [be x 32, be y 32] bs 3 q r _ rfl QL.out FR.out.here (HKT.out.on FB.out.here) (by simp) HS.out HC.out (fun e => by cases e) HV.out).mono ?_
        rintro e u8 ⟨⟨e5, rfl⟩, hb⟩
        go_wp2_with fail
        have hbo := FB.out.here.trans (hb.mono FB.out.here.size)
        refine hK.out _ _ ((HGW.out.on hbo).q) ?_
        clear hK K
        try simp only [putz]
        have FB := hid (FB.out.on hb)
        have FZ := hid (FZ.out.on hb)
        clear hb hbo FR
        refine Goes.tk (i := 8) (o := ⟨some 26, _, _, _, _, _⟩) (v := ?_) [] (y := Or.inl ⟨by rfl, ?_⟩) (s := (HGW.out.on FB.out.here).q) (H := ?_)
        rotate_left
        · intro u hY; go_simp; try with_reducible rfl
        try simp only [putz]
        refine Goes.tk (i := 9) (o := ⟨some 35, _, _, _, _, _⟩) (v := ?_) [] (y := Or.inl ⟨by rfl, ?_⟩) (s := (HGW.out.on FB.out.here).q) (H := ?_)
        rotate_left
        · intro u hY; go_simp; try with_reducible rfl
        try simp only [putz]
        refine Goes.tk (i := 10) (o := ⟨some 36, _, _, _, _, _⟩) (v := ?_) [] (y := Or.inl ⟨by rfl, ?_⟩) (s := (HGW.out.on FB.out.here).q) (H := ?_)
        rotate_left
        · intro u hY; go_simp; try with_reducible rfl
        try simp only [putz]
        have hs := env_add (H0.out.on FB.out.here) FZ.out.here
        obtain ⟨z0, z1, z2, z3⟩ := hs.cell g12 0 (by simp)
        have zl := hs.lt g12 0 (by simp)
        have zf := hs.frozen g12 0 (by simp)
        have hs2 := hs.set g12 0 r [(g_z, 0)] (by simp) (Nat.le_trans HW0.out FG.out) (fun p hp => by obtain rfl := List.mem_singleton.1 hp; exact ⟨by simp, fun e => by have := FG.out; have := HZ1.out; simp at e; omega⟩)
        have hg2 := (Gm.fil (g' := g12) (HGW.out.on FB.out.here) r (show g_p ≠ g12 from fun e => by have := FG.out; have := HGW.out.lt; omega)).q
        refine Goes.one (i := 12) (o := ⟨none, _, _, _, _, _⟩) (by kernel_rfl) rfl (fun K hK => ?_)
        go_simp
        refine hK.out _ _ hg2 ?_
        clear hK K
        try simp only [putz]
        clear hs z0 z1 z2 z3 zl zf FZ FB
        change Goes _ _ _ _ _ _ _ _ (fil u8 g12 r)
        generalize fil u8 g12 r = u99 at *
        refine Goes.tk (i := 13) (o := ⟨some 13, _, _, _, _, _⟩) (v := ?_) [] (y := Or.inl ⟨by rfl, ?_⟩) (s := hg2) (H := ?_)
        rotate_left
        · intro u hY; go_simp; try with_reducible rfl
        try simp only [putz]
        refine Goes.done (by kernel_rfl) ?_ _
        refine NoPanic.normal ?_
        go_wp2_with fail
        go_meet
        exact ⟨_, rfl, hid hs2⟩
    · skip
      go_simp
      have hb := (Below.refl ud.heap.size ud).alloc (Nat.le_refl _) (.cells #[.int .u64 0, .int .u64 0, .int .u64 0, .int .u64 0] 24)
      have hh := heap_alloc_new ud (.cells #[.int .u64 0, .int .u64 0, .int .u64 0, .int .u64 0] 24)
      rw [cls_zero] at hh
      have hbo := FP.out.here.old.trans (hb.mono FP.out.here.old.size)
      refine hK.out _ _ ((HGW.out.on hbo).q) ?_
      clear hK K
      try simp only [putz]
      have FG := hid (FP.out.here.old.size)
      have FF := hid (FP.out.here.free ud.heap.size (Nat.le_refl _))
      have FP := hid (FP.out.on hb)
      have FZ := hid (onNm (show Nm (ud.alloc (.cells #[.int .u64 0, .int .u64 0, .int .u64 0, .int .u64 0] 24)) ud.heap.size 0 from by rw [cls_zero]; exact hh))
      clear hb hh hbo
      generalize ud.alloc (.cells #[.int .u64 0, .int .u64 0, .int .u64 0, .int .u64 0] 24) = u9 at *
      generalize ud.heap.size = g12 at *
      refine Goes.one (i := 5) (o := ⟨some 32, _, _, _, _, _⟩) (by kernel_rfl) rfl (fun K hK => ?_)
      go_simp
      have hb := (Below.refl u9.heap.size u9).alloc (Nat.le_refl _) (.cells #[.slice (some ⟨g_s, 0, none⟩) 32 32] 73)
      have hh := heap_alloc_new u9 (.cells #[.slice (some ⟨g_s, 0, none⟩) 32 32] 73)
      have hbo := FP.out.here.old.trans (hb.mono FP.out.here.old.size)
      refine hK.out _ _ ((HGW.out.on hbo).q) ?_
      clear hK K
      try simp only [putz]
      have FP := hid (FP.out.on hb)
      have FZ := hid (FZ.out.on hb)
      have F2 := hid (on_cell (i := 0) (lt_of_block hh) (by rw [cell_of_row _ _ _ _ 73 _ hh]; rfl))
      clear hb hh hbo
      generalize u9.alloc (.cells #[.slice (some ⟨g_s, 0, none⟩) 32 32] 73) = u10 at *
      generalize u9.heap.size = gb at *
      refine Goes.one (i := 6) (o := ⟨some 33, _, _, _, _, _⟩) (by kernel_rfl) rfl (fun K hK => ?_)
      rw [if_pos (by rfl)]
      obtain ⟨gA, cA, u11, R, HB, HC, HR, HKP, HSZ⟩ := Pt.last FP.out.here (by simp) 1 HL.out HRD.out F2.out.here
      have HC : Hid (3 ≤ cA) := HC
      have HR : Hid (Rws u11 (some ⟨gA, 0, none⟩) 3 (fun r => some ⟨([h0, h1] : List Nat).getD r g_s, 0, none⟩) (fun _ => 32) (fun _ => 32) (pts [be x 32, be y 32] bs)) := HR
      have R : Hid ((Builtin.append_ #[72, 72] 72 #[v2, .slice (some ⟨gb, 0, none⟩) 1 1]).run Tryd.prog u10 = .ok (.slice (some ⟨gA, 0, none⟩) 3 cA) u11) := R
      refine wp_append 72 (.tmp 30) (.tmp 32) (by rfl) (by rfl) _ _ (by rfl) (by rfl) _ _ R.out ?_
      refine hK.out _ _ ((HGW.out.on HB.out).q) ?_
      clear hK K
      try simp only [putz]
      have FZ := hid (onNm (show Nm u11 g12 0 from (HKP.out g12 (lt_of_block FZ.out.here) FF.out).trans FZ.out.here))
      have FB := hid (on_below HB.out)
      have FR := hid (on_rws HR.out)
      clear R HB HR HKP HSZ FP F2
      refine Goes.one (i := 7) (o := ⟨some 34, _, _, _, _, _⟩) (by kernel_rfl) rfl (fun K hK => ?_)
      go_simp
      with_reducible refine (numb_any st (some ⟨gA, 0, none⟩) cA _ [be x 32, be y 32] bs 3 q r _ rfl QL.out FR.out.here (HKT.out.on FB.out.here) (by simp) HS.out HC.out (fun e => by cases e) HV.out).mono ?_
      rintro e u12 ⟨⟨e5, rfl⟩, hb⟩
      go_wp2_with fail
      have hbo := FB.out.here.trans (hb.mono FB.out.here.size)
      refine hK.out _ _ ((HGW.out.on hbo).q) ?_
      clear hK K
      try simp only [putz]
      have FB := hid (FB.out.on hb)
      have FZ := hid (FZ.out.on hb)
      clear hb hbo FR
      refine Goes.tk (i := 8) (o := ⟨some 26, _, _, _, _, _⟩) (v := ?_) [] (y := Or.inl ⟨by rfl, ?_⟩) (s := (HGW.out.on FB.out.here).q) (H := ?_)
      rotate_left
      · intro u hY; go_simp; try with_reducible rfl
      try simp only [putz]
      refine Goes.tk (i := 9) (o := ⟨some 35, _, _, _, _, _⟩) (v := ?_) [] (y := Or.inl ⟨by rfl, ?_⟩) (s := (HGW.out.on FB.out.here).q) (H := ?_)
      rotate_left
      · intro u hY; go_simp; try with_reducible rfl
      try simp only [putz]
      refine Goes.tk (i := 10) (o := ⟨some 36, _, _, _, _, _⟩) (v := ?_) [] (y := Or.inl ⟨by rfl, ?_⟩) (s := (HGW.out.on FB.out.here).q) (H := ?_)
      rotate_left
      · intro u hY; go_simp; try with_reducible rfl
      try simp only [putz]
      have hs := env_add (H0.out.on FB.out.here) FZ.out.here
      obtain ⟨z0, z1, z2, z3⟩ := hs.cell g12 0 (by simp)
      have zl := hs.lt g12 0 (by simp)
      have zf := hs.frozen g12 0 (by simp)
      have hs2 := hs.set g12 0 r [(g_z, 0)] (by simp) (Nat.le_trans HW0.out FG.out) (fun p hp => by obtain rfl := List.mem_singleton.1 hp; exact ⟨by simp, fun e => by have := FG.out; have := HZ1.out; simp at e; omega⟩)
      have hg2 := (Gm.fil (g' := g12) (HGW.out.on FB.out.here) r (show g_p ≠ g12 from fun e => by have := FG.out; have := HGW.out.lt; omega)).q
      refine Goes.one (i := 12) (o := ⟨none, _, _, _, _, _⟩) (by kernel_rfl) rfl (fun K hK => ?_)
      go_simp
      refine hK.out _ _ hg2 ?_
      clear hK K
      try simp only [putz]
      clear hs z0 z1 z2 z3 zl zf FZ FB
      change Goes _ _ _ _ _ _ _ _ (fil u12 g12 r)
      generalize fil u12 g12 r = u99 at *
      refine Goes.tk (i := 13) (o := ⟨some 13, _, _, _, _, _⟩) (v := ?_) [] (y := Or.inl ⟨by rfl, ?_⟩) (s := hg2) (H := ?_)
      rotate_left
      · intro u hY; go_simp; try with_reducible rfl
      try simp only [putz]
      refine Goes.done (by kernel_rfl) ?_ _
      refine NoPanic.normal ?_
      go_wp2_with fail
      go_meet
      exact ⟨_, rfl, hid hs2⟩
  case rest =>
    obtain ⟨g12, rfl, H9⟩ := hcut
    obtain ⟨c0, c1, c2, c3⟩ := H9.out.cell g12 r (by simp)
    have cl := H9.out.lt g12 r (by simp)
    have cm := Nat.le_of_lt cl
    obtain ⟨z0, z1, z2, z3⟩ := H9.out.cell g_z 0 (by simp)
    have zl := H9.out.lt g_z 0 (by simp)
    have zf := H9.out.frozen g_z 0 (by simp)
    have HZ := hid (H9.out.set g_z 0 r [] (by simp) (Nat.le_of_eq HZ0.out) (by simp))
    go_wp2
    clear z0 z1 z2 z3 zl zf c0 c1 c2 c3 cl cm
    try rw [Exit.noGoto_ret]
    change bodyPost _ _ _ _ _ (fil wc g_z r)
    generalize fil wc g_z r = wz at *
    obtain ⟨k0, k1, k2, k3⟩ := HZ.out.cell g_z r (by simp)
    exact bodyPost_ret (v := num r) (by simp [results, Tryd.results28, go_sem, k0, k1, k2, k3]) rfl ⟨rfl, by rw [hgp]; exact HFIN.out _ HZ.out.1⟩
end Go.Proofs.YtioebjbjpjbodaaDoor
