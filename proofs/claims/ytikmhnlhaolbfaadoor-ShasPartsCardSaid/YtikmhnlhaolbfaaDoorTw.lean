/-
  Two runs and two slices of one's own, as a law carries them. Conditions: none.
-/
import Derived.Test.YtikmhnlhaolbfaaDoorAlive
import Derived.Test.YtikmhnlhaolbfaaDoorRef
namespace Go.Proofs.YtikmhnlhaolbfaaDoor
open Go.RowKit
set_option linter.unusedVariables false
set_option linter.unusedSimpArgs false

theorem Ow.on {w w' : World} {base : Nat} {v : Value} {x : List UInt8} (h : Ow w base v x) (hb : Below w.heap.size w w') : Ow w' base v x :=
  World.ownsRow.kept h (grown_of hb none) (by cases hv : v.ownBlock with | none => exact .inl rfl | some k => exact .inr (by simp))
theorem Ow.but {w w' : World} {base g : Nat} {v : Value} {x : List UInt8} (h : Ow w base v x) (hg : w.grownBy w' (some g)) (hn : g < base) : Ow w' base v x := by
  refine World.ownsRow.kept h hg (.inr ?_)
  intro e
  have := (World.ownsRow.lt h g e).1
  omega
/-- two runs, two slices of one's own; all older things stand -/
structure Tw (w : World) (B ga gb : Nat) (X Y : List UInt8) (vx vy : Value) (w' : World) : Prop where
  below : Below w.heap.size w w'
  ra : RunIs w' ga X
  rb : RunIs w' gb Y
  ox : Ow w' B vx X
  oy : Ow w' B vy Y
  ha : w.heap.size ≤ ga
  hb : w.heap.size ≤ gb
  ab : ga ≠ gb
  aB : ga < B
  bB : gb < B
  bw : B ≤ w'.heap.size
  k : Kt w
  xy : ∀ k, vx.ownBlock = some k → vy.ownBlock ≠ some k
section
variable {w w' w2 : World} {B ga gb : Nat} {X Y : List UInt8} {vx vy : Value}
theorem Tw.kt (h : Tw w B ga gb X Y vx vy w') : Kt w' := h.k.on h.below
theorem Tw.old (h : Tw w B ga gb X Y vx vy w') : Below w.heap.size w w' := h.below
theorem Tw.on (h : Tw w B ga gb X Y vx vy w') (hb : Below w'.heap.size w' w2) : Tw w B ga gb X Y vx vy w2 :=
  ⟨h.below.trans (hb.mono h.below.size), h.ra.heap (hb.block _ h.ra.lt), h.rb.heap (hb.block _ h.rb.lt), h.ox.on hb, h.oy.on hb, h.ha, h.hb, h.ab, h.aB, h.bB, Nat.le_trans h.bw hb.size, h.k, h.xy⟩
theorem Tw.putA (h : Tw w B ga gb X Y vx vy w') {X2 : List UInt8} (hr : RunIs w2 ga X2) (hg : w'.grownBy w2 (some ga)) (hx : Ow w2 B vx X2 ∨ True) : Below w.heap.size w w2 ∧ RunIs w2 gb Y ∧ Ow w2 B vx X ∧ Ow w2 B vy Y ∧ B ≤ w2.heap.size :=
  ⟨below_grown h.below hg h.ha h.below.size, h.rb.heap (hg.block _ h.rb.lt (by intro e; injection e with e; exact h.ab e.symm)), h.ox.but hg h.aB, h.oy.but hg h.aB, Nat.le_trans h.bw hg.size⟩
theorem Tw.putB (h : Tw w B ga gb X Y vx vy w') {Y2 : List UInt8} (hr : RunIs w2 gb Y2) (hg : w'.grownBy w2 (some gb)) : Below w.heap.size w w2 ∧ RunIs w2 ga X ∧ Ow w2 B vx X ∧ Ow w2 B vy Y ∧ B ≤ w2.heap.size :=
  ⟨below_grown h.below hg h.hb h.below.size, h.ra.heap (hg.block _ h.ra.lt (by intro e; injection e with e; exact h.ab e)), h.ox.but hg h.bB, h.oy.but hg h.bB, Nat.le_trans h.bw hg.size⟩
/-- written to the one, then behind its bytes -/
theorem Tw.stepA (h : Tw w B ga gb X Y vx vy w') {p : List UInt8} {A : Option Addr} {m c : Nat} (hr : RunIs w2 ga (X ++ p)) (hg : w'.grownBy w2 (some ga)) (hrd : Rd w2 A p) (hl : p.length = m) (hA : A = none → c = 0) (hs : X.length + m ≤ 140737488355328) :
    ∃ A2 c2 n2 w3, Hid ((Builtin.append_ #[41, 41] 41 #[vx, .slice A m c]).run Tryd.prog w2 = .ok (.slice A2 n2 c2) w3) ∧ Hid (Tw w B ga gb (X ++ p) Y (.slice A2 n2 c2) vy w3) ∧ Hid (n2 = X.length + m) := by
  obtain ⟨b1, r1, o1, o2, s1⟩ := h.putA hr hg (.inr trivial)
  obtain ⟨v2, w3, hrun, hown, hg3, hob⟩ := append_bytes w2 B vx X p A m c o1 hrd hl hA hs s1
  obtain ⟨A2, c2, rfl, _, _, _, _⟩ := hown.form
  have hfar : ∀ k, vx.ownBlock = some k → B ≤ k ∧ k < w2.heap.size := World.ownsRow.lt o1
  have keep : ∀ g, g < B → g < w2.heap.size → w3.heap[g]? = w2.heap[g]? := fun g hgB hgs => hg3.block g hgs (by intro e; have := (hfar g e.symm).1; omega)
  have hB2 := h.aB; have hB3 := h.bB; have hwB := h.ha
  refine ⟨A2, c2, _, w3, hid hrun, hid ⟨b1.trans ⟨hg3.os, hg3.tape, hg3.output, hg3.size, fun k hk => keep k (by omega) (by have := b1.size; omega)⟩, hr.heap (keep _ h.aB hr.lt), r1.heap (keep _ h.bB r1.lt), hown, ?_, h.ha, h.hb, h.ab, h.aB, h.bB, Nat.le_trans s1 hg3.size, h.k, ?_⟩, hid (by rw [List.length_append, hl])⟩
  · refine World.ownsRow.kept o2 hg3 ?_
    cases hv : vy.ownBlock with
    | none => exact .inl rfl
    | some k => exact .inr (fun e => h.xy k e.symm hv)
  · intro k hk hy
    rcases hob with e | e
    · rw [e] at hk; exact h.xy k hk hy
    · rw [e] at hk; injection hk with hk
      have := (World.ownsRow.lt o2 k hy).2
      omega
theorem Tw.stepB (h : Tw w B ga gb X Y vx vy w') {p : List UInt8} {A : Option Addr} {m c : Nat} (hr : RunIs w2 gb (Y ++ p)) (hg : w'.grownBy w2 (some gb)) (hrd : Rd w2 A p) (hl : p.length = m) (hA : A = none → c = 0) (hs : Y.length + m ≤ 140737488355328) :
    ∃ A2 c2 n2 w3, Hid ((Builtin.append_ #[41, 41] 41 #[vy, .slice A m c]).run Tryd.prog w2 = .ok (.slice A2 n2 c2) w3) ∧ Hid (Tw w B ga gb X (Y ++ p) vx (.slice A2 n2 c2) w3) ∧ Hid (n2 = Y.length + m) := by
  obtain ⟨b1, r1, o1, o2, s1⟩ := h.putB hr hg
  obtain ⟨v2, w3, hrun, hown, hg3, hob⟩ := append_bytes w2 B vy Y p A m c o2 hrd hl hA hs s1
  obtain ⟨A2, c2, rfl, _, _, _, _⟩ := hown.form
  have hfar : ∀ k, vy.ownBlock = some k → B ≤ k ∧ k < w2.heap.size := World.ownsRow.lt o2
  have keep : ∀ g, g < B → g < w2.heap.size → w3.heap[g]? = w2.heap[g]? := fun g hgB hgs => hg3.block g hgs (by intro e; have := (hfar g e.symm).1; omega)
  have hB2 := h.aB; have hB3 := h.bB; have hwB := h.ha
  refine ⟨A2, c2, _, w3, hid hrun, hid ⟨b1.trans ⟨hg3.os, hg3.tape, hg3.output, hg3.size, fun k hk => keep k (by omega) (by have := b1.size; omega)⟩, r1.heap (keep _ h.aB r1.lt), hr.heap (keep _ h.bB hr.lt), ?_, hown, h.ha, h.hb, h.ab, h.aB, h.bB, Nat.le_trans s1 hg3.size, h.k, ?_⟩, hid (by rw [List.length_append, hl])⟩
  · refine World.ownsRow.kept o1 hg3 ?_
    cases hv : vx.ownBlock with
    | none => exact .inl rfl
    | some k => exact .inr (fun e => h.xy k hv e.symm)
  · intro k hk hy
    rcases hob with e | e
    · rw [e] at hy; exact h.xy k hk hy
    · rw [e] at hy; injection hy with hy
      have := (World.ownsRow.lt o1 k hk).2
      omega
end
theorem writeA_tw {w wr : World} {B ga gb : Nat} {X Y : List UInt8} {vx vy : Value} (H : Hid (Tw w B ga gb X Y vx vy wr)) (A : Option Addr) (c n : Nat) (p : List UInt8) (hn : p.length = n) (hr : Rd wr A p) (hA : 0 < n → ∀ ad, A = some ad → ad.block ≠ ga) (hc : n ≤ c) (hlen : X.length + n ≤ 140737488355328) :
    Calls Tryd.prog 39 #[.pointer (some ⟨ga, 0, none⟩), .slice A n c] wr fun e w' => e = .returned (.int .i64 0) ∧ Hid (RunIs w' ga (X ++ p)) ∧ Hid (wr.grownBy w' (some ga)) := by
  refine (write_any ga A c X p wr n hn H.out.ra hr hA hc H.out.kt (by have := H.out.k.lt; have := H.out.ha; omega) hlen).mono ?_
  rintro e w1 ⟨rfl, hr1, hg1⟩
  exact ⟨rfl, hid hr1, hid hg1⟩
theorem writeB_tw {w wr : World} {B ga gb : Nat} {X Y : List UInt8} {vx vy : Value} (H : Hid (Tw w B ga gb X Y vx vy wr)) (A : Option Addr) (c n : Nat) (p : List UInt8) (hn : p.length = n) (hr : Rd wr A p) (hA : 0 < n → ∀ ad, A = some ad → ad.block ≠ gb) (hc : n ≤ c) (hlen : Y.length + n ≤ 140737488355328) :
    Calls Tryd.prog 39 #[.pointer (some ⟨gb, 0, none⟩), .slice A n c] wr fun e w' => e = .returned (.int .i64 0) ∧ Hid (RunIs w' gb (Y ++ p)) ∧ Hid (wr.grownBy w' (some gb)) := by
  refine (write_any gb A c Y p wr n hn H.out.rb hr hA hc H.out.kt (by have := H.out.k.lt; have := H.out.hb; omega) hlen).mono ?_
  rintro e w1 ⟨rfl, hr1, hg1⟩
  exact ⟨rfl, hid hr1, hid hg1⟩
theorem sumA_tw {w wr : World} {B ga gb : Nat} {X Y : List UInt8} {vx vy : Value} (H : Hid (Tw w B ga gb X Y vx vy wr)) (hl : X.length ≤ 70368744177664) :
    Calls Tryd.prog 40 #[.pointer (some ⟨ga, 0, none⟩)] wr fun e w' => e = .returned (.agg (bvs (sha X)).toArray) ∧ Hid (Tw w B ga gb X Y vx vy w') := by
  refine (sum_any ga X wr H.out.ra H.out.kt hl).mono ?_
  rintro e w1 ⟨rfl, hb⟩
  exact ⟨rfl, hid (H.out.on hb)⟩
theorem sumB_tw {w wr : World} {B ga gb : Nat} {X Y : List UInt8} {vx vy : Value} (H : Hid (Tw w B ga gb X Y vx vy wr)) (hl : Y.length ≤ 70368744177664) :
    Calls Tryd.prog 40 #[.pointer (some ⟨gb, 0, none⟩)] wr fun e w' => e = .returned (.agg (bvs (sha Y)).toArray) ∧ Hid (Tw w B ga gb X Y vx vy w') := by
  refine (sum_any gb Y wr H.out.rb H.out.kt hl).mono ?_
  rintro e w1 ⟨rfl, hb⟩
  exact ⟨rfl, hid (H.out.on hb)⟩
theorem of_tw {w wr : World} {B ga gb : Nat} {X Y : List UInt8} {vx vy : Value} (H : Hid (Tw w B ga gb X Y vx vy wr)) (A : Option Addr) (c n : Nat) (p : List UInt8) (ho : Ow wr B (.slice A n c) p) (hl : p.length ≤ 70368744177664) :
    Calls Tryd.prog 33 #[.slice A n c] wr fun e w' => e = .returned (.agg (bvs (sha p)).toArray) ∧ Hid (Tw w B ga gb X Y vx vy w') := by
  obtain ⟨A2, c2, hv, h1, _, h2, _⟩ := ho.form
  injection hv with e1 e2 e3
  subst e1; subst e2; subst e3
  refine (of_any A c p wr p.length rfl h2 h1 H.out.kt hl).mono ?_
  rintro e w1 ⟨rfl, hb⟩
  exact ⟨rfl, hid (H.out.on hb)⟩
end Go.Proofs.YtikmhnlhaolbfaaDoor
