/-
  Two runs and two slices of one's own, as a law carries them. Conditions: none.
  burrowlaw01.SameBytes and Beyond, walked. Conditions: none on the bytes; Beyond: at most four numbers, none below 0.
  burrowlaw01.TwinBytes and LeftBytes, walked. Condition: no more than 2^46 bytes.
  burrowlaw01.BytesSize, RecordsSize, Beyond, walked; a run and a slice of one's own, as a law carries them. Conditions: none.
  burrowlaw01.TwinRecords and LeftRecords, walked: a twin of a list of parts, with a part more behind it. Conditions: 200 parts at most, each of 2^20 bytes at most.
  burrowlaw01.LeftRecords, SameBytes as a whole, SameRecords, burrowlaw05.great, walked. Conditions: 200 parts at most, each of 2^20 bytes at most.
-/
import Derived.Test.YtaejcifpipegnaaDoorAlive
import Derived.Test.YtaejcifpipegnaaDoorRef
import Derived.Test.YtaejcifpipegnaaDoorWords
import Derived.Outline
import Derived.WalkLawsBesides
import Derived.WalkSpells
import Derived.Deep.QuietTactic
import Derived.BigQuiet
import Derived.Test.YtaejcifpipegnaaDoorPut
import Derived.Test.YtaejcifpipegnaaDoorOpenRows
import Derived.Test.YtaejcifpipegnaaDoorRefOf
import Derived.Test.YtaejcifpipegnaaDoorCb
import Derived.Deep.Cut
import Derived.Test.YtaejcifpipegnaaDoorPkA
import Derived.Laws.MakeOwn
namespace Go.Proofs.YtaejcifpipegnaaDoor
open Go.RowKit
set_option linter.unusedVariables false
set_option linter.unusedSimpArgs false

theorem Ow.on {w w' : World} {base : Nat} {v : Value} {x : List UInt8} (h : Ow w base v x) (hb : Below w.heap.size w w') : Ow w' base v x :=
  World.ownsRow.kept h (grown_of hb none) (by cases hv : v.ownBlock with | none => exact .inl rfl | some k => exact .inr (by simp))
theorem Ow.but {w w' : World} {base g : Nat} {v : Value} {x : List UInt8} (h : Ow w base v x) (hg : w.grownBy w' (some g)) (hn : g < base) : Ow w' base v x := by
  refine World.ownsRow.kept h hg (.inr ?_)
  intro e
  have := (World.ownsRow.lt h g e).1
  omega
/-- two runs, two slices of one's own; all older things stand -/
structure Tw (w : World) (B ga gb : Nat) (X Y : List UInt8) (vx vy : Value) (w' : World) : Prop where
  below : Below w.heap.size w w'
  ra : RunIs w' ga X
  rb : RunIs w' gb Y
  ox : Ow w' B vx X
  oy : Ow w' B vy Y
  ha : w.heap.size ≤ ga
  hb : w.heap.size ≤ gb
  ab : ga ≠ gb
  aB : ga < B
  bB : gb < B
  bw : B ≤ w'.heap.size
  k : Kt w
  xy : ∀ k, vx.ownBlock = some k → vy.ownBlock ≠ some k
section
variable {w w' w2 : World} {B ga gb : Nat} {X Y : List UInt8} {vx vy : Value}
theorem Tw.kt (h : Tw w B ga gb X Y vx vy w') : Kt w' := h.k.on h.below
theorem Tw.old (h : Tw w B ga gb X Y vx vy w') : Below w.heap.size w w' := h.below
theorem Tw.on (h : Tw w B ga gb X Y vx vy w') (hb : Below w'.heap.size w' w2) : Tw w B ga gb X Y vx vy w2 :=
  ⟨h.below.trans (hb.mono h.below.size), h.ra.heap (hb.block _ h.ra.lt), h.rb.heap (hb.block _ h.rb.lt), h.ox.on hb, h.oy.on hb, h.ha, h.hb, h.ab, h.aB, h.bB, Nat.le_trans h.bw hb.size, h.k, h.xy⟩
theorem Tw.putA (h : Tw w B ga gb X Y vx vy w') {X2 : List UInt8} (hr : RunIs w2 ga X2) (hg : w'.grownBy w2 (some ga)) (hx : Ow w2 B vx X2 ∨ True) : Below w.heap.size w w2 ∧ RunIs w2 gb Y ∧ Ow w2 B vx X ∧ Ow w2 B vy Y ∧ B ≤ w2.heap.size :=
  ⟨below_grown h.below hg h.ha h.below.size, h.rb.heap (hg.block _ h.rb.lt (by intro e; injection e with e; exact h.ab e.symm)), h.ox.but hg h.aB, h.oy.but hg h.aB, Nat.le_trans h.bw hg.size⟩
theorem Tw.putB (h : Tw w B ga gb X Y vx vy w') {Y2 : List UInt8} (hr : RunIs w2 gb Y2) (hg : w'.grownBy w2 (some gb)) : Below w.heap.size w w2 ∧ RunIs w2 ga X ∧ Ow w2 B vx X ∧ Ow w2 B vy Y ∧ B ≤ w2.heap.size :=
  ⟨below_grown h.below hg h.hb h.below.size, h.ra.heap (hg.block _ h.ra.lt (by intro e; injection e with e; exact h.ab e)), h.ox.but hg h.bB, h.oy.but hg h.bB, Nat.le_trans h.bw hg.size⟩
/-- written to the one, then behind its bytes -/
theorem Tw.stepA (h : Tw w B ga gb X Y vx vy w') {p : List UInt8} {A : Option Addr} {m c : Nat} (hr : RunIs w2 ga (X ++ p)) (hg : w'.grownBy w2 (some ga)) (hrd : Rd w2 A p) (hl : p.length = m) (hA : A = none → c = 0) (hs : X.length + m ≤ 140737488355328) :
    ∃ A2 c2 n2 w3, Hid ((Builtin.append_ #[22, 22] 22 #[vx, .slice A m c]).run Tryd.prog w2 = .ok (.slice A2 n2 c2) w3) ∧ Hid (Tw w B ga gb (X ++ p) Y (.slice A2 n2 c2) vy w3) ∧ Hid (n2 = X.length + m) := by
  obtain ⟨b1, r1, o1, o2, s1⟩ := h.putA hr hg (.inr trivial)
  obtain ⟨v2, w3, hrun, hown, hg3, hob⟩ := append_bytes w2 B vx X p A m c o1 hrd hl hA hs s1
  obtain ⟨A2, c2, rfl, _, _, _, _⟩ := hown.form
  have hfar : ∀ k, vx.ownBlock = some k → B ≤ k ∧ k < w2.heap.size := World.ownsRow.lt o1
  have keep : ∀ g, g < B → g < w2.heap.size → w3.heap[g]? = w2.heap[g]? := fun g hgB hgs => hg3.block g hgs (by intro e; have := (hfar g e.symm).1; omega)
  have hB2 := h.aB; have hB3 := h.bB; have hwB := h.ha
  refine ⟨A2, c2, _, w3, hid hrun, hid ⟨b1.trans ⟨hg3.os, hg3.tape, hg3.output, hg3.size, fun k hk => keep k (by omega) (by have := b1.size; omega)⟩, hr.heap (keep _ h.aB hr.lt), r1.heap (keep _ h.bB r1.lt), hown, ?_, h.ha, h.hb, h.ab, h.aB, h.bB, Nat.le_trans s1 hg3.size, h.k, ?_⟩, hid (by rw [List.length_append, hl])⟩
  · refine World.ownsRow.kept o2 hg3 ?_
    cases hv : vy.ownBlock with
    | none => exact .inl rfl
    | some k => exact .inr (fun e => h.xy k e.symm hv)
  · intro k hk hy
    rcases hob with e | e
    · rw [e] at hk; exact h.xy k hk hy
    · rw [e] at hk; injection hk with hk
      have := (World.ownsRow.lt o2 k hy).2
      omega
theorem Tw.stepB (h : Tw w B ga gb X Y vx vy w') {p : List UInt8} {A : Option Addr} {m c : Nat} (hr : RunIs w2 gb (Y ++ p)) (hg : w'.grownBy w2 (some gb)) (hrd : Rd w2 A p) (hl : p.length = m) (hA : A = none → c = 0) (hs : Y.length + m ≤ 140737488355328) :
    ∃ A2 c2 n2 w3, Hid ((Builtin.append_ #[22, 22] 22 #[vy, .slice A m c]).run Tryd.prog w2 = .ok (.slice A2 n2 c2) w3) ∧ Hid (Tw w B ga gb X (Y ++ p) vx (.slice A2 n2 c2) w3) ∧ Hid (n2 = Y.length + m) := by
  obtain ⟨b1, r1, o1, o2, s1⟩ := h.putB hr hg
  obtain ⟨v2, w3, hrun, hown, hg3, hob⟩ := append_bytes w2 B vy Y p A m c o2 hrd hl hA hs s1
  obtain ⟨A2, c2, rfl, _, _, _, _⟩ := hown.form
  have hfar : ∀ k, vy.ownBlock = some k → B ≤ k ∧ k < w2.heap.size := World.ownsRow.lt o2
  have keep : ∀ g, g < B → g < w2.heap.size → w3.heap[g]? = w2.heap[g]? := fun g hgB hgs => hg3.block g hgs (by intro e; have := (hfar g e.symm).1; omega)
  have hB2 := h.aB; have hB3 := h.bB; have hwB := h.ha
  refine ⟨A2, c2, _, w3, hid hrun, hid ⟨b1.trans ⟨hg3.os, hg3.tape, hg3.output, hg3.size, fun k hk => keep k (by omega) (by have := b1.size; omega)⟩, r1.heap (keep _ h.aB r1.lt), hr.heap (keep _ h.bB hr.lt), ?_, hown, h.ha, h.hb, h.ab, h.aB, h.bB, Nat.le_trans s1 hg3.size, h.k, ?_⟩, hid (by rw [List.length_append, hl])⟩
  · refine World.ownsRow.kept o1 hg3 ?_
    cases hv : vx.ownBlock with
    | none => exact .inl rfl
    | some k => exact .inr (fun e => h.xy k hv e.symm)
  · intro k hk hy
    rcases hob with e | e
    · rw [e] at hy; exact h.xy k hk hy
    · rw [e] at hy; injection hy with hy
      have := (World.ownsRow.lt o1 k hk).2
      omega
end
theorem writeA_tw {w wr : World} {B ga gb : Nat} {X Y : List UInt8} {vx vy : Value} (H : Hid (Tw w B ga gb X Y vx vy wr)) (A : Option Addr) (c n : Nat) (p : List UInt8) (hn : p.length = n) (hr : Rd wr A p) (hA : 0 < n → ∀ ad, A = some ad → ad.block ≠ ga) (hc : n ≤ c) (hlen : X.length + n ≤ 140737488355328) :
    Calls Tryd.prog 28 #[.pointer (some ⟨ga, 0, none⟩), .slice A n c] wr fun e w' => e = .returned (.int .i64 0) ∧ Hid (RunIs w' ga (X ++ p)) ∧ Hid (wr.grownBy w' (some ga)) := by
  refine (write_any ga A c X p wr n hn H.out.ra hr hA hc H.out.kt (by have := H.out.k.lt; have := H.out.ha; omega) hlen).mono ?_
  rintro e w1 ⟨rfl, hr1, hg1⟩
  exact ⟨rfl, hid hr1, hid hg1⟩
theorem writeB_tw {w wr : World} {B ga gb : Nat} {X Y : List UInt8} {vx vy : Value} (H : Hid (Tw w B ga gb X Y vx vy wr)) (A : Option Addr) (c n : Nat) (p : List UInt8) (hn : p.length = n) (hr : Rd wr A p) (hA : 0 < n → ∀ ad, A = some ad → ad.block ≠ gb) (hc : n ≤ c) (hlen : Y.length + n ≤ 140737488355328) :
    Calls Tryd.prog 28 #[.pointer (some ⟨gb, 0, none⟩), .slice A n c] wr fun e w' => e = .returned (.int .i64 0) ∧ Hid (RunIs w' gb (Y ++ p)) ∧ Hid (wr.grownBy w' (some gb)) := by
  refine (write_any gb A c Y p wr n hn H.out.rb hr hA hc H.out.kt (by have := H.out.k.lt; have := H.out.hb; omega) hlen).mono ?_
  rintro e w1 ⟨rfl, hr1, hg1⟩
  exact ⟨rfl, hid hr1, hid hg1⟩
theorem sumA_tw {w wr : World} {B ga gb : Nat} {X Y : List UInt8} {vx vy : Value} (H : Hid (Tw w B ga gb X Y vx vy wr)) (hl : X.length ≤ 70368744177664) :
    Calls Tryd.prog 26 #[.pointer (some ⟨ga, 0, none⟩)] wr fun e w' => e = .returned (.agg (bvs (sha X)).toArray) ∧ Hid (Tw w B ga gb X Y vx vy w') := by
  refine (sum_any ga X wr H.out.ra H.out.kt hl).mono ?_
  rintro e w1 ⟨rfl, hb⟩
  exact ⟨rfl, hid (H.out.on hb)⟩
theorem sumB_tw {w wr : World} {B ga gb : Nat} {X Y : List UInt8} {vx vy : Value} (H : Hid (Tw w B ga gb X Y vx vy wr)) (hl : Y.length ≤ 70368744177664) :
    Calls Tryd.prog 26 #[.pointer (some ⟨gb, 0, none⟩)] wr fun e w' => e = .returned (.agg (bvs (sha Y)).toArray) ∧ Hid (Tw w B ga gb X Y vx vy w') := by
  refine (sum_any gb Y wr H.out.rb H.out.kt hl).mono ?_
  rintro e w1 ⟨rfl, hb⟩
  exact ⟨rfl, hid (H.out.on hb)⟩
theorem of_tw {w wr : World} {B ga gb : Nat} {X Y : List UInt8} {vx vy : Value} (H : Hid (Tw w B ga gb X Y vx vy wr)) (A : Option Addr) (c n : Nat) (p : List UInt8) (ho : Ow wr B (.slice A n c) p) (hl : p.length ≤ 70368744177664) :
    Calls Tryd.prog 17 #[.slice A n c] wr fun e w' => e = .returned (.agg (bvs (sha p)).toArray) ∧ Hid (Tw w B ga gb X Y vx vy w') := by
  obtain ⟨A2, c2, hv, h1, _, h2, _⟩ := ho.form
  injection hv with e1 e2 e3
  subst e1; subst e2; subst e3
  refine (of_any A c p wr p.length rfl h2 h1 H.out.kt hl).mono ?_
  rintro e w1 ⟨rfl, hb⟩
  exact ⟨rfl, hid (H.out.on hb)⟩
end Go.Proofs.YtaejcifpipegnaaDoor
namespace Go.Proofs.YtaejcifpipegnaaDoor
open Go.RowKit
set_option linter.unusedVariables false

end Go.Proofs.YtaejcifpipegnaaDoor
namespace Go.Proofs.YtaejcifpipegnaaDoor
open Go.RowKit
set_option linter.unusedVariables false

theorem run_make_room (w : World) (n : Nat) (h : n ≤ 140737488355328) :
    (Instr.makeSlice 22 (.int .i64 0) (.int .i64 ((n : Int) + 1))).run Tryd.prog w = .ok (.slice (some ⟨w.heap.size, 0, none⟩) 0 (n + 1)) (w.alloc (.cells (bvs (List.replicate (n + 1) 0)).toArray 5)) := by
  obtain ⟨i0, hi, hz0, hz1, hz2⟩ := info_parts u8_info
  have := run_make (P := Tryd.prog) w 22 5 i0 (.int .u8 0) Tryd.underlying22 hi hz0 .i64 .i64 (0 : Int) ((n : Int) + 1) (by omega) (by omega) (by rw [hz2]; omega) (by omega)
  rw [this, hz1, Nat.mul_one, show ((n : Int) + 1).toNat = n + 1 from by omega, made_bytes]
  rfl

theorem Row.of_new (w : World) (bs : List UInt8) : Row (w.alloc (.cells (bvs bs).toArray 5)) w.heap.size bs := heap_alloc_new w _

/-- an append that fits, into a block that is known whole -/
theorem append_room (w : World) (g k n m c : Nat) (bs ls : List UInt8) (A : Option Addr) (hg : Row w g bs) (hr : Rd w A ls) (hm : ls.length = m) (hp : 0 < m) (hk : k + m ≤ n) (hn : n ≤ bs.length) :
    ∃ w', (Builtin.append_ #[22, 22] 22 #[.slice (some ⟨g, 0, none⟩) k n, .slice A m c]).run Tryd.prog w = .ok (.slice (some ⟨g, 0, none⟩) (k + m) n) w' ∧ Row w' g (bs.take k ++ (ls ++ bs.drop (k + m))) ∧ w.grownBy w' (some g) := by
  obtain ⟨i0, hi, hz0, hz1, hz2⟩ := info_parts u8_info
  obtain ⟨ad, rfl, hc⟩ := hr.cells (by omega)
  have hrun := run_append_room (P := Tryd.prog) w 22 22 5 i0 Tryd.underlying22 hi g k n (bvs bs).toArray hg ad m c (bvs ls) (by rw [bvs_length, hz1, hm, Nat.mul_one]) hc (bvs_one ls) hk (by rw [hz1, Nat.mul_one, bvs_length, hm]; simp [bvs_length]; omega)
  rw [hz1, Nat.mul_one, bvs_length, hm] at hrun
  refine ⟨_, hrun, ?_, ?_⟩
  · have := setRow_heap w g _ ((bvs bs).take k ++ bvs ls ++ (bvs bs).drop (k + m)).toArray 5 (0, 0) hg
    unfold Row
    rw [bvs_append, bvs_append, bvs_take, bvs_drop, ← List.append_assoc]
    exact this
  · exact ⟨rfl, rfl, rfl, by simp [World.setRow], fun k hk hne => setRow_other w g k _ (fun e => hne (by rw [e]))⟩

theorem room_step (bs : List UInt8) (k : Nat) (hk : k < bs.length) :
    ((bs.take k ++ List.replicate (bs.length + 1 - k) 0).take k ++ ([bs[k]] ++ (bs.take k ++ List.replicate (bs.length + 1 - k) 0).drop (k + 1))) = bs.take (k + 1) ++ List.replicate (bs.length + 1 - (k + 1)) 0 := by
  have hl : (bs.take k).length = k := by rw [List.length_take]; omega
  have e1 : (bs.take k ++ List.replicate (bs.length + 1 - k) 0).take k = bs.take k := by
    have := List.take_left (l₁ := bs.take k) (l₂ := List.replicate (bs.length + 1 - k) (0 : UInt8))
    rw [hl] at this; exact this
  have e2 : (bs.take k ++ List.replicate (bs.length + 1 - k) (0 : UInt8)).drop (k + 1) = List.replicate (bs.length + 1 - (k + 1)) 0 := by
    rw [List.drop_append, hl, List.drop_eq_nil_of_le (by omega), List.nil_append, List.drop_replicate]
    congr 1
    omega
  rw [e1, e2, List.take_succ_eq_append_getElem hk, List.append_assoc]

theorem room_last (bs : List UInt8) (b : UInt8) : ((bs ++ List.replicate 1 0).take bs.length ++ ([b] ++ (bs ++ List.replicate 1 0).drop (bs.length + 1))) = bs ++ [b] := by
  simp

set_option maxRecDepth 100000 in
set_option maxHeartbeats 800000 in
theorem twin_any (A : Option Addr) (c : Nat) (bs : List UInt8) (w : World) (hr : Rd w A bs) (hn : bs.length ≤ 140737488351232) :
    Calls Tryd.prog 9 #[.slice A bs.length c] w fun e w' => e = .returned (.slice (some ⟨w.heap.size, 0, none⟩) bs.length (bs.length + 1)) ∧ Row w' w.heap.size (bs ++ [77]) ∧ Below w.heap.size w w' := by
  have hmk := run_make_room w bs.length (by omega)
  go_enter Tryd.func9, Tryd.ntmps9
  go_wp2
  clear hmk
  have H0 := hid (Row.of_new w (List.replicate (bs.length + 1) 0))
  have HB0 := hid ((Below.refl w.heap.size w).alloc (Nat.le_refl _) (.cells (bvs (List.replicate (bs.length + 1) 0)).toArray 5))
  go_loopw [3, 4] (fun t i wr => ∃ k : Nat, k ≤ bs.length ∧ i = .int .i64 k ∧ t = .slice (some ⟨w.heap.size, 0, none⟩) k (bs.length + 1) ∧ Hid (Row wr w.heap.size (bs.take k ++ List.replicate (bs.length + 1 - k) 0)) ∧ Hid (Below w.heap.size w wr)) (fun _ i _ => bs.length - (intOf i).toNat)
  case atStart => exact ⟨0, Nat.zero_le _, rfl, rfl, hid (by simpa using H0.out), HB0.out⟩
  case round =>
    obtain ⟨k, hk, rfl, rfl, HR, HB⟩ := hrel
    clear H0 HB0
    by_cases hlt : k < bs.length
    · obtain ⟨g, o, rfl, hg, hc⟩ := hr (by omega)
      have h3 : wr.cell? ⟨g, o + k, none⟩ = some (.int .u8 ((bs[k].toNat : Nat) : Int)) := (HB.out.cell (p := ⟨g, o + k, none⟩) hg).trans (hc k hlt)
      clear hc
      have hl : (bs.take k ++ List.replicate (bs.length + 1 - k) 0).length = bs.length + 1 := by simp; omega
      obtain ⟨w2, hrun, hrow, hgr⟩ := append_room (wr.alloc (.cells #[.int .u8 ((bs[k].toNat : Nat) : Int)] 5)) w.heap.size k (bs.length + 1) 1 1 _ [bs[k]] (some ⟨wr.heap.size, 0, none⟩) (HR.out.alloc _) (Row.one wr _).rd0 rfl (by omega) (by omega) (by omega)
      rw [room_step bs k hlt] at hrow
      have HRN := hid hrun
      have HR2 := hid hrow
      have HB2 := hid ((HB.out.alloc HB.out.size _).grown hgr (by have := HB.out.size; simp; omega) (by simp))
      clear hrun hrow hgr hl
      generalize bs[k].toNat = x at *
      go_wp2_with (at_builtin; refine step_append rfl (.tmp 15) (.tmp 20) rfl rfl _ _ rfl rfl _ w2 HRN.out ?_)
      go_roundw
      case rel => exact ⟨k + 1, by omega, by go_num, rfl, HR2.out, HB2.out⟩
      case measure => simp [intOf]; omega
    · obtain rfl : k = bs.length := by omega
      have HR' := hid (p := Row wr w.heap.size (bs ++ List.replicate 1 0)) (by have := HR.out; rw [List.take_length, show bs.length + 1 - bs.length = 1 from by omega] at this; exact this)
      obtain ⟨w2, hrun, hrow, hgr⟩ := append_room (wr.alloc (.cells #[.int .u8 77] 5)) w.heap.size bs.length (bs.length + 1) 1 1 _ [77] (some ⟨wr.heap.size, 0, none⟩) (HR'.out.alloc _) (Row.one wr 77).rd0 rfl (by omega) (by omega) (by simp)
      rw [room_last] at hrow
      have HRN := hid hrun
      have HR2 := hid hrow
      have HB2 := hid ((HB.out.alloc HB.out.size _).grown hgr (by have := HB.out.size; simp; omega) (by simp))
      clear hrun hrow hgr
      go_wp2_with (at_builtin; refine step_append rfl (.tmp 22) (.tmp 23) rfl rfl _ _ rfl rfl _ w2 HRN.out ?_)
      go_ret
      exact ⟨rfl, HR2.out, HB2.out⟩

set_option maxRecDepth 100000 in
set_option maxHeartbeats 800000 in
theorem left_any (B : Option Addr) (g d : Nat) (bs : List UInt8) (w : World) (hg : Row w g (bs ++ [77])) (hb : Rd w B bs) (hn : bs.length ≤ 140737488351232) :
    Calls Tryd.prog 13 #[.slice (some ⟨g, 0, none⟩) bs.length (bs.length + 1), .slice B bs.length d] w fun e w' => e = .returned (.bool true) ∧ ∃ k, w' = w.drewN k := by
  have hlen : (bs ++ [77]).length = bs.length + 1 := by simp
  have k77 : w.cell? ⟨g, bs.length, none⟩ = some (.int .u8 77) := by
    rw [hg.cell bs.length (by omega)]
    simp
  have ha : Rd w (some ⟨g, 0, none⟩) bs := by
    have := hg.rd0.take bs.length
    rwa [List.take_left] at this
  have HA := hid ha
  clear hg ha hlen
  go_enter Tryd.func13, Tryd.ntmps13
  go_wp2
  go_loopw [5] (fun i wr => ∃ k n : Nat, k ≤ bs.length ∧ i = .int .i64 k ∧ Hid (wr = w.drewN n)) (fun i _ => bs.length - (intOf i).toNat)
  case atStart => exact ⟨0, 0, Nat.zero_le _, rfl, rfl⟩
  case round =>
    obtain ⟨k, n, hk, rfl, HW⟩ := hrel
    have k77' : wr.cell? ⟨g, bs.length, none⟩ = some (.int .u8 77) := by rw [HW.out]; exact k77
    clear k77
    by_cases hlt : k < bs.length
    · obtain ⟨g1, o, h1, hg1, hc⟩ := HA.out (by omega)
      obtain ⟨rfl, rfl⟩ : g = g1 ∧ o = 0 := by injection h1 with h1; injection h1 with h1 h2; exact ⟨h1, h2.symm⟩
      obtain ⟨g2, o2, rfl, hg2, hc2⟩ := hb (by omega)
      have h1 := hc k hlt
      rw [Nat.zero_add] at h1
      have h2 := hc2 k hlt
      clear hc hc2
      have h3 : wr.cell? ⟨g, k, none⟩ = some (.int .u8 ((bs[k].toNat : Nat) : Int)) := by rw [HW.out]; exact h1
      have h4 : wr.cell? ⟨g2, o2 + k, none⟩ = some (.int .u8 ((bs[k].toNat : Nat) : Int)) := by rw [HW.out]; exact h2
      clear h1 h2 k77'
      generalize bs[k].toNat = x at h3 h4
      go_wp2
      go_quiet (fail)
      go_wp2
      go_roundw
      case rel => exact ⟨k + 1, n + nq, by omega, by go_num, by rw [HW.out]; exact hid (World.drewN_drewN ..)⟩
      case measure => simp [intOf]; omega
    · obtain rfl : k = bs.length := by omega
      go_wp2
      go_ret
      exact ⟨rfl, n, HW.out⟩
end Go.Proofs.YtaejcifpipegnaaDoor
namespace Go.Proofs.YtaejcifpipegnaaDoor
open Go.RowKit
set_option linter.unusedVariables false
set_option linter.unusedSimpArgs false

theorem Rws.at {w wr : World} {a0 : Option Addr} {n : Nat} {A : Nat → Option Addr} {L C : Nat → Nat} {xs : Nat → List UInt8} (h : Rws w a0 n A L C xs) (hb : Below w.heap.size w wr) (r : Nat) (hr : r < n) :
    ∃ g o, a0 = some ⟨g, o, none⟩ ∧ wr.cell? ⟨g, o + r, none⟩ = some (.slice (A r) (L r) (C r)) := by
  obtain ⟨⟨g, o, h1, h2, h3⟩, _⟩ := h r hr
  exact ⟨g, o, h1, (hb.cell (p := ⟨g, o + r, none⟩) h2).trans h3⟩
theorem bytesSize_any (A : Option Addr) (n c : Nat) (w : World) : Calls Tryd.prog 27 #[.slice A n c] w fun e w' => e = .returned (.int .i64 (n : Int)) ∧ w = w' := by
  go_enter Tryd.func27, Tryd.ntmps27
  go_wp2
  go_ret
  exact ⟨rfl, rfl⟩
set_option maxHeartbeats 1000000 in
theorem recSize_any (a0 : Option Addr) (n0 c0 : Nat) (A : Nat → Option Addr) (L C : Nat → Nat) (xs : Nat → List UInt8) (w : World) (hR : Rws w a0 n0 A L C xs) (hn : n0 ≤ 1000000) :
    Calls Tryd.prog 18 #[.slice a0 n0 c0] w fun e w' => (∃ z : Nat, e = .returned (.int .i64 (z : Int)) ∧ z ≤ 281474976710656 ∧ (z ≤ 1048576 → ∀ r, r < n0 → L r ≤ 1048576)) ∧ w = w' := by
  have HR := hid hR
  have HN := hid hn
  clear hR hn
  go_enter Tryd.func18, Tryd.ntmps18
  go_wp2_with fail
  go_loop [3, 4] (fun s i => ∃ k z : Nat, k ≤ n0 ∧ i = .int .i64 k ∧ s = .int .i64 z ∧ z ≤ 281474976710656 ∧ Hid (∀ r, r < k → L r ≤ z)) (fun _ i => n0 - (intOf i).toNat)
  case atStart => exact ⟨0, n0, Nat.zero_le _, rfl, rfl, by have := HN.out; omega, hid (fun r hr => absurd hr (Nat.not_lt_zero _))⟩
  case round =>
    obtain ⟨k, z, hk, rfl, rfl, hz, HZ⟩ := hrel
    by_cases hlt : k < n0
    · by_cases hz2 : z ≤ 1048576
      · obtain ⟨g, o, rfl, hcell⟩ := HR.out.at (Below.refl _ _) k hlt
        obtain ⟨_, hl1, hrd1, hlc, hcb, hac⟩ := HR.out k hlt
        have hLk : L k ≤ 140737488351232 := by omega
        have hw : IntKind.i64.wrap ((z : Int) + (L k : Int)) = ((z : Int) + (L k : Int)) := by rw [IntKind.wrap_i64]; omega
        clear hl1 hrd1 hlc hcb hac
        have hzi : (z : Int) ≤ 1048576 := by omega
        have hn1 := HN.out
        go_wp2_with fail
        refine (bytesSize_any _ _ _ _).mono ?_
        rintro e w1 ⟨rfl, rfl⟩
        go_wp2
        go_round
        case rel => exact ⟨k + 1, z + L k, by omega, by go_num, by simp, by omega, hid (fun r hr => by
          rcases Nat.lt_or_ge r k with h | h
          · have := HZ.out r h; omega
          · obtain rfl : r = k := by omega
            omega)⟩
        case measure => simp [intOf]; omega
      · have hzi : ¬ (z : Int) ≤ 1048576 := by omega
        have hex : ∃ z' : Nat, Ending.returned (Value.int .i64 (z : Int)) = .returned (.int .i64 (z' : Int)) ∧ z' ≤ 281474976710656 ∧ (z' ≤ 1048576 → ∀ r, r < n0 → L r ≤ 1048576) := ⟨z, rfl, hz, fun h => absurd h hz2⟩
        have HEX := hid hex
        clear hex
        go_wp2
        go_ret
        exact ⟨HEX.out, rfl⟩
    · obtain rfl : k = n0 := by omega
      have hex : ∃ z' : Nat, Ending.returned (Value.int .i64 (z : Int)) = .returned (.int .i64 (z' : Int)) ∧ z' ≤ 281474976710656 ∧ (z' ≤ 1048576 → ∀ r, r < k → L r ≤ 1048576) := ⟨z, rfl, hz, fun h r hr => by have := HZ.out r hr; omega⟩
      have HEX := hid hex
      clear hex
      go_wp2
      go_ret
      exact ⟨HEX.out, rfl⟩
/-- a run and a slice of one's own that hold the same bytes; all older things stand -/
structure Pa (w : World) (B g : Nat) (X : List UInt8) (v : Value) (w' : World) : Prop where
  below : Below w.heap.size w w'
  r : RunIs w' g X
  o : Ow w' B v X
  hg : w.heap.size ≤ g
  gB : g < B
  bw : B ≤ w'.heap.size
  k : Kt w
section
variable {w w' w2 : World} {B g : Nat} {X : List UInt8} {v : Value}
theorem Pa.kt (h : Pa w B g X v w') : Kt w' := h.k.on h.below
theorem Pa.n3 (h : Pa w B g X v w') : 0 ≠ g := by have := h.k.lt; have := h.hg; omega
theorem Pa.old (h : Pa w B g X v w') : Below w.heap.size w w' := h.below
theorem Pa.on (h : Pa w B g X v w') (hb : Below w'.heap.size w' w2) : Pa w B g X v w2 :=
  ⟨h.below.trans (hb.mono h.below.size), h.r.heap (hb.block _ h.r.lt), h.o.on hb, h.hg, h.gB, Nat.le_trans h.bw hb.size, h.k⟩
/-- another block is filled anew -/
theorem Pa.grown (h : Pa w B g X v w') {t : Nat} (hg : w'.grownBy w2 (some t)) (h1 : w.heap.size ≤ t) (h2 : g ≠ t) (h3 : v.ownBlock ≠ some t) : Pa w B g X v w2 :=
  ⟨below_grown h.below hg h1 h.below.size, h.r.heap (hg.block _ h.r.lt (by intro e; injection e with e; exact h2 e)), World.ownsRow.kept h.o hg (.inr h3), h.hg, h.gB, Nat.le_trans h.bw hg.size, h.k⟩
/-- what is written is put behind the slice, too -/
theorem Pa.step (h : Pa w B g X v w') {p q : List UInt8} {A : Option Addr} {m c t : Nat} (hr : RunIs w2 g (X ++ p)) (hg : w'.grownBy w2 (some g)) (hrd : Rd w2 A p) (hl : p.length = m) (hA : A = none → c = 0) (hs : X.length + m ≤ 140737488355328) (ht : Row w2 t q) (hvt : ∀ k, v.ownBlock = some k → k ≠ t) :
    ∃ A2 c2 n2 w3, Hid ((Builtin.append_ #[22, 22] 22 #[v, .slice A m c]).run Tryd.prog w2 = .ok (.slice A2 n2 c2) w3) ∧ Hid (Pa w B g (X ++ p) (.slice A2 n2 c2) w3) ∧ Hid (n2 = X.length + m) ∧ Hid (Row w3 t q) ∧ Hid ((Value.slice A2 n2 c2).ownBlock ≠ some t) := by
  have b1 := below_grown h.below hg h.hg h.below.size
  have o1 := h.o.but hg h.gB
  have s1 := Nat.le_trans h.bw hg.size
  obtain ⟨v2, w3, hrun, hown, hg3, hob⟩ := append_bytes w2 B v X p A m c o1 hrd hl hA hs s1
  obtain ⟨A2, c2, rfl, _, _, _, _⟩ := hown.form
  have hfar : ∀ k, v.ownBlock = some k → B ≤ k ∧ k < w2.heap.size := World.ownsRow.lt o1
  have keep : ∀ g', g' < B → g' < w2.heap.size → w3.heap[g']? = w2.heap[g']? := fun g' hgB hgs => hg3.block g' hgs (by intro e; have := (hfar g' e.symm).1; omega)
  have hB2 := h.gB; have hwB := h.hg
  refine ⟨A2, c2, _, w3, hid hrun, hid ⟨b1.trans ⟨hg3.os, hg3.tape, hg3.output, hg3.size, fun k hk => keep k (by omega) (by have := b1.size; omega)⟩, hr.heap (keep _ h.gB hr.lt), hown, h.hg, h.gB, Nat.le_trans s1 hg3.size, h.k⟩, hid (by rw [List.length_append, hl]), hid ?_, hid ?_⟩
  · exact (hg3.block t ht.lt (by intro e; exact hvt _ e.symm rfl)).trans ht
  · intro e
    rcases hob with e2 | e2
    · rw [e2] at e; exact hvt _ e rfl
    · rw [e2] at e; injection e with e; have := ht.lt; omega
end
end Go.Proofs.YtaejcifpipegnaaDoor
namespace Go.Proofs.YtaejcifpipegnaaDoor
open Go.RowKit
set_option linter.unusedVariables false
set_option linter.unusedSimpArgs false

/-- a list of one's own whose parts are blocks of one's own -/
structure Tr (w : World) (k : Nat) (v : Value) (tb L C : Nat → Nat) (zs : Nat → List UInt8) (w' : World) : Prop where
  below : Below w.heap.size w w'
  own : w'.ownsRow w.heap.size 22 1 v k (cellsOf k (fun r => some ⟨tb r, 0, none⟩) L C)
  row : ∀ r, r < k → Row w' (tb r) (zs r) ∧ v.ownBlock ≠ some (tb r)
theorem cells_congr {n : Nat} {A A' : Nat → Option Addr} {L L' C C' : Nat → Nat} (h : ∀ r, r < n → A r = A' r ∧ L r = L' r ∧ C r = C' r) : cellsOf n A L C = cellsOf n A' L' C' := by
  unfold cellsOf
  refine List.map_congr_left fun r hr => ?_
  obtain ⟨h1, h2, h3⟩ := h r (List.mem_range.1 hr)
  rw [h1, h2, h3]
theorem cells_succ (n : Nat) (A : Nat → Option Addr) (L C : Nat → Nat) : cellsOf (n + 1) A L C = cellsOf n A L C ++ [.slice (A n) (L n) (C n)] := by
  unfold cellsOf
  rw [List.range_succ, List.map_append, List.map_singleton]
section
variable {w w' w2 : World} {k : Nat} {v : Value} {tb L C : Nat → Nat} {zs : Nat → List UInt8}
theorem Tr.on (h : Tr w k v tb L C zs w') (hb : Below w'.heap.size w' w2) : Tr w k v tb L C zs w2 :=
  ⟨h.below.trans (hb.mono h.below.size), rowo_below h.own hb, fun r hr => ⟨(h.row r hr).1.below hb (h.row r hr).1.lt, (h.row r hr).2⟩⟩
theorem Tr.congr {L' C' : Nat → Nat} {zs' : Nat → List UInt8} (h : Tr w k v tb L C zs w') (he : ∀ r, r < k → L r = L' r ∧ C r = C' r ∧ zs r = zs' r) : Tr w k v tb L' C' zs' w' :=
  ⟨h.below, by rw [cells_congr (A' := fun r => some ⟨tb r, 0, none⟩) (L' := L) (C' := C) (fun r hr => ⟨rfl, (he r hr).1.symm, (he r hr).2.1.symm⟩)]; exact h.own, fun r hr => by rw [← (he r hr).2.2]; exact h.row r hr⟩
theorem Tr.lt {g : Nat} (h : Tr w k v tb L C zs w') (hv : v.ownBlock = some g) : g < w'.heap.size := (World.ownsRow.lt h.own g hv).2
set_option maxRecDepth 100000 in
theorem Tr.put (h : Tr w k v tb L C zs w') (hk : k ≤ 1000) (gt l c : Nat) (z : List UInt8) (hz : Row w' gt z) (hne : v.ownBlock ≠ some gt) :
    ∃ v2 w3, Hid ((Builtin.append_ #[23, 23] 23 #[v, .slice (some ⟨w'.heap.size, 0, none⟩) 1 1]).run Tryd.prog (w'.alloc (.cells #[.slice (some ⟨gt, 0, none⟩) l c] 22)) = .ok v2 w3) ∧ Hid (Tr w (k + 1) v2 (nx k tb gt) (nx k L l) (nx k C c) (nx k zs z) w3) := by
  obtain ⟨i0, hi, hz0, hz1, hz2⟩ := info_parts row_info
  have h1 := h.on ((Below.refl w'.heap.size w').alloc (Nat.le_refl _) (.cells #[.slice (some ⟨gt, 0, none⟩) l c] 22))
  have hz1' : Row (w'.alloc (.cells #[.slice (some ⟨gt, 0, none⟩) l c] 22)) gt z := hz.below ((Below.refl w'.heap.size w').alloc (Nat.le_refl _) _) hz.lt
  have hb : (w'.alloc (.cells #[.slice (some ⟨gt, 0, none⟩) l c] 22)).cell? ⟨w'.heap.size, 0, none⟩ = some (.slice (some ⟨gt, 0, none⟩) l c) := by rw [cell_of_row _ _ 0 _ 22 (0, 0) (heap_alloc_new w' _)]; rfl
  have hs : w.heap.size ≤ (w'.alloc (.cells #[.slice (some ⟨gt, 0, none⟩) l c] 22)).heap.size := h1.below.size
  generalize w'.alloc (.cells #[.slice (some ⟨gt, 0, none⟩) l c] 22) = wa at *
  have hnew : ∀ j u, ([Value.slice (some ⟨gt, 0, none⟩) l c] : List Value)[j]? = some u → wa.cell? ((⟨w'.heap.size, 0, none⟩ : Addr).add j) = some u := by
    intro j u hj
    rcases j with _ | j
    · simp only [List.getElem?_cons_zero, Option.some.injEq] at hj
      subst hj
      rw [Addr.add_lit]; exact hb
    · simp at hj
  obtain ⟨v', w3, hrun, hown, hgr, _, hob⟩ := run_append_own_at (P := Tryd.prog) wa w.heap.size 23 23 22 i0 (.slice none 0 0) 1 24 Tryd.underlying23 hi hz0 hz1 hz2 rfl (by omega) v k _ h1.own ⟨w'.heap.size, 0, none⟩ 1 1 _ rfl hnew (by simp [Value.oneCell']) (by simp only [maxLen]; omega) (by omega) hs
  have hlo : ∀ j, v.ownBlock = some j → w.heap.size ≤ j ∧ j < wa.heap.size := World.ownsRow.lt h1.own
  have hkeep : ∀ j, j < wa.heap.size → v.ownBlock ≠ some j → w3.heap[j]? = wa.heap[j]? := fun j hj hv => hgr.block j hj (by intro e; exact hv e.symm)
  have hnb : ∀ j, j < wa.heap.size → v.ownBlock ≠ some j → v'.ownBlock ≠ some j := by
    intro j hj hv e
    rcases hob with e2 | e2
    · rw [e2] at e; exact hv e
    · rw [e2] at e; injection e with e; omega
  refine ⟨v', w3, hid hrun, hid ⟨h1.below.trans ⟨hgr.os, hgr.tape, hgr.output, hgr.size, fun j hj => hkeep j (by have := h1.below.size; omega) (fun e => by have := (hlo j e).1; omega)⟩, ?_, fun r hr => ?_⟩⟩
  · rw [cells_succ]
    have e1 : cellsOf k (fun r => some (⟨nx k tb gt r, 0, none⟩ : Addr)) (nx k L l) (nx k C c) = cellsOf k (fun r => some ⟨tb r, 0, none⟩) L C := cells_congr fun r hr => by simp [nx, hr]
    rw [e1]
    simpa [nx] using hown
  · rcases Nat.lt_or_ge r k with hlt | hge
    · obtain ⟨h2, h3⟩ := h1.row r hlt
      simp only [nx, hlt, if_true]
      exact ⟨(hkeep _ h2.lt h3).trans h2, hnb _ h2.lt h3⟩
    · obtain rfl : r = k := by omega
      simp only [nx, Nat.lt_irrefl, if_false]
      exact ⟨(hkeep _ hz1'.lt hne).trans hz1', hnb _ hz1'.lt hne⟩
end
theorem make_rows (w : World) (n : Nat) (hn : n ≤ 1000) (tb L C : Nat → Nat) (zs : Nat → List UInt8) : ∃ w', Hid ((Instr.makeSlice 23 (.int .i64 0) (.int .i64 ((n : Int) + 1))).run Tryd.prog w = .ok (.slice (some ⟨w.heap.size, 0, none⟩) 0 (n + 1)) w') ∧ Hid (Tr w 0 (.slice (some ⟨w.heap.size, 0, none⟩) 0 (n + 1)) tb L C zs w') := by
  obtain ⟨i0, hi, hz0, hz1, hz2⟩ := info_parts row_info
  obtain ⟨w', hrun, hown, hgr⟩ := run_make_own (P := Tryd.prog) w w.heap.size 23 22 i0 (.slice none 0 0) 1 Tryd.underlying23 hi hz0 hz1 .i64 .i64 (n + 1) (by rw [hz2]; omega) (by simp only [maxLen]; omega) (Nat.le_refl _)
  refine ⟨w', hid hrun, hid ⟨below_grown (Below.refl _ _) (hgr.but (some w.heap.size)) (Nat.le_refl _) (Nat.le_refl _), hown, fun r hr => absurd hr (Nat.not_lt_zero _)⟩⟩
theorem slice_head48 (A : Option Addr) (n c k : Nat) (hk : k ≤ c) (w : World) : (Instr.slice 23 (.slice A n c) none (some (.int .i64 (k : Int))) none).run Tryd.prog w = .ok (.slice (past A 0 c) k c) w := by
  have h5 : Tryd.prog.elem 23 = 22 := by kernel_rfl
  rw [run_slice_h (P := Tryd.prog) w 23 A n c (by rw [h5]; exact Tryd.underlying23) .i64 (k : Int) (by omega) (by omega)]
  have hs : (sizeOf 22).run Tryd.prog w = .ok 1 w := by kernel_rfl
  rw [h5, hs]
  simp only [Result.andThen, sliced, Int.toNat_natCast, past, Nat.zero_mul, Nat.sub_zero]
/-- a twin of these parts, one of one byte behind them -/
def Twn (w : World) (g n cap : Nat) (tb : Nat → Nat) (L : Nat → Nat) (xs : Nat → List UInt8) : Prop :=
  g < w.heap.size ∧ n + 1 ≤ cap ∧ cap ≤ 9223372036854775807 ∧ (∀ r, r < n → w.cell? ⟨g, r, none⟩ = some (.slice (some ⟨tb r, 0, none⟩) (L r) (L r + 1)) ∧ Row w (tb r) (xs r ++ [77])) ∧ w.cell? ⟨g, n, none⟩ = some (.slice (some ⟨tb n, 0, none⟩) 1 1) ∧ Row w (tb n) [77]
theorem Twn.on {w w2 : World} {g n cap : Nat} {tb L : Nat → Nat} {xs : Nat → List UInt8} (h : Twn w g n cap tb L xs) (hb : Below w.heap.size w w2) : Twn w2 g n cap tb L xs :=
  ⟨Nat.lt_of_lt_of_le h.1 hb.size, h.2.1, h.2.2.1, fun r hr => ⟨(hb.cell (p := ⟨g, r, none⟩) h.1).trans (h.2.2.2.1 r hr).1, (h.2.2.2.1 r hr).2.below hb (h.2.2.2.1 r hr).2.lt⟩, (hb.cell (p := ⟨g, n, none⟩) h.1).trans h.2.2.2.2.1, h.2.2.2.2.2.below hb h.2.2.2.2.2.lt⟩
theorem Twn.rws {w : World} {g n cap : Nat} {tb L : Nat → Nat} {xs : Nat → List UInt8} (h : Twn w g n cap tb L xs) (hl : ∀ r, r < n → (xs r).length = L r ∧ L r ≤ 1048576) : Rws w (some ⟨g, 0, none⟩) n (fun r => some ⟨tb r, 0, none⟩) L (fun r => L r + 1) xs := by
  intro r hr
  obtain ⟨h1, h2⟩ := h.2.2.2.1 r hr
  obtain ⟨e1, e2⟩ := hl r hr
  refine ⟨⟨g, 0, rfl, h.1, by rw [Nat.zero_add]; exact h1⟩, e1, ?_, Nat.le_succ _, (show L r + 1 ≤ 140737488351232 by omega), fun e => by cases e⟩
  have := h2.rd0.take (xs r).length
  rwa [List.take_left] at this
theorem Tr.twn {w w' : World} {n : Nat} {v : Value} {tb L C : Nat → Nat} {xs zs : Nat → List UInt8} (h : Tr w (n + 1) v tb (nx n L 1) (nx n (fun r => L r + 1) 1) (nx n (fun r => xs r ++ [77]) [77]) w') : ∃ g cap, v = .slice (some ⟨g, 0, none⟩) (n + 1) cap ∧ n + 1 ≤ cap ∧ Twn w' g n cap tb L xs := by
  have ho := h.own
  rcases ho.2 with ⟨_, h0⟩ | ⟨g, cap, cur, rfl, hbg, hh, hnc, hm, hs, ht⟩
  · omega
  · refine ⟨g, cap, rfl, hnc, lt_of_block hh, hnc, hm, fun r hr => ?_, ?_, ?_⟩
    · have hc := World.ownsRow.cellAt ho r (by omega)
      rw [cellsOf_at _ _ _ (show r < n + 1 by omega)] at hc
      have hrow := (h.row r (by omega)).1
      simp only [nx, hr, if_true] at hc hrow
      exact ⟨hc, hrow⟩
    · have hc := World.ownsRow.cellAt ho n (by omega)
      rw [cellsOf_at _ _ _ (Nat.lt_succ_self n)] at hc
      simp only [nx, Nat.lt_irrefl, if_false] at hc
      exact hc
    · have hrow := (h.row n (by omega)).1
      simp only [nx, Nat.lt_irrefl, if_false] at hrow
      exact hrow
theorem step_append_rw {ops : Array Oper} {rest : List Oper} {o : Oper} {a : Act} {w : World} {Q : Exit → Act → World → Prop} (hgd : o.guard = none) (s x : Operand)
    (ho : o.op = .call { callee := .builtin .append, args := #[s, x], argTypes := #[23, 23] }) (hty : o.type = 23) (vs vx : Value) (hs : a.eval s = vs) (hx : a.eval x = vx) (v' : Value) (w' : World)
    (hrun : (Builtin.append_ #[23, 23] 23 #[vs, vx]).run Tryd.prog w = .ok v' w') (h : wpList Tryd.prog ops Q rest (a.put o.dst v') w') : wpList Tryd.prog ops Q (o :: rest) a w := by
  refine wpList_plain hgd fun K hK => ?_
  unfold Oper.wp
  simp [execOp, ho, hty, resolve, invoke, builtin, hs, hx, hrun, Result.andThen]
  exact hK _ _ h
set_option maxRecDepth 100000 in
set_option maxHeartbeats 2000000 in
theorem twinrec_any (a0 : Option Addr) (n0 c0 : Nat) (A : Nat → Option Addr) (L C : Nat → Nat) (xs : Nat → List UInt8) (w : World) (hR : Rws w a0 n0 A L C xs) (hn : n0 ≤ 200) (hL : ∀ r, r < n0 → L r ≤ 1048576) :
    Calls Tryd.prog 10 #[.slice a0 n0 c0] w fun e w' => ∃ g cap tb, e = .returned (.slice (some ⟨g, 0, none⟩) n0 cap) ∧ Hid (Twn w' g n0 cap tb L xs) ∧ Hid (Below w.heap.size w w') := by
  have HR := hid hR
  have HL := hid hL
  have HN := hid hn
  clear hR hL
  obtain ⟨wm, hmk, HT0⟩ := make_rows w n0 (by omega) (fun _ => 0) L (fun r => L r + 1) (fun r => xs r ++ [77])
  have hw1 : IntKind.i64.wrap ((n0 : Int) + 1) = ((n0 : Int) + 1) := by rw [IntKind.wrap_i64]; omega
  have hmk' := hmk.out
  clear hmk
  go_enter Tryd.func10, Tryd.ntmps10
  go_wp2
  clear hmk' hw1
  go_loopw [3, 4] (fun t i wr => ∃ (k : Nat) (tb : Nat → Nat), k ≤ n0 ∧ i = .int .i64 k ∧ Hid (Tr w k t tb L (fun r => L r + 1) (fun r => xs r ++ [77]) wr)) (fun _ i _ => n0 - (intOf i).toNat)
  case atStart => exact ⟨0, _, Nat.zero_le _, rfl, HT0⟩
  case round =>
    clear HT0
    obtain ⟨k, tb, hk, rfl, HT⟩ := hrel
    by_cases hlt : k < n0
    · obtain ⟨go, o, rfl, hcell⟩ := HR.out.at HT.out.below k hlt
      obtain ⟨_, hl1, hrd1, hlc, hcb, hac⟩ := HR.out k hlt
      have htw := twin_any (A k) (C k) (xs k) wr (hrd1.below HT.out.below (Nat.le_refl _)) (by rw [hl1]; have := HL.out k hlt; omega)
      rw [hl1] at htw
      have HTW := hid htw
      have HLT := hid hlt
      clear htw hl1 hrd1 hlc hcb hac
      go_wp2_with fail
      refine HTW.out.mono ?_
      rintro e w3 ⟨rfl, hrow, hb3⟩
      clear HTW
      obtain ⟨v2, w4, hrun, HT4⟩ := (HT.out.on hb3).put (by omega) wr.heap.size (L k) (L k + 1) (xs k ++ [77]) hrow (fun e => Nat.lt_irrefl _ (HT.out.lt e))
      have HT5 := hid (HT4.out.congr (L' := L) (C' := fun r => L r + 1) (zs' := fun r => xs r ++ [77]) (fun r hr => by
        rcases Nat.lt_or_ge r k with h | h
        · simp [nx, h]
        · obtain rfl : r = k := by omega
          simp [nx]))
      clear HT4 HT hrow hb3 hcell
      go_wp2_with (at_builtin; refine step_append_rw rfl (.tmp 15) (.tmp 21) rfl rfl _ _ rfl rfl v2 w4 hrun.out ?_)
      go_roundw
      case rel => exact ⟨k + 1, _, HLT.out, by go_num, HT5⟩
      case measure => have := HLT.out; simp [intOf]; omega
    · obtain rfl : k = n0 := by omega
      have hrow : Row (wr.alloc (.cells #[.int .u8 77] 5)) wr.heap.size [77] := heap_alloc_new wr _
      obtain ⟨v2, w4, hrun, HT4⟩ := (HT.out.on ((Below.refl wr.heap.size wr).alloc (Nat.le_refl _) (.cells #[.int .u8 77] 5))).put (by omega) wr.heap.size 1 1 [77] hrow (fun e => Nat.lt_irrefl _ (HT.out.lt e))
      obtain ⟨g, cap, rfl, hnc, htw⟩ := HT4.out.twn (C := L) (zs := xs)
      have HTW := hid htw
      have HB := hid HT4.out.below
      have sz : (wr.alloc (.cells #[.int .u8 77] 5)).heap.size = wr.heap.size + 1 := Array.size_push _
      rw [sz] at hrun
      have hsl := slice_head48 (some ⟨g, 0, none⟩) (k + 1) cap k (by omega)
      have hpa : past (some ⟨g, 0, none⟩) 0 cap = some ⟨g, 0, none⟩ := by simp [past, Addr.add, Option.map]
      simp only [hpa] at hsl
      clear HT4 HT hrow htw hnc sz hpa
      go_wp2_with (at_builtin; refine step_append_rw rfl (.tmp 23) (.tmp 25) rfl rfl _ _ rfl rfl _ w4 hrun.out ?_)
      go_ret
      exact ⟨g, cap, _, rfl, HTW, HB⟩
end Go.Proofs.YtaejcifpipegnaaDoor
namespace Go.Proofs.YtaejcifpipegnaaDoor
open Go.RowKit
set_option linter.unusedVariables false
set_option linter.unusedSimpArgs false

set_option maxRecDepth 100000 in
set_option maxHeartbeats 2000000 in
theorem leftrec_any (g cap n0 : Nat) (tb L : Nat → Nat) (xs : Nat → List UInt8) (a0 : Option Addr) (c0 : Nat) (A : Nat → Option Addr) (C : Nat → Nat) (w : World) (hT : Twn w g n0 cap tb L xs) (hR : Rws w a0 n0 A L C xs) (hn : n0 ≤ 200) (hL : ∀ r, r < n0 → L r ≤ 1048576) :
    Calls Tryd.prog 14 #[.slice (some ⟨g, 0, none⟩) n0 cap, .slice a0 n0 c0] w fun e w' => e = .returned (.bool true) ∧ ∃ k, w' = w.drewN k := by
  have HT := hid hT
  have HR := hid hR
  have HL := hid hL
  have hci : ¬ (cap : Int) ≤ (n0 : Int) := by have := hT.2.1; omega
  have hpa : past (some ⟨g, 0, none⟩) 0 cap = some ⟨g, 0, none⟩ := by simp [past, Addr.add, Option.map]
  have hsl : Hid (∀ W, (Instr.slice 23 (.slice (some ⟨g, 0, none⟩) n0 cap) none (some (.int .i64 ((n0 : Int) + 1))) none).run Tryd.prog W = .ok (.slice (some ⟨g, 0, none⟩) (n0 + 1) cap) W) := hid fun W => by
    have := slice_head48 (some ⟨g, 0, none⟩) n0 cap (n0 + 1) hT.2.1 W
    rw [hpa] at this
    rw [← this]
    rfl
  have hcb : Hid (cap ≤ 9223372036854775807) := hid hT.2.2.1
  clear hT hR hL hpa
  go_enter Tryd.func14, Tryd.ntmps14
  go_wp2
  clear hci
  go_loopw [5] (fun i wr => ∃ k n : Nat, k ≤ n0 ∧ i = .int .i64 k ∧ Hid (wr = w.drewN n)) (fun i _ => n0 - (intOf i).toNat)
  case atStart => exact ⟨0, 0, Nat.zero_le _, rfl, hid rfl⟩
  case round =>
    obtain ⟨k, n, hk, rfl, HW⟩ := hrel
    have HTr := hid (p := Twn wr g n0 cap tb L xs) (by rw [HW.out]; exact HT.out)
    have HRr := hid (p := Rws wr a0 n0 A L C xs) (by rw [HW.out]; exact HR.out)
    by_cases hlt : k < n0
    · have HLT := hid hlt
      obtain ⟨⟨go, o, rfl, hgo, hcell⟩, hl1, hrd1, hlc, hcb1, hac⟩ := HRr.out k hlt
      obtain ⟨tc, trow⟩ := HTr.out.2.2.2.1 k hlt
      have HLE : Hid (∀ m, Calls Tryd.prog 13 #[.slice (some ⟨tb k, 0, none⟩) (L k) (L k + 1), .slice (A k) (L k) (C k)] (wr.drewN m) fun e w' => e = .returned (.bool true) ∧ ∃ j, w' = (wr.drewN m).drewN j) := hid fun m => by
        have := left_any (A k) (tb k) (C k) (xs k) (wr.drewN m) trow hrd1 (by rw [hl1]; have := HL.out k hlt; omega)
        rwa [hl1] at this
      clear hl1 hrd1 hlc hcb1 hac trow hgo
      go_wp2
      go_quiet ((go_at_call 13; exact Calls.quiet_of (HLE.out _)))
      go_wp2
      go_roundw
      case rel => exact ⟨k + 1, n + nq, HLT.out, by go_num, by rw [HW.out]; exact hid (World.drewN_drewN ..)⟩
      case measure => have := HLT.out; simp [intOf]; omega
    · obtain rfl : k = n0 := by omega
      obtain ⟨hgs, _, _, _, tc, trow⟩ := HTr.out
      have t77 : wr.cell? ⟨tb k, 0, none⟩ = some (.int .u8 77) := trow.cell 0 (by decide)
      have hw1 : IntKind.i64.wrap ((k : Int) + 1) = ((k : Int) + 1) := by rw [IntKind.wrap_i64]; omega
      have hsl' := hsl.out
      have i1 : (0 : Int) ≤ (k : Int) := by omega
      have i2 : (k : Int) < (k : Int) + 1 := by omega
      clear trow
      go_wp2
      go_ret
      exact ⟨rfl, n, HW.out⟩
end Go.Proofs.YtaejcifpipegnaaDoor
