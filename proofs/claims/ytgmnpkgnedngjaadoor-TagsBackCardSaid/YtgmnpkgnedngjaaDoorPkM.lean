/-
  Words for tags: strings as bytes, the table of digits, bytes compared, arrays compared. Conditions: none.
  When a text is a tag's, letter by letter; a letter of a string. Conditions: none.
  tags.counted and the document's digit, walked: what a letter counts. Condition: the library's table holds what its text lays.
  bytes.Compare, tags.Cmp and the document's, walked: how two tags stand. Conditions: none.
-/
import Derived.Test.YtgmnpkgnedngjaaDoorPkB
import Derived.Test.YtgmnpkgnedngjaaDoorPkL
import Derived.Lib.BytesEntry
import Derived.Laws.RangeString
import Derived.Laws.Concat
import Derived.Laws.IdiomStrings
import Derived.WalkLawsBesides
import Derived.WalkSpells
import Derived.BigQuiet
namespace Go.Proofs.YtgmnpkgnedngjaaDoor
open Go.RowKit
set_option linter.unusedVariables false
set_option linter.unusedSimpArgs false

/-- a byte as a number -/
def iv (x : UInt8) : Int := ((x.toNat : Nat) : Int)
abbrev bv (x : UInt8) : Value := .int .u8 (iv x)
theorem iv_lt (x : UInt8) : iv x < 256 := by have := x.toNat_lt; unfold iv; omega
theorem iv_ge (x : UInt8) : 0 ≤ iv x := by unfold iv; omega
theorem iv_u (x : UInt8) : IntKind.u8.wrap (iv x) = iv x := by have := iv_lt x; have := iv_ge x; rw [IntKind.wrap_u8]; omega
theorem iv_of (n : Nat) (h : n < 256) : iv (UInt8.ofNat n) = (n : Int) := by unfold iv; rw [UInt8.toNat_ofNat_of_lt' h]
theorem iv_inj {a b : UInt8} (h : iv a = iv b) : a = b := by unfold iv at h; exact UInt8.toNat.inj (by omega)
/-- byte k of a list -/
def gb (l : List UInt8) (k : Nat) : UInt8 := l.getD k 0
theorem gb_lt {l : List UInt8} {k : Nat} (h : k < l.length) : gb l k = l[k] := by simp [gb, h]
theorem Bt.at_ {w : World} {g : Nat} {t : TypeId} {l : List UInt8} (h : Bt w g t l) (k : Nat) (hk : k < l.length) : w.cell? ⟨g, k, none⟩ = some (bv (gb l k)) := by
  rw [h.cell k hk, gb_lt hk]; rfl
theorem bsz (b : List UInt8) : (bvs b).toArray.size = b.length := by simp [bvs]
theorem ball (b : List UInt8) : (bvs b).toArray.all (·.oneCell') = true := all_oneCell_toArray (bvs_one b)
/-- a part of a list put elsewhere -/
def mid (l : List UInt8) (o : Nat) (m : List UInt8) : List UInt8 := l.take o ++ m ++ l.drop (o + m.length)
theorem mid_length (l : List UInt8) (o : Nat) (m : List UInt8) (h : o + m.length ≤ l.length) : (mid l o m).length = l.length := by simp [mid]; omega
theorem gb_mid (l : List UInt8) (o : Nat) (m : List UInt8) (h : o + m.length ≤ l.length) (k : Nat) : gb (mid l o m) k = if o ≤ k ∧ k < o + m.length then gb m (k - o) else gb l k := by
  unfold mid gb
  simp only [List.getD_eq_getElem?_getD]
  rcases Nat.lt_or_ge k o with h1 | h1
  · rw [if_neg (by omega), List.append_assoc, List.getElem?_append_left (by simp; omega), List.getElem?_take_of_lt h1]
  · rcases Nat.lt_or_ge k (o + m.length) with h2 | h2
    · rw [if_pos ⟨h1, h2⟩, List.getElem?_append_left (by simp; omega), List.getElem?_append_right (by simp; omega)]
      simp only [List.length_take]
      congr 2; omega
    · rw [if_neg (by omega), List.getElem?_append_right (by simp; omega)]
      simp only [List.length_append, List.length_take, List.getElem?_drop]
      congr 2; omega
theorem Bt.range {w : World} {g : Nat} {t : TypeId} {l : List UInt8} (h : Bt w g t l) (o n : Nat) (hn : o + n ≤ l.length) : w.rangeAt g o (bvs ((l.drop o).take n)) := by
  intro j v hv
  have hj : j < ((l.drop o).take n).length := by
    rcases Nat.lt_or_ge j ((l.drop o).take n).length with h | h
    · exact h
    · rw [List.getElem?_eq_none (by rw [bvs_length]; exact h)] at hv; cases hv
  have hj2 : j < n := by simp at hj; omega
  rw [h.cell (o + j) (by omega)]
  simp [bvs, hj2, show o + j < l.length by omega] at hv ⊢
  exact hv
theorem Bt.there {w : World} {g : Nat} {t : TypeId} {l : List UInt8} (h : Bt w g t l) (o n : Nat) (hn : o + n ≤ l.length) : w.there g o n := fun j hj => ⟨by rw [h.cell (o + j) (by omega)]; rfl, h.frozen _⟩
theorem mid_all (l m : List UInt8) (h : m.length = l.length) : mid l 0 m = m := by
  unfold mid
  rw [List.take_zero, List.nil_append, Nat.zero_add, h, List.drop_length, List.append_nil]
/-- a part of a block, loaded -/
theorem ld_mid {P : Program} {w : World} {g : Nat} {t : TypeId} {l : List UInt8} (h : Bt w g t l) (ty : TypeId) (d : TypeDesc) (hu : P.underlying ty = some d) (hd : d.isRow = true) (o n : Nat) (hn : o + n ≤ l.length) (hi : (P.info? ty).map (·.size) = some n) :
    (Instr.loadAt ty (.pointer (some ⟨g, o, none⟩))).run P w = .ok (.agg (bvs ((l.drop o).take n)).toArray) w :=
  run_loadAt_mid w g o ty _ d (h.range o n hn) hu hd (by rw [hi, bvs_length]; simp; omega)
/-- a part of a block, stored -/
theorem st_mid {P : Program} {w : World} {g : Nat} {t : TypeId} {l : List UInt8} (h : Bt w g t l) (ty : TypeId) (o : Nat) (m : List UInt8) (n : Nat) (hm : m.length = n) (hn : o + n ≤ l.length) (hi : (P.info? ty).map (·.size) = some n) :
    (Instr.storeAt ty (.pointer (some ⟨g, o, none⟩)) (.agg (bvs m).toArray)).run P w = .ok () (w.setRow g (bvs (mid l o m)).toArray) := by
  subst hm
  have h1 := run_storeCells_at P g o t (bvs m) 0 (bvs l).toArray w h (by rw [bsz, bvs_length]; omega) (bvs_one m)
  have e : ((bvs l).toArray.toList.take (o + 0) ++ bvs m ++ (bvs l).toArray.toList.drop (o + 0 + (bvs m).length)).toArray = (bvs (mid l o m)).toArray := by
    rw [mid, bvs_append, bvs_append, bvs_take, bvs_drop, bvs_length]; rfl
  rw [e] at h1
  cases hq : P.info? ty with
  | none => simp [hq] at hi
  | some i =>
    have hs : (bvs m).toArray.size = i.size := by rw [bsz]; simp [hq] at hi; omega
    have hs2 : (bvs m).length = i.size := by rw [bvs_length]; simp [hq] at hi; omega
    simp only [Instr.storeAt, Instr.sureAddr, Sem.run_bind, Sem.run_pure, Result.andThen_ok]
    simp [storeVar, sizeOf, typeInfo, hq, Value.cells, hs2, h1]
theorem st_all {P : Program} {w : World} {g : Nat} {t : TypeId} {l : List UInt8} (h : Bt w g t l) (ty : TypeId) (m : List UInt8) (n : Nat) (hm : m.length = n) (hn : l.length = n) (hi : (P.info? ty).map (·.size) = some n) :
    (Instr.storeAt ty (.pointer (some ⟨g, 0, none⟩)) (.agg (bvs m).toArray)).run P w = .ok () (w.setRow g (bvs m).toArray) := by
  have := st_mid h ty 0 m n hm (by omega) hi
  rwa [mid_all l m (by omega)] at this
/-- letters as a string -/
abbrev sv (l : List UInt8) : Value := .string ⟨l.toArray⟩
theorem str_eq (a b : List UInt8) : ((⟨a.toArray⟩ : ByteArray).toList == (⟨b.toArray⟩ : ByteArray).toList) = decide (a = b) := by
  rw [ByteArray.toList_mk, ByteArray.toList_mk, Bool.eq_iff_iff]; simp
theorem str_eta (s : ByteArray) : s = ⟨s.data.toList.toArray⟩ := by cases s; simp

/- the table of digits -/
def dl : List UInt8 := [48, 49, 50, 51, 52, 53, 54, 55, 56, 57, 97, 98, 99, 100, 101, 102]
theorem dl_length : dl.length = 16 := rfl
theorem dl_at (j : Nat) (h : j < 16) : gb dl j = hx j := by
  have : ∀ j, j < 16 → gb dl j = hx j := by decide
  exact this j h
/-- the library's table holds the digits -/
def Dg (w : World) : Prop := ∀ j, j < 16 → w.cell? ⟨0, j, none⟩ = some (bv (hx j))
theorem Dg.lt {w : World} (h : Dg w) : 0 < w.heap.size := World.block_lt_of_cell? w _ (h 0 (by decide))
theorem Dg.on {w w' : World} (h : Dg w) (hb : Below w.heap.size w w') : Dg w' := fun j hj => (hb.cell (p := ⟨0, j, none⟩) h.lt).trans (h j hj)
theorem dg_range {w : World} (h : Dg w) : w.rangeAt 0 0 (bvs dl) := by
  intro j v hv
  have hj : j < 16 := by
    rcases Nat.lt_or_ge j 16 with h | h
    · exact h
    · rw [List.getElem?_eq_none (by rw [bvs_length, dl_length]; exact h)] at hv; cases hv
  rw [Nat.zero_add, h j hj, ← dl_at j hj, ← hv, gb_lt (by rw [dl_length]; exact hj)]
  have hl : j < dl.length := hj
  simp [bvs, hl]; rfl
theorem ld_dg {w : World} (h : Dg w) : (Instr.loadAt 25 (.pointer (some ⟨0, 0, none⟩))).run Tryd.prog w = .ok (.agg (bvs dl).toArray) w :=
  run_loadAt_mid w 0 0 25 (bvs dl) _ (dg_range h) Tryd.underlying25 rfl (by kernel_rfl)
/-- a tag in a box, loaded -/
theorem ld_tag {w : World} {g : Nat} {l : List UInt8} (h : Bt w g 26 l) (hl : l.length = 16) : (Instr.loadAt 26 (.pointer (some ⟨g, 0, none⟩))).run Tryd.prog w = .ok (.agg (bvs l).toArray) w :=
  ld_all h 26 _ Tryd.underlying26 rfl 16 hl (by kernel_rfl)
theorem lit16 : (bvs (List.replicate 16 0)).toArray = #[.int .u8 0, .int .u8 0, .int .u8 0, .int .u8 0, .int .u8 0, .int .u8 0, .int .u8 0, .int .u8 0, .int .u8 0, .int .u8 0, .int .u8 0, .int .u8 0, .int .u8 0, .int .u8 0, .int .u8 0, .int .u8 0] := rfl
theorem st_tag {w : World} {g : Nat} {l m : List UInt8} (h : Bt w g 26 l) (hl : l.length = 16) (hm : m.length = 16) :
    (Instr.storeAt 26 (.pointer (some ⟨g, 0, none⟩)) (.agg (bvs m).toArray)).run Tryd.prog w = .ok () (w.setRow g (bvs m).toArray) := st_all h 26 m 16 hm hl (by kernel_rfl)

/- bytes compared -/
theorem cmp_bytes : ∀ (a b : List UInt8), a.length = b.length → Lib.compareBytes a b = cmpT a b
  | [], [], _ => rfl
  | [], _ :: _, h => by simp at h
  | _ :: _, [], h => by simp at h
  | x :: a, y :: b, h => by
    have ih := cmp_bytes a b (by simpa using h)
    unfold Lib.compareBytes
    rw [ih]
    unfold cmpT
    simp only [Op.bytesLess]
    by_cases h1 : x < y
    · simp [h1]
    · by_cases h2 : y < x
      · have h3 : ¬ x = y := fun e => by subst e; exact UInt8.lt_irrefl _ h2
        simp [h1, h2, h3]
      · obtain rfl : x = y := UInt8.le_antisymm (UInt8.not_lt.1 h2) (UInt8.not_lt.1 h1)
        simp
theorem run_bytes {P : Program} (w : World) (A : Option Addr) (n c : Nat) (bs : List UInt8) (hr : Rd w A bs) (hn : bs.length = n) : (Extern.Bytes.bytesOf (.slice A n c)).run P w = .ok ⟨bs.toArray⟩ w := by
  subst hn
  rcases A with _ | ad
  · have hb : bs = [] := by
      rcases Nat.eq_zero_or_pos bs.length with h | h
      · exact List.eq_nil_of_length_eq_zero h
      · obtain ⟨_, _, e, _⟩ := hr h; cases e
    subst hb
    rfl
  · have e : Lib.bytesOf (bs.map iv) = bs := by
      unfold Lib.bytesOf
      rw [List.map_map]
      have : (fun n : Int => n.toNat.toUInt8) ∘ iv = id := by
        funext x; simp [iv]
      rw [this, List.map_id]
    have hl := Lib.run_loadBytesX (P := P) w (bs.map iv) ad .empty (fun j x hj => by
      have hjl : j < bs.length := by have := (List.getElem?_eq_some_iff.1 hj).1; simpa using this
      obtain ⟨g, o, e2, _, hc⟩ := hr (by omega)
      injection e2 with e2
      subst e2
      rw [add_plain, hc j hjl]
      simp [hjl] at hj
      rw [← hj]; rfl)
    rw [List.length_map, e] at hl
    simpa [Extern.Bytes.bytesOf] using hl
theorem run_compare {P : Program} (w : World) (A B : Option Addr) (n c m d : Nat) (a b : List UInt8) (hra : Rd w A a) (hrb : Rd w B b) (hn : a.length = n) (hm : b.length = m) :
    (Extern.BytealgCompare.compare #[.slice A n c, .slice B m d]).run P w = .ok (.int .i64 (Lib.compareBytes a b)) w := by
  change Sem.run P (do pure (goInt (Extern.BytealgCompare.cmp (← Extern.Bytes.bytesOf (.slice A n c)) (← Extern.Bytes.bytesOf (.slice B m d))))) w = _
  simp only [Sem.run_bind, Sem.run_pure, run_bytes w A n c a hra hn, run_bytes w B m d b hrb hm, Result.andThen]
  rw [Lib.cmp_eq]
  rfl

/- arrays compared -/
/-- a step of the comparison -/
def qStep (a b : List UInt8) (i : Nat) (_s : Option Bool × Unit) : Sem (ForInStep (Option Bool × Unit)) := do
  let x ← Go.part 5 (bvs a).toArray (i * 1)
  let y ← Go.part 5 (bvs b).toArray (i * 1)
  let r ← Op.equalIn 9999 5 x y
  if (!r) = true then pure (ForInStep.done (some false, ())) else pure (ForInStep.yield (none, ()))
theorem q_part5 (a : List UInt8) (i : Nat) (h : i < a.length) (w : World) : (Go.part 5 (bvs a).toArray (i * 1)).run Tryd.prog w = .ok (.int .u8 ((a[i].toNat : Nat) : Int)) w := by
  have a5 := Tryd.isAgg5
  have e : (bvs a).toArray[i]? = some (.int .u8 ((a[i].toNat : Nat) : Int)) := by simp [bvs, h]
  unfold Go.part
  rw [Nat.mul_one]
  go_simp
theorem run_qStep (a b : List UInt8) (i : Nat) (ha : i < a.length) (hb : i < b.length) (s : Option Bool × Unit) (w : World) :
    (qStep a b i s).run Tryd.prog w = .ok (if a[i] = b[i] then ForInStep.yield (none, ()) else ForInStep.done (some false, ())) w := by
  have u5 := Tryd.underlying5
  unfold qStep
  rw [Sem.run_bind, q_part5 a i ha w, Result.andThen_ok, Sem.run_bind, q_part5 b i hb w, Result.andThen_ok, Sem.run_bind]
  have e : (Op.equalIn 9999 5 (.int .u8 ((a[i].toNat : Nat) : Int)) (.int .u8 ((b[i].toNat : Nat) : Int))).run Tryd.prog w = .ok (decide (a[i] = b[i])) w := by
    rw [show (9999 : Nat) = 9998 + 1 from rfl, Op.equalIn]
    simp only [Sem.run_bind, run_underlying Tryd.underlying5, Result.andThen_ok]
    go_simp
    by_cases h : a[i] = b[i]
    · simp [h]
    · have : a[i].toNat ≠ b[i].toNat := fun e => h (UInt8.toNat.inj e)
      simp [h]
      omega
  rw [e, Result.andThen_ok]
  by_cases h : a[i] = b[i] <;> simp [h]
theorem run_qLoop (a b : List UInt8) (w : World) : ∀ (n s : Nat), s + n = a.length → s + n = b.length →
    (forIn (List.range' s n) ((none, ()) : Option Bool × Unit) (qStep a b)).run Tryd.prog w = .ok (if a.drop s = b.drop s then (none, ()) else (some false, ())) w
  | 0, s, ha, hb => by
    rw [List.drop_eq_nil_of_le (by omega), List.drop_eq_nil_of_le (by omega), if_pos rfl]
    simp
  | n + 1, s, ha, hb => by
    have h1 : s < a.length := by omega
    have h2 : s < b.length := by omega
    rw [List.range'_succ, List.forIn_cons, Sem.run_bind, run_qStep a b s h1 h2, Result.andThen_ok]
    have ea : a.drop s = a[s] :: a.drop (s + 1) := List.drop_eq_getElem_cons h1
    have eb : b.drop s = b[s] :: b.drop (s + 1) := List.drop_eq_getElem_cons h2
    rw [ea, eb]
    by_cases h : a[s] = b[s]
    · rw [if_pos h]
      simp only []
      rw [run_qLoop a b w n (s + 1) (by omega) (by omega), h]
      by_cases hh : a.drop (s + 1) = b.drop (s + 1)
      · rw [if_pos hh, if_pos (by rw [hh])]
      · rw [if_neg hh, if_neg (by intro e; injection e with e1 e2; exact hh e2)]
    · rw [if_neg h]
      have hn : ¬ (a[s] :: a.drop (s + 1) = b[s] :: b.drop (s + 1)) := by intro e; injection e with e1 e2; exact h e1
      rw [if_neg hn]
      simp
theorem eq_arr (t n : Nat) (hu : Tryd.prog.underlying t = some (.array n 5)) (a b : List UInt8) (ha : a.length = n) (hb : b.length = n) (w : World) : (Op.equalIn 10000 t (.agg (bvs a).toArray) (.agg (bvs b).toArray)).run Tryd.prog w = .ok (decide (a = b)) w := by
  have hs : (sizeOf 5).run Tryd.prog w = .ok 1 w := by kernel_rfl
  rw [show (10000 : Nat) = 9999 + 1 from rfl, Op.equalIn]
  simp only [Sem.run_bind, run_underlying hu, Result.andThen_ok]
  simp only [Std.Legacy.Range.forIn_eq_forIn_range', Std.Legacy.Range.size, Nat.sub_zero, Nat.add_sub_cancel, Nat.div_one]
  rw [hs, Result.andThen_ok]
  have hl := run_qLoop a b w n 0 (by omega) (by omega)
  rw [List.drop_zero, List.drop_zero] at hl
  refine (congrArg (fun r => Result.andThen r _) hl).trans ?_
  by_cases h : a = b <;> simp [h, Result.andThen]
theorem eq_tag (a b : List UInt8) (ha : a.length = 16) (hb : b.length = 16) (w : World) : (Op.equalIn 10000 26 (.agg (bvs a).toArray) (.agg (bvs b).toArray)).run Tryd.prog w = .ok (decide (a = b)) w :=
  eq_arr 26 16 Tryd.underlying26 a b ha hb w
end Go.Proofs.YtgmnpkgnedngjaaDoor
namespace Go.Proofs.YtgmnpkgnedngjaaDoor
open Go.RowKit
set_option linter.unusedVariables false
set_option linter.unusedSimpArgs false

theorem txt_colon {t : List UInt8} (h : t.length = 16) (i : Nat) (hi : i < 39) (hc : i % 5 = 4) : (txt t)[i]? = some 58 := by
  obtain ⟨a0, a1, a2, a3, a4, a5, a6, a7, a8, a9, b0, b1, b2, b3, b4, b5, rfl⟩ := list16 h
  have : i = 4 ∨ i = 9 ∨ i = 14 ∨ i = 19 ∨ i = 24 ∨ i = 29 ∨ i = 34 := by omega
  rcases this with rfl | rfl | rfl | rfl | rfl | rfl | rfl <;> rfl
/-- which byte the digit at place i tells -/
def plk (i : Nat) : Nat := (i - i / 5) / 2
theorem plk_of (i : Nat) (hi : i < 39) (hc : ¬ i % 5 = 4) : plk i < 16 ∧ (plc (plk i) = i ∨ plc (plk i) + 1 = i) := by unfold plk plc; omega
theorem plc_lt (k : Nat) (h : k < 16) : plc k + 1 < 39 := by unfold plc; omega
theorem plc_digit (k : Nat) (h : k < 16) : ¬ plc k % 5 = 4 ∧ ¬ (plc k + 1) % 5 = 4 := by unfold plc; omega
theorem plc_apart (i j : Nat) (h : i ≠ j) : plc i ≠ plc j ∧ plc i + 1 ≠ plc j ∧ plc i ≠ plc j + 1 := by unfold plc; omega
/-- the letter at place i may stand there -/
def Gd (L : List UInt8) (i : Nat) : Prop := if i % 5 = 4 then gb L i = 58 else ∃ d, d < 16 ∧ gb L i = hx d
theorem isT_len {L t : List UInt8} (h : IsT L t) : L.length = 39 := by rw [← h.2]; exact txt_length h.1
theorem gb_some {l : List UInt8} {i : Nat} {x : UInt8} (h : l[i]? = some x) : gb l i = x := by unfold gb; rw [List.getD_eq_getElem?_getD, h]; rfl
theorem isT_good {L t : List UInt8} (h : IsT L t) (i : Nat) (hi : i < 39) : Gd L i := by
  unfold Gd
  have hb := fun k => UInt8.toNat_lt (t.getD k 0)
  by_cases hc : i % 5 = 4
  · rw [if_pos hc, ← h.2]
    exact gb_some (txt_colon h.1 i hi hc)
  · rw [if_neg hc, ← h.2]
    obtain ⟨hk, hp⟩ := plk_of i hi hc
    obtain ⟨h1, h2⟩ := txt_at h.1 (plk i) hk
    have h3 := hb (plk i)
    rcases hp with hp | hp
    · rw [hp] at h1; exact ⟨_, by omega, gb_some h1⟩
    · rw [hp] at h2; exact ⟨_, by omega, gb_some h2⟩
/-- what a digit counts -/
def dv8 (c : UInt8) : Nat := (dg c).getD 0
theorem dv8_hx {d : Nat} (h : d < 16) : dv8 (hx d) = d := by unfold dv8; rw [dg_hx h]; rfl
/-- the byte that both digits tell -/
def tb (L : List UInt8) (k : Nat) : UInt8 := UInt8.ofNat (16 * dv8 (gb L (plc k)) + dv8 (gb L (plc k + 1)))
/-- what is known of byte k when pos letters have been read -/
def pb (L : List UInt8) (pos k : Nat) : UInt8 := if plc k + 2 ≤ pos then tb L k else if plc k + 1 ≤ pos then UInt8.ofNat (dv8 (gb L (plc k))) else 0
theorem pb_none (L : List UInt8) (k : Nat) : pb L 0 k = 0 := by unfold pb; rw [if_neg (by omega), if_neg (by omega)]
theorem pb_all (L : List UInt8) (k : Nat) (h : k < 16) : pb L 39 k = tb L k := by have := plc_lt k h; unfold pb; rw [if_pos (by omega)]
theorem pb_colon (L : List UInt8) (pos k : Nat) (hk : k < 16) (h : pos % 5 = 4) : pb L (pos + 1) k = pb L pos k := by
  obtain ⟨h1, h2⟩ := plc_digit k hk
  unfold pb
  by_cases a : plc k + 2 ≤ pos
  · rw [if_pos a, if_pos (by omega)]
  · have e1 : plc k + 1 ≠ pos := by omega
    rw [if_neg a, if_neg (by omega)]
    by_cases b : plc k + 1 ≤ pos
    · exact absurd b (by omega)
    · have e2 : plc k ≠ pos := by omega
      rw [if_neg b, if_neg (by omega)]
theorem pb_other (L : List UInt8) (pos k : Nat) (hk : k < 16) (hp : pos < 39) (h : ¬ pos % 5 = 4) (hne : k ≠ plk pos) : pb L (pos + 1) k = pb L pos k := by
  obtain ⟨h1, h2⟩ := plk_of pos hp h
  obtain ⟨a1, a2, a3⟩ := plc_apart k (plk pos) hne
  unfold pb
  by_cases a : plc k + 2 ≤ pos
  · rw [if_pos a, if_pos (by omega)]
  · have e1 : plc k + 1 ≠ pos := by unfold plc at *; omega
    rw [if_neg a, if_neg (by omega)]
    by_cases b : plc k + 1 ≤ pos
    · exact absurd b (by omega)
    · have e2 : plc k ≠ pos := by unfold plc at *; omega
      rw [if_neg b, if_neg (by omega)]
/-- a digit more: the byte it belongs to was below 16, and grows by 16 times that -/
theorem pb_digit (L : List UInt8) (pos d : Nat) (hp : pos < 39) (h : ¬ pos % 5 = 4) (hg : ∀ i, i < pos → Gd L i) (hd : d < 16) (hL : gb L pos = hx d) :
    ∃ e, e < 16 ∧ pb L pos (plk pos) = UInt8.ofNat e ∧ pb L (pos + 1) (plk pos) = UInt8.ofNat (16 * e + d) := by
  obtain ⟨h1, h2⟩ := plk_of pos hp h
  rcases h2 with h2 | h2
  · refine ⟨0, by decide, ?_, ?_⟩
    · unfold pb; rw [if_neg (by omega), if_neg (by omega)]; rfl
    · unfold pb; rw [if_neg (by omega), if_pos (by omega), h2, hL, dv8_hx hd, Nat.mul_zero, Nat.zero_add]
  · have hq := hg (plc (plk pos)) (by omega)
    unfold Gd at hq
    rw [if_neg (plc_digit _ h1).1] at hq
    obtain ⟨e, he, hq⟩ := hq
    refine ⟨e, he, ?_, ?_⟩
    · unfold pb; rw [if_neg (by omega), if_pos (by omega), hq, dv8_hx he]
    · unfold pb; rw [if_pos (by omega)]; unfold tb; rw [hq, h2, hL, dv8_hx he, dv8_hx hd]
theorem isT_of_good {L T : List UInt8} (hl : L.length = 39) (hT : T.length = 16) (h : ∀ i, i < 39 → Gd L i) (hv : ∀ k, k < 16 → gb T k = tb L k) : IsT L T := by
  refine ⟨hT, ?_⟩
  have htl := txt_length hT
  apply List.ext_getElem (by omega)
  intro i h1 h2
  have hi : i < 39 := by omega
  have hG := h i hi
  have e1 : (txt T)[i] = gb (txt T) i := (gb_lt h1).symm
  have e2 : L[i] = gb L i := (gb_lt h2).symm
  rw [e1, e2]
  unfold Gd at hG
  by_cases hc : i % 5 = 4
  · rw [if_pos hc] at hG
    rw [hG]; exact gb_some (txt_colon hT i hi hc)
  · rw [if_neg hc] at hG
    obtain ⟨d, hd, hG⟩ := hG
    obtain ⟨hk, hp⟩ := plk_of i hi hc
    obtain ⟨t1, t2⟩ := txt_at hT (plk i) hk
    have p1 := h (plc (plk i)) (by have := plc_lt _ hk; omega)
    have p2 := h (plc (plk i) + 1) (plc_lt _ hk)
    unfold Gd at p1 p2
    rw [if_neg (plc_digit _ hk).1] at p1
    rw [if_neg (plc_digit _ hk).2] at p2
    obtain ⟨a, ha, p1⟩ := p1
    obtain ⟨b, hb, p2⟩ := p2
    have hv := hv (plk i) hk
    unfold tb at hv
    rw [p1, p2, dv8_hx ha, dv8_hx hb] at hv
    have hn : (T.getD (plk i) 0).toNat = 16 * a + b := by
      have : T.getD (plk i) 0 = UInt8.ofNat (16 * a + b) := hv
      rw [this, UInt8.toNat_ofNat_of_lt' (by show _ < 256; omega)]
    rw [hn] at t1 t2
    rw [show (16 * a + b) / 16 = a by omega] at t1
    rw [show (16 * a + b) % 16 = b by omega] at t2
    rcases hp with hp | hp
    · rw [hp] at t1 p1; rw [gb_some t1, p1]
    · rw [hp] at t2 p2; rw [gb_some t2, p2]

/- a letter of a string -/
theorem str_at_ (s : ByteArray) (pos : Nat) (h : pos < s.size) : s[pos]'h = gb s.data.toList pos := by
  have h' : pos < s.data.toList.length := by simpa using h
  rw [gb_lt h']; simp; rfl
theorem decode_far (s : ByteArray) (pos : Nat) (h : pos < s.size) (hb : ¬ (s[pos]'h).toNat < 128) : 128 ≤ (Utf8.decode s pos).1 := by
  have e : s.get! (pos + 0) = s[pos]'h := by
    show s.get! pos = _
    simp [ByteArray.get!, getElem!_pos, h]
    rfl
  have hr : 128 ≤ Utf8.runeError := by decide
  simp only [Utf8.decode, e]
  rw [if_neg hb]
  split
  · split
    · assumption
    · exact hr
  · split
    · split
      · rename_i hh
        simp only [Bool.and_eq_true, decide_eq_true_iff] at hh
        exact Nat.le_trans (by decide) hh.1
      · exact hr
    · split
      · split
        · rename_i hh
          simp only [Bool.and_eq_true, decide_eq_true_iff] at hh
          exact Nat.le_trans (by decide) hh.1
        · exact hr
      · exact hr
theorem next_letter (s : ByteArray) (pos : Nat) (h : pos < s.size) : ∃ (z : Int) (k : Nat), Utf8.decode s pos = (z.toNat, k) ∧ 0 ≤ z ∧ ((z = iv (gb s.data.toList pos) ∧ k = 1 ∧ z < 128) ∨ (128 ≤ z ∧ 128 ≤ iv (gb s.data.toList pos))) := by
  by_cases hb : (s[pos]'h).toNat < 128
  · refine ⟨iv (gb s.data.toList pos), 1, ?_, iv_ge _, .inl ⟨rfl, rfl, ?_⟩⟩
    · rw [decode_ascii s pos h hb, ← str_at_ s pos h]; simp [iv]
    · rw [← str_at_ s pos h]; unfold iv; omega
  · have hf := decode_far s pos h hb
    refine ⟨((Utf8.decode s pos).1 : Int), (Utf8.decode s pos).2, by simp, by omega, .inr ⟨by omega, ?_⟩⟩
    rw [← str_at_ s pos h]; unfold iv; omega
/-- block g put anew -/
def putIt (w : World) (g : Nat) (o : Obj) : World := { w with heap := w.heap.setIfInBounds g o }
theorem putIt_self (w : World) (g : Nat) (o : Obj) (h : g < w.heap.size) : (putIt w g o).heap[g]? = some o := by simp [putIt, h]
theorem putIt_other (w : World) (g k : Nat) (o : Obj) (h : k ≠ g) : (putIt w g o).heap[k]? = w.heap[k]? := by
  simp only [putIt, Array.getElem?_setIfInBounds]; rw [if_neg (fun e => h e.symm)]
theorem putIt_grown (w : World) (g : Nat) (o : Obj) : w.grownBy (putIt w g o) (some g) := ⟨rfl, rfl, rfl, by simp [putIt], fun k hk hn => putIt_other w g k o (fun e => hn (by rw [e]))⟩
theorem run_next_s {P : Program} (w : World) (g : Nat) (s : ByteArray) (pos k : Nat) (z : Int) (ty : TypeId) (hg : w.heap[g]? = some (.stringIter s pos)) (h : pos < s.size) (hz : 0 ≤ z) (hd : Utf8.decode s pos = (z.toNat, k)) :
    (Instr.next (.pointer (some ⟨g, 0, none⟩)) true ty).run P w = .ok (.tuple #[.bool true, .int .i64 pos, .int .i32 z]) (putIt w g (.stringIter s (pos + k))) := by
  have e : ((z.toNat : Nat) : Int) = z := by omega
  simp only [Instr.next, getObj, setObj, Sem.run_bind, Sem.run, hg, Result.andThen, h, if_true, hd]
  simp [goInt, Sem.run, hg, putIt, e]
theorem run_next_e {P : Program} (w : World) (g : Nat) (s : ByteArray) (pos : Nat) (ty : TypeId) (hg : w.heap[g]? = some (.stringIter s pos)) (h : ¬ pos < s.size) :
    (Instr.next (.pointer (some ⟨g, 0, none⟩)) true ty).run P w = .ok (.tuple #[.bool false]) w := by
  simp [Instr.next, getObj, Sem.run, hg, h]
/-- where the going through has come to -/
def itPos (w : World) (g : Nat) : Nat := match w.heap[g]? with
  | some (.stringIter _ p) => p
  | _ => 0
end Go.Proofs.YtgmnpkgnedngjaaDoor
namespace Go.Proofs.YtgmnpkgnedngjaaDoor
open Go.RowKit
set_option linter.unusedVariables false
set_option linter.unusedSimpArgs false

theorem idx_arr (t n : Nat) (hu : Tryd.prog.underlying t = some (.array n 5)) (a : List UInt8) (ha : a.length = n) (k : Nat) (hk : k < n) (w : World) :
    (Instr.index t (.agg (bvs a).toArray) (.int .i64 (k : Int))).run Tryd.prog w = .ok (bv (gb a k)) w := by
  have hp := q_part5 a k (by omega) w
  have hk1 : (0 : Int) ≤ (k : Int) ∧ (k : Int) < (n : Int) := by omega
  have hs : (sizeOf 5).run Tryd.prog w = .ok 1 w := by kernel_rfl
  simp only [Instr.index, Sem.run_bind, run_underlying hu, Result.andThen_ok, asIntOf, Sem.run_pure, hk1, and_self, if_true, decide_true, hs, Int.toNat_natCast, hp]
  first | (rw [gb_lt (by omega)]; rfl) | (simp [hs, hp, Result.andThen, gb_lt (show k < a.length by omega)]; rfl)
theorem idx_dl (k : Nat) (hk : k < 16) (w : World) : (Instr.index 25 (.agg (bvs dl).toArray) (.int .i64 (k : Int))).run Tryd.prog w = .ok (bv (hx k)) w := by
  rw [← dl_at k hk]; exact idx_arr 25 16 Tryd.underlying25 dl rfl k hk w
theorem idx_tag (a : List UInt8) (ha : a.length = 16) (k : Nat) (hk : k < 16) (w : World) : (Instr.index 26 (.agg (bvs a).toArray) (.int .i64 (k : Int))).run Tryd.prog w = .ok (bv (gb a k)) w :=
  idx_arr 26 16 Tryd.underlying26 a ha k hk w
theorem idx_str (s : ByteArray) (k : Nat) (hk : k < s.size) (w : World) : (Instr.index 9 (.string s) (.int .i64 (k : Int))).run Tryd.prog w = .ok (bv (gb s.data.toList k)) w := by
  rw [run_index_string w 9 s .i64 _ Tryd.underlying9, dif_pos ⟨by omega, by omega⟩]
  have h' : k < s.data.toList.length := by simpa using hk
  have e : ((k : Int)).toNat = k := by omega
  simp only [e]
  rw [gb_lt h']
  simp [iv]
  rfl
theorem hx_iv_lt (k : Nat) (hk : k < 16) : iv (hx k) < 128 := by
  have : ∀ k, k < 16 → (hx k).toNat < 128 := by decide
  have := this k hk
  unfold iv; omega
theorem iv_hx_ne {j n : Nat} (hj : j < 16) (hn : n < 16) (h : j ≠ n) : iv (hx n) ≠ iv (hx j) := fun e => h (hx_inj hj hn (iv_inj e).symm)
set_option maxRecDepth 100000 in
set_option maxHeartbeats 4000000 in
theorem counted_hit (n : Nat) (hn : n < 16) (w : World) (hd : Dg w) : Calls Tryd.prog 18 #[.int .i32 (iv (hx n))] w fun e w' => e = .returned (.tuple #[.int .u8 (n : Int), .bool true]) ∧ w = w' := by
  have hld := ld_dg hd
  have HN := hid hn
  clear hd
  go_enter Tryd.func18, Tryd.ntmps18
  go_wp2_with (refine wp_ld rfl _ _ rfl _ rfl _ hld ?_)
  clear hld
  go_loopw [7] (fun i wr => ∃ k : Nat, k ≤ n ∧ i = .int .i64 k ∧ wr = w) (fun i _ => 16 - (intOf i).toNat)
  case atStart => exact ⟨0, Nat.zero_le _, rfl, rfl⟩
  case round =>
    obtain ⟨k, hk, rfl, rfl⟩ := hrel
    have hk16 : k < 16 := by omega
    have hix := idx_dl k hk16
    have hc : IntKind.i32.wrap (iv (hx k)) = iv (hx k) := by rw [IntKind.wrap_i32]; have := hx_iv_lt k hk16; have := iv_ge (hx k); omega
    have h8 : IntKind.u8.wrap (k : Int) = (k : Int) := by rw [IntKind.wrap_u8]; omega
    have h8b : (k : Int) % 256 = (k : Int) := by omega
    by_cases he : k = n
    · subst he
      go_wp2
      exact bodyPost_ret (v := .tuple #[.int .u8 (k : Int), .bool true]) (by simp [results, Tryd.results18, go_sem]) rfl ⟨rfl, rfl⟩
    · have hne := iv_hx_ne hk16 hn he
      have hbe : (iv (hx n) == iv (hx k)) = false := by simpa using hne
      have HKN := hid (show k < n by omega)
      clear hn he hk
      go_wp2
      go_roundw
      case rel => exact ⟨k + 1, HKN.out, by go_num, trivial⟩
      case measure => have := HKN.out; have := HN.out; simp [intOf]; omega
set_option maxRecDepth 100000 in
set_option maxHeartbeats 4000000 in
theorem counted_miss (z : Int) (hz : ∀ k, k < 16 → iv (hx k) ≠ z) (w : World) (hd : Dg w) : Calls Tryd.prog 18 #[.int .i32 z] w fun e w' => e = .returned (.tuple #[.int .u8 0, .bool false]) ∧ w = w' := by
  have hld := ld_dg hd
  have HZ := hid hz
  clear hd hz
  go_enter Tryd.func18, Tryd.ntmps18
  go_wp2_with (refine wp_ld rfl _ _ rfl _ rfl _ hld ?_)
  clear hld
  go_loopw [7] (fun i wr => ∃ k : Nat, k ≤ 16 ∧ i = .int .i64 k ∧ wr = w) (fun i _ => 16 - (intOf i).toNat)
  case atStart => exact ⟨0, Nat.zero_le _, rfl, rfl⟩
  case round =>
    obtain ⟨k, hk, rfl, rfl⟩ := hrel
    by_cases hk16 : k < 16
    · have hix := idx_dl k hk16
      have hc : IntKind.i32.wrap (iv (hx k)) = iv (hx k) := by rw [IntKind.wrap_i32]; have := hx_iv_lt k hk16; have := iv_ge (hx k); omega
      have hne := fun e => HZ.out k hk16 (Eq.symm e)
      have hbe : (z == iv (hx k)) = false := by simpa using hne
      clear hk
      go_wp2
      go_roundw
      case rel => exact ⟨k + 1, by omega, by go_num, trivial⟩
      case measure => simp [intOf]; omega
    · obtain rfl : k = 16 := by omega
      go_wp2
      exact bodyPost_ret (v := .tuple #[.int .u8 0, .bool false]) (by simp [results, Tryd.results18, go_sem]) rfl ⟨rfl, rfl⟩
set_option maxRecDepth 100000 in
set_option maxHeartbeats 4000000 in
theorem digit_hit (n : Nat) (hn : n < 16) (w : World) : Calls Tryd.prog 19 #[bv (hx n)] w fun e w' => e = .returned (.tuple #[.int .i64 (n : Int), .bool true]) ∧ w = w' := by
  have HN := hid hn
  go_enter Tryd.func19, Tryd.ntmps19
  go_wp2
  go_loopw [4] (fun i wr => ∃ k : Nat, k ≤ n ∧ i = .int .i64 k ∧ wr = w) (fun i _ => 16 - (intOf i).toNat)
  case atStart => exact ⟨0, Nat.zero_le _, rfl, rfl⟩
  case round =>
    obtain ⟨k, hk, rfl, rfl⟩ := hrel
    have hk16 : k < 16 := by omega
    have hix : ∀ W : World, (Instr.index 9 (.string ⟨#[48, 49, 50, 51, 52, 53, 54, 55, 56, 57, 97, 98, 99, 100, 101, 102]⟩) (.int .i64 (k : Int))).run Tryd.prog W = .ok (bv (hx k)) W := fun W => by rw [← dl_at k hk16]; exact idx_str ⟨dl.toArray⟩ k hk16 W
    by_cases he : k = n
    · subst he
      go_wp2
      exact bodyPost_ret (v := .tuple #[.int .i64 (k : Int), .bool true]) (by simp [results, Tryd.results19, go_sem]) rfl ⟨rfl, rfl⟩
    · have hne : iv (hx k) ≠ iv (hx n) := fun e => iv_hx_ne hk16 hn he e.symm
      have hbe : (iv (hx k) == iv (hx n)) = false := by simpa using hne
      have HKN := hid (show k < n by omega)
      clear hn he hk
      go_wp2
      go_roundw
      case rel => exact ⟨k + 1, HKN.out, by go_num, trivial⟩
      case measure => have := HKN.out; have := HN.out; simp [intOf]; omega
set_option maxRecDepth 100000 in
set_option maxHeartbeats 4000000 in
theorem digit_miss (c : UInt8) (hz : ∀ k, k < 16 → hx k ≠ c) (w : World) : Calls Tryd.prog 19 #[bv c] w fun e w' => e = .returned (.tuple #[.int .i64 0, .bool false]) ∧ w = w' := by
  have HZ := hid hz
  clear hz
  go_enter Tryd.func19, Tryd.ntmps19
  go_wp2
  go_loopw [4] (fun i wr => ∃ k : Nat, k ≤ 16 ∧ i = .int .i64 k ∧ wr = w) (fun i _ => 16 - (intOf i).toNat)
  case atStart => exact ⟨0, Nat.zero_le _, rfl, rfl⟩
  case round =>
    obtain ⟨k, hk, rfl, rfl⟩ := hrel
    by_cases hk16 : k < 16
    · have hix : ∀ W : World, (Instr.index 9 (.string ⟨#[48, 49, 50, 51, 52, 53, 54, 55, 56, 57, 97, 98, 99, 100, 101, 102]⟩) (.int .i64 (k : Int))).run Tryd.prog W = .ok (bv (hx k)) W := fun W => by rw [← dl_at k hk16]; exact idx_str ⟨dl.toArray⟩ k hk16 W
      have hne : iv (hx k) ≠ iv c := fun e => HZ.out k hk16 (iv_inj e)
      have hbe : (iv (hx k) == iv c) = false := by simpa using hne
      clear hk
      go_wp2
      go_roundw
      case rel => exact ⟨k + 1, by omega, by go_num, trivial⟩
      case measure => simp [intOf]; omega
    · obtain rfl : k = 16 := by omega
      go_wp2
      exact bodyPost_ret (v := .tuple #[.int .i64 0, .bool false]) (by simp [results, Tryd.results19, go_sem]) rfl ⟨rfl, rfl⟩
end Go.Proofs.YtgmnpkgnedngjaaDoor
namespace Go.Proofs.YtgmnpkgnedngjaaDoor
open Go.RowKit
set_option linter.unusedVariables false
set_option linter.unusedSimpArgs false

theorem bcompare_any (A B : Option Addr) (n c m d : Nat) (a b : List UInt8) (w : World) (hra : Rd w A a) (hrb : Rd w B b) (hn : a.length = n) (hm : b.length = m) :
    Calls Tryd.prog 22 #[.slice A n c, .slice B m d] w fun e w' => e = .returned (.int .i64 (Lib.compareBytes a b)) ∧ w' = w := by
  have HC := run_compare (P := Tryd.prog) w A B n c m d a b hra hrb hn hm
  clear hra hrb hn hm
  go_enter Tryd.func22, Tryd.ntmps22
  go_wp2
  rw [run_callFunc_extern Tryd.func34 (by kernel_rfl) (by kernel_rfl) (by kernel_rfl) (e := Extern.BytealgCompare.compare) (by kernel_rfl), HC]
  simp only [Result.andThen]
  rw [Oper.upon_value]
  go_wp2
  go_ret
  exact ⟨rfl, rfl⟩
theorem sl16 (g : Nat) (w : World) : (Instr.sliceAt 26 (.pointer (some ⟨g, 0, none⟩)) none none none).run Tryd.prog w = .ok (.slice (some ⟨g, 0, none⟩) 16 16) w := by
  have hl : Tryd.prog.arrayLen 26 = 16 := by kernel_rfl
  have h5 : Tryd.prog.elem 26 = 5 := by kernel_rfl
  rw [run_sliceAt_array_all (P := Tryd.prog) w 26 ⟨g, 0, none⟩ (by rw [hl, h5]; exact Tryd.underlying26)]
  have hs : (sizeOf 5).run Tryd.prog w = .ok 1 w := by kernel_rfl
  rw [h5, hs, hl]
  simp [Result.andThen, slicedAt, Addr.add]
theorem below_dr {w w' : World} (h : Below w.heap.size w w') (n : Nat) : Below w.heap.size w (w'.drewN n) := h.trans ⟨rfl, rfl, rfl, Nat.le_refl _, fun _ _ => rfl⟩
set_option maxRecDepth 100000 in
set_option maxHeartbeats 4000000 in
theorem tcmp_any (a b : List UInt8) (w : World) (ha : a.length = 16) (hb : b.length = 16) :
    Calls Tryd.prog 12 #[.agg (bvs a).toArray, .agg (bvs b).toArray] w fun e w' => e = .returned (.int .i64 (cmpT a b)) ∧ Below w.heap.size w w' := by
  obtain ⟨HB, HX, HY, HS⟩ := box2 w 26 26 a b
  have HCT := hid (cmp_bytes a b (ha.trans hb.symm))
  generalize hw1 : (w.alloc (.cells (bvs a).toArray 26)).alloc (.cells (bvs b).toArray 26) = w1 at *
  have HC : Hid (∀ m, Calls Tryd.prog 22 #[.slice (some ⟨w.heap.size, 0, none⟩) 16 16, .slice (some ⟨w.heap.size + 1, 0, none⟩) 16 16] (w1.drewN m) fun e w' => e = .returned (.int .i64 (cmpT a b)) ∧ w' = w1.drewN m) := hid fun m => by
    rw [← HCT.out]
    exact bcompare_any _ _ 16 16 16 16 a b (w1.drewN m) (bt_rd (show Bt (w1.drewN m) _ _ _ from HX.out)) (bt_rd (show Bt (w1.drewN m) _ _ _ from HY.out)) ha hb
  have hs0 := sl16 w.heap.size
  have hs1 := sl16 (w.heap.size + 1)
  clear ha hb HCT HX HY HS
  go_enter Tryd.func12, Tryd.ntmps12
  go_upto_region 1 with fail
  clear hw1
  generalize w.heap.size + 1 = g1 at *
  generalize hg0 : w.heap.size = g0 at HC hs0 ⊢
  go_quiet ((go_at_call 22; exact Calls.quiet_of_same (HC.out _)))
  go_wp2
  go_ret
  exact ⟨rfl, below_dr HB.out _⟩
theorem take_eq {a b : List UInt8} (h : a.length = b.length) (n : Nat) (he : ∀ j, j < n → gb a j = gb b j) : a.take n = b.take n := by
  apply List.ext_getElem (by simp [h])
  intro j h1 h2
  have hj : j < n := by simp at h1; omega
  have ha : j < a.length := by simp at h1; omega
  have hb : j < b.length := by omega
  have := he j hj
  rw [gb_lt ha, gb_lt hb] at this
  simpa using this
theorem iv_lt_of {x y : UInt8} (h : x < y) : iv x < iv y := by have := UInt8.lt_iff_toNat_lt.1 h; unfold iv; omega
theorem lt_of_iv {x y : UInt8} (h : iv x < iv y) : x < y := by unfold iv at h; exact UInt8.lt_iff_toNat_lt.2 (by omega)
theorem gl_less {a b : List UInt8} (ha : a.length = 16) (hb : b.length = 16) (n : Nat) (hn : n < 16) (he : ∀ j, j < n → gb a j = gb b j) (h : iv (gb a n) < iv (gb b n)) : cmpT a b = -1 :=
  cmpT_less n (by omega) (by omega) (take_eq (ha.trans hb.symm) n he) (by have := lt_of_iv h; rwa [gb_lt (by omega), gb_lt (by omega)] at this)
theorem gl_more {a b : List UInt8} (ha : a.length = 16) (hb : b.length = 16) (n : Nat) (hn : n < 16) (he : ∀ j, j < n → gb a j = gb b j) (h : iv (gb b n) < iv (gb a n)) : cmpT a b = 1 :=
  cmpT_more n (by omega) (by omega) (take_eq (ha.trans hb.symm) n he) (by have := lt_of_iv h; rwa [gb_lt (by omega), gb_lt (by omega)] at this)
theorem gl_same {a b : List UInt8} (ha : a.length = 16) (hb : b.length = 16) (he : ∀ j, j < 16 → gb a j = gb b j) : cmpT a b = 0 := by
  refine (cmpT_zero (ha.trans hb.symm)).2 ?_
  have := take_eq (ha.trans hb.symm) 16 he
  rwa [List.take_of_length_le (by omega), List.take_of_length_le (by omega)] at this
set_option maxRecDepth 100000 in
set_option maxHeartbeats 4000000 in
theorem rcmp_any (a b : List UInt8) (w : World) (ha : a.length = 16) (hb : b.length = 16) :
    Calls Tryd.prog 13 #[.agg (bvs a).toArray, .agg (bvs b).toArray] w fun e w' => e = .returned (.int .i64 (cmpT a b)) ∧ Below w.heap.size w w' := by
  obtain ⟨HB, HX, HY, HS⟩ := box2 w 26 26 a b
  have HA := hid ha
  have HAB := hid hb
  generalize hw1 : (w.alloc (.cells (bvs a).toArray 26)).alloc (.cells (bvs b).toArray 26) = w1 at *
  clear ha hb HS
  go_enter Tryd.func13, Tryd.ntmps13
  go_upto_region 1 with fail
  clear hw1
  generalize w.heap.size + 1 = g1 at *
  generalize hg0 : w.heap.size = g0 at HX ⊢
  go_wp2
  go_loopw [5] (fun i wr => ∃ n m : Nat, n ≤ 16 ∧ i = .int .i64 n ∧ Hid (∀ j, j < n → gb a j = gb b j) ∧ Hid (wr = w1.drewN m)) (fun i _ => 16 - (intOf i).toNat)
  case atStart => exact ⟨0, 0, by decide, rfl, hid (fun j h => absurd h (Nat.not_lt_zero _)), hid rfl⟩
  case round =>
    obtain ⟨n, m, hn, rfl, HE, HW⟩ := hrel
    by_cases hlt : n < 16
    · have HLT := hid hlt
      have cx : wr.cell? ⟨g0, n, none⟩ = some (bv (gb a n)) := by rw [HW.out]; exact Bt.at_ (show Bt (w1.drewN m) _ _ _ from HX.out) n (by rw [HA.out]; exact hlt)
      have cy : wr.cell? ⟨g1, n, none⟩ = some (bv (gb b n)) := by rw [HW.out]; exact Bt.at_ (show Bt (w1.drewN m) _ _ _ from HY.out) n (by rw [HAB.out]; exact hlt)
      by_cases h1 : iv (gb a n) < iv (gb b n)
      · have HC := hid (gl_less HA.out HAB.out n hlt HE.out h1)
        go_wp2
        go_quiet (fail)
        go_wp2
        go_ret
        exact ⟨by rw [HC.out]; rfl, by rw [HW.out]; exact below_dr (below_dr HB.out _) _⟩
      · by_cases h2 : iv (gb b n) < iv (gb a n)
        · have HC := hid (gl_more HA.out HAB.out n hlt HE.out h2)
          go_wp2
          go_quiet (fail)
          have cx2 : (wr.drewN nq).cell? ⟨g0, n, none⟩ = some (bv (gb a n)) := cx
          have cy2 : (wr.drewN nq).cell? ⟨g1, n, none⟩ = some (bv (gb b n)) := cy
          obtain ⟨m2, HW2⟩ : ∃ m2, Hid (wr.drewN nq = w1.drewN m2) := ⟨_, hid (by rw [HW.out]; exact World.drewN_drewN ..)⟩
          clear cx cy HW
          generalize wr.drewN nq = w2 at *
          go_wp2
          go_quiet (fail)
          go_wp2
          go_ret
          exact ⟨by rw [HC.out]; rfl, by rw [HW2.out]; exact below_dr (below_dr HB.out _) _⟩
        · have HQ := hid (show gb a n = gb b n from iv_inj (by omega))
          go_wp2
          go_quiet (fail)
          have cx2 : (wr.drewN nq).cell? ⟨g0, n, none⟩ = some (bv (gb a n)) := cx
          have cy2 : (wr.drewN nq).cell? ⟨g1, n, none⟩ = some (bv (gb b n)) := cy
          obtain ⟨m2, HW2⟩ : ∃ m2, Hid (wr.drewN nq = w1.drewN m2) := ⟨_, hid (by rw [HW.out]; exact World.drewN_drewN ..)⟩
          clear cx cy HW
          generalize wr.drewN nq = w2 at *
          go_wp2
          go_quiet (fail)
          go_wp2
          go_roundw
          case rel =>
            refine ⟨n + 1, m2 + nq, by omega, by go_num, hid (fun j hj => ?_), ?_⟩
            · rcases Nat.lt_or_ge j n with h | h
              · exact HE.out j h
              · obtain rfl : j = n := by omega
                exact HQ.out
            · rw [HW2.out]; exact hid (World.drewN_drewN ..)
          case measure => simp [intOf]; omega
    · obtain rfl : n = 16 := by omega
      have HC := hid (gl_same HA.out HAB.out HE.out)
      go_wp2
      go_ret
      exact ⟨by rw [HC.out]; rfl, by rw [HW.out]; exact below_dr HB.out _⟩
end Go.Proofs.YtgmnpkgnedngjaaDoor
