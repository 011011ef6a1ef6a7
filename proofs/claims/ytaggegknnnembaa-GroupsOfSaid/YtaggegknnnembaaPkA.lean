/-
  Words for memory: a slice that reads as bytes, a block that is known whole. Conditions: none.
  nums.longer, walked: the bytes in new memory, and noughts behind them. Condition: no more than 2^48 of them in all.
  nums.lay, walked: the room's bytes become the last ones of the words' number. Conditions: the words (four at most) lie in another block than the room, and are enough for it.
  append onto a slice of bytes of the call's own. Conditions: no more than 2^47 bytes in all.
  nums.told, walked: it answers the number that the bytes tell. Condition: at most eight bytes.
  The document's own answers (burrowref01), walked: behind, Row, Put. Conditions: sizes within 2^46.
  nums.Put, walked: the bytes, then the number's last ones, in new memory. Condition: no more than 2^47 bytes came in.
  nums.PutLong, walked: the bytes, then all 32 of a long number, in new memory. Condition: no more than 2^47 bytes came in.
  nums.PutBytes, walked: the bytes, then in four how many others there are, then these, in new memory. Condition: no more than 2^46 bytes came in, either time.
  nums.Get, walked: refused, or the number that the first bytes tell. Conditions: none on the count.
  nums.GetBytes, walked: refused, or the bytes that stand behind their count, and how many that was. Condition: the slice's capacity is at most 2^47.
  nums.GetLong, walked: refused, or the long number that the first 32 bytes tell. Condition: the slice's capacity is at most 2^47.
  The document's own answers (burrowref01), walked: Put, PutLong, PutBytes. Conditions: sizes within 2^46.
  The document's own PutLong (burrowref01), walked. Condition: no more than 2^46 bytes came in.
  The document's own answers (burrowref01), walked: Told, Get, GetLong, GetBytes. Conditions: sizes within 2^46.
-/
import Derived.Test.YtaggegknnnembaaRows
import Derived.Test.YtaggegknnnembaaPlain
import Derived.WalkKit
import Derived.Laws.CopyOwn
import Derived.Outline
import Derived.WalkLawsBesides
import Derived.WalkSpells
import Derived.Deep.LoopGhost
import Derived.Maps.AppendAt
import Derived.Laws.AppendOwnNone
import Derived.StillTailTactics
import Derived.Deep.QuietTactic
import Derived.BigQuiet
namespace Go.Proofs.Ytaggegknnnembaa
open Go.RowKit

theorem nhid {p : Prop} (h : p) : Hid p := h

/-- a slice's address, and the bytes that lie there -/
def Rd (w : World) (A : Option Addr) (bs : List UInt8) : Prop :=
  0 < bs.length → ∃ g o, A = some ⟨g, o, none⟩ ∧ g < w.heap.size ∧ ∀ j, (h : j < bs.length) → w.cell? ⟨g, o + j, none⟩ = some (.int .u8 ((bs[j].toNat : Nat) : Int))

/-- bytes as cells -/
def bvs (bs : List UInt8) : List Value := bs.map fun b => .int .u8 ((b.toNat : Nat) : Int)
theorem bvs_length (bs : List UInt8) : (bvs bs).length = bs.length := by simp [bvs]
theorem bvs_append (a b : List UInt8) : bvs (a ++ b) = bvs a ++ bvs b := by simp [bvs]
theorem bvs_take (a : List UInt8) (n : Nat) : bvs (a.take n) = (bvs a).take n := by simp [bvs, List.map_take]
theorem bvs_drop (a : List UInt8) (n : Nat) : bvs (a.drop n) = (bvs a).drop n := by simp [bvs, List.map_drop]
theorem bvs_one (bs : List UInt8) : ∀ v ∈ bvs bs, v.oneCell' = true := by
  intro v hv
  simp only [bvs, List.mem_map] at hv
  obtain ⟨b, _, rfl⟩ := hv
  rfl

/-- block g is just these bytes, none of them frozen -/
def Row (w : World) (g : Nat) (bs : List UInt8) : Prop := w.heap[g]? = some (.cells (bvs bs).toArray 5 (0, 0))
theorem Row.lt {w : World} {g : Nat} {bs : List UInt8} (h : Row w g bs) : g < w.heap.size := by
  rcases Nat.lt_or_ge g w.heap.size with hlt | hge
  · exact hlt
  · unfold Row at h; rw [Array.getElem?_eq_none hge] at h; cases h
theorem Row.cell {w : World} {g : Nat} {bs : List UInt8} (h : Row w g bs) (i : Nat) (hi : i < bs.length) : w.cell? ⟨g, i, none⟩ = some (.int .u8 ((bs[i].toNat : Nat) : Int)) := by
  rw [cell_of_row w g i _ 5 (0, 0) h]
  simp [bvs, hi]
theorem Row.frozen {w : World} {g : Nat} {bs : List UInt8} (h : Row w g bs) (i : Nat) : w.frozen? ⟨g, i, none⟩ = false := by
  unfold Row at h
  simp [World.frozen?, h]
theorem Row.below {w w' : World} {g B : Nat} {bs : List UInt8} (h : Row w g bs) (hb : Below B w w') (hg : g < B) : Row w' g bs := (hb.block g hg).trans h

/-- a part of such a block, as a slice -/
theorem Row.rd {w : World} {g : Nat} {bs : List UInt8} (h : Row w g bs) (o n : Nat) : Rd w (some ⟨g, o, none⟩) ((bs.drop o).take n) := by
  intro hp
  refine ⟨g, o, rfl, h.lt, fun j hj => ?_⟩
  have hj' : o + j < bs.length := by simp at hj; omega
  rw [h.cell _ hj']
  simp
theorem Row.rd0 {w : World} {g : Nat} {bs : List UInt8} (h : Row w g bs) : Rd w (some ⟨g, 0, none⟩) bs := by
  have := h.rd 0 bs.length
  simpa using this

theorem Rd.below {w w' : World} {A : Option Addr} {bs : List UInt8} {B : Nat} (h : Rd w A bs) (hb : Below B w w') (hB : w.heap.size ≤ B) : Rd w' A bs := by
  intro hp
  obtain ⟨g, o, rfl, hg, hc⟩ := h hp
  exact ⟨g, o, rfl, Nat.lt_of_lt_of_le hg hb.size, fun j hj => (hb.cell (p := ⟨g, o + j, none⟩) (Nat.lt_of_lt_of_le hg hB)).trans (hc j hj)⟩
theorem nadd_plain (g o k : Nat) : (⟨g, o, none⟩ : Addr).add k = ⟨g, o + k, none⟩ := by
  unfold Addr.add
  by_cases h : k = 0
  · subst h; simp
  · simp [h]
theorem Rd.nil (w : World) (A : Option Addr) : Rd w A [] := fun h => absurd h (by simp)
theorem Rd.cells {w : World} {A : Option Addr} {bs : List UInt8} (h : Rd w A bs) (hp : 0 < bs.length) : ∃ ad, A = some ad ∧ ∀ j v, (bvs bs)[j]? = some v → w.cell? (ad.add j) = some v := by
  obtain ⟨g, o, rfl, hg, hc⟩ := h hp
  refine ⟨_, rfl, fun j v hv => ?_⟩
  have hj : j < bs.length := by
    rcases Nat.lt_or_ge j bs.length with h | h
    · exact h
    · rw [List.getElem?_eq_none (by rw [bvs_length]; exact h)] at hv; cases hv
  have := hc j hj
  simp [bvs, hj] at hv
  rw [nadd_plain, this, hv]
theorem Rd.cut {w : World} {A : Option Addr} {bs : List UInt8} (h : Rd w A bs) (k : Nat) (A' : Option Addr) (hA : ∀ ad, A = some ad → k < bs.length → A' = some (ad.add k)) : Rd w A' (bs.drop k) := by
  intro hp
  have hk : k < bs.length := by simp at hp; omega
  obtain ⟨g, o, rfl, hg, hc⟩ := h (by omega)
  refine ⟨g, o + k, by rw [hA _ rfl hk, nadd_plain], hg, fun j hj => ?_⟩
  have hj' : k + j < bs.length := by simp at hj; omega
  rw [Nat.add_assoc, hc (k + j) hj']
  simp
theorem Rd.take {w : World} {A : Option Addr} {bs : List UInt8} (h : Rd w A bs) (k : Nat) : Rd w A (bs.take k) := by
  intro hp
  obtain ⟨g, o, rfl, hg, hc⟩ := h (by simp at hp; omega)
  refine ⟨g, o, rfl, hg, fun j hj => ?_⟩
  have hj' : j < bs.length := by simp at hj; omega
  rw [hc j hj']
  simp

theorem u8_info : (Try.prog.info? 5).map (fun i => (i.zero, i.size, i.bytes)) = some (some (.int .u8 0), 1, 1) := by kernel_rfl
theorem u8_size : (Try.prog.info? 5).map (·.size) = some 1 := by kernel_rfl
theorem made_bytes (n : Nat) : madeCells (Value.int .u8 0).cells n = (bvs (List.replicate n 0)).toArray := by
  have h := toList_madeCells_one (.int .u8 0) n
  have e : (Value.int .u8 0).cells = #[Value.int .u8 0] := rfl
  rw [e]
  apply Array.toList_inj.1
  rw [h]
  simp [bvs]

/-- make([]byte, n) -/
theorem run_make_bytes (w : World) (n : Nat) (h : n ≤ 281474976710656) :
    (Instr.makeSlice 82 (.int .i64 (n : Int)) (.int .i64 (n : Int))).run Try.prog w = .ok (.slice (some ⟨w.heap.size, 0, none⟩) n n) (w.alloc (.cells (bvs (List.replicate n 0)).toArray 5)) := by
  obtain ⟨i0, hi, hz0, hz1, hz2⟩ := info_parts u8_info
  have := run_make (P := Try.prog) w 82 5 i0 (.int .u8 0) Try.underlying82 hi hz0 .i64 .i64 (n : Int) (n : Int) (by omega) (by omega) (by rw [hz2]; omega) (by omega)
  rw [this, hz1, Int.toNat_natCast, Nat.mul_one, made_bytes]

end Go.Proofs.Ytaggegknnnembaa
namespace Go.Proofs.Ytaggegknnnembaa
open Go.RowKit

theorem splice_head (m : Nat) (bs : List UInt8) : splice (bvs (List.replicate (bs.length + m) 0)) 0 (bvs bs) = bvs (bs ++ List.replicate m 0) := by
  simp [splice, bvs, List.drop_replicate]

end Go.Proofs.Ytaggegknnnembaa
namespace Go.Proofs.Ytaggegknnnembaa
open Go.RowKit

/-- a slice's address, and the words that lie there, outside block g -/
def RdW (w : World) (g : Nat) (A : Option Addr) (ws : List Nat) : Prop :=
  (∀ x ∈ ws, x < 18446744073709551616) ∧ (0 < ws.length → ∃ h o, A = some ⟨h, o, none⟩ ∧ h < w.heap.size ∧ h ≠ g ∧ ∀ j, (hj : j < ws.length) → w.cell? ⟨h, o + j, none⟩ = some (.int .u64 ((ws[j] : Nat) : Int)))

/-- the number of words, the lowest first -/
def wnum : List Nat → Nat
  | [] => 0
  | x :: r => x + 18446744073709551616 * wnum r

/-- the room behind k rounds -/
def laid (bs : List UInt8) (e N k : Nat) : List UInt8 := bs.take (e - k) ++ (be N k ++ bs.drop e)

theorem laid_zero (bs : List UInt8) (e N : Nat) : laid bs e N 0 = bs := by simp [laid, be]
theorem laid_length (bs : List UInt8) (e N k : Nat) (hk : k ≤ e) (he : e ≤ bs.length) : (laid bs e N k).length = bs.length := by
  simp [laid, be_length]; omega
theorem laid_succ (bs : List UInt8) (e N k : Nat) (hk : k < e) (he : e ≤ bs.length) : laid bs e N (k + 1) = (laid bs e N k).set (e - 1 - k) (UInt8.ofNat (N / 256 ^ k)) := by
  have h1 : e - k = (e - 1 - k) + 1 := by omega
  have h2 : e - (k + 1) = e - 1 - k := by omega
  have h3 : e - 1 - k < bs.length := by omega
  unfold laid
  rw [h1, h2, List.take_succ_eq_append_getElem h3, be, List.append_assoc, List.set_append]
  have h4 : (bs.take (e - 1 - k)).length = e - 1 - k := by rw [List.length_take]; omega
  rw [if_neg (by omega), h4, Nat.sub_self]
  rfl

theorem wnum_div (ws : List Nat) (hw : ∀ x ∈ ws, x < 18446744073709551616) (j : Nat) (hj : j < ws.length) : ∃ R, wnum ws / 18446744073709551616 ^ j = ws[j] + 18446744073709551616 * R := by
  induction ws generalizing j with
  | nil => simp at hj
  | cons x r ih =>
    cases j with
    | zero => exact ⟨wnum r, by simp [wnum]⟩
    | succ j =>
      obtain ⟨R, hR⟩ := ih (fun y hy => hw y (List.mem_cons_of_mem _ hy)) j (by simpa using hj)
      refine ⟨R, ?_⟩
      have hx := hw x (List.mem_cons_self ..)
      rw [Nat.pow_succ, Nat.mul_comm, ← Nat.div_div_eq_div_mul]
      have e : wnum (x :: r) / 18446744073709551616 = wnum r := by simp only [wnum]; omega
      rw [e, hR]
      simp

theorem low_byte (x R i : Nat) (hi : i < 8) : (x + 18446744073709551616 * R) / 256 ^ i % 256 = x / 256 ^ i % 256 := by
  match i, hi with
  | 0, _ => simp only [Nat.pow_zero]; omega
  | 1, _ => rw [show 256 ^ 1 = 256 from rfl]; omega
  | 2, _ => rw [show 256 ^ 2 = 65536 from rfl]; omega
  | 3, _ => rw [show 256 ^ 3 = 16777216 from rfl]; omega
  | 4, _ => rw [show 256 ^ 4 = 4294967296 from rfl]; omega
  | 5, _ => rw [show 256 ^ 5 = 1099511627776 from rfl]; omega
  | 6, _ => rw [show 256 ^ 6 = 281474976710656 from rfl]; omega
  | 7, _ => rw [show 256 ^ 7 = 72057594037927936 from rfl]; omega

theorem pow_split (k : Nat) : 256 ^ k = 18446744073709551616 ^ (k / 8) * 256 ^ (k % 8) := by
  have e : (18446744073709551616 : Nat) = 256 ^ 8 := by decide
  rw [e, ← Nat.pow_mul, ← Nat.pow_add]
  congr 1
  omega

theorem two_pow_bytes (i : Nat) : 2 ^ (i * 8) = 256 ^ i := by
  have e : (256 : Nat) = 2 ^ 8 := by decide
  rw [e, ← Nat.pow_mul, Nat.mul_comm]

theorem wnum_byte (ws : List Nat) (hw : ∀ x ∈ ws, x < 18446744073709551616) (k : Nat) (hk : k / 8 < ws.length) :
    (((UInt8.ofNat (wnum ws / 256 ^ k)).toNat : Nat) : Int) = ((ws[k / 8] : Nat) : Int) / 2 ^ (k % 8 * 8) % 256 := by
  obtain ⟨R, hR⟩ := wnum_div ws hw (k / 8) hk
  rw [UInt8.toNat_ofNat', pow_split, ← Nat.div_div_eq_div_mul, hR]
  have e8 : (2 : Nat) ^ 8 = 256 := by decide
  rw [e8, low_byte _ _ _ (by omega), ← two_pow_bytes]
  rw [Int.natCast_emod, Int.natCast_ediv, Int.natCast_pow]
  rfl

theorem Row.set {w : World} {g : Nat} {bs : List UInt8} (h : Row w g bs) (i : Nat) (b : UInt8) : Row (w.setCell ⟨g, i, none⟩ (.int .u8 ((b.toNat : Nat) : Int))) g (bs.set i b) := by
  unfold Row at h ⊢
  simp [World.setCell, Array.getElem?_modify, h, bvs, List.map_set]

theorem grown_set {w wr : World} {g i : Nat} (h : w.grownBy wr (some g)) (u : Value) : w.grownBy (wr.setCell ⟨g, i, none⟩ u) (some g) :=
  ⟨h.os, h.tape, h.output, by simpa using h.size, fun k hk hne => (Below.heap_setCell wr ⟨g, i, none⟩ u k (fun e => hne (by rw [e]))).trans (h.block k hk hne)⟩

end Go.Proofs.Ytaggegknnnembaa
namespace Go.Proofs.Ytaggegknnnembaa
open Go.RowKit
set_option linter.unusedVariables false

/-- a slice of the call's own that holds these bytes -/
def Ow (w : World) (base : Nat) (v : Value) (bs : List UInt8) : Prop := w.ownsRow base 5 1 v bs.length (bvs bs)

theorem Ow.nil (w : World) (base : Nat) : Ow w base (.slice none 0 0) [] := World.ownsRow_nil w base 5 1

/-- what it looks like, and what it reads as -/
theorem Ow.form {w : World} {base : Nat} {v : Value} {bs : List UInt8} (h : Ow w base v bs) :
    ∃ A c, v = .slice A bs.length c ∧ bs.length ≤ c ∧ c ≤ 9223372036854775807 ∧ Rd w A bs ∧ (A = none → c = 0) := by
  rcases h.2 with ⟨rfl, hn⟩ | ⟨g, cap, cur, rfl, hb, hh, hnc, hm, hs, ht⟩
  · have : bs = [] := List.eq_nil_of_length_eq_zero hn
    subst this
    exact ⟨none, 0, rfl, Nat.le_refl _, by omega, Rd.nil _ _, fun _ => rfl⟩
  · refine ⟨_, cap, rfl, hnc, hm, fun hp => ⟨g, 0, rfl, lt_of_block hh, fun j hj => ?_⟩, fun h => by cases h⟩
    have := World.ownsRow.cellAt h j (by simpa using hj)
    rw [Nat.zero_add, this]
    simp [bvs, hj]

set_option maxRecDepth 100000 in
theorem append_bytes (w : World) (base : Nat) (v : Value) (bs ls : List UInt8) (A : Option Addr) (m c : Nat) (hown : Ow w base v bs) (hr : Rd w A ls) (hl : ls.length = m) (hA : A = none → c = 0)
    (hsz : bs.length + m ≤ 140737488355328) (hbase : base ≤ w.heap.size) :
    ∃ v' w', (Builtin.append_ #[82, 82] 82 #[v, .slice A m c]).run Try.prog w = .ok v' w' ∧ Ow w' base v' (bs ++ ls) ∧ w.grownBy w' v.ownBlock ∧
      (v'.ownBlock = v.ownBlock ∨ v'.ownBlock = some w.heap.size) := by
  obtain ⟨i0, hi, hz0, hz1, hz2⟩ := info_parts u8_info
  rcases A with _ | ad
  · have hm : ls = [] := by
      rcases Nat.eq_zero_or_pos ls.length with h0 | h0
      · exact List.eq_nil_of_length_eq_zero h0
      · obtain ⟨_, _, h, _⟩ := hr h0; cases h
    subst hm
    subst hl
    obtain rfl := hA rfl
    exact ⟨v, w, run_append_owned_none (P := Try.prog) (w := w) base 82 82 5 i0 1 Try.underlying82 hi v bs.length _ hown, by simpa using hown, World.grownBy.refl w _, .inl rfl⟩
  · have hc : ∀ j u, (bvs ls)[j]? = some u → w.cell? (ad.add j) = some u := by
      intro j u hu
      rcases Nat.eq_zero_or_pos ls.length with h0 | h0
      · have : ls = [] := List.eq_nil_of_length_eq_zero h0
        subst this; simp [bvs] at hu
      · obtain ⟨ad', h, hc⟩ := hr.cells h0
        injection h with h
        subst h
        exact hc j u hu
    obtain ⟨v', w', hrun, h2, h3, _, h5⟩ := run_append_own_at (P := Try.prog) w base 82 82 5 i0 (.int .u8 0) 1 1 Try.underlying82 hi hz0 hz1 hz2 rfl (by omega) v bs.length (bvs bs) hown ad m c (bvs ls) (by rw [bvs_length, hl, Nat.mul_one]) hc (bvs_one ls)
      (by simp only [maxLen]; omega) (by omega) hbase
    refine ⟨v', w', hrun, ?_, h3, h5⟩
    unfold Ow
    rw [bvs_append, List.length_append, hl]
    exact h2

/-- the walk's step at an append whose run is known -/
theorem step_append {ops : Array Oper} {rest : List Oper} {o : Oper} {a : Act} {w : World} {Q : Exit → Act → World → Prop} (hgd : o.guard = none) (s x : Operand)
    (ho : o.op = .call { callee := .builtin .append, args := #[s, x], argTypes := #[82, 82] }) (hty : o.type = 82) (vs vx : Value) (hs : a.eval s = vs) (hx : a.eval x = vx) (v' : Value) (w' : World)
    (hrun : (Builtin.append_ #[82, 82] 82 #[vs, vx]).run Try.prog w = .ok v' w') (h : wpList Try.prog ops Q rest (a.put o.dst v') w') : wpList Try.prog ops Q (o :: rest) a w := by
  refine wpList_plain hgd fun K hK => ?_
  unfold Oper.wp
  simp [execOp, ho, hty, resolve, invoke, builtin, hs, hx, hrun, Result.andThen]
  exact hK _ _ h
end Go.Proofs.Ytaggegknnnembaa
namespace Go.Proofs.Ytaggegknnnembaa
open Go.RowKit

end Go.Proofs.Ytaggegknnnembaa
namespace Go.Proofs.Ytaggegknnnembaa
open Go.RowKit
set_option linter.unusedVariables false

/-- it returns a slice of its own that holds these bytes, and nothing that was there has changed -/
def OutO (w : World) (bs : List UInt8) (e : Ending) (w' : World) : Prop := ∃ v, e = .returned v ∧ Ow w' w.heap.size v bs ∧ Below w.heap.size w w'

theorem Row.one (w : World) (b : UInt8) : Row (w.alloc (.cells #[.int .u8 ((b.toNat : Nat) : Int)] 5)) w.heap.size [b] := heap_alloc_new w _

set_option maxRecDepth 100000 in
theorem behind_any (A B : Option Addr) (c d : Nat) (bs ls : List UInt8) (n m : Nat) (hn : bs.length = n) (hm : ls.length = m) (w : World) (ha : Rd w A bs) (hb : Rd w B ls) (hA : A = none → c = 0) (hB : B = none → d = 0) (hs : n + m ≤ 140737488355328) :
    Calls Try.prog 93 #[.slice A n c, .slice B m d] w (OutO w (bs ++ ls)) := by
  obtain ⟨v1, w1, hrun1, how1, hg1, _⟩ := append_bytes w w.heap.size (.slice none 0 0) [] bs A n c (Ow.nil _ _) ha hn hA (by simp; omega) (Nat.le_refl _)
  have hb1 : Below w.heap.size w w1 := (Below.refl _ _).grown hg1 (Nat.le_refl _) (by simp [Value.ownBlock])
  obtain ⟨v2, w2, hrun2, how2, hg2, _⟩ := append_bytes w1 w.heap.size v1 ([] ++ bs) ls B m d how1 (hb.below hb1 (Nat.le_refl _)) hm hB (by simp; omega) hb1.size
  have hb2 : Below w.heap.size w w2 := hb1.grown hg2 hb1.size (fun k hk => (World.ownsRow.lt how1 k hk).1)
  have HN1 := nhid hrun1
  have HN2 := nhid hrun2
  have HO := nhid (p := OutO w (bs ++ ls) (.returned v2) w2) ⟨v2, rfl, by simpa using how2, hb2⟩
  clear hrun1 hrun2 how1 how2 hg1 hg2 hb1 hb2
  go_enter Try.func93, Try.ntmps93
  go_wp2_with (first | (at_builtin; refine step_append rfl (.const (.slice none 0 0)) (.tmp 5) rfl rfl _ _ rfl rfl v1 w1 HN1.out ?_) | (at_builtin; refine step_append rfl (.tmp 6) (.tmp 7) rfl rfl _ _ rfl rfl v2 w2 HN2.out ?_))
  go_ret
  exact HO.out

set_option maxRecDepth 100000 in
theorem row_any (k : Nat) : ∀ (n : Nat) (ki : Int) (w : World), n < 18446744073709551616 → ki = (k : Int) → k ≤ 8 → Calls Try.prog 94 #[.int .u64 (n : Int), .int .i64 ki] w (OutO w (be n k)) := by
  induction k with
  | zero =>
    rintro n ki w hn rfl _
    have HO := nhid (p := OutO w (be n 0) (.returned (.slice none 0 0)) w) ⟨_, rfl, Ow.nil _ _, Below.refl _ _⟩
    go_enter Try.func94, Try.ntmps94
    go_wp2
    go_ret
    exact HO.out
  | succ k ih =>
    rintro n ki w hn rfl hk
    have IH := nhid (ih (n / 256) (k : Int) w (by omega) rfl (by omega))
    clear ih
    have HB := nhid (p := ((n : Int) % 256) = (((UInt8.ofNat n).toNat : Nat) : Int)) (by rw [UInt8.toNat_ofNat']; omega)
    have HD := nhid (p := ((n : Int) / 256) = ((n / 256 : Nat) : Int)) (by omega)
    have HK := nhid (p := (((k + 1 : Nat) : Int) - 1) = (k : Int)) (by omega)
    go_enter Try.func94, Try.ntmps94
    go_wp2_with fail
    rw [HD.out]
    refine IH.out.mono ?_
    rintro e w1 ⟨v1, rfl, how1, hb1⟩
    have hR : Row (w1.alloc (.cells #[.int .u8 ((n : Int) % 256)] 5)) w1.heap.size [UInt8.ofNat n] := by rw [HB.out]; exact Row.one w1 _
    obtain ⟨v2, w2, hrun2, how2, hg2, _⟩ := append_bytes (w1.alloc (.cells #[.int .u8 ((n : Int) % 256)] 5)) w.heap.size v1 (be (n / 256) k) [UInt8.ofNat n] (some ⟨w1.heap.size, 0, none⟩) 1 1 (World.ownsRow.alloc how1 _) hR.rd0 rfl (fun h => by cases h) (by rw [be_length]; omega) (by have := hb1.size; simp; omega)
    have hb2 : Below w.heap.size w w2 := (hb1.alloc hb1.size _).grown hg2 (by have := hb1.size; simp; omega) (fun k hk => (World.ownsRow.lt how1 k hk).1)
    have HO := nhid (p := OutO w (be n (k + 1)) (.returned v2) w2) ⟨v2, rfl, by rw [be_snoc]; exact how2, hb2⟩
    have HN2 := nhid hrun2
    clear hrun2 how1 how2 hg2 hb1 hb2 hR
    go_wp2_with (at_builtin; refine step_append rfl (.tmp 11) (.tmp 15) rfl rfl _ _ rfl rfl v2 w2 HN2.out ?_)
    go_ret
    exact HO.out
end Go.Proofs.Ytaggegknnnembaa
namespace Go.Proofs.Ytaggegknnnembaa
open Go.RowKit

theorem laid_tail (bs : List UInt8) (N K : Nat) : laid (bs ++ List.replicate K 0) (bs.length + K) N K = bs ++ be N K := by
  have e : bs.length + K - K = bs.length := by omega
  simp [laid, e]

theorem Row.alloc {w : World} {g : Nat} {bs : List UInt8} (h : Row w g bs) (o : Obj) : Row (w.alloc o) g bs := (Below.heap_alloc w o g h.lt).trans h

/-- a new block of words -/
theorem RdW.new (w : World) (g : Nat) (hg : g < w.heap.size) (ws : List Nat) (hw : ∀ x ∈ ws, x < 18446744073709551616) :
    RdW (w.alloc (.cells (ws.map fun (x : Nat) => Value.int .u64 (x : Int)).toArray 22)) g (some ⟨w.heap.size, 0, none⟩) ws := by
  refine ⟨hw, fun hp => ⟨w.heap.size, 0, rfl, by simp, by omega, fun j hj => ?_⟩⟩
  rw [cell_of_row _ _ _ _ 22 (0, 0) (heap_alloc_new w _)]
  simp [hj]

end Go.Proofs.Ytaggegknnnembaa
namespace Go.Proofs.Ytaggegknnnembaa
open Go.RowKit
set_option linter.unusedVariables false

theorem Rd.alloc {w : World} {A : Option Addr} {bs : List UInt8} (h : Rd w A bs) (o : Obj) : Rd (w.alloc o) A bs :=
  h.below ((Below.refl w.heap.size w).alloc (Nat.le_refl _) o) (Nat.le_refl _)

theorem RdW.of_block {w : World} {g h t : Nat} {ws : List Nat} (hw : ∀ x ∈ ws, x < 18446744073709551616) (hh : w.heap[h]? = some (.cells (ws.map fun (x : Nat) => Value.int .u64 (x : Int)).toArray t (0, 0))) (hne : h ≠ g) :
    RdW w g (some ⟨h, 0, none⟩) ws := by
  refine ⟨hw, fun hp => ⟨h, 0, rfl, lt_of_block hh, hne, fun j hj => ?_⟩⟩
  rw [cell_of_row _ _ _ _ t (0, 0) hh]
  simp [hj]

theorem slice_tail (g n m : Nat) (hm : 0 < m) (w : World) :
    (Instr.slice 82 (.slice (some ⟨g, 0, none⟩) (n + m) (n + m)) (some (.int .i64 (n : Int))) none none).run Try.prog w = .ok (.slice (some ⟨g, n, none⟩) m m) w := by
  have h5 : Try.prog.elem 82 = 5 := by kernel_rfl
  rw [run_slice_l (P := Try.prog) w 82 (some ⟨g, 0, none⟩) (n + m) (n + m) (by rw [h5]; exact Try.underlying82) .i64 (n : Int) (by omega) (by omega)]
  have hs : (sizeOf 5).run Try.prog w = .ok 1 w := by kernel_rfl
  rw [h5, hs]
  simp only [Result.andThen, sliced, Int.toNat_natCast]
  rw [if_neg (by omega)]
  simp only [Option.map, Nat.mul_one, nadd_plain, Nat.zero_add]
  rw [show n + m - n = m from by omega]

end Go.Proofs.Ytaggegknnnembaa
namespace Go.Proofs.Ytaggegknnnembaa
open Go.RowKit
set_option linter.unusedVariables false

theorem laid_mid (bs : List UInt8) (N K m : Nat) : laid (bs ++ List.replicate (K + m) 0) (bs.length + K) N K = (bs ++ be N K) ++ List.replicate m 0 := by
  have e : bs.length + K - K = bs.length := by omega
  simp [laid, e]

theorem splice_tail (X : List UInt8) (ls : List UInt8) : splice (bvs (X ++ List.replicate ls.length 0)) X.length (bvs ls) = bvs (X ++ ls) := by
  simp [splice, bvs]

/-- copy(dst, src), dst in a block that is known whole -/
theorem copy_bytes (w : World) (g off dLen dCap sCap : Nat) (D B : Option Addr) (cur ls : List UInt8) (hD : 0 < ls.length → D = some ⟨g, off, none⟩) (hg : Row w g cur) (hl : Rd w B ls)
    (hfit : off + ls.length ≤ cur.length) (hd : ls.length ≤ dLen) :
    ∃ w3, (Builtin.copy_ #[82, 82] 3 #[.slice D dLen dCap, .slice B ls.length sCap]).run Try.prog w = .ok (goInt ls.length) w3 ∧
      Row w3 g (cur.take off ++ (ls ++ cur.drop (off + ls.length))) ∧ w.grownBy w3 (some g) := by
  rcases Nat.eq_zero_or_pos ls.length with h0 | h0
  · have hn : ls = [] := List.eq_nil_of_length_eq_zero h0
    subst hn
    refine ⟨w, ?_, by simpa using hg, World.grownBy.refl w _⟩
    exact run_copy_none (P := Try.prog) w 82 82 3 5 D B dLen dCap 0 sCap Try.underlying82 u8_size (Nat.zero_min _)
  · obtain rfl := hD h0
    obtain ⟨ad, rfl, hc⟩ := hl.cells h0
    have hrun := run_copy_row (P := Try.prog) w 82 82 3 5 g off dLen dCap ad ls.length sCap (bvs cur).toArray 5 (bvs ls) Try.underlying82 u8_size hg
      (by rw [bvs_length]; exact (Nat.min_eq_left hd).symm) hc (by simpa [bvs_length] using hfit) (bvs_one ls)
    rw [bvs_length] at hrun
    refine ⟨_, hrun, ?_, ?_⟩
    · have := setRow_heap w g _ ((bvs cur).take off ++ bvs ls ++ (bvs cur).drop (off + ls.length)).toArray 5 (0, 0) hg
      unfold Row
      rw [bvs_append, bvs_append, bvs_take, bvs_drop, ← List.append_assoc]
      exact this
    · exact ⟨rfl, rfl, rfl, by simp [World.setRow], fun k hk hne => setRow_other w g k _ (fun e => hne (by rw [e]))⟩

end Go.Proofs.Ytaggegknnnembaa
namespace Go.Proofs.Ytaggegknnnembaa
open Go.RowKit
set_option linter.unusedVariables false

end Go.Proofs.Ytaggegknnnembaa
namespace Go.Proofs.Ytaggegknnnembaa
open Go.RowKit
set_option linter.unusedVariables false

end Go.Proofs.Ytaggegknnnembaa
namespace Go.Proofs.Ytaggegknnnembaa
open Go.RowKit
set_option linter.unusedVariables false

/-- the eight bytes of word j, the highest word ahead -/
def word (bs : List UInt8) (j : Nat) : Nat := tell ((bs.drop (8 * j)).take 8)

end Go.Proofs.Ytaggegknnnembaa
namespace Go.Proofs.Ytaggegknnnembaa
open Go.RowKit
set_option linter.unusedVariables false

theorem row_none (n : Nat) (ki : Int) (w : World) (hn : n < 18446744073709551616) (hk : ki ≤ 0) (h1 : -9223372036854775808 ≤ ki) : Calls Try.prog 94 #[.int .u64 (n : Int), .int .i64 ki] w (OutO w []) := by
  have HO := nhid (p := OutO w [] (.returned (.slice none 0 0)) w) ⟨_, rfl, Ow.nil _ _, Below.refl _ _⟩
  go_enter Try.func94, Try.ntmps94
  go_wp2
  go_ret
  exact HO.out

/-- at any count -/
theorem row_at (n K : Nat) (ki : Int) (w : World) (hn : n < 18446744073709551616) (hK : K = (max ki 0).toNat) (h8 : ki ≤ 8) (h1 : -9223372036854775808 ≤ ki) : Calls Try.prog 94 #[.int .u64 (n : Int), .int .i64 ki] w (OutO w (be n K)) := by
  rcases (show ki ≤ 0 ∨ 0 < ki from by omega) with h | h
  · obtain rfl : K = 0 := by omega
    exact row_none n ki w hn h h1
  · exact row_any K n ki w hn (by omega) (by omega)

theorem OutO.trans {w w1 w2 : World} {bs : List UInt8} {e : Ending} (h : OutO w1 bs e w2) (hb : Below w.heap.size w w1) : OutO w bs e w2 := by
  obtain ⟨v, rfl, how, hb2⟩ := h
  refine ⟨v, rfl, ?_, hb.trans (hb2.mono hb.size)⟩
  refine ⟨how.1, ?_⟩
  rcases how.2 with h | ⟨g, cap, cur, h1, h2, h3⟩
  · exact .inl h
  · exact .inr ⟨g, cap, cur, h1, Nat.le_trans hb.size h2, h3⟩

end Go.Proofs.Ytaggegknnnembaa
namespace Go.Proofs.Ytaggegknnnembaa
open Go.RowKit
set_option linter.unusedVariables false

theorem be_words' (n0 n1 n2 n3 : Nat) (h0 : n0 < 18446744073709551616) (h1 : n1 < 18446744073709551616) (h2 : n2 < 18446744073709551616) (h3 : n3 < 18446744073709551616) :
    be (wnum [n0, n1, n2, n3]) 32 = be n3 8 ++ (be n2 8 ++ (be n1 8 ++ (be n0 8 ++ []))) := by
  have p8 : (256 : Nat) ^ 8 = 18446744073709551616 := by decide
  have step : ∀ x r, x < 18446744073709551616 → be (x + 18446744073709551616 * r) 8 = be x 8 := by
    intro x r hx
    rw [← be_mod, ← be_mod x 8, p8]
    congr 1
    omega
  have cut : ∀ x r k, x < 18446744073709551616 → be (x + 18446744073709551616 * r) (k + 8) = be r k ++ be x 8 := by
    intro x r k hx
    rw [be_add, step x r hx, p8]
    congr 2
    omega
  simp only [wnum]
  rw [show (32 : Nat) = 24 + 8 from rfl, cut _ _ _ h0, show (24 : Nat) = 16 + 8 from rfl, cut _ _ _ h1, show (16 : Nat) = 8 + 8 from rfl, cut _ _ _ h2, step _ _ h3]
  simp

set_option maxRecDepth 100000 in
set_option maxHeartbeats 1600000 in
theorem rputLong_any (A : Option Addr) (c n0 n1 n2 n3 : Nat) (bs : List UInt8) (w : World) (hr : Rd w A bs) (hA : A = none → c = 0) (hn : bs.length ≤ 140737488351232)
    (h0 : n0 < 18446744073709551616) (h1 : n1 < 18446744073709551616) (h2 : n2 < 18446744073709551616) (h3 : n3 < 18446744073709551616) :
    Calls Try.prog 77 #[.slice A bs.length c, .agg #[.int .u64 (n0 : Int), .int .u64 (n1 : Int), .int .u64 (n2 : Int), .int .u64 (n3 : Int)]] w (OutO w (bs ++ be (wnum [n0, n1, n2, n3]) 32)) := by
  rw [be_words' n0 n1 n2 n3 h0 h1 h2 h3]
  go_enter Try.func77, Try.ntmps77
  go_wp2
  have HR0 := nhid (hr.alloc (.cells #[.int .u64 (n0 : Int), .int .u64 (n1 : Int), .int .u64 (n2 : Int), .int .u64 (n3 : Int)] 24))
  have HB0 := nhid ((Below.refl w.heap.size w).alloc (Nat.le_refl _) (.cells #[.int .u64 (n0 : Int), .int .u64 (n1 : Int), .int .u64 (n2 : Int), .int .u64 (n3 : Int)] 24))
  have HX0 := nhid (heap_alloc_new w (.cells #[.int .u64 (n0 : Int), .int .u64 (n1 : Int), .int .u64 (n2 : Int), .int .u64 (n3 : Int)] 24))
  generalize w.alloc (.cells #[.int .u64 (n0 : Int), .int .u64 (n1 : Int), .int .u64 (n2 : Int), .int .u64 (n3 : Int)] 24) = w0 at *
  obtain ⟨gn, hgn⟩ : ∃ gn, gn = w.heap.size := ⟨_, rfl⟩
  rw [← hgn] at HX0 ⊢
  have HG := nhid hgn
  clear hgn
  have HL0 := nhid (Rd.nil w0 none)
  have m0 : w0.cell? ⟨gn, 0, none⟩ = some (.int .u64 (n0 : Int)) := by rw [cell_of_row _ _ _ _ 24 (0, 0) HX0.out]; rfl
  refine wp_loop_rounds 5 ?_
  rw [rounds_succ]
  go_wp2_with fail
  refine (row_any 8 n0 8 w0 h0 rfl (by omega)).mono ?_
  rintro e w1 ⟨v1, rfl, how1, hb1⟩
  have HB1 := nhid (HB0.out.trans (hb1.mono HB0.out.size))
  have HX1 := nhid ((hb1.block _ (lt_of_block HX0.out)).trans HX0.out)
  have HL1 := nhid (HL0.out.below hb1 (Nat.le_refl _))
  have HR1 := nhid (HR0.out.below hb1 (Nat.le_refl _))
  obtain ⟨B1, d1, rfl, hd1, hq1, hrB1, hB1⟩ := how1.form
  rw [be_length] at hd1 ⊢
  have HS1 := nhid hrB1
  clear how1 hrB1 hb1 HB0 HX0 HL0 HR0 hd1 hq1
  go_wp2_with fail
  refine (behind_any B1 none d1 0 (be n0 8) [] 8 0 (be_length _ _) rfl w1 HS1.out HL1.out hB1 (fun _ => rfl) (by omega)).mono ?_
  rintro e w2 ⟨v2, rfl, how2, hb2⟩
  have HB2 := nhid (HB1.out.trans (hb2.mono HB1.out.size))
  have HX2 := nhid ((hb2.block _ (lt_of_block HX1.out)).trans HX1.out)
  have HR2 := nhid (HR1.out.below hb2 (Nat.le_refl _))
  obtain ⟨L2, e2, rfl, hd2, hq2, hrL2, hN2⟩ := how2.form
  rw [show ((be n0 8 ++ []) : List UInt8).length = 8 from by simp [be_length]] at hd2 ⊢
  have HL2 := nhid hrL2
  clear how2 hrL2 hb2 HB1 HX1 HL1 HR1 HS1 hd2 hq2 hB1
  have m1 : w2.cell? ⟨gn, 1, none⟩ = some (.int .u64 (n1 : Int)) := by rw [cell_of_row _ _ _ _ 24 (0, 0) HX2.out]; rfl
  go_wp2
  rw [rounds_succ]
  go_wp2_with fail
  refine (row_any 8 n1 8 w2 h1 rfl (by omega)).mono ?_
  rintro e w3 ⟨v3, rfl, how3, hb3⟩
  have HB3 := nhid (HB2.out.trans (hb3.mono HB2.out.size))
  have HX3 := nhid ((hb3.block _ (lt_of_block HX2.out)).trans HX2.out)
  have HL3 := nhid (HL2.out.below hb3 (Nat.le_refl _))
  have HR3 := nhid (HR2.out.below hb3 (Nat.le_refl _))
  obtain ⟨B3, d3, rfl, hd3, hq3, hrB3, hB3⟩ := how3.form
  rw [be_length] at hd3 ⊢
  have HS3 := nhid hrB3
  clear how3 hrB3 hb3 HB2 HX2 HL2 HR2 hd3 hq3
  go_wp2_with fail
  refine (behind_any B3 L2 d3 e2 (be n1 8) (be n0 8 ++ []) 8 8 (be_length _ _) (by simp [be_length]) w3 HS3.out HL3.out hB3 hN2 (by omega)).mono ?_
  rintro e w4 ⟨v4, rfl, how4, hb4⟩
  have HB4 := nhid (HB3.out.trans (hb4.mono HB3.out.size))
  have HX4 := nhid ((hb4.block _ (lt_of_block HX3.out)).trans HX3.out)
  have HR4 := nhid (HR3.out.below hb4 (Nat.le_refl _))
  obtain ⟨L4, e4, rfl, hd4, hq4, hrL4, hN4⟩ := how4.form
  rw [show ((be n1 8 ++ (be n0 8 ++ [])) : List UInt8).length = 16 from by simp [be_length]] at hd4 ⊢
  have HL4 := nhid hrL4
  clear how4 hrL4 hb4 HB3 HX3 HL3 HR3 HS3 hd4 hq4 hB3 hN2
  have m2 : w4.cell? ⟨gn, 2, none⟩ = some (.int .u64 (n2 : Int)) := by rw [cell_of_row _ _ _ _ 24 (0, 0) HX4.out]; rfl
  go_wp2
  rw [rounds_succ]
  go_wp2_with fail
  refine (row_any 8 n2 8 w4 h2 rfl (by omega)).mono ?_
  rintro e w5 ⟨v5, rfl, how5, hb5⟩
  have HB5 := nhid (HB4.out.trans (hb5.mono HB4.out.size))
  have HX5 := nhid ((hb5.block _ (lt_of_block HX4.out)).trans HX4.out)
  have HL5 := nhid (HL4.out.below hb5 (Nat.le_refl _))
  have HR5 := nhid (HR4.out.below hb5 (Nat.le_refl _))
  obtain ⟨B5, d5, rfl, hd5, hq5, hrB5, hB5⟩ := how5.form
  rw [be_length] at hd5 ⊢
  have HS5 := nhid hrB5
  clear how5 hrB5 hb5 HB4 HX4 HL4 HR4 hd5 hq5
  go_wp2_with fail
  refine (behind_any B5 L4 d5 e4 (be n2 8) (be n1 8 ++ (be n0 8 ++ [])) 8 16 (be_length _ _) (by simp [be_length]) w5 HS5.out HL5.out hB5 hN4 (by omega)).mono ?_
  rintro e w6 ⟨v6, rfl, how6, hb6⟩
  have HB6 := nhid (HB5.out.trans (hb6.mono HB5.out.size))
  have HX6 := nhid ((hb6.block _ (lt_of_block HX5.out)).trans HX5.out)
  have HR6 := nhid (HR5.out.below hb6 (Nat.le_refl _))
  obtain ⟨L6, e6, rfl, hd6, hq6, hrL6, hN6⟩ := how6.form
  rw [show ((be n2 8 ++ (be n1 8 ++ (be n0 8 ++ []))) : List UInt8).length = 24 from by simp [be_length]] at hd6 ⊢
  have HL6 := nhid hrL6
  clear how6 hrL6 hb6 HB5 HX5 HL5 HR5 HS5 hd6 hq6 hB5 hN4
  have m3 : w6.cell? ⟨gn, 3, none⟩ = some (.int .u64 (n3 : Int)) := by rw [cell_of_row _ _ _ _ 24 (0, 0) HX6.out]; rfl
  go_wp2
  rw [rounds_succ]
  go_wp2_with fail
  refine (row_any 8 n3 8 w6 h3 rfl (by omega)).mono ?_
  rintro e w7 ⟨v7, rfl, how7, hb7⟩
  have HB7 := nhid (HB6.out.trans (hb7.mono HB6.out.size))
  have HX7 := nhid ((hb7.block _ (lt_of_block HX6.out)).trans HX6.out)
  have HL7 := nhid (HL6.out.below hb7 (Nat.le_refl _))
  have HR7 := nhid (HR6.out.below hb7 (Nat.le_refl _))
  obtain ⟨B7, d7, rfl, hd7, hq7, hrB7, hB7⟩ := how7.form
  rw [be_length] at hd7 ⊢
  have HS7 := nhid hrB7
  clear how7 hrB7 hb7 HB6 HX6 HL6 HR6 hd7 hq7
  go_wp2_with fail
  refine (behind_any B7 L6 d7 e6 (be n3 8) (be n2 8 ++ (be n1 8 ++ (be n0 8 ++ []))) 8 24 (be_length _ _) (by simp [be_length]) w7 HS7.out HL7.out hB7 hN6 (by omega)).mono ?_
  rintro e w8 ⟨v8, rfl, how8, hb8⟩
  have HB8 := nhid (HB7.out.trans (hb8.mono HB7.out.size))
  have HX8 := nhid ((hb8.block _ (lt_of_block HX7.out)).trans HX7.out)
  have HR8 := nhid (HR7.out.below hb8 (Nat.le_refl _))
  obtain ⟨L8, e8, rfl, hd8, hq8, hrL8, hN8⟩ := how8.form
  rw [show ((be n3 8 ++ (be n2 8 ++ (be n1 8 ++ (be n0 8 ++ [])))) : List UInt8).length = 32 from by simp [be_length]] at hd8 ⊢
  have HL8 := nhid hrL8
  clear how8 hrL8 hb8 HB7 HX7 HL7 HR7 HS7 hd8 hq8 hB7 hN6
  go_wp2
  rw [rounds_succ]
  go_wp2_with fail
  refine (behind_any A L8 c e8 bs _ bs.length 32 rfl (by simp [be_length]) w8 HR8.out HL8.out hA hN8 (by omega)).mono ?_
  intro e w9 ho
  have HO := nhid (ho.trans HB8.out)
  clear ho
  obtain ⟨v9, rfl, how9, hb9⟩ := HO.out
  clear how9 hb9
  go_wp2
  go_ret
  exact HO.out
end Go.Proofs.Ytaggegknnnembaa
namespace Go.Proofs.Ytaggegknnnembaa
open Go.RowKit
set_option linter.unusedVariables false

theorem below_of_drewN {w w' : World} {k : Nat} (h : Below (w.drewN k).heap.size (w.drewN k) w') : Below w.heap.size w w' := ⟨h.os, h.tape, h.output, h.size, h.block⟩

theorem ret_int {k : IntKind} {a b : Int} (h : a = b) : Ending.returned (.int k a) = .returned (.int k b) := by rw [h]

/-- a number that a call tells, in a world that only drew -/
def SaysN (w : World) (t : Nat) (e : Ending) (w' : World) : Prop := e = .returned (.int .u64 (t : Int)) ∧ ∃ k, w' = w.drewN k

set_option maxRecDepth 100000 in
theorem rtold_any (m : Nat) : ∀ (A : Option Addr) (c : Nat) (bs : List UInt8) (w : World), bs.length = m → Rd w A bs → m ≤ c → c ≤ 9223372036854775807 → m ≤ 8 →
    Calls Try.prog 95 #[.slice A m c] w (SaysN w (tell bs)) := by
  induction m with
  | zero =>
    intro A c bs w hl hr hc hc2 h8
    obtain rfl : bs = [] := List.eq_nil_of_length_eq_zero hl
    go_enter Try.func95, Try.ntmps95
    go_wp2
    go_ret
    exact ⟨rfl, 0, rfl⟩
  | succ m ih =>
    intro A c bs w hl hr hc hc2 h8
    have hm : m < bs.length := by omega
    have HS := nhid (p := tell bs = tell (bs.take m) * 256 + bs[m].toNat) (by rw [← tell_take_succ bs m hm, List.take_of_length_le (by omega)])
    have hT : tell (bs.take m) < 72057594037927936 := Nat.lt_of_lt_of_le (tell_lt (bs.take m)) (pow256_le (k := (bs.take m).length) (by rw [List.length_take]; omega))
    have hX : bs[m].toNat < 256 := bs[m].toNat_lt
    obtain ⟨g, o, rfl, hg, hcell⟩ := hr (by omega)
    have k0 := hcell m hm
    clear hcell
    have IH := nhid (fun w' (hw : Rd w' (some ⟨g, o, none⟩) (bs.take m)) => ih (some ⟨g, o, none⟩) c (bs.take m) w' (by rw [List.length_take]; omega) hw (by omega) hc2 (by omega))
    clear ih
    have HR := nhid (hr.take m)
    generalize bs[m].toNat = x at *
    generalize tell (bs.take m) = t at *
    clear hr hm
    have hne : (((m + 1 : Nat) : Int) == 0) = false := by simp; omega
    go_enter Try.func95, Try.ntmps95
    go_wp2
    have hw1 : IntKind.u64.wrap (256 * (t : Int)) = 256 * (t : Int) := IntWalk.u64_in _ (by omega)
    have hw2 : IntKind.u64.wrap (x : Int) = (x : Int) := IntWalk.u64_in _ (by omega)
    have hw3 : IntKind.u64.wrap (256 * (t : Int) + (x : Int)) = 256 * (t : Int) + (x : Int) := IntWalk.u64_in _ (by omega)
    have i1 : (m : Int) < (m : Int) + 1 := by omega
    have i2 : (0 : Int) ≤ (m : Int) := by omega
    have i3 : (m : Int) ≤ (c : Int) := by omega
    go_quiet ((go_at_call 95; exact Calls.quiet_of (IH.out _ (by exact HR.out))))
    go_wp2
    go_ret
    exact ⟨ret_int (by rw [HS.out]; omega), nq, rfl⟩

/-- two results, in a world that only drew -/
def Says2 (w : World) (a b : Int) (e : Ending) (w' : World) : Prop := e = .returned (.tuple #[.int .u64 a, .int .i64 b]) ∧ ∃ k, w' = w.drewN k

theorem rget_arg (A : Option Addr) (n c : Nat) (k : Int) (w : World) (hk : k < 0 ∨ 8 < k) : Calls Try.prog 98 #[.slice A n c, .int .i64 k] w (Says2 w 0 1) := by
  rcases hk with hk | hk
  · go_enter Try.func98, Try.ntmps98
    go_wp2
    go_ret2
    exact ⟨rfl, 0, rfl⟩
  · have h' : ¬ k < 0 := by omega
    go_enter Try.func98, Try.ntmps98
    go_wp2
    go_ret2
    exact ⟨rfl, 0, rfl⟩

theorem rget_short (A : Option Addr) (n c : Nat) (k : Int) (w : World) (h0 : 0 ≤ k) (h8 : k ≤ 8) (hk : (n : Int) < k) : Calls Try.prog 98 #[.slice A n c, .int .i64 k] w (Says2 w 0 5) := by
  go_enter Try.func98, Try.ntmps98
  go_wp2
  go_ret2
  exact ⟨rfl, 0, rfl⟩

set_option maxRecDepth 100000 in
theorem rget_ok (A : Option Addr) (c K : Nat) (bs : List UInt8) (w : World) (hr : Rd w A bs) (hc : bs.length ≤ c) (hc2 : c ≤ 9223372036854775807) (h8 : K ≤ 8) (hk : K ≤ bs.length) :
    Calls Try.prog 98 #[.slice A bs.length c, .int .i64 (K : Int)] w (Says2 w (tell (bs.take K) : Int) 0) := by
  have HT := nhid (rtold_any K A c (bs.take K) w (by rw [List.length_take]; omega) (hr.take K) (by omega) hc2 h8)
  go_enter Try.func98, Try.ntmps98
  go_wp2_with fail
  refine HT.out.mono ?_
  rintro e w' ⟨rfl, nq, rfl⟩
  go_wp2
  go_ret2
  exact ⟨rfl, nq, rfl⟩

theorem Rd.drewN {w : World} {A : Option Addr} {bs : List UInt8} (h : Rd w A bs) (k : Nat) : Rd (w.drewN k) A bs := h

theorem rtold_len (A : Option Addr) (c t : Nat) (bs : List UInt8) (w : World) (hl : bs.length = 8) (hc : 8 ≤ c) (hc2 : c ≤ 9223372036854775807) (ht : tell bs = t) (hr : Rd w A bs) :
    Calls Try.prog 95 #[.slice A 8 c] w (SaysN w t) := by
  subst ht; exact rtold_any 8 A c bs w hl hr hc hc2 (by omega)

theorem rgetLong_short (A : Option Addr) (n c : Nat) (w : World) (hn : n < 32) :
    Calls Try.prog 78 #[.slice A n c] w fun e w' => e = .returned (.tuple #[.agg #[.int .u64 0, .int .u64 0, .int .u64 0, .int .u64 0], .int .i64 5]) ∧ Below w.heap.size w w' := by
  go_enter Try.func78, Try.ntmps78
  go_wp2
  refine bodyPost_ret (v := .tuple #[.agg #[.int .u64 0, .int .u64 0, .int .u64 0, .int .u64 0], .int .i64 5]) (by simp [results, Try.results78, go_sem]) rfl ⟨rfl, ?_⟩
  exact ((Below.refl _ _).alloc (Nat.le_refl _) _).alloc (by simp) _

/-- the result's box and the number's, while it is made -/
def GL (w wk : World) (x y : Array Value) : Prop := Below w.heap.size w wk ∧ wk.heap[w.heap.size]? = some (.cells x 24 (0, 0)) ∧ wk.heap[w.heap.size + 1]? = some (.cells y 24 (0, 0))
theorem GL.drewN {w wk : World} {x y : Array Value} (h : GL w wk x y) (k : Nat) : GL w (wk.drewN k) x y := ⟨below_drewN h.1 k, h.2⟩
theorem GL.cell {w wk : World} {x y : Array Value} (h : GL w wk x y) (i : Nat) (v : Value) (hv : y[i]? = some v) : wk.cell? ⟨w.heap.size + 1, i, none⟩ = some v := by rw [cell_of_row _ _ _ _ 24 (0, 0) h.2.2, hv]
theorem GL.cell0 {w wk : World} {x y : Array Value} (h : GL w wk x y) (i : Nat) (v : Value) (hv : x[i]? = some v) : wk.cell? ⟨w.heap.size, i, none⟩ = some v := by rw [cell_of_row _ _ _ _ 24 (0, 0) h.2.1, hv]
theorem GL.frozen {w wk : World} {x y : Array Value} (h : GL w wk x y) (i : Nat) : wk.frozen? ⟨w.heap.size + 1, i, none⟩ = false := by simp [World.frozen?, h.2.2]
theorem GL.frozen0 {w wk : World} {x y : Array Value} (h : GL w wk x y) (i : Nat) : wk.frozen? ⟨w.heap.size, i, none⟩ = false := by simp [World.frozen?, h.2.1]
theorem GL.set {w wk : World} {x y : Array Value} (h : GL w wk x y) (i : Nat) (v : Value) : GL w (wk.setCell ⟨w.heap.size + 1, i, none⟩ v) x (y.setIfInBounds i v) :=
  ⟨h.1.setCell (by simp) v, (Below.heap_setCell wk _ v _ (by simp)).trans h.2.1, by simp [World.setCell, Array.getElem?_modify, h.2.2]⟩

set_option maxRecDepth 100000 in
set_option maxHeartbeats 800000 in
theorem rgetLong_ok (A : Option Addr) (c : Nat) (bs : List UInt8) (w : World) (hr : Rd w A bs) (hc : bs.length ≤ c) (hc2 : c ≤ 9223372036854775807) (h4 : 32 ≤ bs.length) :
    Calls Try.prog 78 #[.slice A bs.length c] w fun e w' => e = .returned (.tuple #[.agg #[.int .u64 (word bs 3 : Int), .int .u64 (word bs 2 : Int), .int .u64 (word bs 1 : Int), .int .u64 (word bs 0 : Int)], .int .i64 0]) ∧
      Below w.heap.size w w' := by
  obtain ⟨g, o, rfl, hg, hcell⟩ := hr (by omega)
  have H0 := nhid ((hr.cut 0 (some ⟨g, o, none⟩) (fun ad h _ => by injection h with h; subst h; rw [nadd_plain]; rfl)).take 8)
  have H1 := nhid ((hr.cut 8 (some ⟨g, o + 8, none⟩) (fun ad h _ => by injection h with h; subst h; rw [nadd_plain])).take 8)
  have H2 := nhid ((hr.cut 16 (some ⟨g, o + 16, none⟩) (fun ad h _ => by injection h with h; subst h; rw [nadd_plain])).take 8)
  have H3 := nhid ((hr.cut 24 (some ⟨g, o + 24, none⟩) (fun ad h _ => by injection h with h; subst h; rw [nadd_plain])).take 8)
  have HL : Hid (∀ k, k ≤ 24 → ((bs.drop k).take 8).length = 8) := nhid (fun k hk => by simp; omega)
  have W0 := nhid (p := tell ((bs.drop 0).take 8) = word bs 0) rfl
  have W1 := nhid (p := tell ((bs.drop 8).take 8) = word bs 1) rfl
  have W2 := nhid (p := tell ((bs.drop 16).take 8) = word bs 2) rfl
  have W3 := nhid (p := tell ((bs.drop 24).take 8) = word bs 3) rfl
  clear hcell hr
  have h32 : decide ((bs.length : Int) < 32) = false := by simp; omega
  generalize word bs 0 = x0 at *
  generalize word bs 1 = x1 at *
  generalize word bs 2 = x2 at *
  generalize word bs 3 = x3 at *
  go_enter Try.func78, Try.ntmps78
  go_wp2
  have G0 := nhid (p := GL w ((w.alloc (.cells #[.int .u64 0, .int .u64 0, .int .u64 0, .int .u64 0] 24)).alloc (.cells #[.int .u64 0, .int .u64 0, .int .u64 0, .int .u64 0] 24)) #[.int .u64 0, .int .u64 0, .int .u64 0, .int .u64 0] #[.int .u64 0, .int .u64 0, .int .u64 0, .int .u64 0]) ⟨((Below.refl _ _).alloc (Nat.le_refl _) _).alloc (by simp) _, (Below.heap_alloc _ _ _ (by simp)).trans (heap_alloc_new _ _), by
    have := heap_alloc_new (w.alloc (.cells #[.int .u64 0, .int .u64 0, .int .u64 0, .int .u64 0] 24)) (.cells #[.int .u64 0, .int .u64 0, .int .u64 0, .int .u64 0] 24)
    simpa using this⟩
  generalize (w.alloc (.cells #[.int .u64 0, .int .u64 0, .int .u64 0, .int .u64 0] 24)).alloc (.cells #[.int .u64 0, .int .u64 0, .int .u64 0, .int .u64 0] 24) = w0 at *
  refine wp_loop_rounds 5 ?_
  rw [rounds_succ]
  go_wp2_with fail
  refine (rtold_len _ _ x3 _ _ (HL.out 24 (by omega)) (by omega) (by omega) W3.out (H3.out.below G0.out.1 (Nat.le_refl _))).mono ?_
  rintro e w' ⟨rfl, q0, rfl⟩
  have G0' := nhid (G0.out.drewN q0)
  clear G0
  generalize w0.drewN q0 = v0 at *
  have c0 := G0'.out.cell 0 _ rfl
  have f0 := G0'.out.frozen 0
  go_wp2
  clear c0 f0
  have G1 := nhid (p := GL w (v0.setCell ⟨w.heap.size + 1, 0, none⟩ (.int .u64 (x3 : Int))) #[.int .u64 0, .int .u64 0, .int .u64 0, .int .u64 0] #[.int .u64 (x3 : Int), .int .u64 0, .int .u64 0, .int .u64 0]) (G0'.out.set 0 _)
  clear G0'
  generalize v0.setCell ⟨w.heap.size + 1, 0, none⟩ (.int .u64 (x3 : Int)) = w1 at *
  rw [rounds_succ]
  go_wp2_with fail
  refine (rtold_len _ _ x2 _ _ (HL.out 16 (by omega)) (by omega) (by omega) W2.out (H2.out.below G1.out.1 (Nat.le_refl _))).mono ?_
  rintro e w' ⟨rfl, q1, rfl⟩
  have G1' := nhid (G1.out.drewN q1)
  clear G1
  generalize w1.drewN q1 = v1 at *
  have c1 := G1'.out.cell 1 _ rfl
  have f1 := G1'.out.frozen 1
  go_wp2
  clear c1 f1
  have G2 := nhid (p := GL w (v1.setCell ⟨w.heap.size + 1, 1, none⟩ (.int .u64 (x2 : Int))) #[.int .u64 0, .int .u64 0, .int .u64 0, .int .u64 0] #[.int .u64 (x3 : Int), .int .u64 (x2 : Int), .int .u64 0, .int .u64 0]) (G1'.out.set 1 _)
  clear G1'
  generalize v1.setCell ⟨w.heap.size + 1, 1, none⟩ (.int .u64 (x2 : Int)) = w2 at *
  rw [rounds_succ]
  go_wp2_with fail
  refine (rtold_len _ _ x1 _ _ (HL.out 8 (by omega)) (by omega) (by omega) W1.out (H1.out.below G2.out.1 (Nat.le_refl _))).mono ?_
  rintro e w' ⟨rfl, q2, rfl⟩
  have G2' := nhid (G2.out.drewN q2)
  clear G2
  generalize w2.drewN q2 = v2 at *
  have c2 := G2'.out.cell 2 _ rfl
  have f2 := G2'.out.frozen 2
  go_wp2
  clear c2 f2
  have G3 := nhid (p := GL w (v2.setCell ⟨w.heap.size + 1, 2, none⟩ (.int .u64 (x1 : Int))) #[.int .u64 0, .int .u64 0, .int .u64 0, .int .u64 0] #[.int .u64 (x3 : Int), .int .u64 (x2 : Int), .int .u64 (x1 : Int), .int .u64 0]) (G2'.out.set 2 _)
  clear G2'
  generalize v2.setCell ⟨w.heap.size + 1, 2, none⟩ (.int .u64 (x1 : Int)) = w3 at *
  rw [rounds_succ]
  go_wp2_with fail
  refine (rtold_len _ _ x0 _ _ (HL.out 0 (by omega)) (by omega) (by omega) W0.out (H0.out.below G3.out.1 (Nat.le_refl _))).mono ?_
  rintro e w' ⟨rfl, q3, rfl⟩
  have G3' := nhid (G3.out.drewN q3)
  clear G3
  generalize w3.drewN q3 = v3 at *
  have c3 := G3'.out.cell 3 _ rfl
  have f3 := G3'.out.frozen 3
  go_wp2
  clear c3 f3
  have G4 := nhid (p := GL w (v3.setCell ⟨w.heap.size + 1, 3, none⟩ (.int .u64 (x0 : Int))) #[.int .u64 0, .int .u64 0, .int .u64 0, .int .u64 0] #[.int .u64 (x3 : Int), .int .u64 (x2 : Int), .int .u64 (x1 : Int), .int .u64 (x0 : Int)]) (G3'.out.set 3 _)
  clear G3'
  generalize v3.setCell ⟨w.heap.size + 1, 3, none⟩ (.int .u64 (x0 : Int)) = w4 at *
  rw [rounds_succ]
  have c0 := G4.out.cell 0 _ rfl
  have c1 := G4.out.cell 1 _ rfl
  have c2 := G4.out.cell 2 _ rfl
  have c3 := G4.out.cell 3 _ rfl
  have d0 := G4.out.cell0 0 _ rfl
  have d1 := G4.out.cell0 1 _ rfl
  have d2 := G4.out.cell0 2 _ rfl
  have d3 := G4.out.cell0 3 _ rfl
  have e0 := G4.out.frozen0 0
  have e1 := G4.out.frozen0 1
  have e2 := G4.out.frozen0 2
  have e3 := G4.out.frozen0 3
  go_wp2
  refine bodyPost_ret (v := .tuple #[.agg #[.int .u64 (x3 : Int), .int .u64 (x2 : Int), .int .u64 (x1 : Int), .int .u64 (x0 : Int)], .int .i64 0]) (by simp [results, Try.results78, go_sem, d0, d1, d2, d3]) rfl ⟨rfl, ?_⟩
  exact (((G4.out.1.setCell (Nat.le_refl _) _).setCell (Nat.le_refl _) _).setCell (Nat.le_refl _) _).setCell (Nat.le_refl _) _
end Go.Proofs.Ytaggegknnnembaa
