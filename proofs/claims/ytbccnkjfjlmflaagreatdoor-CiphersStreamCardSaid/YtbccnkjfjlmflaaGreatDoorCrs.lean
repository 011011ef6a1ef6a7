/-
  burrowref09.Stream: boxes and a slice of one's own, side by side. Conditions: none.
-/
import Derived.Test.YtbccnkjfjlmflaaGreatDoorCre
import Derived.Test.YtbccnkjfjlmflaaGreatDoorAppend
import Derived.Test.YtbccnkjfjlmflaaGreatDoorCig
namespace Go.Proofs.YtbccnkjfjlmflaaGreatDoor
open Go.RowKit
set_option linter.unusedVariables false
set_option linter.unusedSimpArgs false

theorem bt_rd {w : World} {g t : Nat} {b : List UInt8} (h : Bt w g t b) : Rd w (some ⟨g, 0, none⟩) b := fun hp =>
  ⟨g, 0, rfl, h.lt, fun j hj => by rw [Nat.zero_add]; exact h.cell j hj⟩
/-- boxes, and a slice of one's own that is none of them -/
structure Sx (w : World) (l : List (Nat × TypeId × List UInt8)) (v : Value) (bs : List UInt8) (w' : World) : Prop where
  bx : Bx w l w'
  ow : Ow w' w.heap.size v bs
  far : ∀ x ∈ l, v.ownBlock ≠ some x.1
section
variable {w w' w2 : World} {l : List (Nat × TypeId × List UInt8)} {v : Value} {bs : List UInt8}
theorem gr_of (h : Below w.heap.size w w') (row : Option Nat) : w.grownBy w' row := ⟨h.os, h.tape, h.output, h.size, fun k hk _ => h.block k hk⟩
theorem own_on {base : Nat} (h : Ow w' base v bs) (hb : Below w'.heap.size w' w2) : Ow w2 base v bs :=
  World.ownsRow.kept h (gr_of hb none) (by cases hv : v.ownBlock with | none => exact .inl rfl | some k => exact .inr (by simp))
theorem Sx.new (h : Bx w l w') : Sx w l (.slice none 0 0) [] w' := ⟨h, Ow.nil _ _, fun x _ e => by cases e⟩
theorem Sx.on (h : Sx w l v bs w') (hb : Below w'.heap.size w' w2) : Sx w l v bs w2 := ⟨h.bx.on hb, own_on h.ow hb, h.far⟩
theorem Sx.tail {x : Nat × TypeId × List UInt8} (h : Sx w (x :: l) v bs w') : Sx w l v bs w' := ⟨h.bx.tail, h.ow, fun y hy => h.far y (List.mem_cons_of_mem _ hy)⟩
theorem Sx.add (h : Sx w l v bs w') (t : TypeId) (b : List UInt8) : Sx w ((w'.heap.size, t, b) :: l) v bs (w'.alloc (.cells (bvs b).toArray t)) := by
  refine ⟨h.bx.add t b, own_on h.ow ((Below.refl _ _).alloc (Nat.le_refl _) _), fun x hx => ?_⟩
  rcases List.mem_cons.1 hx with rfl | hx
  · intro e
    have := (World.ownsRow.lt h.ow _ e).2
    exact absurd this (Nat.lt_irrefl _)
  · exact h.far x hx
theorem sx_turn (h : Sx w l v bs w') (n : Nat) {g : Nat} {t : TypeId} {b b2 : List UInt8} (hn : l[n]? = some (g, t, b)) (hx : Bx w (l.set n (g, t, b2)) w2) (hg : w'.grownBy w2 (some g)) : Sx w (l.set n (g, t, b2)) v bs w2 := by
  have hne := h.far _ (List.mem_of_getElem? hn)
  refine ⟨hx, World.ownsRow.kept h.ow hg (.inr hne), fun x hx => ?_⟩
  rcases List.mem_or_eq_of_mem_set hx with hx | rfl
  · exact h.far x hx
  · exact hne
theorem gr_set (w : World) (g k : Nat) (x : Value) : w.grownBy (w.setCell ⟨g, k, none⟩ x) (some g) := ⟨rfl, rfl, rfl, by simp [World.setCell], fun i hi hne => Below.heap_setCell w ⟨g, k, none⟩ x i (fun e => hne (by rw [e]))⟩
theorem gr_row (w : World) (g : Nat) (cs : Array Value) : w.grownBy (w.setRow g cs) (some g) := ⟨rfl, rfl, rfl, by simp [World.setRow], fun i hi hne => setRow_other w g i cs (fun e => hne (by rw [e]))⟩
theorem Sx.set (h : Sx w l v bs w') (n : Nat) {g : Nat} {t : TypeId} {b : List UInt8} (hn : l[n]? = some (g, t, b)) (k : Nat) (x : UInt8) : Sx w (l.set n (g, t, b.set k x)) v bs (w'.setCell ⟨g, k, none⟩ (bv x)) :=
  sx_turn h n hn (h.bx.set n hn k x) (gr_set _ _ _ _)
theorem Sx.row (h : Sx w l v bs w') (n : Nat) {g : Nat} {t : TypeId} {b : List UInt8} (hn : l[n]? = some (g, t, b)) (b2 : List UInt8) : Sx w (l.set n (g, t, b2)) v bs (w'.setRow g (bvs b2).toArray) :=
  sx_turn h n hn (h.bx.row n hn b2) (gr_row _ _ _)
theorem Sx.put (h : Sx w l v bs w') {p : List UInt8} {A : Option Addr} {m c : Nat} (hrd : Rd w' A p) (hl : p.length = m) (hA : A = none → c = 0) (hs : bs.length + m ≤ 140737488355328) :
    ∃ A2 n2 c2 w3, Hid ((Builtin.append_ #[23, 23] 23 #[v, .slice A m c]).run Tryz.prog w' = .ok (.slice A2 n2 c2) w3) ∧ Hid (Sx w l (.slice A2 n2 c2) (bs ++ p) w3) ∧ Hid (n2 = bs.length + m) := by
  obtain ⟨v2, w3, hrun, hown, hg3, hob⟩ := append_bytes w' w.heap.size v bs p A m c h.ow hrd hl hA hs h.bx.below.size
  obtain ⟨A2, c2, rfl, _, _, _, _⟩ := hown.form
  have hfar : ∀ k, v.ownBlock = some k → w.heap.size ≤ k ∧ k < w'.heap.size := World.ownsRow.lt h.ow
  have keep : ∀ g, g < w.heap.size → w3.heap[g]? = w'.heap[g]? := fun g hg => hg3.block g (by have := h.bx.below.size; omega) (by intro e; have := (hfar g e.symm).1; omega)
  refine ⟨A2, _, c2, w3, hid hrun, hid ⟨⟨h.bx.below.trans ⟨hg3.os, hg3.tape, hg3.output, hg3.size, keep⟩, h.bx.sep, fun x hx => ⟨(h.bx.all x hx).1, ?_⟩⟩, hown, fun x hx => ?_⟩, hid (by rw [List.length_append, hl])⟩
  · have hb := (h.bx.all x hx).2
    exact (hg3.block x.1 hb.lt (fun e => h.far x hx e.symm)).trans hb
  · intro e
    rcases hob with e2 | e2
    · rw [e2] at e; exact h.far x hx e
    · rw [e2] at e; injection e with e
      have := (h.bx.all x hx).2.lt
      omega
end
/-- the number and what is out, ahead of byte i -/
def fr (first : List UInt8) (i : Nat) : List UInt8 := nth16 first ((i + 15) / 16 - 1)
def od (n i : Nat) : Nat := min n (16 * ((i + 15) / 16))
theorem fr_length (first : List UInt8) (i : Nat) (h : first.length = 16) : (fr first i).length = 16 := by rw [fr, nth16_length, h]
theorem fr_up (first : List UInt8) (i : Nat) (h : i % 16 = 0) (h0 : 0 < i) : nxt (fr first i) = fr first (i + 1) := by
  unfold fr
  rw [show (i + 1 + 15) / 16 - 1 = ((i + 15) / 16 - 1) + 1 by omega]; rfl
theorem fr_on (first : List UInt8) (i : Nat) (h : ¬ (i % 16 = 0 ∧ 0 < i)) : fr first i = fr first (i + 1) := by
  unfold fr
  rw [show (i + 1 + 15) / 16 - 1 = (i + 15) / 16 - 1 by omega]
theorem fr_ks (key first : List UInt8) (i k : Nat) (h : i % 16 = 0) (hk : k < 16) : gb (enc key (fr first (i + 1))) k = ks key first (i + k) := by
  unfold fr ks
  rw [show (i + 1 + 15) / 16 - 1 = (i + k) / 16 by omega, show (i + k) % 16 = k by omega]
theorem od_at (n i k : Nat) (h : i % 16 = 0) (hi : i < n) (hk : k ≤ 16) (he : ¬ (k < 16 ∧ i + k < n)) : i + k = od n (i + 1) ∨ n < i + k := by
  unfold od; omega
theorem od_in (n i : Nat) (h : i % 16 = 0) (hi : i < n) : od n i = i := by unfold od; omega
theorem od_on (n i : Nat) (h : ¬ i % 16 = 0) : od n i = od n (i + 1) := by unfold od; omega
theorem od_end (n : Nat) : od n n = n := by unfold od; omega
theorem strm_more (key first b : List UInt8) (m : Nat) (h : m < b.length) : (strm key first b).take (m + 1) = (strm key first b).take m ++ [gb b m ^^^ ks key first m] := by
  rw [List.take_succ_eq_append_getElem (by rw [strm_length]; exact h), ← gb_strm key first b m h, gb_lt (by rw [strm_length]; exact h)]
end Go.Proofs.YtbccnkjfjlmflaaGreatDoor
