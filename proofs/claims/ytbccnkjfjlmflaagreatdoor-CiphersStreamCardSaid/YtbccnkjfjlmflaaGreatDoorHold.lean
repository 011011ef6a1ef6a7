/-
  What the laws carry from call to call: blocks of bytes that were made, and the Book with lists in it. Conditions: none.
-/
import Derived.Test.YtbccnkjfjlmflaaGreatDoorApart
namespace Go.Proofs.YtbccnkjfjlmflaaGreatDoor
open Go.RowKit
set_option linter.unusedVariables false

/-- blocks of bytes that are known whole -/
def Rws (w : World) (L : List (Nat × List UInt8)) : Prop := ∀ p ∈ L, Row w p.1 p.2
theorem Rws.nil (w : World) : Rws w [] := fun p h => by cases h
theorem Rws.below {w w' : World} {L : List (Nat × List UInt8)} (h : Rws w L) (hb : Below w.heap.size w w') : Rws w' L := fun p hp => (h p hp).below hb (h p hp).lt
theorem Rws.add {w : World} {L : List (Nat × List UInt8)} (h : Rws w L) {g : Nat} {bs : List UInt8} (hr : Row w g bs) : Rws w ((g, bs) :: L) := by
  intro p hp
  rcases List.mem_cons.1 hp with rfl | hp
  · exact hr
  · exact h p hp
theorem Rws.get {w : World} {L : List (Nat × List UInt8)} (h : Rws w L) {g : Nat} {bs : List UInt8} (hm : (g, bs) ∈ L) : Row w g bs := h (g, bs) hm

/-- what is carried: nothing below w has changed; a box; blocks of bytes -/
structure Car (w : World) (gz : Nat) (zc : Array Value) (zt : TypeId) (L : List (Nat × List UInt8)) (wk : World) : Prop where
  bel : Below w.heap.size w wk
  box : wk.heap[gz]? = some (.cells zc zt (0, 0))
  row : Rws wk L
theorem Car.below {w : World} {gz : Nat} {zc : Array Value} {zt : TypeId} {L : List (Nat × List UInt8)} {wk w' : World} (h : Car w gz zc zt L wk) (hb : Below wk.heap.size wk w') : Car w gz zc zt L w' :=
  ⟨h.bel.trans (hb.mono h.bel.size), (hb.block gz (lt_of_block h.box)).trans h.box, h.row.below hb⟩
theorem Car.alloc {w : World} {gz : Nat} {zc : Array Value} {zt : TypeId} {L : List (Nat × List UInt8)} {wk : World} (h : Car w gz zc zt L wk) (o : Obj) : Car w gz zc zt L (wk.alloc o) := h.below ((Below.refl _ _).alloc (Nat.le_refl _) o)
theorem Car.add {w : World} {gz : Nat} {zc : Array Value} {zt : TypeId} {L : List (Nat × List UInt8)} {wk : World} (h : Car w gz zc zt L wk) {g : Nat} {bs : List UInt8} (hr : Row wk g bs) : Car w gz zc zt ((g, bs) :: L) wk := ⟨h.bel, h.box, h.row.add hr⟩
theorem Car.drewN {w : World} {gz : Nat} {zc : Array Value} {zt : TypeId} {L : List (Nat × List UInt8)} {wk : World} (h : Car w gz zc zt L wk) (k : Nat) : Car w gz zc zt L (wk.drewN k) := ⟨below_drewN h.bel k, h.box, h.row⟩
theorem Car.cell {w : World} {gz : Nat} {zc : Array Value} {zt : TypeId} {L : List (Nat × List UInt8)} {wk : World} (h : Car w gz zc zt L wk) (i : Nat) (v : Value) (hv : zc[i]? = some v) : wk.cell? ⟨gz, i, none⟩ = some v := by
  rw [cell_of_row wk gz i _ zt (0, 0) h.box, hv]

/-- a block of bytes is none of the Book's -/
theorem Row.kp {w w' : World} {base gb m : Nat} {V : Value} {xs : List Value} {g : Nat} {bs : List UInt8} (h : Row w g bs) (hk : Bk w base gb m V xs) (hp : Kp gb V w w') : Row w' g bs := by
  have h' : w.heap[g]? = some (.cells (bvs bs).toArray 5 (0, 0)) := h
  refine (hp.block g h.lt ?_ ?_).trans h
  · rintro rfl
    have := hk.blk
    rw [h'] at this
    simp at this
  · intro e
    rcases hk.own.2 with ⟨rfl, _⟩ | ⟨g', cap, cur, rfl, _, h3, _⟩
    · simp [Value.ownBlock] at e
    · obtain rfl : g = g' := by simpa [Value.ownBlock] using e
      rw [h'] at h3
      simp at h3

/-- the Book while it is filled -/
structure Bks (w : World) (gb m : Nat) (xs : List Value) (L : List (Nat × List UInt8)) (wk : World) : Prop where
  bel : Below w.heap.size w wk
  row : Rws wk L
  book : ∃ V, Bk wk w.heap.size gb m V xs
  at_ : w.heap.size ≤ gb

set_option maxRecDepth 100000 in
theorem bytes_any (A : Option Addr) (n c gb m : Nat) (xs : List Value) (L : List (Nat × List UInt8)) (w wk : World) (h : Bks w gb m xs L wk) (hm : m ≤ 1000) :
    Calls Tryz.prog 7 #[.pointer (some ⟨gb, 0, none⟩), .slice A n c] wk fun e w' => e = .returned (.tuple #[]) ∧ Bks w gb (m + 1) (xs ++ [.slice A n c, nl, .int .i64 ((m + 1 : Nat) : Int)]) L w' := by
  obtain ⟨V, hV⟩ := h.book
  have HK := hid (keep_any A n c w.heap.size gb m V xs wk hV (by omega) h.bel.size)
  go_enter Tryz.func7, Tryz.ntmps7
  go_wp2_with fail
  refine HK.out.mono ?_
  rintro e w2 ⟨rfl, V', hV', hkp⟩
  have HF := hid (p := Bks w gb (m + 1) (xs ++ [.slice A n c, nl, .int .i64 ((m + 1 : Nat) : Int)]) L w2) (by
    refine ⟨?_, fun p hp => (h.row p hp).kp hV hkp, ⟨V', hV'⟩, h.at_⟩
    refine h.bel.trans ⟨hkp.os, hkp.tape, hkp.output, hkp.size, fun k hk => hkp.block k (Nat.lt_of_lt_of_le hk h.bel.size) ?_ ?_⟩
    · have := h.at_
      omega
    · intro e
      have := (World.ownsRow.lt hV.own k e.symm).1
      omega)
  clear hV' hkp
  go_wp2
  go_end0
  exact ⟨rfl, HF.out⟩

/-- a new Book -/
theorem Bks.new (w : World) (L : List (Nat × List UInt8)) (wk : World) (hb : Below w.heap.size w wk) (hr : Rws wk L) : Bks w wk.heap.size 0 [] L (wk.alloc (.cells (bookCells 0 nl) 43)) :=
  ⟨hb.alloc hb.size _, hr.below ((Below.refl _ _).alloc (Nat.le_refl _) _), ⟨nl, ⟨heap_alloc_new wk _, World.ownsRow_nil _ _ _ _⟩⟩, hb.size⟩

/-- Apart, at the end -/
theorem apart_end (w wk : World) (gb : Nat) (its : List It) (L : List (Nat × List UInt8)) (hp : 0 < its.length) (hm : its.length ≤ 1000) (h : Bks w gb its.length (flat its fun _ => (none, 0, 0)) L wk)
    (hi : ∀ (i g n c : Nat), its[i]? = some (It.mk (some g) n c) → ∃ bs, (g, bs) ∈ L ∧ bs.length = c ∧ n ≤ c ∧ w.heap.size ≤ g ∧ c ≤ 70368744177664) (hs : Sep its) :
    Calls Tryz.prog 11 #[.pointer (some ⟨gb, 0, none⟩)] wk fun e w' => e = .returned (.bool true) ∧ Below w.heap.size w w' := by
  obtain ⟨V, hV⟩ := h.book
  obtain ⟨gv, cv, rfl, _⟩ := hV.form hp
  let D : Nat → List UInt8 := fun i => match its[i]? with
    | some ⟨some g, _, _⟩ => ((L.find? fun p => p.1 == g).map (·.2)).getD []
    | _ => []
  refine (apart_any w.heap.size gb gv cv its _ D wk hp (by omega) hV ?_ hs h.bel.size h.at_).mono fun e w' ⟨he, hb⟩ => ⟨he, h.bel.trans hb⟩
  intro i g n c hic
  obtain ⟨bs, hm1, hl, hn, hb, hc⟩ := hi i g n c hic
  have hrow := h.row.get hm1
  have hD : D i = bs := by
    simp only [D, hic]
    cases hf : L.find? (fun p => p.1 == g) with
    | none =>
      have := List.find?_eq_none.1 hf (g, bs) hm1
      simp at this
    | some p =>
      have hp1 : p.1 = g := by simpa using List.find?_some hf
      have hp2 := h.row p (List.mem_of_find?_eq_some hf)
      rw [hp1] at hp2
      have h1 : wk.heap[g]? = some (.cells (bvs p.2).toArray 5 (0, 0)) := hp2
      have h2 : wk.heap[g]? = some (.cells (bvs bs).toArray 5 (0, 0)) := hrow
      rw [h1] at h2
      have h3 : bvs p.2 = bvs bs := by simpa using h2
      have h4 : p.2 = bs := by
        unfold bvs at h3
        refine (List.map_inj_right ?_).1 h3
        intro a b hab
        have hab' : ((a.toNat : Nat) : Int) = ((b.toNat : Nat) : Int) := by simpa using hab
        exact UInt8.toNat.inj (by omega)
      simpa using h4
  rw [hD]
  exact ⟨hrow, hl, hn, hb, hc⟩
end Go.Proofs.YtbccnkjfjlmflaaGreatDoor
