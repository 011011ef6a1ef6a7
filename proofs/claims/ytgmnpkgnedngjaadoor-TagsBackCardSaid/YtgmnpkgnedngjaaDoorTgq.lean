/-
  From what the rows read to what the walks ask: tags, texts; worlds whose tables hold what their initialisers lay. Conditions: none.
-/
import Derived.Test.YtgmnpkgnedngjaaDoorPkM
import Derived.Test.YtgmnpkgnedngjaaDoorPkL
import Derived.Test.YtgmnpkgnedngjaaDoorLaid
import Derived.ChangeMaps5
import Derived.ChangeSame
import Derived.ShutString
namespace Go.Proofs.YtgmnpkgnedngjaaDoor
open Go.RowKit Go.ChangeShapes Go.WideShapes Go.ChangeAt
set_option linter.unusedVariables false

theorem cells_tag : Tryd.prog.cellsOf 26 = 16 := by kernel_rfl
theorem cells_tag2 : Tryd.prog.cellsOf 27 = 32 := by kernel_rfl
section
variable {H : Type} {enc : TypeId × Value → H} {W : World} {base : Nat} {spare : Nat → Bool} {held : Bool} {r : Reach} {b0 : Nat} {v : Value} {d : DataW H} {p : List MemPlace}
set_option maxRecDepth 100000 in
theorem tag_list {m : Nat} {l : List Value} {y : DataW H × List MemPlace} (h : DataW.trod enc Tryd.prog W base spare held m 26 l = some y) : ∃ bs : List UInt8, l = bvs bs ∧ bs.length = 16 := by
  obtain ⟨xs, m', _, _, hlen, hl, hx⟩ := DataW.trod_array Tryd.underlying26 h
  rw [cells_tag] at hlen
  rw [cells_u8'] at hx
  obtain ⟨bs, rfl⟩ := bytes_of' l (fun i hi => by
    have g := hx i (by omega)
    rw [List.getElem?_eq_getElem (by omega)] at g
    obtain ⟨n, e, hn⟩ := u8_at' g
    refine ⟨UInt8.ofNat n, ?_⟩
    have e2 := congrArg (fun x : List Value => x[0]?) e
    have e3 : l[i]? = some (.int .u8 (n : Int)) := by simpa using e2
    rw [e3, UInt8.toNat_ofNat', Nat.mod_eq_of_lt (by omega)])
  exact ⟨bs, rfl, by rw [← bvs_length]; exact hlen⟩
theorem open_tag (hv : Value.okWide Tryd.prog W r b0 26 v) (h : DataW.Trod enc Tryd.prog W base spare held 26 v d p) : ∃ bs : List UInt8, v = .agg (bvs bs).toArray ∧ bs.length = 16 := by
  obtain ⟨cs, rfl, hs⟩ := okWide_arr' Tryd.underlying26 hv
  obtain ⟨fuel, hf⟩ := h
  obtain ⟨bs, hb, hl⟩ := tag_list (l := cs.toList) (by simpa [Value.cells] using hf)
  exact ⟨bs, by rw [← hb], hl⟩
set_option maxRecDepth 100000 in
theorem open_tags (hv : Value.okWide Tryd.prog W r b0 27 v) (h : DataW.Trod enc Tryd.prog W base spare held 27 v d p) : ∃ a b : List UInt8, v = .agg (bvs (a ++ b)).toArray ∧ a.length = 16 ∧ b.length = 16 := by
  obtain ⟨cs, rfl, hs⟩ := okWide_arr' Tryd.underlying27 hv
  rw [cells_tag2] at hs
  obtain ⟨fuel, hf⟩ := h
  obtain ⟨xs, m, _, hd, _, hl, hx⟩ := DataW.trod_array Tryd.underlying27 hf
  rw [cells_tag] at hx
  have g0 := hx 0 (by omega)
  have g1 := hx 1 (by omega)
  rw [List.getElem?_eq_getElem (by omega)] at g0 g1
  obtain ⟨a, ea, la⟩ := tag_list g0
  obtain ⟨b, eb, lb⟩ := tag_list g1
  have e0 : cs.toList.take 16 = bvs a := by simpa [Value.cells] using ea
  have e1 : (cs.toList.drop 16).take 16 = bvs b := by simpa [Value.cells] using eb
  have e2 : (cs.toList.drop 16).take 16 = cs.toList.drop 16 := List.take_of_length_le (by simp [hs])
  refine ⟨a, b, ?_, la, lb⟩
  have : cs.toList = bvs (a ++ b) := by rw [bvs_append, ← e0, ← e1, e2, List.take_append_drop]
  rw [← this]
theorem open_text (hv : Value.okWide Tryd.prog W r b0 9 v) (h : DataW.Trod enc Tryd.prog W base spare held 9 v d p) : ∃ s : ByteArray, v = .string s := by
  obtain ⟨s, e, _⟩ := Go.ChangeMaps.open_string Tryd.underlying9 hv h
  exact ⟨s, e⟩
end

/- the tables -/
theorem gD : Tryd.prog.globalNamed "burrow/tags.digits" = some 0 := by kernel_rfl
theorem gDType : (Tryd.prog.globals[0]?).map (·.type) = some 25 := by kernel_rfl
set_option maxRecDepth 100000 in
theorem dg_of {W : World} (hL : laidMetH Tryd.prog [("burrow/tags.digits", Rows.laid_burrow_tags_digits)] W) : Dg W := by
  have h : Lib.TabIs Tryd.prog W "burrow/tags.digits" .u8 (dl.map iv) := Lib.tabIs_of_head gD gDType Tryd.underlying25 Tryd.underlying5 (by kernel_rfl) (by kernel_rfl) hL
  intro j hj
  have hl : j < dl.length := hj
  rw [h.cell gD j (by simpa using hl), ← dl_at j hj, gb_lt hl]
  congr 2
  simp [List.getD, hl]
theorem tail_laid {P : Program} {x : String × DataW Unit} {rest : List (String × DataW Unit)} {W : World} (h : laidMet P (x :: rest) W) : laidMet P rest W := by
  obtain ⟨ps, ⟨g', t', cs, fuel, p, q, hg', ht', hvar, hd, h1, h2⟩, hn, hc⟩ := h
  first
  | (subst h2; exact ⟨q, h1, (List.nodup_append.1 hn).2.1, fun b off hm => hc b off (List.mem_append.2 (.inr hm))⟩)
  | (subst h1; exact ⟨q, h2, (List.nodup_append.1 hn).2.1, fun b off hm => hc b off (List.mem_append.2 (.inr hm))⟩)
/-- the settled world, the digits' table holding what is laid -/
noncomputable def laidWorldD (os : Os) : World :=
  { World.holding Tryd.prog os ⟨#[], #[], []⟩ with heap := (World.holding Tryd.prog os ⟨#[], #[], []⟩).heap.modify 0 (setRow (litsOf Rows.laid_burrow_tags_digits)) }
/-- .. both tables -/
noncomputable def laidWorld2 (os : Os) : World :=
  { World.holding Tryd.prog os ⟨#[], #[], []⟩ with heap := ((World.holding Tryd.prog os ⟨#[], #[], []⟩).heap.modify 2 (setRow (litsOf Rows.laid_burrow_shas_cubes))).modify 0 (setRow (litsOf Rows.laid_burrow_tags_digits)) }
set_option maxRecDepth 100000 in
theorem tabs_of {W : World} (hL : laidMetH Tryd.prog [("burrow/shas.cubes", Rows.laid_burrow_shas_cubes), ("burrow/tags.digits", Rows.laid_burrow_tags_digits)] W) : Kt W ∧ Dg W := by
  have h : laidMet Tryd.prog [("burrow/shas.cubes", Rows.laid_burrow_shas_cubes), ("burrow/tags.digits", Rows.laid_burrow_tags_digits)] W := hL
  refine ⟨?_, dg_of (show laidMetH Tryd.prog [("burrow/tags.digits", Rows.laid_burrow_tags_digits)] W from tail_laid h)⟩
  have h2 : Lib.TabIs Tryd.prog W "burrow/shas.cubes" .u32 (kk.map fun n : Nat => (n : Int)) := Lib.tabIs_of_head gT gTType Tryd.underlying77 Tryd.underlying63 (by kernel_rfl) (by kernel_rfl) hL
  intro j hj
  have hl : kk.length = 64 := kk_length
  rw [h2.cell gT j (by simpa [hl] using hj)]
  congr 2
  simp [at', List.getD, hl, hj]
end Go.Proofs.YtgmnpkgnedngjaaDoor
