/-
  From long numbers, texts, two texts, and a number with how many times, as the reading gives them, to what the walks ask. Conditions: none.
  From a slice of numbers of 16 bits as the reading gives it to what the walks ask. Conditions: none.
-/
import Derived.Test.YtaejcifpipegnaaDoorOpenRows
import Derived.Test.YtaejcifpipegnaaDoorPkA
import Derived.ChangeMaps5
import Derived.ChangeSame
import Derived.ShutString
import Derived.Test.YtaejcifpipegnaaDoorLaid
import Derived.Test.YtaejcifpipegnaaDoorMcg
import Derived.Test.YtaejcifpipegnaaDoorMcj
namespace Go.Proofs.YtaejcifpipegnaaDoor
open Go.RowKit Go.ChangeShapes Go.WideShapes Go.ChangeAt
set_option linter.unusedVariables false

theorem okWide_arr {P : Program} {W : World} {r : Reach} {b0 : Nat} {t e : TypeId} {n : Nat} {v : Value} (ht : P.underlying t = some (.array n e)) (h : Value.okWide P W r b0 t v) : ∃ cs : Array Value, v = .agg cs ∧ cs.size = P.cellsOf t := by
  simp only [Value.okWide, ht] at h
  obtain ⟨cs, h1, h2, _⟩ := h
  exact ⟨cs, h1, h2⟩
theorem cells_u64 : Tryd.prog.cellsOf 55 = 1 := by kernel_rfl
theorem cells_u16 : Tryd.prog.cellsOf 35 = 1 := by kernel_rfl
theorem cells_str : Tryd.prog.cellsOf 9 = 1 := by kernel_rfl
section
variable {H : Type} {enc : TypeId × Value → H} {W : World} {base : Nat} {spare : Nat → Bool} {held : Bool} {r : Reach} {b0 : Nat} {v : Value} {d : DataW H} {p : List MemPlace}
set_option maxRecDepth 100000 in
theorem word_at {m : Nat} {cs : List Value} {y : DataW H × List MemPlace} (h : DataW.trod enc Tryd.prog W base spare held m 55 cs = some y) : ∃ n : Nat, cs = [.int .u64 (n : Int)] ∧ n < 18446744073709551616 := by
  obtain ⟨z, rfl, _, hw⟩ := DataW.trod_int Tryd.underlying55 h
  have hb : 0 ≤ z ∧ z ≤ 18446744073709551615 := by simpa [Lit.wf, IntKind.min, IntKind.max, IntKind.signed, IntKind.bits] using hw
  obtain ⟨n, rfl⟩ := Int.eq_ofNat_of_zero_le hb.1
  exact ⟨n, rfl, by omega⟩
set_option maxRecDepth 100000 in
theorem short_at {m : Nat} {cs : List Value} {y : DataW H × List MemPlace} (h : DataW.trod enc Tryd.prog W base spare held m 35 cs = some y) : ∃ n : Nat, cs = [.int .u16 (n : Int)] ∧ n < 65536 := by
  obtain ⟨z, rfl, _, hw⟩ := DataW.trod_int Tryd.underlying35 h
  have hb : 0 ≤ z ∧ z ≤ 65535 := by simpa [Lit.wf, IntKind.min, IntKind.max, IntKind.signed, IntKind.bits] using hw
  obtain ⟨n, rfl⟩ := Int.eq_ofNat_of_zero_le hb.1
  exact ⟨n, rfl, by omega⟩
set_option maxRecDepth 100000 in
theorem str_at {m : Nat} {cs : List Value} {y : DataW H × List MemPlace} (h : DataW.trod enc Tryd.prog W base spare held m 9 cs = some y) : ∃ s : ByteArray, cs = [.string s] := by
  obtain ⟨s', h, _, _⟩ := DataW.trod_string Tryd.underlying9 h
  exact ⟨s', h⟩
set_option maxRecDepth 100000 in
theorem open_text (hv : Value.okWide Tryd.prog W r b0 9 v) (h : DataW.Trod enc Tryd.prog W base spare held 9 v d p) : ∃ s : ByteArray, v = .string s := by
  obtain ⟨s, e, _⟩ := Go.ChangeMaps.open_string Tryd.underlying9 hv h
  exact ⟨s, e⟩
set_option maxRecDepth 100000 in
theorem byte_of (hv : Value.okWide Tryd.prog W r b0 5 v) (h : DataW.Trod enc Tryd.prog W base spare held 5 v d p) : ∃ n : Nat, v = .int .u8 (n : Int) ∧ n < 256 := by
  obtain ⟨z, rfl, _, _, hw⟩ := open_int Tryd.underlying5 hv h
  have hb : 0 ≤ z ∧ z ≤ 255 := by simpa [Lit.wf, IntKind.min, IntKind.max, IntKind.signed, IntKind.bits] using hw
  obtain ⟨n, rfl⟩ := Int.eq_ofNat_of_zero_le hb.1
  exact ⟨n, rfl, by omega⟩
set_option maxRecDepth 100000 in
theorem rows_none {a0 : Option Addr} {len0 cap0 : Nat} (h : DataW.Trod enc Tryd.prog W base (fun _ => true) held 23 (.slice a0 len0 cap0) d p) : a0 = none → cap0 = 0 := by
  obtain ⟨fuel, hf⟩ := h
  intro e
  rcases Go.Deep.open_int_rows Tryd.underlying23 Tryd.underlying22 Tryd.underlying5 (by kernel_rfl) (by kernel_rfl) hf with ⟨hcs, _⟩ | ⟨a, len, cap, A, L, C, Z, hcs, _⟩
  · simp [Value.cells] at hcs
    exact hcs.2.2
  · simp [Value.cells] at hcs
    rw [hcs.1] at e
    cases e
end
end Go.Proofs.YtaejcifpipegnaaDoor
namespace Go.Proofs.YtaejcifpipegnaaDoor
open Go.RowKit
set_option linter.unusedVariables false
set_option linter.unusedSimpArgs false

theorem same8_row (A : Option Addr) (c : Nat) (b : List UInt8) (n x y : Nat) (w : World) (hn : b.length = n) (hr : Rd w A b) (hc : n ≤ c) (hx : x < 65536) (hy : y < 256) (hK : Kt w) :
    Calls Tryd.prog 6 #[.slice A n c, .int .u16 (x : Int), .int .u8 (y : Int)] w fun e w' => e = .returned (.bool true) ∧ Below w.heap.size w w' := by
  have h := same8_law A c b n x (UInt8.ofNat y) w hn hr hc hx hK
  have e : (((UInt8.ofNat y).toNat : Nat) : Int) = (y : Int) := by rw [UInt8.toNat_ofNat']; have : (2 : Nat) ^ 8 = 256 := by decide
                                                                   rw [this]; omega
  rwa [e] at h
open Go.ChangeShapes Go.WideShapes Go.ChangeAt
theorem IsRow.rd6 {w : World} {a : Option Addr} {len cap : Nat} {zs : List Int} (h : IsRow .u16 w a len cap zs) : ∃ cs : List Nat, cs.length = len ∧ Rd6 w a cs := by
  rcases h with ⟨rfl, rfl, rfl, rfl⟩ | ⟨x, rfl, hl, hm, hz, hc, hw⟩
  · exact ⟨[], rfl, fun j hj => absurd hj (Nat.not_lt_zero _)⟩
  · refine ⟨(zs.take len).map fun z => z.toNat, by simp; omega, ?_⟩
    intro j hj
    have hjl : j < len := by simp at hj; omega
    have hp' : 0 < zs.length := by omega
    obtain ⟨b, off, rfl, hcc⟩ := ints_at hc hp'
    have hj' : j < zs.length := by omega
    have hb := hw zs[j] (List.getElem_mem hj')
    have hb2 : 0 ≤ zs[j] ∧ zs[j] ≤ 65535 := by simpa [Lit.wf, IntKind.min, IntKind.max, IntKind.signed, IntKind.bits] using hb
    have e : zs.getD j 0 = zs[j] := by simp [hj']
    have e2 : ((zs.take len).map fun z => z.toNat)[j] = zs[j].toNat := by simp
    rw [e2]
    refine ⟨by omega, b, off, rfl, World.block_lt_of_cell? w _ (hcc 0 hp'), ?_⟩
    rw [hcc j hj', e]
    congr 2
    omega
section
variable {H : Type} {enc : TypeId × Value → H} {W : World} {base : Nat} {held : Bool} {d : DataW H} {p : List MemPlace}
set_option maxRecDepth 100000 in
theorem open_shorts {a0 : Option Addr} {len0 cap0 : Nat} (h : DataW.Trod enc Tryd.prog W base (fun _ => true) held 34 (.slice a0 len0 cap0) d p) : ∃ cs : List Nat, cs.length = len0 ∧ Rd6 W a0 cs := by
  obtain ⟨fuel, hf⟩ := h
  rcases open_ints Tryd.underlying34 Tryd.underlying35 (by kernel_rfl) hf with ⟨hcs, _⟩ | ⟨x, l, c, zs, hcs, _, hl, hm, hz, hx, hcell, hwz⟩
  · simp [Value.cells] at hcs
    obtain ⟨rfl, rfl, rfl⟩ := hcs
    exact ⟨[], rfl, fun j hj => absurd hj (Nat.not_lt_zero _)⟩
  · simp [Value.cells] at hcs
    obtain ⟨rfl, rfl, rfl⟩ := hcs
    exact IsRow.rd6 (cap := cap0) (zs := zs) (.inr ⟨_, rfl, hl, hm, by simpa using hz, hcell, hwz⟩)
end
end Go.Proofs.YtaejcifpipegnaaDoor
