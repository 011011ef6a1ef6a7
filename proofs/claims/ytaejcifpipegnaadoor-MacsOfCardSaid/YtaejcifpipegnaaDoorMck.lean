/-
  burrowref08.Same, walked: whether both are the same bytes. Conditions: none.
-/
import Derived.Test.YtaejcifpipegnaaDoorMca
import Derived.Laws.IdiomStrings
namespace Go.Proofs.YtaejcifpipegnaaDoor
open Go.RowKit
set_option linter.unusedVariables false
set_option linter.unusedSimpArgs false

theorem str_of (w : World) (A : Option Addr) (n c : Nat) (bs : List UInt8) (hr : Rd w A bs) (hn : bs.length = n) : (convert 22 9 (.slice A n c)).run Tryd.prog w = .ok (.string ⟨bs.toArray⟩) w := by
  subst hn
  rcases A with _ | ad
  · have hb : bs = [] := by
      rcases Nat.eq_zero_or_pos bs.length with h | h
      · exact List.eq_nil_of_length_eq_zero h
      · obtain ⟨_, _, e, _⟩ := hr h; cases e
    subst hb
    rw [run_convert_bytes_string w 22 9 5 none _ c Tryd.underlying22 Tryd.underlying5 Tryd.underlying9]
    rfl
  · refine run_convert_bytes_back w 22 9 5 ad c bs Tryd.underlying22 Tryd.underlying5 Tryd.underlying9 (fun j hj => ?_)
    obtain ⟨g, o, e, _, h⟩ := hr (by omega)
    injection e with e
    subst e
    have := h j hj
    rw [Go.Proofs.YtaejcifpipegnaaDoor.add_plain, this]
set_option maxRecDepth 100000 in
theorem rsame_any (A B : Option Addr) (n c m d : Nat) (a b : List UInt8) (w : World) (hn : a.length = n) (hm : b.length = m) (hra : Rd w A a) (hrb : Rd w B b) :
    Calls Tryd.prog 16 #[.slice A n c, .slice B m d] w fun e w' => e = .returned (.bool (decide (a = b))) ∧ w = w' := by
  have h1 := str_of w A n c a hra hn
  have h2 := str_of w B m d b hrb hm
  obtain ⟨s, hs⟩ : ∃ s, s = (⟨a.toArray⟩ : ByteArray) := ⟨_, rfl⟩
  obtain ⟨t, ht⟩ : ∃ t, t = (⟨b.toArray⟩ : ByteArray) := ⟨_, rfl⟩
  rw [← hs] at h1
  rw [← ht] at h2
  have heq : (s.toList == t.toList) = decide (a = b) := by
    rw [hs, ht, ByteArray.toList_eq, ByteArray.toList_eq, Bool.eq_iff_iff]
    simp
  clear hs ht hn hm hra hrb
  go_enter Tryd.func16, Tryd.ntmps16
  go_wp2
  go_ret
  exact ⟨rfl, rfl⟩
end Go.Proofs.YtaejcifpipegnaaDoor
