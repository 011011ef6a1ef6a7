import Derived.Test.YtmapkbdjnnionaaGreatDoorPzE2
import Derived.Test.YtmapkbdjnnionaaGreatDoorPzAT
set_option maxRecDepth 100000
set_option maxHeartbeats 8000000
set_option linter.all false
namespace Go.Proofs.YtmapkbdjnnionaaGreatDoor
section
open Go.RowKit
theorem form_even_at (m c:Nat) {w w':World} {l:List (Nat×Nat)} (h:ae w l w') (z:m<2 ^ 256) (hc:16<c) (f:m % 2=0):Calls Tryz.prog 100 #[af m,.int .i64 (c:Int)] w' fun e w2=>∃ g,e=.returned (pform g)∧ae w ((g,m) :: l) w2 :=
 (form_even m c w' z hc f).mono fun e w2 ⟨g,he,hE⟩=>⟨g,he,(h.on hE.below).more (hE.nm g m (by simp))⟩
theorem mexp_even (a n m:Nat) (w:World) (E:n<2 ^ 256) (f:m<2 ^ 256) (z:1<m∧a<m) (hc:16<aq n) (D:m % 2=0):Calls Tryz.prog 80 #[af a,af n,af m] w fun e w'=>e=.returned (.tuple #[af (a ^ n % m),.int .i64 0])∧Below w.heap.size w w' :=
 mexp_of a n m w E f z (fun c F u G l h=>form_even_at m c h f (by rw [← F]; exact hc) D)
theorem mexp_full_at (a n m r:Nat) {w w':World} {l:List (Nat×Nat)} (h:ae w l w') (z:n<2 ^ 256) (D:m<2 ^ 256) (F:1<m) (E:a<m) (G:a ^ n % m=r):Calls Tryz.prog 80 #[af a,af n,af m] w' fun e w2=>e=.returned (.tuple #[af r,.int .i64 0])∧ae w l w2:=by
 subst G
 rcases Nat.lt_or_ge 16 (aq n) with hc | hc
 ·rcases Nat.mod_two_eq_zero_or_one m with f | f
  ·exact ah (mexp_even a n m w' z D ⟨F,E⟩ hc f) h
  ·exact ah (mexp_odd a n m w' z D ⟨F,E⟩ hc f) h
 ·exact ah (mexp_short a n m w' z D ⟨F,E⟩ hc) h
end
end Go.Proofs.YtmapkbdjnnionaaGreatDoor
