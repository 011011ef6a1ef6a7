import Derived.Test.YtmapkbdjnnionaaGreatDoorPzAR
set_option maxRecDepth 100000
set_option maxHeartbeats 8000000
set_option linter.all false
namespace Go.Proofs.YtmapkbdjnnionaaGreatDoor
section
open Go.RowKit
theorem exp_step0 {a n m j:Nat} (h:aV n j=0):a ^ (n / 2 ^ (j+1)) % m * (a ^ (n / 2 ^ (j+1)) % m) % m=a ^ (n / 2 ^ j) % m:=by
 rw [← Nat.mul_mod,pow_step0 a h]
theorem exp_step1 {a n m j:Nat} (h:aV n j=1):a ^ (n / 2 ^ (j+1)) % m * (a ^ (n / 2 ^ (j+1)) % m) % m * a % m=a ^ (n / 2 ^ j) % m:=by
 rw [← Nat.mul_mod,Nat.mod_mul_mod,pow_step1 a h]
theorem form_at (m c:Nat) {w w':World} {l:List (Nat×Nat)} (h:ae w l w') (hc:c≤16):Calls Tryz.prog 100 #[af m,.int .i64 (c:Int)] w' fun e w2=>∃ g,e=.returned (pform g)∧ae w ((g,m) :: l) w2 :=
 (form_plain m c w' hc).mono fun e w2 ⟨g,he,hE,_⟩=>⟨g,he,(h.on hE.below).more (hE.nm g m (by simp))⟩
end
end Go.Proofs.YtmapkbdjnnionaaGreatDoor
