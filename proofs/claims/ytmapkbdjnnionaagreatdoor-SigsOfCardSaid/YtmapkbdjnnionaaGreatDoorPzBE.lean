set_option maxRecDepth 100000
set_option maxHeartbeats 8000000
set_option linter.all false
namespace Go.Proofs.YtmapkbdjnnionaaGreatDoor
theorem pw_round (p q g n:Nat) (h:g ^ q % p=1 % p):g ^ n % p=g ^ (n % q) % p:=by
 have e:g ^ n=(g ^ q) ^ (n / q) * g ^ (n % q):=by rw [← Nat.pow_mul,← Nat.pow_add,Nat.div_add_mod]
 rw [e,Nat.mul_mod,Nat.pow_mod (g ^ q),h,← Nat.pow_mod,Nat.one_pow,← Nat.mul_mod,Nat.one_mul]
theorem pw_alike (p q g n m:Nat) (h:g ^ q % p=1 % p) (f:n % q=m % q):g ^ n % p=g ^ m % p:=by
 rw [pw_round p q g n h,f,← pw_round p q g m h]
theorem pw_mul (p g n m:Nat):(g ^ n % p) * (g ^ m % p) % p=g ^ (n+m) % p:=by
 rw [← Nat.mul_mod,Nat.pow_add]
theorem pw_pw (p g n m:Nat):(g ^ n % p) ^ m % p=g ^ (n * m) % p:=by
 rw [← Nat.pow_mod,Nat.pow_mul]
theorem sig_passes (p q g x c d s:Nat) (h:g ^ q % p=1 % p) (hc:c≤q) (f:s % q=(d+x * c) % q) :
  (g ^ s % p) * ((g ^ x % p) ^ (q - c) % p) % p=g ^ d % p:=by
 rw [pw_pw,pw_mul]
 refine pw_alike p q g _ _ h ?_
 obtain ⟨k,rfl⟩:∃ k,q=c+k:=⟨q - c,by omega⟩
 rw [Nat.add_mod,f,← Nat.add_mod,Nat.add_sub_cancel_left]
 have e:d+x * c+x * k=d+(c+k) * x:=by rw [Nat.add_mul,Nat.mul_comm c x,Nat.mul_comm k x]; omega
 rw [e,Nat.add_mul_mod_self_left]
theorem key_in (p q g x:Nat) (h:g ^ q % p=1 % p):(g ^ x % p) ^ q % p=1 % p:=by
 rw [pw_pw,Nat.mul_comm,Nat.pow_mul,Nat.pow_mod,h,← Nat.pow_mod,Nat.one_pow]
end Go.Proofs.YtmapkbdjnnionaaGreatDoor
