/-
  Numbers that go round; whoever has an inverse; Montgomery's form; a prime number's power. No program in it. Conditions: none.
-/
import Derived.Test.YtioebjbjpjbodaaNum
namespace Go.Proofs.Ytioebjbjpjbodaa
set_option linter.unusedVariables false

/-- alike, going round by m -/
def Cg (m : Nat) (x y : Int) : Prop := ∃ k : Int, x = y + m * k
theorem Cg.refl (m : Nat) (x : Int) : Cg m x x := ⟨0, by simp⟩
theorem Cg.symm {m : Nat} {x y : Int} : Cg m x y → Cg m y x := fun ⟨k, h⟩ => ⟨-k, by grind⟩
theorem Cg.trans {m : Nat} {x y z : Int} : Cg m x y → Cg m y z → Cg m x z := fun ⟨k, h⟩ ⟨j, g⟩ => ⟨k + j, by grind⟩
theorem Cg.add {m : Nat} {x y u v : Int} : Cg m x y → Cg m u v → Cg m (x + u) (y + v) := fun ⟨k, h⟩ ⟨j, g⟩ => ⟨k + j, by grind⟩
theorem Cg.sub {m : Nat} {x y u v : Int} : Cg m x y → Cg m u v → Cg m (x - u) (y - v) := fun ⟨k, h⟩ ⟨j, g⟩ => ⟨k - j, by grind⟩
theorem Cg.mul {m : Nat} {x y u v : Int} : Cg m x y → Cg m u v → Cg m (x * u) (y * v) := fun ⟨k, h⟩ ⟨j, g⟩ => ⟨y * j + k * v + m * k * j, by subst h g; grind⟩
theorem Cg.of_mod (m n : Nat) : Cg m ((n % m : Nat) : Int) n := ⟨-((n / m : Nat) : Int), by
  have h : ((n % m + m * (n / m) : Nat) : Int) = (n : Int) := congrArg _ (Nat.mod_add_div n m)
  rw [Int.natCast_add, Int.natCast_mul] at h
  grind⟩
theorem Cg.times (m : Nat) (x k : Int) : Cg m (x + m * k) x := ⟨k, rfl⟩
theorem Cg.mods {m : Nat} {x y : Nat} (h : Cg m x y) : x % m = y % m := by
  obtain ⟨k, h⟩ := h
  have e : (x : Int) % m = (y : Int) % m := by rw [h, Int.add_mul_emod_self_left]
  exact_mod_cast e
theorem Cg.eq {m : Nat} {x y : Nat} (hx : x < m) (hy : y < m) (h : Cg m x y) : x = y := by
  have := h.mods
  rwa [Nat.mod_eq_of_lt hx, Nat.mod_eq_of_lt hy] at this
theorem Cg.is_mod {m x n : Nat} (hx : x < m) (h : Cg m x n) : x = n % m := by
  have := h.mods
  rwa [Nat.mod_eq_of_lt hx] at this
/-- a times v is 1, going round by m -/
def Ivs (a m v : Nat) : Prop := v < m ∧ a * v % m = 1
theorem Ivs.of {a m v : Nat} (hm : 1 < m) (hv : v < m) (h : Cg m ((a : Int) * v) 1) : Ivs a m v := by
  refine ⟨hv, ?_⟩
  have e : Cg m ((a * v : Nat) : Int) ((1 : Nat) : Int) := by rw [Int.natCast_mul]; exact h
  rw [e.mods, Nat.mod_eq_of_lt hm]
/-- a step down: what a leaves, multiplied -/
theorem ivs_step {a m whole rest last next t z : Nat} (h0 : Cg m (a * last) whole) (h1 : Cg m (a * next) rest) (ht : t = whole / rest * next % m) (hz : Cg m z ((last : Int) - t)) : Cg m (a * z) ((whole % rest : Nat) : Int) := by
  have e1 : Cg m (t : Int) ((whole / rest : Nat) * next) := by
    subst ht
    have := Cg.of_mod m (whole / rest * next)
    rwa [Int.natCast_mul] at this
  have e2 := (Cg.refl m (a : Int)).mul (hz.trans ((Cg.refl m (last : Int)).sub e1))
  have e3 : ((a : Int) * ((last : Int) - (whole / rest : Nat) * next)) = a * last - (whole / rest : Nat) * (a * next) := by grind
  rw [e3] at e2
  have e4 := h0.sub ((Cg.refl m ((whole / rest : Nat) : Int)).mul h1)
  have e5 : (whole : Int) - (whole / rest : Nat) * rest = ((whole % rest : Nat) : Int) := by
    have h : ((whole % rest + rest * (whole / rest) : Nat) : Int) = (whole : Int) := congrArg _ (Nat.mod_add_div whole rest)
    rw [Int.natCast_add, Int.natCast_mul] at h
    grind
  rw [e5] at e4
  exact e2.trans e4
theorem gcd_step (whole rest : Nat) : Nat.gcd rest (whole % rest) = Nat.gcd whole rest := by
  rw [Nat.gcd_comm rest, ← Nat.gcd_rec, Nat.gcd_comm]
/-- who has an inverse has nothing above 1 in common -/
theorem Ivs.gcd {a m v : Nat} (h : Ivs a m v) : Nat.gcd a m = 1 := by
  have h1 : Nat.gcd a m ∣ a * v % m := (Nat.dvd_mod_iff (Nat.gcd_dvd_right a m)).2 (Nat.dvd_trans (Nat.gcd_dvd_left a m) (Nat.dvd_mul_right a v))
  rw [h.2] at h1
  exact Nat.dvd_one.1 h1

/-- Montgomery's: what is left by m of low and high, the low words taken away -/
theorem lower_cg {R m low high inv often above : Nat} (hlow : low < R) (hinv : Cg R ((m : Int) * inv) 1) (ho : often = low * inv % R) (ha : above = often * m / R) : Cg m (((high : Int) - above) * R) (low + R * high) := by
  have e1 : Cg R ((often * m : Nat) : Int) low := by
    subst ho
    have := (Cg.of_mod R (low * inv)).mul (Cg.refl R (m : Int))
    rw [Int.natCast_mul] at this ⊢
    have e3 : ((low : Int) * inv * m) = low * (m * inv) := by grind
    rw [e3] at this
    have e2 := this.trans ((Cg.refl R (low : Int)).mul hinv)
    simpa using e2
  have e2 : often * m % R = low := by
    have := e1.mods
    rwa [Nat.mod_eq_of_lt hlow] at this
  have e3 : ((low + R * above : Nat) : Int) = ((often * m : Nat) : Int) := by
    subst ha; rw [← e2]; exact congrArg _ (Nat.mod_add_div _ _)
  rw [Int.natCast_add, Int.natCast_mul, Int.natCast_mul] at e3
  exact ⟨-(often : Int), by grind⟩
theorem above_lt {R m often : Nat} (ho : often < R) (hm : 0 < m) : often * m / R < m := by
  have h : often * m < m * R := by rw [Nat.mul_comm m R]; exact Nat.mul_lt_mul_of_pos_right ho hm
  exact Nat.div_lt_of_lt_mul (by rwa [Nat.mul_comm m R] at h)
/-- R has an inverse by an odd m: what it is multiplied with can be told -/
theorem cg_cancel {R m inv : Nat} (hinv : Cg R ((m : Int) * inv) 1) {x y : Int} (h : Cg m (x * R) (y * R)) : Cg m x y := by
  obtain ⟨k, hk⟩ := hinv
  obtain ⟨j, hj⟩ := h
  refine ⟨(x - y) * inv - j * k, ?_⟩
  grind
theorem Cg.of_dvd {D m : Nat} {x y : Int} (hd : D ∣ m) : Cg m x y → Cg D x y := fun ⟨k, h⟩ => by
  obtain ⟨c, rfl⟩ := hd
  exact ⟨c * k, by rw [h, Int.natCast_mul]; grind⟩
theorem Cg.of_dif {x y : Nat} (hy : y < 2 ^ 256) : Cg (2 ^ 256) (dif x y) ((x : Int) - y) := by
  unfold dif
  split
  · exact ⟨1, by omega⟩
  · exact ⟨0, by omega⟩
theorem cg_square {m : Nat} (h : m % 2 = 1) : Cg 8 ((m : Int) * m) 1 := by
  have e : (m * m) % 8 = 1 := by
    have : m % 8 = 1 ∨ m % 8 = 3 ∨ m % 8 = 5 ∨ m % 8 = 7 := by omega
    rw [Nat.mul_mod]
    rcases this with h | h | h | h <;> rw [h]
  have := (Cg.of_mod 8 (m * m)).symm
  rw [e] at this
  simpa using this
def few (i : Nat) : Nat := min 256 (3 * 2 ^ i)
theorem few_seven : few 7 = 256 := by decide
theorem few_step (i : Nat) : few (i + 1) ≤ 2 * few i ∧ few i ≤ 256 := by
  unfold few
  have : 2 ^ (i + 1) = 2 * 2 ^ i := by rw [Nat.pow_succ, Nat.mul_comm]
  rw [this]
  generalize 2 ^ i = t
  omega
theorem invert_round {m x i low left t : Nat} (hm : m < 2 ^ 256) (hx : x < 2 ^ 256) (h : Cg (2 ^ few i) ((m : Int) * x) 1) (hl : m * x % 2 ^ 256 = low) (hd : dif 2 low = left) (ht : x * left % 2 ^ 256 = t) : Cg (2 ^ few (i + 1)) ((m : Int) * t) 1 := by
  have hlow : low < 2 ^ 256 := by rw [← hl]; exact Nat.mod_lt _ (Nat.two_pow_pos _)
  have e1 : Cg (2 ^ 256) (low : Int) (m * x) := by rw [← hl, ← Int.natCast_mul]; exact Cg.of_mod _ _
  have e2 : Cg (2 ^ 256) (left : Int) (2 - m * x) := by
    rw [← hd]
    exact (Cg.of_dif hlow).trans ((Cg.refl _ (2 : Int)).sub e1)
  have e3 : Cg (2 ^ 256) (t : Int) (x * (2 - m * x)) := by
    rw [← ht]
    refine (Cg.of_mod _ _).trans ?_
    rw [Int.natCast_mul]
    exact (Cg.refl _ (x : Int)).mul e2
  obtain ⟨f1, f2⟩ := few_step i
  have e4 := (Cg.of_dvd (Nat.pow_dvd_pow 2 (show few (i + 1) ≤ 256 from (few_step (i + 1)).2)) e3)
  obtain ⟨k, hk⟩ := h
  obtain ⟨j, hj⟩ := e4
  have e5 : Cg (2 ^ (2 * few i)) (m * (x * (2 - m * x))) 1 := ⟨-(k * k), by
    have e : ((2 ^ (2 * few i) : Nat) : Int) = (2 ^ few i : Nat) * (2 ^ few i : Nat) := by rw [Nat.two_mul, Nat.pow_add, Int.natCast_mul]
    rw [e]
    generalize ((2 ^ few i : Nat) : Int) = N at *
    grind⟩
  have e6 := Cg.of_dvd (Nat.pow_dvd_pow 2 f1) e5
  refine Cg.trans ⟨m * j, ?_⟩ e6
  rw [hj]
  grind

/-- what going round by m answers -/
theorem round_add {a b m s l : Nat} (ha : a < m) (hb : b < m) (hm : m < 2 ^ 256) (hs : (a + b) % 2 ^ 256 = s) (hl : dif s m = l) : (if (a + b) / 2 ^ 256 < lent s m then s else l) = (a + b) % m := by
  have e : (a + b) % m = if a + b < m then a + b else a + b - m := by
    split
    · exact Nat.mod_eq_of_lt ‹_›
    · rw [Nat.mod_eq_sub_mod (by omega), Nat.mod_eq_of_lt (by omega)]
  rw [e, ← hl, ← hs]
  unfold dif lent
  rw [p256] at *
  split <;> split <;> (try split) <;> (try split) <;> omega
theorem round_sub {a b m : Nat} (ha : a < m) (hb : b < m) : (if a < b then (dif a b + m) % 2 ^ 256 else dif a b) = (a + (m - b)) % m ∨ 2 ^ 256 ≤ m := by
  by_cases hm : 2 ^ 256 ≤ m
  · exact Or.inr hm
  refine Or.inl ?_
  have e : (a + (m - b)) % m = if a < b then a + m - b else a - b := by
    split
    · rw [Nat.mod_eq_of_lt (by omega)]; omega
    · rw [Nat.mod_eq_sub_mod (by omega), Nat.mod_eq_of_lt (by omega)]; omega
  rw [e]
  unfold dif
  rw [p256] at *
  split <;> omega
theorem Cg.of_sub {a b m : Nat} (hb : b ≤ m) : Cg m (((a + (m - b)) % m : Nat) : Int) ((a : Int) - b) := by
  refine (Cg.of_mod _ _).trans ⟨1, ?_⟩
  omega

/-- a factor that can be told again -/
def Can (m : Nat) (r : Int) : Prop := ∀ x y : Int, Cg m (x * r) (y * r) → Cg m x y
theorem Can.one (m : Nat) : Can m 1 := fun x y h => by simpa using h
theorem form_mul {m r x y z u v : Nat} (hc : Can m r) (hx : x = u * r % m) (hy : y = v * r % m) (hz : z < m) (h : Cg m ((z : Int) * r) ((x : Int) * y)) : z = u * v * r % m := by
  refine Cg.is_mod hz (hc _ _ (h.trans ?_))
  have e1 : Cg m (x : Int) (u * r) := by subst hx; rw [← Int.natCast_mul]; exact Cg.of_mod _ _
  have e2 : Cg m (y : Int) (v * r) := by subst hy; rw [← Int.natCast_mul]; exact Cg.of_mod _ _
  have e3 := e1.mul e2
  have e4 : ((u * v * r : Nat) : Int) * r = (u : Int) * r * (v * r) := by
    rw [Int.natCast_mul, Int.natCast_mul]; grind
  rw [e4]; exact e3
theorem form_leave {m r x z u : Nat} (hc : Can m r) (hx : x = u * r % m) (hz : z < m) (h : Cg m ((z : Int) * r) x) : z = u % m := by
  refine Cg.is_mod hz (hc _ _ (h.trans ?_))
  subst hx; rw [← Int.natCast_mul]; exact Cg.of_mod _ _
theorem pow_step0 {n i : Nat} (a : Nat) (h : bitAt n i = 0) : a ^ (n / 2 ^ (i + 1)) * a ^ (n / 2 ^ (i + 1)) = a ^ (n / 2 ^ i) := by
  rw [bit_step n i, h, ← Nat.pow_add]; congr 1; omega
theorem pow_step1 {n i : Nat} (a : Nat) (h : bitAt n i = 1) : a ^ (n / 2 ^ (i + 1)) * a ^ (n / 2 ^ (i + 1)) * a = a ^ (n / 2 ^ i) := by
  rw [bit_step n i, h, ← Nat.pow_add, ← Nat.pow_succ]; congr 1; omega
theorem pow_first (a n : Nat) : a ^ (n / 2 ^ nbits n) = 1 := by
  rw [Nat.div_eq_of_lt (nbits_lt n), Nat.pow_zero]
/-- how many ways to take k of n -/
def bin : Nat → Nat → Nat
  | _, 0 => 1
  | 0, _ + 1 => 0
  | n + 1, k + 1 => bin n k + bin n (k + 1)
/-- the sum of the first n -/
def sm (f : Nat → Nat) : Nat → Nat
  | 0 => 0
  | n + 1 => sm f n + f n
/-- no number but 1 and itself goes into it -/
def Prm (p : Nat) : Prop := 1 < p ∧ ∀ d, d ∣ p → d = 1 ∨ d = p
theorem Prm.gcd {p k : Nat} (h : Prm p) (hk : 0 < k) (hl : k < p) : Nat.gcd k p = 1 := by
  rcases h.2 _ (Nat.gcd_dvd_right k p) with e | e
  · exact e
  · have := Nat.gcd_le_left p hk
    omega
theorem Prm.no {p i : Nat} (h : Prm p) (h2 : 2 ≤ i) (hi : i * i ≤ p) : p % i ≠ 0 := fun e => by
  rcases h.2 i (Nat.dvd_of_mod_eq_zero e) with g | g
  · omega
  · subst g; have : 2 * i ≤ i * i := Nat.mul_le_mul_right i h2; omega
theorem law_one {m : Nat} (n : Nat) (hm : 1 < m) : 1 ^ n % m = 1 := by rw [Nat.one_pow, Nat.mod_eq_of_lt hm]
theorem law_nought (k m : Nat) : 0 ^ (k + 1) % m = 0 := by rw [Nat.zero_pow (by omega), Nat.zero_mod]
end Go.Proofs.Ytioebjbjpjbodaa
