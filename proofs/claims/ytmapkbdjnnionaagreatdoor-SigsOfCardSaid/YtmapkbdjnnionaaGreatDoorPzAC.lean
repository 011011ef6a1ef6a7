import Derived.Test.YtmapkbdjnnionaaGreatDoorPzAB
import Derived.Shelf.Spec.BitsCarry
import Derived.WalkLawsBesides
import Derived.WalkSpells
set_option maxRecDepth 100000
set_option maxHeartbeats 8000000
set_option linter.all false
namespace Go.Proofs.YtmapkbdjnnionaaGreatDoor
section
open Go.RowKit
def wd (x i:Nat):Nat:=x / 18446744073709551616 ^ i % 18446744073709551616
theorem aO (x i:Nat):wd x i<18446744073709551616:=Nat.mod_lt _ (by decide)
theorem p256:(2:Nat) ^ 256=115792089237316195423570985008687907853269984665640564039457584007913129639936:=by decide
theorem v4_wd (x:Nat) (h:x<2 ^ 256):v4 (wd x 0) (wd x 1) (wd x 2) (wd x 3)=x:=by
 rw [p256] at h
 unfold v4 wd
 have D:(18446744073709551616:Nat) ^ 1=18446744073709551616:=by decide
 have z:(18446744073709551616:Nat) ^ 2=340282366920938463463374607431768211456:=by decide
 have f:(18446744073709551616:Nat) ^ 3=6277101735386680763835789423207666416102355444464034512896:=by decide
 rw [D,z,f,Nat.pow_zero]
 omega
theorem wd_v4 {a b c d:Nat} (I:a<18446744073709551616) (G:b<18446744073709551616) (F:c<18446744073709551616) (E:d<18446744073709551616) :
  wd (v4 a b c d) 0=a∧wd (v4 a b c d) 1=b∧wd (v4 a b c d) 2=c∧wd (v4 a b c d) 3=d:=by
 unfold v4 wd
 have D:(18446744073709551616:Nat) ^ 1=18446744073709551616:=by decide
 have z:(18446744073709551616:Nat) ^ 2=340282366920938463463374607431768211456:=by decide
 have f:(18446744073709551616:Nat) ^ 3=6277101735386680763835789423207666416102355444464034512896:=by decide
 rw [D,z,f,Nat.pow_zero]
 refine ⟨?_,?_,?_,?_⟩ <;> omega
theorem wd_inj {x y:Nat} (z:x<2 ^ 256) (f:y<2 ^ 256) (G:wd x 0=wd y 0) (F:wd x 1=wd y 1) (E:wd x 2=wd y 2) (D:wd x 3=wd y 3):x=y:=by
 rw [← v4_wd x z,← v4_wd y f,G,F,E,D]
abbrev ai (x:Nat):Array Value:=#[.int .u64 (wd x 0:Int),.int .u64 (wd x 1:Int),.int .u64 (wd x 2:Int),.int .u64 (wd x 3:Int)]
abbrev af (x:Nat):Value:=.agg (ai x)
theorem num_of {a b c d:Nat} (E:a<18446744073709551616) (D:b<18446744073709551616) (z:c<18446744073709551616) (f:d<18446744073709551616) :
  (.agg #[.int .u64 (a:Int),.int .u64 (b:Int),.int .u64 (c:Int),.int .u64 (d:Int)]:Value)=af (v4 a b c d):=by
 obtain ⟨J,I,G,F⟩:=wd_v4 E D z f
 rw [af,ai,J,I,G,F]
theorem num_small (n:Nat) (h:n<18446744073709551616):(.agg #[.int .u64 (n:Int),.int .u64 0,.int .u64 0,.int .u64 0]:Value)=af n:=by
 have:=num_of (a:=n) (b:=0) (c:=0) (d:=0) h (by decide) (by decide) (by decide)
 rw [show v4 n 0 0 0=n by simp [v4]] at this
 exact this
theorem eq_words (a b c d E D z f:Int) (w:World):(Op.equalIn 10000 24 (.agg #[.int .u64 a,.int .u64 b,.int .u64 c,.int .u64 d]) (.agg #[.int .u64 E,.int .u64 D,.int .u64 z,.int .u64 f])).run Tryz.prog w=.ok (a == E && b == D && c == z && d == f) w:=by
 have u3:=Tryz.underlying22
 have a3:=Tryz.isAgg22
 have z3:=Tryz.sizeOf22
 rw [show (10000:Nat)=9999+1 from rfl,Op.equalIn]
 simp only [Sem.run_bind,run_underlying Tryz.underlying24,Result.andThen_ok]
 simp only [Std.Legacy.Range.forIn_eq_forIn_range',Std.Legacy.Range.size,Nat.sub_zero,Nat.add_sub_cancel,Nat.div_one,List.range'_succ,List.range'_zero,List.forIn_cons,List.forIn_nil]
 go_simp
 by_cases J:a=E <;> by_cases I:b=D <;> by_cases G:c=z <;> by_cases F:d=f <;> simp [J,I,G,F]
theorem eq_yes (x y:Nat) (h:x=y) (w:World):(Op.equalIn 10000 24 (af x) (af y)).run Tryz.prog w=.ok true w:=by
 subst h; rw [eq_words]; simp
theorem eq_no (x y:Nat) (z:x<2 ^ 256) (f:y<2 ^ 256) (h:x≠y) (w:World):(Op.equalIn 10000 24 (af x) (af y)).run Tryz.prog w=.ok false w:=by
 rw [eq_words]
 congr 1
 rw [Bool.eq_false_iff]
 intro e
 simp at e
 obtain ⟨⟨⟨G,F⟩,E⟩,D⟩:=e
 exact h (wd_inj z f (by exact_mod_cast G) (by exact_mod_cast F) (by exact_mod_cast E) (by exact_mod_cast D))
theorem bal {w w':World} (h:Below w.heap.size w w') (o:Obj):Below w.heap.size w (w'.alloc o):=h.alloc h.size o
theorem dM {w w' w2:World} (h:Below w.heap.size w w') (f:Below w'.heap.size w' w2):Below w.heap.size w w2:=h.trans (f.mono h.size)
def Nm (w:World) (g x:Nat):Prop:=w.heap[g]?=some (.cells (ai x) 24 (0,0))
theorem Nm.lt {w:World} {g x:Nat} (h:Nm w g x):g<w.heap.size:=lt_of_block h
theorem Nm.below {w w':World} {g x B:Nat} (h:Nm w g x) (hb:Below B w w') (f:g<B):Nm w' g x:=(hb.block g f).trans h
theorem Nm.on {w w':World} {g x:Nat} (h:Nm w g x) (hb:Below w.heap.size w w'):Nm w' g x:=h.below hb h.lt
theorem Nm.alloc {w:World} {g x:Nat} (h:Nm w g x) (o:Obj):Nm (w.alloc o) g x:=h.on ((Below.refl w.heap.size w).alloc (Nat.le_refl _) o)
theorem Nm.new (w:World) (x:Nat):Nm (w.alloc (.cells (ai x) 24)) w.heap.size x:=heap_alloc_new _ _
theorem Nm.cell {w:World} {g x:Nat} (h:Nm w g x):w.cell? ⟨g,0,none⟩=some (.int .u64 (wd x 0:Int))∧w.cell? ⟨g,1,none⟩=some (.int .u64 (wd x 1:Int))∧w.cell? ⟨g,2,none⟩=some (.int .u64 (wd x 2:Int))∧w.cell? ⟨g,3,none⟩=some (.int .u64 (wd x 3:Int)):=by
 refine ⟨?_,?_,?_,?_⟩ <;> (rw [cell_of_row w g _ _ 24 (0,0) h]; rfl)
theorem run_add64' (x y c:Nat) (hc:c≤1) (w:World) :
  (callFunc 87 #[.int .u64 x,.int .u64 y,.int .u64 c]).run Tryz.prog w =
   .ok (.value (.tuple #[.int .u64 (((x+y+c) % 18446744073709551616:Nat):Int),.int .u64 (((x+y+c) / 18446744073709551616:Nat):Int)])) w:=by
 rw [run_callFunc_extern Tryz.func87 (by kernel_rfl) (by kernel_rfl) (by kernel_rfl) (e:=add64Entry) (by kernel_rfl),run_add64 x y c (by omega) (by omega) (by omega) (by omega)]
 simp only [Result.andThen]
 congr 5 <;> omega
theorem run_sub64' (x y b:Nat) (hb:b≤1) (w:World) :
  (callFunc 76 #[.int .u64 x,.int .u64 y,.int .u64 b]).run Tryz.prog w =
   .ok (.value (.tuple #[.int .u64 (((x+18446744073709551616 - y - b) % 18446744073709551616:Nat):Int),.int .u64 ((if x<y+b then 1 else 0:Nat):Int)])) w:=by
 rw [run_callFunc_extern Tryz.func76 (by kernel_rfl) (by kernel_rfl) (by kernel_rfl) (e:=sub64Entry) (by kernel_rfl),run_sub64 x y b hb]
 rfl
theorem add_word (x y c:Nat) (z:x<18446744073709551616) (f:y<18446744073709551616) (hc:c≤1) :
  ∃ t k:Nat,(∀ w:World,(callFunc 87 #[.int .u64 x,.int .u64 y,.int .u64 c]).run Tryz.prog w=.ok (.value (.tuple #[.int .u64 (t:Int),.int .u64 (k:Int)])) w)∧t+18446744073709551616 * k=x+y+c∧t<18446744073709551616∧k≤1 :=
 ⟨_,_,run_add64' x y c hc,by omega,by omega,by omega⟩
theorem sub_word (x y c:Nat) (z:x<18446744073709551616) (f:y<18446744073709551616) (hc:c≤1) :
  ∃ t k:Nat,(∀ w:World,(callFunc 76 #[.int .u64 x,.int .u64 y,.int .u64 c]).run Tryz.prog w=.ok (.value (.tuple #[.int .u64 (t:Int),.int .u64 (k:Int)])) w)∧t+y+c=x+18446744073709551616 * k∧t<18446744073709551616∧k≤1 :=
 ⟨_,_,run_sub64' x y c hc,by split <;> omega,by omega,by split <;> omega⟩
theorem sum_of {x y D z f t3 k:Nat} (J:D<18446744073709551616) (I:z<18446744073709551616) (G:f<18446744073709551616) (F:t3<18446744073709551616) (h:v4 D z f t3+2 ^ 256 * k=x+y) :
  v4 D z f t3=(x+y) % 2 ^ 256∧k=(x+y) / 2 ^ 256:=by
 have E:=v4_lt J I G F
 rw [← h,Nat.add_mul_mod_self_left,Nat.mod_eq_of_lt E,Nat.add_mul_div_left _ _ (Nat.two_pow_pos 256),Nat.div_eq_of_lt E,Nat.zero_add]
 exact ⟨rfl,rfl⟩
def dif (x y:Nat):Nat:=if x<y then x+2 ^ 256 - y else x - y
def cM (x y:Nat):Nat:=if x<y then 1 else 0
theorem dif_of {x y D z f t3 k:Nat} (K:x<2 ^ 256) (J:y<2 ^ 256) (I:D<18446744073709551616) (G:z<18446744073709551616) (F:f<18446744073709551616) (E:t3<18446744073709551616) (h:v4 D z f t3+y=x+2 ^ 256 * k) (M:k≤1) :
  v4 D z f t3=dif x y∧k=cM x y:=by
 have L:=v4_lt I G F E
 generalize v4 D z f t3=t at *
 unfold dif cM
 rw [p256] at *
 split <;> omega
theorem dif_lt {x y:Nat} (z:x<2 ^ 256) (f:y<2 ^ 256):dif x y<2 ^ 256:=by
 unfold dif
 rw [p256] at *
 split <;> omega
end
section
def Cg (m:Nat) (x y:Int):Prop:=∃ k:Int,x=y+m * k
theorem Cg.refl (m:Nat) (x:Int):Cg m x x:=⟨0,by simp⟩
theorem Cg.symm {m:Nat} {x y:Int} : Cg m x y→Cg m y x:=fun ⟨k,h⟩=>⟨-k,by grind⟩
theorem Cg.trans {m:Nat} {x y z:Int} : Cg m x y→Cg m y z→Cg m x z:=fun ⟨k,h⟩ ⟨j,g⟩=>⟨k+j,by grind⟩
theorem Cg.add {m:Nat} {x y u v:Int} : Cg m x y→Cg m u v→Cg m (x+u) (y+v):=fun ⟨k,h⟩ ⟨j,g⟩=>⟨k+j,by grind⟩
theorem Cg.sub {m:Nat} {x y u v:Int} : Cg m x y→Cg m u v→Cg m (x - u) (y - v):=fun ⟨k,h⟩ ⟨j,g⟩=>⟨k - j,by grind⟩
theorem Cg.mul {m:Nat} {x y u v:Int} : Cg m x y→Cg m u v→Cg m (x * u) (y * v):=fun ⟨k,h⟩ ⟨j,g⟩=>⟨y * j+k * v+m * k * j,by subst h g; grind⟩
theorem Cg.of_mod (m n:Nat):Cg m ((n % m:Nat):Int) n:=⟨-((n / m:Nat):Int),by
 have h:((n % m+m * (n / m):Nat):Int)=(n:Int):=congrArg _ (Nat.mod_add_div n m)
 rw [Int.natCast_add,Int.natCast_mul] at h
 grind⟩
theorem Cg.times (m:Nat) (x k:Int):Cg m (x+m * k) x:=⟨k,rfl⟩
theorem Cg.mods {m:Nat} {x y:Nat} (h:Cg m x y):x % m=y % m:=by
 obtain ⟨k,h⟩:=h
 have e:(x:Int) % m=(y:Int) % m:=by rw [h,Int.add_mul_emod_self_left]
 exact_mod_cast e
theorem Cg.eq {m:Nat} {x y:Nat} (z:x<m) (f:y<m) (h:Cg m x y):x=y:=by
 have:=h.mods
 rwa [Nat.mod_eq_of_lt z,Nat.mod_eq_of_lt f] at this
theorem Cg.is_mod {m x n:Nat} (f:x<m) (h:Cg m x n):x=n % m:=by
 have:=h.mods
 rwa [Nat.mod_eq_of_lt f] at this
def Ivs (a m v:Nat):Prop:=v<m∧a * v % m=1
theorem Ivs.of {a m v:Nat} (z:1<m) (f:v<m) (h:Cg m ((a:Int) * v) 1):Ivs a m v:=by
 refine ⟨f,?_⟩
 have e:Cg m ((a * v:Nat):Int) ((1:Nat):Int):=by rw [Int.natCast_mul]; exact h
 rw [e.mods,Nat.mod_eq_of_lt z]
theorem ivs_step {a m f D last next t z:Nat} (K:Cg m (a * last) f) (J:Cg m (a * next) D) (I:t=f / D * next % m) (G:Cg m z ((last:Int) - t)):Cg m (a * z) ((f % D:Nat):Int):=by
 have O:Cg m (t:Int) ((f / D:Nat) * next):=by
  subst I
  have:=Cg.of_mod m (f / D * next)
  rwa [Int.natCast_mul] at this
 have F:=(Cg.refl m (a:Int)).mul (G.trans ((Cg.refl m (last:Int)).sub O))
 have M:((a:Int) * ((last:Int) - (f / D:Nat) * next))=a * last - (f / D:Nat) * (a * next):=by grind
 rw [M] at F
 have E:=K.sub ((Cg.refl m ((f / D:Nat):Int)).mul J)
 have L:(f:Int) - (f / D:Nat) * D=((f % D:Nat):Int):=by
  have h:((f % D+D * (f / D):Nat):Int)=(f:Int):=congrArg _ (Nat.mod_add_div f D)
  rw [Int.natCast_add,Int.natCast_mul] at h
  grind
 rw [L] at E
 exact F.trans E
theorem gcd_step (z f:Nat):Nat.gcd f (z % f)=Nat.gcd z f:=by
 rw [Nat.gcd_comm f,← Nat.gcd_rec,Nat.gcd_comm]
theorem Ivs.gcd {a m v:Nat} (h:Ivs a m v):Nat.gcd a m=1:=by
 have f:Nat.gcd a m∣a * v % m:=(Nat.dvd_mod_iff (Nat.gcd_dvd_right a m)).2 (Nat.dvd_trans (Nat.gcd_dvd_left a m) (Nat.dvd_mul_right a v))
 rw [h.2] at f
 exact Nat.dvd_one.1 f
theorem lower_cg {R m z high E f D:Nat} (F:z<R) (G:Cg R ((m:Int) * E) 1) (K:f=z * E % R) (L:D=f * m / R):Cg m (((high:Int) - D) * R) (z+R * high):=by
 have M:Cg R ((f * m:Nat):Int) z:=by
  subst K
  have:=(Cg.of_mod R (z * E)).mul (Cg.refl R (m:Int))
  rw [Int.natCast_mul] at this ⊢
  have I:((z:Int) * E * m)=z * (m * E):=by grind
  rw [I] at this
  have J:=this.trans ((Cg.refl R (z:Int)).mul G)
  simpa using J
 have J:f * m % R=z:=by
  have:=M.mods
  rwa [Nat.mod_eq_of_lt F] at this
 have I:((z+R * D:Nat):Int)=((f * m:Nat):Int):=by
  subst L; rw [← J]; exact congrArg _ (Nat.mod_add_div _ _)
 rw [Int.natCast_add,Int.natCast_mul,Int.natCast_mul] at I
 exact ⟨-(f:Int),by grind⟩
theorem above_lt {R m f:Nat} (z:f<R) (D:0<m):f * m / R<m:=by
 have h:f * m<m * R:=by rw [Nat.mul_comm m R]; exact Nat.mul_lt_mul_of_pos_right z D
 exact Nat.div_lt_of_lt_mul (by rwa [Nat.mul_comm m R] at h)
theorem cg_cancel {R m f:Nat} (z:Cg R ((m:Int) * f) 1) {x y:Int} (h:Cg m (x * R) (y * R)):Cg m x y:=by
 obtain ⟨k,D⟩:=z
 obtain ⟨j,E⟩:=h
 refine ⟨(x - y) * f - j * k,?_⟩
 grind
theorem Cg.of_dvd {D m:Nat} {x y:Int} (hd:D∣m):Cg m x y→Cg D x y:=fun ⟨k,h⟩=>by
 obtain ⟨c,rfl⟩:=hd
 exact ⟨c * k,by rw [h,Int.natCast_mul]; grind⟩
theorem Cg.of_dif {x y:Nat} (f:y<2 ^ 256):Cg (2 ^ 256) (dif x y) ((x:Int) - y):=by
 unfold dif
 split
 ·exact ⟨1,by omega⟩
 ·exact ⟨0,by omega⟩
theorem cg_square {m:Nat} (h:m % 2=1):Cg 8 ((m:Int) * m) 1:=by
 have e:(m * m) % 8=1:=by
  have:m % 8=1∨m % 8=3∨m % 8=5∨m % 8=7:=by omega
  rw [Nat.mul_mod]
  rcases this with h | h | h | h <;> rw [h]
 have:=(Cg.of_mod 8 (m * m)).symm
 rw [e] at this
 simpa using this
def few (i:Nat):Nat:=min 256 (3 * 2 ^ i)
theorem few_seven:few 7=256:=by decide
theorem few_step (i:Nat):few (i+1)≤2 * few i∧few i≤256:=by
 unfold few
 have:2 ^ (i+1)=2 * 2 ^ i:=by rw [Nat.pow_succ,Nat.mul_comm]
 rw [this]
 generalize 2 ^ i=t
 omega
theorem invert_round {m x i f left t:Nat} (U:m<2 ^ 256) (R:x<2 ^ 256) (h:Cg (2 ^ few i) ((m:Int) * x) 1) (D:m * x % 2 ^ 256=f) (hd:dif 2 f=left) (E:x * left % 2 ^ 256=t):Cg (2 ^ few (i+1)) ((m:Int) * t) 1:=by
 have z:f<2 ^ 256:=by rw [← D]; exact Nat.mod_lt _ (Nat.two_pow_pos _)
 have O:Cg (2 ^ 256) (f:Int) (m * x):=by rw [← D,← Int.natCast_mul]; exact Cg.of_mod _ _
 have M:Cg (2 ^ 256) (left:Int) (2 - m * x):=by
  rw [← hd]
  exact (Cg.of_dif z).trans ((Cg.refl _ (2:Int)).sub O)
 have L:Cg (2 ^ 256) (t:Int) (x * (2 - m * x)):=by
  rw [← E]
  refine (Cg.of_mod _ _).trans ?_
  rw [Int.natCast_mul]
  exact (Cg.refl _ (x:Int)).mul M
 obtain ⟨G,Y⟩:=few_step i
 have K:=(Cg.of_dvd (Nat.pow_dvd_pow 2 (show few (i+1)≤256 from (few_step (i+1)).2)) L)
 obtain ⟨k,V⟩:=h
 obtain ⟨j,F⟩:=K
 have J:Cg (2 ^ (2 * few i)) (m * (x * (2 - m * x))) 1:=⟨-(k * k),by
  have e:((2 ^ (2 * few i):Nat):Int)=(2 ^ few i:Nat) * (2 ^ few i:Nat):=by rw [Nat.two_mul,Nat.pow_add,Int.natCast_mul]
  rw [e]
  generalize ((2 ^ few i:Nat):Int)=N at *
  grind⟩
 have I:=Cg.of_dvd (Nat.pow_dvd_pow 2 G) J
 refine Cg.trans ⟨m * j,?_⟩ I
 rw [F]
 grind
theorem round_add {a b m s l:Nat} (E:a<m) (hb:b<m) (D:m<2 ^ 256) (f:(a+b) % 2 ^ 256=s) (z:dif s m=l):(if (a+b) / 2 ^ 256<cM s m then s else l)=(a+b) % m:=by
 have e:(a+b) % m=if a+b<m then a+b else a+b - m:=by
  split
  ·exact Nat.mod_eq_of_lt ‹_›
  ·rw [Nat.mod_eq_sub_mod (by omega),Nat.mod_eq_of_lt (by omega)]
 rw [e,← z,← f]
 unfold dif cM
 rw [p256] at *
 split <;> split <;> (try split) <;> (try split) <;> omega
theorem round_sub {a b m:Nat} (z:a<m) (hb:b<m):(if a<b then (dif a b+m) % 2 ^ 256 else dif a b)=(a+(m - b)) % m∨2 ^ 256≤m:=by
 by_cases f:2 ^ 256≤m
 ·exact Or.inr f
 refine Or.inl ?_
 have e:(a+(m - b)) % m=if a<b then a+m - b else a - b:=by
  split
  ·rw [Nat.mod_eq_of_lt (by omega)]; omega
  ·rw [Nat.mod_eq_sub_mod (by omega),Nat.mod_eq_of_lt (by omega)]; omega
 rw [e]
 unfold dif
 rw [p256] at *
 split <;> omega
theorem Cg.of_sub {a b m:Nat} (hb:b≤m):Cg m (((a+(m - b)) % m:Nat):Int) ((a:Int) - b):=by
 refine (Cg.of_mod _ _).trans ⟨1,?_⟩
 omega
def Can (m:Nat) (r:Int):Prop:=∀ x y:Int,Cg m (x * r) (y * r)→Cg m x y
theorem Can.one (m:Nat):Can m 1:=fun x y h=>by simpa using h
theorem form_mul {m r x y z u v:Nat} (hc:Can m r) (E:x=u * r % m) (D:y=v * r % m) (f:z<m) (h:Cg m ((z:Int) * r) ((x:Int) * y)):z=u * v * r % m:=by
 refine Cg.is_mod f (hc _ _ (h.trans ?_))
 have J:Cg m (x:Int) (u * r):=by subst E; rw [← Int.natCast_mul]; exact Cg.of_mod _ _
 have I:Cg m (y:Int) (v * r):=by subst D; rw [← Int.natCast_mul]; exact Cg.of_mod _ _
 have G:=J.mul I
 have F:((u * v * r:Nat):Int) * r=(u:Int) * r * (v * r):=by
  rw [Int.natCast_mul,Int.natCast_mul]; grind
 rw [F]; exact G
theorem form_leave {m r x z u:Nat} (hc:Can m r) (D:x=u * r % m) (f:z<m) (h:Cg m ((z:Int) * r) x):z=u % m:=by
 refine Cg.is_mod f (hc _ _ (h.trans ?_))
 subst D; rw [← Int.natCast_mul]; exact Cg.of_mod _ _
theorem pow_step0 {n i:Nat} (a:Nat) (h:aV n i=0):a ^ (n / 2 ^ (i+1)) * a ^ (n / 2 ^ (i+1))=a ^ (n / 2 ^ i):=by
 rw [bit_step n i,h,← Nat.pow_add]; congr 1; omega
theorem pow_step1 {n i:Nat} (a:Nat) (h:aV n i=1):a ^ (n / 2 ^ (i+1)) * a ^ (n / 2 ^ (i+1)) * a=a ^ (n / 2 ^ i):=by
 rw [bit_step n i,h,← Nat.pow_add,← Nat.pow_succ]; congr 1; omega
theorem pow_first (a n:Nat):a ^ (n / 2 ^ aq n)=1:=by
 rw [Nat.div_eq_of_lt (nbits_lt n),Nat.pow_zero]
def bin:Nat→Nat→Nat
 | _,0=>1
 | 0,_+1=>0
 | n+1,k+1=>bin n k+bin n (k+1)
def sm (f:Nat→Nat):Nat→Nat
 | 0=>0
 | n+1=>sm f n+f n
def Prm (p:Nat):Prop:=1<p∧∀ d,d∣p→d=1∨d=p
theorem Prm.gcd {p k:Nat} (h:Prm p) (f:0<k) (z:k<p):Nat.gcd k p=1:=by
 rcases h.2 _ (Nat.gcd_dvd_right k p) with e | e
 ·exact e
 ·have:=Nat.gcd_le_left p f
  omega
theorem Prm.no {p i:Nat} (h:Prm p) (f:2≤i) (hi:i * i≤p):p % i≠0:=fun e=>by
 rcases h.2 i (Nat.dvd_of_mod_eq_zero e) with g | g
 ·omega
 ·subst g; have:2 * i≤i * i:=Nat.mul_le_mul_right i f; omega
theorem law_one {m:Nat} (n:Nat) (f:1<m):1 ^ n % m=1:=by rw [Nat.one_pow,Nat.mod_eq_of_lt f]
theorem law_nought (k m:Nat):0 ^ (k+1) % m=0:=by rw [Nat.zero_pow (by omega),Nat.zero_mod]
end
end Go.Proofs.YtmapkbdjnnionaaGreatDoor
