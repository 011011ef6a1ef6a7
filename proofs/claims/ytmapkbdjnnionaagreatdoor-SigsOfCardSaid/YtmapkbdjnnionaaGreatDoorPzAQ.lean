import Derived.Test.YtmapkbdjnnionaaGreatDoorPzAO
import Derived.Test.YtmapkbdjnnionaaGreatDoorPzAP
set_option maxRecDepth 100000
set_option maxHeartbeats 8000000
set_option linter.all false
namespace Go.Proofs.YtmapkbdjnnionaaGreatDoor
section
open Go.RowKit
def ae (w:World) (l:List (Nat×Nat)) (w':World):Prop:=Below w.heap.size w w'∧∀ p∈l,Nm w' p.1 p.2
theorem ae.refl (w:World):ae w [] w:=⟨Below.refl _ _,by simp⟩
theorem ae.on {w w' w2:World} {l:List (Nat×Nat)} (h:ae w l w') (hb:Below w'.heap.size w' w2):ae w l w2:=⟨dM h.1 hb,fun p f=>(h.2 p f).on hb⟩
theorem ae.drew {w w':World} {l:List (Nat×Nat)} (h:ae w l w'):ae w l w'.drew:=⟨h.1.drew,fun p f=>h.2 p f⟩
theorem ae.new {w w':World} {l:List (Nat×Nat)} (h:ae w l w') (x:Nat):ae w ((w'.heap.size,x) :: l) (w'.alloc (.cells (ai x) 24)):=by
 refine ⟨bal h.1 _,fun p f=>?_⟩
 rcases List.mem_cons.1 f with rfl | f
 ·exact Nm.new w' x
 ·exact (h.2 p f).alloc _
theorem ae.nm {w w':World} {l:List (Nat×Nat)} (h:ae w l w') (g x:Nat) (f:(g,x)∈l):Nm w' g x:=h.2 _ f
theorem ae.cell {w w':World} {l:List (Nat×Nat)} (h:ae w l w') (g x:Nat) (f:(g,x)∈l):w'.cell? ⟨g,0,none⟩=some (.int .u64 (wd x 0:Int))∧w'.cell? ⟨g,1,none⟩=some (.int .u64 (wd x 1:Int))∧w'.cell? ⟨g,2,none⟩=some (.int .u64 (wd x 2:Int))∧w'.cell? ⟨g,3,none⟩=some (.int .u64 (wd x 3:Int)):=(h.2 _ f).cell
theorem ae.lt {w w':World} {l:List (Nat×Nat)} (h:ae w l w') (g x:Nat) (f:(g,x)∈l):g<w'.heap.size:=(h.2 _ f).lt
def top:Nat:=2 ^ 256 - 1
theorem ae.new2 {w w':World} {l:List (Nat×Nat)} (h:ae w l w') (x y:Nat):ae w ((w'.heap.size+1,y) :: (w'.heap.size,x) :: l) ((w'.alloc (.cells (ai x) 24)).alloc (.cells (ai y) 24)):=by
 have:=(h.new x).new y
 simpa using this
section
variable {w w':World} {l:List (Nat×Nat)}
theorem dh (n:Nat) (z:Int) (h:ae w l w') (D:n<18446744073709551616) (f:(n:Int)=z):Calls Tryz.prog 32 #[.int .u64 z] w' fun e w2=>e=.returned (af n)∧ae w l w2:=by
 subst f; exact (lof_any n w' D).mono fun e w2 ⟨he,hb⟩=>⟨he,h.on hb⟩
theorem add_at (x y s:Nat) (k:Int) (h:ae w l w') (z:x<2 ^ 256) (f:y<2 ^ 256) (D:(x+y) % 2 ^ 256=s) (E:(((x+y) / 2 ^ 256:Nat):Int)=k) :
  Calls Tryz.prog 63 #[af x,af y] w' fun e w2=>e=.returned (.tuple #[af s,.int .u64 k])∧ae w l w2:=by
 subst D; subst E; exact (ladd_any x y w' z f).mono fun e w2 ⟨he,hb⟩=>⟨he,h.on hb⟩
theorem sub_at (x y s:Nat) (k:Int) (h:ae w l w') (z:x<2 ^ 256) (f:y<2 ^ 256) (D:dif x y=s) (E:((cM x y:Nat):Int)=k) :
  Calls Tryz.prog 49 #[af x,af y] w' fun e w2=>e=.returned (.tuple #[af s,.int .u64 k])∧ae w l w2:=by
 subst D; subst E; exact (sub_any x y w' z f).mono fun e w2 ⟨he,hb⟩=>⟨he,h.on hb⟩
theorem mul_at (x y lo hi:Nat) (h:ae w l w') (z:x<2 ^ 256) (f:y<2 ^ 256) (D:x * y % 2 ^ 256=lo) (hh:x * y / 2 ^ 256=hi) :
  Calls Tryz.prog 66 #[af x,af y] w' fun e w2=>e=.returned (.tuple #[af lo,af hi])∧ae w l w2:=by
 subst D; subst hh; exact (mul_any x y w' z f).mono fun e w2 ⟨he,hb⟩=>⟨he,h.on hb⟩
theorem shift_at (x y:Nat) (n:Int) (h:ae w l w') (z:x<2 ^ 256) (E : -9223372036854775808≤n) (D:n≤9223372036854775807) (f:shf x n=y) :
  Calls Tryz.prog 107 #[af x,.int .i64 n] w' fun e w2=>e=.returned (af y)∧ae w l w2:=by
 subst f; exact (shift_any x n w' z E D).mono fun e w2 ⟨he,hb⟩=>⟨he,h.on hb⟩
theorem bit_at (x:Nat) (n b:Int) (h:ae w l w') (f:x<2 ^ 256) (D : -9223372036854775808≤n) (z:n≤9223372036854775807) (hb:(bi x n:Int)=b) :
  Calls Tryz.prog 79 #[af x,.int .i64 n] w' fun e w2=>e=.returned (.int .u64 b)∧ae w l w2:=by
 subst hb; exact (bit_any x n w' f D z).mono fun e w2 ⟨he,hb⟩=>⟨he,h.on hb⟩
theorem b8 (x:Nat) (b:Int) (h:ae w l w') (f:x<2 ^ 256) (hb:(aq x:Int)=b) :
  Calls Tryz.prog 12 #[af x] w' fun e w2=>e=.returned (.int .i64 b)∧ae w l w2:=by
 subst hb; exact (bits_any x w' f).mono fun e w2 ⟨he,hb⟩=>⟨he,h.on hb⟩
theorem cmp_at (x y:Nat) (c:Int) (h:ae w l w') (z:x<2 ^ 256) (f:y<2 ^ 256) (hc:aD x y=c) :
  Calls Tryz.prog 34 #[af x,af y] w' fun e w2=>e=.returned (.int .i64 c)∧ae w l w2:=by
 subst hc; exact (cmp_any x y w' z f).mono fun e w2 ⟨he,hb⟩=>⟨he,h.on hb⟩
end
abbrev fil (w:World) (g x:Nat):World:=(((w.setCell ⟨g,0,none⟩ (.int .u64 (wd x 0:Int))).setCell ⟨g,1,none⟩ (.int .u64 (wd x 1:Int))).setCell ⟨g,2,none⟩ (.int .u64 (wd x 2:Int))).setCell ⟨g,3,none⟩ (.int .u64 (wd x 3:Int))
theorem fil_nm {w:World} {g:Nat} {a b c d:Value} (x:Nat) (h:Fr w g a b c d):Nm (fil w g x) g x:=(((h.set0 _).set1 _).set2 _).set3 _
theorem dK {w0 w:World} {g B:Nat} (x:Nat) (hb:Below B w0 w) (f:B≤g):Below B w0 (fil w g x):=(((hb.setCell (p:=⟨g,0,none⟩) f _).setCell (p:=⟨g,1,none⟩) f _).setCell (p:=⟨g,2,none⟩) f _).setCell (p:=⟨g,3,none⟩) f _
theorem Nm.fr {w:World} {g x:Nat} (h:Nm w g x):Fr w g (.int .u64 (wd x 0:Int)) (.int .u64 (wd x 1:Int)) (.int .u64 (wd x 2:Int)) (.int .u64 (wd x 3:Int)):=h
theorem dJ {w:World} {g g':Nat} (x y:Nat) (h:Nm w g y) (f:g≠g'):Nm (fil w g' x) g y :=
 (((h.fr.setOther _ f).setOther _ f).setOther _ f).setOther _ f
theorem bH:(#[.int .u64 0,.int .u64 0,.int .u64 0,.int .u64 0]:Array Value)=ai 0:=by have:=dp; injection this
theorem ae.perm {w w':World} {l l':List (Nat×Nat)} (h:ae w l w') (f:∀ p∈l',p∈l):ae w l' w':=⟨h.1,fun p z=>h.2 p (f p z)⟩
theorem ae.frozen {w w':World} {l:List (Nat×Nat)} (h:ae w l w') (g x:Nat) (f:(g,x)∈l) (i:Nat):w'.frozen? ⟨g,i,none⟩=false:=(h.nm g x f).fr.frozen i
theorem ae.set {w w':World} {l:List (Nat×Nat)} (h:ae w l w') (g x y:Nat) (l':List (Nat×Nat)) (D:(g,x)∈l) (E:w.heap.size≤g) (z:∀ p∈l',p∈l∧p.1≠g):ae w ((g,y) :: l') (fil w' g y):=by
 refine ⟨dK y h.1 E,fun p f=>?_⟩
 rcases List.mem_cons.1 f with rfl | f
 ·exact fil_nm y (h.nm g x D).fr
 ·exact dJ y p.2 (h.2 p (z p f).1) (z p f).2
theorem ae.zero {w w':World} {l:List (Nat×Nat)} (h:ae w l w'):ae w ((w'.heap.size,0) :: l) (w'.alloc (.cells #[.int .u64 0,.int .u64 0,.int .u64 0,.int .u64 0] 24)):=by
 rw [bH]; exact h.new 0
theorem ah {w w':World} {l:List (Nat×Nat)} {f:FuncId} {z:Array Value} {v:Value} (hc:Calls Tryz.prog f z w' fun e w2=>e=.returned v∧Below w'.heap.size w' w2) (h:ae w l w'):Calls Tryz.prog f z w' fun e w2=>e=.returned v∧ae w l w2 :=
 hc.mono fun e w2 ⟨he,hb⟩=>⟨he,h.on hb⟩
theorem add_b (x y s:Nat) (k:Int) (w:World) (z:x<2 ^ 256) (f:y<2 ^ 256) (D:(x+y) % 2 ^ 256=s) (E:(((x+y) / 2 ^ 256:Nat):Int)=k):Calls Tryz.prog 63 #[af x,af y] w fun e w2=>e=.returned (.tuple #[af s,.int .u64 k])∧Below w.heap.size w w2:=by
 subst D; subst E; exact ladd_any x y w z f
theorem sub_b (x y s:Nat) (k:Int) (w:World) (z:x<2 ^ 256) (f:y<2 ^ 256) (D:dif x y=s) (E:((cM x y:Nat):Int)=k):Calls Tryz.prog 49 #[af x,af y] w fun e w2=>e=.returned (.tuple #[af s,.int .u64 k])∧Below w.heap.size w w2:=by
 subst D; subst E; exact sub_any x y w z f
theorem even_word {s b:Nat} (E:s % 2=0) (hb:b≤1):wd (s+b) 0=wd s 0+b∧wd (s+b) 1=wd s 1∧wd (s+b) 2=wd s 2∧wd (s+b) 3=wd s 3:=by
 unfold wd
 have D:(18446744073709551616:Nat) ^ 1=18446744073709551616:=by decide
 have z:(18446744073709551616:Nat) ^ 2=340282366920938463463374607431768211456:=by decide
 have f:(18446744073709551616:Nat) ^ 3=6277101735386680763835789423207666416102355444464034512896:=by decide
 rw [D,z,f,Nat.pow_zero]
 refine ⟨?_,?_,?_,?_⟩ <;> omega
theorem or_bit {s b:Nat} (z:s % 2=0) (hb:b≤1):bits .or .u64 (wd s 0:Int) (b:Int)=(wd (s+b) 0:Int):=by
 have f:=aO s 0
 have D:wd s 0 % 2=0:=by unfold wd; rw [Nat.pow_zero]; omega
 rw [(even_word z hb).1,u64_or_nat _ _ f (by omega)]
 congr 1
 have h:=Nat.shiftLeft_add_eq_or_of_lt (b:=b) (i:=1) (by omega) (wd s 0 / 2)
 rw [Nat.shiftLeft_eq,Nat.pow_one] at h
 rw [show wd s 0 / 2 * 2=wd s 0 by omega] at h
 omega
theorem take_num {r b m:Nat} (E:m<2 ^ 256) (D:r<m) (hb:b≤1) :
  (r+r) % 2 ^ 256 % 2=0∧(r+r) % 2 ^ 256+b<2 ^ 256∧
  ((2 * r+b<m∧(2 * r+b) % m=(r+r) % 2 ^ 256+b∧(2 * r+b) / m=0∧(((r+r) / 2 ^ 256:Nat):Int)<((cM ((r+r) % 2 ^ 256+b) m:Nat):Int))∨
  (m≤2 * r+b∧(2 * r+b) % m=dif ((r+r) % 2 ^ 256+b) m∧(2 * r+b) / m=1∧¬ ((((r+r) / 2 ^ 256:Nat):Int)<((cM ((r+r) % 2 ^ 256+b) m:Nat):Int)))):=by
 rcases Nat.lt_or_ge (2 * r+b) m with h | h
 ·have z:(2 * r+b) % m=2 * r+b:=Nat.mod_eq_of_lt h
  have f:(2 * r+b) / m=0:=Nat.div_eq_of_lt h
  rw [z,f]
  unfold cM
  rw [p256] at *
  refine ⟨by omega,by omega,.inl ⟨h,by omega,rfl,?_⟩⟩
  rw [if_pos (by omega)]
  omega
 ·have z:(2 * r+b) % m=2 * r+b - m:=by rw [Nat.mod_eq_sub_mod h,Nat.mod_eq_of_lt (by omega)]
  have f:(2 * r+b) / m=1:=by rw [Nat.div_eq_sub_div (by omega) h,Nat.div_eq_of_lt (by omega)]
  rw [z,f]
  unfold cM dif
  rw [p256] at *
  refine ⟨by omega,by omega,.inr ⟨h,?_,rfl,?_⟩⟩ <;> split <;> omega
theorem dtake_any (r b m:Nat) (w:World) (L:m<2 ^ 256) (hr:r<m) (hb:b≤1) :
  Calls Tryz.prog 108 #[af r,.int .u64 (b:Int),af m] w fun e w'=>e=.returned (.tuple #[af ((2 * r+b) % m),.int .u64 (((2 * r+b) / m:Nat):Int)])∧Below w.heap.size w w':=by
 obtain ⟨M,hs,hc⟩:=take_num L hr hb
 obtain ⟨s,es⟩:∃ s,(r+r) % 2 ^ 256=s:=⟨_,rfl⟩
 obtain ⟨k,ek⟩:∃ k:Int,(((r+r) / 2 ^ 256:Nat):Int)=k:=⟨_,rfl⟩
 rw [es] at M hs hc
 rw [ek] at hc
 obtain ⟨t,et⟩:∃ t,dif (s+b) m=t:=⟨_,rfl⟩
 obtain ⟨l,el⟩:∃ l:Int,((cM (s+b) m:Nat):Int)=l:=⟨_,rfl⟩
 rw [et,el] at hc
 have ho:=or_bit M hb
 obtain ⟨w0,w1,w2,w3⟩:=even_word M hb
 have ES:=hid es
 have EK:=hid ek
 have ET:=hid et
 have EL:=hid el
 have HM:=hid L
 have O:=hid (Nat.lt_trans hr L)
 have HS:=hid hs
 have W1:=hid w1
 have W2:=hid w2
 have W3:=hid w3
 have R:=hid (((((ae.refl w).new r).new m).zero).perm (l':=[(w.heap.size+1+1,0),(w.heap.size+1,m),(w.heap.size,r)]) (by simp))
 clear es ek et el L hr hs w0 w1 w2 w3 M hb
 rcases hc with ⟨_,I,G,c3⟩ | ⟨_,I,G,c3⟩
 ·rw [I,G]
  clear I G
  go_enter Tryz.func108,Tryz.ntmps108
  go_wp2_with fail
  refine (ah (add_b r r s k _ O.out O.out ES.out EK.out) R.out).mono ?_
  rintro e u1 ⟨rfl,h⟩
  have D:=hid h
  have G6:=hid (show w.heap.size≤w.heap.size+1+1 by omega)
  clear h R
  generalize w.heap.size+1+1=f at *
  generalize w.heap.size+1=g5 at *
  obtain ⟨m0,m1,m2,m3⟩:=D.out.cell g5 m (by simp)
  have l5:=D.out.lt g5 m (by simp)
  have E:=D.out.lt f 0 (by simp)
  go_wp2_with fail
  rw [← W1.out,← W2.out,← W3.out]
  change Calls _ _ #[af (s+b),af m] (u1.alloc (.cells (ai (s+b)) 24)) _
  have K:=hid (D.out.new (s+b))
  have N6:=hid (Nat.ne_of_lt E)
  clear D m0 m1 m2 m3 l5 E
  refine (ah (sub_b (s+b) m t l _ HS.out HM.out ET.out EL.out) K.out).mono ?_
  rintro e u2 ⟨rfl,h⟩
  have z:=hid h
  clear h K
  generalize u1.heap.size=F at *
  obtain ⟨s0,s1,s2,s3⟩:=z.out.cell F (s+b) (by simp)
  obtain ⟨Y,V,U,z3⟩:=z.out.cell f 0 (by simp)
  have f6:=z.out.frozen f 0 (by simp)
  have l8:=z.out.lt F (s+b) (by simp)
  have E:=z.out.lt f 0 (by simp)
  have Z:=N6.out
  have J:=hid ((z.out.set f 0 (s+b) [] (by simp) G6.out (by simp)).new t)
  go_wp2
  clear s0 s1 s2 s3 Y V U z3 f6 l8 E Z
  change bodyPost _ _ _ _ _ ((fil u2 f (s+b)).alloc (.cells (ai t) 24))
  generalize (fil u2 f (s+b)).alloc (.cells (ai t) 24)=wz at *
  obtain ⟨k0,k1,k2,k3⟩:=J.out.cell f (s+b) (by simp)
  exact bodyPost_ret (v:=.tuple #[af (s+b),.int .u64 0]) (by simp [results,Tryz.results108,go_sem,k0,k1,k2,k3]) rfl ⟨rfl,J.out.1⟩
 ·rw [I,G]
  clear I G
  go_enter Tryz.func108,Tryz.ntmps108
  go_wp2_with fail
  refine (ah (add_b r r s k _ O.out O.out ES.out EK.out) R.out).mono ?_
  rintro e u1 ⟨rfl,h⟩
  have D:=hid h
  have G6:=hid (show w.heap.size≤w.heap.size+1+1 by omega)
  clear h R
  generalize w.heap.size+1+1=f at *
  generalize w.heap.size+1=g5 at *
  obtain ⟨m0,m1,m2,m3⟩:=D.out.cell g5 m (by simp)
  have l5:=D.out.lt g5 m (by simp)
  have E:=D.out.lt f 0 (by simp)
  go_wp2_with fail
  rw [← W1.out,← W2.out,← W3.out]
  change Calls _ _ #[af (s+b),af m] (u1.alloc (.cells (ai (s+b)) 24)) _
  have K:=hid (D.out.new (s+b))
  have N6:=hid (Nat.ne_of_lt E)
  clear D m0 m1 m2 m3 l5 E
  refine (ah (sub_b (s+b) m t l _ HS.out HM.out ET.out EL.out) K.out).mono ?_
  rintro e u2 ⟨rfl,h⟩
  have z:=hid h
  clear h K
  generalize u1.heap.size=F at *
  obtain ⟨s0,s1,s2,s3⟩:=z.out.cell F (s+b) (by simp)
  obtain ⟨Y,V,U,z3⟩:=z.out.cell f 0 (by simp)
  have f6:=z.out.frozen f 0 (by simp)
  have l8:=z.out.lt F (s+b) (by simp)
  have E:=z.out.lt f 0 (by simp)
  have Z:=N6.out
  have J:=hid ((z.out.set f 0 t [] (by simp) G6.out (by simp)).new t)
  go_wp2
  clear s0 s1 s2 s3 Y V U z3 f6 l8 E Z
  change bodyPost _ _ _ _ _ ((fil u2 f t).alloc (.cells (ai t) 24))
  generalize (fil u2 f t).alloc (.cells (ai t) 24)=wz at *
  obtain ⟨k0,k1,k2,k3⟩:=J.out.cell f t (by simp)
  exact bodyPost_ret (v:=.tuple #[af t,.int .u64 1]) (by simp [results,Tryz.results108,go_sem,k0,k1,k2,k3]) rfl ⟨rfl,J.out.1⟩
theorem ae.word {w w':World} {l:List (Nat×Nat)} (h:ae w l w') (g x y j:Nat) (l':List (Nat×Nat)) (E:(g,x)∈l) (F:w.heap.size≤g) (D:∀ p∈l',p∈l∧p.1≠g) (G:j<4) (f:∀ i,i≠j→wd y i=wd x i):ae w ((g,y) :: l') (w'.setCell ⟨g,j,none⟩ (.int .u64 (wd y j:Int))):=by
 refine ⟨h.1.setCell (p:=⟨g,j,none⟩) F _,fun p z=>?_⟩
 rcases List.mem_cons.1 z with rfl | z
 ·have hf:=(h.nm g x E).fr
  have:j=0∨j=1∨j=2∨j=3:=by omega
  rcases this with rfl | rfl | rfl | rfl
  ·have:=hf.set0 (.int .u64 (wd y 0:Int)); rw [← f 1 (by decide),← f 2 (by decide),← f 3 (by decide)] at this; exact this
  ·have:=hf.set1 (.int .u64 (wd y 1:Int)); rw [← f 0 (by decide),← f 2 (by decide),← f 3 (by decide)] at this; exact this
  ·have:=hf.set2 (.int .u64 (wd y 2:Int)); rw [← f 0 (by decide),← f 1 (by decide),← f 3 (by decide)] at this; exact this
  ·have:=hf.set3 (.int .u64 (wd y 3:Int)); rw [← f 0 (by decide),← f 1 (by decide),← f 2 (by decide)] at this; exact this
 ·exact (Below.heap_setCell w' ⟨g,j,none⟩ _ p.1 (D p z).2).trans (h.2 p (D p z).1)
theorem word_set {Q e p b:Nat} (O:p<64) (hb:b≤1) :
  (∀ i,i≠e→wd (Q * 2 ^ (64 * e+p+1)+b * 2 ^ (64 * e+p)) i=wd (Q * 2 ^ (64 * e+p+1)) i)
  ∧wd (Q * 2 ^ (64 * e+p+1)+b * 2 ^ (64 * e+p)) e=wd (Q * 2 ^ (64 * e+p+1)) e+b * 2 ^ p
  ∧wd (Q * 2 ^ (64 * e+p+1)) e % 2 ^ (p+1)=0:=by
 have E:(18446744073709551616:Nat)=2 ^ 64:=by decide
 have G:b * 2 ^ (64 * e+p)<2 ^ (64 * e+p+1):=by
  have:=Nat.two_pow_pos (64 * e+p)
  rw [Nat.pow_succ]
  rcases (show b=0∨b=1 by omega) with rfl | rfl <;> omega
 have f:∀ i,18446744073709551616 ^ i=2 ^ (64 * i):=fun i=>by rw [E,← Nat.pow_mul]
 have z:Q * 2 ^ (64 * e+p+1) / 2 ^ (64 * e)=Q * 2 ^ (p+1):=by
  rw [show 64 * e+p+1=(p+1)+64 * e by omega,Nat.pow_add,← Nat.mul_assoc,Nat.mul_div_cancel _ (Nat.two_pow_pos _)]
 have D:(Q * 2 ^ (64 * e+p+1)+b * 2 ^ (64 * e+p)) / 2 ^ (64 * e)=Q * 2 ^ (p+1)+b * 2 ^ p:=by
  rw [show 64 * e+p+1=(p+1)+64 * e by omega,show 64 * e+p=p+64 * e by omega,Nat.pow_add 2 (p+1) (64 * e),Nat.pow_add 2 p (64 * e),← Nat.mul_assoc,← Nat.mul_assoc,← Nat.add_mul,Nat.mul_div_cancel _ (Nat.two_pow_pos _)]
 have J:Q * 2 ^ (p+1) % 2 ^ 64=Q % 2 ^ (64 - (p+1)) * 2 ^ (p+1):=by
  have:(2:Nat) ^ 64=2 ^ (64 - (p+1)) * 2 ^ (p+1):=by rw [← Nat.pow_add]; congr 1; omega
  rw [this,Nat.mul_mod_mul_right]
 refine ⟨fun i hi=>?_,?_,?_⟩
 ·unfold wd
  rw [f]
  rcases Nat.lt_or_ge i e with h | h
  ·have d:∀ X,X * 2 ^ (64 * e+p) / 2 ^ (64 * i) % 18446744073709551616=0:=fun X=>by
    rw [E,show 64 * e+p=(64 * e+p - 64 * i - 64)+64+64 * i by omega,Nat.pow_add,Nat.pow_add,← Nat.mul_assoc,Nat.mul_div_cancel _ (Nat.two_pow_pos _),← Nat.mul_assoc,Nat.mul_mod_left]
   have F:Q * 2 ^ (64 * e+p+1)+b * 2 ^ (64 * e+p)=(2 * Q+b) * 2 ^ (64 * e+p):=by rw [Nat.pow_succ,Nat.add_mul,Nat.mul_comm 2 Q,Nat.mul_assoc,Nat.mul_comm 2]
   have M:Q * 2 ^ (64 * e+p+1)=(2 * Q) * 2 ^ (64 * e+p):=by rw [Nat.pow_succ,Nat.mul_comm 2 Q,Nat.mul_assoc,Nat.mul_comm 2]
   rw [F,M,d,d]
  ·have F:∀ X,X / 2 ^ (64 * i)=X / 2 ^ (64 * e+p+1) / 2 ^ (64 * i - (64 * e+p+1)):=fun X=>by
    rw [Nat.div_div_eq_div_mul,← Nat.pow_add,show 64 * e+p+1+(64 * i - (64 * e+p+1))=64 * i by omega]
   rw [F,F (Q * 2 ^ (64 * e+p+1)),Nat.mul_comm Q,Nat.mul_add_div (Nat.two_pow_pos _),Nat.div_eq_of_lt G,Nat.add_zero,Nat.mul_div_cancel_left _ (Nat.two_pow_pos _)]
 ·unfold wd
  rw [f,D,z,E]
  have I:b * 2 ^ p<2 ^ (p+1):=by
   have:=Nat.two_pow_pos p
   rw [Nat.pow_succ]
   rcases (show b=0∨b=1 by omega) with rfl | rfl <;> omega
  rw [Nat.add_mod,J,Nat.mod_eq_of_lt (Nat.lt_of_lt_of_le I (Nat.pow_le_pow_right (by omega) (by omega)))]
  refine Nat.mod_eq_of_lt ?_
  have L:Q % 2 ^ (64 - (p+1))+1≤2 ^ (64 - (p+1)):=Nat.mod_lt _ (Nat.two_pow_pos _)
  have K:=Nat.mul_le_mul_right (2 ^ (p+1)) L
  rw [← Nat.pow_add,show 64 - (p+1)+(p+1)=64 by omega,Nat.add_mul] at K
  omega
 ·unfold wd
  rw [f,z,E,J,Nat.mul_mod_left]
theorem bring_start {r a c m:Nat} (f:r<m):(r * 2 ^ c+a % 2 ^ c) / 2 ^ c / m=0∧(r * 2 ^ c+a % 2 ^ c) / 2 ^ c % m=r:=by
 have z:=Nat.mod_lt a (Nat.two_pow_pos c)
 rw [Nat.mul_comm,Nat.mul_add_div (Nat.two_pow_pos c),Nat.div_eq_of_lt z,Nat.add_zero,Nat.div_eq_of_lt f,Nat.mod_eq_of_lt f]
 exact ⟨rfl,rfl⟩
theorem bring_bit {r a c j:Nat} (z:j<c):aV (r * 2 ^ c+a % 2 ^ c) j=aV a j:=by
 unfold aV
 have e:r * 2 ^ c+a % 2 ^ c=a % 2 ^ c+2 ^ (j+1) * (r * 2 ^ (c - (j+1))):=by
  have:2 ^ c=2 ^ (j+1) * 2 ^ (c - (j+1)):=by rw [← Nat.pow_add]; congr 1; omega
  conv=>lhs; lhs; rw [this]
  rw [Nat.mul_left_comm,Nat.add_comm]
 have f:∀ X:Nat,X / 2 ^ j % 2=X % 2 ^ (j+1) / 2 ^ j:=fun X=>by rw [Nat.pow_succ,Nat.mod_mul_right_div_self]
 rw [f,f,e,Nat.add_mul_mod_self_left,Nat.mod_mod_of_dvd _ (Nat.pow_dvd_pow 2 (by omega))]
theorem bring_step (N m j:Nat) (f:0<m):(2 * (N / 2 ^ (j+1) % m)+aV N j) % m=N / 2 ^ j % m∧N / 2 ^ j / m=2 * (N / 2 ^ (j+1) / m)+(2 * (N / 2 ^ (j+1) % m)+aV N j) / m:=by
 have h:=Nat.div_add_mod (N / 2 ^ (j+1)) m
 have e:N / 2 ^ j=2 * (N / 2 ^ (j+1) % m)+aV N j+m * (2 * (N / 2 ^ (j+1) / m)):=by
  rw [bit_step N j,Nat.mul_left_comm]; omega
 rw [e,Nat.add_mul_mod_self_left,Nat.add_mul_div_left _ _ f,Nat.add_comm (2 * (N / 2 ^ (j+1) / m))]
 exact ⟨rfl,rfl⟩
theorem bring_lt {r a c m:Nat} (f:r<m):(r * 2 ^ c+a % 2 ^ c) / m<2 ^ c:=by
 have z:=Nat.mod_lt a (Nat.two_pow_pos c)
 rw [Nat.div_lt_iff_lt_mul (by omega),Nat.mul_comm (2 ^ c)]
 have:=Nat.mul_le_mul_right (2 ^ c) (Nat.succ_le_of_lt f)
 rw [Nat.succ_mul] at this
 omega
theorem or_up {x p b:Nat} (D:x<18446744073709551616) (G:p<64) (hb:b≤1) (F:x % 2 ^ (p+1)=0):bits .or .u64 (x:Int) ((b * 2 ^ p:Nat):Int)=((x+b * 2 ^ p:Nat):Int):=by
 have E:2 ^ p * 2≤18446744073709551616:=by rw [← Nat.pow_succ]; exact Nat.le_trans (Nat.pow_le_pow_right (by omega) (show p+1≤64 by omega)) (by decide)
 have z:b * 2 ^ p<2 ^ (p+1):=by
  have:=Nat.two_pow_pos p
  rw [Nat.pow_succ]
  rcases (show b=0∨b=1 by omega) with rfl | rfl <;> omega
 have f:b * 2 ^ p<18446744073709551616:=by rw [Nat.pow_succ] at z; omega
 rw [u64_or_nat _ _ D f]
 congr 1
 have h:=Nat.shiftLeft_add_eq_or_of_lt z (x / 2 ^ (p+1))
 rw [Nat.shiftLeft_eq,Nat.div_mul_cancel (Nat.dvd_of_mod_eq_zero F)] at h
 omega
theorem take_b (r b m s:Nat) (q:Int) (w:World) (E:m<2 ^ 256) (z:r<m) (hb:b≤1) (f:(2 * r+b) % m=s) (D:(((2 * r+b) / m:Nat):Int)=q) :
  Calls Tryz.prog 108 #[af r,.int .u64 (b:Int),af m] w fun e w'=>e=.returned (.tuple #[af s,.int .u64 q])∧Below w.heap.size w w':=by
 subst f; subst D; exact dtake_any r b m w E z hb
theorem bring_any (r a c m:Nat) (w:World) (hr:r<m) (hm:m<2 ^ 256) (ha:a<2 ^ 256) (hc:c≤256) :
  Calls Tryz.prog 90 #[af r,af a,.int .i64 (c:Int),af m] w fun e w'=>e=.returned (.tuple #[af ((r * 2 ^ c+a % 2 ^ c) / m),af ((r * 2 ^ c+a % 2 ^ c) % m)])∧Below w.heap.size w w':=by
 obtain ⟨s1,s2⟩:=bring_start (a:=a) (c:=c) hr
 have M:∀ j,j<c→aV (r * 2 ^ c+a % 2 ^ c) j=aV a j:=fun j hj=>bring_bit hj
 have an:=bring_lt (a:=a) (c:=c) hr
 generalize r * 2 ^ c+a % 2 ^ c=N at *
 have HM:=hid hm
 have HP:=hid (show 0<m by omega)
 have HA:=hid ha
 have HB:=hid M
 have HQ:=hid an
 have HE:=hid (((((((ae.refl w).new r).new a).new m).zero).zero).perm (l':=[(w.heap.size+1+1+1,N / 2 ^ c / m * 2 ^ c),(w.heap.size,N / 2 ^ c % m),(w.heap.size+1,a),(w.heap.size+1+1,m),(w.heap.size+1+1+1+1,0)]) (by rw [s1,s2]; simp))
 have D:=hid (show w.heap.size≠w.heap.size+1∧w.heap.size≠w.heap.size+1+1∧w.heap.size≠w.heap.size+1+1+1∧w.heap.size≠w.heap.size+1+1+1+1∧w.heap.size+1≠w.heap.size+1+1+1∧w.heap.size+1+1≠w.heap.size+1+1+1∧w.heap.size+1+1+1+1≠w.heap.size+1+1+1∧w.heap.size≤w.heap.size+1+1+1∧w.heap.size≤w.heap.size+1+1+1+1∧w.heap.size≤w.heap.size by omega)
 clear hm hr ha M s1 s2 an
 go_enter Tryz.func90,Tryz.ntmps90
 go_wp2
 generalize ((((w.alloc (.cells (ai r) 24)).alloc (.cells (ai a) 24)).alloc (.cells (ai m) 24)).alloc (.cells #[.int .u64 0,.int .u64 0,.int .u64 0,.int .u64 0] 24)).alloc (.cells #[.int .u64 0,.int .u64 0,.int .u64 0,.int .u64 0] 24)=w0 at *
 generalize w.heap.size+1+1+1+1=z at *
 generalize w.heap.size+1+1+1=f at *
 generalize w.heap.size+1+1=g7 at *
 generalize w.heap.size+1=g5 at *
 generalize aA:w.heap.size=g4 at *
 go_loopw [14] (fun s wr=>∃ i k:Nat,i+k=c∧s=.int .i64 (i:Int)∧Hid (ae w [(f,N / 2 ^ k / m * 2 ^ k),(g4,N / 2 ^ k % m),(g5,a),(g7,m),(z,0)] wr)) (fun s _=>c - (intOf s).toNat)
 case atStart=>exact ⟨0,c,by omega,rfl,HE⟩
 case round =>
  obtain ⟨i,k,hk,rfl,H⟩:=hrel
  clear HE
  by_cases h0:k=0
  ·subst h0
   have E1:=hid (p:=N / 2 ^ 0 / m * 2 ^ 0=N / m) (by rw [Nat.pow_zero,Nat.div_one,Nat.mul_one])
   have E2:=hid (p:=N / 2 ^ 0 % m=N % m) (by rw [Nat.pow_zero,Nat.div_one])
   have K:=hid (p:=ae w [(f,N / m),(g4,N % m),(g5,a),(g7,m),(z,0)] wr) (by have:=H.out; rw [E1.out,E2.out] at this; exact this)
   clear H E1 E2
   have hb:=hc
   obtain ⟨q0,q1,q2,q3⟩:=K.out.cell f (N / m) (by simp)
   obtain ⟨r0,r1,r2,r3⟩:=K.out.cell g4 (N % m) (by simp)
   obtain ⟨z0,z1,z2,z3⟩:=K.out.cell z 0 (by simp)
   have f8:=K.out.frozen f (N / m) (by simp)
   have f9:=K.out.frozen z 0 (by simp)
   obtain ⟨V,U,G,O,J,I,E,d8,d9,_⟩:=D.out
   have n1:(z=f)=False:=eq_false E
   have n2:(f=z)=False:=eq_false (Ne.symm E)
   have n3:(g4=f)=False:=eq_false G
   have n4:(g4=z)=False:=eq_false O
   have HZ:=hid ((K.out.set f (N / m) (N / m) [(g4,N % m),(z,0)] (by simp) (by omega) (by simp; exact ⟨G,E⟩)).set z 0 (N % m) [(f,N / m)] (by simp) (by omega) (by simp; exact Ne.symm E))
   have az:¬ ((i:Int)<(c:Int)):=by omega
   go_wp2
   go_region
   all_goals
    go_wp2
    clear q0 q1 q2 q3 r0 r1 r2 r3 z0 z1 z2 z3 f8 f9
    change bodyPost _ _ _ _ _ (fil (fil wr f (N / m)) z (N % m)).drew
    generalize fil (fil wr f (N / m)) z (N % m)=wz at *
    obtain ⟨k0,k1,k2,k3⟩:=HZ.out.cell f (N / m) (by simp)
    obtain ⟨j0,j1,j2,j3⟩:=HZ.out.cell z (N % m) (by simp)
    exact bodyPost_ret (v:=.tuple #[af (N / m),af (N % m)]) (by simp [results,Tryz.results90,go_sem,k0,k1,k2,k3,j0,j1,j2,j3]) rfl ⟨rfl,HZ.out.1.drew⟩
  ·obtain ⟨j,rfl⟩:∃ j,k=j+1:=⟨k - 1,by omega⟩
   clear h0
   have A1:IntKind.i64.wrap ((c:Int) - 1)=(c:Int) - 1:=IntWalk.i64_in _ (by omega)
   have A2:IntKind.i64.wrap ((c:Int) - 1 - (i:Int))=(j:Int):=by rw [IntWalk.i64_in _ (by omega)]; omega
   have ao:(i:Int)<(c:Int):=by omega
   obtain ⟨t1,t2⟩:=bring_step N m j HP.out
   rw [HB.out j (by omega)] at t1 t2
   have ar:=bitAt_lt a j
   have al:=Nat.mod_lt (N / 2 ^ (j+1)) HP.out
   have ax:Hid ((bi a (j:Int):Int)=(aV a j:Int)):=hid (by unfold bi; rw [if_neg (by omega),Int.toNat_natCast])
   generalize N / 2 ^ (j+1) % m=R at *
   generalize N / 2 ^ (j+1) / m=Q at *
   generalize aV a j=b at *
   obtain ⟨g,eg,hg⟩:∃ g,(2 * R+b) / m=g∧g≤1:=⟨_,rfl,by
    have:(2 * R+b) / m<2:=by rw [Nat.div_lt_iff_lt_mul HP.out]; omega
    omega⟩
   rw [eg] at t2
   obtain ⟨R2,ER⟩:∃ x,Hid (N / 2 ^ j % m=x):=⟨_,hid rfl⟩
   have T1:=hid (t1.trans ER.out)
   have T2:=hid t2
   have HR:=hid al
   have ay:=hid (show b≤1 by omega)
   have EG:=hid (show (((2 * R+b) / m:Nat):Int)=(g:Int) by rw [eg])
   clear t1 t2 al ar eg
   go_upto_region 6 with fail
   obtain ⟨a0,a1,a2,a3⟩:=H.out.cell g5 a (by simp)
   obtain ⟨m0,m1,m2,m3⟩:=H.out.cell g7 m (by simp)
   obtain ⟨r0,r1,r2,r3⟩:=H.out.cell g4 R (by simp)
   have fr:=H.out.frozen g4 R (by simp)
   go_cut [12] (fun s12 wx=>s12=.int .u64 (g:Int)∧Hid (ae w [(g4,R2),(f,Q * 2 ^ (j+1)),(g5,a),(g7,m),(z,0)] wx))
   case first =>
    have L:=H.out.drew
    go_region_with (first | ((go_at_call 79); (with_reducible refine (bit_at a (j:Int) (b:Int) (by assumption) HA.out (by omega) (by omega) ax.out).mono ?_); rintro e wn ⟨rfl,L⟩; obtain ⟨a0,a1,a2,a3⟩:=L.cell g5 a (by simp); obtain ⟨m0,m1,m2,m3⟩:=L.cell g7 m (by simp); obtain ⟨r0,r1,r2,r3⟩:=L.cell g4 R (by simp); have fr:=L.frozen g4 R (by simp)) | ((go_at_call 108); (with_reducible refine (ah (take_b R b m R2 (g:Int) _ HM.out HR.out ay.out T1.out EG.out) (by assumption)).mono ?_); rintro e wn ⟨rfl,L⟩; obtain ⟨a0,a1,a2,a3⟩:=L.cell g5 a (by simp); obtain ⟨m0,m1,m2,m3⟩:=L.cell g7 m (by simp); obtain ⟨r0,r1,r2,r3⟩:=L.cell g4 R (by simp); have fr:=L.frozen g4 R (by simp)))
    all_goals
     go_wp2_with fail
     go_meet
     exact ⟨rfl,hid (L.set g4 R R2 _ (by simp) (by omega) (by obtain ⟨V,U,G,O,J,I,E,_⟩:=D.out; simp; exact ⟨Ne.symm G,Ne.symm V,Ne.symm U,Ne.symm O⟩))⟩
   case rest =>
    obtain ⟨rfl,K⟩:=hcut
    clear a0 a1 a2 a3 m0 m1 m2 m3 r0 r1 r2 r3 fr H A1 A2 ao
    obtain ⟨e,p,hj,hp⟩:∃ e p,j=64 * e+p∧p<64:=⟨j / 64,j % 64,by omega,Nat.mod_lt _ (by decide)⟩
    have he:e=0∨e=1∨e=2∨e=3:=by omega
    obtain ⟨q1,q2,q3⟩:=word_set (Q:=Q) (e:=e) hp hg
    rw [← hj] at q1 q2 q3
    have T3:=hid (p:=N / 2 ^ j / m * 2 ^ j=Q * 2 ^ (j+1)+g * 2 ^ j) (by rw [T2.out,Nat.add_mul,Nat.pow_succ,Nat.mul_comm 2 Q,Nat.mul_assoc,Nat.mul_comm 2])
    have ap:2 ^ p * 2≤18446744073709551616:=by rw [← Nat.pow_succ]; exact Nat.le_trans (Nat.pow_le_pow_right (by omega) (show p+1≤64 by omega)) (by decide)
    have Q4:=hid (p:=IntKind.u64.wrap ((g:Int) * 2 ^ p)=((g * 2 ^ p:Nat):Int)) (by
     have e1:((g:Int) * 2 ^ p)=((g * 2 ^ p:Nat):Int):=by simp
     rw [e1,IntWalk.u64_in _ ?_]
     have:=Nat.mul_le_mul_right (2 ^ p) hg
     omega)
    have Q5:=hid (p:=bits .or .u64 (wd (Q * 2 ^ (j+1)) e:Int) ((g * 2 ^ p:Nat):Int)=(wd (Q * 2 ^ (j+1)+g * 2 ^ j) e:Int)) (by rw [or_up (aO _ _) hp hg q3,q2])
    have QO:=hid q1
    have HJ:=hid hj
    have F:=hid hp
    clear q1 q2 q3 ap hj hp
    obtain ⟨ad,ab,Z,Y⟩:=K.out.cell f (Q * 2 ^ (j+1)) (by simp)
    have f8:=K.out.frozen f (Q * 2 ^ (j+1)) (by simp)
    rcases he with rfl | rfl | rfl | rfl
    ·have B1:(j:Int) / 64=0:=by have:=HJ.out; have:=F.out; omega
     have B2:IntKind.i64.wrap 0=0:=by decide
     have B3:(j:Int) % 64=(p:Int):=by have:=HJ.out; have:=F.out; omega
     have B4:IntKind.u64.wrap ((g:Int) * 2 ^ p)=(g:Int) * 2 ^ p:=by rw [Q4.out]; simp
     have B5:bits .or .u64 (wd (Q * 2 ^ (j+1)) 0:Int) ((g:Int) * 2 ^ p)=(wd (Q * 2 ^ (j+1)+g * 2 ^ j) 0:Int):=by have:=Q5.out; rwa [show ((g * 2 ^ p:Nat):Int)=(g:Int) * 2 ^ p by simp] at this
     go_upto_region 7 with fail
     go_region
     all_goals
      have H3:=hid (ae.drew (K.out.word f (Q * 2 ^ (j+1)) (Q * 2 ^ (j+1)+g * 2 ^ j) 0 [(g4,R2),(g5,a),(g7,m),(z,0)] (by simp) (by obtain ⟨V,U,G,O,J,I,E,d8,_⟩:=D.out; omega) (by obtain ⟨V,U,G,O,J,I,E,_⟩:=D.out; simp; exact ⟨G,J,I,E⟩) (by decide) QO.out))
      clear ad ab Z Y f8 B1 B2 B3 B4 B5
      go_wp2
      go_roundw
      case rel=>exact ⟨i+1,j,by omega,by go_num,hid (by rw [T3.out,ER.out]; exact H3.out)⟩
      case measure=>simp [intOf]; omega
    ·have B1:(j:Int) / 64=1:=by have:=HJ.out; have:=F.out; omega
     have B2:IntKind.i64.wrap 1=1:=by decide
     have B3:(j:Int) % 64=(p:Int):=by have:=HJ.out; have:=F.out; omega
     have B4:IntKind.u64.wrap ((g:Int) * 2 ^ p)=(g:Int) * 2 ^ p:=by rw [Q4.out]; simp
     have B5:bits .or .u64 (wd (Q * 2 ^ (j+1)) 1:Int) ((g:Int) * 2 ^ p)=(wd (Q * 2 ^ (j+1)+g * 2 ^ j) 1:Int):=by have:=Q5.out; rwa [show ((g * 2 ^ p:Nat):Int)=(g:Int) * 2 ^ p by simp] at this
     go_upto_region 7 with fail
     go_region
     all_goals
      have H3:=hid (ae.drew (K.out.word f (Q * 2 ^ (j+1)) (Q * 2 ^ (j+1)+g * 2 ^ j) 1 [(g4,R2),(g5,a),(g7,m),(z,0)] (by simp) (by obtain ⟨V,U,G,O,J,I,E,d8,_⟩:=D.out; omega) (by obtain ⟨V,U,G,O,J,I,E,_⟩:=D.out; simp; exact ⟨G,J,I,E⟩) (by decide) QO.out))
      clear ad ab Z Y f8 B1 B2 B3 B4 B5
      go_wp2
      go_roundw
      case rel=>exact ⟨i+1,j,by omega,by go_num,hid (by rw [T3.out,ER.out]; exact H3.out)⟩
      case measure=>simp [intOf]; omega
    ·have B1:(j:Int) / 64=2:=by have:=HJ.out; have:=F.out; omega
     have B2:IntKind.i64.wrap 2=2:=by decide
     have B3:(j:Int) % 64=(p:Int):=by have:=HJ.out; have:=F.out; omega
     have B4:IntKind.u64.wrap ((g:Int) * 2 ^ p)=(g:Int) * 2 ^ p:=by rw [Q4.out]; simp
     have B5:bits .or .u64 (wd (Q * 2 ^ (j+1)) 2:Int) ((g:Int) * 2 ^ p)=(wd (Q * 2 ^ (j+1)+g * 2 ^ j) 2:Int):=by have:=Q5.out; rwa [show ((g * 2 ^ p:Nat):Int)=(g:Int) * 2 ^ p by simp] at this
     go_upto_region 7 with fail
     go_region
     all_goals
      have H3:=hid (ae.drew (K.out.word f (Q * 2 ^ (j+1)) (Q * 2 ^ (j+1)+g * 2 ^ j) 2 [(g4,R2),(g5,a),(g7,m),(z,0)] (by simp) (by obtain ⟨V,U,G,O,J,I,E,d8,_⟩:=D.out; omega) (by obtain ⟨V,U,G,O,J,I,E,_⟩:=D.out; simp; exact ⟨G,J,I,E⟩) (by decide) QO.out))
      clear ad ab Z Y f8 B1 B2 B3 B4 B5
      go_wp2
      go_roundw
      case rel=>exact ⟨i+1,j,by omega,by go_num,hid (by rw [T3.out,ER.out]; exact H3.out)⟩
      case measure=>simp [intOf]; omega
    ·have B1:(j:Int) / 64=3:=by have:=HJ.out; have:=F.out; omega
     have B2:IntKind.i64.wrap 3=3:=by decide
     have B3:(j:Int) % 64=(p:Int):=by have:=HJ.out; have:=F.out; omega
     have B4:IntKind.u64.wrap ((g:Int) * 2 ^ p)=(g:Int) * 2 ^ p:=by rw [Q4.out]; simp
     have B5:bits .or .u64 (wd (Q * 2 ^ (j+1)) 3:Int) ((g:Int) * 2 ^ p)=(wd (Q * 2 ^ (j+1)+g * 2 ^ j) 3:Int):=by have:=Q5.out; rwa [show ((g * 2 ^ p:Nat):Int)=(g:Int) * 2 ^ p by simp] at this
     go_upto_region 7 with fail
     go_region
     all_goals
      have H3:=hid (ae.drew (K.out.word f (Q * 2 ^ (j+1)) (Q * 2 ^ (j+1)+g * 2 ^ j) 3 [(g4,R2),(g5,a),(g7,m),(z,0)] (by simp) (by obtain ⟨V,U,G,O,J,I,E,d8,_⟩:=D.out; omega) (by obtain ⟨V,U,G,O,J,I,E,_⟩:=D.out; simp; exact ⟨G,J,I,E⟩) (by decide) QO.out))
      clear ad ab Z Y f8 B1 B2 B3 B4 B5
      go_wp2
      go_roundw
      case rel=>exact ⟨i+1,j,by omega,by go_num,hid (by rw [T3.out,ER.out]; exact H3.out)⟩
      case measure=>simp [intOf]; omega
theorem shf_down (a c:Nat) (f:a<2 ^ 256):shf a (-(c:Int))=a / 2 ^ c:=by
 unfold shf
 split
 ·have:c=0:=by omega
  subst this
  simp [Nat.mod_eq_of_lt f]
 ·rw [show (-(-(c:Int))).toNat=c by omega]
theorem div_first {a b:Nat} (hb:0<b):a / 2 ^ (aq a+1 - aq b)<b:=by
 have z:=nbits_lt a
 have f:=nbits_le b hb
 have D:=cL b hb
 refine Nat.lt_of_lt_of_le ?_ f
 rw [Nat.div_lt_iff_lt_mul (Nat.two_pow_pos _),← Nat.pow_add]
 refine Nat.lt_of_lt_of_le z (Nat.pow_le_pow_right (by omega) ?_)
 omega
theorem bring_b (r a c m q s:Nat) (w:World) (z:r<m) (E:m<2 ^ 256) (F:a<2 ^ 256) (hc:c≤256) (D:(r * 2 ^ c+a % 2 ^ c) / m=q) (f:(r * 2 ^ c+a % 2 ^ c) % m=s) :
  Calls Tryz.prog 90 #[af r,af a,.int .i64 (c:Int),af m] w fun e w'=>e=.returned (.tuple #[af q,af s])∧Below w.heap.size w w':=by
 subst D; subst f; exact bring_any r a c m w z E F hc
theorem eq_none (x:Nat) (f:x<2 ^ 256) (h:x≠0) (w:World):(Op.equalIn 10000 24 (af x) (.agg #[.int .u64 0,.int .u64 0,.int .u64 0,.int .u64 0])).run Tryz.prog w=.ok false w:=by
 rw [dp]; exact eq_no x 0 f (by decide) h w
theorem eq_none_yes (w:World):(Op.equalIn 10000 24 (af 0) (.agg #[.int .u64 0,.int .u64 0,.int .u64 0,.int .u64 0])).run Tryz.prog w=.ok true w:=by
 rw [dp]; exact eq_yes 0 0 rfl w
theorem div_none (a:Nat) (w:World):Calls Tryz.prog 89 #[af a,af 0] w fun e w'=>e=.returned (.tuple #[af 0,af 0,.int .i64 1])∧Below w.heap.size w w':=by
 have q0:=eq_none_yes
 go_enter Tryz.func89,Tryz.ntmps89
 go_wp2
 refine bodyPost_ret (v:=.tuple #[.agg #[.int .u64 0,.int .u64 0,.int .u64 0,.int .u64 0],.agg #[.int .u64 0,.int .u64 0,.int .u64 0,.int .u64 0],.int .i64 1]) (by simp [results,Tryz.results89,go_sem]) rfl ⟨by rw [dp],?_⟩
 repeat (first | exact Below.refl _ _ | refine Below.drew ?_ | refine bal ?_ _)
theorem div_some (a b:Nat) (w:World) (ha:a<2 ^ 256) (hb:b<2 ^ 256) (h0:b≠0):Calls Tryz.prog 89 #[af a,af b] w fun e w'=>e=.returned (.tuple #[af (a / b),af (a % b),.int .i64 0])∧Below w.heap.size w w':=by
 have qb:=eq_none b hb h0
 obtain ⟨x,hx⟩:∃ x,aq a=x:=⟨_,rfl⟩
 obtain ⟨y,hy⟩:∃ y,aq b=y:=⟨_,rfl⟩
 have x1:=cK a 256 ha
 have y1:=cK b 256 hb
 have y2:=cL b (by omega)
 have hf:=div_first (a:=a) (b:=b) (by omega)
 rw [hx] at x1 hf
 rw [hy] at y1 y2 hf
 obtain ⟨c,hc⟩:∃ c,x+1 - y=c:=⟨_,rfl⟩
 rw [hc] at hf
 obtain ⟨r,er⟩:∃ r,a / 2 ^ c=r:=⟨_,rfl⟩
 rw [er] at hf
 have K1:=hid (p:=(r * 2 ^ c+a % 2 ^ c) / b=a / b) (by rw [← er,down_up])
 have K2:=hid (p:=(r * 2 ^ c+a % 2 ^ c) % b=a % b) (by rw [← er,down_up])
 have HX:=hid (p:=(aq a:Int)=(x:Int)) (by rw [hx])
 have HY:=hid (p:=(aq b:Int)=(y:Int)) (by rw [hy])
 have HR:=hid (p:=shf a (-(c:Int))=r) (by rw [shf_down a c ha,er])
 have HF:=hid hf
 have HA:=hid ha
 have HB:=hid hb
 have HC:=hid (show c≤256 by omega)
 have W1:IntKind.i64.wrap ((x:Int) - (y:Int))=(x:Int) - (y:Int):=IntWalk.i64_in _ (by omega)
 have W2:IntKind.i64.wrap ((x:Int) - (y:Int)+1)=(x:Int) - (y:Int)+1:=IntWalk.i64_in _ (by omega)
 have W3:max ((x:Int) - (y:Int)+1) 0=(c:Int):=by omega
 have W4:IntKind.i64.wrap (-(c:Int)) = -(c:Int):=IntWalk.i64_in _ (by omega)
 have W5:(0:Int)≤c:=by omega
 clear hx hy x1 y1 y2 hf hc er ha hb h0
 have HE:=hid ((((((ae.refl w).new a).new b).zero).zero).perm (l':=[(w.heap.size,a),(w.heap.size+1,b),(w.heap.size+1+1,0),(w.heap.size+1+1+1,0)]) (by simp))
 have D:=hid (show w.heap.size≠w.heap.size+1+1∧w.heap.size≠w.heap.size+1+1+1∧w.heap.size+1≠w.heap.size+1+1∧w.heap.size+1≠w.heap.size+1+1+1∧w.heap.size+1+1≠w.heap.size+1+1+1∧w.heap.size≤w.heap.size+1+1∧w.heap.size≤w.heap.size+1+1+1 by omega)
 go_enter Tryz.func89,Tryz.ntmps89
 go_upto_region 3 with fail
 generalize (((w.alloc (.cells (ai a) 24)).alloc (.cells (ai b) 24)).alloc (.cells #[.int .u64 0,.int .u64 0,.int .u64 0,.int .u64 0] 24)).alloc (.cells #[.int .u64 0,.int .u64 0,.int .u64 0,.int .u64 0] 24)=w0 at *
 generalize w.heap.size+1+1+1=g5 at *
 generalize w.heap.size+1+1=g4 at *
 generalize w.heap.size+1=g3 at *
 generalize ax:w.heap.size=g2 at *
 obtain ⟨L,K,J,I⟩:=HE.out.cell g2 (a) (by simp)
 have al:=HE.out.lt g2 (a) (by simp)
 obtain ⟨G,F,E,z⟩:=HE.out.cell g3 (b) (by simp)
 have ad:=HE.out.lt g3 (b) (by simp)
 go_cut [7] (fun s7 wx=>s7=.int .i64 (c:Int)∧Hid (ae w [(g2,a),(g3,b),(g4,0),(g5,0)] wx))
 case first =>
  have f:=HE.out.drew
  go_region_with (first | ((go_at_call 12); (with_reducible refine (b8 a (x:Int) (by assumption) HA.out HX.out).mono ?_); rintro e wn ⟨rfl,f⟩; obtain ⟨L,K,J,I⟩:=f.cell g2 (a) (by simp); have al:=f.lt g2 (a) (by simp); obtain ⟨G,F,E,z⟩:=f.cell g3 (b) (by simp); have ad:=f.lt g3 (b) (by simp)) | ((go_at_call 12); (with_reducible refine (b8 b (y:Int) (by assumption) HB.out HY.out).mono ?_); rintro e wn ⟨rfl,f⟩; obtain ⟨L,K,J,I⟩:=f.cell g2 (a) (by simp); have al:=f.lt g2 (a) (by simp); obtain ⟨G,F,E,z⟩:=f.cell g3 (b) (by simp); have ad:=f.lt g3 (b) (by simp)))
  all_goals
   go_wp2_with fail
   go_meet
   exact ⟨rfl,hid f⟩
 case rest =>
  obtain ⟨rfl,H1⟩:=hcut
  clear L K J I al G F E z ad HE
  go_upto_region 4 with fail
  obtain ⟨L,K,J,I⟩:=H1.out.cell g2 (a) (by simp)
  have al:=H1.out.lt g2 (a) (by simp)
  obtain ⟨G,F,E,z⟩:=H1.out.cell g3 (b) (by simp)
  have ad:=H1.out.lt g3 (b) (by simp)
  obtain ⟨ab,Z,Y,V⟩:=H1.out.cell g4 (0) (by simp)
  have ao:=H1.out.lt g4 (0) (by simp)
  obtain ⟨U,R,O,M⟩:=H1.out.cell g5 (0) (by simp)
  have an:=H1.out.lt g5 (0) (by simp)
  have ar:=H1.out.frozen g4 (0) (by simp)
  have ap:=H1.out.frozen g5 (0) (by simp)
  go_cut [7] (fun s7 wx=>s7=.int .i64 (c:Int)∧Hid (ae w [(g5,a % b),(g4,a / b)] wx))
  case first =>
   have f:=H1.out.drew
   obtain ⟨d1,d2,d3,d4,d5,d6,d7⟩:=D.out
   go_region_with (first | ((go_at_call 107); (with_reducible refine (shift_at a r (-(c:Int)) (by assumption) HA.out (by have:=HC.out; omega) (by have:=HC.out; omega) HR.out).mono ?_); rintro e wn ⟨rfl,f⟩; obtain ⟨L,K,J,I⟩:=f.cell g2 (a) (by simp); have al:=f.lt g2 (a) (by simp); obtain ⟨G,F,E,z⟩:=f.cell g3 (b) (by simp); have ad:=f.lt g3 (b) (by simp); obtain ⟨ab,Z,Y,V⟩:=f.cell g4 (0) (by simp); have ao:=f.lt g4 (0) (by simp); obtain ⟨U,R,O,M⟩:=f.cell g5 (0) (by simp); have an:=f.lt g5 (0) (by simp); have ar:=f.frozen g4 (0) (by simp); have ap:=f.frozen g5 (0) (by simp)) | ((go_at_call 90); (with_reducible refine (ah (bring_b r a c b (a / b) (a % b) _ HF.out HB.out HA.out HC.out K1.out K2.out) (by assumption)).mono ?_); rintro e wn ⟨rfl,f⟩; obtain ⟨L,K,J,I⟩:=f.cell g2 (a) (by simp); have al:=f.lt g2 (a) (by simp); obtain ⟨G,F,E,z⟩:=f.cell g3 (b) (by simp); have ad:=f.lt g3 (b) (by simp); obtain ⟨ab,Z,Y,V⟩:=f.cell g4 (0) (by simp); have ao:=f.lt g4 (0) (by simp); obtain ⟨U,R,O,M⟩:=f.cell g5 (0) (by simp); have an:=f.lt g5 (0) (by simp); have ar:=f.frozen g4 (0) (by simp); have ap:=f.frozen g5 (0) (by simp)))
   all_goals
    go_wp2_with fail
    go_meet
    exact ⟨rfl,hid ((f.set g4 0 (a / b) [(g5,0)] (by simp) (by omega) (by simp; exact Ne.symm d5)).set g5 0 (a % b) [(g4,a / b)] (by simp) (by omega) (by simp; exact d5))⟩
  case rest =>
   obtain ⟨rfl,H2⟩:=hcut
   clear L K J I al G F E z ad ab Z Y V ao U R O M an ar ap H1
   obtain ⟨d1,d2,d3,d4,d5,d6,d7⟩:=D.out
   have n1:(g4=g5)=False:=eq_false d5
   have n2:(g5=g4)=False:=eq_false (Ne.symm d5)
   obtain ⟨ab,Z,Y,V⟩:=H2.out.cell g4 (a / b) (by simp)
   have ao:=H2.out.lt g4 (a / b) (by simp)
   obtain ⟨U,R,O,M⟩:=H2.out.cell g5 (a % b) (by simp)
   have an:=H2.out.lt g5 (a % b) (by simp)
   have ar:=H2.out.frozen g4 (a / b) (by simp)
   have ap:=H2.out.frozen g5 (a % b) (by simp)
   have HZ:=hid ((H2.out.set g4 (a / b) (a / b) [(g5,a % b)] (by simp) (by omega) (by simp; exact Ne.symm d5)).set g5 (a % b) (a % b) [(g4,a / b)] (by simp) (by omega) (by simp; exact d5))
   go_wp2
   go_region
   all_goals
    go_wp2
    clear ab Z Y V ao U R O M an ar ap
    change bodyPost _ _ _ _ _ (fil (fil wc g4 (a / b)) g5 (a % b)).drew
    generalize fil (fil wc g4 (a / b)) g5 (a % b)=wz at *
    obtain ⟨k0,k1,k2,k3⟩:=HZ.out.cell g4 (a / b) (by simp)
    obtain ⟨j0,j1,j2,j3⟩:=HZ.out.cell g5 (a % b) (by simp)
    exact bodyPost_ret (v:=.tuple #[af (a / b),af (a % b),.int .i64 0]) (by simp [results,Tryz.results89,go_sem,k0,k1,k2,k3,j0,j1,j2,j3]) rfl ⟨rfl,HZ.out.1.drew⟩
theorem div_b (a b q r:Nat) (w:World) (D:a<2 ^ 256) (hb:b<2 ^ 256) (E:b≠0) (z:a / b=q) (f:a % b=r):Calls Tryz.prog 89 #[af a,af b] w fun e w'=>e=.returned (.tuple #[af q,af r,.int .i64 0])∧Below w.heap.size w w':=by
 subst z; subst f; exact div_some a b w D hb E
theorem div_at (a b q r:Nat) {w w':World} {l:List (Nat×Nat)} (h:ae w l w') (D:a<2 ^ 256) (hb:b<2 ^ 256) (E:b≠0) (z:a / b=q) (f:a % b=r):Calls Tryz.prog 89 #[af a,af b] w' fun e w2=>e=.returned (.tuple #[af q,af r,.int .i64 0])∧ae w l w2 :=
 ah (div_b a b q r w' D hb E z f) h
theorem div_none_at (a:Nat) {w w':World} {l:List (Nat×Nat)} (h:ae w l w'):Calls Tryz.prog 89 #[af a,af 0] w' fun e w2=>e=.returned (.tuple #[af 0,af 0,.int .i64 1])∧ae w l w2 :=
 ah (div_none a w') h
theorem bring_at (r a c m q s:Nat) {w w':World} {l:List (Nat×Nat)} (h:ae w l w') (z:r<m) (E:m<2 ^ 256) (F:a<2 ^ 256) (hc:c≤256) (D:(r * 2 ^ c+a % 2 ^ c) / m=q) (f:(r * 2 ^ c+a % 2 ^ c) % m=s) :
  Calls Tryz.prog 90 #[af r,af a,.int .i64 (c:Int),af m] w' fun e w2=>e=.returned (.tuple #[af q,af s])∧ae w l w2 :=
 ah (bring_b r a c m q s w' z E F hc D f) h
def wid (lo hi m:Nat):Nat:=(lo+2 ^ 256 * hi) % m
theorem wid_zero {lo hi m:Nat} (h:hi % m=0):wid lo hi m=lo % m:=by
 unfold wid
 rw [Nat.add_mod,Nat.mul_mod,h,Nat.mul_zero,Nat.zero_mod,Nat.add_zero,Nat.mod_mod]
theorem wid_some {lo hi m:Nat} (f:lo<2 ^ 256):(hi % m * 2 ^ 256+lo % 2 ^ 256) % m=wid lo hi m:=by
 unfold wid
 rw [Nat.mod_eq_of_lt f,Nat.add_comm,Nat.add_mod,Nat.mod_mul_mod,← Nat.add_mod,Nat.mul_comm hi]
theorem wide_none (lo hi:Nat) (w:World):Calls Tryz.prog 67 #[af lo,af hi,af 0] w fun e w'=>e=.returned (.tuple #[af 0,.int .i64 1])∧Below w.heap.size w w':=by
 have F:=hid (((((ae.refl w).new lo).new hi).new 0).zero)
 go_enter Tryz.func67,Tryz.ntmps67
 go_wp2_with fail
 refine (div_none_at hi F.out).mono ?_
 rintro e u1 ⟨rfl,h⟩
 have z:=hid (h.perm (l':=[(w.heap.size+1+1+1,0)]) (by simp))
 have D:=hid (show w.heap.size≤w.heap.size+1+1+1 by omega)
 clear h F
 generalize w.heap.size+1+1+1=f at *
 obtain ⟨J,I,G,z3⟩:=z.out.cell f 0 (by simp)
 have K:=z.out.lt f 0 (by simp)
 have R:=z.out.frozen f 0 (by simp)
 have E:=hid ((z.out.set f 0 0 [] (by simp) D.out (by simp)).new2 0 0)
 go_wp2
 clear J I G z3 K R
 change bodyPost _ _ _ _ _ (((fil u1 f 0).alloc (.cells (ai 0) 24)).alloc (.cells (ai 0) 24))
 generalize ((fil u1 f 0).alloc (.cells (ai 0) 24)).alloc (.cells (ai 0) 24)=wz at *
 obtain ⟨O,M,L,k3⟩:=E.out.cell f 0 (by simp)
 exact bodyPost_ret (v:=.tuple #[af 0,.int .i64 1]) (by simp [results,Tryz.results67,go_sem,O,M,L,k3]) rfl ⟨rfl,E.out.1⟩
theorem wide_zero (lo hi m:Nat) (w:World) (G:lo<2 ^ 256) (I:hi<2 ^ 256) (hm:m<2 ^ 256) (h0:m≠0) (O:hi % m=0):Calls Tryz.prog 67 #[af lo,af hi,af m] w fun e w'=>e=.returned (.tuple #[af (wid lo hi m),.int .i64 0])∧Below w.heap.size w w':=by
 rw [wid_zero O]
 obtain ⟨s,U⟩:∃ s,lo % m=s:=⟨_,rfl⟩
 rw [U]
 have E0:=hid O
 have qn:=eq_none_yes
 obtain ⟨L,J⟩:∃ L,lo / m=L:=⟨_,rfl⟩
 obtain ⟨q,eq⟩:∃ q,hi / m=q:=⟨_,rfl⟩
 have LO:=hid G
 have HI:=hid I
 have HM:=hid hm
 have H0:=hid h0
 have EQ:=hid eq
 have ab:=hid J
 have ES:=hid U
 clear G I hm h0 eq J U O
 have HE:=hid ((((((ae.refl w).new lo).new hi).new m).zero).perm (l':=[(w.heap.size,lo),(w.heap.size+1+1,m),(w.heap.size+1+1+1,0)]) (by simp))
 have D:=hid (show w.heap.size≤w.heap.size+1+1+1 by omega)
 go_enter Tryz.func67,Tryz.ntmps67
 go_wp2_with fail
 refine (div_at hi m q 0 HE.out HI.out HM.out H0.out EQ.out E0.out).mono ?_
 rintro e u1 ⟨rfl,h⟩
 have E:=hid h
 clear h HE
 generalize w.heap.size+1+1+1=f at *
 generalize w.heap.size+1+1=g5 at *
 generalize R:w.heap.size=g3 at *
 obtain ⟨Z,Y,V,a3⟩:=E.out.cell g3 lo (by simp)
 have l3:=E.out.lt g3 lo (by simp)
 obtain ⟨m0,m1,m2,m3⟩:=E.out.cell g5 m (by simp)
 have l5:=E.out.lt g5 m (by simp)
 go_wp2_with fail
 clear Z Y V a3 l3 m0 m1 m2 m3 l5 qn
 have K:=hid (E.out.new2 q 0)
 have N6:=hid (show f≠u1.heap.size+1 by have:=E.out.lt f 0 (by simp); omega)
 have G9:=hid (show w.heap.size≤u1.heap.size+1 by have:=E.out.1.size; omega)
 clear E
 generalize (u1.alloc (.cells (ai q) 24)).alloc (.cells (ai 0) 24)=al at *
 generalize u1.heap.size=z at *
 refine (div_at lo m L s K.out LO.out HM.out H0.out ab.out ES.out).mono ?_
 rintro e u2 ⟨rfl,h⟩
 have F:=hid h
 clear h K
 obtain ⟨Z,Y,V,a3⟩:=F.out.cell (z+1) 0 (by simp)
 have l9:=F.out.lt (z+1) 0 (by simp)
 have f9:=F.out.frozen (z+1) 0 (by simp)
 obtain ⟨b0,b1,b2,b3⟩:=F.out.cell f 0 (by simp)
 have l6:=F.out.lt f 0 (by simp)
 have f6:=F.out.frozen f 0 (by simp)
 have M:f≠z+1:=N6.out
 have an:(f=z+1)=False:=eq_false M
 have ad:(z+1=f)=False:=eq_false (Ne.symm M)
 have HZ:=hid ((F.out.set (z+1) 0 s [(f,0)] (by simp) G9.out (by simp; exact M)).set f 0 s [] (by simp) (by rw [R]; exact D.out) (by simp))
 go_wp2
 clear Z Y V a3 l9 f9 b0 b1 b2 b3 l6 f6
 change bodyPost _ _ _ _ _ (fil (fil u2 (z+1) s) f s)
 generalize fil (fil u2 (z+1) s) f s=wz at *
 obtain ⟨k0,k1,k2,k3⟩:=HZ.out.cell f s (by simp)
 exact bodyPost_ret (v:=.tuple #[af s,.int .i64 0]) (by simp [results,Tryz.results67,go_sem,k0,k1,k2,k3]) rfl ⟨rfl,HZ.out.1⟩
theorem wide_rest (lo hi m:Nat) (w:World) (G:lo<2 ^ 256) (J:hi<2 ^ 256) (Y:m<2 ^ 256) (h0:m≠0) (V:hi % m≠0):Calls Tryz.prog 67 #[af lo,af hi,af m] w fun e w'=>e=.returned (.tuple #[af (wid lo hi m),.int .i64 0])∧Below w.heap.size w w':=by
 have O:=wid_some (m:=m) (hi:=hi) G
 obtain ⟨s,K⟩:∃ s,wid lo hi m=s:=⟨_,rfl⟩
 rw [K] at O ⊢
 clear K
 have z:=Nat.mod_lt hi (Nat.pos_of_ne_zero h0)
 obtain ⟨r,er⟩:∃ r,hi % m=r:=⟨_,rfl⟩
 rw [er] at V O z
 have es:=O
 have E0:=hid er
 have RL:=hid z
 have qn:=eq_none r (Nat.lt_trans z Y) V
 obtain ⟨R,L⟩:∃ R,(r * 2 ^ 256+lo % 2 ^ 256) / m=R:=⟨_,rfl⟩
 obtain ⟨q,eq⟩:∃ q,hi / m=q:=⟨_,rfl⟩
 have LO:=hid G
 have HI:=hid J
 have HM:=hid Y
 have H0:=hid h0
 have EQ:=hid eq
 have ab:=hid L
 have ES:=hid es
 clear G J Y h0 eq L es V O z er
 have HE:=hid ((((((ae.refl w).new lo).new hi).new m).zero).perm (l':=[(w.heap.size,lo),(w.heap.size+1+1,m),(w.heap.size+1+1+1,0)]) (by simp))
 have D:=hid (show w.heap.size≤w.heap.size+1+1+1 by omega)
 go_enter Tryz.func67,Tryz.ntmps67
 go_wp2_with fail
 refine (div_at hi m q r HE.out HI.out HM.out H0.out EQ.out E0.out).mono ?_
 rintro e u1 ⟨rfl,h⟩
 have F:=hid h
 clear h HE
 generalize w.heap.size+1+1+1=f at *
 generalize w.heap.size+1+1=g5 at *
 generalize Z:w.heap.size=g3 at *
 obtain ⟨a0,a1,a2,a3⟩:=F.out.cell g3 lo (by simp)
 have l3:=F.out.lt g3 lo (by simp)
 obtain ⟨m0,m1,m2,m3⟩:=F.out.cell g5 m (by simp)
 have l5:=F.out.lt g5 m (by simp)
 go_wp2_with fail
 clear a0 a1 a2 a3 l3 m0 m1 m2 m3 l5 qn
 have M:=hid (F.out.new2 q r)
 have N6:=hid (show f≠u1.heap.size+1 by have:=F.out.lt f 0 (by simp); omega)
 have G9:=hid (show w.heap.size≤u1.heap.size+1 by have:=F.out.1.size; omega)
 clear F
 generalize (u1.alloc (.cells (ai q) 24)).alloc (.cells (ai r) 24)=al at *
 generalize u1.heap.size=E at *
 refine (bring_at r lo 256 m R s M.out RL.out HM.out LO.out (by decide) ab.out ES.out).mono ?_
 rintro e u2 ⟨rfl,h⟩
 have I:=hid h
 clear h M
 obtain ⟨a0,a1,a2,a3⟩:=I.out.cell (E+1) r (by simp)
 have l9:=I.out.lt (E+1) r (by simp)
 have f9:=I.out.frozen (E+1) r (by simp)
 obtain ⟨b0,b1,b2,b3⟩:=I.out.cell f 0 (by simp)
 have l6:=I.out.lt f 0 (by simp)
 have f6:=I.out.frozen f 0 (by simp)
 have U:f≠E+1:=N6.out
 have an:(f=E+1)=False:=eq_false U
 have ad:(E+1=f)=False:=eq_false (Ne.symm U)
 have HZ:=hid ((I.out.set (E+1) r s [(f,0)] (by simp) G9.out (by simp; exact U)).set f 0 s [] (by simp) (by rw [Z]; exact D.out) (by simp))
 go_wp2
 clear a0 a1 a2 a3 l9 f9 b0 b1 b2 b3 l6 f6
 change bodyPost _ _ _ _ _ (fil (fil u2 (E+1) s) f s)
 generalize fil (fil u2 (E+1) s) f s=wz at *
 obtain ⟨k0,k1,k2,k3⟩:=HZ.out.cell f s (by simp)
 exact bodyPost_ret (v:=.tuple #[af s,.int .i64 0]) (by simp [results,Tryz.results67,go_sem,k0,k1,k2,k3]) rfl ⟨rfl,HZ.out.1⟩
theorem wide_some (lo hi m:Nat) (w:World) (f:lo<2 ^ 256) (z:hi<2 ^ 256) (E:m<2 ^ 256) (F:m≠0):Calls Tryz.prog 67 #[af lo,af hi,af m] w fun e w'=>e=.returned (.tuple #[af (wid lo hi m),.int .i64 0])∧Below w.heap.size w w':=by
 by_cases D:hi % m=0
 ·exact wide_zero lo hi m w f z E F D
 ·exact wide_rest lo hi m w f z E F D
theorem wide_b (lo hi m s:Nat) (w:World) (f:lo<2 ^ 256) (z:hi<2 ^ 256) (E:m<2 ^ 256) (F:m≠0) (D:wid lo hi m=s):Calls Tryz.prog 67 #[af lo,af hi,af m] w fun e w'=>e=.returned (.tuple #[af s,.int .i64 0])∧Below w.heap.size w w':=by
 subst D; exact wide_some lo hi m w f z E F
theorem wide_at (lo hi m s:Nat) {w w':World} {l:List (Nat×Nat)} (h:ae w l w') (f:lo<2 ^ 256) (z:hi<2 ^ 256) (E:m<2 ^ 256) (F:m≠0) (D:wid lo hi m=s):Calls Tryz.prog 67 #[af lo,af hi,af m] w' fun e w2=>e=.returned (.tuple #[af s,.int .i64 0])∧ae w l w2 :=
 ah (wide_b lo hi m s w' f z E F D) h
theorem wide_none_at (lo hi:Nat) {w w':World} {l:List (Nat×Nat)} (h:ae w l w'):Calls Tryz.prog 67 #[af lo,af hi,af 0] w' fun e w2=>e=.returned (.tuple #[af 0,.int .i64 1])∧ae w l w2 :=
 ah (wide_none lo hi w') h
theorem ae.hd {w w':World} {l:List (Nat×Nat)} {g x:Nat} (h:ae w ((g,x) :: l) w'):(w'.cell? ⟨g,0,none⟩=some (.int .u64 (wd x 0:Int))∧w'.cell? ⟨g,1,none⟩=some (.int .u64 (wd x 1:Int))∧w'.cell? ⟨g,2,none⟩=some (.int .u64 (wd x 2:Int))∧w'.cell? ⟨g,3,none⟩=some (.int .u64 (wd x 3:Int)))∧(∀ i,w'.frozen? ⟨g,i,none⟩=false)∧g<w'.heap.size∧g≠w'.heap.size :=
 ⟨h.cell g x (by simp),h.frozen g x (by simp),h.lt g x (by simp),Nat.ne_of_lt (h.lt g x (by simp))⟩
def Fsh (w:World) (l:List (Nat×Nat)) (g:Nat):Prop:=w.heap.size≤g∧∀ p∈l,p.1≠g
theorem ae.fresh {w w':World} {l:List (Nat×Nat)} (h:ae w l w'):Fsh w l w'.heap.size:=⟨h.1.size,fun p f=>Nat.ne_of_lt (h.2 p f).lt⟩
theorem Fsh.ne {w:World} {l:List (Nat×Nat)} {g g' x:Nat} (h:Fsh w ((g,x) :: l) g'):g≠g'∧(g=g')=False∧(g'=g)=False:=by
 have:=h.2 (g,x) (by simp)
 exact ⟨this,eq_false this,eq_false (Ne.symm this)⟩
theorem rof_any (n:Nat) (w:World) (h:n<18446744073709551616):Calls Tryz.prog 56 #[.int .u64 (n:Int)] w fun e w'=>e=.returned (af n)∧Below w.heap.size w w':=by
 have f:=hid (num_small n h)
 go_enter Tryz.func56,Tryz.ntmps56
 go_wp2
 refine bodyPost_ret (v:=.agg #[.int .u64 (n:Int),.int .u64 0,.int .u64 0,.int .u64 0]) (by simp [results,Tryz.results56,go_sem]) rfl ⟨by rw [f.out],?_⟩
 repeat (first | exact Below.refl _ _ | refine Below.drew ?_ | refine bal ?_ _)
theorem tm2 (a p:Nat):(((a:Int) / 2 ^ p).tmod 2)=((a / 2 ^ p % 2:Nat):Int):=by
 have e:((a:Int) / 2 ^ p)=((a / 2 ^ p:Nat):Int):=by simp
 rw [e,Int.tmod_eq_emod_of_nonneg (Int.natCast_nonneg _)]
 exact (Int.natCast_emod _ _).symm
theorem rbit_in (x q p:Nat) (n:Int) (w:World) (f:q<4) (z:p<64) (h:n=64 * (q:Int)+p):Calls Tryz.prog 59 #[af x,.int .i64 n] w fun e w'=>e=.returned (.int .u64 ((wd x q / 2 ^ p % 2:Nat):Int))∧Below w.heap.size w w':=by
 have E:0≤n:=by omega
 have D:n<256:=by omega
 have G:n / 64=(q:Int):=by omega
 have F:n % 64=(p:Int):=by omega
 have I:=hid (aO x q)
 clear h
 have hc:q=0∨q=1∨q=2∨q=3:=by omega
 clear f
 rcases hc with rfl | rfl | rfl | rfl
 all_goals
  go_enter Tryz.func59,Tryz.ntmps59
  go_wp2
  go_ret
  refine ⟨?_,bal (Below.refl _ _) _⟩
  exact congrArg Ending.returned (congrArg (Value.int IntKind.u64) (tm2 _ p))
theorem rbit_out (x:Nat) (n:Int) (w:World) (h:n<0∨256≤n):Calls Tryz.prog 59 #[af x,.int .i64 n] w fun e w'=>e=.returned (.int .u64 0)∧Below w.heap.size w w':=by
 rcases h with h | h
 ·go_enter Tryz.func59,Tryz.ntmps59
  go_wp2
  go_ret
  exact ⟨rfl,bal (Below.refl _ _) _⟩
 ·have f:¬ n<0:=by omega
  go_enter Tryz.func59,Tryz.ntmps59
  go_wp2
  go_ret
  exact ⟨rfl,bal (Below.refl _ _) _⟩
theorem rbit_any (x:Nat) (n:Int) (w:World) (f:x<2 ^ 256):Calls Tryz.prog 59 #[af x,.int .i64 n] w fun e w'=>e=.returned (.int .u64 (bi x n:Int))∧Below w.heap.size w w':=by
 by_cases h:0≤n∧n<256
 ·obtain ⟨k,rfl⟩:=Int.eq_ofNat_of_zero_le h.1
  have e:((k:Nat):Int)=64 * ((k / 64:Nat):Int)+((k % 64:Nat):Int):=by omega
  have hb:=bi_word x (k % 64) (k:Int) ((k / 64:Nat):Int) f e (Nat.mod_lt _ (by decide))
  rw [wi_nat x (k / 64) f] at hb
  have:=rbit_in x (k / 64) (k % 64) (k:Int) w (by omega) (Nat.mod_lt _ (by decide)) e
  rw [hb] at this
  exact this
 ·have hb:bi x n=0:=by
   unfold bi
   by_cases z:n<0
   ·rw [if_pos z]
   ·rw [if_neg z]
    exact bitAt_high x _ 256 f (by omega)
  rw [hb]
  exact rbit_out x n w (by omega)
theorem rbits_any (x:Nat) (w:World) (L:x<2 ^ 256):Calls Tryz.prog 58 #[af x] w fun e w'=>e=.returned (.int .i64 (aq x:Int))∧Below w.heap.size w w':=by
 have F:=hid L
 have D:=hid ((ae.refl w).new x)
 clear L
 go_enter Tryz.func58,Tryz.ntmps58
 go_wp2
 generalize w.alloc (.cells (ai x) 24)=w0 at *
 generalize w.heap.size=ga at *
 go_loopw [3] (fun i wr=>∃ k:Nat,k≤256∧i=.int .i64 k∧Hid (x<2 ^ k)∧Hid (ae w [(ga,x)] wr)) (fun i _=>(intOf i).toNat)
 case atStart=>exact ⟨256,by omega,rfl,F,D⟩
 case round =>
  obtain ⟨k,Z,rfl,J,D⟩:=hrel
  by_cases O:k=0
  ·subst O
   have M:aq x=0:=by
    have:=J.out
    have e:x=0:=by simpa using this
    rw [e]; rfl
   have G:=hid M
   clear M
   go_wp2
   go_ret
   exact ⟨by rw [G.out]; rfl,D.out.1⟩
  ·obtain ⟨m,rfl⟩:∃ m,k=m+1:=⟨k - 1,by omega⟩
   clear O
   obtain ⟨Y,V,U,R⟩:=D.out.cell ga x (by simp)
   have E:=bitAt_lt x m
   have w1:(((m+1:Nat):Int) - 1)=(m:Int):=by omega
   rcases (show aV x m=0∨aV x m=1 by omega) with f | f
   ·have K:=hid (p:=(bi x (m:Int):Int)=0) (by unfold bi; rw [if_neg (by omega),Int.toNat_natCast,f]; rfl)
    have I:=hid (bit_none J.out f)
    clear E f
    go_wp2_with fail
    refine (rbit_any x (m:Int) wr F.out).mono ?_
    rintro e w1 ⟨rfl,hb⟩
    rw [K.out]
    have z:=hid (D.out.on hb)
    clear hb Y V U R
    go_wp2
    go_roundw
    case rel=>exact ⟨m,by omega,by go_num,I,z⟩
    case measure=>simp [intOf]
   ·have K:=hid (p:=(bi x (m:Int):Int)=1) (by unfold bi; rw [if_neg (by omega),Int.toNat_natCast,f]; rfl)
    have G:=hid (bit_top J.out f)
    clear E f
    go_wp2_with fail
    refine (rbit_any x (m:Int) wr F.out).mono ?_
    rintro e w1 ⟨rfl,hb⟩
    rw [K.out]
    have z:=hid (D.out.on hb)
    clear hb Y V U R
    go_wp2
    go_ret
    exact ⟨by rw [G.out]; rfl,z.out.1⟩
theorem cmp_mod (x k:Nat):x % 18446744073709551616 ^ (k+1)=x % 18446744073709551616 ^ k+18446744073709551616 ^ k * wd x k:=by
 unfold wd
 rw [Nat.pow_succ,Nat.mod_mul]
theorem low_less {r s P A B:Nat} (f:r<P) (h:A<B):r+P * A<s+P * B:=by
 have:=Nat.mul_le_mul_left P h
 rw [Nat.mul_succ] at this
 omega
theorem lcmp_less (x y k:Nat) (h:wd x k<wd y k):aD (x % 18446744073709551616 ^ (k+1)) (y % 18446744073709551616 ^ (k+1)) = -1:=by
 rw [cmp_mod x k,cmp_mod y k]
 unfold aD
 rw [if_pos (low_less (Nat.mod_lt _ (Nat.pow_pos (by decide))) h)]
theorem cmp_more (x y k:Nat) (h:wd y k<wd x k):aD (x % 18446744073709551616 ^ (k+1)) (y % 18446744073709551616 ^ (k+1))=1:=by
 rw [cmp_mod x k,cmp_mod y k]
 unfold aD
 have f:=low_less (s:=x % 18446744073709551616 ^ k) (Nat.mod_lt y (Nat.pow_pos (n:=k) (by decide:0<18446744073709551616))) h
 rw [if_neg (by omega),if_pos f]
theorem cmp_like (x y k:Nat) (h:wd x k=wd y k):aD (x % 18446744073709551616 ^ (k+1)) (y % 18446744073709551616 ^ (k+1))=aD (x % 18446744073709551616 ^ k) (y % 18446744073709551616 ^ k):=by
 rw [cmp_mod x k,cmp_mod y k,h]
 generalize x % 18446744073709551616 ^ k=r
 generalize y % 18446744073709551616 ^ k=s
 unfold aD
 split <;> split <;> (try split) <;> omega
theorem word_k {w:World} {g x:Nat} (h:Nm w g x) (k:Nat) (f:k<4):w.cell? ⟨g,k,none⟩=some (.int .u64 (wd x k:Int)):=by
 obtain ⟨F,E,D,z⟩:=h.cell
 match k,f with
 | 0,_=>exact F
 | 1,_=>exact E
 | 2,_=>exact D
 | 3,_=>exact z
theorem ae.drewN {w w':World} {l:List (Nat×Nat)} (h:ae w l w') (n:Nat):ae w l (w'.drewN n):=by
 induction n with
 | zero=>exact h
 | succ n ih=>exact ih.drew
theorem rcmp_any (x y:Nat) (w:World) (V:x<2 ^ 256) (U:y<2 ^ 256):Calls Tryz.prog 29 #[af x,af y] w fun e w'=>e=.returned (.int .i64 (aD x y))∧Below w.heap.size w w':=by
 have HX:=hid V
 have HY:=hid U
 have D:=hid ((ae.refl w).new2 x y)
 clear V U
 go_enter Tryz.func29,Tryz.ntmps29
 go_wp2
 generalize (w.alloc (.cells (ai x) 24)).alloc (.cells (ai y) 24)=w0 at *
 generalize w.heap.size+1=gb at *
 generalize w.heap.size=ga at *
 go_loopw [5,6] (fun o i wr=>∃ (k:Nat) (z:Int),k≤4∧i=.int .i64 k∧o=.int .i64 z∧Hid (z=aD (x % 18446744073709551616 ^ k) (y % 18446744073709551616 ^ k))∧Hid (ae w [(gb,y),(ga,x)] wr)) (fun _ i _=>4 - (intOf i).toNat)
 case atStart=>exact ⟨0,0,by omega,rfl,rfl,hid (by simp [Nat.mod_one,aD]),D⟩
 case round =>
  obtain ⟨k,z,hk,rfl,rfl,R,D⟩:=hrel
  by_cases I:k<4
  ·have G:=word_k (D.out.nm ga x (by simp)) k I
   have F:=word_k (D.out.nm gb y (by simp)) k I
   rcases Nat.lt_trichotomy (wd x k) (wd y k) with E | E | E
   ·have L:=hid (lcmp_less x y k E)
    have M:¬ wd y k<wd x k:=by omega
    have Z:decide (wd x k<wd y k)=true:=by simpa using E
    have Y:decide (wd y k<wd x k)=false:=by simpa using M
    go_wp2
    go_quiet (fail)
    have K:(wr.drewN nq).cell? ⟨ga,k,none⟩=some (.int .u64 (wd x k:Int)):=G
    have J:(wr.drewN nq).cell? ⟨gb,k,none⟩=some (.int .u64 (wd y k:Int)):=F
    have f:=hid (D.out.drewN nq)
    clear G F D
    generalize wr.drewN nq=w2 at *
    go_wp2
    go_quiet (fail)
    go_wp2
    go_roundw
    case rel=>exact ⟨k+1,-1,by omega,by go_num,rfl,hid L.out.symm,hid (f.out.drewN _)⟩
    case measure=>simp [intOf]; omega
   ·have L:=hid (cmp_like x y k E)
    have M:¬ wd y k<wd x k:=by omega
    have g3:¬ wd x k<wd y k:=by omega
    have Z:decide (wd x k<wd y k)=false:=by simpa using g3
    have Y:decide (wd y k<wd x k)=false:=by simpa using M
    clear E
    go_wp2
    go_quiet (fail)
    have K:(wr.drewN nq).cell? ⟨ga,k,none⟩=some (.int .u64 (wd x k:Int)):=G
    have J:(wr.drewN nq).cell? ⟨gb,k,none⟩=some (.int .u64 (wd y k:Int)):=F
    have f:=hid (D.out.drewN nq)
    clear G F D
    generalize wr.drewN nq=w2 at *
    go_wp2
    go_quiet (fail)
    go_wp2
    go_roundw
    case rel=>exact ⟨k+1,z,by omega,by go_num,rfl,hid (by rw [L.out]; exact R.out),hid (f.out.drewN _)⟩
    case measure=>simp [intOf]; omega
   ·have L:=hid (cmp_more x y k E)
    have g3:¬ wd x k<wd y k:=by omega
    have Z:decide (wd x k<wd y k)=false:=by simpa using g3
    have Y:decide (wd y k<wd x k)=true:=by simpa using E
    go_wp2
    go_quiet (fail)
    have K:(wr.drewN nq).cell? ⟨ga,k,none⟩=some (.int .u64 (wd x k:Int)):=G
    have J:(wr.drewN nq).cell? ⟨gb,k,none⟩=some (.int .u64 (wd y k:Int)):=F
    have f:=hid (D.out.drewN nq)
    clear G F D
    generalize wr.drewN nq=w2 at *
    go_wp2
    go_quiet (fail)
    go_wp2
    go_roundw
    case rel=>exact ⟨k+1,1,by omega,by go_num,rfl,hid L.out.symm,hid (f.out.drewN _)⟩
    case measure=>simp [intOf]; omega
  ·obtain rfl:k=4:=by omega
   have O:=hid (p:=z=aD x y) (by
    have:=R.out
    rw [show (18446744073709551616:Nat) ^ 4=2 ^ 256 by decide,Nat.mod_eq_of_lt HX.out,Nat.mod_eq_of_lt HY.out] at this
    exact this)
   clear R
   go_wp2
   go_ret
   exact ⟨by rw [← O.out]; rfl,D.out.1⟩
def Sp (w:World) (ga gb gl gh a b lo hi:Nat) (w':World):Prop:=ae w [(gh,hi),(gl,lo),(gb,b),(ga,a)] w'∧gl≠ga∧gl≠gb∧gl≠gh∧gh≠ga∧gh≠gb∧w.heap.size≤gl∧w.heap.size≤gh
section
variable {w w' w2:World} {ga gb gl gh a b lo hi:Nat}
theorem Sp.on (h:Sp w ga gb gl gh a b lo hi w') (hb:Below w'.heap.size w' w2):Sp w ga gb gl gh a b lo hi w2:=⟨h.1.on hb,h.2⟩
theorem Sp.drew (h:Sp w ga gb gl gh a b lo hi w'):Sp w ga gb gl gh a b lo hi w'.drew:=⟨h.1.drew,h.2⟩
theorem Sp.setLo (h:Sp w ga gb gl gh a b lo hi w') (x:Nat):Sp w ga gb gl gh a b x hi (fil w' gl x):=by
 obtain ⟨⟨hb,f⟩,G,F,E,K,J,D,I⟩:=h
 refine ⟨⟨dK x hb D,fun p z=>?_⟩,G,F,E,K,J,D,I⟩
 simp only [List.mem_cons,List.not_mem_nil,or_false] at z
 rcases z with rfl | rfl | rfl | rfl
 ·exact dJ x hi (f (gh,hi) (by simp)) (Ne.symm E)
 ·exact fil_nm x (f (gl,lo) (by simp)).fr
 ·exact dJ x b (f (gb,b) (by simp)) (Ne.symm F)
 ·exact dJ x a (f (ga,a) (by simp)) (Ne.symm G)
theorem Sp.setHi (h:Sp w ga gb gl gh a b lo hi w') (x:Nat):Sp w ga gb gl gh a b lo x (fil w' gh x):=by
 obtain ⟨⟨hb,f⟩,K,J,G,F,E,I,D⟩:=h
 refine ⟨⟨dK x hb D,fun p z=>?_⟩,K,J,G,F,E,I,D⟩
 simp only [List.mem_cons,List.not_mem_nil,or_false] at z
 rcases z with rfl | rfl | rfl | rfl
 ·exact fil_nm x (f (gh,hi) (by simp)).fr
 ·exact dJ x lo (f (gl,lo) (by simp)) G
 ·exact dJ x b (f (gb,b) (by simp)) (Ne.symm E)
 ·exact dJ x a (f (ga,a) (by simp)) (Ne.symm F)
theorem Sp.cells (h:Sp w ga gb gl gh a b lo hi w'):(w'.cell? ⟨ga,0,none⟩=some (.int .u64 (wd a 0:Int))∧w'.cell? ⟨ga,1,none⟩=some (.int .u64 (wd a 1:Int))∧w'.cell? ⟨ga,2,none⟩=some (.int .u64 (wd a 2:Int))∧w'.cell? ⟨ga,3,none⟩=some (.int .u64 (wd a 3:Int)))
  ∧(w'.cell? ⟨gl,0,none⟩=some (.int .u64 (wd lo 0:Int))∧w'.cell? ⟨gl,1,none⟩=some (.int .u64 (wd lo 1:Int))∧w'.cell? ⟨gl,2,none⟩=some (.int .u64 (wd lo 2:Int))∧w'.cell? ⟨gl,3,none⟩=some (.int .u64 (wd lo 3:Int)))
  ∧(w'.cell? ⟨gh,0,none⟩=some (.int .u64 (wd hi 0:Int))∧w'.cell? ⟨gh,1,none⟩=some (.int .u64 (wd hi 1:Int))∧w'.cell? ⟨gh,2,none⟩=some (.int .u64 (wd hi 2:Int))∧w'.cell? ⟨gh,3,none⟩=some (.int .u64 (wd hi 3:Int)))
  ∧(∀ i,w'.frozen? ⟨gl,i,none⟩=false)∧(∀ i,w'.frozen? ⟨gh,i,none⟩=false) :=
 ⟨h.1.cell ga a (by simp),h.1.cell gl lo (by simp),h.1.cell gh hi (by simp),(h.1.nm gl lo (by simp)).fr.frozen,(h.1.nm gh hi (by simp)).fr.frozen⟩
end
def wvs (ws:List Nat):List Value:=ws.map fun (d:Nat)=>.int .u64 (d:Int)
def Wl (w:World) (g:Nat) (ws:List Nat):Prop:=w.heap[g]?=some (.cells (wvs ws).toArray 24 (0,0))
theorem Wl.cell {w:World} {g:Nat} {ws:List Nat} (h:Wl w g ws) (k:Nat) (f:k<ws.length):w.cell? ⟨g,k,none⟩=some (.int .u64 (ws[k]:Int)):=by
 rw [cell_of_row w g k _ 24 (0,0) h]; simp [wvs,f]
theorem Wl.frozen {w:World} {g:Nat} {ws:List Nat} (h:Wl w g ws) (i:Nat):w.frozen? ⟨g,i,none⟩=false:=by
 unfold Wl at h; simp [World.frozen?,h]
theorem Wl.set {w:World} {g:Nat} {ws:List Nat} (h:Wl w g ws) (k v:Nat):Wl (w.setCell ⟨g,k,none⟩ (.int .u64 (v:Int))) g (ws.set k v):=by
 unfold Wl at h ⊢; simp [World.setCell,Array.getElem?_modify,h,wvs,List.map_set]
theorem Nm.at {w:World} {g x:Nat} (h:Nm w g x) (k:Nat) (f:k<4):w.cell? ⟨g,k,none⟩=some (.int .u64 (wd x k:Int)):=by
 obtain ⟨F,E,D,z⟩:=h.cell
 match k,f with
 | 0,_=>exact F
 | 1,_=>exact E
 | 2,_=>exact D
 | 3,_=>exact z
def vw:List Nat→Nat
 | []=>0
 | d :: r=>d+18446744073709551616 * vw r
theorem vw_take (l:List Nat) (k:Nat) (f:k<l.length):vw (l.take (k+1))=vw (l.take k)+18446744073709551616 ^ k * l[k]:=by
 induction l generalizing k with
 | nil=>simp at f
 | cons d r ih =>
  match k with
  | 0=>simp [vw]
  | k+1 =>
   have h:=ih k (by simpa using f)
   simp only [List.take_succ_cons,vw,List.getElem_cons_succ]
   rw [h,Nat.mul_add,Nat.pow_succ,Nat.mul_comm (18446744073709551616 ^ k) 18446744073709551616,Nat.mul_assoc]
   omega
theorem vw_set (l:List Nat) (k t:Nat) (f:k<l.length):vw ((l.set k t).take (k+1))=vw (l.take k)+18446744073709551616 ^ k * t:=by
 rw [vw_take _ _ (by simpa using f),List.getElem_set_self,List.take_set_of_le (Nat.le_refl k)]
theorem mod_word (x k:Nat):x % 18446744073709551616 ^ (k+1)=x % 18446744073709551616 ^ k+18446744073709551616 ^ k * wd x k:=by
 unfold wd
 rw [Nat.pow_succ,Nat.mod_mul]
theorem add_step (x y k c f t:Nat) (ws:List Nat) (D:k<ws.length) (h:x % 18446744073709551616 ^ k+y % 18446744073709551616 ^ k=vw (ws.take k)+18446744073709551616 ^ k * c) (z:t+18446744073709551616 * f=wd x k+wd y k+c) :
  x % 18446744073709551616 ^ (k+1)+y % 18446744073709551616 ^ (k+1)=vw ((ws.set k t).take (k+1))+18446744073709551616 ^ (k+1) * f:=by
 rw [mod_word x k,mod_word y k,vw_set ws k t D,Nat.pow_succ,Nat.mul_assoc]
 have e:18446744073709551616 ^ k * t+18446744073709551616 ^ k * (18446744073709551616 * f)=18446744073709551616 ^ k * wd x k+18446744073709551616 ^ k * wd y k+18446744073709551616 ^ k * c:=by
  rw [← Nat.mul_add,z,Nat.mul_add,Nat.mul_add]
 omega
theorem sub_step (x y k c f t:Nat) (ws:List Nat) (D:k<ws.length) (h:vw (ws.take k)+y % 18446744073709551616 ^ k=x % 18446744073709551616 ^ k+18446744073709551616 ^ k * c) (z:t+wd y k+c=wd x k+18446744073709551616 * f) :
  vw ((ws.set k t).take (k+1))+y % 18446744073709551616 ^ (k+1)=x % 18446744073709551616 ^ (k+1)+18446744073709551616 ^ (k+1) * f:=by
 rw [mod_word x k,mod_word y k,vw_set ws k t D,Nat.pow_succ,Nat.mul_assoc]
 have e:18446744073709551616 ^ k * t+18446744073709551616 ^ k * wd y k+18446744073709551616 ^ k * c=18446744073709551616 ^ k * wd x k+18446744073709551616 ^ k * (18446744073709551616 * f):=by
  rw [← Nat.mul_add,← Nat.mul_add,← Nat.mul_add,z]
 omega
def Ca (w:World) (x y k:Nat) (ws:List Nat) (w':World):Prop:=Wl w' w.heap.size ws∧Nm w' (w.heap.size+1) y∧Fr w' (w.heap.size+1+1) (.int .u64 0) (.int .u64 0) (.int .u64 0) (.int .u64 0)∧Below w.heap.size w w'∧ws.length=4∧(∀ j,k≤j→(h:j<ws.length)→ws[j]=wd x j)∧(∀ d∈ws,d<18446744073709551616)
theorem Ca.init (w:World) (x y:Nat):Ca w x y 0 [wd x 0,wd x 1,wd x 2,wd x 3] (((w.alloc (.cells (ai x) 24)).alloc (.cells (ai y) 24)).alloc (.cells #[.int .u64 0,.int .u64 0,.int .u64 0,.int .u64 0] 24)):=by
 refine ⟨((Nm.new w x).alloc _).alloc _,?_,?_,bal (bal (bal (Below.refl _ _) _) _) _,rfl,?_,?_⟩
 ·have:=(Nm.new (w.alloc (.cells (ai x) 24)) y).alloc (.cells #[.int .u64 0,.int .u64 0,.int .u64 0,.int .u64 0] 24)
  simpa using this
 ·have:=Fr.new ((w.alloc (.cells (ai x) 24)).alloc (.cells (ai y) 24)) (.int .u64 0) (.int .u64 0) (.int .u64 0) (.int .u64 0)
  simpa using this
 ·intro j _ h
  match j,h with
  | 0,_=>rfl
  | 1,_=>rfl
  | 2,_=>rfl
  | 3,_=>rfl
 ·intro d hd
  simp only [List.mem_cons,List.not_mem_nil,or_false] at hd
  rcases hd with rfl | rfl | rfl | rfl <;> exact aO _ _
theorem Ca.drewN {w w':World} {x y k:Nat} {ws:List Nat} (h:Ca w x y k ws w') (n:Nat):Ca w x y k ws (w'.drewN n):=by
 induction n with
 | zero=>exact h
 | succ n ih=>exact ⟨ih.1,ih.2.1,ih.2.2.1,ih.2.2.2.1.drew,ih.2.2.2.2⟩
theorem Ca.set {w w':World} {x y k:Nat} {ws:List Nat} (h:Ca w x y k ws w') (t:Nat) (K:t<18446744073709551616):Ca w x y (k+1) (ws.set k t) (w'.setCell ⟨w.heap.size,k,none⟩ (.int .u64 (t:Int))):=by
 obtain ⟨J,I,G,F,E,D,z⟩:=h
 refine ⟨J.set k t,(Below.heap_setCell w' ⟨w.heap.size,k,none⟩ _ (w.heap.size+1) (by simp)).trans I,G.setOther _ (by omega),F.setCell (p:=⟨w.heap.size,k,none⟩) (Nat.le_refl _) _,by simpa using E,?_,?_⟩
 ·intro j L f
  rw [List.getElem_set,if_neg (by omega)]
  exact D j (by omega) (by simpa using f)
 ·intro d hd
  rcases List.mem_or_eq_of_mem_set hd with h | h
  ·exact z d h
  ·omega
theorem list4 (ws:List Nat) (h:ws.length=4):∃ a b c d,ws = [a,b,c,d]:=by
 match ws,h with
 | [a,b,c,d],_=>exact ⟨a,b,c,d,rfl⟩
theorem r2add_any (x y:Nat) (w:World) (hx:x<2 ^ 256) (hy:y<2 ^ 256) :
  Calls Tryz.prog 48 #[af x,af y] w fun e w'=>e=.returned (.tuple #[af ((x+y) % 2 ^ 256),.int .u64 (((x+y) / 2 ^ 256:Nat):Int)])∧Below w.heap.size w w':=by
 have HX:=hid hx
 have HY:=hid hy
 have I:=hid (Ca.init w x y)
 clear hx hy
 go_enter Tryz.func48,Tryz.ntmps48
 go_wp2
 generalize ((w.alloc (.cells (ai x) 24)).alloc (.cells (ai y) 24)).alloc (.cells #[.int .u64 0,.int .u64 0,.int .u64 0,.int .u64 0] 24)=w0 at *
 go_loopw [6,7] (fun c i wr=>∃ (k f:Nat) (ws:List Nat),k≤4∧i=.int .i64 k∧c=.int .u64 f∧f≤1∧Hid (Ca w x y k ws wr)∧Hid (x % 18446744073709551616 ^ k+y % 18446744073709551616 ^ k=vw (ws.take k)+18446744073709551616 ^ k * f)) (fun _ i _=>4 - (intOf i).toNat)
 case atStart=>exact ⟨0,0,_,by omega,rfl,rfl,by omega,I,hid (by simp [Nat.mod_one,vw])⟩
 case round =>
  obtain ⟨k,f,ws,hk,rfl,rfl,hc,I,Z⟩:=hrel
  by_cases ab:k<4
  ·obtain ⟨M,Y,J,V,U,R,F⟩:=I.out
   have D:k<ws.length:=by omega
   have ca:=M.cell k D
   rw [R k (Nat.le_refl _) D] at ca
   have cb:=Y.at k ab
   have hA:=aO x k
   have hB:=aO y k
   clear M Y J V U R F
   obtain ⟨S,eS⟩:∃ S,S=(wd x k+wd y k) % 18446744073709551616:=⟨_,rfl⟩
   obtain ⟨t,eT⟩:∃ t,t=(S+f) % 18446744073709551616:=⟨_,rfl⟩
   have s1:IntKind.u64.wrap ((wd x k:Int)+(wd y k:Int))=(S:Int):=by rw [IntKind.wrap_u64]; omega
   have s2:IntKind.u64.wrap ((S:Int)+(f:Int))=(t:Int):=by rw [IntKind.wrap_u64]; omega
   have ht:t<18446744073709551616:=by omega
   have HS:=hid (p:=∀ c',(c'=if S<wd y k∨t<f then 1 else 0)→t+18446744073709551616 * c'=wd x k+wd y k+f) (by
    intro c' ad
    have:=addc hA hB hc
    rw [← eS,← eT,← ad] at this
    exact this)
   have HT:=hid ht
   have G:=hid D
   clear hA hB eS eT ht D
   go_wp2
   go_quiet (fail)
   have E:=hid (I.out.drewN nq)
   have ar:(wr.drewN nq).cell? ⟨w.heap.size,k,none⟩=some (.int .u64 (wd x k:Int)):=ca
   have ap:(wr.drewN nq).cell? ⟨w.heap.size+1,k,none⟩=some (.int .u64 (wd y k:Int)):=cb
   have ao:=E.out.1.frozen k
   clear ca cb I
   generalize wr.drewN nq=w2 at *
   by_cases g1:S<wd y k
   ·have z:=hid (HS.out 1 (by rw [if_pos (Or.inl g1)]))
    go_wp2
    go_roundw
    case rel=>exact ⟨k+1,1,ws.set k t,by omega,by go_num,rfl,by omega,hid (E.out.set t HT.out),hid (add_step x y k f 1 t ws G.out Z.out z.out)⟩
    case measure=>simp [intOf]; omega
   ·by_cases g2:t<f
    ·have z:=hid (HS.out 1 (by rw [if_pos (Or.inr g2)]))
     go_wp2
     go_roundw
     case rel=>exact ⟨k+1,1,ws.set k t,by omega,by go_num,rfl,by omega,hid (E.out.set t HT.out),hid (add_step x y k f 1 t ws G.out Z.out z.out)⟩
     case measure=>simp [intOf]; omega
    ·have z:=hid (HS.out 0 (by rw [if_neg (by omega)]))
     go_wp2
     go_roundw
     case rel=>exact ⟨k+1,0,ws.set k t,by omega,by go_num,rfl,by omega,hid (E.out.set t HT.out),hid (add_step x y k f 0 t ws G.out Z.out z.out)⟩
     case measure=>simp [intOf]; omega
  ·obtain rfl:k=4:=by omega
   obtain ⟨M,Y,J,V,U,R,F⟩:=I.out
   obtain ⟨a,b,c,d,rfl⟩:=list4 ws U
   have l0:=F a (by simp)
   have l1:=F b (by simp)
   have l2:=F c (by simp)
   have l3:=F d (by simp)
   have O:=Z.out
   simp only [List.take,vw] at O
   rw [show (18446744073709551616:Nat) ^ 4=2 ^ 256 by decide,Nat.mod_eq_of_lt HX.out,Nat.mod_eq_of_lt HY.out] at O
   have L:v4 a b c d+2 ^ 256 * f=x+y:=by rw [O]; unfold v4; omega
   obtain ⟨K,q2⟩:=sum_of l0 l1 l2 l3 L
   obtain ⟨s,q3⟩:∃ s,(x+y) % 2 ^ 256=s:=⟨_,rfl⟩
   have q1:v4 a b c d=s:=by rw [K,q3]
   clear O L K
   have hN:Nm wr w.heap.size s:=by
    obtain ⟨z0,z1,z2,z3⟩:=wd_v4 l0 l1 l2 l3
    rw [q1] at z0 z1 z2 z3
    have e:(wvs [a,b,c,d]).toArray=ai s:=by rw [ai,z0,z1,z2,z3]; rfl
    have:=M
    unfold Wl at this
    rw [e] at this
    exact this
   have HN:=hid hN
   have HR:=hid J
   have HB:=hid V
   have Q1:=hid q1
   have Q2:=hid q2
   have Q3:=hid q3
   obtain ⟨c0,c1,c2,c3⟩:=hN.cell
   obtain ⟨d0,d1,d2,d3⟩:=J.cell
   have df:=J.frozen
   clear M Y J V U R F hN q1 q2 q3 l0 l1 l2 l3 I
   go_wp2
   have al:=hid (fil_nm s HR.out)
   have an:=hid (dK s HB.out (show w.heap.size≤w.heap.size+1+1 by omega))
   clear c0 c1 c2 c3 d0 d1 d2 d3 df
   change bodyPost _ _ _ _ _ (fil wr (w.heap.size+1+1) s)
   generalize fil wr (w.heap.size+1+1) s=wz at *
   obtain ⟨g0,g1,g2,g3⟩:=al.out.cell
   exact bodyPost_ret (v:=.tuple #[af s,.int .u64 (f:Int)]) (by simp [results,Tryz.results48,go_sem,g0,g1,g2,g3]) rfl ⟨by rw [Q3.out,Q2.out],an.out⟩
theorem r2sub_any (x y:Nat) (w:World) (hx:x<2 ^ 256) (hy:y<2 ^ 256) :
  Calls Tryz.prog 30 #[af x,af y] w fun e w'=>e=.returned (.tuple #[af (dif x y),.int .u64 (cM x y:Int)])∧Below w.heap.size w w':=by
 have HX:=hid hx
 have HY:=hid hy
 have I:=hid (Ca.init w x y)
 clear hx hy
 go_enter Tryz.func30,Tryz.ntmps30
 go_wp2
 generalize ((w.alloc (.cells (ai x) 24)).alloc (.cells (ai y) 24)).alloc (.cells #[.int .u64 0,.int .u64 0,.int .u64 0,.int .u64 0] 24)=w0 at *
 go_loopw [6,7] (fun c i wr=>∃ (k f:Nat) (ws:List Nat),k≤4∧i=.int .i64 k∧c=.int .u64 f∧f≤1∧Hid (Ca w x y k ws wr)∧Hid (vw (ws.take k)+y % 18446744073709551616 ^ k=x % 18446744073709551616 ^ k+18446744073709551616 ^ k * f)) (fun _ i _=>4 - (intOf i).toNat)
 case atStart=>exact ⟨0,0,_,by omega,rfl,rfl,by omega,I,hid (by simp [Nat.mod_one,vw])⟩
 case round =>
  obtain ⟨k,f,ws,hk,rfl,rfl,hc,I,HV⟩:=hrel
  by_cases ab:k<4
  ·obtain ⟨O,h2,J,Z,Y,V,F⟩:=I.out
   have D:k<ws.length:=by omega
   have ca:=O.cell k D
   rw [V k (Nat.le_refl _) D] at ca
   have cb:=h2.at k ab
   have hA:=aO x k
   have hB:=aO y k
   clear O h2 J Z Y V F
   obtain ⟨S,eS⟩:∃ S,S=(wd x k+18446744073709551616 - wd y k) % 18446744073709551616:=⟨_,rfl⟩
   obtain ⟨t,eT⟩:∃ t,t=(S+18446744073709551616 - f) % 18446744073709551616:=⟨_,rfl⟩
   have s1:IntKind.u64.wrap ((wd x k:Int) - (wd y k:Int))=(S:Int):=by rw [IntKind.wrap_u64]; omega
   have s2:IntKind.u64.wrap ((S:Int) - (f:Int))=(t:Int):=by rw [IntKind.wrap_u64]; omega
   have ht:t<18446744073709551616:=by omega
   have HS:=hid (p:=∀ c',(c'=if wd x k<wd y k∨S<f then 1 else 0)→t+wd y k+f=wd x k+18446744073709551616 * c') (by
    intro c' ad
    have:=subb hA hB hc
    rw [← eS,← eT,← ad] at this
    exact this)
   have HT:=hid ht
   have G:=hid D
   clear hA hB eS eT ht D
   go_wp2
   go_quiet (fail)
   have E:=hid (I.out.drewN nq)
   have ar:(wr.drewN nq).cell? ⟨w.heap.size,k,none⟩=some (.int .u64 (wd x k:Int)):=ca
   have ap:(wr.drewN nq).cell? ⟨w.heap.size+1,k,none⟩=some (.int .u64 (wd y k:Int)):=cb
   have ao:=E.out.1.frozen k
   clear ca cb I
   generalize wr.drewN nq=w2 at *
   by_cases K:wd x k<wd y k
   ·have z:=hid (HS.out 1 (by rw [if_pos (Or.inl K)]))
    have g3:decide (wd x k<wd y k)=true:=by simpa using K
    go_wp2
    go_quiet (fail)
    go_wp2
    go_roundw
    case rel=>exact ⟨k+1,1,ws.set k t,by omega,by go_num,rfl,by omega,hid ((E.out.drewN _).set t HT.out),hid (sub_step x y k f 1 t ws G.out HV.out z.out)⟩
    case measure=>simp [intOf]; omega
   ·by_cases R:S<f
    ·have z:=hid (HS.out 1 (by rw [if_pos (Or.inr R)]))
     have g3:decide (wd x k<wd y k)=false:=by simpa using K
     have g4:decide (S<f)=true:=by simpa using R
     go_wp2
     go_quiet (fail)
     go_wp2
     go_roundw
     case rel=>exact ⟨k+1,1,ws.set k t,by omega,by go_num,rfl,by omega,hid ((E.out.drewN _).set t HT.out),hid (sub_step x y k f 1 t ws G.out HV.out z.out)⟩
     case measure=>simp [intOf]; omega
    ·have z:=hid (HS.out 0 (by rw [if_neg (by omega)]))
     have g3:decide (wd x k<wd y k)=false:=by simpa using K
     have g4:decide (S<f)=false:=by simpa using R
     go_wp2
     go_quiet (fail)
     go_wp2
     go_roundw
     case rel=>exact ⟨k+1,0,ws.set k t,by omega,by go_num,rfl,by omega,hid ((E.out.drewN _).set t HT.out),hid (sub_step x y k f 0 t ws G.out HV.out z.out)⟩
     case measure=>simp [intOf]; omega
  ·obtain rfl:k=4:=by omega
   obtain ⟨O,h2,J,Z,Y,V,F⟩:=I.out
   obtain ⟨a,b,c,d,rfl⟩:=list4 ws Y
   have l0:=F a (by simp)
   have l1:=F b (by simp)
   have l2:=F c (by simp)
   have l3:=F d (by simp)
   have U:=HV.out
   simp only [List.take,vw] at U
   rw [show (18446744073709551616:Nat) ^ 4=2 ^ 256 by decide,Nat.mod_eq_of_lt HX.out,Nat.mod_eq_of_lt HY.out] at U
   have M:v4 a b c d+y=x+2 ^ 256 * f:=by rw [← U]; unfold v4; omega
   obtain ⟨L,q2⟩:=dif_of HX.out HY.out l0 l1 l2 l3 M hc
   obtain ⟨s,q3⟩:∃ s,dif x y=s:=⟨_,rfl⟩
   have q1:v4 a b c d=s:=by rw [L,q3]
   clear U M L
   have hN:Nm wr w.heap.size s:=by
    obtain ⟨z0,z1,z2,z3⟩:=wd_v4 l0 l1 l2 l3
    rw [q1] at z0 z1 z2 z3
    have e:(wvs [a,b,c,d]).toArray=ai s:=by rw [ai,z0,z1,z2,z3]; rfl
    have:=O
    unfold Wl at this
    rw [e] at this
    exact this
   have HN:=hid hN
   have HR:=hid J
   have HB:=hid Z
   have Q1:=hid q1
   have Q2:=hid q2
   have Q3:=hid q3
   obtain ⟨c0,c1,c2,c3⟩:=hN.cell
   obtain ⟨d0,d1,d2,d3⟩:=J.cell
   have df:=J.frozen
   clear O h2 J Z Y V F hN q1 q2 q3 l0 l1 l2 l3 I
   go_wp2
   have al:=hid (fil_nm s HR.out)
   have an:=hid (dK s HB.out (show w.heap.size≤w.heap.size+1+1 by omega))
   clear c0 c1 c2 c3 d0 d1 d2 d3 df
   change bodyPost _ _ _ _ _ (fil wr (w.heap.size+1+1) s)
   generalize fil wr (w.heap.size+1+1) s=wz at *
   obtain ⟨g0,K,R,g3⟩:=al.out.cell
   exact bodyPost_ret (v:=.tuple #[af s,.int .u64 (f:Int)]) (by simp [results,Tryz.results30,go_sem,g0,K,R,g3]) rfl ⟨by rw [Q3.out,Q2.out],an.out⟩
theorem fil_fr {w:World} {g g':Nat} {a b c d:Value} (x:Nat) (h:Fr w g a b c d) (f:g≠g'):Fr (fil w g' x) g a b c d :=
 (((h.setOther _ f).setOther _ f).setOther _ f).setOther _ f
def Sq (w:World) (ga gb g4 g5 gl gh a b lo hi:Nat) (w':World):Prop:=Sp w ga gb gl gh a b lo hi w'∧Fr w' g4 (.int .u64 0) (.int .u64 0) (.int .u64 0) (.int .u64 0)∧Fr w' g5 (.int .u64 0) (.int .u64 0) (.int .u64 0) (.int .u64 0)∧g4≠gl∧g4≠gh∧g5≠gl∧g5≠gh∧g4≠g5∧w.heap.size≤g4∧w.heap.size≤g5
section
variable {w w' w2:World} {ga gb g4 g5 gl gh a b lo hi:Nat}
theorem Sq.on (h:Sq w ga gb g4 g5 gl gh a b lo hi w') (hb:Below w'.heap.size w' w2):Sq w ga gb g4 g5 gl gh a b lo hi w2:=⟨h.1.on hb,h.2.1.on hb,h.2.2.1.on hb,h.2.2.2⟩
theorem Sq.drew (h:Sq w ga gb g4 g5 gl gh a b lo hi w'):Sq w ga gb g4 g5 gl gh a b lo hi w'.drew:=⟨h.1.drew,h.2⟩
theorem Sq.setLo (h:Sq w ga gb g4 g5 gl gh a b lo hi w') (x:Nat):Sq w ga gb g4 g5 gl gh a b x hi (fil w' gl x):=⟨h.1.setLo x,fil_fr x h.2.1 h.2.2.2.1,fil_fr x h.2.2.1 h.2.2.2.2.2.1,h.2.2.2⟩
theorem Sq.setHi (h:Sq w ga gb g4 g5 gl gh a b lo hi w') (x:Nat):Sq w ga gb g4 g5 gl gh a b lo x (fil w' gh x):=⟨h.1.setHi x,fil_fr x h.2.1 h.2.2.2.2.1,fil_fr x h.2.2.1 h.2.2.2.2.2.2.1,h.2.2.2⟩
theorem sq_of {f:FuncId} {z:Array Value} {v:Value} (hc:Calls Tryz.prog f z w' fun e w2=>e=.returned v∧Below w'.heap.size w' w2) (h:Sq w ga gb g4 g5 gl gh a b lo hi w'):Calls Tryz.prog f z w' fun e w2=>e=.returned v∧Sq w ga gb g4 g5 gl gh a b lo hi w2 :=
 hc.mono fun e w2 ⟨he,hb⟩=>⟨he,h.on hb⟩
end
theorem Sq.init (w:World) (a b:Nat):Sq w w.heap.size (w.heap.size+1) (w.heap.size+1+1) (w.heap.size+1+1+1) (w.heap.size+1+1+1+1) (w.heap.size+1+1+1+1+1) a b 0 0 ((((((w.alloc (.cells (ai a) 24)).alloc (.cells (ai b) 24)).alloc (.cells #[.int .u64 0,.int .u64 0,.int .u64 0,.int .u64 0] 24)).alloc (.cells #[.int .u64 0,.int .u64 0,.int .u64 0,.int .u64 0] 24)).alloc (.cells #[.int .u64 0,.int .u64 0,.int .u64 0,.int .u64 0] 24)).alloc (.cells #[.int .u64 0,.int .u64 0,.int .u64 0,.int .u64 0] 24)):=by
 have f:=((((((ae.refl w).new2 a b).new 0).new 0).new 0).new 0)
 simp only [World.size_alloc] at f
 simp only [← bH] at f
 refine ⟨⟨⟨f.1,fun p z=>f.2 p ?_⟩,by omega,by omega,by omega,by omega,by omega,by omega,by omega⟩,?_,?_,by omega,by omega,by omega,by omega,by omega,by omega,by omega⟩
 ·simp only [List.mem_cons,List.not_mem_nil,or_false] at z ⊢
  rcases z with h | h | h | h <;> simp [h]
 ·have:=(f.nm (w.heap.size+1+1) 0 (by simp)).fr
  exact this
 ·have:=(f.nm (w.heap.size+1+1+1) 0 (by simp)).fr
  exact this
theorem r2add_b (x y s:Nat) (k:Int) (w:World) (z:x<2 ^ 256) (f:y<2 ^ 256) (D:(x+y) % 2 ^ 256=s) (E:(((x+y) / 2 ^ 256:Nat):Int)=k):Calls Tryz.prog 48 #[af x,af y] w fun e w2=>e=.returned (.tuple #[af s,.int .u64 k])∧Below w.heap.size w w2:=by
 subst D; subst E; exact r2add_any x y w z f
theorem dbl_round {lo hi T:Nat} (F:lo<2 ^ 256) (h:lo+2 ^ 256 * hi=T) (E:2 * T<2 ^ 256 * 2 ^ 256) :
  (hi+hi) % 2 ^ 256=hi+hi∧hi+hi<2 ^ 256∧(lo+lo) / 2 ^ 256<18446744073709551616∧(hi+hi+(lo+lo) / 2 ^ 256) % 2 ^ 256=hi+hi+(lo+lo) / 2 ^ 256∧hi+hi+(lo+lo) / 2 ^ 256<2 ^ 256
  ∧(lo+lo) % 2 ^ 256+2 ^ 256 * (hi+hi+(lo+lo) / 2 ^ 256)=2 * T:=by
 obtain ⟨r1,z,f⟩:=mul_dbl (Nat.two_pow_pos 256) h E
 rw [Nat.two_mul,Nat.two_mul] at r1 z
 rw [Nat.two_mul] at f
 have D:(lo+lo) / 2 ^ 256<18446744073709551616:=by rw [p256] at *; omega
 exact ⟨Nat.mod_eq_of_lt f,f,D,Nat.mod_eq_of_lt z,z,by rw [r1,Nat.two_mul]⟩
theorem add_round {lo hi T a:Nat} (E:lo<2 ^ 256) (F:a<2 ^ 256) (h:lo+2 ^ 256 * hi=T) (D:T+a<2 ^ 256 * 2 ^ 256) :
  (lo+a) / 2 ^ 256<18446744073709551616∧(hi+(lo+a) / 2 ^ 256) % 2 ^ 256=hi+(lo+a) / 2 ^ 256∧hi+(lo+a) / 2 ^ 256<2 ^ 256
  ∧(lo+a) % 2 ^ 256+2 ^ 256 * (hi+(lo+a) / 2 ^ 256)=T+a:=by
 obtain ⟨r1,f⟩:=mul_add (Nat.two_pow_pos 256) h D
 have z:(lo+a) / 2 ^ 256<18446744073709551616:=by rw [p256] at *; omega
 exact ⟨z,Nat.mod_eq_of_lt f,f,r1⟩
theorem div_zero_of {x:Nat} (h:x<2 ^ 256):((x / 2 ^ 256:Nat):Int)=0:=by have:=Nat.div_eq_of_lt h; omega
theorem r2mul_any (a b:Nat) (w:World) (ha:a<2 ^ 256) (hb:b<2 ^ 256):Calls Tryz.prog 75 #[af a,af b] w fun e w'=>e=.returned (.tuple #[af (a * b % 2 ^ 256),af (a * b / 2 ^ 256)])∧Below w.heap.size w w':=by
 have HA:=hid ha
 have HB:=hid hb
 have HS:=hid (Sq.init w a b)
 clear ha hb
 go_enter Tryz.func75,Tryz.ntmps75
 go_wp2
 generalize (((((w.alloc (.cells (ai a) 24)).alloc (.cells (ai b) 24)).alloc (.cells #[.int .u64 0,.int .u64 0,.int .u64 0,.int .u64 0] 24)).alloc (.cells #[.int .u64 0,.int .u64 0,.int .u64 0,.int .u64 0] 24)).alloc (.cells #[.int .u64 0,.int .u64 0,.int .u64 0,.int .u64 0] 24)).alloc (.cells #[.int .u64 0,.int .u64 0,.int .u64 0,.int .u64 0] 24)=w0 at *
 generalize w.heap.size+1+1+1+1+1=gh at *
 generalize w.heap.size+1+1+1+1=gl at *
 generalize w.heap.size+1+1+1=g5 at *
 generalize w.heap.size+1+1=g4 at *
 generalize w.heap.size+1=gb at *
 generalize aU:w.heap.size=ga at *
 clear aU
 have bn:(gl=gh)=False:=eq_false HS.out.1.2.2.2.1
 have bm:(gh=gl)=False:=eq_false (Ne.symm HS.out.1.2.2.2.1)
 go_loopw [8] (fun i wr=>∃ k lo hi:Nat,k≤256∧i=.int .i64 ((k:Int) - 1)∧Hid (lo<2 ^ 256)∧Hid (hi<2 ^ 256)∧Hid (lo+2 ^ 256 * hi=a * (b / 2 ^ k))∧Hid (Sq w ga gb g4 g5 gl gh a b lo hi wr)) (fun i _=>(intOf i+1).toNat)
 case atStart=>exact ⟨256,0,0,by omega,rfl,hid (by decide),hid (by decide),hid (by rw [Nat.div_eq_of_lt HB.out]; rfl),HS⟩
 case round =>
  obtain ⟨k,lo,hi,hk,rfl,HL,HH,HV,HS⟩:=hrel
  by_cases D:k=0
  ·subst D
   have hv:=HV.out
   rw [Nat.pow_zero,Nat.div_one] at hv
   have E1:=hid (p:=a * b % 2 ^ 256=lo) (by rw [← hv,Nat.add_mul_mod_self_left,Nat.mod_eq_of_lt HL.out])
   have E2:=hid (p:=a * b / 2 ^ 256=hi) (by rw [← hv,Nat.add_mul_div_left _ _ (Nat.two_pow_pos 256),Nat.div_eq_of_lt HL.out,Nat.zero_add])
   have aI:=hid HS.out.2.1
   have aG:=hid HS.out.2.2.1
   have HN:=hid HS.out.2.2.2.2.2.2.2.1
   have bk:=hid (dK hi (dK lo HS.out.1.1.1 HS.out.2.2.2.2.2.2.2.2.1) HS.out.2.2.2.2.2.2.2.2.2)
   have K4:=hid (dJ hi lo (fil_nm lo aI.out) HN.out)
   have K5:=hid (fil_nm hi (fil_fr lo aG.out (Ne.symm HN.out)))
   have bu:(g4=g5)=False:=eq_false HN.out
   have bo:(g5=g4)=False:=eq_false (Ne.symm HN.out)
   have bp:(g4=gl)=False:=eq_false HS.out.2.2.2.1
   have bq:(g4=gh)=False:=eq_false HS.out.2.2.2.2.1
   obtain ⟨⟨Z,Y,V,a3⟩,⟨K,J,I,G⟩,⟨D,f,O,M⟩,R,U⟩:=HS.out.1.cells
   obtain ⟨c0,c1,c2,c3⟩:=aI.out.cell
   obtain ⟨d0,d1,d2,d3⟩:=aG.out.cell
   have f4:=aI.out.frozen
   have f5:=aG.out.frozen
   clear hv HV
   go_wp2
   go_region
   all_goals
    go_wp2
    clear Z Y V a3 K J I G D f O M R U c0 c1 c2 c3 d0 d1 d2 d3 f4 f5
    change bodyPost _ _ _ _ _ (fil (fil wr g4 lo) g5 hi).drew
    generalize fil (fil wr g4 lo) g5 hi=wz at *
    obtain ⟨k0,k1,k2,k3⟩:=K4.out.cell
    obtain ⟨q0,q1,q2,q3⟩:=K5.out.cell
    exact bodyPost_ret (v:=.tuple #[af lo,af hi]) (by simp [results,Tryz.results75,go_sem,k0,k1,k2,k3,q0,q1,q2,q3]) rfl ⟨by rw [E1.out,E2.out],bk.out.drew⟩
  ·obtain ⟨m,rfl⟩:∃ m,k=m+1:=⟨k - 1,by omega⟩
   clear D
   rw [show (((m+1:Nat):Int) - 1)=(m:Int) by omega]
   have an:=mul_bits a b m
   have aK:a * (b / 2 ^ m)<2 ^ 256 * 2 ^ 256:=Nat.lt_of_le_of_lt (Nat.mul_le_mul_left a (Nat.div_le_self _ _)) (prod_lt HA.out HB.out)
   obtain ⟨r1,r2,r3,r4,r5,r6⟩:=dbl_round HL.out HV.out (by omega)
   obtain ⟨E,e1,n1⟩:∃ y,Hid ((lo+lo) % 2 ^ 256=y)∧Hid (y<2 ^ 256):=⟨_,hid rfl,hid (Nat.mod_lt _ (Nat.two_pow_pos 256))⟩
   obtain ⟨z1,e2⟩:∃ y,Hid ((lo+lo) / 2 ^ 256=y):=⟨_,hid rfl⟩
   obtain ⟨L,d1⟩:∃ y,hi+hi=y:=⟨_,rfl⟩
   simp only [e1.out,e2.out,d1] at r1 r2 r3 r4 r5 r6
   obtain ⟨F,d2⟩:∃ y,L+z1=y:=⟨_,rfl⟩
   simp only [d2] at r4 r5 r6
   have e3:=hid (p:=(hi+hi) % 2 ^ 256=L) (by rw [d1]; exact r1)
   have n3:=hid r2
   have e4:=hid (p:=(((hi+hi) / 2 ^ 256:Nat):Int)=0) (by rw [d1]; exact div_zero_of r2)
   have ba:=hid r3
   have aN:=hid (p:=z1<2 ^ 256) (by rw [p256]; omega)
   have e5:=hid (p:=(L+z1) % 2 ^ 256=F) (by rw [d2]; exact r4)
   have n5:=hid r5
   have e6:=hid (p:=(((L+z1) / 2 ^ 256:Nat):Int)=0) (by rw [d2]; exact div_zero_of r5)
   have aQ:=hid r6
   have aT:=hid an
   have bd:=hid aK
   clear r1 r2 r3 r4 r5 r6 an aK d1 d2
   obtain ⟨⟨Z,Y,V,a3⟩,⟨K,J,I,G⟩,⟨D,f,O,M⟩,R,U⟩:=HS.out.1.cells
   go_wp2_with fail
   clear Z Y V a3 K J I G D f O M R U
   refine (sq_of (r2add_b lo lo E (z1:Int) _ HL.out HL.out e1.out (by rw [e2.out])) HS.out).mono ?_
   rintro e w1 ⟨rfl,aE⟩
   have aC:=hid aE
   clear aE HS
   obtain ⟨⟨Z,Y,V,a3⟩,⟨K,J,I,G⟩,⟨D,f,O,M⟩,R,U⟩:=aC.out.1.cells
   go_wp2_with fail
   clear Z Y V a3 K J I G D f O M R U
   have aS:=hid (aC.out.setLo E)
   clear aC
   change Calls _ _ _ (fil w1 gl E) _
   generalize fil w1 gl E=w2 at *
   refine (sq_of (r2add_b hi hi L 0 _ HH.out HH.out e3.out e4.out) aS.out).mono ?_
   rintro e w3 ⟨rfl,dN⟩
   have aB:=hid dN
   clear dN aS
   obtain ⟨⟨Z,Y,V,a3⟩,⟨K,J,I,G⟩,⟨D,f,O,M⟩,R,U⟩:=aB.out.1.cells
   go_upto_region 8 with fail
   clear Z Y V a3 K J I G D f O M R U
   have aA:=hid (aB.out.setHi L)
   clear aB
   change Code.wp _ _ _ _ (fil w3 gh L)
   generalize fil w3 gh L=w4 at *
   obtain ⟨⟨Z,Y,V,a3⟩,⟨K,J,I,G⟩,⟨D,f,O,M⟩,R,U⟩:=aA.out.1.cells
   go_cut [8] (fun s8 wx=>s8=.int .i64 (m:Int)∧Hid (Sq w ga gb g4 g5 gl gh a b E F wx))
   case first =>
    have hs:=aA.out.drew
    go_region_with (first | ((go_at_call 56); (with_reducible refine (sq_of (rof_any z1 _ ba.out) (by assumption)).mono ?_); rintro e wn ⟨rfl,hs⟩; obtain ⟨⟨Z,Y,V,a3⟩,⟨K,J,I,G⟩,⟨D,f,O,M⟩,R,U⟩:=hs.1.cells) | ((go_at_call 48); (with_reducible refine (sq_of (r2add_b L z1 F 0 _ n3.out aN.out e5.out e6.out) (by assumption)).mono ?_); rintro e wn ⟨rfl,hs⟩; obtain ⟨⟨Z,Y,V,a3⟩,⟨K,J,I,G⟩,⟨D,f,O,M⟩,R,U⟩:=hs.1.cells))
    all_goals
     go_wp2_with fail
     go_meet
     exact ⟨rfl,hid (hs.setHi F)⟩
   case rest =>
    obtain ⟨rfl,ap⟩:=hcut
    clear Z Y V a3 K J I G D f O M R U aA
    obtain ⟨b0,b1,b2,b3⟩:=ap.out.1.1.cell gb b (by simp)
    have aL:=bitAt_lt b m
    rcases (show aV b m=0∨aV b m=1 by omega) with z | z
    ·have ar:Hid ((bi b (m:Int):Int)=0):=hid (by unfold bi; rw [if_neg (by omega),Int.toNat_natCast,z]; rfl)
     have ay:=hid (p:=E+2 ^ 256 * F=a * (b / 2 ^ m)) (by have f:=aT.out; rw [z,Nat.mul_zero,Nat.add_zero] at f; rw [f]; exact aQ.out)
     clear aL z
     go_wp2_with fail
     refine (sq_of (rbit_any b (m:Int) _ HB.out) ap.out).mono ?_
     rintro e w6 ⟨rfl,ad⟩
     rw [ar.out]
     have ao:=hid ad
     clear ad b0 b1 b2 b3 ap
     go_wp2
     go_roundw
     case rel=>exact ⟨m,E,F,by omega,rfl,n1,n5,ay,ao⟩
     case measure=>simp [intOf]
    ·have ar:Hid ((bi b (m:Int):Int)=1):=hid (by unfold bi; rw [if_neg (by omega),Int.toNat_natCast,z]; rfl)
     have ax:a * (b / 2 ^ m)=2 * (a * (b / 2 ^ (m+1)))+a:=by have f:=aT.out; rw [z,Nat.mul_one] at f; exact f
     obtain ⟨r1,r2,r3,r4⟩:=add_round n1.out HA.out aQ.out (by rw [← ax]; exact bd.out)
     obtain ⟨ab,c1,n6⟩:∃ y,Hid ((E+a) % 2 ^ 256=y)∧Hid (y<2 ^ 256):=⟨_,hid rfl,hid (Nat.mod_lt _ (Nat.two_pow_pos 256))⟩
     obtain ⟨z2,c2⟩:∃ y,Hid ((E+a) / 2 ^ 256=y):=⟨_,hid rfl⟩
     simp only [c1.out,c2.out] at r1 r2 r3 r4
     obtain ⟨al,d3⟩:∃ y,F+z2=y:=⟨_,rfl⟩
     simp only [d3] at r2 r3 r4
     have aW:=hid r1
     have aM:=hid (p:=z2<2 ^ 256) (by rw [p256]; omega)
     have c3:=hid (p:=(F+z2) % 2 ^ 256=al) (by rw [d3]; exact r2)
     have c4:=hid (p:=(((F+z2) / 2 ^ 256:Nat):Int)=0) (by rw [d3]; exact div_zero_of r3)
     have n7:=hid r3
     have ay:=hid (p:=ab+2 ^ 256 * al=a * (b / 2 ^ m)) (by rw [ax]; exact r4)
     clear aL z ax r1 r2 r3 r4 d3
     go_wp2_with fail
     refine (sq_of (rbit_any b (m:Int) _ HB.out) ap.out).mono ?_
     rintro e w6 ⟨rfl,ad⟩
     rw [ar.out]
     have ao:=hid ad
     clear ad b0 b1 b2 b3 ap
     obtain ⟨⟨Z,Y,V,a3⟩,⟨K,J,I,G⟩,⟨D,f,O,M⟩,R,U⟩:=ao.out.1.cells
     go_wp2_with fail
     clear Z Y V a3 K J I G D f O M R U
     refine (sq_of (r2add_b E a ab (z2:Int) _ n1.out HA.out c1.out (by rw [c2.out])) ao.out).mono ?_
     rintro e w7 ⟨rfl,aJ⟩
     have az:=hid aJ
     clear aJ ao
     obtain ⟨⟨Z,Y,V,a3⟩,⟨K,J,I,G⟩,⟨D,f,O,M⟩,R,U⟩:=az.out.1.cells
     go_wp2_with fail
     clear Z Y V a3 K J I G D f O M R U
     have aR:=hid (az.out.setLo ab)
     clear az
     change Code.wp _ _ _ _ (fil w7 gl ab)
     generalize fil w7 gl ab=w8 at *
     obtain ⟨⟨Z,Y,V,a3⟩,⟨K,J,I,G⟩,⟨D,f,O,M⟩,R,U⟩:=aR.out.1.cells
     have hs:=aR.out.drew
     go_region_with (first | ((go_at_call 56); (with_reducible refine (sq_of (rof_any z2 _ aW.out) (by assumption)).mono ?_); rintro e wn ⟨rfl,hs⟩; obtain ⟨⟨Z,Y,V,a3⟩,⟨K,J,I,G⟩,⟨D,f,O,M⟩,R,U⟩:=hs.1.cells) | ((go_at_call 48); (with_reducible refine (sq_of (r2add_b F z2 al 0 _ n5.out aM.out c3.out c4.out) (by assumption)).mono ?_); rintro e wn ⟨rfl,hs⟩; obtain ⟨⟨Z,Y,V,a3⟩,⟨K,J,I,G⟩,⟨D,f,O,M⟩,R,U⟩:=hs.1.cells))
     all_goals
      have bb:=hid (hs.setHi al)
      clear Z Y V a3 K J I G D f O M R U
      go_wp2
      go_roundw
      case rel=>exact ⟨m,ab,al,by omega,rfl,n6,n7,ay,bb⟩
      case measure=>simp [intOf]
theorem zero_cls:(#[.int .u64 0,.int .u64 0,.int .u64 0,.int .u64 0]:Array Value)=ai 0:=by have:=dp; injection this
def LSm (w:World) (ga g4 x:Nat) (w':World):Prop:=Nm w' ga x∧Fr w' g4 (.int .u64 0) (.int .u64 0) (.int .u64 0) (.int .u64 0)∧Below w.heap.size w w'∧ga≠g4∧w.heap.size≤ga∧w.heap.size≤g4
section
variable {w w' w2:World} {ga g4 x:Nat}
theorem LSm.init (w:World) (x:Nat):LSm w w.heap.size (w.heap.size+1) x ((w.alloc (.cells (ai x) 24)).alloc (.cells #[.int .u64 0,.int .u64 0,.int .u64 0,.int .u64 0] 24)):=by
 refine ⟨(Nm.new w x).alloc _,?_,bal (bal (Below.refl _ _) _) _,by omega,by omega,by omega⟩
 have:=Fr.new (w.alloc (.cells (ai x) 24)) (.int .u64 0) (.int .u64 0) (.int .u64 0) (.int .u64 0)
 simpa using this
theorem LSm.on (h:LSm w ga g4 x w') (hb:Below w'.heap.size w' w2):LSm w ga g4 x w2:=⟨h.1.on hb,h.2.1.on hb,dM h.2.2.1 hb,h.2.2.2⟩
theorem LSm.set (h:LSm w ga g4 x w') (y:Nat):LSm w ga g4 y (fil w' ga y) :=
 ⟨fil_nm y h.1.fr,(((h.2.1.setOther _ (Ne.symm h.2.2.2.1)).setOther _ (Ne.symm h.2.2.2.1)).setOther _ (Ne.symm h.2.2.2.1)).setOther _ (Ne.symm h.2.2.2.1),dK y h.2.2.1 h.2.2.2.2.1,h.2.2.2⟩
end
def Sd (w:World) (ga g4 go x o:Nat) (w':World):Prop:=Nm w' ga x∧Fr w' g4 (.int .u64 0) (.int .u64 0) (.int .u64 0) (.int .u64 0)∧Nm w' go o∧Below w.heap.size w w'∧ga≠go∧g4≠go∧w.heap.size≤go∧w.heap.size≤g4
section
variable {w w' w2:World} {ga g4 go x o:Nat}
theorem Sd.init (w:World) (x:Nat):Sd w w.heap.size (w.heap.size+1) (w.heap.size+1+1) x 0 (((w.alloc (.cells (ai x) 24)).alloc (.cells #[.int .u64 0,.int .u64 0,.int .u64 0,.int .u64 0] 24)).alloc (.cells #[.int .u64 0,.int .u64 0,.int .u64 0,.int .u64 0] 24)):=by
 refine ⟨((Nm.new w x).alloc _).alloc _,?_,?_,bal (bal (bal (Below.refl _ _) _) _) _,by omega,by omega,by omega,by omega⟩
 ·have:=(Fr.new (w.alloc (.cells (ai x) 24)) (.int .u64 0) (.int .u64 0) (.int .u64 0) (.int .u64 0)).alloc (.cells #[.int .u64 0,.int .u64 0,.int .u64 0,.int .u64 0] 24)
  simpa using this
 ·rw [zero_cls]
  have:=Nm.new ((w.alloc (.cells (ai x) 24)).alloc (.cells (ai 0) 24)) 0
  simpa using this
theorem Sd.on (h:Sd w ga g4 go x o w') (hb:Below w'.heap.size w' w2):Sd w ga g4 go x o w2:=⟨h.1.on hb,h.2.1.on hb,h.2.2.1.on hb,dM h.2.2.2.1 hb,h.2.2.2.2⟩
theorem Sd.drew (h:Sd w ga g4 go x o w'):Sd w ga g4 go x o w'.drew:=⟨h.1,h.2.1,h.2.2.1,h.2.2.2.1.drew,h.2.2.2.2⟩
theorem Sd.set (h:Sd w ga g4 go x o w') (y:Nat):Sd w ga g4 go x y (fil w' go y) :=
 ⟨dJ y x h.1 h.2.2.2.2.1,(((h.2.1.setOther _ h.2.2.2.2.2.1).setOther _ h.2.2.2.2.2.1).setOther _ h.2.2.2.2.2.1).setOther _ h.2.2.2.2.2.1,fil_nm y h.2.2.1.fr,dK y h.2.2.2.1 h.2.2.2.2.2.2.1,h.2.2.2.2⟩
end
theorem dt (x y:Nat) (c:Int) (w:World) (z:x<2 ^ 256) (f:y<2 ^ 256) (hc:aD x y=c):Calls Tryz.prog 29 #[af x,af y] w fun e w2=>e=.returned (.int .i64 c)∧Below w.heap.size w w2:=by
 subst hc; exact rcmp_any x y w z f
def Cm (a b x y t:Nat):Prop:=x≠0∧x<2 ^ 256∧y<2 ^ 256∧Nat.gcd x y * 2 ^ t=Nat.gcd a b∧t<256
theorem Cm.both {a b x y t:Nat} (h:Cm a b x y t) (F:Nat.gcd a b<2 ^ 256) (L:y≠0) (U:x % 2=0) (R:y % 2=0):Cm a b (x / 2) (y / 2) (t+1)∧x / 2+y / 2<x+y:=by
 obtain ⟨V,M,D,G,O⟩:=h
 have K:x=2 * (x / 2):=by omega
 have J:y=2 * (y / 2):=by omega
 have z:Nat.gcd x y=2 * Nat.gcd (x / 2) (y / 2):=by
  have:=gcd_twice (x / 2) (y / 2)
  rwa [← K,← J] at this
 have f:Nat.gcd (x / 2) (y / 2) * 2 ^ (t+1)=Nat.gcd a b:=by rw [← G,z,Nat.pow_succ,Nat.mul_comm (2 ^ t) 2,← Nat.mul_assoc,Nat.mul_comm _ 2]
 have E:0<Nat.gcd (x / 2) (y / 2):=Nat.gcd_pos_of_pos_left _ (by omega)
 refine ⟨⟨by omega,by omega,by omega,f,?_⟩,by omega⟩
 have I:2 ^ (t+1)≤Nat.gcd (x / 2) (y / 2) * 2 ^ (t+1):=Nat.le_mul_of_pos_left _ E
 exact (Nat.pow_lt_pow_iff_right (a:=2) (by decide)).1 (Nat.lt_of_le_of_lt (by rw [← f]; exact I) F)
theorem Cm.one {a b x y t:Nat} (h:Cm a b x y t) (J:x % 2=0) (F:y % 2=1):Cm a b (x / 2) y t∧x / 2+y<x+y:=by
 obtain ⟨K,I,f,E,D⟩:=h
 have G:x=2 * (x / 2):=by omega
 have z:Nat.gcd x y=Nat.gcd (x / 2) y:=by
  have:=gcd_odd (a:=x / 2) F
  rwa [← G] at this
 exact ⟨⟨by omega,by omega,f,by rw [← z]; exact E,D⟩,by omega⟩
theorem Cm.two {a b x y t:Nat} (h:Cm a b x y t) (K:y≠0) (G:x % 2=1) (L:y % 2=0):Cm a b x (y / 2) t∧x+y / 2<x+y:=by
 obtain ⟨I,D,z,F,E⟩:=h
 have J:y=2 * (y / 2):=by omega
 have f:Nat.gcd x y=Nat.gcd x (y / 2):=by
  have:=gcd_odd' (b:=y / 2) G
  rwa [← J] at this
 exact ⟨⟨I,D,by omega,by rw [← f]; exact F,E⟩,by omega⟩
theorem Cm.more {a b x y t:Nat} (h:Cm a b x y t) (E:y≠0) (G:y<x):Cm a b (x - y) y t∧x - y+y<x+y:=by
 obtain ⟨I,F,f,D,z⟩:=h
 exact ⟨⟨by omega,by omega,f,by rw [gcd_less (by omega)]; exact D,z⟩,by omega⟩
theorem Cm.less {a b x y t:Nat} (h:Cm a b x y t) (F:x≤y):Cm a b x (y - x) t∧x+(y - x)<x+y:=by
 obtain ⟨G,z,f,E,D⟩:=h
 exact ⟨⟨G,z,by omega,by rw [gcd_less' F]; exact E,D⟩,by omega⟩
end
end Go.Proofs.YtmapkbdjnnionaaGreatDoor
