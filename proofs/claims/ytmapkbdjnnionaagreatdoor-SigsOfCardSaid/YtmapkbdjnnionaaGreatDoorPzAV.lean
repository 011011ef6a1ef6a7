import Derived.Test.YtmapkbdjnnionaaGreatDoorPzAS
import Derived.Test.YtmapkbdjnnionaaGreatDoorPzAU
set_option maxRecDepth 100000
set_option maxHeartbeats 8000000
set_option linter.all false
namespace Go.Proofs.YtmapkbdjnnionaaGreatDoor
section
open Go.RowKit
abbrev aY (p q g:Nat):Array Value:=#[.int .u64 (wd p 0:Int),.int .u64 (wd p 1:Int),.int .u64 (wd p 2:Int),.int .u64 (wd p 3:Int),.int .u64 (wd q 0:Int),.int .u64 (wd q 1:Int),.int .u64 (wd q 2:Int),.int .u64 (wd q 3:Int),.int .u64 (wd g 0:Int),.int .u64 (wd g 1:Int),.int .u64 (wd g 2:Int),.int .u64 (wd g 3:Int)]
abbrev gv (p q g:Nat):Value:=.agg (aY p q g)
def Gm (w:World) (b t p q g:Nat):Prop:=w.heap[b]?=some (.cells (aY p q g) t (0,0))
theorem Gm.lt {w:World} {b t p q g:Nat} (h:Gm w b t p q g):b<w.heap.size:=lt_of_block h
theorem Gm.on {w w':World} {b t p q g:Nat} (h:Gm w b t p q g) (hb:Below w.heap.size w w'):Gm w' b t p q g:=(hb.block b h.lt).trans h
theorem Gm.alloc {w:World} {b t p q g:Nat} (h:Gm w b t p q g) (o:Obj):Gm (w.alloc o) b t p q g:=h.on ((Below.refl w.heap.size w).alloc (Nat.le_refl _) o)
theorem Gm.new (w:World) (t p q g:Nat):Gm (w.alloc (.cells (aY p q g) t)) w.heap.size t p q g:=heap_alloc_new _ _
theorem Gm.p {w:World} {b t p q g:Nat} (h:Gm w b t p q g):w.cell? ⟨b,0,none⟩=some (.int .u64 (wd p 0:Int))∧w.cell? ⟨b,1,none⟩=some (.int .u64 (wd p 1:Int))∧w.cell? ⟨b,2,none⟩=some (.int .u64 (wd p 2:Int))∧w.cell? ⟨b,3,none⟩=some (.int .u64 (wd p 3:Int)):=by
 refine ⟨?_,?_,?_,?_⟩ <;> (rw [cell_of_row w b _ _ t (0,0) h]; rfl)
theorem Gm.q {w:World} {b t p q g:Nat} (h:Gm w b t p q g):w.cell? ⟨b,4,none⟩=some (.int .u64 (wd q 0:Int))∧w.cell? ⟨b,5,none⟩=some (.int .u64 (wd q 1:Int))∧w.cell? ⟨b,6,none⟩=some (.int .u64 (wd q 2:Int))∧w.cell? ⟨b,7,none⟩=some (.int .u64 (wd q 3:Int)):=by
 refine ⟨?_,?_,?_,?_⟩ <;> (rw [cell_of_row w b _ _ t (0,0) h]; rfl)
theorem Gm.g {w:World} {b t p q g:Nat} (h:Gm w b t p q g):w.cell? ⟨b,8,none⟩=some (.int .u64 (wd g 0:Int))∧w.cell? ⟨b,9,none⟩=some (.int .u64 (wd g 1:Int))∧w.cell? ⟨b,10,none⟩=some (.int .u64 (wd g 2:Int))∧w.cell? ⟨b,11,none⟩=some (.int .u64 (wd g 3:Int)):=by
 refine ⟨?_,?_,?_,?_⟩ <;> (rw [cell_of_row w b _ _ t (0,0) h]; rfl)
theorem Gm.setOther {w:World} {b t p q g g' j:Nat} (h:Gm w b t p q g) (v:Value) (f:b≠g'):Gm (w.setCell ⟨g',j,none⟩ v) b t p q g :=
 (Below.heap_setCell w ⟨g',j,none⟩ v b f).trans h
theorem Gm.fil {w:World} {b t p q g g':Nat} (h:Gm w b t p q g) (x:Nat) (f:b≠g'):Gm (fil w g' x) b t p q g :=
 (((h.setOther _ f).setOther _ f).setOther _ f).setOther _ f
def Eg (w:World) (b t p q g:Nat) (l:List (Nat×Nat)) (w':World):Prop:=ae w l w'∧Gm w' b t p q g
section
variable {w w' w2:World} {b t p q g:Nat} {l:List (Nat×Nat)}
theorem Eg.on (h:Eg w b t p q g l w') (hb:Below w'.heap.size w' w2):Eg w b t p q g l w2:=⟨h.1.on hb,h.2.on hb⟩
theorem Eg.drew (h:Eg w b t p q g l w'):Eg w b t p q g l w'.drew:=⟨h.1.drew,h.2⟩
theorem Eg.new (h:Eg w b t p q g l w') (x:Nat):Eg w b t p q g ((w'.heap.size,x) :: l) (w'.alloc (.cells (ai x) 24)):=⟨h.1.new x,h.2.alloc _⟩
theorem Eg.new2 (h:Eg w b t p q g l w') (x y:Nat):Eg w b t p q g ((w'.heap.size+1,y) :: (w'.heap.size,x) :: l) ((w'.alloc (.cells (ai x) 24)).alloc (.cells (ai y) 24)):=⟨h.1.new2 x y,(h.2.alloc _).alloc _⟩
theorem Eg.zero (h:Eg w b t p q g l w'):Eg w b t p q g ((w'.heap.size,0) :: l) (w'.alloc (.cells #[.int .u64 0,.int .u64 0,.int .u64 0,.int .u64 0] 24)):=⟨h.1.zero,h.2.alloc _⟩
theorem Eg.cell (h:Eg w b t p q g l w') (a x:Nat) (f:(a,x)∈l):w'.cell? ⟨a,0,none⟩=some (.int .u64 (wd x 0:Int))∧w'.cell? ⟨a,1,none⟩=some (.int .u64 (wd x 1:Int))∧w'.cell? ⟨a,2,none⟩=some (.int .u64 (wd x 2:Int))∧w'.cell? ⟨a,3,none⟩=some (.int .u64 (wd x 3:Int)):=h.1.cell a x f
theorem Eg.lt (h:Eg w b t p q g l w') (a x:Nat) (f:(a,x)∈l):a<w'.heap.size:=h.1.lt a x f
theorem Eg.frozen (h:Eg w b t p q g l w') (a x:Nat) (f:(a,x)∈l) (i:Nat):w'.frozen? ⟨a,i,none⟩=false:=h.1.frozen a x f i
theorem Eg.perm {l':List (Nat×Nat)} (h:Eg w b t p q g l w') (f:∀ p∈l',p∈l):Eg w b t p q g l' w':=⟨h.1.perm f,h.2⟩
theorem Eg.gp (h:Eg w b t p q g l w'):w'.cell? ⟨b,0,none⟩=some (.int .u64 (wd p 0:Int))∧w'.cell? ⟨b,1,none⟩=some (.int .u64 (wd p 1:Int))∧w'.cell? ⟨b,2,none⟩=some (.int .u64 (wd p 2:Int))∧w'.cell? ⟨b,3,none⟩=some (.int .u64 (wd p 3:Int)):=h.2.p
theorem Eg.gq (h:Eg w b t p q g l w'):w'.cell? ⟨b,4,none⟩=some (.int .u64 (wd q 0:Int))∧w'.cell? ⟨b,5,none⟩=some (.int .u64 (wd q 1:Int))∧w'.cell? ⟨b,6,none⟩=some (.int .u64 (wd q 2:Int))∧w'.cell? ⟨b,7,none⟩=some (.int .u64 (wd q 3:Int)):=h.2.q
theorem Eg.gg (h:Eg w b t p q g l w'):w'.cell? ⟨b,8,none⟩=some (.int .u64 (wd g 0:Int))∧w'.cell? ⟨b,9,none⟩=some (.int .u64 (wd g 1:Int))∧w'.cell? ⟨b,10,none⟩=some (.int .u64 (wd g 2:Int))∧w'.cell? ⟨b,11,none⟩=some (.int .u64 (wd g 3:Int)):=h.2.g
theorem Eg.gl (h:Eg w b t p q g l w'):b<w'.heap.size:=h.2.lt
theorem Eg.set (h:Eg w b t p q g l w') (a x y:Nat) (l':List (Nat×Nat)) (f:(a,x)∈l) (D:w.heap.size≤a) (z:∀ p∈l',p∈l∧p.1≠a) (hb:b≠a):Eg w b t p q g ((a,y) :: l') (fil w' a y):=⟨h.1.set a x y l' f D z,h.2.fil y hb⟩
theorem bc {f:FuncId} {z:Array Value} {v:Value} (hc:Calls Tryz.prog f z w' fun e w2=>e=.returned v∧Below w'.heap.size w' w2) (h:Eg w b t p q g l w'):Calls Tryz.prog f z w' fun e w2=>e=.returned v∧Eg w b t p q g l w2 :=
 hc.mono fun e w2 ⟨he,hb⟩=>⟨he,h.on hb⟩
theorem dL {f:FuncId} {z:Array Value} {v:Value} (hc:Calls Tryz.prog f z w' fun e w2=>e=.returned v∧ae w' [] w2) (h:Eg w b t p q g l w'):Calls Tryz.prog f z w' fun e w2=>e=.returned v∧Eg w b t p q g l w2 :=
 hc.mono fun e w2 ⟨he,hb⟩=>⟨he,h.on hb.1⟩
theorem Eg.of {f:World} (h:ae w l f) (x y z t:Nat):Eg w f.heap.size t x y z l (f.alloc (.cells (aY x y z) t)):=⟨⟨bal h.1 _,fun p D=>(h.2 p D).alloc _⟩,Gm.new _ _ _ _ _⟩
end
theorem may_zero (p q g a:Nat) (w:World) (E:p<2 ^ 256) (F:a<2 ^ 256) (G:a=0):Calls Tryz.prog 37 #[gv p q g,af a] w fun e w'=>e=.returned (.bool false)∧Below w.heap.size w w':=by
 have Y:=hid F
 have Z:=hid E
 have V:Hid ((aq a:Int)=0):=hid (by rw [G]; rfl)
 have n1:¬ (0:Int) > 0:=by omega
 clear F E G
 have z:=hid ((((Eg.of (ae.refl w) p q g 26)).new a).perm (l':=[(w.heap.size+1,a)]) (by simp))
 go_enter Tryz.func37,Tryz.ntmps37
 go_wp2_with fail
 generalize (w.alloc (.cells (aY p q g) 26)).alloc (.cells (ai a) 24)=w0 at *
 generalize w.heap.size+1=f at *
 generalize D:w.heap.size=J at *
 obtain ⟨K,L,M,O⟩:=z.out.cell (f) (a) (by simp)
 have I:=z.out.lt (f) (a) (by simp)
 have R:=Nat.le_of_lt I
 go_wp2_with fail
 clear K L M O I R
 refine (dL (b8 a 0 (ae.refl _) Y.out V.out) z.out).mono ?_
 rintro e w1 ⟨rfl,h⟩
 have U:=hid h
 clear h z
 go_wp2
 go_ret
 exact ⟨rfl,U.out.1.1⟩
theorem may_some (p q g a:Nat) (w:World) (I:p<2 ^ 256) (K:a<2 ^ 256) (U:a≠0):Calls Tryz.prog 37 #[gv p q g,af a] w fun e w'=>e=.returned (.bool (decide (a<p)))∧Below w.heap.size w w':=by
 have R:=hid K
 have PL:=hid I
 obtain ⟨n,F⟩:∃ n,aq a=n:=⟨_,rfl⟩
 have J:0<n:=by rw [← F]; exact cL a (by omega)
 have EN:=hid (show (aq a:Int)=(n:Int) by rw [F])
 have n1:(n:Int) > 0:=by omega
 have n2:0<n:=J
 obtain ⟨c,G⟩:∃ c,aD a p=c:=⟨_,rfl⟩
 have hc:(c<0)↔a<p:=by rw [← G]; unfold aD; split <;> (try split) <;> omega
 have EC:=hid G
 have HC:=hid hc
 clear K I U F J G hc
 have D:=hid ((((Eg.of (ae.refl w) p q g 26)).new a).perm (l':=[(w.heap.size+1,a)]) (by simp))
 go_enter Tryz.func37,Tryz.ntmps37
 go_wp2_with fail
 generalize (w.alloc (.cells (aY p q g) 26)).alloc (.cells (ai a) 24)=w0 at *
 generalize w.heap.size+1=f at *
 generalize E:w.heap.size=V at *
 obtain ⟨aN,aM,aL,aK⟩:=D.out.cell (f) (a) (by simp)
 have O:=D.out.lt (f) (a) (by simp)
 have aJ:=Nat.le_of_lt O
 go_wp2_with fail
 clear aN aM aL aK O aJ
 refine (dL (b8 a (n:Int) (ae.refl _) R.out EN.out) D.out).mono ?_
 rintro e w1 ⟨rfl,h⟩
 have z:=hid h
 clear h D
 obtain ⟨aU,aT,aS,aR⟩:=z.out.cell (f) (a) (by simp)
 have M:=z.out.lt (f) (a) (by simp)
 have aQ:=Nat.le_of_lt M
 obtain ⟨dB,dA,Y,Z⟩:=z.out.gp
 have L:=z.out.gl
 have dC:=Nat.le_of_lt L
 go_wp2_with fail
 clear aU aT aS aR M aQ dB dA Y Z L dC
 refine (dL (cmp_at a p c (ae.refl _) R.out PL.out EC.out) z.out).mono ?_
 rintro e w2 ⟨rfl,h⟩
 have H2:=hid h
 clear h z
 go_wp2
 exact bodyPost_ret (v:=.bool (decide (c<0))) (by simp [results,Tryz.results37,go_sem]) rfl ⟨by rw [show decide (c<0)=decide (a<p) from decide_eq_decide.2 HC.out],H2.out.1.1⟩
theorem may_any (p q g a:Nat) (v:Bool) (w:World) (z:p<2 ^ 256) (D:a<2 ^ 256) (E:decide (0<a∧a<p)=v):Calls Tryz.prog 37 #[gv p q g,af a] w fun e w'=>e=.returned (.bool v)∧Below w.heap.size w w':=by
 subst E
 by_cases f:a=0
 ·rw [show decide (0<a∧a<p)=false by simp [f]]; exact may_zero p q g a w z D f
 ·rw [show decide (0<a∧a<p)=decide (a<p) from decide_eq_decide.2 (by omega)]; exact may_some p q g a w z D f
theorem sz1 (w:World) (o:Obj):(w.alloc o).heap.size=w.heap.size+1:=Array.size_push _
theorem boxes2 (w:World) (a b:Array Value) (f z:TypeId):Below w.heap.size w ((w.alloc (.cells a f)).alloc (.cells b z))∧((w.alloc (.cells a f)).alloc (.cells b z)).heap.size=w.heap.size+1+1∧
  ((w.alloc (.cells a f)).alloc (.cells b z)).heap[w.heap.size]?=some (.cells a f (0,0))∧((w.alloc (.cells a f)).alloc (.cells b z)).heap[w.heap.size+1]?=some (.cells b z (0,0)):=by
 have E:=(Below.refl w.heap.size w).alloc (Nat.le_refl _) (.cells a f)
 have D:=E.alloc (by rw [sz1]; omega) (.cells b z)
 refine ⟨D,by rw [sz1,sz1],?_,?_⟩
 ·exact (Below.heap_alloc (w.alloc (.cells a f)) _ _ (by rw [sz1]; omega)).trans (heap_alloc_new w _)
 ·have:=heap_alloc_new (w.alloc (.cells a f)) (.cells b z)
  rw [sz1] at this; exact this
theorem boxes3 (w:World) (a b c:Array Value) (z f D:TypeId) (W:World) (F:((w.alloc (.cells a z)).alloc (.cells b f)).alloc (.cells c D)=W):Below w.heap.size w W∧W.heap.size=w.heap.size+1+1+1∧
  W.heap[w.heap.size]?=some (.cells a z (0,0))∧W.heap[w.heap.size+1]?=some (.cells b f (0,0))∧W.heap[w.heap.size+1+1]?=some (.cells c D (0,0)):=by
 obtain ⟨J,E,I,G⟩:=boxes2 w a b z f
 subst F
 generalize (w.alloc (.cells a z)).alloc (.cells b f)=u at *
 refine ⟨J.alloc (by omega) _,by rw [sz1,E],?_,?_,?_⟩
 ·exact (Below.heap_alloc u _ _ (by omega)).trans I
 ·exact (Below.heap_alloc u _ _ (by omega)).trans G
 ·have:=heap_alloc_new u (.cells c D)
  rw [E] at this; exact this
theorem boxes4 (w:World) (a b c d:Array Value) (D z f E:TypeId) (W:World) (G:(((w.alloc (.cells a D)).alloc (.cells b z)).alloc (.cells c f)).alloc (.cells d E)=W):Below w.heap.size w W∧W.heap.size=w.heap.size+1+1+1+1∧
  W.heap[w.heap.size]?=some (.cells a D (0,0))∧W.heap[w.heap.size+1]?=some (.cells b z (0,0))∧W.heap[w.heap.size+1+1]?=some (.cells c f (0,0))∧W.heap[w.heap.size+1+1+1]?=some (.cells d E (0,0)):=by
 obtain ⟨L,F,K,J,I⟩:=boxes3 w a b c D z f _ rfl
 subst G
 generalize ((w.alloc (.cells a D)).alloc (.cells b z)).alloc (.cells c f)=u at *
 refine ⟨L.alloc (by omega) _,by rw [sz1,F],?_,?_,?_,?_⟩
 ·exact (Below.heap_alloc u _ _ (by omega)).trans K
 ·exact (Below.heap_alloc u _ _ (by omega)).trans J
 ·exact (Below.heap_alloc u _ _ (by omega)).trans I
 ·have:=heap_alloc_new u (.cells d E)
  rw [F] at this; exact this
theorem Eg.base {W:World} {b t p q g:Nat} (h:Gm W b t p q g):Eg W b t p q g [] W:=⟨ae.refl W,h⟩
theorem Eg.hav {w w':World} {b t p q g:Nat} {l:List (Nat×Nat)} (h:Eg w b t p q g l w') {a x:Nat} (z:Nm w' a x):Eg w b t p q g ((a,x) :: l) w' :=
 ⟨⟨h.1.1,fun p f=>by rcases List.mem_cons.1 f with rfl | f; exact z; exact h.1.2 p f⟩,h.2⟩
theorem Eg.old {w w':World} {b t p q g:Nat} {l:List (Nat×Nat)} (h:Eg w b t p q g l w'):Below w.heap.size w w':=h.1.1
theorem Eg.nm {w w':World} {b t p q g:Nat} {l:List (Nat×Nat)} (h:Eg w b t p q g l w') (a x:Nat) (f:(a,x)∈l):Nm w' a x:=h.1.2 (a,x) f
theorem wd_one {p:Nat} (h:p<18446744073709551616):wd p 0=p:=by
 unfold wd; rw [Nat.pow_zero,Nat.div_one,Nat.mod_eq_of_lt h]
theorem mul64_b (x y h l:Nat) (w:World) (z:x<18446744073709551616) (f:y<18446744073709551616) (E:x * y / 18446744073709551616=h) (D:x * y % 18446744073709551616=l):Calls Tryz.prog 73 #[.int .u64 (x:Int),.int .u64 (y:Int)] w fun e w'=>e=.returned (.tuple #[.int .u64 (h:Int),.int .u64 (l:Int)])∧Below w.heap.size w w' :=
 (mul64_any x y h l w z f E D).mono fun e w' ⟨he,hw⟩=>⟨he,by rw [hw]; exact Below.refl _ _⟩
theorem times_any (p q g a b r:Nat) (w:World) (D:0<p) (U:p<18446744073709551616) (L:a<18446744073709551616) (hb:b<18446744073709551616) (R:a * b % p=r):Calls Tryz.prog 78 #[gv p q g,.int .u64 (a:Int),.int .u64 (b:Int)] w fun e w'=>e=.returned (.int .u64 (r:Int))∧Below w.heap.size w w':=by
 have M:wd p 0=p:=wd_one U
 obtain ⟨hi,J⟩:∃ z,a * b / 18446744073709551616=z:=⟨_,rfl⟩
 obtain ⟨lo,I⟩:∃ z,a * b % 18446744073709551616=z:=⟨_,rfl⟩
 have E:lo<18446744073709551616:=by rw [← I]; exact Nat.mod_lt _ (by decide)
 have F:hi<18446744073709551616:=by rw [← J]; exact Nat.div_lt_of_lt_mul (Nat.mul_lt_mul'' L hb)
 have G:hi * 18446744073709551616+lo=a * b:=by rw [← J,← I,Nat.mul_comm]; exact Nat.div_add_mod _ _
 have f:(hi * 18446744073709551616+lo) % wd p 0=r:=by rw [G,M,R]
 have O:0<wd p 0:=by rw [M]; exact D
 have AL:=hid L
 have BL:=hid hb
 have EH:=hid J
 have EL:=hid I
 have LL:=hid E
 have HL:=hid F
 have HR:=hid f
 have P2:=hid O
 clear U D L hb R M J I E F G f O
 have Y:=hid (Eg.of (ae.refl w) p q g 58)
 go_enter Tryz.func78,Tryz.ntmps78
 go_upto_region 1 with fail
 generalize w.alloc (.cells (aY p q g) 58)=w0 at *
 go_wp2_with fail
 refine (bc (mul64_b a b hi lo _ AL.out BL.out EH.out EL.out) Y.out).mono ?_
 rintro e w1 ⟨rfl,h⟩
 have K:=hid h
 clear h Y
 obtain ⟨dB,dA,Z,dy⟩:=K.out.gp
 have V:=K.out.gl
 have dC:=Nat.le_of_lt V
 go_wp2_with fail
 clear dB dA Z dy V dC
 refine (bc (rem64_any hi lo (wd p 0) r _ HL.out LL.out P2.out (aO p 0) HR.out) K.out).mono ?_
 rintro e w2 ⟨rfl,h⟩
 have H2:=hid h
 clear h K
 go_wp2
 exact bodyPost_ret (v:=.int .u64 (r:Int)) (by simp [results,Tryz.results78,go_sem]) rfl ⟨rfl,H2.out.1.1⟩
theorem short_any (p q g a n:Nat) (w:World) (hp:p<18446744073709551616) (al:1<p) (ha:a<p) (hn:n<2 ^ 256):Calls Tryz.prog 53 #[gv p q g,af a,af n] w fun e w'=>e=.returned (af (a ^ n % p))∧Below w.heap.size w w':=by
 have e0:wd a 0=a:=wd_one (by omega)
 have dm:=cK n 256 hn
 have R:=pow_first a n
 obtain ⟨c,ec⟩:∃ c,aq n=c:=⟨_,rfl⟩
 rw [ec] at dm R
 have EC:=hid (show (aq n:Int)=(c:Int) by rw [ec])
 have PL:=hid hp
 have P1:=hid al
 have AP:=hid ha
 have NL:=hid hn
 have bz:=hid R
 have E0:=hid e0
 clear hp al ha hn ec R e0
 have H0:=hid ((((((Eg.of (ae.refl w) p q g 58)).new a).new n).zero).perm (l':=[(w.heap.size+1+1+1,0),(w.heap.size+1+1,n),(w.heap.size+1,a)]) (by simp))
 have DZ:=hid (show w.heap.size≤w.heap.size+1+1+1∧w.heap.size≠w.heap.size+1+1+1 by omega)
 go_enter Tryz.func53,Tryz.ntmps53
 go_wp2_with fail
 generalize (((w.alloc (.cells (aY p q g) 58)).alloc (.cells (ai a) 24)).alloc (.cells (ai n) 24)).alloc (.cells #[.int .u64 0,.int .u64 0,.int .u64 0,.int .u64 0] 24)=w0 at *
 generalize w.heap.size+1+1+1=f at *
 generalize w.heap.size+1+1=D at *
 generalize w.heap.size+1=U at *
 generalize O:w.heap.size=bx at *
 obtain ⟨aN,aM,aL,aK⟩:=H0.out.cell (D) (n) (by simp)
 have ax:=H0.out.lt (D) (n) (by simp)
 have aJ:=Nat.le_of_lt ax
 go_wp2_with fail
 clear aN aM aL aK ax aJ
 refine (dL (b8 n (c:Int) (ae.refl _) NL.out EC.out) H0.out).mono ?_
 rintro e w1 ⟨rfl,h⟩
 have H1:=hid h
 clear h H0
 go_wp2_with fail
 go_loopw [7,13] (fun s7 s13 wr=>∃ i k r:Nat,i+k=c∧s13=.int .i64 (i:Int)∧s7=.int .u64 (r:Int)∧Hid (r=a ^ (n / 2 ^ k) % p)∧Hid (Eg w bx 58 p q g [(f,0),(D,n),(U,a)] wr)) (fun _ s _=>c - (intOf s).toNat)
 case atStart=>exact ⟨0,c,1,by omega,rfl,rfl,hid (show 1=a ^ (n / 2 ^ c) % p by rw [bz.out,Nat.mod_eq_of_lt P1.out]),H1⟩
 case round =>
  obtain ⟨i,k,r,hk,rfl,rfl,P,H⟩:=hrel
  clear H1
  have RL:=hid (show r<p by rw [P.out]; exact Nat.mod_lt _ (by have:=P1.out; omega))
  by_cases h0:k=0
  ·subst h0
   have bA:¬ ((i:Int)<(c:Int)):=by omega
   have PE:=hid (show r=a ^ n % p by have:=P.out; rwa [Nat.pow_zero,Nat.div_one] at this)
   have R2:=hid (show r<18446744073709551616 by have:=RL.out; have:=PL.out; omega)
   go_wp2_with fail
   refine (bc (lof_any r _ R2.out) H.out).mono ?_
   rintro e w6 ⟨rfl,h⟩
   have H6:=hid h
   clear h H
   obtain ⟨z0,z1,z2,z3⟩:=H6.out.cell f 0 (by simp)
   have zl:=H6.out.lt f 0 (by simp)
   have zf:=H6.out.frozen f 0 (by simp)
   have HZ:=hid (H6.out.1.set f 0 (r) [] (by simp) (by rw [O]; exact DZ.out.1) (by simp))
   go_wp2
   clear z0 z1 z2 z3 zl zf
   try rw [Exit.noGoto_ret]
   change bodyPost _ _ _ _ _ (fil w6 f (r))
   generalize fil w6 f (r)=wz at *
   obtain ⟨k0,k1,k2,k3⟩:=HZ.out.cell f (r) (by simp)
   exact bodyPost_ret (v:=af (r)) (by simp [results,Tryz.results53,go_sem,k0,k1,k2,k3]) rfl ⟨by rw [← PE.out],HZ.out.1⟩
  ·obtain ⟨j,rfl⟩:∃ j,k=j+1:=⟨k - 1,by omega⟩
   clear h0
   have A1:IntKind.i64.wrap ((c:Int) - 1)=(c:Int) - 1:=IntWalk.i64_in _ (by omega)
   have A2:IntKind.i64.wrap ((c:Int) - 1 - (i:Int))=(j:Int):=by rw [IntWalk.i64_in _ (by omega)]; omega
   have bG:(i:Int)<(c:Int):=by omega
   obtain ⟨t,et⟩:∃ x,r * r % p=x:=⟨_,rfl⟩
   have Et:=hid et
   clear et
   obtain ⟨u,eu⟩:∃ x,r * r % p * a % p=x:=⟨_,rfl⟩
   have Eu:=hid eu
   clear eu
   have R2:=hid (show r<18446744073709551616 by have:=RL.out; have:=PL.out; omega)
   have P0:=hid (show 0<p by have:=P1.out; omega)
   have TL:=hid (show t<18446744073709551616 by rw [← Et.out]; exact Nat.lt_trans (Nat.mod_lt _ P0.out) PL.out)
   have AW:=hid (show wd a 0<18446744073709551616 from aO a 0)
   have EU:=hid (show t * wd a 0 % p=u by rw [← Eu.out,Et.out,E0.out])
   have S0:=hid (show aV n j=0→t=a ^ (n / 2 ^ j) % p from fun hb=>by rw [← Et.out,P.out,exp_step0 hb])
   have S1:=hid (show aV n j=1→u=a ^ (n / 2 ^ j) % p from fun hb=>by rw [← Eu.out,P.out,exp_step1 hb])
   have JB:=hid (show (j:Int)≤9223372036854775807 by omega)
   have hb:=bitAt_lt n j
   obtain ⟨b,eb⟩:∃ b,aV n j=b:=⟨_,rfl⟩
   have bu:Hid ((bi n (j:Int):Int)=(b:Int)):=hid (by unfold bi; rw [if_neg (by omega),Int.toNat_natCast,eb])
   rw [eb] at hb
   have EB:=hid eb
   clear eb
   obtain ⟨aU,aT,aS,aR⟩:=H.out.gp
   obtain ⟨aC,aB,aA,az⟩:=H.out.gq
   obtain ⟨bq,bp,bo,bn⟩:=H.out.gg
   have M:=H.out.gl
   have bm:=Nat.le_of_lt M
   go_wp2_with fail
   clear aU aT aS aR aC aB aA az bq bp bo bn M bm
   refine (bc (times_any p q g r r t _ P0.out PL.out R2.out R2.out Et.out) H.out).mono ?_
   rintro e w7 ⟨rfl,h⟩
   have H7:=hid h
   clear h H
   obtain ⟨ad,ab,Z,Y⟩:=H7.out.cell (D) (n) (by simp)
   have E:=H7.out.lt (D) (n) (by simp)
   have V:=Nat.le_of_lt E
   go_wp2_with fail
   clear ad ab Z Y E V
   refine (dL (bit_at n (j:Int) (b:Int) (ae.refl _) NL.out (by omega) JB.out bu.out) H7.out).mono ?_
   rintro e w8 ⟨rfl,h⟩
   have H8:=hid h
   clear h H7
   by_cases an:b=1
   ·subst an
    obtain ⟨aQ,aI,aG,aE⟩:=H8.out.gp
    obtain ⟨ay,ar,ap,ao⟩:=H8.out.gq
    obtain ⟨bk,bd,bb,ba⟩:=H8.out.gg
    have L:=H8.out.gl
    have aW:=Nat.le_of_lt L
    obtain ⟨K,J,I,G⟩:=H8.out.cell (U) (a) (by simp)
    have z:=H8.out.lt (U) (a) (by simp)
    have F:=Nat.le_of_lt z
    go_wp2_with fail
    clear aQ aI aG aE ay ar ap ao bk bd bb ba L aW K J I G z F
    refine (bc (times_any p q g t (wd a 0) u _ P0.out PL.out TL.out AW.out EU.out) H8.out).mono ?_
    rintro e w9 ⟨rfl,h⟩
    have H9:=hid h
    clear h H8
    go_wp2_with fail
    go_roundw
    case measure=>simp [intOf]; omega
    case rel=>exact ⟨i+1,j,u,by omega,by simp,rfl,hid (S1.out EB.out),H9⟩
   ·have bv:b=0:=by omega
    subst bv
    clear an
    go_wp2_with fail
    go_roundw
    case measure=>simp [intOf]; omega
    case rel=>exact ⟨i+1,j,t,by omega,by simp,rfl,hid (S0.out EB.out),H8⟩
theorem long_any (p q g a n:Nat) (w:World) (K:p<2 ^ 256) (G:1<p) (M:a<p) (L:n<2 ^ 256):Calls Tryz.prog 54 #[gv p q g,af a,af n] w fun e w'=>e=.returned (af (a ^ n % p))∧Below w.heap.size w w':=by
 obtain ⟨r,O⟩:∃ r,a ^ n % p=r:=⟨_,rfl⟩
 have PL:=hid K
 have P1:=hid G
 have AP:=hid M
 have NL:=hid L
 have ER:=hid O
 clear K G M L O
 have D:=hid ((((((Eg.of (ae.refl w) p q g 58)).new a).new n).zero).perm (l':=[(w.heap.size+1+1+1,0),(w.heap.size+1+1,n),(w.heap.size+1,a)]) (by simp))
 have DZ:=hid (show w.heap.size≤w.heap.size+1+1+1∧w.heap.size≠w.heap.size+1+1+1 by omega)
 go_enter Tryz.func54,Tryz.ntmps54
 go_wp2_with fail
 generalize (((w.alloc (.cells (aY p q g) 58)).alloc (.cells (ai a) 24)).alloc (.cells (ai n) 24)).alloc (.cells #[.int .u64 0,.int .u64 0,.int .u64 0,.int .u64 0] 24)=w0 at *
 generalize w.heap.size+1+1+1=f at *
 generalize w.heap.size+1+1=I at *
 generalize w.heap.size+1=J at *
 generalize E:w.heap.size=ab at *
 obtain ⟨aN,aM,aL,aK⟩:=D.out.cell (J) (a) (by simp)
 have U:=D.out.lt (J) (a) (by simp)
 have aJ:=Nat.le_of_lt U
 obtain ⟨bZ,bX,bW,bV⟩:=D.out.cell (I) (n) (by simp)
 have R:=D.out.lt (I) (n) (by simp)
 have bU:=Nat.le_of_lt R
 obtain ⟨bQ,bP,bO,bN⟩:=D.out.gp
 have V:=D.out.gl
 have bR:=Nat.le_of_lt V
 go_wp2_with fail
 clear aN aM aL aK U aJ bZ bX bW bV R bU bQ bP bO bN V bR
 refine (dL (mexp_full_at a n p r (ae.refl _) NL.out PL.out P1.out AP.out ER.out) D.out).mono ?_
 rintro e w1 ⟨rfl,h⟩
 have Z:=hid h
 clear h D
 go_upto_region 2 with fail
 have z:=hid (Z.out.new r)
 clear Z
 generalize w1.alloc (.cells (ai r) 24)=F at *
 generalize w1.heap.size=g7 at *
 obtain ⟨aU,aT,aS,aR⟩:=z.out.cell (g7) (r) (by simp)
 have ay:=z.out.lt (g7) (r) (by simp)
 have aQ:=Nat.le_of_lt ay
 obtain ⟨z0,z1,z2,z3⟩:=z.out.cell f 0 (by simp)
 have zl:=z.out.lt f 0 (by simp)
 have zf:=z.out.frozen f 0 (by simp)
 have Y:=hid (z.out.1.set f 0 (r) [] (by simp) (by rw [E]; exact DZ.out.1) (by simp))
 go_wp2
 clear z0 z1 z2 z3 zl zf
 try rw [Exit.noGoto_ret]
 change bodyPost _ _ _ _ _ (fil F f (r))
 generalize fil F f (r)=wz at *
 obtain ⟨k0,k1,k2,k3⟩:=Y.out.cell f (r) (by simp)
 exact bodyPost_ret (v:=af (r)) (by simp [results,Tryz.results54,go_sem,k0,k1,k2,k3]) rfl ⟨by rw [ER.out],Y.out.1⟩
theorem way_short (p q g:Nat) (w:World) (R:p<2 ^ 256) (hc:aq p≤64):Calls Tryz.prog 38 #[gv p q g] w fun e w'=>e=.returned (.func (.func 53) #[gv p q g] #[])∧Below w.heap.size w w':=by
 have Z:∀ (U:Fn) (first K:Array Value) (w:World),(Instr.makeFunc U first K).run Tryz.prog w=.ok (.func U first K) w:=fun _ _ _ _=>rfl
 obtain ⟨c,O⟩:∃ c,aq p=c:=⟨_,rfl⟩
 rw [O] at hc
 have EC:=hid (show (aq p:Int)=(c:Int) by rw [O])
 have c1:(c:Int)≤64:=by omega
 have PL:=hid R
 clear R O hc
 have M:=hid (Eg.of (ae.refl w) p q g 58)
 go_enter Tryz.func38,Tryz.ntmps38
 go_upto_region 1 with fail
 generalize w.alloc (.cells (aY p q g) 58)=w0 at *
 obtain ⟨bQ,bP,bO,bN⟩:=M.out.gp
 have Y:=M.out.gl
 have bR:=Nat.le_of_lt Y
 go_wp2_with fail
 clear bQ bP bO bN Y bR
 refine (dL (b8 p (c:Int) (ae.refl _) PL.out EC.out) M.out).mono ?_
 rintro e w1 ⟨rfl,h⟩
 have L:=hid h
 clear h M
 obtain ⟨dB,dA,dz,dy⟩:=L.out.gp
 obtain ⟨E,D,z,f⟩:=L.out.gq
 obtain ⟨J,I,G,F⟩:=L.out.gg
 have V:=L.out.gl
 have dC:=Nat.le_of_lt V
 go_wp2
 clear dB dA dz dy E D z f J I G F V dC
 exact bodyPost_ret (v:=.func (.func 53) #[gv p q g] #[]) (by simp [results,Tryz.results38,go_sem]) rfl ⟨rfl,L.out.1.1⟩
theorem way_long (p q g:Nat) (w:World) (R:p<2 ^ 256) (hc:¬ aq p≤64):Calls Tryz.prog 38 #[gv p q g] w fun e w'=>e=.returned (.func (.func 54) #[gv p q g] #[])∧Below w.heap.size w w':=by
 have Z:∀ (U:Fn) (first K:Array Value) (w:World),(Instr.makeFunc U first K).run Tryz.prog w=.ok (.func U first K) w:=fun _ _ _ _=>rfl
 obtain ⟨c,O⟩:∃ c,aq p=c:=⟨_,rfl⟩
 rw [O] at hc
 have EC:=hid (show (aq p:Int)=(c:Int) by rw [O])
 have c1:¬ (c:Int)≤64:=by omega
 have PL:=hid R
 clear R O hc
 have M:=hid (Eg.of (ae.refl w) p q g 58)
 go_enter Tryz.func38,Tryz.ntmps38
 go_upto_region 1 with fail
 generalize w.alloc (.cells (aY p q g) 58)=w0 at *
 obtain ⟨bQ,bP,bO,bN⟩:=M.out.gp
 have Y:=M.out.gl
 have bR:=Nat.le_of_lt Y
 go_wp2_with fail
 clear bQ bP bO bN Y bR
 refine (dL (b8 p (c:Int) (ae.refl _) PL.out EC.out) M.out).mono ?_
 rintro e w1 ⟨rfl,h⟩
 have L:=hid h
 clear h M
 obtain ⟨dB,dA,dz,dy⟩:=L.out.gp
 obtain ⟨E,D,z,f⟩:=L.out.gq
 obtain ⟨J,I,G,F⟩:=L.out.gg
 have V:=L.out.gl
 have dC:=Nat.le_of_lt V
 go_wp2
 clear dB dA dz dy E D z f J I G F V dC
 exact bodyPost_ret (v:=.func (.func 54) #[gv p q g] #[]) (by simp [results,Tryz.results38,go_sem]) rfl ⟨rfl,L.out.1.1⟩
theorem gexp_short (p q g a n:Nat) (w:World) (hp:p<2 ^ 256) (hn:n<2 ^ 256) (hv:0<a∧a<p) (hc:aq p≤64):Calls Tryz.prog 14 #[gv p q g,af a,af n] w fun e w'=>e=.returned (.tuple #[af (a ^ n % p),.int .i64 0])∧Below w.heap.size w w':=by
 have HV:Hid (decide (0<a∧a<p)=true):=hid (by simpa using hv)
 have J:1<p:=by omega
 have I:p<18446744073709551616:=Nat.lt_of_lt_of_le (nbits_lt p) (Nat.pow_le_pow_right (by omega) hc)
 have A1:=hid hv.2
 have P1:=hid J
 have PL:=hid hp
 have NL:=hid hn
 have HC:=hid hc
 have A0:=hid (Nat.lt_trans hv.2 hp)
 have PS:=hid I
 clear hv J hp hn hc I
 have D:=hid ((((((Eg.of (ae.refl w) p q g 26)).new a).new n).zero).perm (l':=[(w.heap.size+1+1+1,0),(w.heap.size+1+1,n),(w.heap.size+1,a)]) (by simp))
 have DZ:=hid (show w.heap.size≤w.heap.size+1+1+1∧w.heap.size≠w.heap.size+1+1+1 by omega)
 go_enter Tryz.func14,Tryz.ntmps14
 go_wp2_with fail
 generalize (((w.alloc (.cells (aY p q g) 26)).alloc (.cells (ai a) 24)).alloc (.cells (ai n) 24)).alloc (.cells #[.int .u64 0,.int .u64 0,.int .u64 0,.int .u64 0] 24)=w0 at *
 generalize w.heap.size+1+1+1=f at *
 generalize w.heap.size+1+1=K at *
 generalize w.heap.size+1=z at *
 generalize E:w.heap.size=ab at *
 obtain ⟨bQ,bP,bO,bN⟩:=D.out.gp
 obtain ⟨cQ,cP,cO,cN⟩:=D.out.gq
 obtain ⟨cU,cT,cS,cR⟩:=D.out.gg
 have aW:=D.out.gl
 have bR:=Nat.le_of_lt aW
 obtain ⟨cq,co,cn,ck⟩:=D.out.cell (z) (a) (by simp)
 have bk:=D.out.lt (z) (a) (by simp)
 have cj:=Nat.le_of_lt bk
 go_wp2_with fail
 clear bQ bP bO bN cQ cP cO cN cU cT cS cR aW bR cq co cn ck bk cj
 refine (bc (may_any p q g a true _ PL.out A0.out HV.out) D.out).mono ?_
 rintro e w1 ⟨rfl,h⟩
 have G:=hid h
 clear h D
 obtain ⟨dB,dA,dz,dy⟩:=G.out.gp
 obtain ⟨R,O,M,L⟩:=G.out.gq
 obtain ⟨Z,Y,V,U⟩:=G.out.gg
 have bK:=G.out.gl
 have dC:=Nat.le_of_lt bK
 go_wp2_with fail
 clear dB dA dz dy R O M L Z Y V U bK dC
 refine (bc (way_short p q g _ PL.out HC.out) G.out).mono ?_
 rintro e w2 ⟨rfl,h⟩
 have F:=hid h
 clear h G
 obtain ⟨bq,bp,bo,bn⟩:=F.out.cell (z) (a) (by simp)
 have aC:=F.out.lt (z) (a) (by simp)
 have bm:=Nat.le_of_lt aC
 obtain ⟨cZ,cY,cX,cW⟩:=F.out.cell (K) (n) (by simp)
 have bG:=F.out.lt (K) (n) (by simp)
 have cV:=Nat.le_of_lt bG
 go_wp2_with fail
 clear bq bp bo bn aC bm cZ cY cX cW bG cV
 refine (bc (short_any p q g a n _ PS.out P1.out A1.out NL.out) F.out).mono ?_
 rintro e w3 ⟨rfl,h⟩
 have H3:=hid h
 clear h F
 obtain ⟨z0,z1,z2,z3⟩:=H3.out.cell f 0 (by simp)
 have zl:=H3.out.lt f 0 (by simp)
 have zf:=H3.out.frozen f 0 (by simp)
 have HZ:=hid (H3.out.1.set f 0 (a ^ n % p) [] (by simp) (by rw [E]; exact DZ.out.1) (by simp))
 go_wp2
 clear z0 z1 z2 z3 zl zf
 try rw [Exit.noGoto_ret]
 change bodyPost _ _ _ _ _ (fil w3 f (a ^ n % p))
 generalize fil w3 f (a ^ n % p)=wz at *
 obtain ⟨k0,k1,k2,k3⟩:=HZ.out.cell f (a ^ n % p) (by simp)
 exact bodyPost_ret (v:=.tuple #[af (a ^ n % p),.int .i64 0]) (by simp [results,Tryz.results14,go_sem,k0,k1,k2,k3]) rfl ⟨rfl,HZ.out.1⟩
theorem gexp_long (p q g a n:Nat) (w:World) (hp:p<2 ^ 256) (hn:n<2 ^ 256) (Z:0<a∧a<p) (hc:¬ aq p≤64):Calls Tryz.prog 14 #[gv p q g,af a,af n] w fun e w'=>e=.returned (.tuple #[af (a ^ n % p),.int .i64 0])∧Below w.heap.size w w':=by
 have HV:Hid (decide (0<a∧a<p)=true):=hid (by simpa using Z)
 have I:1<p:=by omega
 have A1:=hid Z.2
 have P1:=hid I
 have PL:=hid hp
 have NL:=hid hn
 have HC:=hid hc
 have A0:=hid (Nat.lt_trans Z.2 hp)
 clear Z I hp hn hc
 have D:=hid ((((((Eg.of (ae.refl w) p q g 26)).new a).new n).zero).perm (l':=[(w.heap.size+1+1+1,0),(w.heap.size+1+1,n),(w.heap.size+1,a)]) (by simp))
 have DZ:=hid (show w.heap.size≤w.heap.size+1+1+1∧w.heap.size≠w.heap.size+1+1+1 by omega)
 go_enter Tryz.func14,Tryz.ntmps14
 go_wp2_with fail
 generalize (((w.alloc (.cells (aY p q g) 26)).alloc (.cells (ai a) 24)).alloc (.cells (ai n) 24)).alloc (.cells #[.int .u64 0,.int .u64 0,.int .u64 0,.int .u64 0] 24)=w0 at *
 generalize w.heap.size+1+1+1=f at *
 generalize w.heap.size+1+1=J at *
 generalize w.heap.size+1=z at *
 generalize E:w.heap.size=ab at *
 obtain ⟨bQ,bP,bO,bN⟩:=D.out.gp
 obtain ⟨cQ,cP,cO,cN⟩:=D.out.gq
 obtain ⟨cU,cT,cS,cR⟩:=D.out.gg
 have aW:=D.out.gl
 have bR:=Nat.le_of_lt aW
 obtain ⟨cq,co,cn,ck⟩:=D.out.cell (z) (a) (by simp)
 have bk:=D.out.lt (z) (a) (by simp)
 have cj:=Nat.le_of_lt bk
 go_wp2_with fail
 clear bQ bP bO bN cQ cP cO cN cU cT cS cR aW bR cq co cn ck bk cj
 refine (bc (may_any p q g a true _ PL.out A0.out HV.out) D.out).mono ?_
 rintro e w1 ⟨rfl,h⟩
 have G:=hid h
 clear h D
 obtain ⟨dB,dA,dz,dy⟩:=G.out.gp
 obtain ⟨O,M,L,K⟩:=G.out.gq
 obtain ⟨Y,V,U,R⟩:=G.out.gg
 have bK:=G.out.gl
 have dC:=Nat.le_of_lt bK
 go_wp2_with fail
 clear dB dA dz dy O M L K Y V U R bK dC
 refine (bc (way_long p q g _ PL.out HC.out) G.out).mono ?_
 rintro e w2 ⟨rfl,h⟩
 have F:=hid h
 clear h G
 obtain ⟨bq,bp,bo,bn⟩:=F.out.cell (z) (a) (by simp)
 have aC:=F.out.lt (z) (a) (by simp)
 have bm:=Nat.le_of_lt aC
 obtain ⟨cZ,cY,cX,cW⟩:=F.out.cell (J) (n) (by simp)
 have bG:=F.out.lt (J) (n) (by simp)
 have cV:=Nat.le_of_lt bG
 go_wp2_with fail
 clear bq bp bo bn aC bm cZ cY cX cW bG cV
 refine (bc (long_any p q g a n _ PL.out P1.out A1.out NL.out) F.out).mono ?_
 rintro e w3 ⟨rfl,h⟩
 have H3:=hid h
 clear h F
 obtain ⟨z0,z1,z2,z3⟩:=H3.out.cell f 0 (by simp)
 have zl:=H3.out.lt f 0 (by simp)
 have zf:=H3.out.frozen f 0 (by simp)
 have HZ:=hid (H3.out.1.set f 0 (a ^ n % p) [] (by simp) (by rw [E]; exact DZ.out.1) (by simp))
 go_wp2
 clear z0 z1 z2 z3 zl zf
 try rw [Exit.noGoto_ret]
 change bodyPost _ _ _ _ _ (fil w3 f (a ^ n % p))
 generalize fil w3 f (a ^ n % p)=wz at *
 obtain ⟨k0,k1,k2,k3⟩:=HZ.out.cell f (a ^ n % p) (by simp)
 exact bodyPost_ret (v:=.tuple #[af (a ^ n % p),.int .i64 0]) (by simp [results,Tryz.results14,go_sem,k0,k1,k2,k3]) rfl ⟨rfl,HZ.out.1⟩
theorem gexp_none (p q g a n:Nat) (w:World) (I:p<2 ^ 256) (J:a<2 ^ 256) (G:¬ (0<a∧a<p)):Calls Tryz.prog 14 #[gv p q g,af a,af n] w fun e w'=>e=.returned (.tuple #[af 0,.int .i64 1])∧Below w.heap.size w w':=by
 have HV:Hid (decide (0<a∧a<p)=false):=hid (by simpa using G)
 have PL:=hid I
 have A0:=hid J
 clear G I J
 have z:=hid ((((((Eg.of (ae.refl w) p q g 26)).new a).new n).zero).perm (l':=[(w.heap.size+1+1+1,0),(w.heap.size+1+1,n),(w.heap.size+1,a)]) (by simp))
 have DZ:=hid (show w.heap.size≤w.heap.size+1+1+1∧w.heap.size≠w.heap.size+1+1+1 by omega)
 go_enter Tryz.func14,Tryz.ntmps14
 go_wp2_with fail
 generalize (((w.alloc (.cells (aY p q g) 26)).alloc (.cells (ai a) 24)).alloc (.cells (ai n) 24)).alloc (.cells #[.int .u64 0,.int .u64 0,.int .u64 0,.int .u64 0] 24)=w0 at *
 generalize w.heap.size+1+1+1=f at *
 generalize w.heap.size+1+1=ad at *
 generalize w.heap.size+1=E at *
 generalize D:w.heap.size=ab at *
 obtain ⟨bQ,bP,bO,bN⟩:=z.out.gp
 obtain ⟨cQ,cP,cO,cN⟩:=z.out.gq
 obtain ⟨cU,cT,cS,cR⟩:=z.out.gg
 have L:=z.out.gl
 have bR:=Nat.le_of_lt L
 obtain ⟨cq,co,cn,ck⟩:=z.out.cell (E) (a) (by simp)
 have K:=z.out.lt (E) (a) (by simp)
 have cj:=Nat.le_of_lt K
 go_wp2_with fail
 clear bQ bP bO bN cQ cP cO cN cU cT cS cR L bR cq co cn ck K cj
 refine (bc (may_any p q g a false _ PL.out A0.out HV.out) z.out).mono ?_
 rintro e w1 ⟨rfl,h⟩
 have F:=hid h
 clear h z
 obtain ⟨Y,V,U,z3⟩:=F.out.cell f 0 (by simp)
 have O:=F.out.lt f 0 (by simp)
 have R:=F.out.frozen f 0 (by simp)
 have M:=hid (F.out.1.set f 0 (0) [] (by simp) (by rw [D]; exact DZ.out.1) (by simp))
 go_wp2
 clear Y V U z3 O R
 try rw [Exit.noGoto_ret]
 change bodyPost _ _ _ _ _ (fil w1 f (0))
 generalize fil w1 f (0)=wz at *
 obtain ⟨k0,k1,Z,k3⟩:=M.out.cell f (0) (by simp)
 exact bodyPost_ret (v:=.tuple #[af (0),.int .i64 1]) (by simp [results,Tryz.results14,go_sem,k0,k1,Z,k3]) rfl ⟨rfl,M.out.1⟩
theorem gexp_any (p q g a n r:Nat) (w:World) (z:p<2 ^ 256) (D:n<2 ^ 256) (f:0<a∧a<p) (E:a ^ n % p=r):Calls Tryz.prog 14 #[gv p q g,af a,af n] w fun e w'=>e=.returned (.tuple #[af r,.int .i64 0])∧Below w.heap.size w w':=by
 subst E
 by_cases hc:aq p≤64
 ·exact gexp_short p q g a n w z D f hc
 ·exact gexp_long p q g a n w z D f hc
theorem in_yes (p q g a:Nat) (w:World) (K:p<2 ^ 256) (J:q<2 ^ 256) (G:0<a∧a<p) (L:a ^ q % p=1):Calls Tryz.prog 36 #[gv p q g,af a] w fun e w'=>e=.returned (.bool true)∧Below w.heap.size w w':=by
 obtain ⟨r,E⟩:∃ r,a ^ q % p=r:=⟨_,rfl⟩
 have V:r=1:=by rw [← E]; exact L
 subst V
 have q1:=eq_yes 1 1 rfl
 have VV:=hid G
 have PL:=hid K
 have QL:=hid J
 have ER:=hid E
 clear G K J E L
 have f:=hid ((((Eg.of (ae.refl w) p q g 26)).new a).perm (l':=[(w.heap.size+1,a)]) (by simp))
 go_enter Tryz.func36,Tryz.ntmps36
 go_wp2_with fail
 generalize (w.alloc (.cells (aY p q g) 26)).alloc (.cells (ai a) 24)=w0 at *
 generalize w.heap.size+1=z at *
 generalize D:w.heap.size=Y at *
 obtain ⟨bQ,bP,bO,bN⟩:=f.out.gp
 obtain ⟨cQ,cP,cO,cN⟩:=f.out.gq
 obtain ⟨cU,cT,cS,cR⟩:=f.out.gg
 have O:=f.out.gl
 have bR:=Nat.le_of_lt O
 obtain ⟨Z,co,cn,ck⟩:=f.out.cell (z) (a) (by simp)
 have M:=f.out.lt (z) (a) (by simp)
 have cj:=Nat.le_of_lt M
 go_wp2_with fail
 clear bQ bP bO bN cQ cP cO cN cU cT cS cR O bR Z co cn ck M cj
 refine (bc (gexp_any p q g a q 1 _ PL.out QL.out VV.out ER.out) f.out).mono ?_
 rintro e w1 ⟨rfl,h⟩
 have R:=hid h
 clear h f
 go_upto_region 2 with fail
 have F:=hid (R.out.new 1)
 clear R
 generalize w1.alloc (.cells (ai 1) 24)=U at *
 generalize w1.heap.size=g5 at *
 have I:=F.out.drew
 go_region_held3 (fun w'=>(w'.cell? ⟨g5,0,none⟩=some (.int .u64 (wd (1) 0:Int))∧w'.cell? ⟨g5,1,none⟩=some (.int .u64 (wd (1) 1:Int))∧w'.cell? ⟨g5,2,none⟩=some (.int .u64 (wd (1) 2:Int))∧w'.cell? ⟨g5,3,none⟩=some (.int .u64 (wd (1) 3:Int)))) (exact Eg.cell (by assumption) _ _ (by simp)) (first | ((go_at_call 32); (with_reducible refine (dL (dh 1 1 (ae.refl _) (by decide) (by decide)) (by assumption)).mono ?_); rintro e wn ⟨rfl,I⟩))
 go_wp2
 go_ret
 exact ⟨rfl,I.1.1⟩
theorem in_no (p q g a:Nat) (w:World) (F:p<2 ^ 256) (L:q<2 ^ 256) (I:0<a∧a<p) (M:a ^ q % p≠1):Calls Tryz.prog 36 #[gv p q g,af a] w fun e w'=>e=.returned (.bool false)∧Below w.heap.size w w':=by
 obtain ⟨r,D⟩:∃ r,a ^ q % p=r:=⟨_,rfl⟩
 have K:r≠1:=by rw [← D]; exact M
 have q1:=eq_no r 1 (by rw [← D]; exact Nat.lt_trans (Nat.mod_lt _ (by omega)) F) (by decide) K
 have VV:=hid I
 have PL:=hid F
 have QL:=hid L
 have ER:=hid D
 clear I F L D M K
 have f:=hid ((((Eg.of (ae.refl w) p q g 26)).new a).perm (l':=[(w.heap.size+1,a)]) (by simp))
 go_enter Tryz.func36,Tryz.ntmps36
 go_wp2_with fail
 generalize (w.alloc (.cells (aY p q g) 26)).alloc (.cells (ai a) 24)=w0 at *
 generalize w.heap.size+1=z at *
 generalize E:w.heap.size=Y at *
 obtain ⟨bQ,bP,bO,bN⟩:=f.out.gp
 obtain ⟨cQ,cP,cO,cN⟩:=f.out.gq
 obtain ⟨cU,cT,cS,cR⟩:=f.out.gg
 have R:=f.out.gl
 have bR:=Nat.le_of_lt R
 obtain ⟨Z,co,cn,ck⟩:=f.out.cell (z) (a) (by simp)
 have O:=f.out.lt (z) (a) (by simp)
 have cj:=Nat.le_of_lt O
 go_wp2_with fail
 clear bQ bP bO bN cQ cP cO cN cU cT cS cR R bR Z co cn ck O cj
 refine (bc (gexp_any p q g a q r _ PL.out QL.out VV.out ER.out) f.out).mono ?_
 rintro e w1 ⟨rfl,h⟩
 have U:=hid h
 clear h f
 go_upto_region 2 with fail
 have G:=hid (U.out.new r)
 clear U
 generalize w1.alloc (.cells (ai r) 24)=V at *
 generalize w1.heap.size=g5 at *
 have J:=G.out.drew
 go_region_held3 (fun w'=>(w'.cell? ⟨g5,0,none⟩=some (.int .u64 (wd (r) 0:Int))∧w'.cell? ⟨g5,1,none⟩=some (.int .u64 (wd (r) 1:Int))∧w'.cell? ⟨g5,2,none⟩=some (.int .u64 (wd (r) 2:Int))∧w'.cell? ⟨g5,3,none⟩=some (.int .u64 (wd (r) 3:Int)))) (exact Eg.cell (by assumption) _ _ (by simp)) (first | ((go_at_call 32); (with_reducible refine (dL (dh 1 1 (ae.refl _) (by decide) (by decide)) (by assumption)).mono ?_); rintro e wn ⟨rfl,J⟩))
 go_wp2
 go_ret
 exact ⟨rfl,J.1.1⟩
theorem in_none (p q g a:Nat) (w:World) (I:p<2 ^ 256) (G:q<2 ^ 256) (J:a<2 ^ 256) (F:¬ (0<a∧a<p)):Calls Tryz.prog 36 #[gv p q g,af a] w fun e w'=>e=.returned (.bool false)∧Below w.heap.size w w':=by
 have VV:=hid F
 have PL:=hid I
 have QL:=hid G
 have A0:=hid J
 clear F I G J
 have f:=hid ((((Eg.of (ae.refl w) p q g 26)).new a).perm (l':=[(w.heap.size+1,a)]) (by simp))
 go_enter Tryz.func36,Tryz.ntmps36
 go_wp2_with fail
 generalize (w.alloc (.cells (aY p q g) 26)).alloc (.cells (ai a) 24)=w0 at *
 generalize w.heap.size+1=z at *
 generalize E:w.heap.size=R at *
 obtain ⟨bQ,bP,bO,bN⟩:=f.out.gp
 obtain ⟨cQ,cP,cO,cN⟩:=f.out.gq
 obtain ⟨cU,cT,cS,cR⟩:=f.out.gg
 have L:=f.out.gl
 have bR:=Nat.le_of_lt L
 obtain ⟨U,V,Y,Z⟩:=f.out.cell (z) (a) (by simp)
 have K:=f.out.lt (z) (a) (by simp)
 have cj:=Nat.le_of_lt K
 go_wp2_with fail
 clear bQ bP bO bN cQ cP cO cN cU cT cS cR L bR U V Y Z K cj
 refine (bc (gexp_none p q g a q _ PL.out A0.out VV.out) f.out).mono ?_
 rintro e w1 ⟨rfl,h⟩
 have M:=hid h
 clear h f
 go_upto_region 2 with fail
 have D:=hid (M.out.new 0)
 clear M
 generalize w1.alloc (.cells (ai 0) 24)=O at *
 generalize w1.heap.size=g5 at *
 obtain ⟨c0,c1,c2,c3⟩:=D.out.cell g5 0 (by simp)
 go_region
 all_goals
  go_wp2
  go_ret
  exact ⟨rfl,D.out.drew.1.1⟩
theorem gmul_some (p q g a b:Nat) (w:World) (hp:p<2 ^ 256) (ha:a<2 ^ 256) (hb:b<2 ^ 256) (va:0<a∧a<p) (vb:0<b∧b<p):Calls Tryz.prog 50 #[gv p q g,af a,af b] w fun e w'=>e=.returned (.tuple #[af (a * b % p),.int .i64 0])∧Below w.heap.size w w':=by
 have VA:Hid (decide (0<a∧a<p)=true):=hid (by simpa using va)
 have VB:Hid (decide (0<b∧b<p)=true):=hid (by simpa using vb)
 have PL:=hid hp
 have A0:=hid ha
 have B0:=hid hb
 obtain ⟨r,er⟩:∃ r,a * b % p=r:=⟨_,rfl⟩
 have ER:=hid er
 have AM:=hid va.2
 have BM:=hid vb.2
 have P1:=hid (show 1<p by omega)
 clear er
 clear hp ha hb va vb
 have H0:=hid ((((((Eg.of (ae.refl w) p q g 26)).new a).new b).zero).perm (l':=[(w.heap.size+1+1+1,0),(w.heap.size+1+1,b),(w.heap.size+1,a)]) (by simp))
 have DZ:=hid (show w.heap.size≤w.heap.size+1+1+1∧w.heap.size≠w.heap.size+1+1+1 by omega)
 go_enter Tryz.func50,Tryz.ntmps50
 go_wp2_with fail
 generalize (((w.alloc (.cells (aY p q g) 26)).alloc (.cells (ai a) 24)).alloc (.cells (ai b) 24)).alloc (.cells #[.int .u64 0,.int .u64 0,.int .u64 0,.int .u64 0] 24)=w0 at *
 generalize w.heap.size+1+1+1=f at *
 generalize w.heap.size+1+1=E at *
 generalize w.heap.size+1=F at *
 generalize ab:w.heap.size=aG at *
 obtain ⟨bQ,bP,bO,bN⟩:=H0.out.gp
 obtain ⟨cQ,cP,cO,cN⟩:=H0.out.gq
 obtain ⟨cU,cT,cS,cR⟩:=H0.out.gg
 have aW:=H0.out.gl
 have bR:=Nat.le_of_lt aW
 obtain ⟨cq,co,cn,ck⟩:=H0.out.cell (F) (a) (by simp)
 have bk:=H0.out.lt (F) (a) (by simp)
 have cj:=Nat.le_of_lt bk
 go_wp2_with fail
 clear bQ bP bO bN cQ cP cO cN cU cT cS cR aW bR cq co cn ck bk cj
 refine (bc (may_any p q g a true _ PL.out A0.out VA.out) H0.out).mono ?_
 rintro e w1 ⟨rfl,h⟩
 have H1:=hid h
 clear h H0
 obtain ⟨dB,dA,dz,dy⟩:=H1.out.gp
 obtain ⟨ao,an,al,ad⟩:=H1.out.gq
 obtain ⟨aE,aC,aB,aA⟩:=H1.out.gg
 have bK:=H1.out.gl
 have dC:=Nat.le_of_lt bK
 obtain ⟨L,K,J,I⟩:=H1.out.cell (E) (b) (by simp)
 have z:=H1.out.lt (E) (b) (by simp)
 have G:=Nat.le_of_lt z
 go_wp2_with fail
 clear dB dA dz dy ao an al ad aE aC aB aA bK dC L K J I z G
 refine (bc (may_any p q g b true _ PL.out B0.out VB.out) H1.out).mono ?_
 rintro e w2 ⟨rfl,h⟩
 have Z:=hid h
 clear h H1
 obtain ⟨ay,ax,ar,ap⟩:=Z.out.gp
 have Y:=Z.out.gl
 have az:=Nat.le_of_lt Y
 obtain ⟨cZ,cY,cX,cW⟩:=Z.out.cell (F) (a) (by simp)
 have bG:=Z.out.lt (F) (a) (by simp)
 have cV:=Nat.le_of_lt bG
 obtain ⟨V,U,R,O⟩:=Z.out.cell (E) (b) (by simp)
 have D:=Z.out.lt (E) (b) (by simp)
 have M:=Nat.le_of_lt D
 go_wp2_with fail
 clear ay ax ar ap Y az cZ cY cX cW bG cV V U R O D M
 refine (dL (mmul_at a b p r (ae.refl _) PL.out P1.out AM.out BM.out ER.out) Z.out).mono ?_
 rintro e w3 ⟨rfl,h⟩
 have H3:=hid h
 clear h Z
 obtain ⟨z0,z1,z2,z3⟩:=H3.out.cell f 0 (by simp)
 have zl:=H3.out.lt f 0 (by simp)
 have zf:=H3.out.frozen f 0 (by simp)
 have HZ:=hid (H3.out.1.set f 0 (r) [] (by simp) (by rw [ab]; exact DZ.out.1) (by simp))
 go_wp2
 clear z0 z1 z2 z3 zl zf
 try rw [Exit.noGoto_ret]
 change bodyPost _ _ _ _ _ (fil w3 f (r))
 generalize fil w3 f (r)=wz at *
 obtain ⟨k0,k1,k2,k3⟩:=HZ.out.cell f (r) (by simp)
 exact bodyPost_ret (v:=.tuple #[af (r),.int .i64 0]) (by simp [results,Tryz.results50,go_sem,k0,k1,k2,k3]) rfl ⟨by rw [ER.out],HZ.out.1⟩
theorem in_any (p q g a:Nat) (v:Bool) (w:World) (D:p<2 ^ 256) (z:q<2 ^ 256) (F:a<2 ^ 256) (E:decide ((0<a∧a<p)∧a ^ q % p=1)=v):Calls Tryz.prog 36 #[gv p q g,af a] w fun e w'=>e=.returned (.bool v)∧Below w.heap.size w w':=by
 subst E
 by_cases h:0<a∧a<p
 ·by_cases f:a ^ q % p=1
  ·rw [decide_eq_true ⟨h,f⟩]; exact in_yes p q g a w D z h f
  ·rw [decide_eq_false (fun x=>f x.2)]; exact in_no p q g a w D z h f
 ·rw [decide_eq_false (fun x=>h x.1)]; exact in_none p q g a w D z F h
theorem fine_low (p q g:Nat) (w:World) (I:p<2 ^ 256) (G:q<2 ^ 256) (J:g<2 ^ 256) (Z:¬ 1<q):Calls Tryz.prog 13 #[gv p q g] w fun e w'=>e=.returned (.bool false)∧Below w.heap.size w w':=by
 obtain ⟨n,F⟩:∃ n,aq q=n:=⟨_,rfl⟩
 have Y:1<n↔1<q:=by rw [← F]; exact nbits_above q
 have EN:=hid (show (aq q:Int)=(n:Int) by rw [F])
 have PL:=hid I
 have QL:=hid G
 have GL:=hid J
 have c1:¬ (n:Int) > 1:=by omega
 have c2:¬ 1<n:=by omega
 have c3:n≤1:=by omega
 have cb:decide ((1:Int)<(n:Int))=false:=decide_eq_false (by omega)
 clear I G J F Y Z
 have H0:=hid (Eg.of (ae.refl w) p q g 26)
 go_enter Tryz.func13,Tryz.ntmps13
 go_upto_region 1 with fail
 generalize w.alloc (.cells (aY p q g) 26)=w0 at *
 generalize w.heap.size=z at *
 have f:=H0.out.drew
 refine wp_region_noPanic ?_
 refine aa.region (fun (L:Array Bool) (w':World)=>w'.cell? ⟨z,0,none⟩=some (.int .u64 (wd p 0:Int))∧w'.cell? ⟨z,1,none⟩=some (.int .u64 (wd p 1:Int))∧w'.cell? ⟨z,2,none⟩=some (.int .u64 (wd p 2:Int))∧w'.cell? ⟨z,3,none⟩=some (.int .u64 (wd p 3:Int))∧w'.cell? ⟨z,4,none⟩=some (.int .u64 (wd q 0:Int))∧w'.cell? ⟨z,5,none⟩=some (.int .u64 (wd q 1:Int))∧w'.cell? ⟨z,6,none⟩=some (.int .u64 (wd q 2:Int))∧w'.cell? ⟨z,7,none⟩=some (.int .u64 (wd q 3:Int))∧w'.cell? ⟨z,8,none⟩=some (.int .u64 (wd g 0:Int))∧w'.cell? ⟨z,9,none⟩=some (.int .u64 (wd g 1:Int))∧w'.cell? ⟨z,10,none⟩=some (.int .u64 (wd g 2:Int))∧w'.cell? ⟨z,11,none⟩=some (.int .u64 (wd g 3:Int))) (by kernel_rfl) ?_
 generalize w0.drew=wd at *
 have D:=hid (And.intro (Eg.gp f).1 (And.intro (Eg.gp f).2.1 (And.intro (Eg.gp f).2.2.1 (And.intro (Eg.gp f).2.2.2 (And.intro (Eg.gq f).1 (And.intro (Eg.gq f).2.1 (And.intro (Eg.gq f).2.2.1 (And.intro (Eg.gq f).2.2.2 (And.intro (Eg.gg f).1 (And.intro (Eg.gg f).2.1 (And.intro (Eg.gg f).2.2.1 (Eg.gg f).2.2.2)))))))))))
 refine aa.q 0 ⟨some 3,_,_,_,_,_⟩ D.out ?_
 try simp only [ac]
 refine aa.tk (i:=1) (o:=⟨some 4,_,_,_,_,_⟩) (v:=?_) [] (y:=Or.inl ⟨by rfl,?_⟩) (s:=D.out) (H:=?_)
 rotate_left
 ·rintro w ⟨up,-,M⟩; (try dsimp only at M); obtain ⟨x0,x1,x2,x3,x4,x5,x6,x7,x8,x9,U,R⟩:=M; go_simp; try with_reducible rfl
 try simp only [ac]
 clear D
 refine aa.one (i:=2) (o:=⟨some 5,_,_,_,_,_⟩) (by kernel_rfl) rfl (fun K O=>?_)
 go_simp
 with_reducible refine (dL (b8 q (n:Int) (ae.refl _) QL.out EN.out) f).mono ?_
 rintro e V ⟨rfl,E⟩
 go_wp2_with fail
 refine O.out _ _ (⟨(Eg.gp E).1,(Eg.gp E).2.1,(Eg.gp E).2.2.1,(Eg.gp E).2.2.2,(Eg.gq E).1,(Eg.gq E).2.1,(Eg.gq E).2.2.1,(Eg.gq E).2.2.2,(Eg.gg E).1,(Eg.gg E).2.1,(Eg.gg E).2.2.1,(Eg.gg E).2.2.2⟩) ?_
 clear O K
 try simp only [ac]
 clear f
 have f:=E
 clear E
 have D:=hid (And.intro (Eg.gp f).1 (And.intro (Eg.gp f).2.1 (And.intro (Eg.gp f).2.2.1 (And.intro (Eg.gp f).2.2.2 (And.intro (Eg.gq f).1 (And.intro (Eg.gq f).2.1 (And.intro (Eg.gq f).2.2.1 (And.intro (Eg.gq f).2.2.2 (And.intro (Eg.gg f).1 (And.intro (Eg.gg f).2.1 (And.intro (Eg.gg f).2.2.1 (Eg.gg f).2.2.2)))))))))))
 refine aa.q 3 ⟨some 6,_,_,_,_,_⟩ D.out ?_
 try simp only [ac]
 refine aa.q 4 ⟨some 7,_,_,_,_,_⟩ D.out ?_
 try simp only [ac]
 refine aa.tk (i:=5) (o:=⟨some 8,_,_,_,_,_⟩) [] (y:=Or.inr ⟨by rfl,rfl⟩) (s:=D.out) (H:=?_)
 try simp only [ac]
 refine aa.tk (i:=6) (o:=⟨some 9,_,_,_,_,_⟩) [] (y:=Or.inr ⟨by rfl,rfl⟩) (s:=D.out) (H:=?_)
 try simp only [ac]
 refine aa.tk (i:=7) (o:=⟨some 10,_,_,_,_,_⟩) [] (y:=Or.inr ⟨by rfl,rfl⟩) (s:=D.out) (H:=?_)
 try simp only [ac]
 refine aa.tk (i:=8) (o:=⟨some 11,_,_,_,_,_⟩) [] (y:=Or.inr ⟨by rfl,rfl⟩) (s:=D.out) (H:=?_)
 try simp only [ac]
 refine aa.q 9 ⟨some 12,_,_,_,_,_⟩ D.out ?_
 try simp only [ac]
 refine aa.q 10 ⟨some 13,_,_,_,_,_⟩ D.out ?_
 try simp only [ac]
 refine aa.tk (i:=11) (o:=⟨some 14,_,_,_,_,_⟩) [] (y:=Or.inr ⟨by rfl,rfl⟩) (s:=D.out) (H:=?_)
 try simp only [ac]
 refine aa.tk (i:=12) (o:=⟨some 15,_,_,_,_,_⟩) [] (y:=Or.inr ⟨by rfl,rfl⟩) (s:=D.out) (H:=?_)
 try simp only [ac]
 refine aa.tk (i:=13) (o:=⟨some 16,_,_,_,_,_⟩) [] (y:=Or.inr ⟨by rfl,rfl⟩) (s:=D.out) (H:=?_)
 try simp only [ac]
 refine aa.tk (i:=14) (o:=⟨some 17,_,_,_,_,_⟩) [] (y:=Or.inr ⟨by rfl,rfl⟩) (s:=D.out) (H:=?_)
 try simp only [ac]
 refine aa.q 15 ⟨some 18,_,_,_,_,_⟩ D.out ?_
 try simp only [ac]
 refine aa.q 16 ⟨some 2,_,_,_,_,_⟩ D.out ?_
 try simp only [ac]
 clear D
 refine aa.done (by kernel_rfl) ?_ _
 refine NoPanic.normal ?_
 go_wp2_with fail
 exact bodyPost_ret (v:=.bool false) (by simp [results,Tryz.results13,go_sem]) rfl ⟨rfl,f.1.1⟩
theorem fine_one (p q g:Nat) (w:World) (U:p<2 ^ 256) (R:q<2 ^ 256) (V:g<2 ^ 256) (hl:1<q) (Y:g=1):Calls Tryz.prog 13 #[gv p q g] w fun e w'=>e=.returned (.bool false)∧Below w.heap.size w w':=by
 obtain ⟨n,O⟩:∃ n,aq q=n:=⟨_,rfl⟩
 have hn:1<n↔1<q:=by rw [← O]; exact nbits_above q
 have EN:=hid (show (aq q:Int)=(n:Int) by rw [O])
 have PL:=hid U
 have QL:=hid R
 have GL:=hid V
 have c1:(n:Int) > 1:=by omega
 have c2:1<n:=by omega
 have cb:decide ((1:Int)<(n:Int))=true:=decide_eq_true (by omega)
 have q1:=eq_yes g 1 Y
 clear U R V O hn hl Y
 have H0:=hid (Eg.of (ae.refl w) p q g 26)
 go_enter Tryz.func13,Tryz.ntmps13
 go_upto_region 1 with fail
 generalize w.alloc (.cells (aY p q g) 26)=w0 at *
 generalize w.heap.size=z at *
 have f:=H0.out.drew
 refine wp_region_noPanic ?_
 refine aa.region (fun (L:Array Bool) (w':World)=>w'.cell? ⟨z,0,none⟩=some (.int .u64 (wd p 0:Int))∧w'.cell? ⟨z,1,none⟩=some (.int .u64 (wd p 1:Int))∧w'.cell? ⟨z,2,none⟩=some (.int .u64 (wd p 2:Int))∧w'.cell? ⟨z,3,none⟩=some (.int .u64 (wd p 3:Int))∧w'.cell? ⟨z,4,none⟩=some (.int .u64 (wd q 0:Int))∧w'.cell? ⟨z,5,none⟩=some (.int .u64 (wd q 1:Int))∧w'.cell? ⟨z,6,none⟩=some (.int .u64 (wd q 2:Int))∧w'.cell? ⟨z,7,none⟩=some (.int .u64 (wd q 3:Int))∧w'.cell? ⟨z,8,none⟩=some (.int .u64 (wd g 0:Int))∧w'.cell? ⟨z,9,none⟩=some (.int .u64 (wd g 1:Int))∧w'.cell? ⟨z,10,none⟩=some (.int .u64 (wd g 2:Int))∧w'.cell? ⟨z,11,none⟩=some (.int .u64 (wd g 3:Int))) (by kernel_rfl) ?_
 generalize w0.drew=wd at *
 have D:=hid (And.intro (Eg.gp f).1 (And.intro (Eg.gp f).2.1 (And.intro (Eg.gp f).2.2.1 (And.intro (Eg.gp f).2.2.2 (And.intro (Eg.gq f).1 (And.intro (Eg.gq f).2.1 (And.intro (Eg.gq f).2.2.1 (And.intro (Eg.gq f).2.2.2 (And.intro (Eg.gg f).1 (And.intro (Eg.gg f).2.1 (And.intro (Eg.gg f).2.2.1 (Eg.gg f).2.2.2)))))))))))
 refine aa.q 0 ⟨some 3,_,_,_,_,_⟩ D.out ?_
 try simp only [ac]
 refine aa.tk (i:=1) (o:=⟨some 4,_,_,_,_,_⟩) (v:=?_) [] (y:=Or.inl ⟨by rfl,?_⟩) (s:=D.out) (H:=?_)
 rotate_left
 ·rintro w ⟨up,-,G⟩; (try dsimp only at G); obtain ⟨x0,x1,x2,x3,x4,x5,x6,x7,x8,Z,M,J⟩:=G; go_simp; try with_reducible rfl
 try simp only [ac]
 clear D
 refine aa.one (i:=2) (o:=⟨some 5,_,_,_,_,_⟩) (by kernel_rfl) rfl (fun K I=>?_)
 go_simp
 with_reducible refine (dL (b8 q (n:Int) (ae.refl _) QL.out EN.out) f).mono ?_
 rintro e ad ⟨rfl,F⟩
 go_wp2_with fail
 refine I.out _ _ (⟨(Eg.gp F).1,(Eg.gp F).2.1,(Eg.gp F).2.2.1,(Eg.gp F).2.2.2,(Eg.gq F).1,(Eg.gq F).2.1,(Eg.gq F).2.2.1,(Eg.gq F).2.2.2,(Eg.gg F).1,(Eg.gg F).2.1,(Eg.gg F).2.2.1,(Eg.gg F).2.2.2⟩) ?_
 clear I K
 try simp only [ac]
 clear f
 have f:=F
 clear F
 have D:=hid (And.intro (Eg.gp f).1 (And.intro (Eg.gp f).2.1 (And.intro (Eg.gp f).2.2.1 (And.intro (Eg.gp f).2.2.2 (And.intro (Eg.gq f).1 (And.intro (Eg.gq f).2.1 (And.intro (Eg.gq f).2.2.1 (And.intro (Eg.gq f).2.2.2 (And.intro (Eg.gg f).1 (And.intro (Eg.gg f).2.1 (And.intro (Eg.gg f).2.2.1 (Eg.gg f).2.2.2)))))))))))
 refine aa.q 3 ⟨some 6,_,_,_,_,_⟩ D.out ?_
 try simp only [ac]
 refine aa.q 4 ⟨some 7,_,_,_,_,_⟩ D.out ?_
 try simp only [ac]
 refine aa.q 5 ⟨some 8,_,_,_,_,_⟩ D.out ?_
 try simp only [ac]
 refine aa.tk (i:=6) (o:=⟨some 9,_,_,_,_,_⟩) (v:=?_) [] (y:=Or.inl ⟨by rfl,?_⟩) (s:=D.out) (H:=?_)
 rotate_left
 ·rintro w ⟨up,-,G⟩; (try dsimp only at G); obtain ⟨x0,x1,x2,x3,x4,x5,x6,x7,x8,Z,M,J⟩:=G; go_simp; try with_reducible rfl
 try simp only [ac]
 clear D
 refine aa.one (i:=7) (o:=⟨some 10,_,_,_,_,_⟩) (by kernel_rfl) rfl (fun K I=>?_)
 go_simp
 with_reducible refine (dL (dh 1 1 (ae.refl _) (by decide) (by decide)) f).mono ?_
 rintro e ab ⟨rfl,E⟩
 go_wp2_with fail
 refine I.out _ _ (⟨(Eg.gp E).1,(Eg.gp E).2.1,(Eg.gp E).2.2.1,(Eg.gp E).2.2.2,(Eg.gq E).1,(Eg.gq E).2.1,(Eg.gq E).2.2.1,(Eg.gq E).2.2.2,(Eg.gg E).1,(Eg.gg E).2.1,(Eg.gg E).2.2.1,(Eg.gg E).2.2.2⟩) ?_
 clear I K
 try simp only [ac]
 clear f
 have f:=E
 clear E
 have D:=hid (And.intro (Eg.gp f).1 (And.intro (Eg.gp f).2.1 (And.intro (Eg.gp f).2.2.1 (And.intro (Eg.gp f).2.2.2 (And.intro (Eg.gq f).1 (And.intro (Eg.gq f).2.1 (And.intro (Eg.gq f).2.2.1 (And.intro (Eg.gq f).2.2.2 (And.intro (Eg.gg f).1 (And.intro (Eg.gg f).2.1 (And.intro (Eg.gg f).2.2.1 (Eg.gg f).2.2.2)))))))))))
 refine aa.q 8 ⟨some 11,_,_,_,_,_⟩ D.out ?_
 try simp only [ac]
 refine aa.q 9 ⟨some 12,_,_,_,_,_⟩ D.out ?_
 try simp only [ac]
 refine aa.q 10 ⟨some 13,_,_,_,_,_⟩ D.out ?_
 try simp only [ac]
 refine aa.tk (i:=11) (o:=⟨some 14,_,_,_,_,_⟩) [] (y:=Or.inr ⟨by rfl,rfl⟩) (s:=D.out) (H:=?_)
 try simp only [ac]
 refine aa.tk (i:=12) (o:=⟨some 15,_,_,_,_,_⟩) [] (y:=Or.inr ⟨by rfl,rfl⟩) (s:=D.out) (H:=?_)
 try simp only [ac]
 refine aa.tk (i:=13) (o:=⟨some 16,_,_,_,_,_⟩) [] (y:=Or.inr ⟨by rfl,rfl⟩) (s:=D.out) (H:=?_)
 try simp only [ac]
 refine aa.tk (i:=14) (o:=⟨some 17,_,_,_,_,_⟩) [] (y:=Or.inr ⟨by rfl,rfl⟩) (s:=D.out) (H:=?_)
 try simp only [ac]
 refine aa.q 15 ⟨some 18,_,_,_,_,_⟩ D.out ?_
 try simp only [ac]
 refine aa.q 16 ⟨some 2,_,_,_,_,_⟩ D.out ?_
 try simp only [ac]
 clear D
 refine aa.done (by kernel_rfl) ?_ _
 refine NoPanic.normal ?_
 go_wp2_with fail
 exact bodyPost_ret (v:=.bool false) (by simp [results,Tryz.results13,go_sem]) rfl ⟨rfl,f.1.1⟩
theorem fine_in (p q g:Nat) (v:Bool) (w:World) (hp:p<2 ^ 256) (hq:q<2 ^ 256) (hg:g<2 ^ 256) (hl:1<q) (h1:g≠1) (hv:decide ((0<g∧g<p)∧g ^ q % p=1)=v):Calls Tryz.prog 13 #[gv p q g] w fun e w'=>e=.returned (.bool v)∧Below w.heap.size w w':=by
 obtain ⟨n,en⟩:∃ n,aq q=n:=⟨_,rfl⟩
 have hn:1<n↔1<q:=by rw [← en]; exact nbits_above q
 have EN:=hid (show (aq q:Int)=(n:Int) by rw [en])
 have PL:=hid hp
 have QL:=hid hq
 have GL:=hid hg
 have c1:(n:Int) > 1:=by omega
 have c2:1<n:=by omega
 have cb:decide ((1:Int)<(n:Int))=true:=decide_eq_true (by omega)
 have q1:=eq_no g 1 hg (by decide) h1
 have VV:=hid hv
 clear hp hq hg en hn hl h1 hv
 have H0:=hid (Eg.of (ae.refl w) p q g 26)
 go_enter Tryz.func13,Tryz.ntmps13
 go_upto_region 1 with fail
 generalize w.alloc (.cells (aY p q g) 26)=w0 at *
 generalize w.heap.size=z at *
 have f:=H0.out.drew
 refine wp_region_noPanic ?_
 refine aa.region (fun (L:Array Bool) (w':World)=>w'.cell? ⟨z,0,none⟩=some (.int .u64 (wd p 0:Int))∧w'.cell? ⟨z,1,none⟩=some (.int .u64 (wd p 1:Int))∧w'.cell? ⟨z,2,none⟩=some (.int .u64 (wd p 2:Int))∧w'.cell? ⟨z,3,none⟩=some (.int .u64 (wd p 3:Int))∧w'.cell? ⟨z,4,none⟩=some (.int .u64 (wd q 0:Int))∧w'.cell? ⟨z,5,none⟩=some (.int .u64 (wd q 1:Int))∧w'.cell? ⟨z,6,none⟩=some (.int .u64 (wd q 2:Int))∧w'.cell? ⟨z,7,none⟩=some (.int .u64 (wd q 3:Int))∧w'.cell? ⟨z,8,none⟩=some (.int .u64 (wd g 0:Int))∧w'.cell? ⟨z,9,none⟩=some (.int .u64 (wd g 1:Int))∧w'.cell? ⟨z,10,none⟩=some (.int .u64 (wd g 2:Int))∧w'.cell? ⟨z,11,none⟩=some (.int .u64 (wd g 3:Int))) (by kernel_rfl) ?_
 generalize w0.drew=wd at *
 have D:=hid (And.intro (Eg.gp f).1 (And.intro (Eg.gp f).2.1 (And.intro (Eg.gp f).2.2.1 (And.intro (Eg.gp f).2.2.2 (And.intro (Eg.gq f).1 (And.intro (Eg.gq f).2.1 (And.intro (Eg.gq f).2.2.1 (And.intro (Eg.gq f).2.2.2 (And.intro (Eg.gg f).1 (And.intro (Eg.gg f).2.1 (And.intro (Eg.gg f).2.2.1 (Eg.gg f).2.2.2)))))))))))
 refine aa.q 0 ⟨some 3,_,_,_,_,_⟩ D.out ?_
 try simp only [ac]
 refine aa.tk (i:=1) (o:=⟨some 4,_,_,_,_,_⟩) (v:=?_) [] (y:=Or.inl ⟨by rfl,?_⟩) (s:=D.out) (H:=?_)
 rotate_left
 ·rintro w ⟨up,-,I⟩; (try dsimp only at I); obtain ⟨x0,x1,x2,x3,x4,Z,Y,V,U,R,O,M⟩:=I; go_simp; try with_reducible rfl
 try simp only [ac]
 clear D
 refine aa.one (i:=2) (o:=⟨some 5,_,_,_,_,_⟩) (by kernel_rfl) rfl (fun K J=>?_)
 go_simp
 with_reducible refine (dL (b8 q (n:Int) (ae.refl _) QL.out EN.out) f).mono ?_
 rintro e al ⟨rfl,G⟩
 go_wp2_with fail
 refine J.out _ _ (⟨(Eg.gp G).1,(Eg.gp G).2.1,(Eg.gp G).2.2.1,(Eg.gp G).2.2.2,(Eg.gq G).1,(Eg.gq G).2.1,(Eg.gq G).2.2.1,(Eg.gq G).2.2.2,(Eg.gg G).1,(Eg.gg G).2.1,(Eg.gg G).2.2.1,(Eg.gg G).2.2.2⟩) ?_
 clear J K
 try simp only [ac]
 clear f
 have f:=G
 clear G
 have D:=hid (And.intro (Eg.gp f).1 (And.intro (Eg.gp f).2.1 (And.intro (Eg.gp f).2.2.1 (And.intro (Eg.gp f).2.2.2 (And.intro (Eg.gq f).1 (And.intro (Eg.gq f).2.1 (And.intro (Eg.gq f).2.2.1 (And.intro (Eg.gq f).2.2.2 (And.intro (Eg.gg f).1 (And.intro (Eg.gg f).2.1 (And.intro (Eg.gg f).2.2.1 (Eg.gg f).2.2.2)))))))))))
 refine aa.q 3 ⟨some 6,_,_,_,_,_⟩ D.out ?_
 try simp only [ac]
 refine aa.q 4 ⟨some 7,_,_,_,_,_⟩ D.out ?_
 try simp only [ac]
 refine aa.q 5 ⟨some 8,_,_,_,_,_⟩ D.out ?_
 try simp only [ac]
 refine aa.tk (i:=6) (o:=⟨some 9,_,_,_,_,_⟩) (v:=?_) [] (y:=Or.inl ⟨by rfl,?_⟩) (s:=D.out) (H:=?_)
 rotate_left
 ·rintro w ⟨up,-,I⟩; (try dsimp only at I); obtain ⟨x0,x1,x2,x3,x4,Z,Y,V,U,R,O,M⟩:=I; go_simp; try with_reducible rfl
 try simp only [ac]
 clear D
 refine aa.one (i:=7) (o:=⟨some 10,_,_,_,_,_⟩) (by kernel_rfl) rfl (fun K J=>?_)
 go_simp
 with_reducible refine (dL (dh 1 1 (ae.refl _) (by decide) (by decide)) f).mono ?_
 rintro e ad ⟨rfl,F⟩
 go_wp2_with fail
 refine J.out _ _ (⟨(Eg.gp F).1,(Eg.gp F).2.1,(Eg.gp F).2.2.1,(Eg.gp F).2.2.2,(Eg.gq F).1,(Eg.gq F).2.1,(Eg.gq F).2.2.1,(Eg.gq F).2.2.2,(Eg.gg F).1,(Eg.gg F).2.1,(Eg.gg F).2.2.1,(Eg.gg F).2.2.2⟩) ?_
 clear J K
 try simp only [ac]
 clear f
 have f:=F
 clear F
 have D:=hid (And.intro (Eg.gp f).1 (And.intro (Eg.gp f).2.1 (And.intro (Eg.gp f).2.2.1 (And.intro (Eg.gp f).2.2.2 (And.intro (Eg.gq f).1 (And.intro (Eg.gq f).2.1 (And.intro (Eg.gq f).2.2.1 (And.intro (Eg.gq f).2.2.2 (And.intro (Eg.gg f).1 (And.intro (Eg.gg f).2.1 (And.intro (Eg.gg f).2.2.1 (Eg.gg f).2.2.2)))))))))))
 refine aa.q 8 ⟨some 11,_,_,_,_,_⟩ D.out ?_
 try simp only [ac]
 refine aa.q 9 ⟨some 12,_,_,_,_,_⟩ D.out ?_
 try simp only [ac]
 refine aa.q 10 ⟨some 13,_,_,_,_,_⟩ D.out ?_
 try simp only [ac]
 refine aa.tk (i:=11) (o:=⟨some 14,_,_,_,_,_⟩) (v:=?_) [] (y:=Or.inl ⟨by rfl,?_⟩) (s:=D.out) (H:=?_)
 rotate_left
 ·rintro w ⟨up,-,I⟩; (try dsimp only at I); obtain ⟨x0,x1,x2,x3,x4,Z,Y,V,U,R,O,M⟩:=I; go_simp; try with_reducible rfl
 try simp only [ac]
 refine aa.q 12 ⟨some 15,_,_,_,_,_⟩ D.out ?_
 try simp only [ac]
 refine aa.tk (i:=13) (o:=⟨some 16,_,_,_,_,_⟩) (v:=?_) [] (y:=Or.inl ⟨by rfl,?_⟩) (s:=D.out) (H:=?_)
 rotate_left
 ·rintro w ⟨up,-,I⟩; (try dsimp only at I); obtain ⟨x0,x1,x2,x3,x4,Z,Y,V,U,R,O,M⟩:=I; go_simp; try with_reducible rfl
 try simp only [ac]
 clear D
 refine aa.one (i:=14) (o:=⟨some 17,_,_,_,_,_⟩) (by kernel_rfl) rfl (fun K J=>?_)
 go_simp
 with_reducible refine (bc (in_any p q g g v _ PL.out QL.out GL.out VV.out) f).mono ?_
 rintro e ab ⟨rfl,E⟩
 go_wp2_with fail
 refine J.out _ _ (⟨(Eg.gp E).1,(Eg.gp E).2.1,(Eg.gp E).2.2.1,(Eg.gp E).2.2.2,(Eg.gq E).1,(Eg.gq E).2.1,(Eg.gq E).2.2.1,(Eg.gq E).2.2.2,(Eg.gg E).1,(Eg.gg E).2.1,(Eg.gg E).2.2.1,(Eg.gg E).2.2.2⟩) ?_
 clear J K
 try simp only [ac]
 clear f
 have f:=E
 clear E
 have D:=hid (And.intro (Eg.gp f).1 (And.intro (Eg.gp f).2.1 (And.intro (Eg.gp f).2.2.1 (And.intro (Eg.gp f).2.2.2 (And.intro (Eg.gq f).1 (And.intro (Eg.gq f).2.1 (And.intro (Eg.gq f).2.2.1 (And.intro (Eg.gq f).2.2.2 (And.intro (Eg.gg f).1 (And.intro (Eg.gg f).2.1 (And.intro (Eg.gg f).2.2.1 (Eg.gg f).2.2.2)))))))))))
 refine aa.q 15 ⟨some 18,_,_,_,_,_⟩ D.out ?_
 try simp only [ac]
 refine aa.q 16 ⟨some 2,_,_,_,_,_⟩ D.out ?_
 try simp only [ac]
 clear D
 refine aa.done (by kernel_rfl) ?_ _
 refine NoPanic.normal ?_
 go_wp2_with fail
 exact bodyPost_ret (v:=.bool v) (by simp [results,Tryz.results13,go_sem]) rfl ⟨rfl,f.1.1⟩
theorem fine_any (p q g:Nat) (v:Bool) (w:World) (D:p<2 ^ 256) (z:q<2 ^ 256) (E:g<2 ^ 256) (F:decide (1<q∧g≠1∧(0<g∧g<p)∧g ^ q % p=1)=v):Calls Tryz.prog 13 #[gv p q g] w fun e w'=>e=.returned (.bool v)∧Below w.heap.size w w':=by
 subst F
 by_cases h:1<q
 ·by_cases f:g=1
  ·rw [decide_eq_false (fun x=>x.2.1 f)]; exact fine_one p q g w D z E h f
  ·exact fine_in p q g _ w D z E h f (decide_eq_decide.2 ⟨fun x=>⟨h,f,x⟩,fun x=>x.2.2⟩)
 ·rw [decide_eq_false (fun x=>h x.1)]; exact fine_low p q g w D z E h
theorem grp_pos {p q x:Nat} (D:1<p) (z:q≠0) (h:x ^ q % p=1) (f:x<p):0<x∧x<p:=by
 refine ⟨Nat.pos_of_ne_zero fun e=>?_,f⟩
 subst e
 obtain ⟨k,rfl⟩:∃ k,q=k+1:=⟨q - 1,by omega⟩
 rw [law_nought] at h
 omega
theorem grp_mod {p x q:Nat} : (x % p) ^ q % p=x ^ q % p:=(Nat.pow_mod x q p).symm
theorem grp_mul {p q a b:Nat} (z:1<p) (f:a ^ q % p=1) (hb:b ^ q % p=1):(a * b % p) ^ q % p=1:=by
 rw [grp_mod,Nat.mul_pow,Nat.mul_mod,f,hb,Nat.mod_eq_of_lt (by omega)]
theorem grp_pow {p q a n:Nat} (f:1<p) (z:a ^ q % p=1):(a ^ n % p) ^ q % p=1:=by
 rw [grp_mod,← Nat.pow_mul,Nat.mul_comm,Nat.pow_mul,Nat.pow_mod,z,law_one n f]
theorem grp_add {p a n m:Nat} : a ^ n % p * (a ^ m % p) % p=a ^ (n+m) % p:=by
 rw [← Nat.mul_mod,← Nat.pow_add]
theorem grp_round {p q a n:Nat} (z:1<p) (f:a ^ q % p=1):a ^ (n+q) % p=a ^ n % p:=by
 rw [Nat.pow_add,Nat.mul_mod,f,Nat.mul_one,Nat.mod_mod]
theorem gmul_at (p q g a b r:Nat) (w:World) (f:p<2 ^ 256) (D:0<a∧a<p) (z:0<b∧b<p) (E:a * b % p=r):Calls Tryz.prog 50 #[gv p q g,af a,af b] w fun e w'=>e=.returned (.tuple #[af r,.int .i64 0])∧Below w.heap.size w w':=by
 subst E; exact gmul_some p q g a b w f (Nat.lt_trans D.2 f) (Nat.lt_trans z.2 f) D z
abbrev expo (gx:Nat):Value:=.func (.func 33) #[] #[.pointer (some ⟨gx,0,none⟩)]
theorem di (p q g:Nat) (w:World):Calls Tryz.prog 11 #[gv p q g] w fun e w'=>∃ f,e=.returned (expo f)∧Below w.heap.size w w'∧Gm w' f 26 p q g:=by
 go_enter Tryz.func11,Tryz.ntmps11
 go_wp2
 have z:=Gm.new w 26 p q g
 have hb:=(Below.refl w.heap.size w).alloc (Nat.le_refl _) (.cells (aY p q g) 26)
 exact bodyPost_ret (v:=expo w.heap.size) (by simp [results,Tryz.results11,go_sem]) rfl ⟨_,rfl,hb,z⟩
theorem dq (p q g x gx:Nat) (v:Bool) (w:World) (Z:q<2 ^ 256) (Y:x<2 ^ 256) (hG:Gm w gx 26 p q g) (hv:decide (x<q)=v):Calls Tryz.prog 33 #[af x,.pointer (some ⟨gx,0,none⟩)] w fun e w'=>e=.returned (.bool v)∧Below w.heap.size w w':=by
 obtain ⟨c,L⟩:∃ c,aD x q=c:=⟨_,rfl⟩
 have hc:(c<0)↔x<q:=by rw [← L]; unfold aD; split <;> (try split) <;> omega
 have EC:=hid L
 have HC:=hid hc
 have XL:=hid Y
 have QL:=hid Z
 have HG:=hid hG
 clear L hc Y Z hG
 have f:=hid (((ae.refl w).new x).perm (l':=[(w.heap.size,x)]) (by simp))
 go_enter Tryz.func33,Tryz.ntmps33
 go_upto_region 1 with fail
 generalize w.alloc (.cells (ai x) 24)=w0 at *
 generalize w.heap.size=z at *
 obtain ⟨V,U,R,O⟩:=f.out.cell z x (by simp)
 have E:=f.out.lt z x (by simp)
 have M:=Nat.le_of_lt E
 obtain ⟨J,I,G,F⟩:=(HG.out.on f.out.1).q
 have D:=(HG.out.on f.out.1).lt
 have K:=Nat.le_of_lt D
 go_wp2_with fail
 clear V U R O E M J I G F D K
 refine (cmp_at x q c f.out XL.out QL.out EC.out).mono ?_
 rintro e w1 ⟨rfl,h⟩
 have H1:=hid h
 clear h f
 go_wp2
 exact bodyPost_ret (v:=.bool (decide (c<0))) (by simp [results,Tryz.results33,go_sem]) rfl ⟨by rw [← hv,show decide (c<0)=decide (x<q) from decide_eq_decide.2 HC.out],H1.out.1⟩
theorem key_zero (p q g x:Nat) (w:World) (O:p<2 ^ 256) (M:q<2 ^ 256) (R:g<2 ^ 256) (K:x<2 ^ 256) (L:x=0):Calls Tryz.prog 4 #[gv p q g,af x] w fun e w'=>e=.returned (.tuple #[af 0,.int .i64 1])∧Below w.heap.size w w':=by
 have EN:Hid ((aq x:Int)=0):=hid (by rw [L]; rfl)
 clear L
 have PL:=hid O
 have QL:=hid M
 have GL:=hid R
 have XL:=hid K
 clear O M R K
 have E:=hid (((((Eg.of (ae.refl w) p q g 26)).new x).zero).perm (l':=[(w.heap.size+1+1,0),(w.heap.size+1,x)]) (by simp))
 have DZ:=hid (show w.heap.size≤w.heap.size+1+1∧w.heap.size≠w.heap.size+1+1 by omega)
 go_enter Tryz.func4,Tryz.ntmps4
 go_upto_region 1 with fail
 generalize ((w.alloc (.cells (aY p q g) 26)).alloc (.cells (ai x) 24)).alloc (.cells #[.int .u64 0,.int .u64 0,.int .u64 0,.int .u64 0] 24)=w0 at *
 generalize w.heap.size+1+1=f at *
 generalize w.heap.size+1=D at *
 generalize z:w.heap.size=ab at *
 obtain ⟨bQ,bP,bO,bN⟩:=E.out.gp
 obtain ⟨cQ,cP,cO,cN⟩:=E.out.gq
 obtain ⟨cU,cT,cS,cR⟩:=E.out.gg
 have V:=E.out.gl
 have bR:=Nat.le_of_lt V
 go_wp2_with fail
 clear bQ bP bO bN cQ cP cO cN cU cT cS cR V bR
 refine (di p q g _).mono ?_
 rintro e w1 ⟨gx,rfl,hb,F⟩
 have J:=hid (E.out.on hb)
 have HX:=hid F
 have I:=hid ((Eg.base J.out.2).hav (J.out.nm D x (by simp)))
 clear hb F E
 obtain ⟨aU,aT,aS,aR⟩:=I.out.cell (D) (x) (by simp)
 have U:=I.out.lt (D) (x) (by simp)
 have aQ:=Nat.le_of_lt U
 go_wp2_with fail
 clear aU aT aS aR U aQ
 refine (dL (b8 x 0 (ae.refl _) XL.out EN.out) I.out).mono ?_
 rintro e w2 ⟨rfl,h⟩
 have H2:=hid h
 clear h I
 have G:=hid (J.out.on H2.out.old)
 obtain ⟨z0,z1,z2,z3⟩:=G.out.cell f 0 (by simp)
 have Z:=G.out.lt f 0 (by simp)
 have zf:=G.out.frozen f 0 (by simp)
 have Y:=hid (G.out.1.set f 0 (0) [] (by simp) (by rw [z]; exact DZ.out.1) (by simp))
 go_wp2
 clear z0 z1 z2 z3 Z zf
 try rw [Exit.noGoto_ret]
 change bodyPost _ _ _ _ _ (fil w2 f (0))
 generalize fil w2 f (0)=wz at *
 obtain ⟨k0,k1,k2,k3⟩:=Y.out.cell f (0) (by simp)
 exact bodyPost_ret (v:=.tuple #[af (0),.int .i64 1]) (by simp [results,Tryz.results4,go_sem,k0,k1,k2,k3]) rfl ⟨rfl,Y.out.1⟩
theorem key_above (p q g x:Nat) (w:World) (U:p<2 ^ 256) (R:q<2 ^ 256) (V:g<2 ^ 256) (M:x<2 ^ 256) (O:x≠0∧¬ x<q):Calls Tryz.prog 4 #[gv p q g,af x] w fun e w'=>e=.returned (.tuple #[af 0,.int .i64 1])∧Below w.heap.size w w':=by
 obtain ⟨n,K⟩:∃ n,aq x=n:=⟨_,rfl⟩
 have hn:0<n:=by rw [← K]; exact cL x (by omega)
 have EN:=hid (show (aq x:Int)=(n:Int) by rw [K])
 have c1:¬ (n:Int)=0:=by omega
 have c2:¬ n=0:=by omega
 have cb:decide ((n:Int)=0)=false:=decide_eq_false c1
 have cc:((n:Int) == 0)=false:=by simpa using c2
 clear hn K
 have VX:Hid (decide (x<q)=false):=hid (decide_eq_false O.2)
 clear O
 have PL:=hid U
 have QL:=hid R
 have GL:=hid V
 have XL:=hid M
 clear U R V M
 have E:=hid (((((Eg.of (ae.refl w) p q g 26)).new x).zero).perm (l':=[(w.heap.size+1+1,0),(w.heap.size+1,x)]) (by simp))
 have DZ:=hid (show w.heap.size≤w.heap.size+1+1∧w.heap.size≠w.heap.size+1+1 by omega)
 go_enter Tryz.func4,Tryz.ntmps4
 go_upto_region 1 with fail
 generalize ((w.alloc (.cells (aY p q g) 26)).alloc (.cells (ai x) 24)).alloc (.cells #[.int .u64 0,.int .u64 0,.int .u64 0,.int .u64 0] 24)=w0 at *
 generalize w.heap.size+1+1=f at *
 generalize w.heap.size+1=z at *
 generalize D:w.heap.size=ab at *
 obtain ⟨bQ,bP,bO,bN⟩:=E.out.gp
 obtain ⟨cQ,cP,cO,cN⟩:=E.out.gq
 obtain ⟨cU,cT,cS,cR⟩:=E.out.gg
 have Z:=E.out.gl
 have bR:=Nat.le_of_lt Z
 go_wp2_with fail
 clear bQ bP bO bN cQ cP cO cN cU cT cS cR Z bR
 refine (di p q g _).mono ?_
 rintro e w1 ⟨gx,rfl,hb,F⟩
 have L:=hid (E.out.on hb)
 have HX:=hid F
 have J:=hid ((Eg.base L.out.2).hav (L.out.nm z x (by simp)))
 clear hb F E
 obtain ⟨aU,aT,aS,aR⟩:=J.out.cell (z) (x) (by simp)
 have Y:=J.out.lt (z) (x) (by simp)
 have aQ:=Nat.le_of_lt Y
 go_wp2_with fail
 clear aU aT aS aR Y aQ
 refine (dL (b8 x (n:Int) (ae.refl _) XL.out EN.out) J.out).mono ?_
 rintro e w2 ⟨rfl,h⟩
 have G:=hid h
 clear h J
 obtain ⟨bq,bp,bo,bn⟩:=G.out.cell (z) (x) (by simp)
 have aC:=G.out.lt (z) (x) (by simp)
 have bm:=Nat.le_of_lt aC
 go_wp2_with fail
 clear bq bp bo bn aC bm
 refine (bc (dq p q g x gx false _ QL.out XL.out (HX.out.on G.out.old) VX.out) G.out).mono ?_
 rintro e w3 ⟨rfl,h⟩
 have H3:=hid h
 clear h G
 have I:=hid (L.out.on H3.out.old)
 obtain ⟨z0,z1,z2,z3⟩:=I.out.cell f 0 (by simp)
 have zl:=I.out.lt f 0 (by simp)
 have zf:=I.out.frozen f 0 (by simp)
 have HZ:=hid (I.out.1.set f 0 (0) [] (by simp) (by rw [D]; exact DZ.out.1) (by simp))
 go_wp2
 clear z0 z1 z2 z3 zl zf
 try rw [Exit.noGoto_ret]
 change bodyPost _ _ _ _ _ (fil w3 f (0))
 generalize fil w3 f (0)=wz at *
 obtain ⟨k0,k1,k2,k3⟩:=HZ.out.cell f (0) (by simp)
 exact bodyPost_ret (v:=.tuple #[af (0),.int .i64 1]) (by simp [results,Tryz.results4,go_sem,k0,k1,k2,k3]) rfl ⟨rfl,HZ.out.1⟩
theorem key_unfine (p q g x:Nat) (w:World) (hp:p<2 ^ 256) (hq:q<2 ^ 256) (hg:g<2 ^ 256) (hx:x<2 ^ 256) (hv:x≠0∧x<q∧¬ (1<q∧g≠1∧(0<g∧g<p)∧g ^ q % p=1)):Calls Tryz.prog 4 #[gv p q g,af x] w fun e w'=>e=.returned (.tuple #[af 0,.int .i64 1])∧Below w.heap.size w w':=by
 obtain ⟨n,en⟩:∃ n,aq x=n:=⟨_,rfl⟩
 have hn:0<n:=by rw [← en]; exact cL x (by omega)
 have EN:=hid (show (aq x:Int)=(n:Int) by rw [en])
 have c1:¬ (n:Int)=0:=by omega
 have c2:¬ n=0:=by omega
 have cb:decide ((n:Int)=0)=false:=decide_eq_false c1
 have cc:((n:Int) == 0)=false:=by simpa using c2
 clear hn en
 have VX:Hid (decide (x<q)=true):=hid (decide_eq_true hv.2.1)
 have VF:Hid (decide (1<q∧g≠1∧(0<g∧g<p)∧g ^ q % p=1)=false):=hid (decide_eq_false hv.2.2)
 clear hv
 have PL:=hid hp
 have QL:=hid hq
 have GL:=hid hg
 have XL:=hid hx
 clear hp hq hg hx
 have G:=hid (((((Eg.of (ae.refl w) p q g 26)).new x).zero).perm (l':=[(w.heap.size+1+1,0),(w.heap.size+1,x)]) (by simp))
 have DZ:=hid (show w.heap.size≤w.heap.size+1+1∧w.heap.size≠w.heap.size+1+1 by omega)
 go_enter Tryz.func4,Tryz.ntmps4
 go_upto_region 1 with fail
 generalize ((w.alloc (.cells (aY p q g) 26)).alloc (.cells (ai x) 24)).alloc (.cells #[.int .u64 0,.int .u64 0,.int .u64 0,.int .u64 0] 24)=w0 at *
 generalize w.heap.size+1+1=f at *
 generalize w.heap.size+1=z at *
 generalize E:w.heap.size=an at *
 obtain ⟨bQ,bP,bO,bN⟩:=G.out.gp
 obtain ⟨cQ,cP,cO,cN⟩:=G.out.gq
 obtain ⟨cU,cT,cS,cR⟩:=G.out.gg
 have aW:=G.out.gl
 have bR:=Nat.le_of_lt aW
 go_wp2_with fail
 clear bQ bP bO bN cQ cP cO cN cU cT cS cR aW bR
 refine (di p q g _).mono ?_
 rintro e w1 ⟨gx,rfl,hb,I⟩
 have HK:=hid (G.out.on hb)
 have HX:=hid I
 have H1:=hid ((Eg.base HK.out.2).hav (HK.out.nm z x (by simp)))
 clear hb I G
 obtain ⟨aU,aT,aS,aR⟩:=H1.out.cell (z) (x) (by simp)
 have ay:=H1.out.lt (z) (x) (by simp)
 have aQ:=Nat.le_of_lt ay
 go_wp2_with fail
 clear aU aT aS aR ay aQ
 refine (dL (b8 x (n:Int) (ae.refl _) XL.out EN.out) H1.out).mono ?_
 rintro e w2 ⟨rfl,h⟩
 have H2:=hid h
 clear h H1
 obtain ⟨bq,bp,bo,bn⟩:=H2.out.cell (z) (x) (by simp)
 have aC:=H2.out.lt (z) (x) (by simp)
 have bm:=Nat.le_of_lt aC
 go_wp2_with fail
 clear bq bp bo bn aC bm
 refine (bc (dq p q g x gx true _ QL.out XL.out (HX.out.on H2.out.old) VX.out) H2.out).mono ?_
 rintro e w3 ⟨rfl,h⟩
 have F:=hid h
 clear h H2
 obtain ⟨V,U,R,O⟩:=F.out.gp
 obtain ⟨M,L,K,J⟩:=F.out.gq
 obtain ⟨al,ad,ab,Z⟩:=F.out.gg
 have D:=F.out.gl
 have Y:=Nat.le_of_lt D
 go_wp2_with fail
 clear V U R O M L K J al ad ab Z D Y
 refine (bc (fine_any p q g false _ PL.out QL.out GL.out VF.out) F.out).mono ?_
 rintro e w4 ⟨rfl,h⟩
 have H4:=hid h
 clear h F
 have HE:=hid (HK.out.on H4.out.old)
 obtain ⟨z0,z1,z2,z3⟩:=HE.out.cell f 0 (by simp)
 have zl:=HE.out.lt f 0 (by simp)
 have zf:=HE.out.frozen f 0 (by simp)
 have HZ:=hid (HE.out.1.set f 0 (0) [] (by simp) (by rw [E]; exact DZ.out.1) (by simp))
 go_wp2
 clear z0 z1 z2 z3 zl zf
 try rw [Exit.noGoto_ret]
 change bodyPost _ _ _ _ _ (fil w4 f (0))
 generalize fil w4 f (0)=wz at *
 obtain ⟨k0,k1,k2,k3⟩:=HZ.out.cell f (0) (by simp)
 exact bodyPost_ret (v:=.tuple #[af (0),.int .i64 1]) (by simp [results,Tryz.results4,go_sem,k0,k1,k2,k3]) rfl ⟨rfl,HZ.out.1⟩
theorem key_ok (p q g x r:Nat) (w:World) (hp:p<2 ^ 256) (hq:q<2 ^ 256) (hg:g<2 ^ 256) (hx:x<2 ^ 256) (hv:x≠0∧x<q∧1<q∧g≠1∧(0<g∧g<p)∧g ^ q % p=1) (hr:g ^ x % p=r):Calls Tryz.prog 4 #[gv p q g,af x] w fun e w'=>e=.returned (.tuple #[af r,.int .i64 0])∧Below w.heap.size w w':=by
 obtain ⟨n,en⟩:∃ n,aq x=n:=⟨_,rfl⟩
 have hn:0<n:=by rw [← en]; exact cL x (by omega)
 have EN:=hid (show (aq x:Int)=(n:Int) by rw [en])
 have c1:¬ (n:Int)=0:=by omega
 have c2:¬ n=0:=by omega
 have cb:decide ((n:Int)=0)=false:=decide_eq_false c1
 have cc:((n:Int) == 0)=false:=by simpa using c2
 clear hn en
 have VX:Hid (decide (x<q)=true):=hid (decide_eq_true hv.2.1)
 have VF:Hid (decide (1<q∧g≠1∧(0<g∧g<p)∧g ^ q % p=1)=true):=hid (decide_eq_true hv.2.2)
 have VA:=hid hv.2.2.2.2.1
 have ER:=hid hr
 clear hr
 clear hv
 have PL:=hid hp
 have QL:=hid hq
 have GL:=hid hg
 have XL:=hid hx
 clear hp hq hg hx
 have U:=hid (((((Eg.of (ae.refl w) p q g 26)).new x).zero).perm (l':=[(w.heap.size+1+1,0),(w.heap.size+1,x)]) (by simp))
 have DZ:=hid (show w.heap.size≤w.heap.size+1+1∧w.heap.size≠w.heap.size+1+1 by omega)
 go_enter Tryz.func4,Tryz.ntmps4
 go_upto_region 1 with fail
 generalize ((w.alloc (.cells (aY p q g) 26)).alloc (.cells (ai x) 24)).alloc (.cells #[.int .u64 0,.int .u64 0,.int .u64 0,.int .u64 0] 24)=w0 at *
 generalize w.heap.size+1+1=f at *
 generalize w.heap.size+1=z at *
 generalize O:w.heap.size=bv at *
 obtain ⟨bQ,bP,bO,bN⟩:=U.out.gp
 obtain ⟨cQ,cP,cO,cN⟩:=U.out.gq
 obtain ⟨cU,cT,cS,cR⟩:=U.out.gg
 have aW:=U.out.gl
 have bR:=Nat.le_of_lt aW
 go_wp2_with fail
 clear bQ bP bO bN cQ cP cO cN cU cT cS cR aW bR
 refine (di p q g _).mono ?_
 rintro e w1 ⟨gx,rfl,hb,V⟩
 have HK:=hid (U.out.on hb)
 have HX:=hid V
 have H1:=hid ((Eg.base HK.out.2).hav (HK.out.nm z x (by simp)))
 clear hb V U
 obtain ⟨aU,aT,aS,aR⟩:=H1.out.cell (z) (x) (by simp)
 have ay:=H1.out.lt (z) (x) (by simp)
 have aQ:=Nat.le_of_lt ay
 go_wp2_with fail
 clear aU aT aS aR ay aQ
 refine (dL (b8 x (n:Int) (ae.refl _) XL.out EN.out) H1.out).mono ?_
 rintro e w2 ⟨rfl,h⟩
 have H2:=hid h
 clear h H1
 obtain ⟨bq,bp,bo,bn⟩:=H2.out.cell (z) (x) (by simp)
 have aC:=H2.out.lt (z) (x) (by simp)
 have bm:=Nat.le_of_lt aC
 go_wp2_with fail
 clear bq bp bo bn aC bm
 refine (bc (dq p q g x gx true _ QL.out XL.out (HX.out.on H2.out.old) VX.out) H2.out).mono ?_
 rintro e w3 ⟨rfl,h⟩
 have R:=hid h
 clear h H2
 obtain ⟨aI,aG,aE,aB⟩:=R.out.gp
 obtain ⟨ap,ao,an,al⟩:=R.out.gq
 obtain ⟨bu,bk,bd,bb⟩:=R.out.gg
 have L:=R.out.gl
 have ba:=Nat.le_of_lt L
 go_wp2_with fail
 clear aI aG aE aB ap ao an al bu bk bd bb L ba
 refine (bc (fine_any p q g true _ PL.out QL.out GL.out VF.out) R.out).mono ?_
 rintro e w4 ⟨rfl,h⟩
 have M:=hid h
 clear h R
 obtain ⟨aA,az,ax,ar⟩:=M.out.gp
 obtain ⟨ad,ab,Z,Y⟩:=M.out.gq
 obtain ⟨aN,aM,aL,aK⟩:=M.out.gg
 have K:=M.out.gl
 have aJ:=Nat.le_of_lt K
 obtain ⟨J,I,G,F⟩:=M.out.cell (z) (x) (by simp)
 have D:=M.out.lt (z) (x) (by simp)
 have E:=Nat.le_of_lt D
 go_wp2_with fail
 clear aA az ax ar ad ab Z Y aN aM aL aK K aJ J I G F D E
 refine (bc (gexp_any p q g g x r _ PL.out XL.out VA.out ER.out) M.out).mono ?_
 rintro e w5 ⟨rfl,h⟩
 have H5:=hid h
 clear h M
 have HE:=hid (HK.out.on H5.out.old)
 obtain ⟨z0,z1,z2,z3⟩:=HE.out.cell f 0 (by simp)
 have zl:=HE.out.lt f 0 (by simp)
 have zf:=HE.out.frozen f 0 (by simp)
 have HZ:=hid (HE.out.1.set f 0 (r) [] (by simp) (by rw [O]; exact DZ.out.1) (by simp))
 go_wp2
 clear z0 z1 z2 z3 zl zf
 try rw [Exit.noGoto_ret]
 change bodyPost _ _ _ _ _ (fil w5 f (r))
 generalize fil w5 f (r)=wz at *
 obtain ⟨k0,k1,k2,k3⟩:=HZ.out.cell f (r) (by simp)
 exact bodyPost_ret (v:=.tuple #[af (r),.int .i64 0]) (by simp [results,Tryz.results4,go_sem,k0,k1,k2,k3]) rfl ⟨rfl,HZ.out.1⟩
def Sec (p q g x:Nat):Prop:=x≠0∧x<q∧1<q∧g≠1∧(0<g∧g<p)∧g ^ q % p=1
theorem key_none (p q g x:Nat) (w:World) (E:p<2 ^ 256) (D:q<2 ^ 256) (F:g<2 ^ 256) (z:x<2 ^ 256) (I:¬ Sec p q g x):Calls Tryz.prog 4 #[gv p q g,af x] w fun e w'=>e=.returned (.tuple #[af 0,.int .i64 1])∧Below w.heap.size w w':=by
 by_cases f:x=0
 ·exact key_zero p q g x w E D F z f
 by_cases G:x<q
 ·exact key_unfine p q g x w E D F z ⟨f,G,fun h=>I ⟨f,G,h⟩⟩
 ·exact key_above p q g x w E D F z ⟨f,G⟩
end
end Go.Proofs.YtmapkbdjnnionaaGreatDoor
