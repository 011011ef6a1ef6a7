import Derived.Test.YtmapkbdjnnionaaGreatDoorPzBJ
import Derived.Test.YtmapkbdjnnionaaGreatDoorPzAQ
import Derived.Test.YtmapkbdjnnionaaGreatDoorPzAH
import Derived.Test.YtmapkbdjnnionaaGreatDoorPzAS
set_option maxRecDepth 100000
set_option maxHeartbeats 8000000
set_option linter.all false
namespace Go.Proofs.YtmapkbdjnnionaaGreatDoor
section
open Go.RowKit
theorem rwd_one {p:Nat} (h:p<18446744073709551616):wd p 0=p:=by
 unfold wd; rw [Nat.pow_zero,Nat.div_one,Nat.mod_eq_of_lt h]
theorem rword_yes (a:Nat) (w:World) (ha:a<2 ^ 256) (h:a<18446744073709551616):Calls Tryz.prog 55 #[af a] w fun e w'=>e=.returned (.bool true)∧Below w.heap.size w w':=by
 have U:=aO a 0
 have e:wd a 0=a:=rwd_one h
 have q1:=eq_yes a (wd a 0) e.symm
 have HW:=hid U
 clear U ha h e
 have H0:=hid (((ae.refl w).new a).perm (l':=[(w.heap.size,a)]) (by simp))
 go_enter Tryz.func55,Tryz.ntmps55
 go_wp2_with fail
 generalize w.alloc (.cells (ai a) 24)=w0 at *
 generalize G:w.heap.size=f at *
 go_upto_region 1 with fail
 have z:=H0.out.drew
 refine wp_region_noPanic ?_
 refine aa.region (fun (L:Array Bool) (w':World)=>w'.cell? ⟨f,0,none⟩=some (.int .u64 (wd (a) 0:Int))∧w'.cell? ⟨f,1,none⟩=some (.int .u64 (wd (a) 1:Int))∧w'.cell? ⟨f,2,none⟩=some (.int .u64 (wd (a) 2:Int))∧w'.cell? ⟨f,3,none⟩=some (.int .u64 (wd (a) 3:Int))) (by kernel_rfl) ?_
 generalize w0.drew=Z at *
 have E:=hid (And.intro (ae.cell z f (a) (by simp)).1 (And.intro (ae.cell z f (a) (by simp)).2.1 (And.intro (ae.cell z f (a) (by simp)).2.2.1 (ae.cell z f (a) (by simp)).2.2.2)))
 refine aa.tk (i:=0) (o:=⟨some 3,_,_,_,_,_⟩) (v:=?_) [] (y:=Or.inl ⟨by rfl,?_⟩) (s:=E.out) (H:=?_)
 rotate_left
 ·rintro w ⟨R,-,D⟩; (try dsimp only at D); obtain ⟨O,M,J,I⟩:=D; go_simp; try with_reducible rfl
 try simp only [ac]
 refine aa.tk (i:=1) (o:=⟨some 4,_,_,_,_,_⟩) (v:=?_) [] (y:=Or.inl ⟨by rfl,?_⟩) (s:=E.out) (H:=?_)
 rotate_left
 ·rintro w ⟨R,-,D⟩; (try dsimp only at D); obtain ⟨O,M,J,I⟩:=D; go_simp; try with_reducible rfl
 try simp only [ac]
 refine aa.tk (i:=2) (o:=⟨some 5,_,_,_,_,_⟩) (v:=?_) [] (y:=Or.inl ⟨by rfl,?_⟩) (s:=E.out) (H:=?_)
 rotate_left
 ·rintro w ⟨R,-,D⟩; (try dsimp only at D); obtain ⟨O,M,J,I⟩:=D; go_simp; try with_reducible rfl
 try simp only [ac]
 clear E
 refine aa.one (i:=3) (o:=⟨some 6,_,_,_,_,_⟩) (by kernel_rfl) rfl (fun K V=>?_)
 go_simp
 with_reducible refine (ah (rof_any (wd a 0) _ HW.out) z).mono ?_
 rintro e Y ⟨rfl,F⟩
 go_wp2_with fail
 refine V.out _ _ (⟨(ae.cell F f (a) (by simp)).1,(ae.cell F f (a) (by simp)).2.1,(ae.cell F f (a) (by simp)).2.2.1,(ae.cell F f (a) (by simp)).2.2.2⟩) ?_
 clear V K
 try simp only [ac]
 clear z
 have z:=F
 clear F
 have E:=hid (And.intro (ae.cell z f (a) (by simp)).1 (And.intro (ae.cell z f (a) (by simp)).2.1 (And.intro (ae.cell z f (a) (by simp)).2.2.1 (ae.cell z f (a) (by simp)).2.2.2)))
 refine aa.q 4 ⟨some 7,_,_,_,_,_⟩ E.out ?_
 try simp only [ac]
 refine aa.q 5 ⟨some 2,_,_,_,_,_⟩ E.out ?_
 try simp only [ac]
 clear E
 refine aa.done (by kernel_rfl) ?_ _
 refine NoPanic.normal ?_
 go_wp2_with fail
 exact bodyPost_ret (v:=.bool true) (by simp [results,Tryz.results55,go_sem]) rfl ⟨rfl,z.1⟩
theorem rword_no (a:Nat) (w:World) (V:a<2 ^ 256) (h:18446744073709551616≤a):Calls Tryz.prog 55 #[af a] w fun e w'=>e=.returned (.bool false)∧Below w.heap.size w w':=by
 have I:=aO a 0
 have q1:=eq_no a (wd a 0) V (Nat.lt_trans I (by decide)) (by omega)
 have HW:=hid I
 clear I V h
 have H0:=hid (((ae.refl w).new a).perm (l':=[(w.heap.size,a)]) (by simp))
 go_enter Tryz.func55,Tryz.ntmps55
 go_wp2_with fail
 generalize w.alloc (.cells (ai a) 24)=w0 at *
 generalize G:w.heap.size=f at *
 go_upto_region 1 with fail
 have z:=H0.out.drew
 refine wp_region_noPanic ?_
 refine aa.region (fun (L:Array Bool) (w':World)=>w'.cell? ⟨f,0,none⟩=some (.int .u64 (wd (a) 0:Int))∧w'.cell? ⟨f,1,none⟩=some (.int .u64 (wd (a) 1:Int))∧w'.cell? ⟨f,2,none⟩=some (.int .u64 (wd (a) 2:Int))∧w'.cell? ⟨f,3,none⟩=some (.int .u64 (wd (a) 3:Int))) (by kernel_rfl) ?_
 generalize w0.drew=ab at *
 have E:=hid (And.intro (ae.cell z f (a) (by simp)).1 (And.intro (ae.cell z f (a) (by simp)).2.1 (And.intro (ae.cell z f (a) (by simp)).2.2.1 (ae.cell z f (a) (by simp)).2.2.2)))
 refine aa.tk (i:=0) (o:=⟨some 3,_,_,_,_,_⟩) (v:=?_) [] (y:=Or.inl ⟨by rfl,?_⟩) (s:=E.out) (H:=?_)
 rotate_left
 ·rintro w ⟨U,-,D⟩; (try dsimp only at D); obtain ⟨R,O,M,J⟩:=D; go_simp; try with_reducible rfl
 try simp only [ac]
 refine aa.tk (i:=1) (o:=⟨some 4,_,_,_,_,_⟩) (v:=?_) [] (y:=Or.inl ⟨by rfl,?_⟩) (s:=E.out) (H:=?_)
 rotate_left
 ·rintro w ⟨U,-,D⟩; (try dsimp only at D); obtain ⟨R,O,M,J⟩:=D; go_simp; try with_reducible rfl
 try simp only [ac]
 refine aa.tk (i:=2) (o:=⟨some 5,_,_,_,_,_⟩) (v:=?_) [] (y:=Or.inl ⟨by rfl,?_⟩) (s:=E.out) (H:=?_)
 rotate_left
 ·rintro w ⟨U,-,D⟩; (try dsimp only at D); obtain ⟨R,O,M,J⟩:=D; go_simp; try with_reducible rfl
 try simp only [ac]
 clear E
 refine aa.one (i:=3) (o:=⟨some 6,_,_,_,_,_⟩) (by kernel_rfl) rfl (fun K Y=>?_)
 go_simp
 with_reducible refine (ah (rof_any (wd a 0) _ HW.out) z).mono ?_
 rintro e Z ⟨rfl,F⟩
 go_wp2_with fail
 refine Y.out _ _ (⟨(ae.cell F f (a) (by simp)).1,(ae.cell F f (a) (by simp)).2.1,(ae.cell F f (a) (by simp)).2.2.1,(ae.cell F f (a) (by simp)).2.2.2⟩) ?_
 clear Y K
 try simp only [ac]
 clear z
 have z:=F
 clear F
 have E:=hid (And.intro (ae.cell z f (a) (by simp)).1 (And.intro (ae.cell z f (a) (by simp)).2.1 (And.intro (ae.cell z f (a) (by simp)).2.2.1 (ae.cell z f (a) (by simp)).2.2.2)))
 refine aa.q 4 ⟨some 7,_,_,_,_,_⟩ E.out ?_
 try simp only [ac]
 refine aa.q 5 ⟨some 2,_,_,_,_,_⟩ E.out ?_
 try simp only [ac]
 clear E
 refine aa.done (by kernel_rfl) ?_ _
 refine NoPanic.normal ?_
 go_wp2_with fail
 exact bodyPost_ret (v:=.bool false) (by simp [results,Tryz.results55,go_sem]) rfl ⟨rfl,z.1⟩
theorem rword_any (a:Nat) (v:Bool) (w:World) (f:a<2 ^ 256) (z:decide (a<18446744073709551616)=v):Calls Tryz.prog 55 #[af a] w fun e w'=>e=.returned (.bool v)∧Below w.heap.size w w':=by
 subst z
 by_cases h:a<18446744073709551616
 ·rw [decide_eq_true h]; exact rword_yes a w f h
 ·rw [decide_eq_false h]; exact rword_no a w f (by omega)
theorem rget_at (A:Option Addr) (c n K t:Nat) (bs:List UInt8) (w:World) (D:bs.length=n) (z:Rd w A bs) (hc:n≤c) (G:c≤9223372036854775807) (F:K≤8) (E:K≤n) (f:aF (bs.take K)=t) :
  Calls Tryz.prog 113 #[.slice A n c,.int .i64 (K:Int)] w (Says2 w (t:Int) 0):=by
 subst D; subst f; exact rget_ok A c K bs w z hc G F E
theorem rwords_any (A:Option Addr) (c K m R:Nat) (bs:List UInt8) (w:World) (hl:bs.length=8 * K) (hr:Rd w A bs) (hA:A=none→c=0) (hc:bs.length≤c) (dm:c≤9223372036854775807) (hK:K≤1000000) (J:0<m) (hm:m<18446744073709551616) (hR:aF bs % m=R) :
  Calls Tryz.prog 94 #[.slice A bs.length c,.int .u64 (m:Int)] w fun e w'=>e=.returned (.int .u64 (R:Int))∧Below w.heap.size w w':=by
 have HR:=hid hr
 have HM:=hid hm
 have H0:=hid J
 have HC:=hid hc
 have al:=hid dm
 have HL:=hid hl
 have HA:=hid hA
 have an:=hid hR
 have hn:bs.length≤8000000:=by omega
 obtain ⟨n,U⟩:∃ n,bs.length=n:=⟨_,rfl⟩
 rw [U] at hn
 have G:=hid U
 clear hr hm J hc dm hl hA hR
 rw [U]
 clear U
 go_enter Tryz.func94,Tryz.ntmps94
 go_wp2_with fail
 go_loopw [5,6] (fun s5 s6 wr=>∃ j p r:Nat,Hid (p=8 * j∧j≤K)∧s6=.int .i64 (p:Int)∧s5=.int .u64 (r:Int)∧Hid (r=aF (bs.take p) % m)∧Hid (Below w.heap.size w wr)) (fun _ s _=>n - (intOf s).toNat)
 case atStart=>exact ⟨0,0,0,hid ⟨rfl,by omega⟩,rfl,rfl,hid (by simp [aF]),hid (Below.refl _ _)⟩
 case round =>
  obtain ⟨j,p,r,Z,rfl,rfl,P,H⟩:=hrel
  by_cases h:j=K
  ·have I:p=n:=by have:=G.out; have:=HL.out; have:=Z.out; omega
   have ao:¬ ((p:Int)<(n:Int)):=by omega
   have PE:=hid (show r=R by rw [← an.out,P.out,I,← G.out,List.take_length])
   clear I h
   go_wp2
   exact bodyPost_ret (v:=.int .u64 (r:Int)) (by simp [results,Tryz.results94,go_sem]) rfl ⟨by rw [PE.out],H.out⟩
  ·have ar:p+8≤n:=by have:=G.out; have:=HL.out; have:=Z.out; omega
   have ap:(p:Int)<(n:Int):=by omega
   have i1:p≤n:=by omega
   have i2:(p:Int)≤(n:Int):=by omega
   have i3:(0:Int)≤(p:Int):=by omega
   have i5:IntKind.i64.wrap (p:Int)=(p:Int):=IntWalk.i64_in _ (by omega)
   have i4:IntKind.i64.wrap ((p:Int)+8)=((p+8:Nat):Int):=by rw [IntWalk.i64_in _ (by omega)]; omega
   have Y:p<bs.length:=by have:=G.out; omega
   obtain ⟨g,o,M,hg,cH⟩:=HR.out (by omega)
   have hcut:Hid (Rd w (some ⟨g,o+p,none⟩) (bs.drop p)):=hid (HR.out.cut p _ (fun ad f _=>by rw [M] at f; injection f with f; subst f; rw [cg]))
   have E:((bs.drop p).take 8).length=8:=by simp; have:=G.out; omega
   have HT:=hid (show aF (bs.take (p+8))=aF (bs.take p) * 18446744073709551616+aF ((bs.drop p).take 8) by
    have e:bs.take (p+8)=bs.take p ++ (bs.drop p).take 8:=by rw [List.take_add]
    rw [e,tell_append,E])
   have RL:=hid (show r<m by rw [P.out]; exact Nat.mod_lt _ H0.out)
   obtain ⟨t,O⟩:∃ t,aF ((bs.drop p).take 8)=t:=⟨_,rfl⟩
   have TL:=hid (show t<18446744073709551616 by
    have:=tell_lt ((bs.drop p).take 8)
    rw [E,O] at this; exact this)
   obtain ⟨V,er⟩:∃ z,(r * 18446744073709551616+t) % m=z:=⟨_,rfl⟩
   have ER:=hid er
   have P2:=hid (show V=aF (bs.take (p+8)) % m by rw [HT.out,O,← er,P.out,Nat.add_mod,Nat.mod_mul_mod,← Nat.add_mod])
   have ET:=hid O
   have ab:Hid (((bs.drop p).length:Nat)=n - p):=hid (by simp; rw [G.out])
   have HQ:Hid (p+8=8 * (j+1)∧j+1≤K):=hid (by have:=Z.out; omega)
   have L:Hid (n≤c):=hid (by have:=HC.out; rw [G.out] at this; exact this)
   subst M
   have ax:¬ c=p:=by have:=L.out; omega
   have D:c - p≤9223372036854775807∧n - p≤c - p∧8≤n - p:=by have:=L.out; have:=al.out; omega
   have F:=hid D
   clear er O cH E Y h D
   go_wp2_with fail
   refine (rget_at (some ⟨g,o+p,none⟩) (c - p) (n - p) 8 t (bs.drop p) wr ab.out (hcut.out.below H.out (Nat.le_refl _)) F.out.2.1 F.out.1 (by omega) F.out.2.2 ET.out).mono ?_
   rintro e w1 ⟨rfl,q,rfl⟩
   have H1:=hid (below_drewN H.out q)
   go_wp2_with fail
   refine (div64_any r t m _ V _ (Nat.lt_of_lt_of_le RL.out (Nat.le_refl _)) TL.out HM.out rfl ER.out).mono ?_
   rintro e w2 ⟨rfl,hb⟩
   have H2:=hid (H1.out.trans (hb.mono H1.out.size))
   go_wp2_with fail
   go_roundw
   case measure=>simp [intOf]; omega
   case rel=>exact ⟨j+1,p+8,V,HQ,rfl,rfl,P2,H2⟩
theorem wnum_wd (x:Nat) (f:x<2 ^ 256):wnum [wd x 0,wd x 1,wd x 2,wd x 3]=x:=by
 simp only [wnum,wd]
 rw [show (2:Nat) ^ 256=115792089237316195423570985008687907853269984665640564039457584007913129639936 by decide] at f
 rw [show (18446744073709551616:Nat) ^ 0=1 by decide,show (18446744073709551616:Nat) ^ 1=18446744073709551616 by decide,show (18446744073709551616:Nat) ^ 2=340282366920938463463374607431768211456 by decide,show (18446744073709551616:Nat) ^ 3=6277101735386680763835789423207666416102355444464034512896 by decide]
 omega
def Sl (w:World) (A:Option Addr) (c:Nat) (bs:List UInt8):Prop:=Rd w A bs∧(A=none→c=0)∧bs.length≤c∧c≤9223372036854775807∧∀ ad,A=some ad→ad.block<w.heap.size
theorem Sl.on {w w':World} {A:Option Addr} {c:Nat} {bs:List UInt8} (h:Sl w A c bs) (hb:Below w.heap.size w w'):Sl w' A c bs :=
 ⟨h.1.below hb (Nat.le_refl _),h.2.1,h.2.2.1,h.2.2.2.1,fun f e=>Nat.lt_of_lt_of_le (h.2.2.2.2 f e) hb.size⟩
theorem Sl.of {w:World} {B:Nat} {v:Value} {bs:List UInt8} (h:Ow w B v bs):∃ A c,v=.slice A bs.length c∧Sl w A c bs∧∀ f,A=some f→B≤f.block:=by
 obtain ⟨A,c,rfl,I,G,F,E⟩:=h.form
 refine ⟨A,c,rfl,⟨F,E,I,G,?_⟩,?_⟩
 ·intro f e
  subst e
  rcases h.2 with ⟨e,_⟩ | ⟨g,D,z,e,hb,hh,_⟩
  ·cases e
  ·injection e with e1; injection e1 with e1; subst e1; exact lt_of_block hh
 ·intro f e
  subst e
  rcases h.2 with ⟨e,_⟩ | ⟨g,D,z,e,hb,hh,_⟩
  ·cases e
  ·injection e with e1; injection e1 with e1; subst e1; exact hb
theorem Rd.setOther {w:World} {A:Option Addr} {bs:List UInt8} {g i:Nat} (h:Rd w A bs) (E:∀ z,A=some z→z.block≠g) (u:Value):Rd (w.setCell ⟨g,i,none⟩ u) A bs:=by
 intro D
 obtain ⟨gg,o,rfl,G,hc⟩:=h D
 refine ⟨gg,o,rfl,by simpa [World.setCell] using G,fun j F=>?_⟩
 have f:(⟨gg,o+j,none⟩:Addr)≠⟨g,i,none⟩:=by intro e; injection e with e1; exact E _ rfl e1
 rw [World.cell?_setCell_other (h:=Ne.symm f)]
 exact hc j F
theorem Sl.fil {w:World} {A:Option Addr} {c:Nat} {bs:List UInt8} {g:Nat} (h:Sl w A c bs) (f:∀ z,A=some z→z.block≠g) (x:Nat):Sl (fil w g x) A c bs:=by
 refine ⟨(((h.1.setOther f _).setOther f _).setOther f _).setOther f _,h.2.1,h.2.2.1,h.2.2.2.1,fun z e=>?_⟩
 have:=h.2.2.2.2 z e
 simpa [World.setCell] using this
def Ek (w:World) (l:List (Nat×Nat)) (A:Option Addr) (c:Nat) (bs:List UInt8) (w':World):Prop:=ae w l w'∧Sl w' A c bs∧∀ p∈l,∀ ad,A=some ad→ad.block≠p.1
section
variable {w w' w2:World} {l:List (Nat×Nat)} {A:Option Addr} {c:Nat} {bs:List UInt8}
theorem Ek.on (h:Ek w l A c bs w') (hb:Below w'.heap.size w' w2):Ek w l A c bs w2:=⟨h.1.on hb,h.2.1.on hb,h.2.2⟩
theorem Ek.drew (h:Ek w l A c bs w'):Ek w l A c bs w'.drew:=⟨h.1.drew,h.2.1.on (Below.refl _ _).drew,h.2.2⟩
theorem Ek.cell (h:Ek w l A c bs w') (g x:Nat) (f:(g,x)∈l):w'.cell? ⟨g,0,none⟩=some (.int .u64 (wd x 0:Int))∧w'.cell? ⟨g,1,none⟩=some (.int .u64 (wd x 1:Int))∧w'.cell? ⟨g,2,none⟩=some (.int .u64 (wd x 2:Int))∧w'.cell? ⟨g,3,none⟩=some (.int .u64 (wd x 3:Int)):=h.1.cell g x f
theorem Ek.lt (h:Ek w l A c bs w') (g x:Nat) (f:(g,x)∈l):g<w'.heap.size:=h.1.lt g x f
theorem Ek.frozen (h:Ek w l A c bs w') (g x:Nat) (f:(g,x)∈l) (i:Nat):w'.frozen? ⟨g,i,none⟩=false:=h.1.frozen g x f i
theorem Ek.fresh (h:Ek w l A c bs w'):Fsh w l w'.heap.size:=h.1.fresh
theorem Ek.perm {l':List (Nat×Nat)} (h:Ek w l A c bs w') (f:∀ p∈l',p∈l):Ek w l' A c bs w':=⟨h.1.perm f,h.2.1,fun p z=>h.2.2 p (f p z)⟩
theorem Ek.zero (h:Ek w l A c bs w'):Ek w ((w'.heap.size,0) :: l) A c bs (w'.alloc (.cells #[.int .u64 0,.int .u64 0,.int .u64 0,.int .u64 0] 24)) :=
 ⟨h.1.zero,h.2.1.on (bal (Below.refl _ _) _),fun p f z e=>by
  rcases List.mem_cons.1 f with rfl | f
  ·exact Nat.ne_of_lt (h.2.1.2.2.2.2 z e)
  ·exact h.2.2 p f z e⟩
theorem Ek.set (h:Ek w l A c bs w') (g x y:Nat) (l':List (Nat×Nat)) (D:(g,x)∈l) (F:w.heap.size≤g) (E:∀ p∈l',p∈l∧p.1≠g):Ek w ((g,y) :: l') A c bs (fil w' g y) :=
 ⟨h.1.set g x y l' D F E,h.2.1.fil (fun f e=>h.2.2 (g,x) D f e) y,fun p z f e=>by
  rcases List.mem_cons.1 z with rfl | z
  ·exact h.2.2 (g,x) D f e
  ·exact h.2.2 p (E p z).1 f e⟩
theorem Ek.of {B:Nat} {v:Value} (h:ae w l w') (hb:Below w'.heap.size w' w2) (D:Ow w2 B v bs) (E:w'.heap.size≤B):∃ A c,v=.slice A bs.length c∧Ek w l A c bs w2:=by
 obtain ⟨A,c,e,f,F⟩:=Sl.of D
 exact ⟨A,c,e,h.on hb,f,fun p z G e=>Nat.ne_of_gt (Nat.lt_of_lt_of_le (h.lt p.1 p.2 z) (Nat.le_trans E (F G e)))⟩
theorem ek_of {f:FuncId} {z:Array Value} {v:Value} (hc:Calls Tryz.prog f z w' fun e w2=>e=.returned v∧Below w'.heap.size w' w2) (h:Ek w l A c bs w'):Calls Tryz.prog f z w' fun e w2=>e=.returned v∧Ek w l A c bs w2 :=
 hc.mono fun e w2 ⟨he,hb⟩=>⟨he,h.on hb⟩
theorem put_k (x:Nat) (z:x<2 ^ 256) (h:ae w l w'):Calls Tryz.prog 45 #[.slice none 0 0,af x] w' fun e w2=>∃ A c,e=.returned (.slice A 32 c)∧Ek w l A c (be x 32) w2:=by
 refine (rputLong_any none 0 (wd x 0) (wd x 1) (wd x 2) (wd x 3) [] w' (Rd.nil _ _) (fun _=>rfl) (by simp) (aO x 0) (aO x 1) (aO x 2) (aO x 3)).mono ?_
 rintro e w2 ⟨v,rfl,f,hb⟩
 rw [wnum_wd x z,List.nil_append] at f
 obtain ⟨A,c,rfl,D⟩:=Ek.of h hb f (Nat.le_refl _)
 rw [aj]
 exact ⟨A,c,rfl,D⟩
theorem put_then (y n n2:Nat) (G:bs.length=n) (J:n≤1000000) (f:n+32=n2) (F:y<2 ^ 256) (h:Ek w l A c bs w'):Calls Tryz.prog 45 #[.slice A n c,af y] w' fun e w2=>∃ E D,e=.returned (.slice E n2 D)∧Ek w l E D (bs ++ be y 32) w2:=by
 subst G
 refine (rputLong_any A c (wd y 0) (wd y 1) (wd y 2) (wd y 3) bs w' h.2.1.1 h.2.1.2.1 (by omega) (aO y 0) (aO y 1) (aO y 2) (aO y 3)).mono ?_
 rintro e w2 ⟨v,rfl,z,hb⟩
 rw [wnum_wd y F] at z
 obtain ⟨A,c,rfl,I⟩:=Ek.of h.1 hb z (Nat.le_refl _)
 rw [List.length_append,aj,f]
 exact ⟨A,c,rfl,I⟩
theorem words_k (n K m R:Nat) (E:bs.length=n) (G:n=8 * K) (z:K≤1000000) (f:0<m) (D:m<18446744073709551616) (F:aF bs % m=R) (h:Ek w l A c bs w') :
  Calls Tryz.prog 94 #[.slice A n c,.int .u64 (m:Int)] w' fun e w2=>e=.returned (.int .u64 (R:Int))∧Ek w l A c bs w2:=by
 subst E
 exact ek_of (rwords_any A c K m R bs w' G h.2.1.1 h.2.1.2.1 h.2.1.2.2.1 h.2.1.2.2.2.1 z f D F) h
end
end
end Go.Proofs.YtmapkbdjnnionaaGreatDoor
