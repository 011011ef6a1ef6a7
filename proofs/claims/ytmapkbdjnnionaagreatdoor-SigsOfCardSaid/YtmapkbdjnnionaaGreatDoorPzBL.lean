import Derived.Test.YtmapkbdjnnionaaGreatDoorPzBK
import Derived.Deep.Onto
set_option maxRecDepth 100000
set_option maxHeartbeats 8000000
set_option linter.all false
namespace Go.Proofs.YtmapkbdjnnionaaGreatDoor
section
open Go.RowKit
theorem r2sub_b (x y s:Nat) (k:Int) (w:World) (z:x<2 ^ 256) (f:y<2 ^ 256) (D:dif x y=s) (E:((cM x y:Nat):Int)=k):Calls Tryz.prog 30 #[af x,af y] w fun e w2=>e=.returned (.tuple #[af s,.int .u64 k])∧Below w.heap.size w w2:=by
 subst D; subst E; exact r2sub_any x y w z f
theorem rcmp_b (x y:Nat) (c:Int) (w:World) (z:x<2 ^ 256) (f:y<2 ^ 256) (hc:aD x y=c):Calls Tryz.prog 29 #[af x,af y] w fun e w2=>e=.returned (.int .i64 c)∧Below w.heap.size w w2:=by
 subst hc; exact rcmp_any x y w z f
theorem rof_b (n:Nat) (z:Int) (w:World) (D:n<18446744073709551616) (f:(n:Int)=z):Calls Tryz.prog 56 #[.int .u64 z] w fun e w'=>e=.returned (af n)∧Below w.heap.size w w':=by
 subst f; exact rof_any n w D
theorem own_below {B:Nat} {v:Value} {bs:List UInt8} {w w':World} (h:Ow w B v bs) (hb:Below w.heap.size w w'):Ow w' B v bs :=
 World.ownsRow.kept (row:=none) h ⟨hb.os,hb.tape,hb.output,hb.size,fun j f _=>hb.block j f⟩ (by cases v.ownBlock <;> simp)
def Dn (w:World) (B g3 g5 g7 m left:Nat) (v:Value) (bs:List UInt8) (w':World):Prop:=ae w [(g7,left),(g3,m),(g5,0)] w'∧Ow w' B v bs∧w.heap.size≤g7∧w.heap.size≤g5∧g7<B∧g5<B∧g7≠g3∧g7≠g5∧g5≠g3∧B≤w'.heap.size∧w.heap.size≤B∧g3<B
section
variable {w w' w2:World} {B g3 g5 g7 m left:Nat} {v:Value} {bs:List UInt8}
theorem Dn.on (h:Dn w B g3 g5 g7 m left v bs w') (hb:Below w'.heap.size w' w2):Dn w B g3 g5 g7 m left v bs w2:=by
 obtain ⟨M,L,K,J,I,G,F,E,D,z,f⟩:=h
 exact ⟨M.on hb,own_below L hb,K,J,I,G,F,E,D,Nat.le_trans z hb.size,f⟩
theorem Dn.set (h:Dn w B g3 g5 g7 m left v bs w') (x:Nat):Dn w B g3 g5 g7 m x v bs (fil w' g7 x):=by
 obtain ⟨O,L,G,K,f,J,F,E,I,M,z⟩:=h
 refine ⟨O.set g7 left x [(g3,m),(g5,0)] (by simp) G (fun p D=>by simp only [List.mem_cons,List.not_mem_nil,or_false] at D; rcases D with rfl | rfl; exact ⟨by simp,Ne.symm F⟩; exact ⟨by simp,Ne.symm E⟩),?_,G,K,f,J,F,E,I,?_,z⟩
 ·exact ownsRow_setCell_below (ownsRow_setCell_below (ownsRow_setCell_below (ownsRow_setCell_below L (a:=⟨g7,0,none⟩) f _) (a:=⟨g7,1,none⟩) f _) (a:=⟨g7,2,none⟩) f _) (a:=⟨g7,3,none⟩) f _
 ·have:(fil w' g7 x).heap.size=w'.heap.size:=by simp [World.setCell]
  omega
theorem Dn.grown {J:Value} {F:List UInt8} (h:Dn w B g3 g5 g7 m left v bs w') (L:w'.grownBy w2 v.ownBlock) (U:Ow w2 B J F):Dn w B g3 g5 g7 m left J F w2:=by
 obtain ⟨E,R,h3,h4,O,M,Z,Y,V,D,z,f⟩:=h
 have G:Below B w' w2:=(Below.refl B w').grown L D (fun k I=>(World.ownsRow.lt R k I).1)
 refine ⟨⟨E.1.grown L E.1.size (fun k I=>Nat.le_trans z (World.ownsRow.lt R k I).1),fun p K=>?_⟩,U,h3,h4,O,M,Z,Y,V,Nat.le_trans D G.size,z,f⟩
 simp only [List.mem_cons,List.not_mem_nil,or_false] at K
 rcases K with rfl | rfl | rfl
 ·exact (E.2 (g7,left) (by simp)).below G O
 ·exact (E.2 (g3,m) (by simp)).below G f
 ·exact (E.2 (g5,0) (by simp)).below G M
theorem Dn.alloc (h:Dn w B g3 g5 g7 m left v bs w') (o:Obj):Dn w B g3 g5 g7 m left v bs (w'.alloc o):=h.on (bal (Below.refl _ _) o)
end
theorem down_step {N m j:Nat} (f:0<m) (M:m<2 ^ 256):∃ s k d b D E:Nat,(N / 2 ^ (j+1) % m+N / 2 ^ (j+1) % m) % 2 ^ 256=s∧(N / 2 ^ (j+1) % m+N / 2 ^ (j+1) % m) / 2 ^ 256=k∧k≤1∧N / 2 ^ j % 2=b∧b≤1∧s+b=d∧d<2 ^ 256∧N / 2 ^ j % m=D∧N / 2 ^ j / m=E∧((k=0∧d<m∧D=d∧E=2 * (N / 2 ^ (j+1) / m))∨((k=1∨(k=0∧m≤d))∧D=dif d m∧E=2 * (N / 2 ^ (j+1) / m)+1)):=by
 obtain ⟨J,I⟩:=bring_step N m j f
 have z:aV N j=N / 2 ^ j % 2:=rfl
 rw [z] at J I
 have hb:N / 2 ^ j % 2<2:=Nat.mod_lt _ (by decide)
 have L:=Nat.mod_lt (N / 2 ^ (j+1)) f
 generalize N / 2 ^ (j+1) % m=r at *
 generalize N / 2 ^ (j+1) / m=q at *
 generalize N / 2 ^ j % 2=b at *
 obtain ⟨V,K,hc⟩:=take_num M L (show b≤1 by omega)
 have O:(r+r) / 2 ^ 256≤1:=by rw [p256] at *; omega
 refine ⟨_,_,_,b,_,_,rfl,rfl,O,rfl,by omega,rfl,K,rfl,rfl,?_⟩
 rw [← J,I]
 rcases hc with ⟨U,G,F,R⟩ | ⟨U,G,F,R⟩
 ·refine Or.inl ⟨?_,?_,G,by rw [F,Nat.add_zero]⟩
  ·rw [p256] at *; omega
  ·rw [p256] at *; omega
 ·refine Or.inr ⟨?_,G,by rw [F]⟩
  rw [p256] at *
  omega
theorem down_next {T b m:Nat} (f:0<m) (hb:b<256):(T % m * 256+b) / m<256∧(T * 256+b) % m=(T % m * 256+b) % m∧(T * 256+b) / m=T / m * 256+(T % m * 256+b) / m:=by
 have z:=Nat.mod_lt T f
 have hd:=Nat.div_add_mod T m
 have e:T * 256+b=T % m * 256+b+m * (T / m * 256):=by
  have:T * 256=(m * (T / m)+T % m) * 256:=by rw [hd]
  rw [this,Nat.add_mul,Nat.mul_assoc]; omega
 refine ⟨?_,?_,?_⟩
 ·rw [Nat.div_lt_iff_lt_mul f]
  have:=Nat.mul_le_mul_right 256 (Nat.succ_le_of_lt z)
  rw [Nat.succ_mul] at this
  rw [Nat.mul_comm 256 m]; omega
 ·rw [e,Nat.add_mul_mod_self_left]
 ·rw [e,Nat.add_mul_div_left _ _ f,Nat.add_comm]
theorem be_next {n q g k:Nat} (h:n=q * 256+g) (f:g<256):be n (k+1)=be q k ++ [UInt8.ofNat g]:=by
 subst h
 rw [be_snoc,show (q * 256+g) / 256=q by omega]
 congr 2
 apply UInt8.toNat_inj.1
 rw [UInt8.toNat_ofNat',UInt8.toNat_ofNat']
 omega
theorem byte_bit {L b j:Nat} (f:j<8):(L * 256+b) / 2 ^ j % 2=b / 2 ^ j % 2:=by
 have e:L * 256+b=b+2 ^ j * (2 * (L * 2 ^ (7 - j))):=by
  have:256=2 ^ j * (2 * 2 ^ (7 - j)):=by rw [← Nat.pow_succ',← Nat.pow_add,show j+(7 - j).succ=8 by omega]
  conv=>lhs; rw [this]
  rw [Nat.mul_left_comm,Nat.mul_left_comm L]; omega
 rw [e,Nat.add_mul_div_left _ _ (Nat.two_pow_pos j),Nat.add_mul_mod_self_left]
def DownE (w:World) (q n r:Nat) (e:Ending) (w':World):Prop:=∃ v,e=.returned (.tuple #[v,af r])∧Ow w' w.heap.size v (be q n)∧Below w.heap.size w w'
theorem down_any (A:Option Addr) (c m:Nat) (bs:List UInt8) (w:World) (hr:Rd w A bs) (bW:0<m) (hm:m<2 ^ 256) (hn:bs.length≤1000000):Calls Tryz.prog 95 #[.slice A bs.length c,af m] w (DownE w (aF bs / m) bs.length (aF bs % m)):=by
 have HR:=hid hr
 have HM:=hid hm
 have M0:=hid bW
 have HN:=hid hn
 obtain ⟨n,en⟩:∃ n,bs.length=n:=⟨_,rfl⟩
 rw [en]
 have EN:=hid en
 rw [en] at hn
 have de:=hn
 clear hr hm bW en HN
 have H0:=hid (((((ae.refl w).new m).zero).zero).perm (l':=[(w.heap.size+1+1,0),(w.heap.size,m),(w.heap.size+1,0)]) (by simp))
 have cv:(((w.alloc (.cells (ai m) 24)).alloc (.cells #[.int .u64 0,.int .u64 0,.int .u64 0,.int .u64 0] 24)).alloc (.cells #[.int .u64 0,.int .u64 0,.int .u64 0,.int .u64 0] 24)).heap.size=w.heap.size+1+1+1:=by simp only [World.size_alloc]
 go_enter Tryz.func95,Tryz.ntmps95
 go_upto_block 0 with fail
 generalize ((w.alloc (.cells (ai m) 24)).alloc (.cells #[.int .u64 0,.int .u64 0,.int .u64 0,.int .u64 0] 24)).alloc (.cells #[.int .u64 0,.int .u64 0,.int .u64 0,.int .u64 0] 24)=w0 at *
 have bU:Hid (Dn w w0.heap.size w.heap.size (w.heap.size+1) (w.heap.size+1+1) m 0 (.slice none 0 0) [] w0):=hid ⟨H0.out,Ow.nil _ _,by omega,by omega,by omega,by omega,by omega,by omega,by omega,Nat.le_refl _,by omega,by omega⟩
 clear H0 cv
 generalize w.heap.size+1+1=g7 at *
 generalize w.heap.size+1=g5 at *
 obtain ⟨g3,bI⟩:∃ z,w.heap.size=z:=⟨_,rfl⟩
 rw [bI] at bU ⊢
 generalize w0.heap.size=B at *
 have dk:=hid bI
 clear bI
 go_wp2_with fail
 go_loopw [6,8] (fun s6 s8 wr=>∃ (i left:Nat) (v:Value),Hid (i≤n)∧s8=.int .i64 (i:Int)∧s6=v∧Hid (left=aF (bs.take i) % m)∧Hid (Dn w B g3 g5 g7 m left v (be (aF (bs.take i) / m) i) wr)) (fun _ s _=>n - (intOf s).toNat)
 case atStart=>exact ⟨0,0,_,hid (by omega),rfl,rfl,hid (by simp [aF]),bU⟩
 case round =>
  obtain ⟨i,left,v,hi,rfl,hv,P,H⟩:=hrel
  have cu:=hv.symm
  clear hv bU
  subst cu
  by_cases h:i=n
  ·have PE:=hid (show left=aF bs % m by rw [P.out,h,← EN.out,List.take_length])
   have HO:=hid (show Ow wr B v (be (aF bs / m) n) by have:=H.out.2.1; rwa [h,show bs.take n=bs from by rw [← EN.out,List.take_length]] at this)
   have dc:¬ ((i:Int)<(n:Int)):=by omega
   obtain ⟨l0,l1,R,l3⟩:=H.out.1.cell g7 left (by simp)
   have ll:=H.out.1.lt g7 left (by simp)
   obtain ⟨z0,z1,z2,z3⟩:=H.out.1.cell g5 0 (by simp)
   have zl:=H.out.1.lt g5 0 (by simp)
   have zf:=H.out.1.frozen g5 0 (by simp)
   have n5:g7≠g5:=H.out.2.2.2.2.2.2.2.1
   have n6:g5≠g7:=Ne.symm n5
   have HZ:=hid (H.out.1.set g5 0 left [] (by simp) H.out.2.2.2.1 (by simp))
   have cE:=hid (show Ow (fil wr g5 left) B v (be (aF bs / m) n) from ownsRow_setCell_below (ownsRow_setCell_below (ownsRow_setCell_below (ownsRow_setCell_below HO.out (a:=⟨g5,0,none⟩) H.out.2.2.2.2.2.1 _) (a:=⟨g5,1,none⟩) H.out.2.2.2.2.2.1 _) (a:=⟨g5,2,none⟩) H.out.2.2.2.2.2.1 _) (a:=⟨g5,3,none⟩) H.out.2.2.2.2.2.1 _)
   have cy:=hid H.out.2.2.2.2.2.2.2.2.2.2.1
   clear HO H
   go_wp2
   go_region
   all_goals
    go_wp2
    clear l0 l1 R l3 z0 z1 z2 z3
    change bodyPost _ _ _ _ _ (fil wr g5 left).drew
    generalize fil wr g5 left=wz at *
    obtain ⟨k0,k1,k2,k3⟩:=HZ.out.cell g5 left (by simp)
    exact bodyPost_ret (v:=.tuple #[v,af left]) (by simp [results,Tryz.results95,go_sem,k0,k1,k2,k3]) rfl ⟨v,by rw [PE.out],World.ownsRow.mono (World.ownsRow.drew cE.out) cy.out,HZ.out.1.drew⟩
  ·have bx:i<n:=by have:=hi.out; omega
   have dd:(i:Int)<(n:Int):=by omega
   have HB:Hid (∃ g o b,A=some ⟨g,o,none⟩∧b<256∧aF (bs.take (i+1))=aF (bs.take i) * 256+b∧∀ w2,Below w.heap.size w w2→w2.cell? ⟨g,o+i,none⟩=some (.int .u8 (b:Int))):=hid (by
     have hl:i<bs.length:=by rw [EN.out]; exact bx
     obtain ⟨g,o,hA,hg,hc⟩:=HR.out (by omega)
     exact ⟨g,o,bs[i].toNat,hA,bs[i].toNat_lt,tell_take_succ bs i hl,fun w2 hb=>(hb.cell (p:=⟨g,o+i,none⟩) hg).trans (hc i hl)⟩)
   obtain ⟨g,o,b,hA,hb,hT,cH⟩:=HB.out
   clear HB
   subst hA
   obtain ⟨aW,aU,aT⟩:=down_next (T:=aF (bs.take i)) (m:=m) (b:=b) M0.out hb
   have aQ:(aF (bs.take i) % m * 256+b) / 2 ^ 8=aF (bs.take i) % m:=by omega
   have aG:∀ j,j<8→(aF (bs.take i) % m * 256+b) / 2 ^ j % 2=b / 2 ^ j % 2:=fun j hj=>byte_bit hj
   have hN:=P.out
   rw [← hN] at aW aU aT aQ aG
   obtain ⟨NN,cj⟩:∃ z,left * 256+b=z:=⟨_,rfl⟩
   rw [cj] at aW aU aT aQ aG
   have LM:left<m:=by rw [hN]; exact Nat.mod_lt _ M0.out
   have bZ:left=NN / 2 ^ 8 % m:=by rw [aQ,Nat.mod_eq_of_lt LM]
   have ca:NN / 2 ^ 8 / m=0:=by rw [aQ,Nat.div_eq_of_lt LM]
   have X1:=hid aW
   have X2:=hid aU
   have X3:=hid aT
   have XB:=hid aG
   have L8:=hid bZ
   have G8:=hid ca
   have HT:=hid hT
   have HC:=hid cH
   have cR:=hid hb
   have cn:=hid bx
   clear aW aU aT aQ aG hN cj LM bZ ca hT cH hb h bx
   obtain ⟨wo,rfl⟩:∃ wo:World,wo=wr:=⟨_,rfl⟩
   obtain ⟨BS,bN⟩:∃ z,be (aF (bs.take i) / m) i=z:=⟨_,rfl⟩
   rw [bN] at H
   have cp:=hid bN
   clear bN
   go_wp2_with fail
   go_loopw [9,10] (fun s9 s10 wi=>∃ (j R gs:Nat) (z:Int),Hid (j≤8)∧Hid (z=(j:Int) - 1)∧s10=.int .i64 z∧s9=.int .i64 (gs:Int)∧Hid (R=NN / 2 ^ j % m∧gs=NN / 2 ^ j / m)∧Hid (Dn w B g3 g5 g7 m R v BS wi)) (fun _ s _=>(intOf s+1).toNat)
   case atStart=>exact ⟨8,left,0,7,hid (by omega),hid (by omega),rfl,rfl,hid ⟨L8.out,G8.out.symm⟩,H⟩
   case round =>
    obtain ⟨j,R,gs,z,hj,hz,rfl,rfl,PQ,HI⟩:=hrel
    clear H
    by_cases h0:j=0
    ·subst h0
     obtain rfl:z = -1:=by have:=hz.out; omega
     have ba:=PQ.out.2
     have bv:=PQ.out.1
     rw [Nat.pow_zero,Nat.div_one] at bv ba
     have bX:gs<256:=by rw [ba]; exact X1.out
     have g8:IntKind.u8.wrap (gs:Int)=(gs:Int):=by rw [IntKind.wrap_u8]; omega
     have cP:=hid bv
     have cO:=hid ba
     have cN:=hid bX
     clear bv ba bX hz PQ hj
     have bb:(gs:Int)=(((UInt8.ofNat gs).toNat:Nat):Int):=by rw [UInt8.toNat_ofNat']; have:=cN.out; omega
     have hR:Row (wr.alloc (.cells #[.int .u8 (gs:Int)] 5)) wr.heap.size [UInt8.ofNat gs]:=by rw [bb]; exact Row.one wr _
     have cb:BS.length=i:=by rw [← cp.out,aj]
     obtain ⟨v2,w2,aI,bu,bY,_⟩:=append_bytes (wr.alloc (.cells #[.int .u8 (gs:Int)] 5)) B v BS [UInt8.ofNat gs] (some ⟨wr.heap.size,0,none⟩) 1 1 (World.ownsRow.alloc HI.out.2.1 _) hR.rd0 rfl (fun h=>by cases h) (by rw [cb]; omega) (by have:=HI.out.2.2.2.2.2.2.2.2.2.1; simp; omega)
     have cQ:=hid ((HI.out.alloc (.cells #[.int .u8 (gs:Int)] 5)).grown bY bu)
     have cI:=hid aI
     have cA:=hid (show R=aF (bs.take (i+1)) % m by rw [HT.out,X2.out]; exact cP.out)
     have cS:=hid (show be (aF (bs.take (i+1)) / m) (i+1)=BS ++ [UInt8.ofNat gs] by rw [be_next (by rw [HT.out,X3.out]) X1.out,← cO.out,cp.out])
     clear aI bu bY hR bb cb
     go_wp2_with (at_builtin; refine bj rfl (.tmp 62) (.tmp 65) rfl rfl _ _ rfl rfl v2 w2 cI.out ?_)
     go_roundw
     case measure=>simp [intOf]; have:=cn.out; omega
     case rel=>exact ⟨i+1,R,v2,hid (by have:=cn.out; omega),by simp,rfl,cA,hid (by rw [cS.out]; exact cQ.out)⟩
    ·obtain ⟨k,rfl⟩:∃ k,j=k+1:=⟨j - 1,by omega⟩
     obtain rfl:z=(k:Int):=by have:=hz.out; omega
     have hk8:k<8:=by have:=hj.out; omega
     obtain ⟨s,kk,d,b2,r2,g1,s1,s2,s3,s4,s5,s6,s7,s8,s9,s10⟩:=down_step (N:=NN) (j:=k) M0.out HM.out
     rw [← PQ.out.1] at s1 s2
     rw [← PQ.out.2] at s10
     rw [XB.out k hk8] at s4
     have cm:=hid (show R<2 ^ 256 by rw [PQ.out.1]; exact Nat.lt_trans (Nat.mod_lt _ M0.out) HM.out)
     have S1:=hid s1
     have S2:=hid (show (((R+R) / 2 ^ 256:Nat):Int)=(kk:Int) by rw [s2])
     have SL:=hid (show s<2 ^ 256 by rw [← s1]; exact Nat.mod_lt _ (Nat.two_pow_pos _))
     have S6:=hid (show (s+b2) % 2 ^ 256=d by rw [s6,Nat.mod_eq_of_lt s7])
     have cw:=hid (show (((s+b2) / 2 ^ 256:Nat):Int)=0 by rw [s6,Nat.div_eq_of_lt s7]; rfl)
     have DL:=hid s7
     have cq:=hid s5
     have S4:=hid s4
     have S8:=hid s8
     have S9:=hid s9
     have cx:=hid s10
     have S3:=hid s3
     have K8:=hid hk8
     clear s1 s2 s3 s4 s5 s6 s7 s8 s9 s10 hz hj
     have E0:=hid (show ae wr [(g7,R),(g3,m),(g5,0)] wr from ⟨Below.refl _ _,HI.out.1.2⟩)
     obtain ⟨aN,aM,aL,aK⟩:=E0.out.cell (g7) (R) (by simp)
     have ax:=E0.out.lt (g7) (R) (by simp)
     have aJ:=Nat.le_of_lt ax
     go_wp2_with fail
     clear aN aM aL aK ax aJ
     refine (ah (r2add_b R R s (kk:Int) _ cm.out cm.out S1.out S2.out) E0.out).mono ?_
     rintro e w1 ⟨rfl,h⟩
     have H1:=hid h
     clear h E0
     have ap:=hid H1.out.fresh
     go_upto_region 11 with fail
     have co:=hid (H1.out.new s)
     clear H1
     generalize w1.alloc (.cells (ai s) 24)=ct at *
     generalize w1.heap.size=f at *
     have j1:IntKind.i64.wrap (i:Int)=(i:Int):=IntWalk.i64_in _ (by omega)
     have j2:(0:Int)≤(i:Int):=by omega
     have j3:min k 8=k:=by omega
     have j4:min k 64=k:=by omega
     have j5:(0:Int)≤(k:Int):=by omega
     have O:=hid HI.out.1.1
     have J6:=hid (show (b2:Int)=(IntKind.u64.wrap ((b:Int) / 2 ^ k)).tmod 2 by
      have e0:((b:Int) / 2 ^ k)=((b / 2 ^ k:Nat):Int):=by simp
      have hl:b / 2 ^ k≤b:=Nat.div_le_self _ _
      have:=cR.out
      have h4:=S4.out
      rw [e0]
      generalize b / 2 ^ k=qq at *
      rw [IntWalk.u64_in _ (by omega),Int.tmod_eq_emod_of_nonneg (by omega),← h4]; omega)
     have bb:gs<256:=Nat.lt_of_le_of_lt (by rw [PQ.out.2]; exact Nat.div_le_div_right (Nat.div_le_self _ _)) X1.out
     have y1:IntKind.i64.wrap (2 * (gs:Int))=((2 * gs:Nat):Int):=by rw [IntWalk.i64_in _ (by omega)]; omega
     have y2:IntKind.i64.wrap (((2 * gs:Nat):Int)+1)=((2 * gs+1:Nat):Int):=by rw [IntWalk.i64_in _ (by omega)]; omega
     have y3:IntKind.i64.wrap ((k:Int) - 1)=(k:Int) - 1:=IntWalk.i64_in _ (by omega)
     generalize cl:2 * gs=bz at *
     generalize ck:bz+1=bd at *
     have dm:=hid cl
     have cU:=hid ck
     clear cl ck bb
     have D:=co.out.drew
     refine wp_region_noPanic ?_
     refine aa.region (fun (L:Array Bool) (w':World)=>(L.getD 14 true=false→(w'.cell? ⟨f,0,none⟩=some (.int .u64 (wd (s) 0:Int))∧w'.cell? ⟨f,1,none⟩=some (.int .u64 (wd (s) 1:Int))∧w'.cell? ⟨f,2,none⟩=some (.int .u64 (wd (s) 2:Int))∧w'.cell? ⟨f,3,none⟩=some (.int .u64 (wd (s) 3:Int))))∧(w'.cell? ⟨g,o+i,none⟩=some (.int .u8 (b:Int)))) (by kernel_rfl) ?_
     generalize ct.drew=db at *
     refine aa.take (i:=0) (o:=⟨some 30,_,_,_,_,_⟩) (v:=?_) [14] rfl (by kernel_rfl) (by kernel_rfl) (by kernel_rfl) (fun _ _ _ h=>h) (by kernel_rfl) (fun L u h=>⟨fun e=>h.1 (by rw [getD_set_ne true (by decide)]; exact e),h.2⟩) (Or.inl ⟨by rfl,?_⟩) (⟨fun _=>⟨(ae.cell D f (s) (by simp)).1,(ae.cell D f (s) (by simp)).2.1,(ae.cell D f (s) (by simp)).2.2.1,(ae.cell D f (s) (by simp)).2.2.2⟩,(HC.out _ (dM O.out D.1))⟩) ?_
     rotate_left
     ·intro w hY; obtain ⟨up,hL⟩:=hY; have hX:=hL.2.1 (hL.1 14 (by simp)); have U:=hL.2.2; clear hL; (try dsimp only at hX U); obtain ⟨x0,x1,x2,x3⟩:=hX; have x4:=U; clear U; go_simp; try with_reducible rfl
     try simp only [ac]
     refine aa.take (i:=1) (o:=⟨some 31,_,_,_,_,_⟩) (v:=?_) [] rfl (by kernel_rfl) (by kernel_rfl) (by kernel_rfl) (fun _ _ _ h=>h) (by kernel_rfl) (fun L u h=>⟨fun e=>h.1 (by rw [getD_set_ne true (by decide)]; exact e),h.2⟩) (Or.inl ⟨by rfl,?_⟩) (⟨fun _=>⟨(ae.cell D f (s) (by simp)).1,(ae.cell D f (s) (by simp)).2.1,(ae.cell D f (s) (by simp)).2.2.1,(ae.cell D f (s) (by simp)).2.2.2⟩,(HC.out _ (dM O.out D.1))⟩) ?_
     rotate_left
     ·intro w hY; go_simp; try with_reducible rfl
     try simp only [ac]
     refine aa.take (i:=2) (o:=⟨some 32,_,_,_,_,_⟩) (v:=?_) [] rfl (by kernel_rfl) (by kernel_rfl) (by kernel_rfl) (fun _ _ _ h=>h) (by kernel_rfl) (fun L u h=>⟨fun e=>h.1 (by rw [getD_set_ne true (by decide)]; exact e),h.2⟩) (Or.inl ⟨by rfl,?_⟩) (⟨fun _=>⟨(ae.cell D f (s) (by simp)).1,(ae.cell D f (s) (by simp)).2.1,(ae.cell D f (s) (by simp)).2.2.1,(ae.cell D f (s) (by simp)).2.2.2⟩,(HC.out _ (dM O.out D.1))⟩) ?_
     rotate_left
     ·intro w hY; go_simp; try with_reducible rfl
     try simp only [ac]
     refine aa.take (i:=3) (o:=⟨some 33,_,_,_,_,_⟩) (v:=?_) [14] rfl (by kernel_rfl) (by kernel_rfl) (by kernel_rfl) (fun _ _ _ h=>h) (by kernel_rfl) (fun L u h=>⟨fun e=>h.1 (by rw [getD_set_ne true (by decide)]; exact e),h.2⟩) (Or.inl ⟨by rfl,?_⟩) (⟨fun _=>⟨(ae.cell D f (s) (by simp)).1,(ae.cell D f (s) (by simp)).2.1,(ae.cell D f (s) (by simp)).2.2.1,(ae.cell D f (s) (by simp)).2.2.2⟩,(HC.out _ (dM O.out D.1))⟩) ?_
     rotate_left
     ·intro w hY; obtain ⟨up,hL⟩:=hY; have hX:=hL.2.1 (hL.1 14 (by simp)); have U:=hL.2.2; clear hL; (try dsimp only at hX U); obtain ⟨x0,x1,x2,x3⟩:=hX; have x4:=U; clear U; go_simp; try with_reducible rfl
     try simp only [ac]
     refine aa.take (i:=4) (o:=⟨some 34,_,_,_,_,_⟩) (v:=?_) [14] rfl (by kernel_rfl) (by kernel_rfl) (by kernel_rfl) (fun _ _ _ h=>h) (by kernel_rfl) (fun L u h=>⟨fun e=>h.1 (by rw [getD_set_ne true (by decide)]; exact e),h.2⟩) (Or.inl ⟨by rfl,?_⟩) (⟨fun _=>⟨(ae.cell D f (s) (by simp)).1,(ae.cell D f (s) (by simp)).2.1,(ae.cell D f (s) (by simp)).2.2.1,(ae.cell D f (s) (by simp)).2.2.2⟩,(HC.out _ (dM O.out D.1))⟩) ?_
     rotate_left
     ·intro w hY; obtain ⟨up,hL⟩:=hY; have hX:=hL.2.1 (hL.1 14 (by simp)); have U:=hL.2.2; clear hL; (try dsimp only at hX U); obtain ⟨x0,x1,x2,x3⟩:=hX; have x4:=U; clear U; go_simp; try with_reducible rfl
     try simp only [ac]
     refine aa.take (i:=5) (o:=⟨some 35,_,_,_,_,_⟩) (v:=?_) [] rfl (by kernel_rfl) (by kernel_rfl) (by kernel_rfl) (fun _ _ _ h=>h) (by kernel_rfl) (fun L u h=>⟨fun e=>h.1 (by rw [getD_set_ne true (by decide)]; exact e),h.2⟩) (Or.inl ⟨by rfl,?_⟩) (⟨fun _=>⟨(ae.cell D f (s) (by simp)).1,(ae.cell D f (s) (by simp)).2.1,(ae.cell D f (s) (by simp)).2.2.1,(ae.cell D f (s) (by simp)).2.2.2⟩,(HC.out _ (dM O.out D.1))⟩) ?_
     rotate_left
     ·intro w hY; go_simp; try with_reducible rfl
     try simp only [ac]
     refine aa.take (i:=6) (o:=⟨some 36,_,_,_,_,_⟩) (v:=?_) [] rfl (by kernel_rfl) (by kernel_rfl) (by kernel_rfl) (fun _ _ _ h=>h) (by kernel_rfl) (fun L u h=>⟨fun e=>h.1 (by rw [getD_set_ne true (by decide)]; exact e),h.2⟩) (Or.inl ⟨by rfl,?_⟩) (⟨fun _=>⟨(ae.cell D f (s) (by simp)).1,(ae.cell D f (s) (by simp)).2.1,(ae.cell D f (s) (by simp)).2.2.1,(ae.cell D f (s) (by simp)).2.2.2⟩,(HC.out _ (dM O.out D.1))⟩) ?_
     rotate_left
     ·intro w hY; go_simp; try with_reducible rfl
     try simp only [ac]
     refine aa.take (i:=7) (o:=⟨some 37,_,_,_,_,_⟩) (v:=?_) [] rfl (by kernel_rfl) (by kernel_rfl) (by kernel_rfl) (fun _ _ _ h=>h) (by kernel_rfl) (fun L u h=>⟨fun e=>h.1 (by rw [getD_set_ne true (by decide)]; exact e),h.2⟩) (Or.inl ⟨by rfl,?_⟩) (⟨fun _=>⟨(ae.cell D f (s) (by simp)).1,(ae.cell D f (s) (by simp)).2.1,(ae.cell D f (s) (by simp)).2.2.1,(ae.cell D f (s) (by simp)).2.2.2⟩,(HC.out _ (dM O.out D.1))⟩) ?_
     rotate_left
     ·intro w hY; go_simp; try with_reducible rfl
     try simp only [ac]
     refine aa.take (i:=8) (o:=⟨some 38,_,_,_,_,_⟩) (v:=?_) [] rfl (by kernel_rfl) (by kernel_rfl) (by kernel_rfl) (fun _ _ _ h=>h) (by kernel_rfl) (fun L u h=>⟨fun e=>h.1 (by rw [getD_set_ne true (by decide)]; exact e),h.2⟩) (Or.inl ⟨by rfl,?_⟩) (⟨fun _=>⟨(ae.cell D f (s) (by simp)).1,(ae.cell D f (s) (by simp)).2.1,(ae.cell D f (s) (by simp)).2.2.1,(ae.cell D f (s) (by simp)).2.2.2⟩,(HC.out _ (dM O.out D.1))⟩) ?_
     rotate_left
     ·intro w hY; go_simp; try with_reducible rfl
     try simp only [ac]
     refine aa.one (i:=9) (o:=⟨some 39,_,_,_,_,_⟩) (by kernel_rfl) rfl (fun K hK=>?_)
     go_simp
     with_reducible refine (ah (rof_b b2 _ _ (by have:=cq.out; omega) J6.out) D).mono ?_
     rintro e da ⟨rfl,aE⟩
     go_wp2_with fail
     refine hK.out _ _ (⟨fun _=>⟨(ae.cell aE f (s) (by simp)).1,(ae.cell aE f (s) (by simp)).2.1,(ae.cell aE f (s) (by simp)).2.2.1,(ae.cell aE f (s) (by simp)).2.2.2⟩,(HC.out _ (dM O.out aE.1))⟩) ?_
     clear hK K
     try simp only [ac]
     clear D
     have D:=aE
     clear aE
     refine aa.one (i:=10) (o:=⟨some 40,_,_,_,_,_⟩) (by kernel_rfl) rfl (fun K hK=>?_)
     go_simp
     with_reducible refine (ah (r2add_b s b2 d 0 _ SL.out (by have:=cq.out; omega) S6.out cw.out) D).mono ?_
     rintro e bV ⟨rfl,ao⟩
     go_wp2_with fail
     refine hK.out _ _ (⟨fun _=>⟨(ae.cell ao f (s) (by simp)).1,(ae.cell ao f (s) (by simp)).2.1,(ae.cell ao f (s) (by simp)).2.2.1,(ae.cell ao f (s) (by simp)).2.2.2⟩,(HC.out _ (dM O.out ao.1))⟩) ?_
     clear hK K
     try simp only [ac]
     clear D
     have D:=ao
     clear ao
     refine aa.take (i:=11) (o:=⟨some 29,_,_,_,_,_⟩) (v:=?_) [] rfl (by kernel_rfl) (by kernel_rfl) (by kernel_rfl) (fun _ _ _ h=>h) (by kernel_rfl) (fun L u h=>⟨fun e=>h.1 (by rw [getD_set_ne true (by decide)]; exact e),h.2⟩) (Or.inl ⟨by rfl,?_⟩) (⟨fun _=>⟨(ae.cell D f (s) (by simp)).1,(ae.cell D f (s) (by simp)).2.1,(ae.cell D f (s) (by simp)).2.2.1,(ae.cell D f (s) (by simp)).2.2.2⟩,(HC.out _ (dM O.out D.1))⟩) ?_
     rotate_left
     ·intro w hY; go_simp; try with_reducible rfl
     try simp only [ac]
     refine aa.take (i:=12) (o:=⟨some 41,_,_,_,_,_⟩) (v:=?_) [] rfl (by kernel_rfl) (by kernel_rfl) (by kernel_rfl) (fun _ _ _ h=>h) (by kernel_rfl) (fun L u h=>⟨fun e=>h.1 (by rw [getD_set_ne true (by decide)]; exact e),h.2⟩) (Or.inl ⟨by rfl,?_⟩) (⟨fun _=>⟨(ae.cell D f (s) (by simp)).1,(ae.cell D f (s) (by simp)).2.1,(ae.cell D f (s) (by simp)).2.2.1,(ae.cell D f (s) (by simp)).2.2.2⟩,(HC.out _ (dM O.out D.1))⟩) ?_
     rotate_left
     ·intro w hY; go_simp; try with_reducible rfl
     try simp only [ac]
     refine aa.take (i:=13) (o:=⟨some 42,_,_,_,_,_⟩) (v:=?_) [] rfl (by kernel_rfl) (by kernel_rfl) (by kernel_rfl) (fun _ _ _ h=>h) (by kernel_rfl) (fun L u h=>⟨fun e=>h.1 (by rw [getD_set_ne true (by decide)]; exact e),h.2⟩) (Or.inl ⟨by rfl,?_⟩) (⟨fun _=>⟨(ae.cell D f (s) (by simp)).1,(ae.cell D f (s) (by simp)).2.1,(ae.cell D f (s) (by simp)).2.2.1,(ae.cell D f (s) (by simp)).2.2.2⟩,(HC.out _ (dM O.out D.1))⟩) ?_
     rotate_left
     ·intro w hY; go_simp; try with_reducible rfl
     try simp only [ac]
     refine aa.one (i:=14) (o:=⟨none,_,_,_,_,_⟩) (by kernel_rfl) rfl (fun K hK=>?_)
     obtain ⟨z0,z1,z2,z3⟩:=D.cell f (s) (by simp)
     have zl:=D.lt f (s) (by simp)
     have zf:=D.frozen f (s) (by simp)
     have dN:=D.set f (s) (d) [(g7,R),(g3,m),(g5,0)] (by simp) ap.out.1 (fun p hp=>by simp only [List.mem_cons,List.not_mem_nil,or_false] at hp; rcases hp with rfl | rfl | rfl <;> first | exact ⟨by simp,ap.out.2 (g7,R) (by simp)⟩ | exact ⟨by simp,ap.out.2 (g3,m) (by simp)⟩ | exact ⟨by simp,ap.out.2 (g5,0) (by simp)⟩)
     go_simp
     refine hK.out _ _ (⟨fun e=>absurd e (by decide),(HC.out _ (dM O.out dN.1))⟩) ?_
     clear hK K
     try simp only [ac]
     clear D z0 z1 z2 z3 zl zf
     change aa _ _ _ _ _ _ _ _ (fil bV f (d))
     generalize fil bV f (d)=cs at *
     have D:=dN
     clear dN
     refine aa.done (by kernel_rfl) ?_ _
     refine NoPanic.normal ?_
     have H2:=hid D
     clear D co HC
     generalize cs=w2 at *
     obtain ⟨t2,cf⟩:∃ z,dif d m=z:=⟨_,rfl⟩
     have bk:=hid cf.symm
     clear cf
     rcases cx.out with ⟨c0,c1,c2,c3⟩ | ⟨c0,c2,c3⟩
     ·have EC:Hid (aD d m = -1):=hid (by unfold aD; rw [if_pos c1])
      have R2:=hid (show d=NN / 2 ^ k % m by rw [← c2]; exact S8.out.symm)
      have G1:=hid (show bz=NN / 2 ^ k / m by rw [S9.out,c3])
      clear c1 c2 c3
      subst c0
      obtain ⟨bq,bp,bo,bn⟩:=H2.out.cell (f) (d) (by simp)
      have aC:=H2.out.lt (f) (d) (by simp)
      have bm:=Nat.le_of_lt aC
      obtain ⟨cZ,cY,cX,cW⟩:=H2.out.cell (g3) (m) (by simp)
      have bG:=H2.out.lt (g3) (m) (by simp)
      have cV:=Nat.le_of_lt bG
      go_wp2_with fail
      clear bq bp bo bn aC bm cZ cY cX cW bG cV
      refine (ah (rcmp_b d m (-1) _ DL.out HM.out EC.out) H2.out).mono ?_
      rintro e w3 ⟨rfl,h⟩
      have H3:=hid h
      clear h H2
      obtain ⟨M,J,I,G⟩:=H3.out.cell (f) (d) (by simp)
      have cB:=H3.out.lt (f) (d) (by simp)
      have F:=Nat.le_of_lt cB
      obtain ⟨ad,ab,Z,Y⟩:=H3.out.cell (g7) (R) (by simp)
      have E:=H3.out.lt (g7) (R) (by simp)
      have V:=Nat.le_of_lt E
      have an:=H3.out.frozen g7 R (by simp)
      have HZ:=hid ((HI.out.on H3.out.1).set (d))
      go_wp2_with fail
      clear M J I G cB F ad ab Z Y E V an
      go_roundw
      case measure=>first | (simp [intOf]; done) | (simp [intOf]; omega)
      case rel=>exact ⟨k,d,bz,(k:Int) - 1,hid (by have:=K8.out; omega),hid rfl,rfl,rfl,hid ⟨by first | exact R2.out | (rw [← R2.out]),by first | exact G1.out | (rw [← G1.out])⟩,HZ⟩
     ·rcases c0 with c0 | ⟨c0,c1⟩
      ·subst c0
       have R2:=hid (show t2=NN / 2 ^ k % m by rw [bk.out,← c2]; exact S8.out.symm)
       have G1:=hid (show bd=NN / 2 ^ k / m by rw [S9.out,c3])
       clear c2 c3
       obtain ⟨bq,bp,bo,bn⟩:=H2.out.cell (f) (d) (by simp)
       have aC:=H2.out.lt (f) (d) (by simp)
       have bm:=Nat.le_of_lt aC
       obtain ⟨cZ,cY,cX,cW⟩:=H2.out.cell (g3) (m) (by simp)
       have bG:=H2.out.lt (g3) (m) (by simp)
       have cV:=Nat.le_of_lt bG
       go_wp2_with fail
       clear bq bp bo bn aC bm cZ cY cX cW bG cV
       obtain ⟨ln,aR⟩:∃ z:Int,((cM d m:Nat):Int)=z:=⟨_,rfl⟩
       have LN:=hid aR
       clear aR
       refine (ah (r2sub_b d m t2 ln _ DL.out HM.out bk.out.symm LN.out) H2.out).mono ?_
       rintro e w3 ⟨rfl,h⟩
       have H3:=hid h
       clear h H2
       obtain ⟨M,J,I,G⟩:=H3.out.cell (f) (d) (by simp)
       have cB:=H3.out.lt (f) (d) (by simp)
       have F:=Nat.le_of_lt cB
       have cd:=H3.out.frozen f d (by simp)
       have HS:=hid (H3.out.set f d t2 [(g7,R),(g3,m),(g5,0)] (by simp) ap.out.1 (fun p hp=>by simp only [List.mem_cons,List.not_mem_nil,or_false] at hp; rcases hp with rfl | rfl | rfl <;> first | exact ⟨by simp,ap.out.2 (g7,R) (by simp)⟩ | exact ⟨by simp,ap.out.2 (g3,m) (by simp)⟩ | exact ⟨by simp,ap.out.2 (g5,0) (by simp)⟩))
       go_upto_region 15 with fail
       clear M J I G cB F cd
       clear H3
       change Code.wp _ _ _ _ (fil w3 f t2)
       generalize fil w3 f t2=w6 at *
       obtain ⟨M,J,I,G⟩:=HS.out.cell (f) (t2) (by simp)
       have cB:=HS.out.lt (f) (t2) (by simp)
       have F:=Nat.le_of_lt cB
       obtain ⟨ad,ab,Z,Y⟩:=HS.out.cell (g7) (R) (by simp)
       have E:=HS.out.lt (g7) (R) (by simp)
       have V:=Nat.le_of_lt E
       have an:=HS.out.frozen g7 R (by simp)
       have HZ:=hid ((HI.out.on HS.out.1).set (t2))
       go_wp2_with fail
       clear M J I G cB F ad ab Z Y E V an
       go_roundw
       case measure=>first | (simp [intOf]; done) | (simp [intOf]; omega)
       case rel=>exact ⟨k,t2,bd,(k:Int) - 1,hid (by have:=K8.out; omega),hid rfl,rfl,rfl,hid ⟨by first | exact R2.out | (rw [← R2.out]),by first | exact G1.out | (rw [← G1.out])⟩,HZ⟩
      ·subst c0
       obtain ⟨cz,bK⟩:∃ z,aD d m=z:=⟨_,rfl⟩
       have df:0≤cz:=by rw [← bK]; unfold aD; split <;> (try split) <;> omega
       have cT:=hid bK
       clear bK c1
       obtain ⟨bq,bp,bo,bn⟩:=H2.out.cell (f) (d) (by simp)
       have aC:=H2.out.lt (f) (d) (by simp)
       have bm:=Nat.le_of_lt aC
       obtain ⟨cZ,cY,cX,cW⟩:=H2.out.cell (g3) (m) (by simp)
       have bG:=H2.out.lt (g3) (m) (by simp)
       have cV:=Nat.le_of_lt bG
       go_wp2_with fail
       clear bq bp bo bn aC bm cZ cY cX cW bG cV
       refine (ah (rcmp_b d m cz _ DL.out HM.out cT.out) H2.out).mono ?_
       rintro e w3 ⟨rfl,h⟩
       have H3:=hid h
       clear h H2
       have R2:=hid (show t2=NN / 2 ^ k % m by rw [bk.out,← c2]; exact S8.out.symm)
       have G1:=hid (show bd=NN / 2 ^ k / m by rw [S9.out,c3])
       clear c2 c3
       obtain ⟨M,J,I,G⟩:=H3.out.cell (f) (d) (by simp)
       have cB:=H3.out.lt (f) (d) (by simp)
       have F:=Nat.le_of_lt cB
       obtain ⟨ad,ab,Z,Y⟩:=H3.out.cell (g3) (m) (by simp)
       have E:=H3.out.lt (g3) (m) (by simp)
       have V:=Nat.le_of_lt E
       go_wp2_with fail
       clear M J I G cB F ad ab Z Y E V
       obtain ⟨ln,aR⟩:∃ z:Int,((cM d m:Nat):Int)=z:=⟨_,rfl⟩
       have LN:=hid aR
       clear aR
       refine (ah (r2sub_b d m t2 ln _ DL.out HM.out bk.out.symm LN.out) H3.out).mono ?_
       rintro e w4 ⟨rfl,h⟩
       have H4:=hid h
       clear h H3
       obtain ⟨aB,aA,az,ay⟩:=H4.out.cell (f) (d) (by simp)
       have al:=H4.out.lt (f) (d) (by simp)
       have ar:=Nat.le_of_lt al
       have cc:=H4.out.frozen f d (by simp)
       have HS:=hid (H4.out.set f d t2 [(g7,R),(g3,m),(g5,0)] (by simp) ap.out.1 (fun p hp=>by simp only [List.mem_cons,List.not_mem_nil,or_false] at hp; rcases hp with rfl | rfl | rfl <;> first | exact ⟨by simp,ap.out.2 (g7,R) (by simp)⟩ | exact ⟨by simp,ap.out.2 (g3,m) (by simp)⟩ | exact ⟨by simp,ap.out.2 (g5,0) (by simp)⟩))
       go_upto_region 15 with fail
       clear aB aA az ay al ar cc
       clear H4
       change Code.wp _ _ _ _ (fil w4 f t2)
       generalize fil w4 f t2=w6 at *
       obtain ⟨aB,aA,az,ay⟩:=HS.out.cell (f) (t2) (by simp)
       have al:=HS.out.lt (f) (t2) (by simp)
       have ar:=Nat.le_of_lt al
       obtain ⟨bS,bR,bQ,bP⟩:=HS.out.cell (g7) (R) (by simp)
       have aS:=HS.out.lt (g7) (R) (by simp)
       have bO:=Nat.le_of_lt aS
       have bA:=HS.out.frozen g7 R (by simp)
       have HZ:=hid ((HI.out.on HS.out.1).set (t2))
       go_wp2_with fail
       clear aB aA az ay al ar bS bR bQ bP aS bO bA
       go_roundw
       case measure=>first | (simp [intOf]; done) | (simp [intOf]; omega)
       case rel=>exact ⟨k,t2,bd,(k:Int) - 1,hid (by have:=K8.out; omega),hid rfl,rfl,rfl,hid ⟨by first | exact R2.out | (rw [← R2.out]),by first | exact G1.out | (rw [← G1.out])⟩,HZ⟩
theorem reqn_no (x:Nat) (f:x<2 ^ 256) (h:x≠0) (w:World):(Op.equalIn 10000 24 (af x) (.agg #[.int .u64 0,.int .u64 0,.int .u64 0,.int .u64 0])).run Tryz.prog w=.ok false w:=by
 rw [dp]; exact eq_no x 0 f (by decide) h w
theorem reqn_yes (w:World):(Op.equalIn 10000 24 (af 0) (.agg #[.int .u64 0,.int .u64 0,.int .u64 0,.int .u64 0])).run Tryz.prog w=.ok true w:=by
 rw [dp]; exact eq_yes 0 0 rfl w
theorem down_k {w w':World} {l:List (Nat×Nat)} {A:Option Addr} {c:Nat} {bs:List UInt8} (n m q r:Nat) (K:bs.length=n) (I:n≤1000000) (D:0<m) (J:m<2 ^ 256) (G:aF bs / m=q) (F:aF bs % m=r) (h:Ek w l A c bs w') :
  Calls Tryz.prog 95 #[.slice A n c,af m] w' fun e w2=>∃ z f,e=.returned (.tuple #[.slice z n f,af r])∧Ek w l z f (be q n) w2:=by
 subst K
 refine (down_any A c m bs w' h.2.1.1 D J I).mono ?_
 rintro e w2 ⟨v,rfl,E,hb⟩
 rw [G] at E
 obtain ⟨z,f,rfl,L⟩:=Ek.of h.1 hb E (Nat.le_refl _)
 rw [aj,F]
 exact ⟨z,f,rfl,L⟩
theorem tell_both (h x:Nat) (hh:h<2 ^ 256) (f:x<2 ^ 256):aF (be h 32 ++ be x 32)=x+2 ^ 256 * h:=by
 rw [tell_append,tell_be,tell_be,aj,show (256:Nat) ^ 32=2 ^ 256 by decide,Nat.mod_eq_of_lt hh,Nat.mod_eq_of_lt f,Nat.mul_comm,Nat.add_comm]
theorem rwide_small (lo hi m R:Nat) (w:World) (aA:lo<2 ^ 256) (aB:hi<2 ^ 256) (hm:m<2 ^ 256) (O:m≠0) (hR:(lo+2 ^ 256 * hi) % m=R) (D:m<18446744073709551616):Calls Tryz.prog 70 #[af lo,af hi,af m] w fun e w'=>e=.returned (.tuple #[af R,.int .i64 0])∧Below w.heap.size w w':=by
 have q0:=reqn_no m hm O
 have aR:=hid aA
 have aS:=hid aB
 have HM:=hid hm
 have aQ:=hid O
 have HT:=hid (show aF (be hi 32 ++ be lo 32) % m=R by rw [tell_both hi lo aB aA,hR])
 have HV:=hid (show decide (m<18446744073709551616)=true from decide_eq_true D)
 have HS:=hid D
 have aC:=hid (rwd_one D)
 have RL:=hid (show R<18446744073709551616 from Nat.lt_trans (by rw [← hR]; exact Nat.mod_lt _ (Nat.pos_of_ne_zero O)) D)
 clear aA aB hm O hR D
 have H0:=hid ((((((ae.refl w).new lo).new hi).new m).zero).perm (l':=[(w.heap.size+1+1+1,0),(w.heap.size+1+1,m),(w.heap.size+1,hi),(w.heap.size,lo)]) (by simp))
 have DZ:=hid (show w.heap.size≤w.heap.size+1+1+1 by omega)
 have DN:=hid (show ∀ p∈[(w.heap.size,lo),(w.heap.size+1,hi),(w.heap.size+1+1,m)],p.1≠w.heap.size+1+1+1 by simp; try omega)
 go_enter Tryz.func70,Tryz.ntmps70
 go_upto_region 1 with fail
 generalize (((w.alloc (.cells (ai lo) 24)).alloc (.cells (ai hi) 24)).alloc (.cells (ai m) 24)).alloc (.cells #[.int .u64 0,.int .u64 0,.int .u64 0,.int .u64 0] 24)=w0 at *
 generalize w.heap.size+1+1+1=E at *
 generalize w.heap.size+1+1=I at *
 generalize w.heap.size+1=f at *
 generalize az:w.heap.size=z at *
 obtain ⟨aN,aM,aL,aK⟩:=H0.out.cell (I) (m) (by simp)
 have ax:=H0.out.lt (I) (m) (by simp)
 have aJ:=Nat.le_of_lt ax
 go_upto_region 3 with fail
 clear aN aM aL aK ax aJ
 have D:=H0.out.drew
 refine wp_region_noPanic ?_
 refine aa.region (fun (L:Array Bool) (w':World)=>w'.cell? ⟨f,0,none⟩=some (.int .u64 (wd (hi) 0:Int))∧w'.cell? ⟨f,1,none⟩=some (.int .u64 (wd (hi) 1:Int))∧w'.cell? ⟨f,2,none⟩=some (.int .u64 (wd (hi) 2:Int))∧w'.cell? ⟨f,3,none⟩=some (.int .u64 (wd (hi) 3:Int))∧w'.cell? ⟨z,0,none⟩=some (.int .u64 (wd (lo) 0:Int))∧w'.cell? ⟨z,1,none⟩=some (.int .u64 (wd (lo) 1:Int))∧w'.cell? ⟨z,2,none⟩=some (.int .u64 (wd (lo) 2:Int))∧w'.cell? ⟨z,3,none⟩=some (.int .u64 (wd (lo) 3:Int))) (by kernel_rfl) ?_
 generalize w0.drew=aW at *
 have bv:=hid (And.intro ((D).cell f (hi) (by simp)).1 (And.intro ((D).cell f (hi) (by simp)).2.1 (And.intro ((D).cell f (hi) (by simp)).2.2.1 (And.intro ((D).cell f (hi) (by simp)).2.2.2 (And.intro ((D).cell z (lo) (by simp)).1 (And.intro ((D).cell z (lo) (by simp)).2.1 (And.intro ((D).cell z (lo) (by simp)).2.2.1 ((D).cell z (lo) (by simp)).2.2.2)))))))
 refine aa.tk (i:=0) (o:=⟨some 15,_,_,_,_,_⟩) (v:=?_) [] (y:=Or.inl ⟨by rfl,?_⟩) (s:=bv.out) (H:=?_)
 rotate_left
 ·rintro w ⟨up,-,hX⟩; (try dsimp only at hX); obtain ⟨x0,x1,x2,x3,x4,x5,x6,x7⟩:=hX; go_simp; try with_reducible rfl
 try simp only [ac]
 refine aa.tk (i:=2) (o:=⟨some 17,_,_,_,_,_⟩) (v:=?_) [] (y:=Or.inl ⟨by rfl,?_⟩) (s:=bv.out) (H:=?_)
 rotate_left
 ·rintro w ⟨up,-,hX⟩; (try dsimp only at hX); obtain ⟨x0,x1,x2,x3,x4,x5,x6,x7⟩:=hX; go_simp; try with_reducible rfl
 try simp only [ac]
 clear bv
 refine aa.one (i:=1) (o:=⟨some 16,_,_,_,_,_⟩) (by kernel_rfl) rfl (fun K hK=>?_)
 go_simp
 with_reducible refine (put_k hi aS.out D).mono ?_
 rintro e aU ⟨A1,c1,rfl,M⟩
 go_wp2_with fail
 refine hK.out _ _ (⟨((M).cell f (hi) (by simp)).1,((M).cell f (hi) (by simp)).2.1,((M).cell f (hi) (by simp)).2.2.1,((M).cell f (hi) (by simp)).2.2.2,((M).cell z (lo) (by simp)).1,((M).cell z (lo) (by simp)).2.1,((M).cell z (lo) (by simp)).2.2.1,((M).cell z (lo) (by simp)).2.2.2⟩) ?_
 clear hK K
 try simp only [ac]
 clear D
 have D:=M
 clear M
 refine aa.one (i:=3) (o:=⟨some 18,_,_,_,_,_⟩) (by kernel_rfl) rfl (fun K hK=>?_)
 go_simp
 with_reducible refine (put_then lo 32 64 (by rw [aj]) (by decide) rfl aR.out D).mono ?_
 rintro e aT ⟨A2,c2,rfl,J⟩
 go_wp2_with fail
 refine hK.out _ _ (⟨((J).cell f (hi) (by simp)).1,((J).cell f (hi) (by simp)).2.1,((J).cell f (hi) (by simp)).2.2.1,((J).cell f (hi) (by simp)).2.2.2,((J).cell z (lo) (by simp)).1,((J).cell z (lo) (by simp)).2.1,((J).cell z (lo) (by simp)).2.2.1,((J).cell z (lo) (by simp)).2.2.2⟩) ?_
 clear hK K
 try simp only [ac]
 clear D
 have D:=J
 clear J
 refine aa.q 4 ⟨some 8,_,_,_,_,_⟩ ⟨((D).cell f (hi) (by simp)).1,((D).cell f (hi) (by simp)).2.1,((D).cell f (hi) (by simp)).2.2.1,((D).cell f (hi) (by simp)).2.2.2,((D).cell z (lo) (by simp)).1,((D).cell z (lo) (by simp)).2.1,((D).cell z (lo) (by simp)).2.2.1,((D).cell z (lo) (by simp)).2.2.2⟩ ?_
 try simp only [ac]
 refine aa.done (by kernel_rfl) ?_ _
 refine NoPanic.normal ?_
 have HK:=hid D
 clear D
 obtain ⟨ar,ap,an,al⟩:=HK.out.cell (I) (m) (by simp)
 have G:=HK.out.lt (I) (m) (by simp)
 have ad:=Nat.le_of_lt G
 go_wp2_with fail
 clear ar ap an al G ad
 refine (ek_of (rword_any m true _ HM.out HV.out) HK.out).mono ?_
 rintro e w51 ⟨rfl,h⟩
 have ay:=hid h
 clear h HK
 obtain ⟨ab,Z,Y,V⟩:=ay.out.cell (I) (m) (by simp)
 have F:=ay.out.lt (I) (m) (by simp)
 have U:=Nat.le_of_lt F
 go_wp2_with fail
 clear ab Z Y V F U
 refine (words_k 64 8 (wd m 0) R (by rw [List.length_append,aj,aj]) rfl (by decide) (by rw [aC.out]; exact Nat.pos_of_ne_zero aQ.out) (by rw [aC.out]; exact HS.out) (by rw [aC.out]; exact HT.out) ay.out).mono ?_
 rintro e w52 ⟨rfl,h⟩
 have aI:=hid h
 clear h ay
 go_wp2_with fail
 refine (ek_of (rof_any R _ RL.out) aI.out).mono ?_
 rintro e w53 ⟨rfl,h⟩
 have aG:=hid h
 clear h aI
 have HE:=hid aG.out.1
 clear aG
 obtain ⟨z0,z1,z2,z3⟩:=HE.out.cell E 0 (by simp)
 have zl:=HE.out.lt E 0 (by simp)
 have zf:=HE.out.frozen E 0 (by simp)
 have HZ:=hid (HE.out.set E 0 (R) [] (by simp) (by rw [az]; exact DZ.out) (by simp))
 go_wp2
 clear z0 z1 z2 z3 zl zf
 try rw [Exit.noGoto_ret]
 change bodyPost _ _ _ _ _ (fil w53 E (R))
 generalize fil w53 E (R)=wz at *
 obtain ⟨k0,k1,k2,k3⟩:=HZ.out.cell E (R) (by simp)
 exact bodyPost_ret (v:=.tuple #[af (R),.int .i64 0]) (by simp [results,Tryz.results70,go_sem,k0,k1,k2,k3]) rfl ⟨rfl,HZ.out.1⟩
theorem rwide_large (lo hi m R:Nat) (w:World) (aG:lo<2 ^ 256) (aI:hi<2 ^ 256) (hm:m<2 ^ 256) (aC:m≠0) (hR:(lo+2 ^ 256 * hi) % m=R) (D:¬ m<18446744073709551616):Calls Tryz.prog 70 #[af lo,af hi,af m] w fun e w'=>e=.returned (.tuple #[af R,.int .i64 0])∧Below w.heap.size w w':=by
 have q0:=reqn_no m hm aC
 have bd:=hid aG
 have bk:=hid aI
 have HM:=hid hm
 have bb:=hid aC
 have HT:=hid (show aF (be hi 32 ++ be lo 32) % m=R by rw [tell_both hi lo aI aG,hR])
 have HV:=hid (show decide (m<18446744073709551616)=false from decide_eq_false D)
 clear aG aI hm aC hR D
 have H0:=hid ((((((ae.refl w).new lo).new hi).new m).zero).perm (l':=[(w.heap.size+1+1+1,0),(w.heap.size+1+1,m),(w.heap.size+1,hi),(w.heap.size,lo)]) (by simp))
 have DZ:=hid (show w.heap.size≤w.heap.size+1+1+1 by omega)
 have DN:=hid (show ∀ p∈[(w.heap.size,lo),(w.heap.size+1,hi),(w.heap.size+1+1,m)],p.1≠w.heap.size+1+1+1 by simp; try omega)
 go_enter Tryz.func70,Tryz.ntmps70
 go_upto_region 1 with fail
 generalize (((w.alloc (.cells (ai lo) 24)).alloc (.cells (ai hi) 24)).alloc (.cells (ai m) 24)).alloc (.cells #[.int .u64 0,.int .u64 0,.int .u64 0,.int .u64 0] 24)=w0 at *
 generalize w.heap.size+1+1+1=F at *
 generalize w.heap.size+1+1=J at *
 generalize w.heap.size+1=f at *
 generalize aB:w.heap.size=z at *
 obtain ⟨aN,aM,aL,aK⟩:=H0.out.cell (J) (m) (by simp)
 have ax:=H0.out.lt (J) (m) (by simp)
 have aJ:=Nat.le_of_lt ax
 go_upto_region 3 with fail
 clear aN aM aL aK ax aJ
 have D:=H0.out.drew
 refine wp_region_noPanic ?_
 refine aa.region (fun (L:Array Bool) (w':World)=>w'.cell? ⟨f,0,none⟩=some (.int .u64 (wd (hi) 0:Int))∧w'.cell? ⟨f,1,none⟩=some (.int .u64 (wd (hi) 1:Int))∧w'.cell? ⟨f,2,none⟩=some (.int .u64 (wd (hi) 2:Int))∧w'.cell? ⟨f,3,none⟩=some (.int .u64 (wd (hi) 3:Int))∧w'.cell? ⟨z,0,none⟩=some (.int .u64 (wd (lo) 0:Int))∧w'.cell? ⟨z,1,none⟩=some (.int .u64 (wd (lo) 1:Int))∧w'.cell? ⟨z,2,none⟩=some (.int .u64 (wd (lo) 2:Int))∧w'.cell? ⟨z,3,none⟩=some (.int .u64 (wd (lo) 3:Int))) (by kernel_rfl) ?_
 generalize w0.drew=bo at *
 have bv:=hid (And.intro ((D).cell f (hi) (by simp)).1 (And.intro ((D).cell f (hi) (by simp)).2.1 (And.intro ((D).cell f (hi) (by simp)).2.2.1 (And.intro ((D).cell f (hi) (by simp)).2.2.2 (And.intro ((D).cell z (lo) (by simp)).1 (And.intro ((D).cell z (lo) (by simp)).2.1 (And.intro ((D).cell z (lo) (by simp)).2.2.1 ((D).cell z (lo) (by simp)).2.2.2)))))))
 refine aa.tk (i:=0) (o:=⟨some 15,_,_,_,_,_⟩) (v:=?_) [] (y:=Or.inl ⟨by rfl,?_⟩) (s:=bv.out) (H:=?_)
 rotate_left
 ·rintro w ⟨up,-,hX⟩; (try dsimp only at hX); obtain ⟨x0,x1,x2,x3,x4,x5,x6,x7⟩:=hX; go_simp; try with_reducible rfl
 try simp only [ac]
 refine aa.tk (i:=2) (o:=⟨some 17,_,_,_,_,_⟩) (v:=?_) [] (y:=Or.inl ⟨by rfl,?_⟩) (s:=bv.out) (H:=?_)
 rotate_left
 ·rintro w ⟨up,-,hX⟩; (try dsimp only at hX); obtain ⟨x0,x1,x2,x3,x4,x5,x6,x7⟩:=hX; go_simp; try with_reducible rfl
 try simp only [ac]
 clear bv
 refine aa.one (i:=1) (o:=⟨some 16,_,_,_,_,_⟩) (by kernel_rfl) rfl (fun K hK=>?_)
 go_simp
 with_reducible refine (put_k hi bk.out D).mono ?_
 rintro e bn ⟨A1,c1,rfl,O⟩
 go_wp2_with fail
 refine hK.out _ _ (⟨((O).cell f (hi) (by simp)).1,((O).cell f (hi) (by simp)).2.1,((O).cell f (hi) (by simp)).2.2.1,((O).cell f (hi) (by simp)).2.2.2,((O).cell z (lo) (by simp)).1,((O).cell z (lo) (by simp)).2.1,((O).cell z (lo) (by simp)).2.2.1,((O).cell z (lo) (by simp)).2.2.2⟩) ?_
 clear hK K
 try simp only [ac]
 clear D
 have D:=O
 clear O
 refine aa.one (i:=3) (o:=⟨some 18,_,_,_,_,_⟩) (by kernel_rfl) rfl (fun K hK=>?_)
 go_simp
 with_reducible refine (put_then lo 32 64 (by rw [aj]) (by decide) rfl bd.out D).mono ?_
 rintro e bm ⟨A2,c2,rfl,M⟩
 go_wp2_with fail
 refine hK.out _ _ (⟨((M).cell f (hi) (by simp)).1,((M).cell f (hi) (by simp)).2.1,((M).cell f (hi) (by simp)).2.2.1,((M).cell f (hi) (by simp)).2.2.2,((M).cell z (lo) (by simp)).1,((M).cell z (lo) (by simp)).2.1,((M).cell z (lo) (by simp)).2.2.1,((M).cell z (lo) (by simp)).2.2.2⟩) ?_
 clear hK K
 try simp only [ac]
 clear D
 have D:=M
 clear M
 refine aa.q 4 ⟨some 8,_,_,_,_,_⟩ ⟨((D).cell f (hi) (by simp)).1,((D).cell f (hi) (by simp)).2.1,((D).cell f (hi) (by simp)).2.2.1,((D).cell f (hi) (by simp)).2.2.2,((D).cell z (lo) (by simp)).1,((D).cell z (lo) (by simp)).2.1,((D).cell z (lo) (by simp)).2.2.1,((D).cell z (lo) (by simp)).2.2.2⟩ ?_
 try simp only [ac]
 refine aa.done (by kernel_rfl) ?_ _
 refine NoPanic.normal ?_
 have HK:=hid D
 clear D
 obtain ⟨ay,ar,ap,an⟩:=HK.out.cell (J) (m) (by simp)
 have I:=HK.out.lt (J) (m) (by simp)
 have al:=Nat.le_of_lt I
 go_wp2_with fail
 clear ay ar ap an I al
 refine (ek_of (rword_any m false _ HM.out HV.out) HK.out).mono ?_
 rintro e w51 ⟨rfl,h⟩
 have az:=hid h
 clear h HK
 obtain ⟨ad,ab,Z,Y⟩:=az.out.cell (J) (m) (by simp)
 have G:=az.out.lt (J) (m) (by simp)
 have V:=Nat.le_of_lt G
 go_wp2_with fail
 clear ad ab Z Y G V
 refine (down_k 64 m _ R (by rw [List.length_append,aj,aj]) (by decide) (Nat.pos_of_ne_zero bb.out) HM.out rfl HT.out az.out).mono ?_
 rintro e w52 ⟨A3,c3,rfl,h⟩
 have aR:=hid h
 clear h az
 have HE:=hid aR.out.1
 clear aR
 go_upto_region 7 with fail
 have E:=hid (HE.out.new R)
 clear HE
 generalize w52.alloc (.cells (ai R) 24)=aA at *
 generalize w52.heap.size=aQ at *
 obtain ⟨ba,aW,aU,aT⟩:=E.out.cell (aQ) (R) (by simp)
 have U:=E.out.lt (aQ) (R) (by simp)
 have aS:=Nat.le_of_lt U
 obtain ⟨z0,z1,z2,z3⟩:=E.out.cell F 0 (by simp)
 have zl:=E.out.lt F 0 (by simp)
 have zf:=E.out.frozen F 0 (by simp)
 have HZ:=hid (E.out.set F 0 (R) [] (by simp) (by rw [aB]; exact DZ.out) (by simp))
 go_wp2
 clear z0 z1 z2 z3 zl zf
 try rw [Exit.noGoto_ret]
 change bodyPost _ _ _ _ _ (fil aA F (R))
 generalize fil aA F (R)=wz at *
 obtain ⟨k0,k1,k2,k3⟩:=HZ.out.cell F (R) (by simp)
 exact bodyPost_ret (v:=.tuple #[af (R),.int .i64 0]) (by simp [results,Tryz.results70,go_sem,k0,k1,k2,k3]) rfl ⟨rfl,HZ.out.1⟩
theorem rwide_any (lo hi m R:Nat) (w:World) (z:lo<2 ^ 256) (D:hi<2 ^ 256) (F:m<2 ^ 256) (f:m≠0) (G:(lo+2 ^ 256 * hi) % m=R):Calls Tryz.prog 70 #[af lo,af hi,af m] w fun e w'=>e=.returned (.tuple #[af R,.int .i64 0])∧Below w.heap.size w w':=by
 by_cases E:m<18446744073709551616
 ·exact rwide_small lo hi m R w z D F f G E
 ·exact rwide_large lo hi m R w z D F f G E
theorem rmay_a (a b m:Nat) (w:World) (V:a<2 ^ 256) (hb:b<2 ^ 256) (U:m<2 ^ 256) (hv:¬ 1<m):Calls Tryz.prog 46 #[af a,af b,af m] w fun e w'=>e=.returned (.bool false)∧Below w.heap.size w w':=by
 obtain ⟨Z,M⟩:∃ z,aD m 1=z:=⟨_,rfl⟩
 have Nc1:=hid (show decide (0<Z)=false from decide_eq_false (by rw [← M]; unfold aD; split <;> (try split) <;> omega))
 have Ec1:=hid M
 clear M
 have HA:=hid V
 have HB:=hid hb
 have HM:=hid U
 clear V hb U hv
 have H0:=hid (((((ae.refl w).new a).new b).new m).perm (l':=[(w.heap.size+1+1,m),(w.heap.size+1,b),(w.heap.size,a)]) (by simp))
 go_enter Tryz.func46,Tryz.ntmps46
 go_upto_region 1 with fail
 generalize ((w.alloc (.cells (ai a) 24)).alloc (.cells (ai b) 24)).alloc (.cells (ai m) 24)=w0 at *
 generalize w.heap.size+1+1=f at *
 generalize w.heap.size+1=D at *
 generalize R:w.heap.size=E at *
 have F:=H0.out.drew
 refine wp_region_noPanic ?_
 refine aa.region (fun (L:Array Bool) (w':World)=>w'.cell? ⟨E,0,none⟩=some (.int .u64 (wd (a) 0:Int))∧w'.cell? ⟨E,1,none⟩=some (.int .u64 (wd (a) 1:Int))∧w'.cell? ⟨E,2,none⟩=some (.int .u64 (wd (a) 2:Int))∧w'.cell? ⟨E,3,none⟩=some (.int .u64 (wd (a) 3:Int))∧w'.cell? ⟨D,0,none⟩=some (.int .u64 (wd (b) 0:Int))∧w'.cell? ⟨D,1,none⟩=some (.int .u64 (wd (b) 1:Int))∧w'.cell? ⟨D,2,none⟩=some (.int .u64 (wd (b) 2:Int))∧w'.cell? ⟨D,3,none⟩=some (.int .u64 (wd (b) 3:Int))∧w'.cell? ⟨f,0,none⟩=some (.int .u64 (wd (m) 0:Int))∧w'.cell? ⟨f,1,none⟩=some (.int .u64 (wd (m) 1:Int))∧w'.cell? ⟨f,2,none⟩=some (.int .u64 (wd (m) 2:Int))∧w'.cell? ⟨f,3,none⟩=some (.int .u64 (wd (m) 3:Int))) (by kernel_rfl) ?_
 generalize w0.drew=ap at *
 refine aa.tk (i:=0) (o:=⟨some 7,_,_,_,_,_⟩) (v:=?_) [] (y:=Or.inl ⟨by rfl,?_⟩) (s:=⟨(ae.cell F E (a) (by simp)).1,(ae.cell F E (a) (by simp)).2.1,(ae.cell F E (a) (by simp)).2.2.1,(ae.cell F E (a) (by simp)).2.2.2,(ae.cell F D (b) (by simp)).1,(ae.cell F D (b) (by simp)).2.1,(ae.cell F D (b) (by simp)).2.2.1,(ae.cell F D (b) (by simp)).2.2.2,(ae.cell F f (m) (by simp)).1,(ae.cell F f (m) (by simp)).2.1,(ae.cell F f (m) (by simp)).2.2.1,(ae.cell F f (m) (by simp)).2.2.2⟩) (H:=?_)
 rotate_left
 ·rintro w ⟨up,-,Y⟩; (try dsimp only at Y); obtain ⟨x0,x1,x2,x3,x4,x5,x6,x7,x8,x9,ad,ab⟩:=Y; go_simp; try with_reducible rfl
 try simp only [ac]
 refine aa.one (i:=1) (o:=⟨some 8,_,_,_,_,_⟩) (by kernel_rfl) rfl (fun K O=>?_)
 go_simp
 with_reducible refine (ah (rof_b 1 1 _ (by decide) rfl) F).mono ?_
 rintro e an ⟨rfl,J⟩
 go_wp2_with fail
 refine O.out _ _ (⟨(ae.cell J E (a) (by simp)).1,(ae.cell J E (a) (by simp)).2.1,(ae.cell J E (a) (by simp)).2.2.1,(ae.cell J E (a) (by simp)).2.2.2,(ae.cell J D (b) (by simp)).1,(ae.cell J D (b) (by simp)).2.1,(ae.cell J D (b) (by simp)).2.2.1,(ae.cell J D (b) (by simp)).2.2.2,(ae.cell J f (m) (by simp)).1,(ae.cell J f (m) (by simp)).2.1,(ae.cell J f (m) (by simp)).2.2.1,(ae.cell J f (m) (by simp)).2.2.2⟩) ?_
 clear O K
 try simp only [ac]
 clear F
 have F:=J
 clear J
 refine aa.one (i:=2) (o:=⟨some 9,_,_,_,_,_⟩) (by kernel_rfl) rfl (fun K O=>?_)
 go_simp
 with_reducible refine (ah (dt m 1 Z _ HM.out (by decide) Ec1.out) F).mono ?_
 rintro e al ⟨rfl,I⟩
 go_wp2_with fail
 refine O.out _ _ (⟨(ae.cell I E (a) (by simp)).1,(ae.cell I E (a) (by simp)).2.1,(ae.cell I E (a) (by simp)).2.2.1,(ae.cell I E (a) (by simp)).2.2.2,(ae.cell I D (b) (by simp)).1,(ae.cell I D (b) (by simp)).2.1,(ae.cell I D (b) (by simp)).2.2.1,(ae.cell I D (b) (by simp)).2.2.2,(ae.cell I f (m) (by simp)).1,(ae.cell I f (m) (by simp)).2.1,(ae.cell I f (m) (by simp)).2.2.1,(ae.cell I f (m) (by simp)).2.2.2⟩) ?_
 clear O K
 try simp only [ac]
 clear F
 have F:=I
 clear I
 have G:=hid (And.intro (ae.cell F E (a) (by simp)).1 (And.intro (ae.cell F E (a) (by simp)).2.1 (And.intro (ae.cell F E (a) (by simp)).2.2.1 (And.intro (ae.cell F E (a) (by simp)).2.2.2 (And.intro (ae.cell F D (b) (by simp)).1 (And.intro (ae.cell F D (b) (by simp)).2.1 (And.intro (ae.cell F D (b) (by simp)).2.2.1 (And.intro (ae.cell F D (b) (by simp)).2.2.2 (And.intro (ae.cell F f (m) (by simp)).1 (And.intro (ae.cell F f (m) (by simp)).2.1 (And.intro (ae.cell F f (m) (by simp)).2.2.1 (ae.cell F f (m) (by simp)).2.2.2)))))))))))
 refine aa.tk (i:=3) (o:=⟨some 10,_,_,_,_,_⟩) (v:=?_) [] (y:=Or.inl ⟨by rfl,?_⟩) (s:=G.out) (H:=?_)
 rotate_left
 ·intro w hY; go_simp; (try rw [Nc1.out]); try with_reducible rfl
 try simp only [ac]
 refine aa.q 4 ⟨some 11,_,_,_,_,_⟩ G.out ?_
 try simp only [ac]
 refine aa.tk (i:=5) (o:=⟨some 12,_,_,_,_,_⟩) [] (y:=Or.inr ⟨by rfl,rfl⟩) (s:=G.out) (H:=?_)
 try simp only [ac]
 refine aa.tk (i:=6) (o:=⟨some 13,_,_,_,_,_⟩) [] (y:=Or.inr ⟨by rfl,rfl⟩) (s:=G.out) (H:=?_)
 try simp only [ac]
 refine aa.tk (i:=7) (o:=⟨some 14,_,_,_,_,_⟩) [] (y:=Or.inr ⟨by rfl,rfl⟩) (s:=G.out) (H:=?_)
 try simp only [ac]
 refine aa.tk (i:=8) (o:=⟨some 15,_,_,_,_,_⟩) [] (y:=Or.inr ⟨by rfl,rfl⟩) (s:=G.out) (H:=?_)
 try simp only [ac]
 refine aa.q 9 ⟨some 16,_,_,_,_,_⟩ G.out ?_
 try simp only [ac]
 refine aa.q 10 ⟨some 17,_,_,_,_,_⟩ G.out ?_
 try simp only [ac]
 refine aa.tk (i:=11) (o:=⟨some 18,_,_,_,_,_⟩) [] (y:=Or.inr ⟨by rfl,rfl⟩) (s:=G.out) (H:=?_)
 try simp only [ac]
 refine aa.tk (i:=12) (o:=⟨some 19,_,_,_,_,_⟩) [] (y:=Or.inr ⟨by rfl,rfl⟩) (s:=G.out) (H:=?_)
 try simp only [ac]
 refine aa.tk (i:=13) (o:=⟨some 20,_,_,_,_,_⟩) [] (y:=Or.inr ⟨by rfl,rfl⟩) (s:=G.out) (H:=?_)
 try simp only [ac]
 refine aa.tk (i:=14) (o:=⟨some 21,_,_,_,_,_⟩) [] (y:=Or.inr ⟨by rfl,rfl⟩) (s:=G.out) (H:=?_)
 try simp only [ac]
 refine aa.q 15 ⟨some 22,_,_,_,_,_⟩ G.out ?_
 try simp only [ac]
 refine aa.q 16 ⟨some 6,_,_,_,_,_⟩ G.out ?_
 try simp only [ac]
 clear G
 refine aa.done (by kernel_rfl) ?_ _
 refine NoPanic.normal ?_
 go_wp2_with fail
 exact bodyPost_ret (v:=.bool false) (by simp [results,Tryz.results46,go_sem]) rfl ⟨rfl,F.1⟩
theorem rmay_b (a b m:Nat) (w:World) (ha:a<2 ^ 256) (hb:b<2 ^ 256) (hm:m<2 ^ 256) (hv:1<m∧¬ a<m):Calls Tryz.prog 46 #[af a,af b,af m] w fun e w'=>e=.returned (.bool false)∧Below w.heap.size w w':=by
 obtain ⟨c1,V⟩:∃ z,aD m 1=z:=⟨_,rfl⟩
 have Nc1:=hid (show decide (0<c1)=true from decide_eq_true (by rw [← V]; unfold aD; split <;> (try split) <;> omega))
 have Ec1:=hid V
 clear V
 obtain ⟨c2,U⟩:∃ z,aD a m=z:=⟨_,rfl⟩
 have Nc2:=hid (show decide (c2<0)=false from decide_eq_false (by rw [← U]; unfold aD; split <;> (try split) <;> omega))
 have Ec2:=hid U
 clear U
 have HA:=hid ha
 have HB:=hid hb
 have HM:=hid hm
 clear ha hb hm hv
 have H0:=hid (((((ae.refl w).new a).new b).new m).perm (l':=[(w.heap.size+1+1,m),(w.heap.size+1,b),(w.heap.size,a)]) (by simp))
 go_enter Tryz.func46,Tryz.ntmps46
 go_upto_region 1 with fail
 generalize ((w.alloc (.cells (ai a) 24)).alloc (.cells (ai b) 24)).alloc (.cells (ai m) 24)=w0 at *
 generalize w.heap.size+1+1=f at *
 generalize w.heap.size+1=D at *
 generalize ab:w.heap.size=E at *
 have F:=H0.out.drew
 refine wp_region_noPanic ?_
 refine aa.region (fun (L:Array Bool) (w':World)=>w'.cell? ⟨E,0,none⟩=some (.int .u64 (wd (a) 0:Int))∧w'.cell? ⟨E,1,none⟩=some (.int .u64 (wd (a) 1:Int))∧w'.cell? ⟨E,2,none⟩=some (.int .u64 (wd (a) 2:Int))∧w'.cell? ⟨E,3,none⟩=some (.int .u64 (wd (a) 3:Int))∧w'.cell? ⟨D,0,none⟩=some (.int .u64 (wd (b) 0:Int))∧w'.cell? ⟨D,1,none⟩=some (.int .u64 (wd (b) 1:Int))∧w'.cell? ⟨D,2,none⟩=some (.int .u64 (wd (b) 2:Int))∧w'.cell? ⟨D,3,none⟩=some (.int .u64 (wd (b) 3:Int))∧w'.cell? ⟨f,0,none⟩=some (.int .u64 (wd (m) 0:Int))∧w'.cell? ⟨f,1,none⟩=some (.int .u64 (wd (m) 1:Int))∧w'.cell? ⟨f,2,none⟩=some (.int .u64 (wd (m) 2:Int))∧w'.cell? ⟨f,3,none⟩=some (.int .u64 (wd (m) 3:Int))) (by kernel_rfl) ?_
 generalize w0.drew=ap at *
 refine aa.tk (i:=0) (o:=⟨some 7,_,_,_,_,_⟩) (v:=?_) [] (y:=Or.inl ⟨by rfl,?_⟩) (s:=⟨(ae.cell F E (a) (by simp)).1,(ae.cell F E (a) (by simp)).2.1,(ae.cell F E (a) (by simp)).2.2.1,(ae.cell F E (a) (by simp)).2.2.2,(ae.cell F D (b) (by simp)).1,(ae.cell F D (b) (by simp)).2.1,(ae.cell F D (b) (by simp)).2.2.1,(ae.cell F D (b) (by simp)).2.2.2,(ae.cell F f (m) (by simp)).1,(ae.cell F f (m) (by simp)).2.1,(ae.cell F f (m) (by simp)).2.2.1,(ae.cell F f (m) (by simp)).2.2.2⟩) (H:=?_)
 rotate_left
 ·rintro w ⟨up,-,O⟩; (try dsimp only at O); obtain ⟨x0,x1,x2,x3,x4,x5,x6,x7,x8,x9,Z,Y⟩:=O; go_simp; try with_reducible rfl
 try simp only [ac]
 refine aa.one (i:=1) (o:=⟨some 8,_,_,_,_,_⟩) (by kernel_rfl) rfl (fun K R=>?_)
 go_simp
 with_reducible refine (ah (rof_b 1 1 _ (by decide) rfl) F).mono ?_
 rintro e an ⟨rfl,M⟩
 go_wp2_with fail
 refine R.out _ _ (⟨(ae.cell M E (a) (by simp)).1,(ae.cell M E (a) (by simp)).2.1,(ae.cell M E (a) (by simp)).2.2.1,(ae.cell M E (a) (by simp)).2.2.2,(ae.cell M D (b) (by simp)).1,(ae.cell M D (b) (by simp)).2.1,(ae.cell M D (b) (by simp)).2.2.1,(ae.cell M D (b) (by simp)).2.2.2,(ae.cell M f (m) (by simp)).1,(ae.cell M f (m) (by simp)).2.1,(ae.cell M f (m) (by simp)).2.2.1,(ae.cell M f (m) (by simp)).2.2.2⟩) ?_
 clear R K
 try simp only [ac]
 clear F
 have F:=M
 clear M
 refine aa.one (i:=2) (o:=⟨some 9,_,_,_,_,_⟩) (by kernel_rfl) rfl (fun K R=>?_)
 go_simp
 with_reducible refine (ah (dt m 1 c1 _ HM.out (by decide) Ec1.out) F).mono ?_
 rintro e al ⟨rfl,J⟩
 go_wp2_with fail
 refine R.out _ _ (⟨(ae.cell J E (a) (by simp)).1,(ae.cell J E (a) (by simp)).2.1,(ae.cell J E (a) (by simp)).2.2.1,(ae.cell J E (a) (by simp)).2.2.2,(ae.cell J D (b) (by simp)).1,(ae.cell J D (b) (by simp)).2.1,(ae.cell J D (b) (by simp)).2.2.1,(ae.cell J D (b) (by simp)).2.2.2,(ae.cell J f (m) (by simp)).1,(ae.cell J f (m) (by simp)).2.1,(ae.cell J f (m) (by simp)).2.2.1,(ae.cell J f (m) (by simp)).2.2.2⟩) ?_
 clear R K
 try simp only [ac]
 clear F
 have F:=J
 clear J
 have G:=hid (And.intro (ae.cell F E (a) (by simp)).1 (And.intro (ae.cell F E (a) (by simp)).2.1 (And.intro (ae.cell F E (a) (by simp)).2.2.1 (And.intro (ae.cell F E (a) (by simp)).2.2.2 (And.intro (ae.cell F D (b) (by simp)).1 (And.intro (ae.cell F D (b) (by simp)).2.1 (And.intro (ae.cell F D (b) (by simp)).2.2.1 (And.intro (ae.cell F D (b) (by simp)).2.2.2 (And.intro (ae.cell F f (m) (by simp)).1 (And.intro (ae.cell F f (m) (by simp)).2.1 (And.intro (ae.cell F f (m) (by simp)).2.2.1 (ae.cell F f (m) (by simp)).2.2.2)))))))))))
 refine aa.tk (i:=3) (o:=⟨some 10,_,_,_,_,_⟩) (v:=?_) [] (y:=Or.inl ⟨by rfl,?_⟩) (s:=G.out) (H:=?_)
 rotate_left
 ·intro w hY; go_simp; (try rw [Nc1.out]); try with_reducible rfl
 try simp only [ac]
 refine aa.q 4 ⟨some 11,_,_,_,_,_⟩ G.out ?_
 try simp only [ac]
 refine aa.tk (i:=5) (o:=⟨some 12,_,_,_,_,_⟩) (v:=?_) [] (y:=Or.inl ⟨by rfl,?_⟩) (s:=G.out) (H:=?_)
 rotate_left
 ·rintro w ⟨up,-,O⟩; (try dsimp only at O); obtain ⟨x0,x1,x2,x3,x4,x5,x6,x7,x8,x9,Z,Y⟩:=O; go_simp; try with_reducible rfl
 try simp only [ac]
 refine aa.tk (i:=6) (o:=⟨some 13,_,_,_,_,_⟩) (v:=?_) [] (y:=Or.inl ⟨by rfl,?_⟩) (s:=G.out) (H:=?_)
 rotate_left
 ·rintro w ⟨up,-,O⟩; (try dsimp only at O); obtain ⟨x0,x1,x2,x3,x4,x5,x6,x7,x8,x9,Z,Y⟩:=O; go_simp; try with_reducible rfl
 try simp only [ac]
 clear G
 refine aa.one (i:=7) (o:=⟨some 14,_,_,_,_,_⟩) (by kernel_rfl) rfl (fun K R=>?_)
 go_simp
 with_reducible refine (ah (dt a m c2 _ HA.out HM.out Ec2.out) F).mono ?_
 rintro e ad ⟨rfl,I⟩
 go_wp2_with fail
 refine R.out _ _ (⟨(ae.cell I E (a) (by simp)).1,(ae.cell I E (a) (by simp)).2.1,(ae.cell I E (a) (by simp)).2.2.1,(ae.cell I E (a) (by simp)).2.2.2,(ae.cell I D (b) (by simp)).1,(ae.cell I D (b) (by simp)).2.1,(ae.cell I D (b) (by simp)).2.2.1,(ae.cell I D (b) (by simp)).2.2.2,(ae.cell I f (m) (by simp)).1,(ae.cell I f (m) (by simp)).2.1,(ae.cell I f (m) (by simp)).2.2.1,(ae.cell I f (m) (by simp)).2.2.2⟩) ?_
 clear R K
 try simp only [ac]
 clear F
 have F:=I
 clear I
 have G:=hid (And.intro (ae.cell F E (a) (by simp)).1 (And.intro (ae.cell F E (a) (by simp)).2.1 (And.intro (ae.cell F E (a) (by simp)).2.2.1 (And.intro (ae.cell F E (a) (by simp)).2.2.2 (And.intro (ae.cell F D (b) (by simp)).1 (And.intro (ae.cell F D (b) (by simp)).2.1 (And.intro (ae.cell F D (b) (by simp)).2.2.1 (And.intro (ae.cell F D (b) (by simp)).2.2.2 (And.intro (ae.cell F f (m) (by simp)).1 (And.intro (ae.cell F f (m) (by simp)).2.1 (And.intro (ae.cell F f (m) (by simp)).2.2.1 (ae.cell F f (m) (by simp)).2.2.2)))))))))))
 refine aa.tk (i:=8) (o:=⟨some 15,_,_,_,_,_⟩) (v:=?_) [] (y:=Or.inl ⟨by rfl,?_⟩) (s:=G.out) (H:=?_)
 rotate_left
 ·intro w hY; go_simp; (try rw [Nc2.out]); try with_reducible rfl
 try simp only [ac]
 refine aa.q 9 ⟨some 16,_,_,_,_,_⟩ G.out ?_
 try simp only [ac]
 refine aa.q 10 ⟨some 17,_,_,_,_,_⟩ G.out ?_
 try simp only [ac]
 refine aa.tk (i:=11) (o:=⟨some 18,_,_,_,_,_⟩) [] (y:=Or.inr ⟨by rfl,rfl⟩) (s:=G.out) (H:=?_)
 try simp only [ac]
 refine aa.tk (i:=12) (o:=⟨some 19,_,_,_,_,_⟩) [] (y:=Or.inr ⟨by rfl,rfl⟩) (s:=G.out) (H:=?_)
 try simp only [ac]
 refine aa.tk (i:=13) (o:=⟨some 20,_,_,_,_,_⟩) [] (y:=Or.inr ⟨by rfl,rfl⟩) (s:=G.out) (H:=?_)
 try simp only [ac]
 refine aa.tk (i:=14) (o:=⟨some 21,_,_,_,_,_⟩) [] (y:=Or.inr ⟨by rfl,rfl⟩) (s:=G.out) (H:=?_)
 try simp only [ac]
 refine aa.q 15 ⟨some 22,_,_,_,_,_⟩ G.out ?_
 try simp only [ac]
 refine aa.q 16 ⟨some 6,_,_,_,_,_⟩ G.out ?_
 try simp only [ac]
 clear G
 refine aa.done (by kernel_rfl) ?_ _
 refine NoPanic.normal ?_
 go_wp2_with fail
 exact bodyPost_ret (v:=.bool false) (by simp [results,Tryz.results46,go_sem]) rfl ⟨rfl,F.1⟩
theorem rmay_x (a b m:Nat) (t:Bool) (w:World) (ha:a<2 ^ 256) (hb:b<2 ^ 256) (hm:m<2 ^ 256) (hv:1<m∧a<m) (ht:decide (b<m)=t):Calls Tryz.prog 46 #[af a,af b,af m] w fun e w'=>e=.returned (.bool t)∧Below w.heap.size w w':=by
 obtain ⟨c1,ad⟩:∃ z,aD m 1=z:=⟨_,rfl⟩
 have Nc1:=hid (show decide (0<c1)=true from decide_eq_true (by rw [← ad]; unfold aD; split <;> (try split) <;> omega))
 have Ec1:=hid ad
 clear ad
 obtain ⟨c2,ab⟩:∃ z,aD a m=z:=⟨_,rfl⟩
 have Nc2:=hid (show decide (c2<0)=true from decide_eq_true (by rw [← ab]; unfold aD; split <;> (try split) <;> omega))
 have Ec2:=hid ab
 clear ab
 obtain ⟨c3,Z⟩:∃ z,aD b m=z:=⟨_,rfl⟩
 have Nc3:=hid (show decide (c3<0)=t by rw [← ht,← Z]; exact decide_eq_decide.2 (by unfold aD; split <;> (try split) <;> omega))
 have Ec3:=hid Z
 clear Z
 have HA:=hid ha
 have HB:=hid hb
 have HM:=hid hm
 clear ha hb hm hv ht
 have H0:=hid (((((ae.refl w).new a).new b).new m).perm (l':=[(w.heap.size+1+1,m),(w.heap.size+1,b),(w.heap.size,a)]) (by simp))
 go_enter Tryz.func46,Tryz.ntmps46
 go_upto_region 1 with fail
 generalize ((w.alloc (.cells (ai a) 24)).alloc (.cells (ai b) 24)).alloc (.cells (ai m) 24)=w0 at *
 generalize w.heap.size+1+1=f at *
 generalize w.heap.size+1=D at *
 generalize al:w.heap.size=E at *
 have F:=H0.out.drew
 refine wp_region_noPanic ?_
 refine aa.region (fun (L:Array Bool) (w':World)=>w'.cell? ⟨E,0,none⟩=some (.int .u64 (wd (a) 0:Int))∧w'.cell? ⟨E,1,none⟩=some (.int .u64 (wd (a) 1:Int))∧w'.cell? ⟨E,2,none⟩=some (.int .u64 (wd (a) 2:Int))∧w'.cell? ⟨E,3,none⟩=some (.int .u64 (wd (a) 3:Int))∧w'.cell? ⟨D,0,none⟩=some (.int .u64 (wd (b) 0:Int))∧w'.cell? ⟨D,1,none⟩=some (.int .u64 (wd (b) 1:Int))∧w'.cell? ⟨D,2,none⟩=some (.int .u64 (wd (b) 2:Int))∧w'.cell? ⟨D,3,none⟩=some (.int .u64 (wd (b) 3:Int))∧w'.cell? ⟨f,0,none⟩=some (.int .u64 (wd (m) 0:Int))∧w'.cell? ⟨f,1,none⟩=some (.int .u64 (wd (m) 1:Int))∧w'.cell? ⟨f,2,none⟩=some (.int .u64 (wd (m) 2:Int))∧w'.cell? ⟨f,3,none⟩=some (.int .u64 (wd (m) 3:Int))) (by kernel_rfl) ?_
 generalize w0.drew=ay at *
 refine aa.tk (i:=0) (o:=⟨some 7,_,_,_,_,_⟩) (v:=?_) [] (y:=Or.inl ⟨by rfl,?_⟩) (s:=⟨(ae.cell F E (a) (by simp)).1,(ae.cell F E (a) (by simp)).2.1,(ae.cell F E (a) (by simp)).2.2.1,(ae.cell F E (a) (by simp)).2.2.2,(ae.cell F D (b) (by simp)).1,(ae.cell F D (b) (by simp)).2.1,(ae.cell F D (b) (by simp)).2.2.1,(ae.cell F D (b) (by simp)).2.2.2,(ae.cell F f (m) (by simp)).1,(ae.cell F f (m) (by simp)).2.1,(ae.cell F f (m) (by simp)).2.2.1,(ae.cell F f (m) (by simp)).2.2.2⟩) (H:=?_)
 rotate_left
 ·rintro w ⟨up,-,J⟩; (try dsimp only at J); obtain ⟨x0,x1,x2,x3,x4,x5,x6,x7,x8,x9,Y,V⟩:=J; go_simp; try with_reducible rfl
 try simp only [ac]
 refine aa.one (i:=1) (o:=⟨some 8,_,_,_,_,_⟩) (by kernel_rfl) rfl (fun K U=>?_)
 go_simp
 with_reducible refine (ah (rof_b 1 1 _ (by decide) rfl) F).mono ?_
 rintro e ax ⟨rfl,R⟩
 go_wp2_with fail
 refine U.out _ _ (⟨(ae.cell R E (a) (by simp)).1,(ae.cell R E (a) (by simp)).2.1,(ae.cell R E (a) (by simp)).2.2.1,(ae.cell R E (a) (by simp)).2.2.2,(ae.cell R D (b) (by simp)).1,(ae.cell R D (b) (by simp)).2.1,(ae.cell R D (b) (by simp)).2.2.1,(ae.cell R D (b) (by simp)).2.2.2,(ae.cell R f (m) (by simp)).1,(ae.cell R f (m) (by simp)).2.1,(ae.cell R f (m) (by simp)).2.2.1,(ae.cell R f (m) (by simp)).2.2.2⟩) ?_
 clear U K
 try simp only [ac]
 clear F
 have F:=R
 clear R
 refine aa.one (i:=2) (o:=⟨some 9,_,_,_,_,_⟩) (by kernel_rfl) rfl (fun K U=>?_)
 go_simp
 with_reducible refine (ah (dt m 1 c1 _ HM.out (by decide) Ec1.out) F).mono ?_
 rintro e ar ⟨rfl,O⟩
 go_wp2_with fail
 refine U.out _ _ (⟨(ae.cell O E (a) (by simp)).1,(ae.cell O E (a) (by simp)).2.1,(ae.cell O E (a) (by simp)).2.2.1,(ae.cell O E (a) (by simp)).2.2.2,(ae.cell O D (b) (by simp)).1,(ae.cell O D (b) (by simp)).2.1,(ae.cell O D (b) (by simp)).2.2.1,(ae.cell O D (b) (by simp)).2.2.2,(ae.cell O f (m) (by simp)).1,(ae.cell O f (m) (by simp)).2.1,(ae.cell O f (m) (by simp)).2.2.1,(ae.cell O f (m) (by simp)).2.2.2⟩) ?_
 clear U K
 try simp only [ac]
 clear F
 have F:=O
 clear O
 have I:=hid (And.intro (ae.cell F E (a) (by simp)).1 (And.intro (ae.cell F E (a) (by simp)).2.1 (And.intro (ae.cell F E (a) (by simp)).2.2.1 (And.intro (ae.cell F E (a) (by simp)).2.2.2 (And.intro (ae.cell F D (b) (by simp)).1 (And.intro (ae.cell F D (b) (by simp)).2.1 (And.intro (ae.cell F D (b) (by simp)).2.2.1 (And.intro (ae.cell F D (b) (by simp)).2.2.2 (And.intro (ae.cell F f (m) (by simp)).1 (And.intro (ae.cell F f (m) (by simp)).2.1 (And.intro (ae.cell F f (m) (by simp)).2.2.1 (ae.cell F f (m) (by simp)).2.2.2)))))))))))
 refine aa.tk (i:=3) (o:=⟨some 10,_,_,_,_,_⟩) (v:=?_) [] (y:=Or.inl ⟨by rfl,?_⟩) (s:=I.out) (H:=?_)
 rotate_left
 ·intro w hY; go_simp; (try rw [Nc1.out]); try with_reducible rfl
 try simp only [ac]
 refine aa.q 4 ⟨some 11,_,_,_,_,_⟩ I.out ?_
 try simp only [ac]
 refine aa.tk (i:=5) (o:=⟨some 12,_,_,_,_,_⟩) (v:=?_) [] (y:=Or.inl ⟨by rfl,?_⟩) (s:=I.out) (H:=?_)
 rotate_left
 ·rintro w ⟨up,-,J⟩; (try dsimp only at J); obtain ⟨x0,x1,x2,x3,x4,x5,x6,x7,x8,x9,Y,V⟩:=J; go_simp; try with_reducible rfl
 try simp only [ac]
 refine aa.tk (i:=6) (o:=⟨some 13,_,_,_,_,_⟩) (v:=?_) [] (y:=Or.inl ⟨by rfl,?_⟩) (s:=I.out) (H:=?_)
 rotate_left
 ·rintro w ⟨up,-,J⟩; (try dsimp only at J); obtain ⟨x0,x1,x2,x3,x4,x5,x6,x7,x8,x9,Y,V⟩:=J; go_simp; try with_reducible rfl
 try simp only [ac]
 clear I
 refine aa.one (i:=7) (o:=⟨some 14,_,_,_,_,_⟩) (by kernel_rfl) rfl (fun K U=>?_)
 go_simp
 with_reducible refine (ah (dt a m c2 _ HA.out HM.out Ec2.out) F).mono ?_
 rintro e ap ⟨rfl,M⟩
 go_wp2_with fail
 refine U.out _ _ (⟨(ae.cell M E (a) (by simp)).1,(ae.cell M E (a) (by simp)).2.1,(ae.cell M E (a) (by simp)).2.2.1,(ae.cell M E (a) (by simp)).2.2.2,(ae.cell M D (b) (by simp)).1,(ae.cell M D (b) (by simp)).2.1,(ae.cell M D (b) (by simp)).2.2.1,(ae.cell M D (b) (by simp)).2.2.2,(ae.cell M f (m) (by simp)).1,(ae.cell M f (m) (by simp)).2.1,(ae.cell M f (m) (by simp)).2.2.1,(ae.cell M f (m) (by simp)).2.2.2⟩) ?_
 clear U K
 try simp only [ac]
 clear F
 have F:=M
 clear M
 have I:=hid (And.intro (ae.cell F E (a) (by simp)).1 (And.intro (ae.cell F E (a) (by simp)).2.1 (And.intro (ae.cell F E (a) (by simp)).2.2.1 (And.intro (ae.cell F E (a) (by simp)).2.2.2 (And.intro (ae.cell F D (b) (by simp)).1 (And.intro (ae.cell F D (b) (by simp)).2.1 (And.intro (ae.cell F D (b) (by simp)).2.2.1 (And.intro (ae.cell F D (b) (by simp)).2.2.2 (And.intro (ae.cell F f (m) (by simp)).1 (And.intro (ae.cell F f (m) (by simp)).2.1 (And.intro (ae.cell F f (m) (by simp)).2.2.1 (ae.cell F f (m) (by simp)).2.2.2)))))))))))
 refine aa.tk (i:=8) (o:=⟨some 15,_,_,_,_,_⟩) (v:=?_) [] (y:=Or.inl ⟨by rfl,?_⟩) (s:=I.out) (H:=?_)
 rotate_left
 ·intro w hY; go_simp; (try rw [Nc2.out]); try with_reducible rfl
 try simp only [ac]
 refine aa.q 9 ⟨some 16,_,_,_,_,_⟩ I.out ?_
 try simp only [ac]
 refine aa.q 10 ⟨some 17,_,_,_,_,_⟩ I.out ?_
 try simp only [ac]
 refine aa.tk (i:=11) (o:=⟨some 18,_,_,_,_,_⟩) (v:=?_) [] (y:=Or.inl ⟨by rfl,?_⟩) (s:=I.out) (H:=?_)
 rotate_left
 ·rintro w ⟨up,-,J⟩; (try dsimp only at J); obtain ⟨x0,x1,x2,x3,x4,x5,x6,x7,x8,x9,Y,V⟩:=J; go_simp; try with_reducible rfl
 try simp only [ac]
 refine aa.tk (i:=12) (o:=⟨some 19,_,_,_,_,_⟩) (v:=?_) [] (y:=Or.inl ⟨by rfl,?_⟩) (s:=I.out) (H:=?_)
 rotate_left
 ·rintro w ⟨up,-,J⟩; (try dsimp only at J); obtain ⟨x0,x1,x2,x3,x4,x5,x6,x7,x8,x9,Y,V⟩:=J; go_simp; try with_reducible rfl
 try simp only [ac]
 clear I
 refine aa.one (i:=13) (o:=⟨some 20,_,_,_,_,_⟩) (by kernel_rfl) rfl (fun K U=>?_)
 go_simp
 with_reducible refine (ah (dt b m c3 _ HB.out HM.out Ec3.out) F).mono ?_
 rintro e an ⟨rfl,G⟩
 go_wp2_with fail
 refine U.out _ _ (⟨(ae.cell G E (a) (by simp)).1,(ae.cell G E (a) (by simp)).2.1,(ae.cell G E (a) (by simp)).2.2.1,(ae.cell G E (a) (by simp)).2.2.2,(ae.cell G D (b) (by simp)).1,(ae.cell G D (b) (by simp)).2.1,(ae.cell G D (b) (by simp)).2.2.1,(ae.cell G D (b) (by simp)).2.2.2,(ae.cell G f (m) (by simp)).1,(ae.cell G f (m) (by simp)).2.1,(ae.cell G f (m) (by simp)).2.2.1,(ae.cell G f (m) (by simp)).2.2.2⟩) ?_
 clear U K
 try simp only [ac]
 clear F
 have F:=G
 clear G
 have I:=hid (And.intro (ae.cell F E (a) (by simp)).1 (And.intro (ae.cell F E (a) (by simp)).2.1 (And.intro (ae.cell F E (a) (by simp)).2.2.1 (And.intro (ae.cell F E (a) (by simp)).2.2.2 (And.intro (ae.cell F D (b) (by simp)).1 (And.intro (ae.cell F D (b) (by simp)).2.1 (And.intro (ae.cell F D (b) (by simp)).2.2.1 (And.intro (ae.cell F D (b) (by simp)).2.2.2 (And.intro (ae.cell F f (m) (by simp)).1 (And.intro (ae.cell F f (m) (by simp)).2.1 (And.intro (ae.cell F f (m) (by simp)).2.2.1 (ae.cell F f (m) (by simp)).2.2.2)))))))))))
 refine aa.tk (i:=14) (o:=⟨some 21,_,_,_,_,_⟩) (v:=?_) [] (y:=Or.inl ⟨by rfl,?_⟩) (s:=I.out) (H:=?_)
 rotate_left
 ·intro w hY; go_simp; (try rw [Nc3.out]); try with_reducible rfl
 try simp only [ac]
 refine aa.q 15 ⟨some 22,_,_,_,_,_⟩ I.out ?_
 try simp only [ac]
 refine aa.q 16 ⟨some 6,_,_,_,_,_⟩ I.out ?_
 try simp only [ac]
 clear I
 refine aa.done (by kernel_rfl) ?_ _
 refine NoPanic.normal ?_
 go_wp2_with fail
 exact bodyPost_ret (v:=.bool t) (by simp [results,Tryz.results46,go_sem]) rfl ⟨rfl,F.1⟩
theorem rmay_c (a b m:Nat) (w:World) (D:a<2 ^ 256) (hb:b<2 ^ 256) (z:m<2 ^ 256) (f:1<m∧a<m∧¬ b<m):Calls Tryz.prog 46 #[af a,af b,af m] w fun e w'=>e=.returned (.bool false)∧Below w.heap.size w w' :=
 rmay_x a b m false w D hb z ⟨f.1,f.2.1⟩ (decide_eq_false f.2.2)
theorem rmay_d (a b m:Nat) (w:World) (D:a<2 ^ 256) (hb:b<2 ^ 256) (z:m<2 ^ 256) (f:1<m∧a<m∧b<m):Calls Tryz.prog 46 #[af a,af b,af m] w fun e w'=>e=.returned (.bool true)∧Below w.heap.size w w' :=
 rmay_x a b m true w D hb z ⟨f.1,f.2.1⟩ (decide_eq_true f.2.2)
theorem rmay_any (a b m:Nat) (v:Bool) (w:World) (E:a<2 ^ 256) (hb:b<2 ^ 256) (D:m<2 ^ 256) (G:decide (1<m∧a<m∧b<m)=v):Calls Tryz.prog 46 #[af a,af b,af m] w fun e w'=>e=.returned (.bool v)∧Below w.heap.size w w':=by
 subst G
 by_cases f:1<m
 ·by_cases z:a<m
  ·by_cases F:b<m
   ·rw [decide_eq_true (show 1<m∧a<m∧b<m from ⟨f,z,F⟩)]; exact rmay_d a b m w E hb D ⟨f,z,F⟩
   ·rw [decide_eq_false (fun h=>F h.2.2)]; exact rmay_c a b m w E hb D ⟨f,z,F⟩
  ·rw [decide_eq_false (fun h=>z h.2.1)]; exact rmay_b a b m w E hb D ⟨f,z⟩
 ·rw [decide_eq_false (fun h=>f h.1)]; exact rmay_a a b m w E hb D f
theorem rmul64_b (x y h l:Nat) (w:World) (z:x<18446744073709551616) (f:y<18446744073709551616) (E:x * y / 18446744073709551616=h) (D:x * y % 18446744073709551616=l):Calls Tryz.prog 73 #[.int .u64 (x:Int),.int .u64 (y:Int)] w fun e w'=>e=.returned (.tuple #[.int .u64 (h:Int),.int .u64 (l:Int)])∧Below w.heap.size w w' :=
 (mul64_any x y h l w z f E D).mono fun e w' ⟨he,hw⟩=>⟨he,by rw [hw]; exact Below.refl _ _⟩
theorem r2mul_b (a b lo hi:Nat) (w:World) (z:a<2 ^ 256) (hb:b<2 ^ 256) (f:a * b % 2 ^ 256=lo) (hh:a * b / 2 ^ 256=hi):Calls Tryz.prog 75 #[af a,af b] w fun e w'=>e=.returned (.tuple #[af lo,af hi])∧Below w.heap.size w w':=by
 subst f; subst hh; exact r2mul_any a b w z hb
theorem rtimes_small (a b m r:Nat) (w:World) (ha:a<m) (hb:b<m) (hm:m<2 ^ 256) (hr:a * b % m=r) (M:m<18446744073709551616):Calls Tryz.prog 47 #[af a,af b,af m] w fun e w'=>e=.returned (af r)∧Below w.heap.size w w':=by
 have HA:=hid ha
 have HB:=hid hb
 have HM:=hid hm
 have ba:=hid (show m≠0 by omega)
 have HV:=hid (show decide (m<18446744073709551616)=true from decide_eq_true M)
 have HS:=hid M
 have aA:=hid (rwd_one M)
 have az:=hid (rwd_one (Nat.lt_trans ha M))
 have ar:=hid (rwd_one (Nat.lt_trans hb M))
 obtain ⟨hi,F⟩:∃ z,a * b / 18446744073709551616=z:=⟨_,rfl⟩
 obtain ⟨lo,E⟩:∃ z,a * b % 18446744073709551616=z:=⟨_,rfl⟩
 have an:hi<m:=by rw [← F]; exact (Nat.div_lt_iff_lt_mul (by decide)).2 (Nat.mul_lt_mul_of_lt_of_le ha (Nat.le_of_lt (Nat.lt_trans hb M)) (by omega))
 have al:lo<18446744073709551616:=by rw [← E]; exact Nat.mod_lt _ (by decide)
 have ad:(hi * 18446744073709551616+lo) % m=r:=by rw [← F,← E,Nat.div_add_mod']; exact hr
 have aW:=hid F
 have aI:=hid E
 have aG:=hid an
 have aE:=hid al
 have aB:=hid ad
 have RL:=hid (show r<18446744073709551616 from Nat.lt_trans (by rw [← hr]; exact Nat.mod_lt _ (by omega)) M)
 clear F E an al ad
 clear ha hb hm hr M
 have H0:=hid ((((((ae.refl w).new a).new b).new m).zero).perm (l':=[(w.heap.size+1+1+1,0),(w.heap.size+1+1,m),(w.heap.size+1,b),(w.heap.size,a)]) (by simp))
 have DZ:=hid (show w.heap.size≤w.heap.size+1+1+1 by omega)
 have DN:=hid (show ∀ p∈[(w.heap.size,a),(w.heap.size+1,b),(w.heap.size+1+1,m)],p.1≠w.heap.size+1+1+1 by simp; try omega)
 go_enter Tryz.func47,Tryz.ntmps47
 go_upto_region 1 with fail
 generalize (((w.alloc (.cells (ai a) 24)).alloc (.cells (ai b) 24)).alloc (.cells (ai m) 24)).alloc (.cells #[.int .u64 0,.int .u64 0,.int .u64 0,.int .u64 0] 24)=w0 at *
 generalize w.heap.size+1+1+1=f at *
 generalize w.heap.size+1+1=D at *
 generalize w.heap.size+1=ao at *
 generalize R:w.heap.size=ap at *
 obtain ⟨aN,aM,aL,aK⟩:=H0.out.cell (D) (m) (by simp)
 have ax:=H0.out.lt (D) (m) (by simp)
 have aJ:=Nat.le_of_lt ax
 go_wp2_with fail
 clear aN aM aL aK ax aJ
 refine (ah (rword_any m true _ HM.out HV.out) H0.out).mono ?_
 rintro e w1 ⟨rfl,h⟩
 have O:=hid h
 clear h H0
 obtain ⟨aU,aT,aS,aR⟩:=O.out.cell (ap) (a) (by simp)
 have ay:=O.out.lt (ap) (a) (by simp)
 have aQ:=Nat.le_of_lt ay
 obtain ⟨ab,Z,Y,V⟩:=O.out.cell (ao) (b) (by simp)
 have cv:=O.out.lt (ao) (b) (by simp)
 have U:=Nat.le_of_lt cv
 obtain ⟨L,K,J,I⟩:=O.out.cell (D) (m) (by simp)
 have da:=O.out.lt (D) (m) (by simp)
 have G:=Nat.le_of_lt da
 go_wp2_with fail
 clear aU aT aS aR ay aQ ab Z Y V cv U L K J I da G
 refine (ah (rmul64_b (wd a 0) (wd b 0) hi lo _ (aO a 0) (aO b 0) (by rw [az.out,ar.out]; exact aW.out) (by rw [az.out,ar.out]; exact aI.out)) O.out).mono ?_
 rintro e w2 ⟨rfl,h⟩
 have H2:=hid h
 clear h O
 obtain ⟨bq,bp,bo,bn⟩:=H2.out.cell (D) (m) (by simp)
 have aC:=H2.out.lt (D) (m) (by simp)
 have bm:=Nat.le_of_lt aC
 go_wp2_with fail
 clear bq bp bo bn aC bm
 refine (ah (div64_any hi lo (wd m 0) _ r _ (by rw [aA.out]; exact aG.out) aE.out (aO m 0) rfl (by rw [aA.out]; exact aB.out)) H2.out).mono ?_
 rintro e w3 ⟨rfl,h⟩
 have H3:=hid h
 clear h H2
 go_wp2_with fail
 refine (ah (rof_any r _ RL.out) H3.out).mono ?_
 rintro e w4 ⟨rfl,h⟩
 have H4:=hid h
 clear h H3
 obtain ⟨z0,z1,z2,z3⟩:=H4.out.cell f 0 (by simp)
 have zl:=H4.out.lt f 0 (by simp)
 have zf:=H4.out.frozen f 0 (by simp)
 have HZ:=hid (H4.out.set f 0 (r) [] (by simp) (by rw [R]; exact DZ.out) (by simp))
 go_wp2
 clear z0 z1 z2 z3 zl zf
 try rw [Exit.noGoto_ret]
 change bodyPost _ _ _ _ _ (fil w4 f (r))
 generalize fil w4 f (r)=wz at *
 obtain ⟨k0,k1,k2,k3⟩:=HZ.out.cell f (r) (by simp)
 exact bodyPost_ret (v:=af (r)) (by simp [results,Tryz.results47,go_sem,k0,k1,k2,k3]) rfl ⟨rfl,HZ.out.1⟩
theorem rtimes_large (a b m r:Nat) (w:World) (ha:a<m) (hb:b<m) (hm:m<2 ^ 256) (hr:a * b % m=r) (hs:¬ m<18446744073709551616):Calls Tryz.prog 47 #[af a,af b,af m] w fun e w'=>e=.returned (af r)∧Below w.heap.size w w':=by
 have HA:=hid ha
 have HB:=hid hb
 have HM:=hid hm
 have bI:=hid (show m≠0 by omega)
 have HV:=hid (show decide (m<18446744073709551616)=false from decide_eq_false hs)
 obtain ⟨lo,G⟩:∃ z,a * b % 2 ^ 256=z:=⟨_,rfl⟩
 obtain ⟨hi,I⟩:∃ z,a * b / 2 ^ 256=z:=⟨_,rfl⟩
 have aG:lo<2 ^ 256:=by rw [← G]; exact Nat.mod_lt _ (Nat.two_pow_pos _)
 have an:=Nat.lt_trans ha hm
 have al:=Nat.lt_trans hb hm
 have aI:hi<2 ^ 256:=by rw [← I]; exact (Nat.div_lt_iff_lt_mul (Nat.two_pow_pos _)).2 (Nat.mul_lt_mul_of_lt_of_le an (Nat.le_of_lt al) (Nat.two_pow_pos _))
 have aE:(lo+2 ^ 256 * hi) % m=r:=by rw [← I,← G,Nat.mod_add_div]; exact hr
 have bP:=hid an
 have bO:=hid al
 have bR:=hid I
 have bQ:=hid G
 have bN:=hid aI
 have bK:=hid aG
 have bA:=hid aE
 clear I G aI aG aE an al
 clear ha hb hm hr hs
 have H0:=hid ((((((ae.refl w).new a).new b).new m).zero).perm (l':=[(w.heap.size+1+1+1,0),(w.heap.size+1+1,m),(w.heap.size+1,b),(w.heap.size,a)]) (by simp))
 have DZ:=hid (show w.heap.size≤w.heap.size+1+1+1 by omega)
 have DN:=hid (show ∀ p∈[(w.heap.size,a),(w.heap.size+1,b),(w.heap.size+1+1,m)],p.1≠w.heap.size+1+1+1 by simp; try omega)
 go_enter Tryz.func47,Tryz.ntmps47
 go_upto_region 1 with fail
 generalize (((w.alloc (.cells (ai a) 24)).alloc (.cells (ai b) 24)).alloc (.cells (ai m) 24)).alloc (.cells #[.int .u64 0,.int .u64 0,.int .u64 0,.int .u64 0] 24)=w0 at *
 generalize w.heap.size+1+1+1=f at *
 generalize w.heap.size+1+1=E at *
 generalize w.heap.size+1=aW at *
 generalize ad:w.heap.size=ba at *
 obtain ⟨aN,aM,aL,aK⟩:=H0.out.cell (E) (m) (by simp)
 have ax:=H0.out.lt (E) (m) (by simp)
 have aJ:=Nat.le_of_lt ax
 go_wp2_with fail
 clear aN aM aL aK ax aJ
 refine (ah (rword_any m false _ HM.out HV.out) H0.out).mono ?_
 rintro e w1 ⟨rfl,h⟩
 have H1:=hid h
 clear h H0
 obtain ⟨aU,aT,aS,aR⟩:=H1.out.cell (ba) (a) (by simp)
 have ay:=H1.out.lt (ba) (a) (by simp)
 have aQ:=Nat.le_of_lt ay
 obtain ⟨aA,az,ar,ap⟩:=H1.out.cell (aW) (b) (by simp)
 have cv:=H1.out.lt (aW) (b) (by simp)
 have ao:=Nat.le_of_lt cv
 obtain ⟨Z,Y,V,U⟩:=H1.out.cell (E) (m) (by simp)
 have da:=H1.out.lt (E) (m) (by simp)
 have R:=Nat.le_of_lt da
 go_wp2_with fail
 clear aU aT aS aR ay aQ aA az ar ap cv ao Z Y V U da R
 refine (ah (r2mul_b a b lo hi _ bP.out bO.out bQ.out bR.out) H1.out).mono ?_
 rintro e w2 ⟨rfl,h⟩
 have H2:=hid h
 clear h H1
 go_upto_region 6 with fail
 have dr:=hid (H2.out.new2 lo hi)
 clear H2
 generalize (w2.alloc (.cells (ai lo) 24)).alloc (.cells (ai hi) 24)=bS at *
 generalize w2.heap.size+1=ab at *
 generalize w2.heap.size=bd at *
 obtain ⟨bq,bp,bo,bn⟩:=dr.out.cell (bd) (lo) (by simp)
 have aC:=dr.out.lt (bd) (lo) (by simp)
 have bm:=Nat.le_of_lt aC
 obtain ⟨cZ,cY,cX,cW⟩:=dr.out.cell (ab) (hi) (by simp)
 have bG:=dr.out.lt (ab) (hi) (by simp)
 have cV:=Nat.le_of_lt bG
 obtain ⟨O,M,L,K⟩:=dr.out.cell (E) (m) (by simp)
 have D:=dr.out.lt (E) (m) (by simp)
 have J:=Nat.le_of_lt D
 go_wp2_with fail
 clear bq bp bo bn aC bm cZ cY cX cW bG cV O M L K D J
 refine (ah (rwide_any lo hi m r _ bK.out bN.out HM.out bI.out bA.out) dr.out).mono ?_
 rintro e w3 ⟨rfl,h⟩
 have H3:=hid h
 clear h dr
 go_upto_region 7 with fail
 have F:=hid (H3.out.new r)
 clear H3
 generalize w3.alloc (.cells (ai r) 24)=aB at *
 generalize w3.heap.size=bb at *
 obtain ⟨bz,bx,bv,bu⟩:=F.out.cell (bb) (r) (by simp)
 have cB:=F.out.lt (bb) (r) (by simp)
 have bk:=Nat.le_of_lt cB
 obtain ⟨z0,z1,z2,z3⟩:=F.out.cell f 0 (by simp)
 have zl:=F.out.lt f 0 (by simp)
 have zf:=F.out.frozen f 0 (by simp)
 have HZ:=hid (F.out.set f 0 (r) [] (by simp) (by rw [ad]; exact DZ.out) (by simp))
 go_wp2
 clear z0 z1 z2 z3 zl zf
 try rw [Exit.noGoto_ret]
 change bodyPost _ _ _ _ _ (fil aB f (r))
 generalize fil aB f (r)=wz at *
 obtain ⟨k0,k1,k2,k3⟩:=HZ.out.cell f (r) (by simp)
 exact bodyPost_ret (v:=af (r)) (by simp [results,Tryz.results47,go_sem,k0,k1,k2,k3]) rfl ⟨rfl,HZ.out.1⟩
theorem rtimes_any (a b m r:Nat) (w:World) (E:a<m) (hb:b<m) (D:m<2 ^ 256) (z:a * b % m=r):Calls Tryz.prog 47 #[af a,af b,af m] w fun e w'=>e=.returned (af r)∧Below w.heap.size w w':=by
 by_cases f:m<18446744073709551616
 ·exact rtimes_small a b m r w E hb D z f
 ·exact rtimes_large a b m r w E hb D z f
theorem rmmul_some (a b m r:Nat) (w:World) (ha:a<2 ^ 256) (hb:b<2 ^ 256) (hm:m<2 ^ 256) (hv:1<m∧a<m∧b<m) (hr:a * b % m=r):Calls Tryz.prog 24 #[af a,af b,af m] w fun e w'=>e=.returned (.tuple #[af r,.int .i64 0])∧Below w.heap.size w w':=by
 have HA:=hid ha
 have HB:=hid hb
 have HM:=hid hm
 have HV:=hid (show decide (1<m∧a<m∧b<m)=true from decide_eq_true hv)
 have AM:=hid hv.2.1
 have BM:=hid hv.2.2
 have HR:=hid hr
 clear ha hb hm hr hv
 have Z:=hid ((((((ae.refl w).new a).new b).new m).zero).perm (l':=[(w.heap.size+1+1+1,0),(w.heap.size+1+1,m),(w.heap.size+1,b),(w.heap.size,a)]) (by simp))
 have DZ:=hid (show w.heap.size≤w.heap.size+1+1+1 by omega)
 have DN:=hid (show ∀ p∈[(w.heap.size,a),(w.heap.size+1,b),(w.heap.size+1+1,m)],p.1≠w.heap.size+1+1+1 by simp; try omega)
 go_enter Tryz.func24,Tryz.ntmps24
 go_upto_region 1 with fail
 generalize (((w.alloc (.cells (ai a) 24)).alloc (.cells (ai b) 24)).alloc (.cells (ai m) 24)).alloc (.cells #[.int .u64 0,.int .u64 0,.int .u64 0,.int .u64 0] 24)=w0 at *
 generalize w.heap.size+1+1+1=f at *
 generalize w.heap.size+1+1=D at *
 generalize w.heap.size+1=E at *
 generalize ab:w.heap.size=F at *
 obtain ⟨aN,aM,aL,aK⟩:=Z.out.cell (F) (a) (by simp)
 have ax:=Z.out.lt (F) (a) (by simp)
 have aJ:=Nat.le_of_lt ax
 obtain ⟨bZ,bX,bW,bV⟩:=Z.out.cell (E) (b) (by simp)
 have bd:=Z.out.lt (E) (b) (by simp)
 have bU:=Nat.le_of_lt bd
 obtain ⟨V,U,R,O⟩:=Z.out.cell (D) (m) (by simp)
 have z:=Z.out.lt (D) (m) (by simp)
 have M:=Nat.le_of_lt z
 go_wp2_with fail
 clear aN aM aL aK ax aJ bZ bX bW bV bd bU V U R O z M
 refine (ah (rmay_any a b m true _ HA.out HB.out HM.out HV.out) Z.out).mono ?_
 rintro e w1 ⟨rfl,h⟩
 have Y:=hid h
 clear h Z
 obtain ⟨aU,aT,aS,aR⟩:=Y.out.cell (F) (a) (by simp)
 have ay:=Y.out.lt (F) (a) (by simp)
 have aQ:=Nat.le_of_lt ay
 obtain ⟨ap,ao,an,al⟩:=Y.out.cell (E) (b) (by simp)
 have cv:=Y.out.lt (E) (b) (by simp)
 have ad:=Nat.le_of_lt cv
 obtain ⟨L,K,J,I⟩:=Y.out.cell (D) (m) (by simp)
 have da:=Y.out.lt (D) (m) (by simp)
 have G:=Nat.le_of_lt da
 go_wp2_with fail
 clear aU aT aS aR ay aQ ap ao an al cv ad L K J I da G
 refine (ah (rtimes_any a b m r _ AM.out BM.out HM.out HR.out) Y.out).mono ?_
 rintro e w2 ⟨rfl,h⟩
 have H2:=hid h
 clear h Y
 obtain ⟨z0,z1,z2,z3⟩:=H2.out.cell f 0 (by simp)
 have zl:=H2.out.lt f 0 (by simp)
 have zf:=H2.out.frozen f 0 (by simp)
 have HZ:=hid (H2.out.set f 0 (r) [] (by simp) (by rw [ab]; exact DZ.out) (by simp))
 go_wp2
 clear z0 z1 z2 z3 zl zf
 try rw [Exit.noGoto_ret]
 change bodyPost _ _ _ _ _ (fil w2 f (r))
 generalize fil w2 f (r)=wz at *
 obtain ⟨k0,k1,k2,k3⟩:=HZ.out.cell f (r) (by simp)
 exact bodyPost_ret (v:=.tuple #[af (r),.int .i64 0]) (by simp [results,Tryz.results24,go_sem,k0,k1,k2,k3]) rfl ⟨rfl,HZ.out.1⟩
theorem rmadd_over (a b m r:Nat) (w:World) (ha:a<2 ^ 256) (hb:b<2 ^ 256) (hm:m<2 ^ 256) (hv:1<m∧a<m∧b<m) (hr:(a+b) % m=r) (hk:(a+b) / 2 ^ 256=1):Calls Tryz.prog 25 #[af a,af b,af m] w fun e w'=>e=.returned (.tuple #[af r,.int .i64 0])∧Below w.heap.size w w':=by
 have HA:=hid ha
 have HB:=hid hb
 have HM:=hid hm
 have HV:=hid (show decide (1<m∧a<m∧b<m)=true from decide_eq_true hv)
 have AM:=hid hv.2.1
 have BM:=hid hv.2.2
 obtain ⟨s,es⟩:∃ z,(a+b) % 2 ^ 256=z:=⟨_,rfl⟩
 obtain ⟨k,ek⟩:∃ z,(a+b) / 2 ^ 256=z:=⟨_,rfl⟩
 obtain ⟨d,ed⟩:∃ z,dif s m=z:=⟨_,rfl⟩
 obtain ⟨ln,ba⟩:∃ z:Int,((cM s m:Nat):Int)=z:=⟨_,rfl⟩
 have ar:=round_add hv.2.1 hv.2.2 hm es ed
 rw [ek,hr] at ar
 have aI:s<2 ^ 256:=by rw [← es]; exact Nat.mod_lt _ (Nat.two_pow_pos _)
 have hk1:k=1:=by rw [← ek]; exact hk
 subst hk1
 obtain rfl:d=r:=by rw [← ar]; unfold cM; split <;> (try split) <;> omega
 have ES:=hid es
 have EK:=hid (show (((a+b) / 2 ^ 256:Nat):Int)=1 by rw [hk]; rfl)
 have ED:=hid ed
 have bb:=hid ba
 have SL:=hid aI
 clear es ek ed ba ar aI hk
 clear ha hb hm hr hv
 have H0:=hid ((((((ae.refl w).new a).new b).new m).zero).perm (l':=[(w.heap.size+1+1+1,0),(w.heap.size+1+1,m),(w.heap.size+1,b),(w.heap.size,a)]) (by simp))
 have DZ:=hid (show w.heap.size≤w.heap.size+1+1+1 by omega)
 have DN:=hid (show ∀ p∈[(w.heap.size,a),(w.heap.size+1,b),(w.heap.size+1+1,m)],p.1≠w.heap.size+1+1+1 by simp; try omega)
 go_enter Tryz.func25,Tryz.ntmps25
 go_upto_region 1 with fail
 generalize (((w.alloc (.cells (ai a) 24)).alloc (.cells (ai b) 24)).alloc (.cells (ai m) 24)).alloc (.cells #[.int .u64 0,.int .u64 0,.int .u64 0,.int .u64 0] 24)=w0 at *
 generalize w.heap.size+1+1+1=f at *
 generalize w.heap.size+1+1=D at *
 generalize w.heap.size+1=F at *
 generalize ap:w.heap.size=G at *
 obtain ⟨aN,aM,aL,aK⟩:=H0.out.cell (G) (a) (by simp)
 have ax:=H0.out.lt (G) (a) (by simp)
 have aJ:=Nat.le_of_lt ax
 obtain ⟨bZ,bX,bW,bV⟩:=H0.out.cell (F) (b) (by simp)
 have bd:=H0.out.lt (F) (b) (by simp)
 have bU:=Nat.le_of_lt bd
 obtain ⟨ao,an,al,ad⟩:=H0.out.cell (D) (m) (by simp)
 have E:=H0.out.lt (D) (m) (by simp)
 have ab:=Nat.le_of_lt E
 go_wp2_with fail
 clear aN aM aL aK ax aJ bZ bX bW bV bd bU ao an al ad E ab
 refine (ah (rmay_any a b m true _ HA.out HB.out HM.out HV.out) H0.out).mono ?_
 rintro e w1 ⟨rfl,h⟩
 have H1:=hid h
 clear h H0
 obtain ⟨aU,aT,aS,aR⟩:=H1.out.cell (G) (a) (by simp)
 have ay:=H1.out.lt (G) (a) (by simp)
 have aQ:=Nat.le_of_lt ay
 obtain ⟨aG,aE,aB,aA⟩:=H1.out.cell (F) (b) (by simp)
 have cv:=H1.out.lt (F) (b) (by simp)
 have az:=Nat.le_of_lt cv
 obtain ⟨Z,Y,V,U⟩:=H1.out.cell (D) (m) (by simp)
 have da:=H1.out.lt (D) (m) (by simp)
 have R:=Nat.le_of_lt da
 go_wp2_with fail
 clear aU aT aS aR ay aQ aG aE aB aA cv az Z Y V U da R
 refine (ah (r2add_b a b s 1 _ HA.out HB.out ES.out EK.out) H1.out).mono ?_
 rintro e w2 ⟨rfl,h⟩
 have H2:=hid h
 clear h H1
 go_upto_region 4 with fail
 have F8:=hid H2.out.fresh
 have dr:=hid (H2.out.new s)
 clear H2
 generalize w2.alloc (.cells (ai s) 24)=bk at *
 generalize w2.heap.size=O at *
 obtain ⟨bq,bp,bo,bn⟩:=dr.out.cell (O) (s) (by simp)
 have aC:=dr.out.lt (O) (s) (by simp)
 have bm:=Nat.le_of_lt aC
 obtain ⟨cZ,cY,cX,cW⟩:=dr.out.cell (D) (m) (by simp)
 have bG:=dr.out.lt (D) (m) (by simp)
 have cV:=Nat.le_of_lt bG
 go_wp2_with fail
 clear bq bp bo bn aC bm cZ cY cX cW bG cV
 refine (ah (r2sub_b s m d ln _ SL.out HM.out ED.out bb.out) dr.out).mono ?_
 rintro e w3 ⟨rfl,h⟩
 have H3:=hid h
 clear h dr
 obtain ⟨M,L,K,J⟩:=H3.out.cell (O) (s) (by simp)
 have cB:=H3.out.lt (O) (s) (by simp)
 have I:=Nat.le_of_lt cB
 have aW:=H3.out.frozen O s (by simp)
 have HS:=hid (H3.out.set O s d [(f,0),(D,m),(F,b),(G,a)] (by simp) F8.out.1 (fun p hp=>by simp only [List.mem_cons,List.not_mem_nil,or_false] at hp; rcases hp with rfl | rfl | rfl | rfl <;> first | exact ⟨by simp,F8.out.2 (f,0) (by simp)⟩ | exact ⟨by simp,F8.out.2 (D,m) (by simp)⟩ | exact ⟨by simp,F8.out.2 (F,b) (by simp)⟩ | exact ⟨by simp,F8.out.2 (G,a) (by simp)⟩))
 go_upto_region 6 with fail
 clear M L K J cB I aW
 clear H3
 change Code.wp _ _ _ _ (fil w3 O d)
 generalize fil w3 O d=ws at *
 obtain ⟨M,L,K,J⟩:=HS.out.cell (O) (d) (by simp)
 have cB:=HS.out.lt (O) (d) (by simp)
 have I:=Nat.le_of_lt cB
 obtain ⟨z0,z1,z2,z3⟩:=HS.out.cell f 0 (by simp)
 have zl:=HS.out.lt f 0 (by simp)
 have zf:=HS.out.frozen f 0 (by simp)
 have HZ:=hid (HS.out.set f 0 (d) [] (by simp) (by rw [ap]; exact DZ.out) (by simp))
 go_wp2
 clear z0 z1 z2 z3 zl zf
 try rw [Exit.noGoto_ret]
 change bodyPost _ _ _ _ _ (fil ws f (d))
 generalize fil ws f (d)=wz at *
 obtain ⟨k0,k1,k2,k3⟩:=HZ.out.cell f (d) (by simp)
 exact bodyPost_ret (v:=.tuple #[af (d),.int .i64 0]) (by simp [results,Tryz.results25,go_sem,k0,k1,k2,k3]) rfl ⟨rfl,HZ.out.1⟩
theorem rmadd_low (a b m r:Nat) (w:World) (ha:a<2 ^ 256) (hb:b<2 ^ 256) (hm:m<2 ^ 256) (hv:1<m∧a<m∧b<m) (hr:(a+b) % m=r) (hk:(a+b) / 2 ^ 256=0) (hc:(a+b) % 2 ^ 256<m):Calls Tryz.prog 25 #[af a,af b,af m] w fun e w'=>e=.returned (.tuple #[af r,.int .i64 0])∧Below w.heap.size w w':=by
 have HA:=hid ha
 have HB:=hid hb
 have HM:=hid hm
 have HV:=hid (show decide (1<m∧a<m∧b<m)=true from decide_eq_true hv)
 have AM:=hid hv.2.1
 have BM:=hid hv.2.2
 obtain ⟨s,es⟩:∃ z,(a+b) % 2 ^ 256=z:=⟨_,rfl⟩
 obtain ⟨k,ek⟩:∃ z,(a+b) / 2 ^ 256=z:=⟨_,rfl⟩
 obtain ⟨d,ed⟩:∃ z,dif s m=z:=⟨_,rfl⟩
 obtain ⟨ln,aB⟩:∃ z:Int,((cM s m:Nat):Int)=z:=⟨_,rfl⟩
 have al:=round_add hv.2.1 hv.2.2 hm es ed
 rw [ek,hr] at al
 have aA:s<2 ^ 256:=by rw [← es]; exact Nat.mod_lt _ (Nat.two_pow_pos _)
 have hk0:k=0:=by rw [← ek]; exact hk
 subst hk0
 obtain ⟨c,ec⟩:∃ z,aD s m=z:=⟨_,rfl⟩
 have ad:s<m:=by rw [← es]; exact hc
 have nc:c<0:=by rw [← ec]; unfold aD; rw [if_pos ad]; decide
 obtain rfl:s=r:=by rw [← al]; unfold cM; rw [if_pos ad,if_pos (by decide)]
 have EC:=hid ec
 clear ec ad
 have ES:=hid es
 have EK:=hid (show (((a+b) / 2 ^ 256:Nat):Int)=0 by rw [hk]; rfl)
 have ED:=hid ed
 have bk:=hid aB
 have SL:=hid aA
 clear es ek ed aB al aA hk hc
 clear ha hb hm hr hv
 have H0:=hid ((((((ae.refl w).new a).new b).new m).zero).perm (l':=[(w.heap.size+1+1+1,0),(w.heap.size+1+1,m),(w.heap.size+1,b),(w.heap.size,a)]) (by simp))
 have DZ:=hid (show w.heap.size≤w.heap.size+1+1+1 by omega)
 have DN:=hid (show ∀ p∈[(w.heap.size,a),(w.heap.size+1,b),(w.heap.size+1+1,m)],p.1≠w.heap.size+1+1+1 by simp; try omega)
 go_enter Tryz.func25,Tryz.ntmps25
 go_upto_region 1 with fail
 generalize (((w.alloc (.cells (ai a) 24)).alloc (.cells (ai b) 24)).alloc (.cells (ai m) 24)).alloc (.cells #[.int .u64 0,.int .u64 0,.int .u64 0,.int .u64 0] 24)=w0 at *
 generalize w.heap.size+1+1+1=f at *
 generalize w.heap.size+1+1=E at *
 generalize w.heap.size+1=F at *
 generalize ab:w.heap.size=G at *
 obtain ⟨aN,aM,aL,aK⟩:=H0.out.cell (G) (a) (by simp)
 have ax:=H0.out.lt (G) (a) (by simp)
 have aJ:=Nat.le_of_lt ax
 obtain ⟨bZ,bX,bW,bV⟩:=H0.out.cell (F) (b) (by simp)
 have bd:=H0.out.lt (F) (b) (by simp)
 have bU:=Nat.le_of_lt bd
 obtain ⟨Y,V,U,R⟩:=H0.out.cell (E) (m) (by simp)
 have D:=H0.out.lt (E) (m) (by simp)
 have O:=Nat.le_of_lt D
 go_wp2_with fail
 clear aN aM aL aK ax aJ bZ bX bW bV bd bU Y V U R D O
 refine (ah (rmay_any a b m true _ HA.out HB.out HM.out HV.out) H0.out).mono ?_
 rintro e w1 ⟨rfl,h⟩
 have Z:=hid h
 clear h H0
 obtain ⟨aU,aT,aS,aR⟩:=Z.out.cell (G) (a) (by simp)
 have ay:=Z.out.lt (G) (a) (by simp)
 have aQ:=Nat.le_of_lt ay
 obtain ⟨az,ar,ap,ao⟩:=Z.out.cell (F) (b) (by simp)
 have cv:=Z.out.lt (F) (b) (by simp)
 have an:=Nat.le_of_lt cv
 obtain ⟨M,L,K,J⟩:=Z.out.cell (E) (m) (by simp)
 have da:=Z.out.lt (E) (m) (by simp)
 have I:=Nat.le_of_lt da
 go_wp2_with fail
 clear aU aT aS aR ay aQ az ar ap ao cv an M L K J da I
 refine (ah (r2add_b a b s 0 _ HA.out HB.out ES.out EK.out) Z.out).mono ?_
 rintro e w2 ⟨rfl,h⟩
 have H2:=hid h
 clear h Z
 go_upto_region 4 with fail
 have F8:=hid H2.out.fresh
 have dr:=hid (H2.out.new s)
 clear H2
 generalize w2.alloc (.cells (ai s) 24)=bb at *
 generalize w2.heap.size=g8 at *
 obtain ⟨bq,bp,bo,bn⟩:=dr.out.cell (g8) (s) (by simp)
 have aC:=dr.out.lt (g8) (s) (by simp)
 have bm:=Nat.le_of_lt aC
 obtain ⟨cZ,cY,cX,cW⟩:=dr.out.cell (E) (m) (by simp)
 have bG:=dr.out.lt (E) (m) (by simp)
 have cV:=Nat.le_of_lt bG
 go_wp2_with fail
 clear bq bp bo bn aC bm cZ cY cX cW bG cV
 refine (ah (dt s m c _ SL.out HM.out EC.out) dr.out).mono ?_
 rintro e w3 ⟨rfl,h⟩
 have H3:=hid h
 clear h dr
 obtain ⟨ba,aW,aI,aG⟩:=H3.out.cell (g8) (s) (by simp)
 have cB:=H3.out.lt (g8) (s) (by simp)
 have aE:=Nat.le_of_lt cB
 obtain ⟨z0,z1,z2,z3⟩:=H3.out.cell f 0 (by simp)
 have zl:=H3.out.lt f 0 (by simp)
 have zf:=H3.out.frozen f 0 (by simp)
 have HZ:=hid (H3.out.set f 0 (s) [] (by simp) (by rw [ab]; exact DZ.out) (by simp))
 go_wp2
 clear z0 z1 z2 z3 zl zf
 try rw [Exit.noGoto_ret]
 change bodyPost _ _ _ _ _ (fil w3 f (s))
 generalize fil w3 f (s)=wz at *
 obtain ⟨k0,k1,k2,k3⟩:=HZ.out.cell f (s) (by simp)
 exact bodyPost_ret (v:=.tuple #[af (s),.int .i64 0]) (by simp [results,Tryz.results25,go_sem,k0,k1,k2,k3]) rfl ⟨rfl,HZ.out.1⟩
theorem rmadd_high (a b m r:Nat) (w:World) (ha:a<2 ^ 256) (hb:b<2 ^ 256) (hm:m<2 ^ 256) (hv:1<m∧a<m∧b<m) (hr:(a+b) % m=r) (hk:(a+b) / 2 ^ 256=0) (hc:¬ (a+b) % 2 ^ 256<m):Calls Tryz.prog 25 #[af a,af b,af m] w fun e w'=>e=.returned (.tuple #[af r,.int .i64 0])∧Below w.heap.size w w':=by
 have HA:=hid ha
 have HB:=hid hb
 have HM:=hid hm
 have HV:=hid (show decide (1<m∧a<m∧b<m)=true from decide_eq_true hv)
 have AM:=hid hv.2.1
 have BM:=hid hv.2.2
 obtain ⟨s,es⟩:∃ z,(a+b) % 2 ^ 256=z:=⟨_,rfl⟩
 obtain ⟨k,ek⟩:∃ z,(a+b) / 2 ^ 256=z:=⟨_,rfl⟩
 obtain ⟨d,ed⟩:∃ z,dif s m=z:=⟨_,rfl⟩
 obtain ⟨ln,bQ⟩:∃ z:Int,((cM s m:Nat):Int)=z:=⟨_,rfl⟩
 have aA:=round_add hv.2.1 hv.2.2 hm es ed
 rw [ek,hr] at aA
 have bO:s<2 ^ 256:=by rw [← es]; exact Nat.mod_lt _ (Nat.two_pow_pos _)
 have hk0:k=0:=by rw [← ek]; exact hk
 subst hk0
 obtain ⟨c,ec⟩:∃ z,aD s m=z:=⟨_,rfl⟩
 have bN:¬ s<m:=by rw [← es]; exact hc
 have nc:¬ c<0:=by rw [← ec]; unfold aD; split <;> (try split) <;> omega
 have bY:0≤c:=by omega
 obtain rfl:d=r:=by rw [← aA]; unfold cM; rw [if_neg bN,if_neg (by decide)]
 have EC:=hid ec
 clear ec bN
 have ES:=hid es
 have EK:=hid (show (((a+b) / 2 ^ 256:Nat):Int)=0 by rw [hk]; rfl)
 have ED:=hid ed
 have bR:=hid bQ
 have SL:=hid bO
 clear es ek ed bQ aA bO hk hc
 clear ha hb hm hr hv
 have H0:=hid ((((((ae.refl w).new a).new b).new m).zero).perm (l':=[(w.heap.size+1+1+1,0),(w.heap.size+1+1,m),(w.heap.size+1,b),(w.heap.size,a)]) (by simp))
 have DZ:=hid (show w.heap.size≤w.heap.size+1+1+1 by omega)
 have DN:=hid (show ∀ p∈[(w.heap.size,a),(w.heap.size+1,b),(w.heap.size+1+1,m)],p.1≠w.heap.size+1+1+1 by simp; try omega)
 go_enter Tryz.func25,Tryz.ntmps25
 go_upto_region 1 with fail
 generalize (((w.alloc (.cells (ai a) 24)).alloc (.cells (ai b) 24)).alloc (.cells (ai m) 24)).alloc (.cells #[.int .u64 0,.int .u64 0,.int .u64 0,.int .u64 0] 24)=w0 at *
 generalize w.heap.size+1+1+1=D at *
 generalize w.heap.size+1+1=f at *
 generalize w.heap.size+1=G at *
 generalize az:w.heap.size=I at *
 obtain ⟨aN,aM,aL,aK⟩:=H0.out.cell (I) (a) (by simp)
 have ax:=H0.out.lt (I) (a) (by simp)
 have aJ:=Nat.le_of_lt ax
 obtain ⟨bZ,bX,bW,bV⟩:=H0.out.cell (G) (b) (by simp)
 have bd:=H0.out.lt (G) (b) (by simp)
 have bU:=Nat.le_of_lt bd
 obtain ⟨ar,ap,ao,an⟩:=H0.out.cell (f) (m) (by simp)
 have F:=H0.out.lt (f) (m) (by simp)
 have al:=Nat.le_of_lt F
 go_wp2_with fail
 clear aN aM aL aK ax aJ bZ bX bW bV bd bU ar ap ao an F al
 refine (ah (rmay_any a b m true _ HA.out HB.out HM.out HV.out) H0.out).mono ?_
 rintro e w1 ⟨rfl,h⟩
 have H1:=hid h
 clear h H0
 obtain ⟨aU,aT,aS,aR⟩:=H1.out.cell (I) (a) (by simp)
 have ay:=H1.out.lt (I) (a) (by simp)
 have aQ:=Nat.le_of_lt ay
 obtain ⟨bv,bu,bk,bb⟩:=H1.out.cell (G) (b) (by simp)
 have cv:=H1.out.lt (G) (b) (by simp)
 have ba:=Nat.le_of_lt cv
 obtain ⟨ad,ab,Z,Y⟩:=H1.out.cell (f) (m) (by simp)
 have da:=H1.out.lt (f) (m) (by simp)
 have V:=Nat.le_of_lt da
 go_wp2_with fail
 clear aU aT aS aR ay aQ bv bu bk bb cv ba ad ab Z Y da V
 refine (ah (r2add_b a b s 0 _ HA.out HB.out ES.out EK.out) H1.out).mono ?_
 rintro e w2 ⟨rfl,h⟩
 have H2:=hid h
 clear h H1
 go_upto_region 4 with fail
 have F8:=hid H2.out.fresh
 have dr:=hid (H2.out.new s)
 clear H2
 generalize w2.alloc (.cells (ai s) 24)=bS at *
 generalize w2.heap.size=J at *
 obtain ⟨bq,bp,bo,bn⟩:=dr.out.cell (J) (s) (by simp)
 have aC:=dr.out.lt (J) (s) (by simp)
 have bm:=Nat.le_of_lt aC
 obtain ⟨cZ,cY,cX,cW⟩:=dr.out.cell (f) (m) (by simp)
 have bG:=dr.out.lt (f) (m) (by simp)
 have cV:=Nat.le_of_lt bG
 go_wp2_with fail
 clear bq bp bo bn aC bm cZ cY cX cW bG cV
 refine (ah (dt s m c _ SL.out HM.out EC.out) dr.out).mono ?_
 rintro e w3 ⟨rfl,h⟩
 have H3:=hid h
 clear h dr
 obtain ⟨bK,bI,bA,bz⟩:=H3.out.cell (J) (s) (by simp)
 have cB:=H3.out.lt (J) (s) (by simp)
 have bx:=Nat.le_of_lt cB
 obtain ⟨aW,aI,aG,aE⟩:=H3.out.cell (f) (m) (by simp)
 have K:=H3.out.lt (f) (m) (by simp)
 have aB:=Nat.le_of_lt K
 go_wp2_with fail
 clear bK bI bA bz cB bx aW aI aG aE K aB
 refine (ah (r2sub_b s m d ln _ SL.out HM.out ED.out bR.out) H3.out).mono ?_
 rintro e w4 ⟨rfl,h⟩
 have H4:=hid h
 clear h H3
 obtain ⟨U,R,O,M⟩:=H4.out.cell (J) (s) (by simp)
 have E:=H4.out.lt (J) (s) (by simp)
 have L:=Nat.le_of_lt E
 have bP:=H4.out.frozen J s (by simp)
 have HS:=hid (H4.out.set J s d [(D,0),(f,m),(G,b),(I,a)] (by simp) F8.out.1 (fun p hp=>by simp only [List.mem_cons,List.not_mem_nil,or_false] at hp; rcases hp with rfl | rfl | rfl | rfl <;> first | exact ⟨by simp,F8.out.2 (D,0) (by simp)⟩ | exact ⟨by simp,F8.out.2 (f,m) (by simp)⟩ | exact ⟨by simp,F8.out.2 (G,b) (by simp)⟩ | exact ⟨by simp,F8.out.2 (I,a) (by simp)⟩))
 go_upto_region 6 with fail
 clear U R O M E L bP
 clear H4
 change Code.wp _ _ _ _ (fil w4 J d)
 generalize fil w4 J d=ws at *
 obtain ⟨U,R,O,M⟩:=HS.out.cell (J) (d) (by simp)
 have E:=HS.out.lt (J) (d) (by simp)
 have L:=Nat.le_of_lt E
 obtain ⟨z0,z1,z2,z3⟩:=HS.out.cell D 0 (by simp)
 have zl:=HS.out.lt D 0 (by simp)
 have zf:=HS.out.frozen D 0 (by simp)
 have HZ:=hid (HS.out.set D 0 (d) [] (by simp) (by rw [az]; exact DZ.out) (by simp))
 go_wp2
 clear z0 z1 z2 z3 zl zf
 try rw [Exit.noGoto_ret]
 change bodyPost _ _ _ _ _ (fil ws D (d))
 generalize fil ws D (d)=wz at *
 obtain ⟨k0,k1,k2,k3⟩:=HZ.out.cell D (d) (by simp)
 exact bodyPost_ret (v:=.tuple #[af (d),.int .i64 0]) (by simp [results,Tryz.results25,go_sem,k0,k1,k2,k3]) rfl ⟨rfl,HZ.out.1⟩
theorem rmadd_some (a b m r:Nat) (w:World) (F:a<2 ^ 256) (hb:b<2 ^ 256) (E:m<2 ^ 256) (z:1<m∧a<m∧b<m) (D:(a+b) % m=r):Calls Tryz.prog 25 #[af a,af b,af m] w fun e w'=>e=.returned (.tuple #[af r,.int .i64 0])∧Below w.heap.size w w':=by
 have f:(a+b) / 2 ^ 256=0∨(a+b) / 2 ^ 256=1:=by rw [p256] at *; omega
 rcases f with f | f
 ·by_cases hc:(a+b) % 2 ^ 256<m
  ·exact rmadd_low a b m r w F hb E z D f hc
  ·exact rmadd_high a b m r w F hb E z D f hc
 ·exact rmadd_over a b m r w F hb E z D f
end
end Go.Proofs.YtmapkbdjnnionaaGreatDoor
