import Derived.Test.YtmapkbdjnnionaaGreatDoorPzBC
import Derived.Test.YtmapkbdjnnionaaGreatDoorPzAQ
set_option maxRecDepth 100000
set_option maxHeartbeats 8000000
set_option linter.all false
namespace Go.Proofs.YtmapkbdjnnionaaGreatDoor
section
open Go.RowKit
theorem words32 (r:List UInt8) (h:r.length=32):wd (aF r) 0=word r 3∧wd (aF r) 1=word r 2∧wd (aF r) 2=word r 1∧wd (aF r) 3=word r 0:=by
 have E:aF r=word r 0 * 256 ^ 24+aF (r.drop 8):=by
  conv=>lhs; rw [← List.take_append_drop 8 r]
  rw [tell_append,List.length_drop,h]; rfl
 have D:aF (r.drop 8)=word r 1 * 256 ^ 16+aF (r.drop 16):=by
  conv=>lhs; rw [← List.take_append_drop 8 (r.drop 8)]
  rw [tell_append,List.length_drop,List.length_drop,h,List.drop_drop]; rfl
 have z:aF (r.drop 16)=word r 2 * 256 ^ 8+aF (r.drop 24):=by
  conv=>lhs; rw [← List.take_append_drop 8 (r.drop 16)]
  rw [tell_append,List.length_drop,List.length_drop,h,List.drop_drop]; rfl
 have f:aF (r.drop 24)=word r 3:=by
  have:(r.drop 24).take 8=r.drop 24:=List.take_of_length_le (by rw [List.length_drop,h]; decide)
  show aF (r.drop 24)=aF ((r.drop (8 * 3)).take 8)
  rw [show 8 * 3=24 from rfl,this]
 have lt:∀ k,word r k<18446744073709551616:=by
  intro k
  have V:=tell_lt ((r.drop (8 * k)).take 8)
  have U:256 ^ ((r.drop (8 * k)).take 8).length≤256 ^ 8:=Nat.pow_le_pow_right (by decide) (by rw [List.length_take]; omega)
  show aF ((r.drop (8 * k)).take 8)<18446744073709551616
  have R:(256:Nat) ^ 8=18446744073709551616:=by decide
  omega
 have O:=lt 0; have M:=lt 1; have L:=lt 2; have K:=lt 3
 rw [D,z,f] at E
 rw [show (256:Nat) ^ 24=6277101735386680763835789423207666416102355444464034512896 by decide,show (256:Nat) ^ 16=340282366920938463463374607431768211456 by decide,show (256:Nat) ^ 8=18446744073709551616 by decide] at E
 clear D z f lt
 generalize aF r=T at *
 generalize word r 0=J at *
 generalize word r 1=I at *
 generalize word r 2=G at *
 generalize word r 3=F at *
 simp only [wd]
 rw [show (18446744073709551616:Nat) ^ 0=1 by decide,show (18446744073709551616:Nat) ^ 1=18446744073709551616 by decide,show (18446744073709551616:Nat) ^ 2=340282366920938463463374607431768211456 by decide,show (18446744073709551616:Nat) ^ 3=6277101735386680763835789423207666416102355444464034512896 by decide]
 omega
theorem gl_at (r:List UInt8) (g t:Nat) {w w':World} {l:List (Nat×Nat)} (z:r.length=32) (f:Bt w' g 28 r) (L:aF r=t) (h:ae w l w') :
  Calls Tryz.prog 86 #[.slice (some ⟨g,0,none⟩) 32 32] w' fun e w2=>e=.returned (.tuple #[af t,.int .i64 0])∧ae w l w2:=by
 have E:Rd w' (some ⟨g,0,none⟩) r:=by
  intro M
  refine ⟨g,0,rfl,lt_of_block f,fun j F=>?_⟩
  rw [cell_of_row _ _ _ _ 28 _ f]
  simp [au,F]
 have D:=getLong_ok (some ⟨g,0,none⟩) 32 r w' E (by omega) (by decide) (by omega)
 rw [z] at D
 refine D.mono ?_
 rintro e w2 ⟨rfl,hb⟩
 obtain ⟨K,J,I,G⟩:=words32 r z
 subst L
 refine ⟨?_,h.on hb⟩
 unfold af
 rw [← K,← J,← I,← G]
 try rfl
theorem lt0 {w w0:World} {ga g:Nat} (e:w.heap.size=g) (h:ga<g) (hb:Below w.heap.size w w0):ga<w0.heap.size:=Nat.lt_of_lt_of_le (e ▸ h) hb.size
def half (s:List UInt8) (n:Nat) (xs:Nat→List UInt8) (x:UInt8):Nat:=aF (sha (cG s (n+1) (nx n xs [x]) (n+1)))
theorem half_lt (s:List UInt8) (n:Nat) (f:Nat→List UInt8) (x:UInt8):half s n f x<2 ^ 256:=by
 have h:=tell_lt (sha (cG s (n+1) (nx n f [x]) (n+1)))
 rw [dD,show (256:Nat) ^ 32=2 ^ 256 by decide] at h
 exact h
theorem half_any (st:ByteArray) (a0:Option Addr) (E c0:Nat) (A:Nat→Option Addr) (L C:Nat→Nat) (xs:Nat→List UInt8) (ga gp:Nat) (x:UInt8) (xi:Int) (w:World) (hx:xi=(x.toNat:Int)) (hR:Rws w a0 E A L C xs) (hK:Kt w) (hn:E+1≤1000) (hL:∀ r,r<E→L r≤1048576) (hs:st.size≤1000000) (hc:E≤c0) (h0:a0=none→c0=0)
  (G:w.cell? ⟨ga,0,none⟩=some (.string st)) (F:w.cell? ⟨gp,0,none⟩=some (.slice a0 E c0)) :
  Calls Tryz.prog 83 #[.int .u8 xi,.pointer (some ⟨ga,0,none⟩),.pointer (some ⟨gp,0,none⟩)] w fun e w'=>e=.returned (af (half st.data.toList E xs x))∧Below w.heap.size w w':=by
 obtain ⟨r,er⟩:∃ z,sha (cG st.data.toList (E+1) (nx E xs [x]) (E+1))=z:=⟨_,rfl⟩
 obtain ⟨t,et⟩:∃ z,aF r=z:=⟨_,rfl⟩
 have hq:r.length=32:=by rw [← er]; exact dD _
 rw [half,er,et]
 have ER:=hid er
 have ET:=hid et
 have HQ:=hid hq
 have HC:=hid hc
 have HN:=hid (show E≤1000 by omega)
 have Y:=hid hn
 have U:=hid h0
 have V:=hid (show a0=none→E=0 from fun e=>by have:=h0 e; omega)
 have Z:=hid (nx_le E L hL)
 have HS:=hid hs
 have HX:=hid hx
 have FK:=hid (on_kt hK)
 have FR:=hid (bB hR)
 have O:=hid ((ce (World.block_lt_of_cell? _ _ G) G).both (ce (World.block_lt_of_cell? _ _ F) F))
 have J:=hid (World.block_lt_of_cell? _ _ G)
 have I:=hid (World.block_lt_of_cell? _ _ F)
 clear er et hq hc hn h0 hL hs hx hK hR G F
 have K:=hid (((ae.refl w).zero).perm (l':=[(w.heap.size,0)]) (by simp))
 have DZ:=hid (show w.heap.size≤w.heap.size by omega)
 go_enter Tryz.func83,Tryz.ntmps83
 go_upto_region 1 with fail
 generalize w.alloc (.cells #[.int .u64 0,.int .u64 0,.int .u64 0,.int .u64 0] 24)=w0 at *
 generalize f:w.heap.size=D at *
 have FK:=hid (FK.out.on K.out.1)
 have FR:=hid (FR.out.on K.out.1)
 have O:=hid (O.out.on K.out.1)
 have J:=hid (lt0 f J.out K.out.1)
 have I:=hid (lt0 f I.out K.out.1)
 have ad:=hid O.out.here.1
 have ab:=hid O.out.here.2
 refine hf1_ok FK FR O J I ad ab HC HN HN Y U V Z HS HX ER HQ _ _ _ _ _ _ _ _ _ _ _ _ _ _ _ _ _ _ _ (hid ?_)
 intro d8 d9 ax ar ap ao an al gz u FZ
 have H1:=hid (K.out.on FZ.out.here.2)
 have HB:=hid FZ.out.here.1
 clear FK FR O J I ad ab HC HN Y U V Z HS HX ER FZ K
 go_wp2_with fail
 refine (gl_at r gz t HQ.out HB.out ET.out H1.out).mono ?_
 rintro e w2 ⟨rfl,h⟩
 have H2:=hid h
 clear h H1
 clear HB HQ ET
 go_upto_region 3 with fail
 have M:=hid (H2.out.new t)
 clear H2
 generalize w2.alloc (.cells (ai t) 24)=R at *
 generalize w2.heap.size=g6 at *
 obtain ⟨bq,bp,bo,bn⟩:=M.out.cell (g6) (t) (by simp)
 have aC:=M.out.lt (g6) (t) (by simp)
 have bm:=Nat.le_of_lt aC
 obtain ⟨z0,z1,z2,z3⟩:=M.out.cell D 0 (by simp)
 have zl:=M.out.lt D 0 (by simp)
 have zf:=M.out.frozen D 0 (by simp)
 have V:=hid (M.out.set D 0 (t) [] (by simp) (by rw [f]; exact DZ.out) (by simp))
 go_wp2
 clear z0 z1 z2 z3 zl zf
 try rw [Exit.noGoto_ret]
 change bodyPost _ _ _ _ _ (fil R D (t))
 generalize fil R D (t)=wz at *
 obtain ⟨k0,k1,k2,k3⟩:=V.out.cell D (t) (by simp)
 exact bodyPost_ret (v:=af (t)) (by simp [results,Tryz.results83,go_sem,k0,k1,k2,k3]) rfl ⟨rfl,V.out.1⟩
def nof (s:List UInt8) (n:Nat) (xs:Nat→List UInt8) (m:Nat):Nat:=wid (half s n xs 1) (half s n xs 0) m
theorem wide_both (lo hi m s:Nat) {w w':World} {l:List (Nat×Nat)} (D:lo<2 ^ 256) (E:hi<2 ^ 256) (G:m<2 ^ 256) (f:(if m=0 then 0 else wid lo hi m)=s) (e:Int) (z:(if m=0 then 1 else 0:Int)=e) (h:ae w l w') :
  Calls Tryz.prog 67 #[af lo,af hi,af m] w' fun r w2=>r=.returned (.tuple #[af s,.int .i64 e])∧ae w l w2:=by
 by_cases F:m=0
 ·subst F
  rw [if_pos rfl] at f z
  subst f; subst z
  exact wide_none_at lo hi h
 ·rw [if_neg F] at f z
  subst z
  exact wide_at lo hi m s h D E G F f
theorem half_k (E:ByteArray) (G:Option Addr) (f F:Nat) (A:Nat→Option Addr) (L C:Nat→Nat) (I:Nat→List UInt8) (ga gp:Nat) (x:UInt8) (J:Int) (t:Nat) {w0 w':World} {l:List (Nat×Nat)} (K:J=(x.toNat:Int)) (M:half E.data.toList f I x=t) (U:Rws w0 G f A L C I) (Y:Kt w0) (R:f+1≤1000) (V:∀ r,r<f→L r≤1048576) (O:E.size≤1000000) (hc:f≤F) (Z:G=none→F=0)
  (D:w0.cell? ⟨ga,0,none⟩=some (.string E)) (z:w0.cell? ⟨gp,0,none⟩=some (.slice G f F)) (h:ae w0 l w') :
  Calls Tryz.prog 83 #[.int .u8 J,.pointer (some ⟨ga,0,none⟩),.pointer (some ⟨gp,0,none⟩)] w' fun e w2=>e=.returned (af t)∧ae w0 l w2:=by
 subst M
 exact ah (half_any E G f F A L C I ga gp x J w' K ((bB U) _ h.1) ((on_kt Y) _ h.1) R V O hc Z ((ce (World.block_lt_of_cell? _ _ D) D) _ h.1) ((ce (World.block_lt_of_cell? _ _ z) z) _ h.1)) h
theorem num_boxes (w:World) (m:Nat) (f z:Value) :
  ae w [(w.heap.size,m),(w.heap.size+1+1+1,0)] ((((w.alloc (.cells (ai m) 24)).alloc (.cells #[f] 9)).alloc (.cells #[z] 79)).alloc (.cells #[.int .u64 0,.int .u64 0,.int .u64 0,.int .u64 0] 24))∧
  ((((w.alloc (.cells (ai m) 24)).alloc (.cells #[f] 9)).alloc (.cells #[z] 79)).alloc (.cells #[.int .u64 0,.int .u64 0,.int .u64 0,.int .u64 0] 24)).cell? ⟨w.heap.size+1,0,none⟩=some f∧
  ((((w.alloc (.cells (ai m) 24)).alloc (.cells #[f] 9)).alloc (.cells #[z] 79)).alloc (.cells #[.int .u64 0,.int .u64 0,.int .u64 0,.int .u64 0] 24)).cell? ⟨w.heap.size+1+1,0,none⟩=some z:=by
 have sz:∀ (u:World) (o:Obj),(u.alloc o).heap.size=u.heap.size+1:=fun u o=>Array.size_push _
 have J:=(ae.refl w).new m
 have I:=J.on ((Below.refl _ _).alloc (Nat.le_refl _) (.cells #[f] 9))
 have G:=I.on ((Below.refl _ _).alloc (Nat.le_refl _) (.cells #[z] 79))
 have F:=G.zero
 have E:((w.alloc (.cells (ai m) 24)).alloc (.cells #[f] 9)).cell? ⟨w.heap.size+1,0,none⟩=some f:=by
  have:=cell_of_row _ _ 0 _ 9 (0,0) (heap_alloc_new (w.alloc (.cells (ai m) 24)) (.cells #[f] 9))
  rw [sz] at this
  exact this
 have D:(((w.alloc (.cells (ai m) 24)).alloc (.cells #[f] 9)).alloc (.cells #[z] 79)).cell? ⟨w.heap.size+1+1,0,none⟩=some z:=by
  have:=cell_of_row _ _ 0 _ 79 (0,0) (heap_alloc_new ((w.alloc (.cells (ai m) 24)).alloc (.cells #[f] 9)) (.cells #[z] 79))
  rw [sz,sz] at this
  exact this
 refine ⟨?_,?_,?_⟩
 ·have:=F.perm (l':=[(w.heap.size,m),((((w.alloc (.cells (ai m) 24)).alloc (.cells #[f] 9)).alloc (.cells #[z] 79)).heap.size,0)]) (by simp)
  rw [sz,sz,sz] at this
  exact this
 ·rw [World.cell?_alloc_past _ _ _ (by simp only [sz]; omega),World.cell?_alloc_past _ _ _ (by simp only [sz]; omega)]
  exact E
 ·rw [World.cell?_alloc_past _ _ _ (by simp only [sz]; omega)]
  exact D
theorem number_any (I:ByteArray) (V:Option Addr) (G U:Nat) (A:Nat→Option Addr) (L C:Nat→Nat) (Y:Nat→List UInt8) (m s:Nat) (e:Int) (w:World) (hm:m<2 ^ 256) (hR:Rws w V G A L C Y) (E:Kt w) (hn:G+1≤1000) (hL:∀ r,r<G→L r≤1048576) (D:I.size≤1000000) (hc:G≤U) (h0:V=none→U=0)
  (hv:(if m=0 then 0 else nof I.data.toList G Y m)=s) (he:(if m=0 then 1 else 0:Int)=e) :
  Calls Tryz.prog 61 #[af m,.string I,.slice V G U] w fun r w'=>r=.returned (.tuple #[af s,.int .i64 e])∧Below w.heap.size w w':=by
 obtain ⟨lo,J⟩:∃ z,half I.data.toList G Y 1=z:=⟨_,rfl⟩
 obtain ⟨hi,M⟩:∃ z,half I.data.toList G Y 0=z:=⟨_,rfl⟩
 unfold nof at hv
 rw [J,M] at hv
 have ar:=hid (J ▸ half_lt _ _ _ _:lo<2 ^ 256)
 have ax:=hid (M ▸ half_lt _ _ _ _:hi<2 ^ 256)
 have ay:=hid J
 have az:=hid M
 have HM:=hid hm
 have HN:=hid hn
 have HL:=hid hL
 have HS:=hid D
 have HC:=hid hc
 have ap:=hid h0
 have HV:=hid hv
 have HE:=hid he
 have ad:=hid hR
 have al:=hid E
 clear J M hm hn hL D hc h0 hv he hR E
 obtain ⟨b1,b2,b3⟩:=num_boxes w m (.string I) (.slice V G U)
 have H0:=hid b1
 have ao:=hid b2
 have an:=hid b3
 clear b1 b2 b3
 have DZ:=hid (show w.heap.size≤w.heap.size+1+1+1 by omega)
 have DN:=hid (show w.heap.size≠w.heap.size+1+1+1 by omega)
 go_enter Tryz.func61,Tryz.ntmps61
 go_upto_region 2 with fail
 generalize (((w.alloc (.cells (ai m) 24)).alloc (.cells #[.string I] 9)).alloc (.cells #[.slice V G U] 79)).alloc (.cells #[.int .u64 0,.int .u64 0,.int .u64 0,.int .u64 0] 24)=w0 at *
 generalize w.heap.size+1+1+1=F at *
 generalize w.heap.size+1+1=ab at *
 generalize w.heap.size+1=Z at *
 generalize R:w.heap.size=f at *
 have HR:=hid ((bB ad.out) _ H0.out.1)
 have HK:=hid ((on_kt al.out) _ H0.out.1)
 clear ad al
 have D:=(show ae w0 [(f,m),(F,0)] w0 from ⟨Below.refl _ _,H0.out.2⟩).drew
 refine wp_region_noPanic ?_
 refine aa.region (fun (_:Array Bool) (w':World)=>(w'.cell? ⟨f,0,none⟩=some (.int .u64 (wd (m) 0:Int))∧w'.cell? ⟨f,1,none⟩=some (.int .u64 (wd (m) 1:Int))∧w'.cell? ⟨f,2,none⟩=some (.int .u64 (wd (m) 2:Int))∧w'.cell? ⟨f,3,none⟩=some (.int .u64 (wd (m) 3:Int)))) (by kernel_rfl) ?_
 generalize w0.drew=wd at *
 refine aa.q 0 ⟨some 10,_,_,_,_,_⟩ ((ae.cell D f m (by simp))) ?_
 try simp only [ac]
 refine aa.q 2 ⟨some 12,_,_,_,_,_⟩ ((ae.cell D f m (by simp))) ?_
 try simp only [ac]
 refine aa.tk (i:=4) (o:=⟨some 14,_,_,_,_,_⟩) (v:=?_) [] (y:=Or.inl ⟨by rfl,?_⟩) (s:=(ae.cell D f m (by simp))) (H:=?_)
 rotate_left
 ·rintro u ⟨up,-,hX⟩; (try dsimp only at hX); obtain ⟨x0,x1,x2,x3⟩:=hX; go_simp; try with_reducible rfl
 try simp only [ac]
 refine aa.one (i:=1) (o:=⟨some 11,_,_,_,_,_⟩) (by kernel_rfl) rfl (fun K E=>?_)
 go_simp
 with_reducible refine (half_k I V G U A L C Y Z ab 1 1 lo rfl ay.out HR.out HK.out HN.out HL.out HS.out HC.out ap.out ao.out an.out D).mono ?_
 rintro e1 aC ⟨rfl,O⟩
 clear D
 have D:=O
 clear O
 go_wp2_with fail
 refine E.out _ _ (ae.cell D f m (by simp)) ?_
 clear E K
 try simp only [ac]
 refine aa.one (i:=3) (o:=⟨some 13,_,_,_,_,_⟩) (by kernel_rfl) rfl (fun K E=>?_)
 go_simp
 with_reducible refine (half_k I V G U A L C Y Z ab 0 0 hi rfl az.out HR.out HK.out HN.out HL.out HS.out HC.out ap.out ao.out an.out D).mono ?_
 rintro e1 aB ⟨rfl,O⟩
 clear D
 have D:=O
 clear O
 go_wp2_with fail
 refine E.out _ _ (ae.cell D f m (by simp)) ?_
 clear E K
 try simp only [ac]
 refine aa.one (i:=5) (o:=⟨some 15,_,_,_,_,_⟩) (by kernel_rfl) rfl (fun K E=>?_)
 go_simp
 with_reducible refine (wide_both lo hi m s ar.out ax.out HM.out HV.out e HE.out D).mono ?_
 rintro e1 aA ⟨rfl,O⟩
 clear D
 have D:=O
 clear O
 go_wp2_with fail
 refine E.out _ _ (ae.cell D f m (by simp)) ?_
 clear E K
 try simp only [ac]
 refine aa.q 6 ⟨some 16,_,_,_,_,_⟩ ((ae.cell D f m (by simp))) ?_
 try simp only [ac]
 refine aa.q 7 ⟨some 17,_,_,_,_,_⟩ ((ae.cell D f m (by simp))) ?_
 try simp only [ac]
 refine aa.one (i:=8) (o:=⟨none,_,_,_,_,_⟩) (by kernel_rfl) rfl (fun K E=>?_)
 have HW:=hid (H0.out.on D.1)
 obtain ⟨z0,z1,z2,z3⟩:=HW.out.cell F 0 (by simp)
 have zl:=HW.out.lt F 0 (by simp)
 have zf:=HW.out.frozen F 0 (by simp)
 have HZ:=hid (HW.out.set F 0 s [(f,m)] (by simp) (by rw [R]; exact DZ.out) (by simp; exact DN.out))
 go_simp
 refine E.out _ _ (ae.cell HZ.out f m (by simp)) ?_
 clear E K z0 z1 z2 z3 zl zf
 have D:=HZ.out
 try simp only [ac]
 refine aa.q 9 ⟨some 7,_,_,_,_,_⟩ ((ae.cell D f m (by simp))) ?_
 try simp only [ac]
 refine aa.done (by kernel_rfl) ?_ _
 refine NoPanic.normal ?_
 go_wp2
 try rw [Exit.noGoto_ret]
 obtain ⟨k0,k1,k2,k3⟩:=HZ.out.cell F s (by simp)
 exact bodyPost_ret (v:=.tuple #[af s,.int .i64 e]) (by simp [results,Tryz.results61,go_sem,k0,k1,k2,k3]) rfl ⟨rfl,HZ.out.1⟩
end
end Go.Proofs.YtmapkbdjnnionaaGreatDoor
