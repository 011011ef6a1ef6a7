import Derived.Deep.Onto
import Derived.Test.YtmapkbdjnnionaaGreatDoorPzBB
import Derived.Test.YtmapkbdjnnionaaGreatDoorPzBI
import Derived.Test.YtmapkbdjnnionaaGreatDoorPzBN
set_option maxRecDepth 100000
set_option maxHeartbeats 8000000
set_option linter.all false
namespace Go.Proofs.YtmapkbdjnnionaaGreatDoor
open Go.RowKit
def Bf (w:World) (X:List UInt8) (v:Value) (w':World):Prop:=Below w.heap.size w w'∧Ow w' w.heap.size v X
theorem Bf.old {w wr:World} {X:List UInt8} {v:Value} (h:Bf w X v wr):Below w.heap.size w wr:=h.1
theorem Bf.form {w wr:World} {X:List UInt8} {A:Option Addr} {m c:Nat} (h:Bf w X (.slice A m c) wr):m=X.length∧X.length≤c∧Rd wr A X∧(A=none→c=0):=by
 obtain ⟨G,F,f,E,_,D,z⟩:=h.2.form
 injection f with e1 e2 e3
 subst e1; subst e3
 exact ⟨e2,E,D,z⟩
theorem Bf.out {w wr w2:World} {X:List UInt8} {v:Value} {e:Ending} {bs:List UInt8} (h:Below w.heap.size w wr) (z:OutO wr bs e w2):∃ A m c,e=.returned (.slice A m c)∧Hid (Bf w bs (.slice A m c) w2):=by
 obtain ⟨D,rfl,f,hb⟩:=z
 obtain ⟨A,c,rfl,_,_,_,_⟩:=f.form
 exact ⟨A,_,c,rfl,hid ⟨h.trans (hb.mono h.size),World.ownsRow.mono f h.size⟩⟩
theorem rb_at {w wr:World} {X:List UInt8} {A:Option Addr} {m c:Nat} (H:Hid (Bf w X (.slice A m c) wr)) (B:Option Addr) (d n:Nat) (f:List UInt8) (J:f.length=n) (F:Rd wr B f) (L:B=none→d=0) (K:X.length≤35184372088832) (G:n≤35184372088832) :
  Calls Tryz.prog 111 #[.slice A m c,.slice B n d] wr fun e w'=>∃ E z D,e=.returned (.slice E z D)∧Hid (Bf w (X ++ (be n 4 ++ f)) (.slice E z D) w'):=by
 obtain ⟨I,_,O,M⟩:=H.out.form
 subst I; subst J
 refine (rputBytes_any A B c d X f wr O F M L K G).mono ?_
 exact fun e w1 h=>Bf.out (X:=X) (v:=.slice A X.length c) H.out.old h
theorem rp_at {w wr:World} {X:List UInt8} {A:Option Addr} {m c:Nat} (H:Hid (Bf w X (.slice A m c) wr)) (n:Nat) (J:X.length≤35184372088832) (E:n<18446744073709551616) :
  Calls Tryz.prog 112 #[.slice A m c,.int .u64 (n:Int),.int .i64 4] wr fun e w'=>∃ D f z,e=.returned (.slice D f z)∧Hid (Bf w (X ++ be n 4) (.slice D f z) w'):=by
 obtain ⟨F,_,I,G⟩:=H.out.form
 subst F
 refine (rput_any A c n 4 4 X wr I G (by omega) E (by decide) (by decide)).mono ?_
 exact fun e w1 h=>Bf.out (X:=X) (v:=.slice A X.length c) H.out.old h
theorem refBytes_any (z:ByteArray) (a0:Option Addr) (f c0:Nat) (A:Nat→Option Addr) (L C:Nat→Nat) (I:Nat→List UInt8) (w:World) (hR:Rws w a0 f A L C I) (hn:f≤1000) (hL:∀ r,r<f→L r≤1048576) (hs:z.size≤1000000) :
  Calls Tryz.prog 92 #[.string z,.slice a0 f c0] w fun e w'=>∃ A2 m2 c2,e=.returned (.slice A2 m2 c2)∧Hid (Bf w (cG z.data.toList f I f) (.slice A2 m2 c2) w'):=by
 have HR:=hid hR
 have HL:=hid hL
 have HS:=hid hs
 have E:=hid (show z.data.toList.length=z.size by rw [Array.length_toList]; rfl)
 clear hR hL hs
 obtain ⟨an,w1,RC,F,V⟩:=conv_str z w
 have ad:=RC.out
 have H1:=hid (p:=Bf w [] (.slice none 0 0) w1) ⟨V.out,Ow.nil _ _⟩
 go_enter Tryz.func92,Tryz.ntmps92
 go_wp2_with fail
 clear ad RC
 refine (rb_at H1 (some ⟨w.heap.size,0,none⟩) an z.size z.data.toList E.out F.out (fun h=>by cases h) (by decide) (by have:=HS.out; omega)).mono ?_
 rintro e w2 ⟨A2,m2,c2,rfl,H2⟩
 clear H1 F V
 have hw:IntKind.u64.wrap (f:Int)=(f:Int):=by rw [IntKind.wrap_u64]; omega
 go_wp2_with fail
 refine (rp_at H2 f (by have:=HS.out; simp [aj,E.out]; omega) (by omega)).mono ?_
 rintro e w3 ⟨A3,m3,c3,rfl,H3⟩
 have Y:=hid (p:=Bf w (cG z.data.toList f I 0) (.slice A3 m3 c3) w3) (by have:=H3.out; simpa [cG,flat,E.out] using this)
 clear H2 H3 hw
 go_wp2_with fail
 go_loopw [5,6] (fun s i wr=>∃ (k m c:Nat) (A':Option Addr),k≤f∧i=.int .i64 k∧s=.slice A' m c∧Hid (Bf w (cG z.data.toList f I k) (.slice A' m c) wr)) (fun _ i _=>f - (intOf i).toNat)
 case atStart=>exact ⟨0,m3,c3,A3,Nat.zero_le _,rfl,rfl,Y⟩
 case round =>
  clear Y
  obtain ⟨k,m,c,A',hk,rfl,rfl,Z⟩:=hrel
  by_cases J:k<f
  ·obtain ⟨⟨go,o,rfl,O,cH⟩,M,G,ab,al,R⟩:=HR.out k J
   have D:=(Z.out.old.cell (p:=⟨go,o+k,none⟩) O).trans cH
   have U:=hid M
   have F:=hid (G.below Z.out.old (Nat.le_refl _))
   have ar:=hid R
   have ap:=hid (HL.out k J)
   have K:=hid J
   have ao:=hid (spelt_length z.data.toList f I k (fun r hr=>by rw [(HR.out r (by omega)).2.1]; exact HL.out r (by omega)))
   clear cH M G ab al R O
   go_wp2_with fail
   refine (rb_at Z (A k) (C k) (L k) (I k) U.out F.out ar.out (by have h1:=ao.out; have h2:=E.out; have h3:=HS.out; have h5:=K.out; rw [h2] at h1; omega) (by have:=ap.out; omega)).mono ?_
   rintro e w4 ⟨A4,m4,c4,rfl,Y⟩
   have H5:=hid (p:=Bf w (cG z.data.toList f I (k+1)) (.slice A4 m4 c4) w4) (by have:=Y.out; rw [← U.out] at this; simpa [cG,flat] using this)
   clear Y D
   go_wp2
   exact ⟨⟨k+1,m4,c4,A4,K.out,by go_num,rfl,H5⟩,by have:=K.out; simp [intOf]; omega⟩
  ·obtain rfl:k=f:=by omega
   go_wp2
   go_ret
   exact ⟨A',m,c,rfl,Z⟩
theorem refAs_any (D:ByteArray) (V:Option Addr) (f c0:Nat) (A:Nat→Option Addr) (L C:Nat→Nat) (F:Nat→List UInt8) (w:World) (hR:Rws w V f A L C F) (hn:f≤1000) (hL:∀ r,r<f→L r≤1048576) (hs:D.size≤1000000) :
  Calls Tryz.prog 68 #[.string D,.slice V f c0] w fun e w'=>e=.returned (.agg (au (sha (cG D.data.toList f F f))).toArray)∧Below w.heap.size w w':=by
 have HR:=hid hR
 have HL:=hid hL
 have HS:=hid hs
 have al:=hid (show D.data.toList.length=D.size by rw [Array.length_toList]; rfl)
 clear hR hL hs
 have ab:Hid (Bt (w.alloc (.cells #[.int .u8 0,.int .u8 0,.int .u8 0,.int .u8 0,.int .u8 0,.int .u8 0,.int .u8 0,.int .u8 0,.int .u8 0,.int .u8 0,.int .u8 0,.int .u8 0,.int .u8 0,.int .u8 0,.int .u8 0,.int .u8 0,.int .u8 0,.int .u8 0,.int .u8 0,.int .u8 0,.int .u8 0,.int .u8 0,.int .u8 0,.int .u8 0,.int .u8 0,.int .u8 0,.int .u8 0,.int .u8 0,.int .u8 0,.int .u8 0,.int .u8 0,.int .u8 0] 28)) w.heap.size 28 (List.replicate 32 0)):=hid (heap_alloc_new w _)
 have z:Hid (Below w.heap.size w (w.alloc (.cells #[.int .u8 0,.int .u8 0,.int .u8 0,.int .u8 0,.int .u8 0,.int .u8 0,.int .u8 0,.int .u8 0,.int .u8 0,.int .u8 0,.int .u8 0,.int .u8 0,.int .u8 0,.int .u8 0,.int .u8 0,.int .u8 0,.int .u8 0,.int .u8 0,.int .u8 0,.int .u8 0,.int .u8 0,.int .u8 0,.int .u8 0,.int .u8 0,.int .u8 0,.int .u8 0,.int .u8 0,.int .u8 0,.int .u8 0,.int .u8 0,.int .u8 0,.int .u8 0] 28))):=hid ((Below.refl _ _).alloc (Nat.le_refl _) _)
 have ao:=hid (p:=Rws (w.alloc (.cells #[.int .u8 0,.int .u8 0,.int .u8 0,.int .u8 0,.int .u8 0,.int .u8 0,.int .u8 0,.int .u8 0,.int .u8 0,.int .u8 0,.int .u8 0,.int .u8 0,.int .u8 0,.int .u8 0,.int .u8 0,.int .u8 0,.int .u8 0,.int .u8 0,.int .u8 0,.int .u8 0,.int .u8 0,.int .u8 0,.int .u8 0,.int .u8 0,.int .u8 0,.int .u8 0,.int .u8 0,.int .u8 0,.int .u8 0,.int .u8 0,.int .u8 0,.int .u8 0] 28)) V f A L C F) (fun r I=>by
  obtain ⟨⟨go,o,M,K,O⟩,h4,h5,h6,h7,h8⟩:=HR.out r I
  exact ⟨⟨go,o,M,Nat.lt_of_lt_of_le K z.out.size,(z.out.cell (p:=⟨go,o+r,none⟩) K).trans O⟩,h4,h5.below z.out (Nat.le_refl _),h6,h7,h8⟩)
 go_enter Tryz.func68,Tryz.ntmps68
 go_wp2_with fail
 generalize w.alloc (.cells #[.int .u8 0,.int .u8 0,.int .u8 0,.int .u8 0,.int .u8 0,.int .u8 0,.int .u8 0,.int .u8 0,.int .u8 0,.int .u8 0,.int .u8 0,.int .u8 0,.int .u8 0,.int .u8 0,.int .u8 0,.int .u8 0,.int .u8 0,.int .u8 0,.int .u8 0,.int .u8 0,.int .u8 0,.int .u8 0,.int .u8 0,.int .u8 0,.int .u8 0,.int .u8 0,.int .u8 0,.int .u8 0,.int .u8 0,.int .u8 0,.int .u8 0,.int .u8 0] 28)=w1 at *
 refine (refBytes_any D V f c0 A L C F w1 ao.out hn HL.out HS.out).mono ?_
 rintro e w2 ⟨A2,m2,c2,rfl,H2⟩
 go_wp2_with fail
 obtain ⟨hm,M,K,O⟩:=H2.out.form
 have HM:=hid hm
 have H1:=hid M
 have az:=hid K
 have H3:=hid O
 have Z:=hid (ab.out.on H2.out.old)
 have U:=hid (z.out.trans (H2.out.old.mono z.out.size))
 have ad:=hid (spelt_length D.data.toList f F f (fun r I=>by rw [(HR.out r I).2.1]; exact HL.out r I))
 clear hm M K O
 refine (refof_any A2 c2 (cG D.data.toList f F f) m2 w2 HM.out.symm az.out (by rw [HM.out]; exact H1.out) H3.out (by rw [HM.out]; have M:=ad.out; have K:=al.out; have O:=HS.out; rw [K] at M; omega)).mono ?_
 rintro e w3 ⟨rfl,J⟩
 have R:=hid (Z.out.on J)
 have ay:=hid (U.out.trans (J.mono U.out.size))
 have HQ:=hid (dD (cG D.data.toList f F f))
 clear J
 generalize I:sha (cG D.data.toList f F f)=r at *
 have an:=hid I
 clear I
 have G:=hi44 r HQ.out
 have ap:Hid ((au (List.replicate 32 0)).toArray.size=(au r).toArray.size):=hid (by rw [aw,aw,HQ.out,List.length_replicate])
 have Y:=hid (R.out.row (m:=r))
 have ax:=hid (p:=Below w.heap.size w (w3.setRow w.heap.size (au r).toArray)) (below_setRow ay.out (Nat.le_refl _) _)
 have ar:=bF r
 have E:=R.out
 unfold Bt at E
 have E:=hid E
 go_wp2_with (refine wpList_store_row rfl 28 (.tmp 4) (.tmp 8) rfl w.heap.size (au r).toArray rfl rfl 28 _ E.out G.out ap.out ar ?_)
 exact bodyPost_ret (v:=.agg (au r).toArray) (results_cell_row (p:=4) (ty:=28) Tryz.results68 _ _ w.heap.size 28 (au r).toArray (0,0) _ rfl Y.out Tryz.underlying28 rfl G.out) rfl ⟨by rw [an.out],ax.out⟩
end Go.Proofs.YtmapkbdjnnionaaGreatDoor
