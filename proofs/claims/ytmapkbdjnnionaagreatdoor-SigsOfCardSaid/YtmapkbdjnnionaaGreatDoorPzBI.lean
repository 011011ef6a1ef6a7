import Derived.Test.YtmapkbdjnnionaaGreatDoorPzBH
import Derived.Test.YtmapkbdjnnionaaGreatDoorPzBA
set_option maxRecDepth 100000
set_option maxHeartbeats 8000000
set_option linter.all false
namespace Go.Proofs.YtmapkbdjnnionaaGreatDoor
section
open Go.RowKit
theorem row_none (n:Nat) (f:Int) (w:World) (D:n<18446744073709551616) (E:f≤0) (F : -9223372036854775808≤f):Calls Tryz.prog 72 #[.int .u64 (n:Int),.int .i64 f] w (OutO w []):=by
 have z:=hid (p:=OutO w [] (.returned (.slice none 0 0)) w) ⟨_,rfl,Ow.nil _ _,Below.refl _ _⟩
 go_enter Tryz.func72,Tryz.ntmps72
 go_wp2
 go_ret
 exact z.out
theorem row_at (n K:Nat) (f:Int) (w:World) (z:n<18446744073709551616) (E:K=(max f 0).toNat) (F:f≤8) (D : -9223372036854775808≤f):Calls Tryz.prog 72 #[.int .u64 (n:Int),.int .i64 f] w (OutO w (be n K)):=by
 rcases (show f≤0∨0<f from by omega) with h | h
 ·obtain rfl:K=0:=by omega
  exact row_none n f w z h D
 ·exact row_any K n f w z (by omega) (by omega)
theorem OutO.trans {w w1 w2:World} {bs:List UInt8} {e:Ending} (h:OutO w1 bs e w2) (hb:Below w.heap.size w w1):OutO w bs e w2:=by
 obtain ⟨v,rfl,f,z⟩:=h
 refine ⟨v,rfl,?_,hb.trans (z.mono hb.size)⟩
 refine ⟨f.1,?_⟩
 rcases f.2 with h | ⟨g,E,D,I,G,F⟩
 ·exact .inl h
 ·exact .inr ⟨g,E,D,I,Nat.le_trans hb.size G,F⟩
theorem rput_any (A:Option Addr) (c n K:Nat) (k:Int) (bs:List UInt8) (w:World) (Z:Rd w A bs) (hA:A=none→c=0) (hn:bs.length≤140737488351232) (Y:n<18446744073709551616) (hK:K=(min (max k 0) 8).toNat) (h1 : -9223372036854775808≤k) :
  Calls Tryz.prog 112 #[.slice A bs.length c,.int .u64 (n:Int),.int .i64 k] w (OutO w (bs ++ be n K)):=by
 have M:=hid hK
 clear hK
 rcases (show k≤8∨8<k from by omega) with h | h
 ·go_enter Tryz.func112,Tryz.ntmps112
  go_wp2_with fail
  refine (row_at n K _ w Y (by have:=M.out; omega) (by omega) (by omega)).mono ?_
  rintro e w1 ⟨v1,rfl,f,E⟩
  obtain ⟨B,d,rfl,F,O,z,U⟩:=f.form
  rw [aj] at F ⊢
  have V:=hid (Z.below E (Nat.le_refl _))
  have I:=hid z
  clear f z
  have R:K≤8:=by have:=M.out; omega
  go_wp2_with fail
  refine (dj A B c d bs (be n K) bs.length K rfl (aj _ _) w1 V.out I.out hA U (by omega)).mono ?_
  intro e w2 J
  have L:=hid (J.trans E)
  clear J
  obtain ⟨v2,rfl,D,G⟩:=L.out
  clear D G
  go_wp2
  go_ret
  exact L.out
 ·go_enter Tryz.func112,Tryz.ntmps112
  go_wp2_with fail
  refine (row_at n K _ w Y (by have:=M.out; omega) (by omega) (by omega)).mono ?_
  rintro e w1 ⟨v1,rfl,f,E⟩
  obtain ⟨B,d,rfl,F,O,z,U⟩:=f.form
  rw [aj] at F ⊢
  have V:=hid (Z.below E (Nat.le_refl _))
  have I:=hid z
  clear f z
  have R:K≤8:=by have:=M.out; omega
  go_wp2_with fail
  refine (dj A B c d bs (be n K) bs.length K rfl (aj _ _) w1 V.out I.out hA U (by omega)).mono ?_
  intro e w2 J
  have L:=hid (J.trans E)
  clear J
  obtain ⟨v2,rfl,D,G⟩:=L.out
  clear D G
  go_wp2
  go_ret
  exact L.out
theorem rputBytes_any (A B:Option Addr) (c d:Nat) (bs f:List UInt8) (w:World) (hr:Rd w A bs) (hl:Rd w B f) (hA:A=none→c=0) (hB:B=none→d=0) (hn:bs.length≤35184372088832) (hm:f.length≤35184372088832) :
  Calls Tryz.prog 111 #[.slice A bs.length c,.slice B f.length d] w (OutO w (bs ++ (be f.length 4 ++ f))):=by
 go_enter Tryz.func111,Tryz.ntmps111
 go_wp2_with fail
 refine (row_at f.length 4 _ w (by omega) rfl (by omega) (by omega)).mono ?_
 rintro e w1 ⟨v1,rfl,F,z⟩
 obtain ⟨B1,d1,rfl,R,ad,G,bA⟩:=F.form
 rw [aj] at R ⊢
 have HR:=hid (hr.below z (Nat.le_refl _))
 have HL:=hid (hl.below z (Nat.le_refl _))
 have V:=hid G
 clear F G
 go_wp2_with fail
 refine (dj B1 B d1 d (be f.length 4) f 4 f.length (aj _ _) rfl w1 V.out HL.out bA hB (by omega)).mono ?_
 rintro e w2 ⟨v2,rfl,E,K⟩
 have L:=z.trans (K.mono z.size)
 obtain ⟨B2,d2,rfl,J,ab,D,M⟩:=E.form
 rw [List.length_append,aj] at J ⊢
 have Y:=hid (HR.out.below K (Nat.le_refl _))
 have O:=hid D
 clear E D
 go_wp2_with fail
 refine (dj A B2 c d2 bs (be f.length 4 ++ f) bs.length (4+f.length) rfl (by simp [aj]) w2 Y.out O.out hA M (by omega)).mono ?_
 intro e w3 Z
 have HO:=hid (Z.trans L)
 clear Z
 obtain ⟨v3,rfl,I,U⟩:=HO.out
 clear I U
 go_wp2
 go_ret
 exact HO.out
theorem be_words' (f n1 n2 n3:Nat) (I:f<18446744073709551616) (G:n1<18446744073709551616) (F:n2<18446744073709551616) (E:n3<18446744073709551616) :
  be (wnum [f,n1,n2,n3]) 32=be n3 8 ++ (be n2 8 ++ (be n1 8 ++ (be f 8 ++ []))):=by
 have z:(256:Nat) ^ 8=18446744073709551616:=by decide
 have step:∀ x r,x<18446744073709551616→be (x+18446744073709551616 * r) 8=be x 8:=by
  intro x r D
  rw [← be_mod,← be_mod x 8,z]
  congr 1
  omega
 have cut:∀ x r k,x<18446744073709551616→be (x+18446744073709551616 * r) (k+8)=be r k ++ be x 8:=by
  intro x r k D
  rw [be_add,step x r D,z]
  congr 2
  omega
 simp only [wnum]
 rw [show (32:Nat)=24+8 from rfl,cut _ _ _ I,show (24:Nat)=16+8 from rfl,cut _ _ _ G,show (16:Nat)=8+8 from rfl,cut _ _ _ F,step _ _ E]
 simp
theorem rputLong_any (A:Option Addr) (c f n1 n2 n3:Nat) (bs:List UInt8) (w:World) (hr:Rd w A bs) (hA:A=none→c=0) (hn:bs.length≤140737488351232)
  (h0:f<18446744073709551616) (h1:n1<18446744073709551616) (h2:n2<18446744073709551616) (h3:n3<18446744073709551616) :
  Calls Tryz.prog 45 #[.slice A bs.length c,.agg #[.int .u64 (f:Int),.int .u64 (n1:Int),.int .u64 (n2:Int),.int .u64 (n3:Int)]] w (OutO w (bs ++ be (wnum [f,n1,n2,n3]) 32)):=by
 rw [be_words' f n1 n2 n3 h0 h1 h2 h3]
 go_enter Tryz.func45,Tryz.ntmps45
 go_wp2
 have bW:=hid (hr.alloc (.cells #[.int .u64 (f:Int),.int .u64 (n1:Int),.int .u64 (n2:Int),.int .u64 (n3:Int)] 24))
 have aT:=hid ((Below.refl w.heap.size w).alloc (Nat.le_refl _) (.cells #[.int .u64 (f:Int),.int .u64 (n1:Int),.int .u64 (n2:Int),.int .u64 (n3:Int)] 24))
 have G:=hid (heap_alloc_new w (.cells #[.int .u64 (f:Int),.int .u64 (n1:Int),.int .u64 (n2:Int),.int .u64 (n3:Int)] 24))
 generalize w.alloc (.cells #[.int .u64 (f:Int),.int .u64 (n1:Int),.int .u64 (n2:Int),.int .u64 (n3:Int)] 24)=w0 at *
 obtain ⟨gn,aC⟩:∃ gn,gn=w.heap.size:=⟨_,rfl⟩
 rw [← aC] at G ⊢
 have HG:=hid aC
 clear aC
 have cf:=hid (Rd.nil w0 none)
 have m0:w0.cell? ⟨gn,0,none⟩=some (.int .u64 (f:Int)):=by rw [cell_of_row _ _ _ _ 24 (0,0) G.out]; rfl
 refine wp_loop_rounds 5 ?_
 rw [rounds_succ]
 go_wp2_with fail
 refine (row_any 8 f 8 w0 h0 rfl (by omega)).mono ?_
 rintro e w1 ⟨v1,rfl,aB,F⟩
 have aS:=hid (aT.out.trans (F.mono aT.out.size))
 have aJ:=hid ((F.block _ (lt_of_block G.out)).trans G.out)
 have cd:=hid (cf.out.below F (Nat.le_refl _))
 have bV:=hid (bW.out.below F (Nat.le_refl _))
 obtain ⟨B1,d1,rfl,bo,cq,an,bA⟩:=aB.form
 rw [aj] at bo ⊢
 have bN:=hid an
 clear aB an F aT G cf bW bo cq
 go_wp2_with fail
 refine (dj B1 none d1 0 (be f 8) [] 8 0 (aj _ _) rfl w1 bN.out cd.out bA (fun _=>rfl) (by omega)).mono ?_
 rintro e w2 ⟨v2,rfl,aA,L⟩
 have aR:=hid (aS.out.trans (L.mono aS.out.size))
 have R:=hid ((L.block _ (lt_of_block aJ.out)).trans aJ.out)
 have bU:=hid (bV.out.below L (Nat.le_refl _))
 obtain ⟨L2,e2,rfl,bn,cp,Z,bu⟩:=aA.form
 rw [show ((be f 8 ++ []):List UInt8).length=8 from by simp [aj]] at bn ⊢
 have cc:=hid Z
 clear aA Z L aS aJ cd bV bN bn cp bA
 have m1:w2.cell? ⟨gn,1,none⟩=some (.int .u64 (n1:Int)):=by rw [cell_of_row _ _ _ _ 24 (0,0) R.out]; rfl
 go_wp2
 rw [rounds_succ]
 go_wp2_with fail
 refine (row_any 8 n1 8 w2 h1 rfl (by omega)).mono ?_
 rintro e w3 ⟨v3,rfl,az,E⟩
 have aQ:=hid (aR.out.trans (E.mono aR.out.size))
 have aI:=hid ((E.block _ (lt_of_block R.out)).trans R.out)
 have cb:=hid (cc.out.below E (Nat.le_refl _))
 have bS:=hid (bU.out.below E (Nat.le_refl _))
 obtain ⟨B3,d3,rfl,bm,co,al,bz⟩:=az.form
 rw [aj] at bm ⊢
 have bK:=hid al
 clear az al E aR R cc bU bm co
 go_wp2_with fail
 refine (dj B3 L2 d3 e2 (be n1 8) (be f 8 ++ []) 8 8 (aj _ _) (by simp [aj]) w3 bK.out cb.out bz bu (by omega)).mono ?_
 rintro e w4 ⟨v4,rfl,ay,K⟩
 have aN:=hid (aQ.out.trans (K.mono aQ.out.size))
 have O:=hid ((K.block _ (lt_of_block aI.out)).trans aI.out)
 have bR:=hid (bS.out.below K (Nat.le_refl _))
 obtain ⟨L4,e4,rfl,bk,cn,Y,bq⟩:=ay.form
 rw [show ((be n1 8 ++ (be f 8 ++ [])):List UInt8).length=16 from by simp [aj]] at bk ⊢
 have ca:=hid Y
 clear ay Y K aQ aI cb bS bK bk cn bz bu
 have m2:w4.cell? ⟨gn,2,none⟩=some (.int .u64 (n2:Int)):=by rw [cell_of_row _ _ _ _ 24 (0,0) O.out]; rfl
 go_wp2
 rw [rounds_succ]
 go_wp2_with fail
 refine (row_any 8 n2 8 w4 h2 rfl (by omega)).mono ?_
 rintro e w5 ⟨v5,rfl,ax,D⟩
 have aM:=hid (aN.out.trans (D.mono aN.out.size))
 have aG:=hid ((D.block _ (lt_of_block O.out)).trans O.out)
 have bZ:=hid (ca.out.below D (Nat.le_refl _))
 have bQ:=hid (bR.out.below D (Nat.le_refl _))
 obtain ⟨B5,d5,rfl,bd,cm,ad,bx⟩:=ax.form
 rw [aj] at bd ⊢
 have bI:=hid ad
 clear ax ad D aN O ca bR bd cm
 go_wp2_with fail
 refine (dj B5 L4 d5 e4 (be n2 8) (be n1 8 ++ (be f 8 ++ [])) 8 16 (aj _ _) (by simp [aj]) w5 bI.out bZ.out bx bq (by omega)).mono ?_
 rintro e w6 ⟨v6,rfl,ar,J⟩
 have aL:=hid (aM.out.trans (J.mono aM.out.size))
 have M:=hid ((J.block _ (lt_of_block aG.out)).trans aG.out)
 have bP:=hid (bQ.out.below J (Nat.le_refl _))
 obtain ⟨L6,e6,rfl,bb,cl,V,bp⟩:=ar.form
 rw [show ((be n2 8 ++ (be n1 8 ++ (be f 8 ++ []))):List UInt8).length=24 from by simp [aj]] at bb ⊢
 have bY:=hid V
 clear ar V J aM aG bZ bQ bI bb cl bx bq
 have m3:w6.cell? ⟨gn,3,none⟩=some (.int .u64 (n3:Int)):=by rw [cell_of_row _ _ _ _ 24 (0,0) M.out]; rfl
 go_wp2
 rw [rounds_succ]
 go_wp2_with fail
 refine (row_any 8 n3 8 w6 h3 rfl (by omega)).mono ?_
 rintro e w7 ⟨v7,rfl,ap,z⟩
 have aK:=hid (aL.out.trans (z.mono aL.out.size))
 have aE:=hid ((z.block _ (lt_of_block M.out)).trans M.out)
 have bX:=hid (bY.out.below z (Nat.le_refl _))
 have bO:=hid (bP.out.below z (Nat.le_refl _))
 obtain ⟨B7,d7,rfl,ba,ck,ab,bv⟩:=ap.form
 rw [aj] at ba ⊢
 have bG:=hid ab
 clear ap ab z aL M bY bP ba ck
 go_wp2_with fail
 refine (dj B7 L6 d7 e6 (be n3 8) (be n2 8 ++ (be n1 8 ++ (be f 8 ++ []))) 8 24 (aj _ _) (by simp [aj]) w7 bG.out bX.out bv bp (by omega)).mono ?_
 rintro e w8 ⟨v8,rfl,ao,I⟩
 have cw:=hid (aK.out.trans (I.mono aK.out.size))
 have cx:=hid ((I.block _ (lt_of_block aE.out)).trans aE.out)
 have cu:=hid (bO.out.below I (Nat.le_refl _))
 obtain ⟨L8,e8,rfl,aW,cj,U,ct⟩:=ao.form
 rw [show ((be n3 8 ++ (be n2 8 ++ (be n1 8 ++ (be f 8 ++ [])))):List UInt8).length=32 from by simp [aj]] at aW ⊢
 have cv:=hid U
 clear ao U I aK aE bX bO bG aW cj bv bp
 go_wp2
 rw [rounds_succ]
 go_wp2_with fail
 refine (dj A L8 c e8 bs _ bs.length 32 rfl (by simp [aj]) w8 cu.out cv.out hA ct (by omega)).mono ?_
 intro e w9 ho
 have HO:=hid (ho.trans cw.out)
 clear ho
 obtain ⟨v9,rfl,aU,cs⟩:=HO.out
 clear aU cs
 go_wp2
 go_ret
 exact HO.out
end
end Go.Proofs.YtmapkbdjnnionaaGreatDoor
