import Derived.Test.YtmapkbdjnnionaaGreatDoorPzBD
import Derived.Test.YtmapkbdjnnionaaGreatDoorPzBO
import Derived.Test.YtmapkbdjnnionaaGreatDoorPzBL
set_option maxRecDepth 100000
set_option maxHeartbeats 8000000
set_option linter.all false
namespace Go.Proofs.YtmapkbdjnnionaaGreatDoor
open Go.RowKit
def Ns (w:World) (l:List (Nat×Nat)) (bl:List (Nat×List UInt8)) (w':World):Prop:=ae w l w'∧∀ p∈bl,Bt w' p.1 28 p.2
section
variable {w w' w2:World} {l:List (Nat×Nat)} {bl:List (Nat×List UInt8)}
theorem Ns.on (h:Ns w l bl w') (hb:Below w'.heap.size w' w2):Ns w l bl w2:=⟨h.1.on hb,fun p f=>(h.2 p f).on hb⟩
theorem Ns.old (h:Ns w l bl w'):Below w.heap.size w w':=h.1.1
theorem Ns.cell (h:Ns w l bl w') (g x:Nat) (f:(g,x)∈l):w'.cell? ⟨g,0,none⟩=some (.int .u64 (wd x 0:Int))∧w'.cell? ⟨g,1,none⟩=some (.int .u64 (wd x 1:Int))∧w'.cell? ⟨g,2,none⟩=some (.int .u64 (wd x 2:Int))∧w'.cell? ⟨g,3,none⟩=some (.int .u64 (wd x 3:Int)):=h.1.cell g x f
theorem Ns.lt (h:Ns w l bl w') (g x:Nat) (f:(g,x)∈l):g<w'.heap.size:=h.1.lt g x f
theorem Ns.frozen (h:Ns w l bl w') (g x:Nat) (f:(g,x)∈l) (i:Nat):w'.frozen? ⟨g,i,none⟩=false:=h.1.frozen g x f i
theorem Ns.new (h:Ns w l bl w') (x:Nat):Ns w ((w'.heap.size,x) :: l) bl (w'.alloc (.cells (ai x) 24)):=⟨h.1.new x,fun p f=>(h.2 p f).on ((Below.refl _ _).alloc (Nat.le_refl _) _)⟩
theorem Ns.bt (h:Ns w l bl w') (g:Nat) (x:List UInt8) (f:(g,x)∈bl):Bt w' g 28 x:=h.2 _ f
theorem ns_of {f:FuncId} {z:Array Value} {v:Value} (hc:Calls Tryz.prog f z w' fun e w2=>e=.returned v∧Below w'.heap.size w' w2) (h:Ns w l bl w'):Calls Tryz.prog f z w' fun e w2=>e=.returned v∧Ns w l bl w2 :=
 hc.mono fun e w2 ⟨he,hb⟩=>⟨he,h.on hb⟩
theorem Ns.setx (h:Ns w l bl w') (x:List UInt8):∃ w2,(w'.alloc (.cells #[.int .u8 0,.int .u8 0,.int .u8 0,.int .u8 0,.int .u8 0,.int .u8 0,.int .u8 0,.int .u8 0,.int .u8 0,.int .u8 0,.int .u8 0,.int .u8 0,.int .u8 0,.int .u8 0,.int .u8 0,.int .u8 0,.int .u8 0,.int .u8 0,.int .u8 0,.int .u8 0,.int .u8 0,.int .u8 0,.int .u8 0,.int .u8 0,.int .u8 0,.int .u8 0,.int .u8 0,.int .u8 0,.int .u8 0,.int .u8 0,.int .u8 0,.int .u8 0] 28)).setRow w'.heap.size (au x).toArray=w2∧Hid (Ns w l ((w'.heap.size,x) :: bl) w2):=by
 refine ⟨_,rfl,?_⟩
 rw [World.setRow_alloc_new]
 have z:=h.on ((Below.refl w'.heap.size w').alloc (Nat.le_refl _) (.cells (au x).toArray 28))
 refine hid ⟨z.1,fun p f=>?_⟩
 rcases List.mem_cons.1 f with rfl | f
 ·exact heap_alloc_new _ _
 ·exact z.2 p f
end
theorem rgl_b (r:List UInt8) (g t:Nat) (w:World) (z:r.length=32) (f:Bt w g 28 r) (L:aF r=t) :
  Calls Tryz.prog 69 #[.slice (some ⟨g,0,none⟩) 32 32] w fun e w2=>e=.returned (.tuple #[af t,.int .i64 0])∧Below w.heap.size w w2:=by
 have E:Rd w (some ⟨g,0,none⟩) r:=by
  intro M
  refine ⟨g,0,rfl,lt_of_block f,fun j F=>?_⟩
  rw [cell_of_row _ _ _ _ 28 _ f]
  simp [au,F]
 have D:=rgetLong_ok (some ⟨g,0,none⟩) 32 r w E (by omega) (by decide) (by omega)
 rw [z] at D
 refine D.mono ?_
 rintro e w2 ⟨rfl,hb⟩
 obtain ⟨K,J,I,G⟩:=words32 r z
 subst L
 refine ⟨?_,hb⟩
 unfold af
 rw [← K,← J,← I,← G]
 try rfl
theorem refas_r (z:ByteArray) (E:Option Addr) (f F:Nat) (A:Nat→Option Addr) (L C:Nat→Nat) (D:Nat→List UInt8) (r:List UInt8) (w:World) (K:Rws w E f A L C D) (J:f≤1000) (M:∀ r,r<f→L r≤1048576) (G:z.size≤1000000) (I:sha (cG z.data.toList f D f)=r) :
  Calls Tryz.prog 68 #[.string z,.slice E f F] w fun e w'=>e=.returned (.agg (au r).toArray)∧Below w.heap.size w w':=by
 subst I
 exact refAs_any z E f F A L C D w K J M G
theorem dH {ops:Array Oper} {f:List Oper} {o:Oper} {a:Act} {w:World} {Q:Exit→Act→World→Prop} (D:o.guard=none) (s x:Operand)
  (J:o.op=.call { callee:=.builtin .append,args:=#[s,x],argTypes:=#[79,79] }) (z:o.type=79) (F E:Value) (I:a.eval s=F) (G:a.eval x=E) (v':Value) (w':World)
  (M:(Builtin.append_ #[79,79] 79 #[F,E]).run Tryz.prog w=.ok v' w') (h:wpList Tryz.prog ops Q f (a.put o.dst v') w'):wpList Tryz.prog ops Q (o :: f) a w:=by
 refine wpList_plain D fun K L=>?_
 unfold Oper.wp
 simp [execOp,J,z,resolve,invoke,builtin,I,G,M,Result.andThen]
 exact L _ _ h
theorem rows_one (x:UInt8) (w:World) (F:Option Addr) (z I:Nat) (A:Nat→Option Addr) (L C:Nat→Nat) (G:Nat→List UInt8) (U:Rws w F z A L C G) (hn:z+1≤1000) (hc:z≤I) (h0:F=none→I=0) :
  ∃ v f g c E,Hid ((Builtin.append_ #[79,79] 79 #[.slice none 0 0,.slice F z I]).run Tryz.prog w=.ok v f)∧
   Hid ((Builtin.append_ #[79,79] 79 #[v,.slice (some ⟨f.heap.size+1,0,none⟩) 1 1]).run Tryz.prog ((f.alloc (.cells #[.int .u8 (x.toNat:Int)] 5)).alloc (.cells #[.slice (some ⟨f.heap.size,0,none⟩) 1 1] 66))=.ok (.slice (some ⟨g,0,none⟩) (z+1) c) E)∧
   Hid (Below w.heap.size w E)∧Hid (z+1≤c)∧Hid (Rws E (some ⟨g,0,none⟩) (z+1) (nx z A (some ⟨f.heap.size,0,none⟩)) (nx z L 1) (nx z C 1) (nx z G [x])):=by
 have sz:∀ (u:World) (o:Obj),(u.alloc o).heap.size=u.heap.size+1:=fun u o=>Array.size_push _
 obtain ⟨v,f,bb,R,hb⟩:=rows_all w F z I A L C G U (by omega) hc h0
 have b1:=(Below.refl f.heap.size f).alloc (Nat.le_refl _) (.cells #[.int .u8 (x.toNat:Int)] 5)
 have J:=(Below.refl _ (f.alloc (.cells #[.int .u8 (x.toNat:Int)] 5))).alloc (Nat.le_refl _) (.cells #[.slice (some ⟨f.heap.size,0,none⟩) 1 1] 66)
 have Y:=av (heap_alloc_new f (.cells #[.int .u8 (x.toNat:Int)] 5)) _ J
 have O:=cell_of_row _ _ 0 _ 66 (0,0) (heap_alloc_new (f.alloc (.cells #[.int .u8 (x.toNat:Int)] 5)) (.cells #[.slice (some ⟨f.heap.size,0,none⟩) 1 1] 66))
 rw [sz] at O
 have V:=rowo_below (rowo_below R b1) J
 have M:=(hb.trans (b1.mono hb.size)).trans (J.mono (Nat.le_trans hb.size b1.size))
 obtain ⟨g,c,E,D,Z,_,dm,K,_⟩:=rows_put w _ w.heap.size F v z A L C G (Nat.le_refl _) M (Nat.le_trans hb.size (Nat.le_trans b1.size J.size)) V U (by omega) (f.heap.size+1) 1 f.heap.size x O Y (fun e=>Nat.lt_irrefl _ (World.ownsRow.lt R _ e).2)
 exact ⟨v,f,g,c,E,hid bb,hid D,hid Z,hid dm,hid K⟩
theorem rwide_both (lo hi m s:Nat) (w:World) (z:lo<2 ^ 256) (D:hi<2 ^ 256) (F:m<2 ^ 256) (f:m≠0) (E:wid lo hi m=s) :
  Calls Tryz.prog 70 #[af lo,af hi,af m] w fun r w2=>r=.returned (.tuple #[af s,.int .i64 0])∧Below w.heap.size w w2:=by
 subst E
 exact rwide_any lo hi m _ w z D F f (by unfold wid; first | rfl | (congr 1; omega) | (rw [Nat.add_comm]))
theorem rnumber_some (st:ByteArray) (a0:Option Addr) (F c0:Nat) (A:Nat→Option Addr) (L C:Nat→Nat) (xs:Nat→List UInt8) (m s:Nat) (w:World) (hm:m<2 ^ 256) (bk:m≠0) (hR:Rws w a0 F A L C xs) (hn:F+1≤1000) (hL:∀ r,r<F→L r≤1048576) (hs:st.size≤1000000) (hc:F≤c0) (h0:a0=none→c0=0)
  (hv:nof st.data.toList F xs m=s) :
  Calls Tryz.prog 44 #[af m,.string st,.slice a0 F c0] w fun r w'=>r=.returned (.tuple #[af s,.int .i64 0])∧Below w.heap.size w w':=by
 obtain ⟨D,J⟩:∃ z,sha (cG st.data.toList (F+1) (nx F xs [1]) (F+1))=z:=⟨_,rfl⟩
 obtain ⟨lo,bm⟩:∃ z,aF D=z:=⟨_,rfl⟩
 have U:half st.data.toList F xs 1=lo:=by rw [← bm,← J]; rfl
 have bG:=hid (U ▸ half_lt _ _ _ _:lo<2 ^ 256)
 have ay:=hid (show D.length=32 by rw [← J]; exact dD _)
 have bS:=hid J
 have bQ:=hid bm
 obtain ⟨E,K⟩:∃ z,sha (cG st.data.toList (F+1) (nx F xs [0]) (F+1))=z:=⟨_,rfl⟩
 obtain ⟨hi,bn⟩:∃ z,aF E=z:=⟨_,rfl⟩
 have V:half st.data.toList F xs 0=hi:=by rw [← bn,← K]; rfl
 have bI:=hid (V ▸ half_lt _ _ _ _:hi<2 ^ 256)
 have az:=hid (show E.length=32 by rw [← K]; exact dD _)
 have bU:=hid K
 have bR:=hid bn
 unfold nof at hv
 rw [U,V] at hv
 have q0:=reqn_no m hm bk
 have HM:=hid hm
 have bX:=hid bk
 have HN:=hid hn
 have bA:=hid (nx_le F L hL)
 have HS:=hid hs
 have HC:=hid hc
 have bP:=hid h0
 have HV:=hid hv
 have HR:=hid hR
 clear hm bk hn hL hs hc h0 hv hR U V J K bm bn
 have H0:=hid ((((ae.refl w).new m).zero).perm (l':=[(w.heap.size+1,0),(w.heap.size,m)]) (by simp))
 have DZ:=hid (show w.heap.size≤w.heap.size+1 by omega)
 have DN:=hid (show ∀ p∈[(w.heap.size,m)],p.1≠w.heap.size+1 by simp; try omega)
 go_enter Tryz.func44,Tryz.ntmps44
 go_upto_region 1 with fail
 generalize (w.alloc (.cells (ai m) 24)).alloc (.cells #[.int .u64 0,.int .u64 0,.int .u64 0,.int .u64 0] 24)=w0 at *
 generalize w.heap.size+1=G at *
 generalize bd:w.heap.size=Z at *
 obtain ⟨aN,aM,aL,aK⟩:=H0.out.cell (Z) (m) (by simp)
 have ax:=H0.out.lt (Z) (m) (by simp)
 have aJ:=Nat.le_of_lt ax
 go_upto_region 3 with fail
 clear aN aM aL aK ax aJ
 have N0:=hid (show Ns w [(Z,m),(G,0)] [] w0 from ⟨H0.out.perm (by simp),fun p hp=>by cases hp⟩)
 clear H0
 have ap:=hid ((bB HR.out) _ N0.out.old)
 obtain ⟨cf,ca,ck,bW,bu,R1,R2,aA,bo,ar⟩:=rows_one 0 w0 a0 F c0 A L C xs ap.out HN.out HC.out bP.out
 go_wp2_with (at_builtin; first | (refine dH rfl (.const (.slice none 0 0)) (.tmp 19) rfl rfl _ _ rfl rfl _ _ R1.out ?_) | (refine dH rfl (.tmp 20) (.tmp 22) rfl rfl _ _ rfl rfl _ _ R2.out ?_))
 have NA:=hid (N0.out.on aA.out)
 clear R1 R2 aA ap N0
 refine (ns_of (refas_r st _ (F+1) bW _ _ _ _ E bu ar.out HN.out bA.out HS.out bU.out) NA.out).mono ?_
 rintro e bb ⟨rfl,h⟩
 have NB:=hid h
 clear h NA ar bo
 obtain ⟨bp,hw,Nhi⟩:=NB.out.setx E
 have Y:=hi44 E az.out
 have R:=ho32 E az.out
 go_upto_region 4 with (first | (refine wpList_store_row rfl 28 (.tmp 8) (.tmp 24) rfl bb.heap.size (au E).toArray rfl rfl 28 _ (heap_alloc_new _ _) Y.out R.out (bF _) ?_; rw [hw]))
 clear hw Y R NB
 generalize bb.heap.size=bz at *
 have ap:=hid ((bB HR.out) _ Nhi.out.old)
 obtain ⟨cd,bZ,cj,bV,bq,R1,R2,aA,bo,ar⟩:=rows_one 1 bp a0 F c0 A L C xs ap.out HN.out HC.out bP.out
 go_wp2_with (at_builtin; first | (refine dH rfl (.const (.slice none 0 0)) (.tmp 26) rfl rfl _ _ rfl rfl _ _ R1.out ?_) | (refine dH rfl (.tmp 27) (.tmp 29) rfl rfl _ _ rfl rfl _ _ R2.out ?_))
 have NA:=hid (Nhi.out.on aA.out)
 clear R1 R2 aA ap Nhi
 refine (ns_of (refas_r st _ (F+1) bV _ _ _ _ D bq ar.out HN.out bA.out HS.out bS.out) NA.out).mono ?_
 rintro e ba ⟨rfl,h⟩
 have NB:=hid h
 clear h NA ar bo
 obtain ⟨bY,hw,Nlo⟩:=NB.out.setx D
 have Y:=hi44 D ay.out
 have R:=ho32 D ay.out
 go_wp2_with (first | (refine wpList_store_row rfl 28 (.tmp 9) (.tmp 31) rfl ba.heap.size (au D).toArray rfl rfl 28 _ (heap_alloc_new _ _) Y.out R.out (bF _) ?_; rw [hw]))
 clear hw Y R NB
 generalize ba.heap.size=bx at *
 refine (ns_of (rgl_b E bz hi _ az.out (Nlo.out.bt bz E (by simp)) bR.out) Nlo.out).mono ?_
 rintro e w21 ⟨rfl,h⟩
 have bO:=hid h
 clear h Nlo
 go_upto_region 6 with fail
 have aB:=hid (bO.out.new hi)
 clear bO
 generalize w21.alloc (.cells (ai hi) 24)=cc at *
 generalize w21.heap.size=bv at *
 go_wp2_with fail
 refine (ns_of (rgl_b D bx lo _ ay.out (aB.out.bt bx D (by simp)) bQ.out) aB.out).mono ?_
 rintro e w22 ⟨rfl,h⟩
 have bN:=hid h
 clear h aB
 go_upto_region 7 with fail
 have f:=hid (bN.out.new lo)
 clear bN
 generalize w22.alloc (.cells (ai lo) 24)=cb at *
 generalize w22.heap.size=g12 at *
 obtain ⟨aW,aU,aT,aS⟩:=f.out.cell (g12) (lo) (by simp)
 have O:=f.out.lt (g12) (lo) (by simp)
 have aR:=Nat.le_of_lt O
 obtain ⟨aQ,aI,aG,aE⟩:=f.out.cell (bv) (hi) (by simp)
 have M:=f.out.lt (bv) (hi) (by simp)
 have aC:=Nat.le_of_lt M
 obtain ⟨ao,an,al,ad⟩:=f.out.cell (Z) (m) (by simp)
 have I:=f.out.lt (Z) (m) (by simp)
 have ab:=Nat.le_of_lt I
 go_wp2_with fail
 clear aW aU aT aS O aR aQ aI aG aE M aC ao an al ad I ab
 refine (ns_of (rwide_both lo hi m s _ bG.out bI.out HM.out bX.out HV.out) f.out).mono ?_
 rintro e w23 ⟨rfl,h⟩
 have bK:=hid h
 clear h f
 have HE:=hid bK.out.1
 clear bK
 obtain ⟨z0,z1,z2,z3⟩:=HE.out.cell G 0 (by simp)
 have zl:=HE.out.lt G 0 (by simp)
 have zf:=HE.out.frozen G 0 (by simp)
 have HZ:=hid (HE.out.set G 0 (s) [] (by simp) (by rw [bd]; exact DZ.out) (by simp))
 go_wp2
 clear z0 z1 z2 z3 zl zf
 try rw [Exit.noGoto_ret]
 change bodyPost _ _ _ _ _ (fil w23 G (s))
 generalize fil w23 G (s)=wz at *
 obtain ⟨k0,k1,k2,k3⟩:=HZ.out.cell G (s) (by simp)
 exact bodyPost_ret (v:=.tuple #[af (s),.int .i64 0]) (by simp [results,Tryz.results44,go_sem,k0,k1,k2,k3]) rfl ⟨rfl,HZ.out.1⟩
theorem rnumber_none (U:ByteArray) (a0:Option Addr) (V c0:Nat) (w:World) :
  Calls Tryz.prog 44 #[af 0,.string U,.slice a0 V c0] w fun r w'=>r=.returned (.tuple #[af 0,.int .i64 1])∧Below w.heap.size w w':=by
 obtain ⟨m,G⟩:∃ z,z=0:=⟨0,rfl⟩
 have q0:=reqn_yes
 rw [← G] at q0 ⊢
 have I:=hid G
 clear G
 have E:=hid ((((ae.refl w).new m).zero).perm (l':=[(w.heap.size+1,0),(w.heap.size,m)]) (by simp))
 have DZ:=hid (show w.heap.size≤w.heap.size+1 by omega)
 have DN:=hid (show ∀ p∈[(w.heap.size,m)],p.1≠w.heap.size+1 by simp; try omega)
 go_enter Tryz.func44,Tryz.ntmps44
 go_upto_region 1 with fail
 generalize (w.alloc (.cells (ai m) 24)).alloc (.cells #[.int .u64 0,.int .u64 0,.int .u64 0,.int .u64 0] 24)=w0 at *
 generalize w.heap.size+1=f at *
 generalize D:w.heap.size=F at *
 obtain ⟨aN,aM,aL,aK⟩:=E.out.cell (F) (m) (by simp)
 have ax:=E.out.lt (F) (m) (by simp)
 have aJ:=Nat.le_of_lt ax
 obtain ⟨R,O,M,z3⟩:=E.out.cell f 0 (by simp)
 have K:=E.out.lt f 0 (by simp)
 have L:=E.out.frozen f 0 (by simp)
 have J:=hid (E.out.set f 0 (0) [] (by simp) (by rw [D]; exact DZ.out) (by simp))
 go_wp2
 clear R O M z3 K L
 try rw [Exit.noGoto_ret]
 change bodyPost _ _ _ _ _ (fil w0 f (0))
 generalize fil w0 f (0)=wz at *
 obtain ⟨k0,Z,Y,k3⟩:=J.out.cell f (0) (by simp)
 exact bodyPost_ret (v:=.tuple #[af (0),.int .i64 1]) (by simp [results,Tryz.results44,go_sem,k0,Z,Y,k3]) rfl ⟨by rw [I.out],J.out.1⟩
theorem rnumber_any (D:ByteArray) (F:Option Addr) (f E:Nat) (A:Nat→Option Addr) (L C:Nat→Nat) (J:Nat→List UInt8) (m s:Nat) (e:Int) (w:World) (O:m<2 ^ 256) (R:Rws w F f A L C J) (M:f+1≤1000) (U:∀ r,r<f→L r≤1048576) (K:D.size≤1000000) (hc:f≤E) (V:F=none→E=0)
  (G:(if m=0 then 0 else nof D.data.toList f J m)=s) (I:(if m=0 then 1 else 0:Int)=e) :
  Calls Tryz.prog 44 #[af m,.string D,.slice F f E] w fun r w'=>r=.returned (.tuple #[af s,.int .i64 e])∧Below w.heap.size w w':=by
 by_cases z:m=0
 ·subst z
  rw [if_pos rfl] at G I
  subst G; subst I
  exact rnumber_none D F f E w
 ·rw [if_neg z] at G I
  subst I
  exact rnumber_some D F f E A L C J m s w O z R M U K hc V G
end Go.Proofs.YtmapkbdjnnionaaGreatDoor
