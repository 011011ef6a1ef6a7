import Derived.Test.YtmapkbdjnnionaaGreatDoorPzAQ
import Derived.Laws.EntriesVeiled
import Derived.Test.YtmapkbdjnnionaaGreatDoorPzAH
set_option maxRecDepth 100000
set_option maxHeartbeats 8000000
set_option linter.all false
namespace Go.Proofs.YtmapkbdjnnionaaGreatDoor
section
open Go.RowKit
theorem wid_mul (a b m:Nat):wid (a * b % 2 ^ 256) (a * b / 2 ^ 256) m=a * b % m:=by
 unfold wid; rw [Nat.mod_add_div]
theorem ae.one {w:World} {g x:Nat} (h:Nm w g x):ae w [(g,x)] w:=⟨Below.refl _ _,by simpa using h⟩
def R3 (w:World) (g t:Nat) (a b c:Value):Prop:=w.heap[g]?=some (.cells #[a,b,c] t (0,0))
theorem R3.lt {w:World} {g t:Nat} {a b c:Value} (h:R3 w g t a b c):g<w.heap.size:=lt_of_block h
theorem R3.on {w w':World} {g t:Nat} {a b c:Value} (h:R3 w g t a b c) (hb:Below w.heap.size w w'):R3 w' g t a b c:=(hb.block g h.lt).trans h
theorem R3.cell {w:World} {g t:Nat} {a b c:Value} (h:R3 w g t a b c):w.cell? ⟨g,0,none⟩=some a∧w.cell? ⟨g,1,none⟩=some b∧w.cell? ⟨g,2,none⟩=some c:=by
 refine ⟨?_,?_,?_⟩ <;> (rw [cell_of_row w g _ _ t (0,0) h]; rfl)
theorem R3.frozen {w:World} {g t:Nat} {a b c:Value} (h:R3 w g t a b c) (i:Nat):w.frozen? ⟨g,i,none⟩=false:=by
 unfold R3 at h; simp [World.frozen?,h]
theorem R3.new (w:World) (t:Nat) (a b c:Value):R3 (w.alloc (.cells #[a,b,c] t)) w.heap.size t a b c:=heap_alloc_new _ _
abbrev fil3 (w:World) (g:Nat) (a b c:Value):World:=((w.setCell ⟨g,0,none⟩ a).setCell ⟨g,1,none⟩ b).setCell ⟨g,2,none⟩ c
theorem R3.fil {w:World} {g t:Nat} {x y z:Value} (h:R3 w g t x y z) (a b c:Value):R3 (fil3 w g a b c) g t a b c:=by
 unfold R3 at h ⊢; simp [World.setCell,Array.getElem?_modify,h]
theorem ae.fil3 {w w':World} {l:List (Nat×Nat)} {g:Nat} {a b c:Value} (h:ae w l w') (D:w.heap.size≤g) (z:∀ p∈l,p.1≠g):ae w l (fil3 w' g a b c):=by
 refine ⟨((h.1.setCell (p:=⟨g,0,none⟩) D _).setCell (p:=⟨g,1,none⟩) D _).setCell (p:=⟨g,2,none⟩) D _,fun p f=>?_⟩
 exact (((h.2 p f).fr.setOther _ (z p f)).setOther _ (z p f)).setOther _ (z p f)
theorem ae.alloc {w w':World} {l:List (Nat×Nat)} (h:ae w l w') (o:Obj):ae w l (w'.alloc o):=⟨bal h.1 o,fun p f=>(h.2 p f).alloc o⟩
abbrev ring (g:Nat):Value:=.agg #[.func (.func 62) #[] #[.pointer (some ⟨g,0,none⟩)],.func (.func 64) #[] #[.pointer (some ⟨g,0,none⟩)],.func (.func 65) #[] #[.pointer (some ⟨g,0,none⟩)]]
theorem by_any (m:Nat) (w:World):Calls Tryz.prog 43 #[af m] w fun e w'=>e=.returned (ring w.heap.size)∧ae w [(w.heap.size,m)] w':=by
 have Z:∀ (J:Fn) (first z:Array Value) (w:World),(Instr.makeFunc J first z).run Tryz.prog w=.ok (.func J first z) w:=fun _ _ _ _=>rfl
 have HE:=hid ((ae.refl w).new m)
 go_enter Tryz.func43,Tryz.ntmps43
 go_upto_region 1 with fail
 have D:=hid (R3.new (w.alloc (.cells (ai m) 24)) 63 .nilFunc .nilFunc .nilFunc)
 have I:=hid (HE.out.alloc (.cells #[.nilFunc,.nilFunc,.nilFunc] 63))
 have G:=hid (show w.heap.size≤(w.alloc (.cells (ai m) 24)).heap.size∧∀ p∈[(w.heap.size,m)],p.1≠(w.alloc (.cells (ai m) 24)).heap.size by simp)
 simp only [show ∀ (w:World) (o:Obj),(w.alloc o).heap.size=w.heap.size+1 from fun w o=>Array.size_push _] at D G
 generalize (w.alloc (.cells (ai m) 24)).alloc (.cells #[.nilFunc,.nilFunc,.nilFunc] 63)=w0 at *
 generalize hr:w.heap.size+1=F at *
 generalize E:w.heap.size=f at *
 obtain ⟨R,O,M⟩:=D.out.cell
 have L:=D.out.frozen
 have K:=D.out.lt
 go_wp2
 clear R O M L K
 have HZ:=hid (I.out.fil3 (g:=F) (a:=.func (.func 62) #[] #[.pointer (some ⟨f,0,none⟩)]) (b:=.func (.func 64) #[] #[.pointer (some ⟨f,0,none⟩)]) (c:=.func (.func 65) #[] #[.pointer (some ⟨f,0,none⟩)]) (by rw [E]; exact G.out.1) G.out.2)
 have HY:=hid (D.out.fil (.func (.func 62) #[] #[.pointer (some ⟨f,0,none⟩)]) (.func (.func 64) #[] #[.pointer (some ⟨f,0,none⟩)]) (.func (.func 65) #[] #[.pointer (some ⟨f,0,none⟩)]))
 change bodyPost _ _ _ _ _ (fil3 w0 F _ _ _)
 generalize fil3 w0 F _ _ _=wz at *
 obtain ⟨Y,V,U⟩:=HY.out.cell
 exact bodyPost_ret (v:=ring f) (by simp [results,Tryz.results43,go_sem,Y,V,U]) rfl ⟨by rw [E],by rw [E]; exact HZ.out⟩
theorem radd_yes (a b m g:Nat) (w:World) (hg:Nm w g m) (ha:a<m) (hb:b<m) (K:m<2 ^ 256) (E:(a+b) / 2 ^ 256<cM ((a+b) % 2 ^ 256) m):Calls Tryz.prog 62 #[af a,af b,.pointer (some ⟨g,0,none⟩)] w fun e w'=>e=.returned (af ((a+b) % m))∧Below w.heap.size w w':=by
 have HG:=hid (ae.one hg)
 obtain ⟨s,O⟩:∃ z,(a+b) % 2 ^ 256=z:=⟨_,rfl⟩
 obtain ⟨k,Y⟩:∃ z,(a+b) / 2 ^ 256=z:=⟨_,rfl⟩
 obtain ⟨d,ed⟩:∃ z,dif s m=z:=⟨_,rfl⟩
 obtain ⟨t,V⟩:∃ z,cM s m=z:=⟨_,rfl⟩
 have U:=round_add ha hb K O ed
 rw [Y,V] at U
 rw [O,Y,V] at E
 have J:s<2 ^ 256:=by rw [← O]; exact Nat.mod_lt _ (Nat.two_pow_pos _)
 have SL:=hid J
 have A1:=hid (Nat.lt_trans ha K)
 have B1:=hid (Nat.lt_trans hb K)
 have M1:=hid K
 have E1:=hid O
 have E2:=hid (show (((a+b) / 2 ^ 256:Nat):Int)=(k:Int) by rw [Y])
 have E3:=hid ed
 have E4:=hid (show ((cM s m:Nat):Int)=(t:Int) by rw [V])
 have ad:(k:Int)<(t:Int):=by omega
 rw [if_pos E] at U
 have HR:=hid U
 clear U O Y ed V J ha hb K E hg
 have G:=hid (((((HG.out).new a).new b).zero).perm (l':=[(w.heap.size+1+1,0),(w.heap.size+1,b),(w.heap.size,a),(g,m)]) (by simp))
 have DZ:=hid (show w.heap.size≤w.heap.size+1+1 by omega)
 go_enter Tryz.func62,Tryz.ntmps62
 go_wp2_with fail
 generalize ((w.alloc (.cells (ai a) 24)).alloc (.cells (ai b) 24)).alloc (.cells #[.int .u64 0,.int .u64 0,.int .u64 0,.int .u64 0] 24)=w0 at *
 generalize w.heap.size+1+1=f at *
 generalize w.heap.size+1=L at *
 generalize D:w.heap.size=M at *
 obtain ⟨aN,aM,aL,aK⟩:=G.out.cell (M) (a) (by simp)
 have ax:=G.out.lt (M) (a) (by simp)
 have aJ:=Nat.le_of_lt ax
 obtain ⟨bZ,bX,bW,bV⟩:=G.out.cell (L) (b) (by simp)
 have bd:=G.out.lt (L) (b) (by simp)
 have bU:=Nat.le_of_lt bd
 go_wp2_with fail
 clear aN aM aL aK ax aJ bZ bX bW bV bd bU
 refine (add_at a b s k G.out A1.out B1.out E1.out E2.out).mono ?_
 rintro e w1 ⟨rfl,h⟩
 have Z:=hid h
 clear h G
 obtain ⟨aU,aT,aS,aR⟩:=Z.out.cell (g) (m) (by simp)
 have ay:=Z.out.lt (g) (m) (by simp)
 have aQ:=Nat.le_of_lt ay
 go_wp2_with fail
 clear aU aT aS aR ay aQ
 have R:=hid (Z.out.new s)
 clear Z
 generalize w1.alloc (.cells (ai s) 24)=ab at *
 generalize w1.heap.size=g6 at *
 refine (sub_at s m d t R.out SL.out M1.out E3.out E4.out).mono ?_
 rintro e w2 ⟨rfl,h⟩
 have H2:=hid h
 clear h R
 go_upto_region 3 with fail
 have F:=hid (H2.out.new d)
 clear H2
 generalize w2.alloc (.cells (ai d) 24)=I at *
 generalize w2.heap.size=g8 at *
 obtain ⟨bq,bp,bo,bn⟩:=F.out.cell (g6) (s) (by simp)
 have aC:=F.out.lt (g6) (s) (by simp)
 have bm:=Nat.le_of_lt aC
 obtain ⟨z0,z1,z2,z3⟩:=F.out.cell f 0 (by simp)
 have zl:=F.out.lt f 0 (by simp)
 have zf:=F.out.frozen f 0 (by simp)
 have HZ:=hid (F.out.set f 0 (s) [] (by simp) (by rw [D]; exact DZ.out) (by simp))
 go_wp2
 clear z0 z1 z2 z3 zl zf
 try rw [Exit.noGoto_ret]
 change bodyPost _ _ _ _ _ (fil I f (s))
 generalize fil I f (s)=wz at *
 obtain ⟨k0,k1,k2,k3⟩:=HZ.out.cell f (s) (by simp)
 exact bodyPost_ret (v:=af (s)) (by simp [results,Tryz.results62,go_sem,k0,k1,k2,k3]) rfl ⟨by rw [← HR.out],HZ.out.1⟩
theorem radd_no (a b m g:Nat) (w:World) (hg:Nm w g m) (ha:a<m) (hb:b<m) (K:m<2 ^ 256) (E:¬ (a+b) / 2 ^ 256<cM ((a+b) % 2 ^ 256) m):Calls Tryz.prog 62 #[af a,af b,.pointer (some ⟨g,0,none⟩)] w fun e w'=>e=.returned (af ((a+b) % m))∧Below w.heap.size w w':=by
 have HG:=hid (ae.one hg)
 obtain ⟨s,O⟩:∃ z,(a+b) % 2 ^ 256=z:=⟨_,rfl⟩
 obtain ⟨k,Y⟩:∃ z,(a+b) / 2 ^ 256=z:=⟨_,rfl⟩
 obtain ⟨d,ed⟩:∃ z,dif s m=z:=⟨_,rfl⟩
 obtain ⟨t,V⟩:∃ z,cM s m=z:=⟨_,rfl⟩
 have U:=round_add ha hb K O ed
 rw [Y,V] at U
 rw [O,Y,V] at E
 have J:s<2 ^ 256:=by rw [← O]; exact Nat.mod_lt _ (Nat.two_pow_pos _)
 have SL:=hid J
 have A1:=hid (Nat.lt_trans ha K)
 have B1:=hid (Nat.lt_trans hb K)
 have M1:=hid K
 have E1:=hid O
 have E2:=hid (show (((a+b) / 2 ^ 256:Nat):Int)=(k:Int) by rw [Y])
 have E3:=hid ed
 have E4:=hid (show ((cM s m:Nat):Int)=(t:Int) by rw [V])
 have ad:¬ (k:Int)<(t:Int):=by omega
 rw [if_neg E] at U
 have HR:=hid U
 clear U O Y ed V J ha hb K E hg
 have G:=hid (((((HG.out).new a).new b).zero).perm (l':=[(w.heap.size+1+1,0),(w.heap.size+1,b),(w.heap.size,a),(g,m)]) (by simp))
 have DZ:=hid (show w.heap.size≤w.heap.size+1+1 by omega)
 go_enter Tryz.func62,Tryz.ntmps62
 go_wp2_with fail
 generalize ((w.alloc (.cells (ai a) 24)).alloc (.cells (ai b) 24)).alloc (.cells #[.int .u64 0,.int .u64 0,.int .u64 0,.int .u64 0] 24)=w0 at *
 generalize w.heap.size+1+1=f at *
 generalize w.heap.size+1=L at *
 generalize D:w.heap.size=M at *
 obtain ⟨aN,aM,aL,aK⟩:=G.out.cell (M) (a) (by simp)
 have ax:=G.out.lt (M) (a) (by simp)
 have aJ:=Nat.le_of_lt ax
 obtain ⟨bZ,bX,bW,bV⟩:=G.out.cell (L) (b) (by simp)
 have bd:=G.out.lt (L) (b) (by simp)
 have bU:=Nat.le_of_lt bd
 go_wp2_with fail
 clear aN aM aL aK ax aJ bZ bX bW bV bd bU
 refine (add_at a b s k G.out A1.out B1.out E1.out E2.out).mono ?_
 rintro e w1 ⟨rfl,h⟩
 have Z:=hid h
 clear h G
 obtain ⟨aU,aT,aS,aR⟩:=Z.out.cell (g) (m) (by simp)
 have ay:=Z.out.lt (g) (m) (by simp)
 have aQ:=Nat.le_of_lt ay
 go_wp2_with fail
 clear aU aT aS aR ay aQ
 have R:=hid (Z.out.new s)
 clear Z
 generalize w1.alloc (.cells (ai s) 24)=ab at *
 generalize w1.heap.size=g6 at *
 refine (sub_at s m d t R.out SL.out M1.out E3.out E4.out).mono ?_
 rintro e w2 ⟨rfl,h⟩
 have H2:=hid h
 clear h R
 go_upto_region 3 with fail
 have F:=hid (H2.out.new d)
 clear H2
 generalize w2.alloc (.cells (ai d) 24)=I at *
 generalize w2.heap.size=g8 at *
 obtain ⟨bq,bp,bo,bn⟩:=F.out.cell (g8) (d) (by simp)
 have aC:=F.out.lt (g8) (d) (by simp)
 have bm:=Nat.le_of_lt aC
 obtain ⟨z0,z1,z2,z3⟩:=F.out.cell f 0 (by simp)
 have zl:=F.out.lt f 0 (by simp)
 have zf:=F.out.frozen f 0 (by simp)
 have HZ:=hid (F.out.set f 0 (d) [] (by simp) (by rw [D]; exact DZ.out) (by simp))
 go_wp2
 clear z0 z1 z2 z3 zl zf
 try rw [Exit.noGoto_ret]
 change bodyPost _ _ _ _ _ (fil I f (d))
 generalize fil I f (d)=wz at *
 obtain ⟨k0,k1,k2,k3⟩:=HZ.out.cell f (d) (by simp)
 exact bodyPost_ret (v:=af (d)) (by simp [results,Tryz.results62,go_sem,k0,k1,k2,k3]) rfl ⟨by rw [← HR.out],HZ.out.1⟩
theorem radd_any (a b m g:Nat) (w:World) (z:Nm w g m) (D:a<m) (hb:b<m) (f:m<2 ^ 256):Calls Tryz.prog 62 #[af a,af b,.pointer (some ⟨g,0,none⟩)] w fun e w'=>e=.returned (af ((a+b) % m))∧Below w.heap.size w w':=by
 by_cases h:(a+b) / 2 ^ 256<cM ((a+b) % 2 ^ 256) m
 ·exact radd_yes a b m g w z D hb f h
 ·exact radd_no a b m g w z D hb f h
theorem rsub_yes (a b m g:Nat) (w:World) (hg:Nm w g m) (ha:a<m) (hb:b<m) (K:m<2 ^ 256) (F:a<b):Calls Tryz.prog 64 #[af a,af b,.pointer (some ⟨g,0,none⟩)] w fun e w'=>e=.returned (af ((a+(m - b)) % m))∧Below w.heap.size w w':=by
 have HG:=hid (ae.one hg)
 obtain ⟨d,ed⟩:∃ z,dif a b=z:=⟨_,rfl⟩
 obtain ⟨t,et⟩:∃ z,cM a b=z:=⟨_,rfl⟩
 have Y:=(round_sub ha hb).resolve_right (by omega)
 rw [if_pos F,ed] at Y
 have M:d<2 ^ 256:=by rw [← ed]; exact dif_lt (Nat.lt_trans ha K) (Nat.lt_trans hb K)
 have DL:=hid M
 have A1:=hid (Nat.lt_trans ha K)
 have B1:=hid (Nat.lt_trans hb K)
 have M1:=hid K
 have E3:=hid ed
 have E4:Hid (((cM a b:Nat):Int)=1):=hid (by unfold cM; rw [if_pos F]; rfl)
 obtain ⟨y,ey⟩:∃ z,(d+m) % 2 ^ 256=z:=⟨_,rfl⟩
 obtain ⟨k,ek⟩:∃ z,(d+m) / 2 ^ 256=z:=⟨_,rfl⟩
 rw [ey] at Y
 have E5:=hid ey
 have E6:=hid (show (((d+m) / 2 ^ 256:Nat):Int)=(k:Int) by rw [ek])
 have HR:=hid Y
 clear Y ed et M ha hb K F hg ey ek
 have L:=hid (((((HG.out).new a).new b).zero).perm (l':=[(w.heap.size+1+1,0),(w.heap.size+1,b),(w.heap.size,a),(g,m)]) (by simp))
 have DZ:=hid (show w.heap.size≤w.heap.size+1+1 by omega)
 go_enter Tryz.func64,Tryz.ntmps64
 go_wp2_with fail
 generalize ((w.alloc (.cells (ai a) 24)).alloc (.cells (ai b) 24)).alloc (.cells #[.int .u64 0,.int .u64 0,.int .u64 0,.int .u64 0] 24)=w0 at *
 generalize w.heap.size+1+1=f at *
 generalize w.heap.size+1=O at *
 generalize E:w.heap.size=R at *
 obtain ⟨aN,aM,aL,aK⟩:=L.out.cell (R) (a) (by simp)
 have ax:=L.out.lt (R) (a) (by simp)
 have aJ:=Nat.le_of_lt ax
 obtain ⟨bZ,bX,bW,bV⟩:=L.out.cell (O) (b) (by simp)
 have bd:=L.out.lt (O) (b) (by simp)
 have bU:=Nat.le_of_lt bd
 go_wp2_with fail
 clear aN aM aL aK ax aJ bZ bX bW bV bd bU
 refine (sub_at a b d 1 L.out A1.out B1.out E3.out E4.out).mono ?_
 rintro e w1 ⟨rfl,h⟩
 have V:=hid h
 clear h L
 have HF:=hid V.out.fresh
 obtain ⟨aU,aT,aS,aR⟩:=V.out.cell (g) (m) (by simp)
 have ay:=V.out.lt (g) (m) (by simp)
 have aQ:=Nat.le_of_lt ay
 go_wp2_with fail
 clear aU aT aS aR ay aQ
 have U:=hid (V.out.new d)
 clear V
 generalize w1.alloc (.cells (ai d) 24)=ab at *
 generalize w1.heap.size=D at *
 refine (add_at d m y k U.out DL.out M1.out E5.out E6.out).mono ?_
 rintro e w2 ⟨rfl,h⟩
 have J:=hid h
 clear h U
 obtain ⟨bq,bp,bo,bn⟩:=J.out.cell (D) (d) (by simp)
 have aC:=J.out.lt (D) (d) (by simp)
 have bm:=Nat.le_of_lt aC
 obtain ⟨cZ,cY,cX,cW⟩:=J.out.cell (f) (0) (by simp)
 have bG:=J.out.lt (f) (0) (by simp)
 have cV:=Nat.le_of_lt bG
 have I:=J.out.frozen D d (by simp)
 have G:=J.out.frozen f 0 (by simp)
 have d1:f≠D:=HF.out.2 (f,0) (by simp)
 have d2:D≠f:=Ne.symm d1
 have HZ:=hid ((J.out.set D d y [(f,0)] (by simp) HF.out.1 (fun p Z=>⟨by simp at Z; subst Z; simp,HF.out.2 p (by simp at Z; subst Z; simp)⟩)).set f 0 y [] (by simp) (by rw [E]; exact DZ.out) (by simp))
 go_wp2
 clear bq bp bo bn aC bm cZ cY cX cW bG cV I G
 try rw [Exit.noGoto_ret]
 change bodyPost _ _ _ _ _ (fil (fil w2 D y) f y)
 generalize fil (fil w2 D y) f y=wz at *
 obtain ⟨k0,k1,k2,k3⟩:=HZ.out.cell f y (by simp)
 exact bodyPost_ret (v:=af y) (by simp [results,Tryz.results64,go_sem,k0,k1,k2,k3]) rfl ⟨by rw [← HR.out],HZ.out.1⟩
theorem rsub_no (a b m g:Nat) (w:World) (V:Nm w g m) (O:a<m) (hb:b<m) (G:m<2 ^ 256) (F:¬ a<b):Calls Tryz.prog 64 #[af a,af b,.pointer (some ⟨g,0,none⟩)] w fun e w'=>e=.returned (af ((a+(m - b)) % m))∧Below w.heap.size w w':=by
 have HG:=hid (ae.one V)
 obtain ⟨d,R⟩:∃ z,dif a b=z:=⟨_,rfl⟩
 obtain ⟨t,et⟩:∃ z,cM a b=z:=⟨_,rfl⟩
 have U:=(round_sub O hb).resolve_right (by omega)
 rw [if_neg F,R] at U
 have K:d<2 ^ 256:=by rw [← R]; exact dif_lt (Nat.lt_trans O G) (Nat.lt_trans hb G)
 have DL:=hid K
 have A1:=hid (Nat.lt_trans O G)
 have B1:=hid (Nat.lt_trans hb G)
 have M1:=hid G
 have E3:=hid R
 have E4:Hid (((cM a b:Nat):Int)=0):=hid (by unfold cM; rw [if_neg F]; rfl)
 have HR:=hid U
 clear U R et K O hb G F V
 have I:=hid (((((HG.out).new a).new b).zero).perm (l':=[(w.heap.size+1+1,0),(w.heap.size+1,b),(w.heap.size,a),(g,m)]) (by simp))
 have DZ:=hid (show w.heap.size≤w.heap.size+1+1 by omega)
 go_enter Tryz.func64,Tryz.ntmps64
 go_wp2_with fail
 generalize ((w.alloc (.cells (ai a) 24)).alloc (.cells (ai b) 24)).alloc (.cells #[.int .u64 0,.int .u64 0,.int .u64 0,.int .u64 0] 24)=w0 at *
 generalize w.heap.size+1+1=f at *
 generalize w.heap.size+1=L at *
 generalize E:w.heap.size=M at *
 obtain ⟨aN,aM,aL,aK⟩:=I.out.cell (M) (a) (by simp)
 have ax:=I.out.lt (M) (a) (by simp)
 have aJ:=Nat.le_of_lt ax
 obtain ⟨bZ,bX,bW,bV⟩:=I.out.cell (L) (b) (by simp)
 have Z:=I.out.lt (L) (b) (by simp)
 have bU:=Nat.le_of_lt Z
 go_wp2_with fail
 clear aN aM aL aK ax aJ bZ bX bW bV Z bU
 refine (sub_at a b d 0 I.out A1.out B1.out E3.out E4.out).mono ?_
 rintro e w1 ⟨rfl,h⟩
 have H1:=hid h
 clear h I
 go_upto_region 4 with fail
 have D:=hid (H1.out.new d)
 clear H1
 generalize w1.alloc (.cells (ai d) 24)=J at *
 generalize w1.heap.size=Y at *
 obtain ⟨aU,aT,aS,aR⟩:=D.out.cell (Y) (d) (by simp)
 have ay:=D.out.lt (Y) (d) (by simp)
 have aQ:=Nat.le_of_lt ay
 obtain ⟨z0,z1,z2,z3⟩:=D.out.cell f 0 (by simp)
 have zl:=D.out.lt f 0 (by simp)
 have zf:=D.out.frozen f 0 (by simp)
 have HZ:=hid (D.out.set f 0 (d) [] (by simp) (by rw [E]; exact DZ.out) (by simp))
 go_wp2
 clear z0 z1 z2 z3 zl zf
 try rw [Exit.noGoto_ret]
 change bodyPost _ _ _ _ _ (fil J f (d))
 generalize fil J f (d)=wz at *
 obtain ⟨k0,k1,k2,k3⟩:=HZ.out.cell f (d) (by simp)
 exact bodyPost_ret (v:=af (d)) (by simp [results,Tryz.results64,go_sem,k0,k1,k2,k3]) rfl ⟨by rw [← HR.out],HZ.out.1⟩
theorem rsub_any (a b m g:Nat) (w:World) (z:Nm w g m) (D:a<m) (hb:b<m) (f:m<2 ^ 256):Calls Tryz.prog 64 #[af a,af b,.pointer (some ⟨g,0,none⟩)] w fun e w'=>e=.returned (af ((a+(m - b)) % m))∧Below w.heap.size w w':=by
 by_cases h:a<b
 ·exact rsub_yes a b m g w z D hb f h
 ·exact rsub_no a b m g w z D hb f h
theorem rmul_any (a b m g:Nat) (w:World) (Z:Nm w g m) (U:a<2 ^ 256) (hb:b<2 ^ 256) (Y:m<2 ^ 256) (h0:m≠0):Calls Tryz.prog 65 #[af a,af b,.pointer (some ⟨g,0,none⟩)] w fun e w'=>e=.returned (af (a * b % m))∧Below w.heap.size w w':=by
 have HG:=hid (ae.one Z)
 obtain ⟨lo,D⟩:∃ z,a * b % 2 ^ 256=z:=⟨_,rfl⟩
 obtain ⟨hi,E⟩:∃ z,a * b / 2 ^ 256=z:=⟨_,rfl⟩
 have O:=wid_mul a b m
 rw [D,E] at O
 have LL:Hid (lo<2 ^ 256):=hid (by rw [← D]; exact Nat.mod_lt _ (Nat.two_pow_pos _))
 have HL:Hid (hi<2 ^ 256):=hid (by rw [← E]; exact Nat.div_lt_of_lt_mul (Nat.mul_lt_mul'' U hb))
 obtain ⟨r,V⟩:∃ z,a * b % m=z:=⟨_,rfl⟩
 rw [V] at O
 have A1:=hid U
 have B1:=hid hb
 have M1:=hid Y
 have M0:=hid h0
 have E1:=hid D
 have E2:=hid E
 have HW:=hid O
 have ER:=hid V
 clear U hb Y h0 D E O V Z
 have I:=hid (((((HG.out).new a).new b).zero).perm (l':=[(w.heap.size+1+1,0),(w.heap.size+1,b),(w.heap.size,a),(g,m)]) (by simp))
 have DZ:=hid (show w.heap.size≤w.heap.size+1+1 by omega)
 go_enter Tryz.func65,Tryz.ntmps65
 go_wp2_with fail
 generalize ((w.alloc (.cells (ai a) 24)).alloc (.cells (ai b) 24)).alloc (.cells #[.int .u64 0,.int .u64 0,.int .u64 0,.int .u64 0] 24)=w0 at *
 generalize w.heap.size+1+1=f at *
 generalize w.heap.size+1=K at *
 generalize F:w.heap.size=L at *
 obtain ⟨aN,aM,aL,aK⟩:=I.out.cell (L) (a) (by simp)
 have ax:=I.out.lt (L) (a) (by simp)
 have aJ:=Nat.le_of_lt ax
 obtain ⟨bZ,bX,bW,bV⟩:=I.out.cell (K) (b) (by simp)
 have bd:=I.out.lt (K) (b) (by simp)
 have bU:=Nat.le_of_lt bd
 go_wp2_with fail
 clear aN aM aL aK ax aJ bZ bX bW bV bd bU
 refine (mul_at a b lo hi I.out A1.out B1.out E1.out E2.out).mono ?_
 rintro e w1 ⟨rfl,h⟩
 have R:=hid h
 clear h I
 obtain ⟨aU,aT,aS,aR⟩:=R.out.cell (g) (m) (by simp)
 have ay:=R.out.lt (g) (m) (by simp)
 have aQ:=Nat.le_of_lt ay
 go_wp2_with fail
 clear aU aT aS aR ay aQ
 have M:=hid (R.out.new2 lo hi)
 clear R
 generalize (w1.alloc (.cells (ai lo) 24)).alloc (.cells (ai hi) 24)=ab at *
 generalize w1.heap.size+1=ad at *
 generalize w1.heap.size=g6 at *
 refine (wide_at lo hi m r M.out LL.out HL.out M1.out M0.out HW.out).mono ?_
 rintro e w2 ⟨rfl,h⟩
 have H2:=hid h
 clear h M
 go_upto_region 3 with fail
 have G:=hid (H2.out.new r)
 clear H2
 generalize w2.alloc (.cells (ai r) 24)=J at *
 generalize w2.heap.size=g8 at *
 obtain ⟨bq,bp,bo,bn⟩:=G.out.cell (g8) (r) (by simp)
 have aC:=G.out.lt (g8) (r) (by simp)
 have bm:=Nat.le_of_lt aC
 obtain ⟨z0,z1,z2,z3⟩:=G.out.cell f 0 (by simp)
 have zl:=G.out.lt f 0 (by simp)
 have zf:=G.out.frozen f 0 (by simp)
 have HZ:=hid (G.out.set f 0 (r) [] (by simp) (by rw [F]; exact DZ.out) (by simp))
 go_wp2
 clear z0 z1 z2 z3 zl zf
 try rw [Exit.noGoto_ret]
 change bodyPost _ _ _ _ _ (fil J f (r))
 generalize fil J f (r)=wz at *
 obtain ⟨k0,k1,k2,k3⟩:=HZ.out.cell f (r) (by simp)
 exact bodyPost_ret (v:=af (r)) (by simp [results,Tryz.results65,go_sem,k0,k1,k2,k3]) rfl ⟨by rw [ER.out],HZ.out.1⟩
def Sl1 (w:World) (g a:Nat):Prop:=w.heap[g]?=some (.cells #[.int .u64 (wd a 0:Int),.int .u64 (wd a 1:Int),.int .u64 (wd a 2:Int),.int .u64 (wd a 3:Int)] 24 (0,0))
def Sl2 (w:World) (g a b:Nat):Prop:=w.heap[g]?=some (.cells #[.int .u64 (wd a 0:Int),.int .u64 (wd a 1:Int),.int .u64 (wd a 2:Int),.int .u64 (wd a 3:Int),.int .u64 (wd b 0:Int),.int .u64 (wd b 1:Int),.int .u64 (wd b 2:Int),.int .u64 (wd b 3:Int)] 24 (0,0))
theorem Sl1.at {w w':World} {g a:Nat} (h:Sl1 w g a) (hb:Below w.heap.size w w'):w'.cell? ⟨g,0,none⟩=some (.int .u64 (wd a 0:Int))∧w'.cell? ⟨g,1,none⟩=some (.int .u64 (wd a 1:Int))∧w'.cell? ⟨g,2,none⟩=some (.int .u64 (wd a 2:Int))∧w'.cell? ⟨g,3,none⟩=some (.int .u64 (wd a 3:Int))∧g<w'.heap.size:=by
 have z:g<w.heap.size:=lt_of_block h
 have f:=(hb.block g z).trans h
 refine ⟨?_,?_,?_,?_,lt_of_block f⟩ <;> (rw [cell_of_row w' g _ _ 24 (0,0) f]; rfl)
theorem Sl2.at {w w':World} {g a b:Nat} (h:Sl2 w g a b) (hb:Below w.heap.size w w'):w'.cell? ⟨g,0,none⟩=some (.int .u64 (wd a 0:Int))∧w'.cell? ⟨g,1,none⟩=some (.int .u64 (wd a 1:Int))∧w'.cell? ⟨g,2,none⟩=some (.int .u64 (wd a 2:Int))∧w'.cell? ⟨g,3,none⟩=some (.int .u64 (wd a 3:Int))∧w'.cell? ⟨g,4,none⟩=some (.int .u64 (wd b 0:Int))∧w'.cell? ⟨g,5,none⟩=some (.int .u64 (wd b 1:Int))∧w'.cell? ⟨g,6,none⟩=some (.int .u64 (wd b 2:Int))∧w'.cell? ⟨g,7,none⟩=some (.int .u64 (wd b 3:Int))∧g<w'.heap.size:=by
 have z:g<w.heap.size:=lt_of_block h
 have f:=(hb.block g z).trans h
 refine ⟨?_,?_,?_,?_,?_,?_,?_,?_,lt_of_block f⟩ <;> (rw [cell_of_row w' g _ _ 24 (0,0) f]; rfl)
theorem nbits_above (m:Nat):1<aq m↔1<m:=by
 constructor
 ·intro h
  rcases Nat.lt_or_ge 1 m with g | g
  ·exact g
  ·have:=cK m 1 (by omega); omega
 ·intro h
  have D:=nbits_le m (by omega)
  rcases Nat.lt_or_ge 1 (aq m) with g | g
  ·exact g
  ·have z:=nbits_lt m
   have f:2 ^ aq m≤2 ^ 1:=Nat.pow_le_pow_right (by omega) g
   omega
theorem gor1_no0 (m a g:Nat) (w:World) (K:Sl1 w g a) (I:m<2 ^ 256) (J:a<2 ^ 256) (V:¬ a<m):Calls Tryz.prog 42 #[af m,.slice (some ⟨g,0,none⟩) 1 1] w fun e w'=>e=.returned (.bool false)∧Below w.heap.size w w':=by
 have AL:=hid J
 have ML:=hid I
 obtain ⟨c,F⟩:∃ c,aD a m=c:=⟨_,rfl⟩
 have U:0≤c:=by rw [← F]; unfold aD; split <;> (try split) <;> omega
 have EB:=hid F
 clear F
 have HS:=hid K
 clear J I K V
 have D:=hid (((ae.refl w).new m).perm (l':=[(w.heap.size,m)]) (by simp))
 go_enter Tryz.func42,Tryz.ntmps42
 go_wp2_with fail
 generalize w.alloc (.cells (ai m) 24)=w0 at *
 generalize E:w.heap.size=f at *
 refine wp_loop_rounds 2 ?_
 rw [rounds_succ]
 obtain ⟨s0,s1,s2,s3,R⟩:=HS.out.at D.out.1
 obtain ⟨aN,aM,aL,aK⟩:=D.out.cell (f) (m) (by simp)
 have M:=D.out.lt (f) (m) (by simp)
 have aJ:=Nat.le_of_lt M
 go_wp2_with fail
 clear aN aM aL aK M aJ
 clear s0 s1 s2 s3 R
 have z:=hid (D.out.new a)
 clear D
 generalize w0.alloc (.cells (ai a) 24)=O at *
 generalize w0.heap.size=Y at *
 refine (cmp_at a m c z.out AL.out ML.out EB.out).mono ?_
 rintro e w1 ⟨rfl,h⟩
 have G:=hid h
 clear h z
 obtain ⟨Z,aT,aS,aR⟩:=G.out.cell (f) (m) (by simp)
 have L:=G.out.lt (f) (m) (by simp)
 have aQ:=Nat.le_of_lt L
 go_wp2_with fail
 clear Z aT aS aR L aQ
 try rw [Exit.noGoto_ret]
 exact bodyPost_ret (v:=.bool false) (by simp [results,Tryz.results42,go_sem]) rfl ⟨rfl,G.out.1⟩
theorem gor1_all (m a g:Nat) (w:World) (V:Sl1 w g a) (R:m<2 ^ 256) (U:a<2 ^ 256) (Y:a<m):Calls Tryz.prog 42 #[af m,.slice (some ⟨g,0,none⟩) 1 1] w fun e w'=>e=.returned (.bool (decide (1<m)))∧Below w.heap.size w w':=by
 have AL:=hid U
 have ML:=hid R
 have E0:Hid (aD a m = -1):=hid (by unfold aD; rw [if_pos Y])
 obtain ⟨n,I⟩:∃ n,aq m=n:=⟨_,rfl⟩
 have EN:=hid (show (aq m:Int)=(n:Int) by rw [I])
 have hn:1<n↔1<m:=by rw [← I]; exact nbits_above m
 have HS:=hid V
 clear U R V Y I
 have F:=hid (((ae.refl w).new m).perm (l':=[(w.heap.size,m)]) (by simp))
 go_enter Tryz.func42,Tryz.ntmps42
 go_wp2_with fail
 generalize w.alloc (.cells (ai m) 24)=w0 at *
 generalize G:w.heap.size=f at *
 refine wp_loop_rounds 2 ?_
 rw [rounds_succ]
 obtain ⟨s0,s1,s2,s3,sl⟩:=HS.out.at F.out.1
 obtain ⟨aN,aM,aL,aK⟩:=F.out.cell (f) (m) (by simp)
 have Z:=F.out.lt (f) (m) (by simp)
 have aJ:=Nat.le_of_lt Z
 go_wp2_with fail
 clear aN aM aL aK Z aJ
 clear s0 s1 s2 s3 sl
 have E:=hid (F.out.new a)
 clear F
 generalize w0.alloc (.cells (ai a) 24)=ab at *
 generalize w0.heap.size=ad at *
 refine (cmp_at a m (-1) E.out AL.out ML.out E0.out).mono ?_
 rintro e w1 ⟨rfl,h⟩
 have z:=hid h
 clear h E
 obtain ⟨J,K,L,M⟩:=z.out.cell (f) (m) (by simp)
 have D:=z.out.lt (f) (m) (by simp)
 have O:=Nat.le_of_lt D
 go_wp2_with fail
 clear J K L M D O
 rw [rounds_succ]
 obtain ⟨J,K,L,M⟩:=z.out.cell (f) (m) (by simp)
 have D:=z.out.lt (f) (m) (by simp)
 have O:=Nat.le_of_lt D
 go_wp2_with fail
 clear J K L M D O
 refine (b8 m (n:Int) z.out ML.out EN.out).mono ?_
 rintro e w2 ⟨rfl,h⟩
 have H2:=hid h
 clear h z
 go_wp2
 exact bodyPost_ret (v:=.bool (decide ((n:Int) > 1))) (by simp [results,Tryz.results42,go_sem]) rfl ⟨by simp; omega,H2.out.1⟩
theorem gor2_no0 (m a b g:Nat) (w:World) (K:Sl2 w g a b) (I:m<2 ^ 256) (J:a<2 ^ 256) (hb:b<2 ^ 256) (V:¬ a<m):Calls Tryz.prog 42 #[af m,.slice (some ⟨g,0,none⟩) 2 2] w fun e w'=>e=.returned (.bool false)∧Below w.heap.size w w':=by
 have AL:=hid J
 have BL:=hid hb
 have ML:=hid I
 obtain ⟨c,F⟩:∃ c,aD a m=c:=⟨_,rfl⟩
 have U:0≤c:=by rw [← F]; unfold aD; split <;> (try split) <;> omega
 have EB:=hid F
 clear F
 have HS:=hid K
 clear J hb I K V
 have D:=hid (((ae.refl w).new m).perm (l':=[(w.heap.size,m)]) (by simp))
 go_enter Tryz.func42,Tryz.ntmps42
 go_wp2_with fail
 generalize w.alloc (.cells (ai m) 24)=w0 at *
 generalize E:w.heap.size=f at *
 refine wp_loop_rounds 3 ?_
 rw [rounds_succ]
 obtain ⟨s0,s1,s2,s3,s4,s5,s6,s7,R⟩:=HS.out.at D.out.1
 obtain ⟨aN,aM,aL,aK⟩:=D.out.cell (f) (m) (by simp)
 have M:=D.out.lt (f) (m) (by simp)
 have aJ:=Nat.le_of_lt M
 go_wp2_with fail
 clear aN aM aL aK M aJ
 clear s0 s1 s2 s3 R s4 s5 s6 s7
 have z:=hid (D.out.new a)
 clear D
 generalize w0.alloc (.cells (ai a) 24)=O at *
 generalize w0.heap.size=Y at *
 refine (cmp_at a m c z.out AL.out ML.out EB.out).mono ?_
 rintro e w1 ⟨rfl,h⟩
 have G:=hid h
 clear h z
 obtain ⟨Z,aT,aS,aR⟩:=G.out.cell (f) (m) (by simp)
 have L:=G.out.lt (f) (m) (by simp)
 have aQ:=Nat.le_of_lt L
 go_wp2_with fail
 clear Z aT aS aR L aQ
 try rw [Exit.noGoto_ret]
 exact bodyPost_ret (v:=.bool false) (by simp [results,Tryz.results42,go_sem]) rfl ⟨rfl,G.out.1⟩
theorem gor2_no1 (m a b g:Nat) (w:World) (hS:Sl2 w g a b) (Y:m<2 ^ 256) (Z:a<2 ^ 256) (hb:b<2 ^ 256) (h0:a<m) (h1:¬ b<m):Calls Tryz.prog 42 #[af m,.slice (some ⟨g,0,none⟩) 2 2] w fun e w'=>e=.returned (.bool false)∧Below w.heap.size w w':=by
 have AL:=hid Z
 have BL:=hid hb
 have ML:=hid Y
 have E0:Hid (aD a m = -1):=hid (by unfold aD; rw [if_pos h0])
 obtain ⟨c,K⟩:∃ c,aD b m=c:=⟨_,rfl⟩
 have al:0≤c:=by rw [← K]; unfold aD; split <;> (try split) <;> omega
 have EB:=hid K
 clear K
 have HS:=hid hS
 clear Z hb Y hS h0 h1
 have G:=hid (((ae.refl w).new m).perm (l':=[(w.heap.size,m)]) (by simp))
 go_enter Tryz.func42,Tryz.ntmps42
 go_wp2_with fail
 generalize w.alloc (.cells (ai m) 24)=w0 at *
 generalize J:w.heap.size=f at *
 refine wp_loop_rounds 3 ?_
 rw [rounds_succ]
 obtain ⟨s0,s1,s2,s3,s4,s5,s6,s7,I⟩:=HS.out.at G.out.1
 obtain ⟨aN,aM,aL,aK⟩:=G.out.cell (f) (m) (by simp)
 have ax:=G.out.lt (f) (m) (by simp)
 have aJ:=Nat.le_of_lt ax
 go_wp2_with fail
 clear aN aM aL aK ax aJ
 clear s0 s1 s2 s3 I s4 s5 s6 s7
 have F:=hid (G.out.new a)
 clear G
 generalize w0.alloc (.cells (ai a) 24)=ad at *
 generalize w0.heap.size=ao at *
 refine (cmp_at a m (-1) F.out AL.out ML.out E0.out).mono ?_
 rintro e w1 ⟨rfl,h⟩
 have z:=hid h
 clear h F
 obtain ⟨L,M,O,R⟩:=z.out.cell (f) (m) (by simp)
 have D:=z.out.lt (f) (m) (by simp)
 have U:=Nat.le_of_lt D
 go_wp2_with fail
 clear L M O R D U
 rw [rounds_succ]
 obtain ⟨s0,s1,s2,s3,s4,s5,s6,s7,I⟩:=HS.out.at z.out.1
 obtain ⟨L,M,O,R⟩:=z.out.cell (f) (m) (by simp)
 have D:=z.out.lt (f) (m) (by simp)
 have U:=Nat.le_of_lt D
 go_wp2_with fail
 clear L M O R D U
 clear s0 s1 s2 s3 I s4 s5 s6 s7
 have E:=hid (z.out.new b)
 clear z
 generalize w1.alloc (.cells (ai b) 24)=ab at *
 generalize w1.heap.size=an at *
 refine (cmp_at b m c E.out BL.out ML.out EB.out).mono ?_
 rintro e w2 ⟨rfl,h⟩
 have V:=hid h
 clear h E
 obtain ⟨bq,bp,bo,bn⟩:=V.out.cell (f) (m) (by simp)
 have aC:=V.out.lt (f) (m) (by simp)
 have bm:=Nat.le_of_lt aC
 go_wp2_with fail
 clear bq bp bo bn aC bm
 try rw [Exit.noGoto_ret]
 exact bodyPost_ret (v:=.bool false) (by simp [results,Tryz.results42,go_sem]) rfl ⟨rfl,V.out.1⟩
theorem gor2_all (m a b g:Nat) (w:World) (hS:Sl2 w g a b) (hm:m<2 ^ 256) (ha:a<2 ^ 256) (hb:b<2 ^ 256) (h0:a<m) (h1:b<m):Calls Tryz.prog 42 #[af m,.slice (some ⟨g,0,none⟩) 2 2] w fun e w'=>e=.returned (.bool (decide (1<m)))∧Below w.heap.size w w':=by
 have AL:=hid ha
 have BL:=hid hb
 have ML:=hid hm
 have E0:Hid (aD a m = -1):=hid (by unfold aD; rw [if_pos h0])
 have E1:Hid (aD b m = -1):=hid (by unfold aD; rw [if_pos h1])
 obtain ⟨n,M⟩:∃ n,aq m=n:=⟨_,rfl⟩
 have EN:=hid (show (aq m:Int)=(n:Int) by rw [M])
 have hn:1<n↔1<m:=by rw [← M]; exact nbits_above m
 have HS:=hid hS
 clear ha hb hm hS h0 h1 M
 have J:=hid (((ae.refl w).new m).perm (l':=[(w.heap.size,m)]) (by simp))
 go_enter Tryz.func42,Tryz.ntmps42
 go_wp2_with fail
 generalize w.alloc (.cells (ai m) 24)=w0 at *
 generalize L:w.heap.size=f at *
 refine wp_loop_rounds 3 ?_
 rw [rounds_succ]
 obtain ⟨s0,s1,s2,s3,s4,s5,s6,s7,K⟩:=HS.out.at J.out.1
 obtain ⟨aN,aM,aL,aK⟩:=J.out.cell (f) (m) (by simp)
 have ax:=J.out.lt (f) (m) (by simp)
 have aJ:=Nat.le_of_lt ax
 go_wp2_with fail
 clear aN aM aL aK ax aJ
 clear s0 s1 s2 s3 K s4 s5 s6 s7
 have I:=hid (J.out.new a)
 clear J
 generalize w0.alloc (.cells (ai a) 24)=ad at *
 generalize w0.heap.size=an at *
 refine (cmp_at a m (-1) I.out AL.out ML.out E0.out).mono ?_
 rintro e w1 ⟨rfl,h⟩
 have z:=hid h
 clear h I
 obtain ⟨Z,aT,aS,aR⟩:=z.out.cell (f) (m) (by simp)
 have E:=z.out.lt (f) (m) (by simp)
 have aQ:=Nat.le_of_lt E
 go_wp2_with fail
 clear Z aT aS aR E aQ
 rw [rounds_succ]
 obtain ⟨s0,s1,s2,s3,s4,s5,s6,s7,K⟩:=HS.out.at z.out.1
 obtain ⟨Z,aT,aS,aR⟩:=z.out.cell (f) (m) (by simp)
 have E:=z.out.lt (f) (m) (by simp)
 have aQ:=Nat.le_of_lt E
 go_wp2_with fail
 clear Z aT aS aR E aQ
 clear s0 s1 s2 s3 K s4 s5 s6 s7
 have G:=hid (z.out.new b)
 clear z
 generalize w1.alloc (.cells (ai b) 24)=ab at *
 generalize w1.heap.size=al at *
 refine (cmp_at b m (-1) G.out BL.out ML.out E1.out).mono ?_
 rintro e w2 ⟨rfl,h⟩
 have D:=hid h
 clear h G
 obtain ⟨O,R,U,V⟩:=D.out.cell (f) (m) (by simp)
 have F:=D.out.lt (f) (m) (by simp)
 have Y:=Nat.le_of_lt F
 go_wp2_with fail
 clear O R U V F Y
 rw [rounds_succ]
 obtain ⟨O,R,U,V⟩:=D.out.cell (f) (m) (by simp)
 have F:=D.out.lt (f) (m) (by simp)
 have Y:=Nat.le_of_lt F
 go_wp2_with fail
 clear O R U V F Y
 refine (b8 m (n:Int) D.out ML.out EN.out).mono ?_
 rintro e w3 ⟨rfl,h⟩
 have H3:=hid h
 clear h D
 go_wp2
 exact bodyPost_ret (v:=.bool (decide ((n:Int) > 1))) (by simp [results,Tryz.results42,go_sem]) rfl ⟨by simp; omega,H3.out.1⟩
theorem gor1_any (m a g:Nat) (w:World) (E:Sl1 w g a) (z:m<2 ^ 256) (D:a<2 ^ 256):Calls Tryz.prog 42 #[af m,.slice (some ⟨g,0,none⟩) 1 1] w fun e w'=>e=.returned (.bool (decide (1<m∧a<m)))∧Below w.heap.size w w':=by
 by_cases f:a<m
 ·have e:decide (1<m∧a<m)=decide (1<m):=by simp [f]
  rw [e]; exact gor1_all m a g w E z D f
 ·have e:decide (1<m∧a<m)=false:=by simp [f]
  rw [e]; exact gor1_no0 m a g w E z D f
theorem gor2_any (m a b g:Nat) (w:World) (F:Sl2 w g a b) (D:m<2 ^ 256) (E:a<2 ^ 256) (hb:b<2 ^ 256):Calls Tryz.prog 42 #[af m,.slice (some ⟨g,0,none⟩) 2 2] w fun e w'=>e=.returned (.bool (decide (1<m∧a<m∧b<m)))∧Below w.heap.size w w':=by
 by_cases f:a<m
 ·by_cases z:b<m
  ·have e:decide (1<m∧a<m∧b<m)=decide (1<m):=by simp [f,z]
   rw [e]; exact gor2_all m a b g w F D E hb f z
  ·have e:decide (1<m∧a<m∧b<m)=false:=by simp [z]
   rw [e]; exact gor2_no1 m a b g w F D E hb f z
 ·have e:decide (1<m∧a<m∧b<m)=false:=by simp [f]
  rw [e]; exact gor2_no0 m a b g w F D E hb f
theorem gor1_b (m a g:Nat) (v:Bool) (w:World) (E:Sl1 w g a) (z:m<2 ^ 256) (D:a<2 ^ 256) (f:decide (1<m∧a<m)=v):Calls Tryz.prog 42 #[af m,.slice (some ⟨g,0,none⟩) 1 1] w fun e w'=>e=.returned (.bool v)∧Below w.heap.size w w':=by
 subst f; exact gor1_any m a g w E z D
theorem gor2_b (m a b g:Nat) (v:Bool) (w:World) (E:Sl2 w g a b) (z:m<2 ^ 256) (D:a<2 ^ 256) (hb:b<2 ^ 256) (f:decide (1<m∧a<m∧b<m)=v):Calls Tryz.prog 42 #[af m,.slice (some ⟨g,0,none⟩) 2 2] w fun e w'=>e=.returned (.bool v)∧Below w.heap.size w w':=by
 subst f; exact gor2_any m a b g w E z D hb
theorem by_at (m:Nat) {w w':World} {l:List (Nat×Nat)} (h:ae w l w'):Calls Tryz.prog 43 #[af m] w' fun e w2=>∃ g,e=.returned (ring g)∧ae w ((g,m) :: l) w2 :=
 (by_any m w').mono fun e w2 ⟨he,hE⟩=>⟨_,he,(h.on hE.1).1,fun p f=>by
  rcases List.mem_cons.1 f with rfl | f
  ·exact hE.2 _ (by simp)
  ·exact (h.on hE.1).2 p f⟩
theorem radd_at (a b m r g:Nat) {w w':World} {l:List (Nat×Nat)} (h:ae w l w') (D:(g,m)∈l) (E:a<m) (hb:b<m) (z:m<2 ^ 256) (f:(a+b) % m=r):Calls Tryz.prog 62 #[af a,af b,.pointer (some ⟨g,0,none⟩)] w' fun e w2=>e=.returned (af r)∧ae w l w2:=by
 subst f; exact ah (radd_any a b m g w' (h.nm g m D) E hb z) h
theorem rmul_at (a b m r g:Nat) {w w':World} {l:List (Nat×Nat)} (h:ae w l w') (D:(g,m)∈l) (E:a<2 ^ 256) (hb:b<2 ^ 256) (z:m<2 ^ 256) (F:m≠0) (f:a * b % m=r):Calls Tryz.prog 65 #[af a,af b,.pointer (some ⟨g,0,none⟩)] w' fun e w2=>e=.returned (af r)∧ae w l w2:=by
 subst f; exact ah (rmul_any a b m g w' (h.nm g m D) E hb z F) h
theorem madd_some (a b m:Nat) (w:World) (ha:a<2 ^ 256) (hb:b<2 ^ 256) (hm:m<2 ^ 256) (J:1<m∧a<m∧b<m):Calls Tryz.prog 21 #[af a,af b,af m] w fun e w'=>e=.returned (.tuple #[af ((a+b) % m),.int .i64 0])∧Below w.heap.size w w':=by
 have AL:=hid ha
 have BL:=hid hb
 have ML:=hid hm
 have HV:Hid (decide (1<m∧a<m∧b<m)=true):=hid (by simpa using J)
 have A1:=hid J.1
 have A2:=hid J.2.1
 have A3:=hid J.2.2
 obtain ⟨r,er⟩:∃ r,(a+b) % m=r:=⟨_,rfl⟩
 have ER:=hid er
 clear er
 clear ha hb hm J
 have H0:=hid ((((((ae.refl w).new a).new b).new m).zero).perm (l':=[(w.heap.size+1+1+1,0),(w.heap.size+1+1,m),(w.heap.size+1,b),(w.heap.size,a)]) (by simp))
 have M:=hid (show w.heap.size≤w.heap.size+1+1+1 by omega)
 have U:=hid (show ∀ p∈[(w.heap.size,a),(w.heap.size+1,b),(w.heap.size+1+1,m)],p.1≠w.heap.size+1+1+1 by simp; try omega)
 go_enter Tryz.func21,Tryz.ntmps21
 go_wp2_with fail
 have bI:((((w.alloc (.cells (ai a) 24)).alloc (.cells (ai b) 24)).alloc (.cells (ai m) 24)).alloc (.cells #[.int .u64 0,.int .u64 0,.int .u64 0,.int .u64 0] 24)).heap.size=w.heap.size+1+1+1+1:=by simp only [show ∀ (w:World) (o:Obj),(w.alloc o).heap.size=w.heap.size+1 from fun w o=>Array.size_push _]
 generalize (((w.alloc (.cells (ai a) 24)).alloc (.cells (ai b) 24)).alloc (.cells (ai m) 24)).alloc (.cells #[.int .u64 0,.int .u64 0,.int .u64 0,.int .u64 0] 24)=w0 at *
 generalize w.heap.size+1+1+1+1=K at *
 generalize w.heap.size+1+1+1=f at *
 generalize w.heap.size+1+1=E at *
 generalize w.heap.size+1=F at *
 generalize z:w.heap.size=G at *
 have R:Hid (Sl2 (w0.alloc (.cells #[.int .u64 (wd a 0:Int),.int .u64 (wd a 1:Int),.int .u64 (wd a 2:Int),.int .u64 (wd a 3:Int),.int .u64 (wd b 0:Int),.int .u64 (wd b 1:Int),.int .u64 (wd b 2:Int),.int .u64 (wd b 3:Int)] 24)) K a b):=hid (by rw [← bI]; exact heap_alloc_new _ _)
 have L:=hid (H0.out.alloc (.cells #[.int .u64 (wd a 0:Int),.int .u64 (wd a 1:Int),.int .u64 (wd a 2:Int),.int .u64 (wd a 3:Int),.int .u64 (wd b 0:Int),.int .u64 (wd b 1:Int),.int .u64 (wd b 2:Int),.int .u64 (wd b 3:Int)] 24))
 clear H0 bI
 generalize w0.alloc (.cells #[.int .u64 (wd a 0:Int),.int .u64 (wd a 1:Int),.int .u64 (wd a 2:Int),.int .u64 (wd a 3:Int),.int .u64 (wd b 0:Int),.int .u64 (wd b 1:Int),.int .u64 (wd b 2:Int),.int .u64 (wd b 3:Int)] 24)=O at *
 refine (ah (gor2_b m a b K true O R.out ML.out AL.out BL.out HV.out) L.out).mono ?_
 rintro e w1 ⟨rfl,h⟩
 have H1:=hid h
 clear h L
 go_upto_region 3 with fail
 have hf:∀ (g:Nat) (w:World),(Instr.field 63 (ring g) 0).run Tryz.prog w=.ok (.func (.func 62) #[] #[.pointer (some ⟨g,0,none⟩)]) w:=fun _ _=>by kernel_rfl
 have D:=H1.out.drew
 obtain ⟨z0,z1,Z,z3⟩:=D.cell f 0 (by simp); have V:=D.lt f 0 (by simp); have Y:=D.frozen f 0 (by simp)
 go_region_held3 (fun w'=>(w'.cell? ⟨G,0,none⟩=some (.int .u64 (wd (a) 0:Int))∧w'.cell? ⟨G,1,none⟩=some (.int .u64 (wd (a) 1:Int))∧w'.cell? ⟨G,2,none⟩=some (.int .u64 (wd (a) 2:Int))∧w'.cell? ⟨G,3,none⟩=some (.int .u64 (wd (a) 3:Int)))∧(w'.cell? ⟨F,0,none⟩=some (.int .u64 (wd (b) 0:Int))∧w'.cell? ⟨F,1,none⟩=some (.int .u64 (wd (b) 1:Int))∧w'.cell? ⟨F,2,none⟩=some (.int .u64 (wd (b) 2:Int))∧w'.cell? ⟨F,3,none⟩=some (.int .u64 (wd (b) 3:Int)))∧(w'.cell? ⟨E,0,none⟩=some (.int .u64 (wd (m) 0:Int))∧w'.cell? ⟨E,1,none⟩=some (.int .u64 (wd (m) 1:Int))∧w'.cell? ⟨E,2,none⟩=some (.int .u64 (wd (m) 2:Int))∧w'.cell? ⟨E,3,none⟩=some (.int .u64 (wd (m) 3:Int)))) (first | (with_reducible exact ⟨D.cell _ _ (by simp),D.cell _ _ (by simp),D.cell _ _ (by simp)⟩) | (with_reducible exact ⟨(D.set f 0 (r) [(G,a),(F,b),(E,m)] (by simp) (by rw [z]; exact M.out) (fun p I=>⟨by simp at I ⊢; rcases I with h | h | h <;> simp [h],U.out p (by simp at I ⊢; rcases I with h | h | h <;> simp [h])⟩)).cell _ _ (by simp),(D.set f 0 (r) [(G,a),(F,b),(E,m)] (by simp) (by rw [z]; exact M.out) (fun p I=>⟨by simp at I ⊢; rcases I with h | h | h <;> simp [h],U.out p (by simp at I ⊢; rcases I with h | h | h <;> simp [h])⟩)).cell _ _ (by simp),(D.set f 0 (r) [(G,a),(F,b),(E,m)] (by simp) (by rw [z]; exact M.out) (fun p I=>⟨by simp at I ⊢; rcases I with h | h | h <;> simp [h],U.out p (by simp at I ⊢; rcases I with h | h | h <;> simp [h])⟩)).cell _ _ (by simp)⟩)) (first | ((go_at_call 43); (with_reducible refine (by_at m (by assumption)).mono ?_); rintro e wn ⟨gb,rfl,D⟩; obtain ⟨z0,z1,Z,z3⟩:=D.cell f 0 (by simp); have V:=D.lt f 0 (by simp); have Y:=D.frozen f 0 (by simp)) | ((go_at_call 62); (with_reducible refine (radd_at a b m r gb (by assumption) (by simp) A2.out A3.out ML.out ER.out).mono ?_); rintro e wn ⟨rfl,D⟩; obtain ⟨z0,z1,Z,z3⟩:=D.cell f 0 (by simp); have V:=D.lt f 0 (by simp); have Y:=D.frozen f 0 (by simp)))
 all_goals
  have HZ:=hid (D.set f 0 (r) [] (by simp) (by rw [z]; exact M.out) (by simp))
  go_wp2
  try rw [Exit.noGoto_ret]
  change bodyPost _ _ _ _ _ (fil _ f (r))
  generalize fil _ f (r)=wz at *
  obtain ⟨k0,k1,k2,k3⟩:=HZ.out.cell f (r) (by simp)
  exact bodyPost_ret (v:=.tuple #[af (r),.int .i64 0]) (by simp [results,Tryz.results21,go_sem,k0,k1,k2,k3]) rfl ⟨by rw [ER.out],HZ.out.1⟩
theorem mmul_some (a b m:Nat) (w:World) (ha:a<2 ^ 256) (hb:b<2 ^ 256) (hm:m<2 ^ 256) (J:1<m∧a<m∧b<m):Calls Tryz.prog 20 #[af a,af b,af m] w fun e w'=>e=.returned (.tuple #[af (a * b % m),.int .i64 0])∧Below w.heap.size w w':=by
 have AL:=hid ha
 have BL:=hid hb
 have ML:=hid hm
 have HV:Hid (decide (1<m∧a<m∧b<m)=true):=hid (by simpa using J)
 have A1:=hid J.1
 have A2:=hid J.2.1
 have A3:=hid J.2.2
 obtain ⟨r,er⟩:∃ r,a * b % m=r:=⟨_,rfl⟩
 have ER:=hid er
 clear er
 clear ha hb hm J
 have H0:=hid ((((((ae.refl w).new a).new b).new m).zero).perm (l':=[(w.heap.size+1+1+1,0),(w.heap.size+1+1,m),(w.heap.size+1,b),(w.heap.size,a)]) (by simp))
 have M:=hid (show w.heap.size≤w.heap.size+1+1+1 by omega)
 have U:=hid (show ∀ p∈[(w.heap.size,a),(w.heap.size+1,b),(w.heap.size+1+1,m)],p.1≠w.heap.size+1+1+1 by simp; try omega)
 go_enter Tryz.func20,Tryz.ntmps20
 go_wp2_with fail
 have bI:((((w.alloc (.cells (ai a) 24)).alloc (.cells (ai b) 24)).alloc (.cells (ai m) 24)).alloc (.cells #[.int .u64 0,.int .u64 0,.int .u64 0,.int .u64 0] 24)).heap.size=w.heap.size+1+1+1+1:=by simp only [show ∀ (w:World) (o:Obj),(w.alloc o).heap.size=w.heap.size+1 from fun w o=>Array.size_push _]
 generalize (((w.alloc (.cells (ai a) 24)).alloc (.cells (ai b) 24)).alloc (.cells (ai m) 24)).alloc (.cells #[.int .u64 0,.int .u64 0,.int .u64 0,.int .u64 0] 24)=w0 at *
 generalize w.heap.size+1+1+1+1=K at *
 generalize w.heap.size+1+1+1=f at *
 generalize w.heap.size+1+1=E at *
 generalize w.heap.size+1=F at *
 generalize z:w.heap.size=G at *
 have R:Hid (Sl2 (w0.alloc (.cells #[.int .u64 (wd a 0:Int),.int .u64 (wd a 1:Int),.int .u64 (wd a 2:Int),.int .u64 (wd a 3:Int),.int .u64 (wd b 0:Int),.int .u64 (wd b 1:Int),.int .u64 (wd b 2:Int),.int .u64 (wd b 3:Int)] 24)) K a b):=hid (by rw [← bI]; exact heap_alloc_new _ _)
 have L:=hid (H0.out.alloc (.cells #[.int .u64 (wd a 0:Int),.int .u64 (wd a 1:Int),.int .u64 (wd a 2:Int),.int .u64 (wd a 3:Int),.int .u64 (wd b 0:Int),.int .u64 (wd b 1:Int),.int .u64 (wd b 2:Int),.int .u64 (wd b 3:Int)] 24))
 clear H0 bI
 generalize w0.alloc (.cells #[.int .u64 (wd a 0:Int),.int .u64 (wd a 1:Int),.int .u64 (wd a 2:Int),.int .u64 (wd a 3:Int),.int .u64 (wd b 0:Int),.int .u64 (wd b 1:Int),.int .u64 (wd b 2:Int),.int .u64 (wd b 3:Int)] 24)=O at *
 refine (ah (gor2_b m a b K true O R.out ML.out AL.out BL.out HV.out) L.out).mono ?_
 rintro e w1 ⟨rfl,h⟩
 have H1:=hid h
 clear h L
 go_upto_region 3 with fail
 have hf:∀ (g:Nat) (w:World),(Instr.field 63 (ring g) 2).run Tryz.prog w=.ok (.func (.func 65) #[] #[.pointer (some ⟨g,0,none⟩)]) w:=fun _ _=>by kernel_rfl
 have D:=H1.out.drew
 obtain ⟨z0,z1,Z,z3⟩:=D.cell f 0 (by simp); have V:=D.lt f 0 (by simp); have Y:=D.frozen f 0 (by simp)
 go_region_held3 (fun w'=>(w'.cell? ⟨G,0,none⟩=some (.int .u64 (wd (a) 0:Int))∧w'.cell? ⟨G,1,none⟩=some (.int .u64 (wd (a) 1:Int))∧w'.cell? ⟨G,2,none⟩=some (.int .u64 (wd (a) 2:Int))∧w'.cell? ⟨G,3,none⟩=some (.int .u64 (wd (a) 3:Int)))∧(w'.cell? ⟨F,0,none⟩=some (.int .u64 (wd (b) 0:Int))∧w'.cell? ⟨F,1,none⟩=some (.int .u64 (wd (b) 1:Int))∧w'.cell? ⟨F,2,none⟩=some (.int .u64 (wd (b) 2:Int))∧w'.cell? ⟨F,3,none⟩=some (.int .u64 (wd (b) 3:Int)))∧(w'.cell? ⟨E,0,none⟩=some (.int .u64 (wd (m) 0:Int))∧w'.cell? ⟨E,1,none⟩=some (.int .u64 (wd (m) 1:Int))∧w'.cell? ⟨E,2,none⟩=some (.int .u64 (wd (m) 2:Int))∧w'.cell? ⟨E,3,none⟩=some (.int .u64 (wd (m) 3:Int)))) (first | (with_reducible exact ⟨D.cell _ _ (by simp),D.cell _ _ (by simp),D.cell _ _ (by simp)⟩) | (with_reducible exact ⟨(D.set f 0 (r) [(G,a),(F,b),(E,m)] (by simp) (by rw [z]; exact M.out) (fun p I=>⟨by simp at I ⊢; rcases I with h | h | h <;> simp [h],U.out p (by simp at I ⊢; rcases I with h | h | h <;> simp [h])⟩)).cell _ _ (by simp),(D.set f 0 (r) [(G,a),(F,b),(E,m)] (by simp) (by rw [z]; exact M.out) (fun p I=>⟨by simp at I ⊢; rcases I with h | h | h <;> simp [h],U.out p (by simp at I ⊢; rcases I with h | h | h <;> simp [h])⟩)).cell _ _ (by simp),(D.set f 0 (r) [(G,a),(F,b),(E,m)] (by simp) (by rw [z]; exact M.out) (fun p I=>⟨by simp at I ⊢; rcases I with h | h | h <;> simp [h],U.out p (by simp at I ⊢; rcases I with h | h | h <;> simp [h])⟩)).cell _ _ (by simp)⟩)) (first | ((go_at_call 43); (with_reducible refine (by_at m (by assumption)).mono ?_); rintro e wn ⟨gb,rfl,D⟩; obtain ⟨z0,z1,Z,z3⟩:=D.cell f 0 (by simp); have V:=D.lt f 0 (by simp); have Y:=D.frozen f 0 (by simp)) | ((go_at_call 65); (with_reducible refine (rmul_at a b m r gb (by assumption) (by simp) AL.out BL.out ML.out (by have:=A1.out; omega) ER.out).mono ?_); rintro e wn ⟨rfl,D⟩; obtain ⟨z0,z1,Z,z3⟩:=D.cell f 0 (by simp); have V:=D.lt f 0 (by simp); have Y:=D.frozen f 0 (by simp)))
 all_goals
  have HZ:=hid (D.set f 0 (r) [] (by simp) (by rw [z]; exact M.out) (by simp))
  go_wp2
  try rw [Exit.noGoto_ret]
  change bodyPost _ _ _ _ _ (fil _ f (r))
  generalize fil _ f (r)=wz at *
  obtain ⟨k0,k1,k2,k3⟩:=HZ.out.cell f (r) (by simp)
  exact bodyPost_ret (v:=.tuple #[af (r),.int .i64 0]) (by simp [results,Tryz.results20,go_sem,k0,k1,k2,k3]) rfl ⟨by rw [ER.out],HZ.out.1⟩
theorem madd_at (a b m r:Nat) {w w':World} {l:List (Nat×Nat)} (h:ae w l w') (f:m<2 ^ 256) (E:1<m) (z:a<m) (hb:b<m) (D:(a+b) % m=r):Calls Tryz.prog 21 #[af a,af b,af m] w' fun e w2=>e=.returned (.tuple #[af r,.int .i64 0])∧ae w l w2:=by
 subst D; exact ah (madd_some a b m w' (Nat.lt_trans z f) (Nat.lt_trans hb f) f ⟨E,z,hb⟩) h
theorem mmul_at (a b m r:Nat) {w w':World} {l:List (Nat×Nat)} (h:ae w l w') (f:m<2 ^ 256) (E:1<m) (z:a<m) (hb:b<m) (D:a * b % m=r):Calls Tryz.prog 20 #[af a,af b,af m] w' fun e w2=>e=.returned (.tuple #[af r,.int .i64 0])∧ae w l w2:=by
 subst D; exact ah (mmul_some a b m w' (Nat.lt_trans z f) (Nat.lt_trans hb f) f ⟨E,z,hb⟩) h
theorem ae.below {w w':World} {l:List (Nat×Nat)} (h:ae w l w'):Below w.heap.size w w':=h.1
theorem ae.two {w w':World} {l:List (Nat×Nat)} (h:ae w l w') (D J F z I E:Nat) (l':List (Nat×Nat)) (M:(D,J)∈l) (L:(z,I)∈l) (b1:w.heap.size≤D) (O:w.heap.size≤z) (G:D≠z) (K:∀ p∈l',p∈l∧p.1≠D∧p.1≠z) :
  ae w ((D,F) :: (z,E) :: l') (fil (fil w' D F) z E)∧ae w ((D,F) :: (z,E) :: l') (fil (fil w' z E) D F)∧ae w ((D,F) :: (z,I) :: l') (fil w' D F)∧ae w ((z,E) :: (D,J) :: l') (fil w' z E):=by
 have A:ae w ((D,F) :: (z,I) :: l') (fil w' D F):=h.set D J F ((z,I) :: l') M b1 (fun p f=>by
  rcases List.mem_cons.1 f with rfl | f
  ·exact ⟨L,Ne.symm G⟩
  ·exact ⟨(K p f).1,(K p f).2.1⟩)
 have B:ae w ((z,E) :: (D,J) :: l') (fil w' z E):=h.set z I E ((D,J) :: l') L O (fun p f=>by
  rcases List.mem_cons.1 f with rfl | f
  ·exact ⟨M,G⟩
  ·exact ⟨(K p f).1,(K p f).2.2⟩)
 refine ⟨?_,?_,A,B⟩
 ·exact (A.set z I E ((D,F) :: l') (by simp) O (fun p f=>by
   rcases List.mem_cons.1 f with rfl | f
   ·exact ⟨by simp,G⟩
   ·exact ⟨by simp [f],(K p f).2.2⟩)).perm (by intro p f; simp only [List.mem_cons] at f ⊢; rcases f with h | h | h <;> simp [h])
 ·exact B.set D J F ((z,E) :: l') (by simp) b1 (fun p f=>by
   rcases List.mem_cons.1 f with rfl | f
   ·exact ⟨by simp,Ne.symm G⟩
   ·exact ⟨by simp [f],(K p f).2.1⟩)
def InvP (a m wh re la ne:Nat):Prop:=re<wh∧wh≤m∧la<m∧ne<m∧Cg m ((a:Int) * la) wh∧Cg m ((a:Int) * ne) re∧Nat.gcd wh re=Nat.gcd a m∧wh≠1
theorem InvP.step {a m D f la ne t z:Nat} (h:InvP a m D f la ne) (Y:f≠0) (M:f≠1) (G:D / f * ne % m=t) (F:(la+(m - t)) % m=z):InvP a m f (D % f) ne z:=by
 obtain ⟨V,U,R,L,K,E,J,O⟩:=h
 have I:0<m:=by omega
 refine ⟨Nat.mod_lt _ (by omega),by omega,L,by rw [← F]; exact Nat.mod_lt _ I,E,?_,by rw [gcd_step]; exact J,M⟩
 refine ivs_step K E G.symm ?_
 rw [← F]
 exact Cg.of_sub (by rw [← G]; exact Nat.le_of_lt (Nat.mod_lt _ I))
theorem InvP.no {a m f la ne:Nat} (h:InvP a m f 0 la ne):Nat.gcd a m≠1:=by
 rw [← h.2.2.2.2.2.2.1,Nat.gcd_zero_right]; exact h.2.2.2.2.2.2.2
def InvE (a m:Nat) (e:Ending):Prop:=(∃ v,Ivs a m v∧e=.returned (.tuple #[af v,.int .i64 0]))∨(Nat.gcd a m≠1∧e=.returned (.tuple #[af 0,.int .i64 7]))
theorem rsub_b (a b m r g:Nat) (w:World) (D:Nm w g m) (E:a<m) (hb:b<m) (z:m<2 ^ 256) (f:(a+(m - b)) % m=r):Calls Tryz.prog 64 #[af a,af b,.pointer (some ⟨g,0,none⟩)] w fun e w'=>e=.returned (af r)∧Below w.heap.size w w':=by
 subst f; exact rsub_any a b m g w D E hb z
theorem rmul_b (a b m r g:Nat) (w:World) (D:Nm w g m) (E:a<2 ^ 256) (hb:b<2 ^ 256) (z:m<2 ^ 256) (F:m≠0) (f:a * b % m=r):Calls Tryz.prog 65 #[af a,af b,.pointer (some ⟨g,0,none⟩)] w fun e w'=>e=.returned (af r)∧Below w.heap.size w w':=by
 subst f; exact rmul_any a b m g w D E hb z F
def InvtE (m:Nat) (e:Ending):Prop:=∃ x,e=.returned (af x)∧x<2 ^ 256∧Cg (2 ^ 256) ((m:Int) * x) 1
theorem ci (m:Nat) (w:World) (hm:m<2 ^ 256) (ho:m % 2=1):Calls Tryz.prog 122 #[af m] w fun e w'=>InvtE m e∧Below w.heap.size w w':=by
 have ML:=hid hm
 have cf:=hid (show Cg (2 ^ few 0) ((m:Int) * m) 1 by rw [show few 0=3 by decide]; exact cg_square ho)
 clear hm ho
 have H0:=hid ((((ae.refl w).new m).zero).perm (l':=[(w.heap.size+1,0),(w.heap.size,m)]) (by simp))
 have DZ:=hid (show w.heap.size≤w.heap.size+1 by omega)
 have DN:=hid (show ∀ p∈[(w.heap.size,m)],p.1≠w.heap.size+1 by simp; try omega)
 go_enter Tryz.func122,Tryz.ntmps122
 go_upto_region 1 with fail
 generalize (w.alloc (.cells (ai m) 24)).alloc (.cells #[.int .u64 0,.int .u64 0,.int .u64 0,.int .u64 0] 24)=w0 at *
 generalize w.heap.size+1=D at *
 generalize O:w.heap.size=F at *
 obtain ⟨aN,aM,aL,aK⟩:=H0.out.cell (F) (m) (by simp)
 have ax:=H0.out.lt (F) (m) (by simp)
 have aJ:=Nat.le_of_lt ax
 go_wp2_with fail
 clear aN aM aL aK ax aJ
 have HF:=hid H0.out.fresh
 have bX:=hid (H0.out.new m)
 clear H0
 generalize w0.alloc (.cells (ai m) 24)=cp at *
 generalize w0.heap.size=g3 at *
 go_loopw [9] (fun s wr=>∃ i x:Nat,i≤7∧s=.int .i64 (i:Int)∧Hid (x<2 ^ 256∧Cg (2 ^ few i) ((m:Int) * x) 1)∧Hid (ae w [(g3,x),(D,0),(F,m)] wr)) (fun s _=>7 - (intOf s).toNat)
 case atStart=>exact ⟨0,m,by omega,rfl,hid ⟨ML.out,cf.out⟩,bX⟩
 case round =>
  obtain ⟨i,x,hi,rfl,P,H⟩:=hrel
  clear bX
  by_cases h7:i=7
  ·subst h7
   have cq:¬ (((7:Nat):Int)<7):=by omega
   have PX:=hid (show InvtE m (.returned (af x)) from ⟨x,rfl,P.out.1,by have:=P.out.2; rwa [few_seven] at this⟩)
   obtain ⟨cd,cc,cb,ca⟩:=H.out.cell (g3) (x) (by simp)
   have bI:=H.out.lt (g3) (x) (by simp)
   have bZ:=Nat.le_of_lt bI
   obtain ⟨z0,z1,z2,z3⟩:=H.out.cell D 0 (by simp)
   have zl:=H.out.lt D 0 (by simp)
   have zf:=H.out.frozen D 0 (by simp)
   have HZ:=hid (H.out.set D 0 (x) [] (by simp) (by rw [O]; exact DZ.out) (by simp))
   go_wp2
   clear z0 z1 z2 z3 zl zf
   try rw [Exit.noGoto_ret]
   change bodyPost _ _ _ _ _ (fil wr D (x))
   generalize fil wr D (x)=wz at *
   obtain ⟨k0,k1,k2,k3⟩:=HZ.out.cell D (x) (by simp)
   exact bodyPost_ret (v:=af (x)) (by simp [results,Tryz.results122,go_sem,k0,k1,k2,k3]) rfl ⟨PX.out,(by have hq:=HZ.out.1; rwa [O] at hq)⟩
  ·have cs:(i:Int)<7:=by omega
   obtain ⟨lo,al⟩:∃ z,m * x % 2 ^ 256=z:=⟨_,rfl⟩
   obtain ⟨hi,bV⟩:∃ z,m * x / 2 ^ 256=z:=⟨_,rfl⟩
   obtain ⟨I,an⟩:∃ z,dif 2 lo=z:=⟨_,rfl⟩
   obtain ⟨k,ek⟩:∃ z,cM 2 lo=z:=⟨_,rfl⟩
   obtain ⟨t,et⟩:∃ z,x * I % 2 ^ 256=z:=⟨_,rfl⟩
   obtain ⟨th,bU⟩:∃ z,x * I / 2 ^ 256=z:=⟨_,rfl⟩
   have XL:=hid P.out.1
   have LL:=hid (show lo<2 ^ 256 by rw [← al]; exact Nat.mod_lt _ (Nat.two_pow_pos _))
   have EL:=hid (show I<2 ^ 256 by rw [← an]; exact dif_lt (by decide) LL.out)
   have TL:=hid (show t<2 ^ 256 by rw [← et]; exact Nat.mod_lt _ (Nat.two_pow_pos _))
   have NX:=hid (show t<2 ^ 256∧Cg (2 ^ few (i+1)) ((m:Int) * t) 1 from ⟨TL.out,invert_round ML.out P.out.1 P.out.2 al an et⟩)
   have Elo:=hid al
   have Ehi:=hid bV
   have Ele:=hid an
   have Et:=hid et
   have Eth:=hid bU
   have Ek:=hid (show ((cM 2 lo:Nat):Int)=(k:Int) by rw [ek])
   clear al bV an ek et bU h7
   obtain ⟨bG,bA,bz,bx⟩:=H.out.cell (F) (m) (by simp)
   have ad:=H.out.lt (F) (m) (by simp)
   have bv:=Nat.le_of_lt ad
   obtain ⟨aW,aU,aT,aS⟩:=H.out.cell (g3) (x) (by simp)
   have Y:=H.out.lt (g3) (x) (by simp)
   have aR:=Nat.le_of_lt Y
   go_wp2_with fail
   clear bG bA bz bx ad bv aW aU aT aS Y aR
   refine (mul_at m x lo hi H.out ML.out XL.out Elo.out Ehi.out).mono ?_
   rintro e w7 ⟨rfl,h⟩
   have H7:=hid h
   clear h H
   go_upto_region 5 with fail
   have bW:=hid (H7.out.new2 lo hi)
   clear H7
   generalize (w7.alloc (.cells (ai lo) 24)).alloc (.cells (ai hi) 24)=bY at *
   generalize w7.heap.size+1=J at *
   generalize w7.heap.size=g4 at *
   go_upto_region 5 with fail
   go_cut [6,7] (fun s6 s7 wx=>∃ G:Nat,s6=.pointer (some ⟨G,0,none⟩)∧s7=.int .u64 (k:Int)∧Hid (ae w [(G,I),(J,hi),(g4,lo),(g3,x),(D,0),(F,m)] wx))
   case first =>
    have f:=bW.out.drew
    refine wp_region_noPanic ?_
    refine aa.region (fun (L:Array Bool) (w':World)=>(w'.cell? ⟨g4,0,none⟩=some (.int .u64 (wd (lo) 0:Int))∧w'.cell? ⟨g4,1,none⟩=some (.int .u64 (wd (lo) 1:Int))∧w'.cell? ⟨g4,2,none⟩=some (.int .u64 (wd (lo) 2:Int))∧w'.cell? ⟨g4,3,none⟩=some (.int .u64 (wd (lo) 3:Int)))) (by kernel_rfl) ?_
    generalize bY.drew=wd at *
    refine aa.tk (i:=1) (o:=⟨some 19,_,_,_,_,_⟩) (v:=?_) [] (y:=Or.inl ⟨by rfl,?_⟩) (s:=ae.cell (f) g4 (lo) (by simp)) (H:=?_)
    rotate_left
    ·rintro w ⟨up,-,hX⟩; (try dsimp only at hX); go_simp; try with_reducible rfl
    try simp only [ac]
    refine aa.two (i:=0) (j:=6) (o:=⟨some 18,_,_,_,_,_⟩) (p:=⟨some 6,_,_,_,_,_⟩) (by kernel_rfl) rfl rfl (fun K E=>?_) (fun K E=>?_)
    ·skip
     go_simp
     with_reducible refine (dh 2 2 f (by decide) (by decide)).mono ?_
     rintro e bP ⟨rfl,aE⟩
     go_wp2_with fail
     refine E.out _ _ (ae.cell (aE) g4 (lo) (by simp)) ?_
     clear E K
     try simp only [ac]
     clear f
     have f:=aE
     clear aE
     refine aa.two (i:=2) (j:=6) (o:=⟨some 20,_,_,_,_,_⟩) (p:=⟨some 6,_,_,_,_,_⟩) (by kernel_rfl) rfl rfl (fun K E=>?_) (fun K E=>?_)
     ·skip
      go_simp
      with_reducible refine (sub_at 2 lo I k f (by decide) LL.out Ele.out Ek.out).mono ?_
      rintro e bO ⟨rfl,ao⟩
      go_wp2_with fail
      refine E.out _ _ (ae.cell (ao) g4 (lo) (by simp)) ?_
      clear E K
      try simp only [ac]
      clear f
      have f:=ao
      clear ao
      refine aa.q 3 ⟨some 17,_,_,_,_,_⟩ (ae.cell (f) g4 (lo) (by simp)) ?_
      try simp only [ac]
      refine aa.q 4 ⟨some 21,_,_,_,_,_⟩ (ae.cell (f) g4 (lo) (by simp)) ?_
      try simp only [ac]
      refine aa.q 5 ⟨some 22,_,_,_,_,_⟩ (ae.cell (f) g4 (lo) (by simp)) ?_
      try simp only [ac]
      refine aa.one (i:=6) (o:=⟨some 6,_,_,_,_,_⟩) (by kernel_rfl) rfl (fun K E=>?_)
      go_simp
      refine E.out _ _ (ae.cell (f.zero) g4 (lo) (by simp)) ?_
      clear E K
      try simp only [ac]
      have Fg6:=hid f.fresh
      have dN:=f.zero
      clear f
      generalize bO.alloc (.cells #[.int .u64 0,.int .u64 0,.int .u64 0,.int .u64 0] 24)=bN at *
      generalize bO.heap.size=G at *
      have f:=dN
      clear dN
      refine aa.one (i:=7) (o:=⟨none,_,_,_,_,_⟩) (by kernel_rfl) rfl (fun K E=>?_)
      obtain ⟨z0,z1,z2,z3⟩:=f.cell G 0 (by simp)
      have zl:=f.lt G 0 (by simp)
      have zf:=f.frozen G 0 (by simp)
      have aA:=f.set G 0 (I) [(J,hi),(g4,lo),(g3,x),(D,0),(F,m)] (by simp) Fg6.out.1 (fun p hp=>by simp only [List.mem_cons,List.not_mem_nil,or_false] at hp; rcases hp with rfl | rfl | rfl | rfl | rfl <;> first | exact ⟨by simp,(Fg6.out.2 (J,hi) (by simp))⟩ | exact ⟨by simp,(Fg6.out.2 (g4,lo) (by simp))⟩ | exact ⟨by simp,(Fg6.out.2 (g3,x) (by simp))⟩ | exact ⟨by simp,(Fg6.out.2 (D,0) (by simp))⟩ | exact ⟨by simp,(Fg6.out.2 (F,m) (by simp))⟩)
      go_simp
      refine E.out _ _ (ae.cell (aA) g4 (lo) (by simp)) ?_
      clear E K
      try simp only [ac]
      clear f z0 z1 z2 z3 zl zf
      change aa _ _ _ _ _ _ _ _ (fil bN G (I))
      generalize fil bN G (I)=co at *
      have f:=aA
      clear aA
      refine aa.q 8 ⟨some 7,_,_,_,_,_⟩ (ae.cell (f) g4 (lo) (by simp)) ?_
      try simp only [ac]
      refine aa.done (by kernel_rfl) ?_ _
      refine NoPanic.normal ?_
      go_wp2_with fail
      go_meet
      exact ⟨_,rfl,rfl,hid (f.perm (by simp))⟩
     ·skip
      go_simp
      refine E.out _ _ (ae.cell (f.zero) g4 (lo) (by simp)) ?_
      clear E K
      try simp only [ac]
      have Fg6:=hid f.fresh
      have bR:=f.zero
      clear f
      generalize bP.alloc (.cells #[.int .u64 0,.int .u64 0,.int .u64 0,.int .u64 0] 24)=cn at *
      generalize bP.heap.size=G at *
      have f:=bR
      clear bR
      refine aa.one (i:=2) (o:=⟨some 20,_,_,_,_,_⟩) (by kernel_rfl) rfl (fun K E=>?_)
      go_simp
      with_reducible refine (sub_at 2 lo I k f (by decide) LL.out Ele.out Ek.out).mono ?_
      rintro e bK ⟨rfl,az⟩
      go_wp2_with fail
      refine E.out _ _ (ae.cell (az) g4 (lo) (by simp)) ?_
      clear E K
      try simp only [ac]
      clear f
      have f:=az
      clear az
      refine aa.q 3 ⟨some 17,_,_,_,_,_⟩ (ae.cell (f) g4 (lo) (by simp)) ?_
      try simp only [ac]
      refine aa.q 4 ⟨some 21,_,_,_,_,_⟩ (ae.cell (f) g4 (lo) (by simp)) ?_
      try simp only [ac]
      refine aa.q 5 ⟨some 22,_,_,_,_,_⟩ (ae.cell (f) g4 (lo) (by simp)) ?_
      try simp only [ac]
      refine aa.one (i:=7) (o:=⟨none,_,_,_,_,_⟩) (by kernel_rfl) rfl (fun K E=>?_)
      obtain ⟨z0,z1,z2,z3⟩:=f.cell G 0 (by simp)
      have zl:=f.lt G 0 (by simp)
      have zf:=f.frozen G 0 (by simp)
      have ay:=f.set G 0 (I) [(J,hi),(g4,lo),(g3,x),(D,0),(F,m)] (by simp) Fg6.out.1 (fun p hp=>by simp only [List.mem_cons,List.not_mem_nil,or_false] at hp; rcases hp with rfl | rfl | rfl | rfl | rfl <;> first | exact ⟨by simp,(Fg6.out.2 (J,hi) (by simp))⟩ | exact ⟨by simp,(Fg6.out.2 (g4,lo) (by simp))⟩ | exact ⟨by simp,(Fg6.out.2 (g3,x) (by simp))⟩ | exact ⟨by simp,(Fg6.out.2 (D,0) (by simp))⟩ | exact ⟨by simp,(Fg6.out.2 (F,m) (by simp))⟩)
      go_simp
      refine E.out _ _ (ae.cell (ay) g4 (lo) (by simp)) ?_
      clear E K
      try simp only [ac]
      clear f z0 z1 z2 z3 zl zf
      change aa _ _ _ _ _ _ _ _ (fil bK G (I))
      generalize fil bK G (I)=cm at *
      have f:=ay
      clear ay
      refine aa.q 8 ⟨some 7,_,_,_,_,_⟩ (ae.cell (f) g4 (lo) (by simp)) ?_
      try simp only [ac]
      refine aa.done (by kernel_rfl) ?_ _
      refine NoPanic.normal ?_
      go_wp2_with fail
      go_meet
      exact ⟨_,rfl,rfl,hid (f.perm (by simp))⟩
    ·skip
     go_simp
     refine E.out _ _ (ae.cell (f.zero) g4 (lo) (by simp)) ?_
     clear E K
     try simp only [ac]
     have Fg6:=hid f.fresh
     have bQ:=f.zero
     clear f
     generalize wd.alloc (.cells #[.int .u64 0,.int .u64 0,.int .u64 0,.int .u64 0] 24)=cl at *
     generalize wd.heap.size=G at *
     have f:=bQ
     clear bQ
     refine aa.one (i:=0) (o:=⟨some 18,_,_,_,_,_⟩) (by kernel_rfl) rfl (fun K E=>?_)
     go_simp
     with_reducible refine (dh 2 2 f (by decide) (by decide)).mono ?_
     rintro e ck ⟨rfl,ar⟩
     go_wp2_with fail
     refine E.out _ _ (ae.cell (ar) g4 (lo) (by simp)) ?_
     clear E K
     try simp only [ac]
     clear f
     have f:=ar
     clear ar
     refine aa.one (i:=2) (o:=⟨some 20,_,_,_,_,_⟩) (by kernel_rfl) rfl (fun K E=>?_)
     go_simp
     with_reducible refine (sub_at 2 lo I k f (by decide) LL.out Ele.out Ek.out).mono ?_
     rintro e ap ⟨rfl,U⟩
     go_wp2_with fail
     refine E.out _ _ (ae.cell (U) g4 (lo) (by simp)) ?_
     clear E K
     try simp only [ac]
     clear f
     have f:=U
     clear U
     refine aa.q 3 ⟨some 17,_,_,_,_,_⟩ (ae.cell (f) g4 (lo) (by simp)) ?_
     try simp only [ac]
     refine aa.q 4 ⟨some 21,_,_,_,_,_⟩ (ae.cell (f) g4 (lo) (by simp)) ?_
     try simp only [ac]
     refine aa.q 5 ⟨some 22,_,_,_,_,_⟩ (ae.cell (f) g4 (lo) (by simp)) ?_
     try simp only [ac]
     refine aa.one (i:=7) (o:=⟨none,_,_,_,_,_⟩) (by kernel_rfl) rfl (fun K E=>?_)
     obtain ⟨z0,z1,z2,z3⟩:=f.cell G 0 (by simp)
     have zl:=f.lt G 0 (by simp)
     have zf:=f.frozen G 0 (by simp)
     have R:=f.set G 0 (I) [(J,hi),(g4,lo),(g3,x),(D,0),(F,m)] (by simp) Fg6.out.1 (fun p hp=>by simp only [List.mem_cons,List.not_mem_nil,or_false] at hp; rcases hp with rfl | rfl | rfl | rfl | rfl <;> first | exact ⟨by simp,(Fg6.out.2 (J,hi) (by simp))⟩ | exact ⟨by simp,(Fg6.out.2 (g4,lo) (by simp))⟩ | exact ⟨by simp,(Fg6.out.2 (g3,x) (by simp))⟩ | exact ⟨by simp,(Fg6.out.2 (D,0) (by simp))⟩ | exact ⟨by simp,(Fg6.out.2 (F,m) (by simp))⟩)
     go_simp
     refine E.out _ _ (ae.cell (R) g4 (lo) (by simp)) ?_
     clear E K
     try simp only [ac]
     clear f z0 z1 z2 z3 zl zf
     change aa _ _ _ _ _ _ _ _ (fil ap G (I))
     generalize fil ap G (I)=cj at *
     have f:=R
     clear R
     refine aa.q 8 ⟨some 7,_,_,_,_,_⟩ (ae.cell (f) g4 (lo) (by simp)) ?_
     try simp only [ac]
     refine aa.done (by kernel_rfl) ?_ _
     refine NoPanic.normal ?_
     go_wp2_with fail
     go_meet
     exact ⟨_,rfl,rfl,hid (f.perm (by simp))⟩
   case rest =>
    obtain ⟨G,rfl,rfl,M⟩:=hcut
    clear bW
    obtain ⟨bu,bq,bp,bo⟩:=M.out.cell (g3) (x) (by simp)
    have ab:=M.out.lt (g3) (x) (by simp)
    have bn:=Nat.le_of_lt ab
    obtain ⟨aQ,aI,aG,aC⟩:=M.out.cell (G) (I) (by simp)
    have V:=M.out.lt (G) (I) (by simp)
    have aB:=Nat.le_of_lt V
    go_wp2_with fail
    clear bu bq bp bo ab bn aQ aI aG aC V aB
    refine (mul_at x I t th M.out XL.out EL.out Et.out Eth.out).mono ?_
    rintro e w9 ⟨rfl,h⟩
    have H9:=hid h
    clear h M
    obtain ⟨bm,bk,bd,bb⟩:=H9.out.cell (g3) (x) (by simp)
    have Z:=H9.out.lt (g3) (x) (by simp)
    have ba:=Nat.le_of_lt Z
    have bS:=H9.out.frozen g3 x (by simp)
    have HZ:=hid (H9.out.set g3 x t [(D,0),(F,m)] (by simp) HF.out.1 (fun q hq=>by simp only [List.mem_cons,List.not_mem_nil,or_false] at hq; rcases hq with rfl | rfl <;> first | exact ⟨by simp,HF.out.2 (D,0) (by simp)⟩ | exact ⟨by simp,HF.out.2 (F,m) (by simp)⟩))
    go_wp2_with fail
    clear bm bk bd bb Z ba bS
    go_roundw
    case measure=>simp [intOf]; omega
    case rel=>exact ⟨i+1,t,by omega,by simp,NX,HZ⟩
def F1 (w:World) (g:Nat) (v:Value):Prop:=w.heap[g]?=some (.cells #[v] 56 (0,0))
theorem F1.on {w w':World} {g:Nat} {v:Value} (h:F1 w g v) (hb:Below w.heap.size w w'):F1 w' g v:=(hb.block g (lt_of_block h)).trans h
theorem F1.cell {w w':World} {g:Nat} {v:Value} (h:F1 w g v) (hb:Below w.heap.size w w'):w'.cell? ⟨g,0,none⟩=some v:=by
 rw [cell_of_row w' g _ _ 56 (0,0) (h.on hb)]; rfl
theorem F1.lt {w w':World} {g:Nat} {v:Value} (h:F1 w g v) (hb:Below w.heap.size w w'):g<w'.heap.size:=lt_of_block (h.on hb)
def LowE (m a b:Nat) (e:Ending):Prop:=∃ z,e=.returned (af z)∧z<m∧Cg m ((z:Int) * (2 ^ 256:Nat)) ((a:Int)+(2 ^ 256:Nat) * b)
theorem lower_any (a b m D L K gs gb:Nat) (w:World) (ha:a<2 ^ 256) (hb:b<m) (hm:m<2 ^ 256) (R:D<2 ^ 256) (Z:Cg (2 ^ 256) ((m:Int) * D) 1) (V:Nm w L D) (U:Nm w K m) (Y:Nm w gb m) (O:F1 w gs (.func (.func 64) #[] #[.pointer (some ⟨gb,0,none⟩)])):Calls Tryz.prog 123 #[af a,af b,.pointer (some ⟨L,0,none⟩),.pointer (some ⟨K,0,none⟩),.pointer (some ⟨gs,0,none⟩)] w fun e w'=>LowE m a b e∧Below w.heap.size w w':=by
 obtain ⟨o,eo⟩:∃ z,a * D % 2 ^ 256=z:=⟨_,rfl⟩
 obtain ⟨oh,ao⟩:∃ z,a * D / 2 ^ 256=z:=⟨_,rfl⟩
 obtain ⟨p,ep⟩:∃ z,o * m % 2 ^ 256=z:=⟨_,rfl⟩
 obtain ⟨G,E⟩:∃ z,o * m / 2 ^ 256=z:=⟨_,rfl⟩
 obtain ⟨z,ez⟩:∃ z,(b+(m - G)) % m=z:=⟨_,rfl⟩
 have ol:o<2 ^ 256:=by rw [← eo]; exact Nat.mod_lt _ (Nat.two_pow_pos _)
 have al:G<m:=by rw [← E]; exact above_lt ol (by omega)
 have CG:=hid (show Cg m ((z:Int) * (2 ^ 256:Nat)) ((a:Int)+(2 ^ 256:Nat) * b) from by
  have h1:=lower_cg (high:=b) ha Z eo.symm E.symm
  have h2:Cg m (z:Int) ((b:Int) - G):=by rw [← ez]; exact Cg.of_sub (Nat.le_of_lt al)
  exact (h2.mul (Cg.refl m _)).trans h1)
 have ZL:=hid (show z<m by rw [← ez]; exact Nat.mod_lt _ (by omega))
 have AL:=hid (ha)
 have BM:=hid (hb)
 have BL:=hid (Nat.lt_trans hb hm)
 have ML:=hid (hm)
 have IL:=hid (R)
 have OL:=hid (ol)
 have aA:=hid (al)
 have aW:=hid (Nat.lt_trans al hm)
 have EO:=hid (eo)
 have ar:=hid (ao)
 have EP:=hid (ep)
 have az:=hid (E)
 have EZ:=hid (ez)
 have EE:=hid (show ae w [(L,D),(K,m),(gb,m)] w from ⟨Below.refl _ _,by simp; exact ⟨V,U,Y⟩⟩)
 have SB:=hid O
 clear ha hb hm R Z ol al eo ao ep E ez V U Y O
 have M:=hid (((((EE.out).new a).new b).zero).perm (l':=[(w.heap.size+1+1,0),(w.heap.size+1,b),(w.heap.size,a),(L,D),(K,m),(gb,m)]) (by simp))
 have DZ:=hid (show w.heap.size≤w.heap.size+1+1 by omega)
 go_enter Tryz.func123,Tryz.ntmps123
 go_upto_region 1 with fail
 generalize ((w.alloc (.cells (ai a) 24)).alloc (.cells (ai b) 24)).alloc (.cells #[.int .u64 0,.int .u64 0,.int .u64 0,.int .u64 0] 24)=w0 at *
 generalize w.heap.size+1+1=f at *
 generalize w.heap.size+1=ad at *
 generalize J:w.heap.size=an at *
 obtain ⟨aN,aM,aL,aK⟩:=M.out.cell (an) (a) (by simp)
 have ax:=M.out.lt (an) (a) (by simp)
 have aJ:=Nat.le_of_lt ax
 obtain ⟨bZ,bX,bW,bV⟩:=M.out.cell (L) (D) (by simp)
 have bd:=M.out.lt (L) (D) (by simp)
 have bU:=Nat.le_of_lt bd
 go_wp2_with fail
 clear aN aM aL aK ax aJ bZ bX bW bV bd bU
 refine (mul_at a D o oh M.out AL.out IL.out EO.out ar.out).mono ?_
 rintro e w1 ⟨rfl,h⟩
 have H1:=hid h
 clear h M
 obtain ⟨aU,aT,aS,aR⟩:=H1.out.cell (K) (m) (by simp)
 have ay:=H1.out.lt (K) (m) (by simp)
 have aQ:=Nat.le_of_lt ay
 go_wp2_with fail
 clear aU aT aS aR ay aQ
 have ap:=hid (H1.out.new2 o oh)
 clear H1
 generalize (w1.alloc (.cells (ai o) 24)).alloc (.cells (ai oh) 24)=aE at *
 generalize w1.heap.size+1=aG at *
 generalize w1.heap.size=g8 at *
 refine (mul_at o m p G ap.out OL.out ML.out EP.out az.out).mono ?_
 rintro e w2 ⟨rfl,h⟩
 have H2:=hid h
 clear h ap
 go_upto_region 3 with fail
 have F:=hid (H2.out.new2 p G)
 clear H2
 generalize (w2.alloc (.cells (ai p) 24)).alloc (.cells (ai G) 24)=aB at *
 generalize w2.heap.size+1=I at *
 generalize w2.heap.size=aI at *
 obtain ⟨bq,bp,bo,bn⟩:=F.out.cell (ad) (b) (by simp)
 have aC:=F.out.lt (ad) (b) (by simp)
 have bm:=Nat.le_of_lt aC
 obtain ⟨cZ,cY,cX,cW⟩:=F.out.cell (I) (G) (by simp)
 have bG:=F.out.lt (I) (G) (by simp)
 have cV:=Nat.le_of_lt bG
 have kf:=SB.out.cell F.out.below
 have kl:=SB.out.lt F.out.below
 go_wp2_with fail
 clear bq bp bo bn aC bm cZ cY cX cW bG cV
 clear kf kl
 refine (ah (rsub_b b G m z gb _ (F.out.nm gb m (by simp)) BM.out aA.out ML.out EZ.out) F.out).mono ?_
 rintro e w3 ⟨rfl,h⟩
 have H3:=hid h
 clear h F
 obtain ⟨z0,z1,z2,z3⟩:=H3.out.cell f 0 (by simp)
 have zl:=H3.out.lt f 0 (by simp)
 have zf:=H3.out.frozen f 0 (by simp)
 have HZ:=hid (H3.out.set f 0 (z) [] (by simp) (by rw [J]; exact DZ.out) (by simp))
 go_wp2
 clear z0 z1 z2 z3 zl zf
 try rw [Exit.noGoto_ret]
 change bodyPost _ _ _ _ _ (fil w3 f (z))
 generalize fil w3 f (z)=wz at *
 obtain ⟨k0,k1,k2,k3⟩:=HZ.out.cell f (z) (by simp)
 exact bodyPost_ret (v:=af (z)) (by simp [results,Tryz.results123,go_sem,k0,k1,k2,k3]) rfl ⟨⟨z,rfl,ZL.out,CG.out⟩,HZ.out.1⟩
def Shd (w:World) (m iv gi gm gs gb gl:Nat):Prop:=Nm w gi iv∧Nm w gm m∧Nm w gb m∧F1 w gs (.func (.func 64) #[] #[.pointer (some ⟨gb,0,none⟩)])∧F1 w gl (.func (.func 123) #[] #[.pointer (some ⟨gi,0,none⟩),.pointer (some ⟨gm,0,none⟩),.pointer (some ⟨gs,0,none⟩)])
theorem Shd.on {w w':World} {m f E D z gb gl:Nat} (h:Shd w m f E D z gb gl) (hb:Below w.heap.size w w'):Shd w' m f E D z gb gl:=⟨h.1.on hb,h.2.1.on hb,h.2.2.1.on hb,h.2.2.2.1.on hb,h.2.2.2.2.on hb⟩
theorem lower_sh (a b m f G F E gb gl:Nat) (w:World) (J:a<2 ^ 256) (hb:b<m) (I:m<2 ^ 256) (z:f<2 ^ 256) (D:Cg (2 ^ 256) ((m:Int) * f) 1) (h:Shd w m f G F E gb gl):Calls Tryz.prog 123 #[af a,af b,.pointer (some ⟨G,0,none⟩),.pointer (some ⟨F,0,none⟩),.pointer (some ⟨E,0,none⟩)] w fun e w'=>LowE m a b e∧Below w.heap.size w w' :=
 lower_any a b m f G F E gb w J hb I z D h.1 h.2.1 h.2.2.1 h.2.2.2.1
theorem enter_any (a m G:Nat) (w:World) (U:a<2 ^ 256) (O:m<2 ^ 256) (V:m≠0) (R:Nm w G m):Calls Tryz.prog 124 #[af a,.pointer (some ⟨G,0,none⟩)] w fun e w'=>e=.returned (af (a * 2 ^ 256 % m))∧Below w.heap.size w w':=by
 obtain ⟨r,K⟩:∃ r,wid 0 a m=r:=⟨_,rfl⟩
 have M:a * 2 ^ 256 % m=r:=by rw [← K,wid,Nat.zero_add,Nat.mul_comm]
 have AL:=hid U
 have ML:=hid O
 have M0:=hid V
 have ER:=hid K
 have HR:=hid M
 have EE:=hid (ae.one R)
 have J:=dp
 have L:=hid J
 clear J
 clear U O V K M R
 have E:=hid ((((EE.out).new a).zero).perm (l':=[(w.heap.size+1,0),(w.heap.size,a),(G,m)]) (by simp))
 have DZ:=hid (show w.heap.size≤w.heap.size+1 by omega)
 go_enter Tryz.func124,Tryz.ntmps124
 go_upto_region 1 with fail
 generalize (w.alloc (.cells (ai a) 24)).alloc (.cells #[.int .u64 0,.int .u64 0,.int .u64 0,.int .u64 0] 24)=w0 at *
 generalize w.heap.size+1=f at *
 generalize D:w.heap.size=I at *
 obtain ⟨aN,aM,aL,aK⟩:=E.out.cell (I) (a) (by simp)
 have Z:=E.out.lt (I) (a) (by simp)
 have aJ:=Nat.le_of_lt Z
 obtain ⟨bZ,bX,bW,bV⟩:=E.out.cell (G) (m) (by simp)
 have Y:=E.out.lt (G) (m) (by simp)
 have bU:=Nat.le_of_lt Y
 go_wp2_with fail
 clear aN aM aL aK Z aJ bZ bX bW bV Y bU
 try rw [L.out]
 refine (wide_at 0 a m r E.out (by decide) AL.out ML.out M0.out ER.out).mono ?_
 rintro e w1 ⟨rfl,h⟩
 have H1:=hid h
 clear h E
 go_upto_region 2 with fail
 have z:=hid (H1.out.new r)
 clear H1
 generalize w1.alloc (.cells (ai r) 24)=F at *
 generalize w1.heap.size=g4 at *
 obtain ⟨aU,aT,aS,aR⟩:=z.out.cell (g4) (r) (by simp)
 have ay:=z.out.lt (g4) (r) (by simp)
 have aQ:=Nat.le_of_lt ay
 obtain ⟨J,z1,z2,z3⟩:=z.out.cell f 0 (by simp)
 have zl:=z.out.lt f 0 (by simp)
 have zf:=z.out.frozen f 0 (by simp)
 have HZ:=hid (z.out.set f 0 (r) [] (by simp) (by rw [D]; exact DZ.out) (by simp))
 go_wp2
 clear J z1 z2 z3 zl zf
 try rw [Exit.noGoto_ret]
 change bodyPost _ _ _ _ _ (fil F f (r))
 generalize fil F f (r)=wz at *
 obtain ⟨k0,k1,k2,k3⟩:=HZ.out.cell f (r) (by simp)
 exact bodyPost_ret (v:=af (r)) (by simp [results,Tryz.results124,go_sem,k0,k1,k2,k3]) rfl ⟨by rw [HR.out],HZ.out.1⟩
theorem leave_any (a m L gi gm gs gb gl:Nat) (w:World) (Y:a<2 ^ 256) (V:m<2 ^ 256) (Z:0<m) (G:L<2 ^ 256) (I:Cg (2 ^ 256) ((m:Int) * L) 1) (U:Shd w m L gi gm gs gb gl):Calls Tryz.prog 125 #[af a,.pointer (some ⟨gl,0,none⟩)] w fun e w'=>LowE m a 0 e∧Below w.heap.size w w':=by
 have AL:=hid Y
 have ML:=hid V
 have M0:=hid Z
 have IL:=hid G
 have CI:=hid I
 have E:=hid U
 have K:=dp
 have O:=hid K
 clear K
 clear Y V Z G I U
 have F:=hid ((((ae.refl w).new a).zero).perm (l':=[(w.heap.size+1,0),(w.heap.size,a)]) (by simp))
 have DZ:=hid (show w.heap.size≤w.heap.size+1 by omega)
 have DN:=hid (show ∀ p∈[(w.heap.size,a)],p.1≠w.heap.size+1 by simp; try omega)
 go_enter Tryz.func125,Tryz.ntmps125
 go_upto_region 1 with fail
 generalize (w.alloc (.cells (ai a) 24)).alloc (.cells #[.int .u64 0,.int .u64 0,.int .u64 0,.int .u64 0] 24)=w0 at *
 generalize w.heap.size+1=f at *
 generalize D:w.heap.size=J at *
 obtain ⟨aN,aM,aL,aK⟩:=F.out.cell (J) (a) (by simp)
 have ax:=F.out.lt (J) (a) (by simp)
 have aJ:=Nat.le_of_lt ax
 have kf:=E.out.2.2.2.2.cell F.out.below
 have kl:=E.out.2.2.2.2.lt F.out.below
 go_wp2_with fail
 clear aN aM aL aK ax aJ
 clear kf kl
 try rw [O.out]
 refine (lower_sh a 0 m L gi gm gs gb gl w0 AL.out M0.out ML.out IL.out CI.out (E.out.on F.out.below)).mono ?_
 rintro e w1 ⟨⟨z,rfl,R,hc⟩,hb⟩
 have PZ:=hid (show LowE m a 0 (.returned (af z)) from ⟨z,rfl,R,hc⟩)
 have M:=hid (F.out.on hb)
 clear R hc hb F
 obtain ⟨K,z1,z2,z3⟩:=M.out.cell f 0 (by simp)
 have zl:=M.out.lt f 0 (by simp)
 have zf:=M.out.frozen f 0 (by simp)
 have HZ:=hid (M.out.set f 0 (z) [] (by simp) (by rw [D]; exact DZ.out) (by simp))
 go_wp2
 clear K z1 z2 z3 zl zf
 try rw [Exit.noGoto_ret]
 change bodyPost _ _ _ _ _ (fil w1 f (z))
 generalize fil w1 f (z)=wz at *
 obtain ⟨k0,k1,k2,k3⟩:=HZ.out.cell f (z) (by simp)
 exact bodyPost_ret (v:=af (z)) (by simp [results,Tryz.results125,go_sem,k0,k1,k2,k3]) rfl ⟨PZ.out,HZ.out.1⟩
def LowE2 (m a b:Nat) (e:Ending):Prop:=∃ z,e=.returned (af z)∧z<m∧Cg m ((z:Int) * (2 ^ 256:Nat)) ((a:Int) * b)
theorem smul_any (a b m iv gi gm gs gb gl:Nat) (w:World) (ha:a<m) (hb:b<m) (U:m<2 ^ 256) (Y:iv<2 ^ 256) (ab:Cg (2 ^ 256) ((m:Int) * iv) 1) (f:Shd w m iv gi gm gs gb gl):Calls Tryz.prog 126 #[af a,af b,.pointer (some ⟨gl,0,none⟩)] w fun e w'=>LowE2 m a b e∧Below w.heap.size w w':=by
 obtain ⟨lo,I⟩:∃ z,a * b % 2 ^ 256=z:=⟨_,rfl⟩
 obtain ⟨hi,J⟩:∃ z,a * b / 2 ^ 256=z:=⟨_,rfl⟩
 have V:lo<2 ^ 256:=by rw [← I]; exact Nat.mod_lt _ (Nat.two_pow_pos _)
 have Z:hi<m:=by
  rw [← J]
  refine Nat.div_lt_of_lt_mul ?_
  have h1:a * b<m * m:=Nat.mul_lt_mul'' ha hb
  have h2:m * m≤2 ^ 256 * m:=Nat.mul_le_mul_right m (Nat.le_of_lt U)
  omega
 have ad:=hid (show ((lo:Int)+(2 ^ 256:Nat) * hi)=(a:Int) * b from by rw [← I,← J,← Int.natCast_mul,← Int.natCast_add,Nat.mod_add_div,Int.natCast_mul])
 have AL:=hid (Nat.lt_trans ha U)
 have BL:=hid (Nat.lt_trans hb U)
 have ML:=hid (U)
 have LL:=hid (V)
 have HM:=hid (Z)
 have al:=hid (I)
 have an:=hid (J)
 have IL:=hid (Y)
 have CI:=hid (ab)
 have F:=hid (f)
 clear ha hb U V Z I J Y ab f
 have H0:=hid (((((ae.refl w).new a).new b).zero).perm (l':=[(w.heap.size+1+1,0),(w.heap.size+1,b),(w.heap.size,a)]) (by simp))
 have DZ:=hid (show w.heap.size≤w.heap.size+1+1 by omega)
 have DN:=hid (show ∀ p∈[(w.heap.size,a),(w.heap.size+1,b)],p.1≠w.heap.size+1+1 by simp; try omega)
 go_enter Tryz.func126,Tryz.ntmps126
 go_upto_region 1 with fail
 generalize ((w.alloc (.cells (ai a) 24)).alloc (.cells (ai b) 24)).alloc (.cells #[.int .u64 0,.int .u64 0,.int .u64 0,.int .u64 0] 24)=w0 at *
 generalize w.heap.size+1+1=G at *
 generalize w.heap.size+1=D at *
 generalize R:w.heap.size=E at *
 have f:=H0.out.drew
 have FZ:=hid (show w.heap.size≤G by rw [R]; exact DZ.out)
 refine wp_region_noPanic ?_
 refine aa.region (fun (L:Array Bool) (w':World)=>w'.cell? ⟨gl,0,none⟩=some (.func (.func 123) #[] #[.pointer (some ⟨gi,0,none⟩),.pointer (some ⟨gm,0,none⟩),.pointer (some ⟨gs,0,none⟩)])∧(w'.cell? ⟨E,0,none⟩=some (.int .u64 (wd (a) 0:Int))∧w'.cell? ⟨E,1,none⟩=some (.int .u64 (wd (a) 1:Int))∧w'.cell? ⟨E,2,none⟩=some (.int .u64 (wd (a) 2:Int))∧w'.cell? ⟨E,3,none⟩=some (.int .u64 (wd (a) 3:Int)))∧(w'.cell? ⟨D,0,none⟩=some (.int .u64 (wd (b) 0:Int))∧w'.cell? ⟨D,1,none⟩=some (.int .u64 (wd (b) 1:Int))∧w'.cell? ⟨D,2,none⟩=some (.int .u64 (wd (b) 2:Int))∧w'.cell? ⟨D,3,none⟩=some (.int .u64 (wd (b) 3:Int)))) (by kernel_rfl) ?_
 refine aa.tk (i:=0) (o:=⟨some 6,_,_,_,_,_⟩) (v:=?_) [] (y:=Or.inl ⟨by rfl,?_⟩) (s:=⟨F.out.2.2.2.2.cell (ae.below f),ae.cell (f) E a (by simp),ae.cell (f) D b (by simp)⟩) (H:=?_)
 rotate_left
 ·intro w hY; obtain ⟨up,M⟩:=hY; have hX:=M.2.1; clear M; (try dsimp only at hX); go_simp; try with_reducible rfl
 try simp only [ac]
 refine aa.tk (i:=1) (o:=⟨some 7,_,_,_,_,_⟩) (v:=?_) [] (y:=Or.inl ⟨by rfl,?_⟩) (s:=⟨F.out.2.2.2.2.cell (ae.below f),ae.cell (f) E a (by simp),ae.cell (f) D b (by simp)⟩) (H:=?_)
 rotate_left
 ·intro w hY; obtain ⟨up,M⟩:=hY; have hX:=M.2.2.1; clear M; (try dsimp only at hX); go_simp; try with_reducible rfl
 try simp only [ac]
 refine aa.tk (i:=2) (o:=⟨some 8,_,_,_,_,_⟩) (v:=?_) [] (y:=Or.inl ⟨by rfl,?_⟩) (s:=⟨F.out.2.2.2.2.cell (ae.below f),ae.cell (f) E a (by simp),ae.cell (f) D b (by simp)⟩) (H:=?_)
 rotate_left
 ·intro w hY; obtain ⟨up,M⟩:=hY; have hX:=M.2.2.2; clear M; (try dsimp only at hX); go_simp; try with_reducible rfl
 try simp only [ac]
 refine aa.one (i:=3) (o:=⟨some 9,_,_,_,_,_⟩) (by kernel_rfl) rfl (fun K O=>?_)
 go_simp
 with_reducible refine (mul_at a b lo hi f AL.out BL.out al.out an.out).mono ?_
 rintro e wn ⟨rfl,f⟩
 go_wp2_with fail
 refine O.out _ _ (⟨F.out.2.2.2.2.cell (ae.below f),ae.cell (f) E a (by simp),ae.cell (f) D b (by simp)⟩) ?_
 clear O K
 try simp only [ac]
 refine aa.q 4 ⟨some 10,_,_,_,_,_⟩ ⟨F.out.2.2.2.2.cell (ae.below f),ae.cell (f) E a (by simp),ae.cell (f) D b (by simp)⟩ ?_
 try simp only [ac]
 refine aa.q 5 ⟨some 11,_,_,_,_,_⟩ ⟨F.out.2.2.2.2.cell (ae.below f),ae.cell (f) E a (by simp),ae.cell (f) D b (by simp)⟩ ?_
 try simp only [ac]
 refine aa.one (i:=6) (o:=⟨some 12,_,_,_,_,_⟩) (by kernel_rfl) rfl (fun K O=>?_)
 go_simp
 with_reducible refine (lower_sh lo hi m iv gi gm gs gb gl _ LL.out HM.out ML.out IL.out CI.out (F.out.on (ae.below f))).mono ?_
 rintro e wm ⟨⟨z,rfl,hz,hc⟩,hb⟩
 rw [ad.out] at hc
 have PZ:=hid (show LowE2 m a b (.returned (af z)) from ⟨z,rfl,hz,hc⟩)
 have ao:=ae.on f hb
 clear f hz hc hb
 have f:=ao
 clear ao
 go_wp2_with fail
 refine O.out _ _ (⟨F.out.2.2.2.2.cell (ae.below f),ae.cell (f) E a (by simp),ae.cell (f) D b (by simp)⟩) ?_
 clear O K
 try simp only [ac]
 obtain ⟨z0,z1,z2,z3⟩:=f.cell G 0 (by simp)
 have zl:=f.lt G 0 (by simp)
 have zf:=f.frozen G 0 (by simp)
 have HZ:=hid (f.set G 0 z [(D,b),(E,a)] (by simp) FZ.out (fun q hq=>by simp only [List.mem_cons,List.not_mem_nil,or_false] at hq; rcases hq with rfl | rfl <;> first | exact ⟨by simp,DN.out (D,b) (by simp)⟩ | exact ⟨by simp,DN.out (E,a) (by simp)⟩))
 refine aa.one (i:=7) (o:=⟨none,_,_,_,_,_⟩) (by kernel_rfl) rfl (fun K O=>?_)
 go_simp
 refine O.out _ _ (⟨F.out.2.2.2.2.cell (ae.below HZ.out),ae.cell (HZ.out) E a (by simp),ae.cell (HZ.out) D b (by simp)⟩) ?_
 clear O K z0 z1 z2 z3 zl zf
 try simp only [ac]
 refine aa.done (by kernel_rfl) ?_ _
 refine NoPanic.normal ?_
 go_wp2
 try rw [Exit.noGoto_ret]
 change bodyPost _ _ _ _ _ (fil wm G z)
 generalize fil wm G z=wz at *
 obtain ⟨k0,k1,k2,k3⟩:=HZ.out.cell G z (by simp)
 exact bodyPost_ret (v:=af z) (by simp [results,Tryz.results126,go_sem,k0,k1,k2,k3]) rfl ⟨PZ.out,HZ.out.1⟩
theorem ae.more {w w':World} {l:List (Nat×Nat)} {g x:Nat} (h:ae w l w') (z:Nm w' g x):ae w ((g,x) :: l) w':=⟨h.1,fun p f=>by
 rcases List.mem_cons.1 f with rfl | f
 ·exact z
 ·exact h.2 p f⟩
abbrev pform (g:Nat):Value:=.agg #[.func (.func 127) #[] #[],.func (.func 127) #[] #[],.func (.func 65) #[] #[.pointer (some ⟨g,0,none⟩)]]
theorem aH (a:Nat) (w:World):Calls Tryz.prog 127 #[af a] w fun e w'=>e=.returned (af a)∧Below w.heap.size w w':=by
 go_enter Tryz.func127,Tryz.ntmps127
 go_wp2
 refine bodyPost_ret (v:=af a) (by simp [results,Tryz.results127,go_sem]) rfl ⟨rfl,?_⟩
 repeat (first | exact Below.refl _ _ | refine Below.drew ?_ | refine bal ?_ _)
theorem plain_any (m:Nat) (w:World):Calls Tryz.prog 115 #[af m] w fun e w'=>∃ g,e=.returned (pform g)∧ae w [(g,m)] w'∧w.heap.size≤g:=by
 have hf:∀ (g:Nat) (w:World),(Instr.field 63 (ring g) 2).run Tryz.prog w=.ok (.func (.func 65) #[] #[.pointer (some ⟨g,0,none⟩)]) w:=fun _ _=>by kernel_rfl
 have ab:∀ (L:Fn) (first E:Array Value) (w:World),(Instr.makeFunc L first E).run Tryz.prog w=.ok (.func L first E) w:=fun _ _ _ _=>rfl
 have M:=hid ((ae.refl w).new m)
 go_enter Tryz.func115,Tryz.ntmps115
 go_upto_region 1 with fail
 have F:=hid (R3.new (w.alloc (.cells (ai m) 24)) 116 .nilFunc .nilFunc .nilFunc)
 have f:=hid (M.out.alloc (.cells #[.nilFunc,.nilFunc,.nilFunc] 116))
 have I:=hid (show w.heap.size≤(w.alloc (.cells (ai m) 24)).heap.size∧w.heap.size≠(w.alloc (.cells (ai m) 24)).heap.size by simp)
 simp only [show ∀ (w:World) (o:Obj),(w.alloc o).heap.size=w.heap.size+1 from fun w o=>Array.size_push _] at F I
 clear M
 generalize (w.alloc (.cells (ai m) 24)).alloc (.cells #[.nilFunc,.nilFunc,.nilFunc] 116)=w0 at *
 generalize hr:w.heap.size+1=D at *
 generalize hm:w.heap.size=G at *
 obtain ⟨c0,c1,c2,c3⟩:=f.out.cell G m (by simp)
 have cl:=f.out.lt G m (by simp)
 go_wp2_with fail
 clear c0 c1 c2 c3 cl
 refine (by_any m w0).mono ?_
 rintro e w1 ⟨rfl,h⟩
 have K:=hid (show ¬ w0.heap.size=D by have:=F.out.lt; omega)
 have z:=hid (F.out.on h.below)
 have E1:=hid ((f.out.on h.below).more (h.nm w0.heap.size m (by simp)))
 have GB:=hid f.out.below.size
 clear h F f
 generalize w0.heap.size=gb at *
 have J:=K
 have K:=hid (show ¬ gb=D∧¬ G=D from ⟨J.out,I.out.2⟩)
 obtain ⟨Y,V,U⟩:=z.out.cell
 have R:=z.out.frozen
 have O:=z.out.lt
 go_wp2
 clear Y V U R O
 have HZ:=hid (E1.out.fil3 (g:=D) (a:=.func (.func 127) #[] #[]) (b:=.func (.func 127) #[] #[]) (c:=.func (.func 65) #[] #[.pointer (some ⟨gb,0,none⟩)]) (by rw [hm]; exact I.out.1) (by simp; exact K.out))
 have HY:=hid (z.out.fil (.func (.func 127) #[] #[]) (.func (.func 127) #[] #[]) (.func (.func 65) #[] #[.pointer (some ⟨gb,0,none⟩)]))
 try rw [Exit.noGoto_ret]
 change bodyPost _ _ _ _ _ (fil3 w1 D _ _ _)
 generalize fil3 w1 D _ _ _=wz at *
 obtain ⟨k0,k1,Z⟩:=HY.out.cell
 exact bodyPost_ret (v:=pform gb) (by simp [results,Tryz.results115,go_sem,k0,k1,Z]) rfl ⟨gb,rfl,HZ.out.perm (by simp),GB.out⟩
theorem form_plain (m c:Nat) (w:World) (hc:c≤16):Calls Tryz.prog 100 #[af m,.int .i64 (c:Int)] w fun e w'=>∃ g,e=.returned (pform g)∧ae w [(g,m)] w'∧w.heap.size≤g:=by
 have ad:¬ (16<(c:Int)):=by omega
 have K:¬ ((c:Int) > 16):=by omega
 have ab:∀ (L:Fn) (first E:Array Value) (w:World),(Instr.makeFunc L first E).run Tryz.prog w=.ok (.func L first E) w:=fun _ _ _ _=>rfl
 have M:=hid ((ae.refl w).new m)
 go_enter Tryz.func100,Tryz.ntmps100
 go_upto_region 1 with fail
 have F:=hid (R3.new (w.alloc (.cells (ai m) 24)) 116 .nilFunc .nilFunc .nilFunc)
 have f:=hid (M.out.alloc (.cells #[.nilFunc,.nilFunc,.nilFunc] 116))
 have I:=hid (show w.heap.size≤(w.alloc (.cells (ai m) 24)).heap.size∧w.heap.size≠(w.alloc (.cells (ai m) 24)).heap.size by simp)
 simp only [show ∀ (w:World) (o:Obj),(w.alloc o).heap.size=w.heap.size+1 from fun w o=>Array.size_push _] at F I
 clear M
 generalize (w.alloc (.cells (ai m) 24)).alloc (.cells #[.nilFunc,.nilFunc,.nilFunc] 116)=w0 at *
 generalize hr:w.heap.size+1=D at *
 generalize hm:w.heap.size=G at *
 obtain ⟨c0,c1,c2,c3⟩:=f.out.cell G m (by simp)
 have cl:=f.out.lt G m (by simp)
 go_wp2_with fail
 clear c0 c1 c2 c3 cl
 refine (plain_any m w0).mono ?_
 rintro e w1 ⟨gb,rfl,h,J⟩
 have GN:=hid (show ¬ gb=D∧¬ G=D from ⟨by have:=F.out.lt; omega,I.out.2⟩)
 have GB:=hid (show w.heap.size≤gb from Nat.le_trans f.out.below.size J)
 clear J
 have z:=hid (F.out.on h.below)
 have E1:=hid ((f.out.on h.below).more (h.nm gb m (by simp)))
 clear h F f
 obtain ⟨Y,V,U⟩:=z.out.cell
 have R:=z.out.frozen
 have O:=z.out.lt
 go_wp2
 clear Y V U R O
 have HZ:=hid (E1.out.fil3 (g:=D) (a:=.func (.func 127) #[] #[]) (b:=.func (.func 127) #[] #[]) (c:=.func (.func 65) #[] #[.pointer (some ⟨gb,0,none⟩)]) (by rw [hm]; exact I.out.1) (by simp; exact GN.out))
 have HY:=hid (z.out.fil (.func (.func 127) #[] #[]) (.func (.func 127) #[] #[]) (.func (.func 65) #[] #[.pointer (some ⟨gb,0,none⟩)]))
 try rw [Exit.noGoto_ret]
 change bodyPost _ _ _ _ _ (fil3 w1 D _ _ _)
 generalize fil3 w1 D _ _ _=wz at *
 obtain ⟨k0,k1,Z⟩:=HY.out.cell
 exact bodyPost_ret (v:=pform gb) (by simp [results,Tryz.results100,go_sem,k0,k1,Z]) rfl ⟨gb,rfl,HZ.out.perm (by simp),GB.out⟩
theorem F1.new (w:World) (v:Value):F1 (w.alloc (.cells #[v] 56)) w.heap.size v:=heap_alloc_new _ _
theorem F1.frozen {w:World} {g:Nat} {v:Value} (h:F1 w g v) (i:Nat):w.frozen? ⟨g,i,none⟩=false:=by
 unfold F1 at h; simp [World.frozen?,h]
theorem F1.setOther {w:World} {g g' i:Nat} {v u:Value} (h:F1 w g v) (f:g≠g'):F1 (w.setCell ⟨g',i,none⟩ u) g v:=(Below.heap_setCell w ⟨g',i,none⟩ u g f).trans h
theorem F1.fil {w:World} {g g':Nat} {v:Value} (h:F1 w g v) (f:g≠g') (x:Nat):F1 (fil w g' x) g v:=(((h.setOther f).setOther f).setOther f).setOther f
theorem ae.set1 {w w':World} {l:List (Nat×Nat)} {g:Nat} (h:ae w l w') (D:w.heap.size≤g) (z:∀ p∈l,p.1≠g) (v:Value):ae w l (w'.setCell ⟨g,0,none⟩ v) :=
 ⟨h.1.setCell (p:=⟨g,0,none⟩) D _,fun p f=>(h.2 p f).fr.setOther _ (z p f)⟩
theorem Nm.fil3 {w:World} {g g' x:Nat} (h:Nm w g x) (f:g≠g') (a b c:Value):Nm (fil3 w g' a b c) g x:=((h.fr.setOther _ f).setOther _ f).setOther _ f
theorem F1.fil3 {w:World} {g g':Nat} {v:Value} (h:F1 w g v) (f:g≠g') (a b c:Value):F1 (fil3 w g' a b c) g v:=((h.setOther f).setOther f).setOther f
theorem Shd.fil3 {w:World} {m F E D z gb gl g:Nat} (h:Shd w m F E D z gb gl) (f:E≠g∧D≠g∧gb≠g∧z≠g∧gl≠g) (a b c:Value):Shd (fil3 w g a b c) m F E D z gb gl :=
 ⟨h.1.fil3 f.1 a b c,h.2.1.fil3 f.2.1 a b c,h.2.2.1.fil3 f.2.2.1 a b c,h.2.2.2.1.fil3 f.2.2.2.1 a b c,h.2.2.2.2.fil3 f.2.2.2.2 a b c⟩
abbrev sform (gm gl:Nat):Value:=.agg #[.func (.func 124) #[] #[.pointer (some ⟨gm,0,none⟩)],.func (.func 125) #[] #[.pointer (some ⟨gl,0,none⟩)],.func (.func 126) #[] #[.pointer (some ⟨gl,0,none⟩)]]
def ShE (m:Nat) (e:Ending) (w':World):Prop:=∃ iv gi gm gs gb gl,e=.returned (sform gm gl)∧Shd w' m iv gi gm gs gb gl∧iv<2 ^ 256∧Cg (2 ^ 256) ((m:Int) * iv) 1
theorem shifted_any (m:Nat) (w:World) (bO:m<2 ^ 256) (ho:m % 2=1):Calls Tryz.prog 114 #[af m] w fun e w'=>ShE m e w'∧Below w.heap.size w w':=by
 have hf:∀ (g:Nat) (w:World),(Instr.field 63 (ring g) 1).run Tryz.prog w=.ok (.func (.func 64) #[] #[.pointer (some ⟨g,0,none⟩)]) w:=fun _ _=>by kernel_rfl
 have ML:=hid bO
 have HO:=hid ho
 clear bO ho
 have cs:∀ (fn:Fn) (first bP:Array Value) (w:World),(Instr.makeFunc fn first bP).run Tryz.prog w=.ok (.func fn first bP) w:=fun _ _ _ _=>rfl
 have HE:=hid ((ae.refl w).new m)
 go_enter Tryz.func114,Tryz.ntmps114
 go_upto_region 1 with fail
 have HR:=hid (R3.new (w.alloc (.cells (ai m) 24)) 116 .nilFunc .nilFunc .nilFunc)
 have M:=hid (HE.out.alloc (.cells #[.nilFunc,.nilFunc,.nilFunc] 116))
 have HF:=hid (show w.heap.size≤(w.alloc (.cells (ai m) 24)).heap.size∧w.heap.size≠(w.alloc (.cells (ai m) 24)).heap.size by simp)
 simp only [show ∀ (w:World) (o:Obj),(w.alloc o).heap.size=w.heap.size+1 from fun w o=>Array.size_push _] at HR HF
 clear HE
 generalize (w.alloc (.cells (ai m) 24)).alloc (.cells #[.nilFunc,.nilFunc,.nilFunc] 116)=w0 at *
 generalize hr:w.heap.size+1=gr at *
 generalize hm:w.heap.size=I at *
 go_cut [3,4] (fun s3 s4 wx=>∃ g3 g4 gb G:Nat,s3=.pointer (some ⟨g3,0,none⟩)∧s4=.pointer (some ⟨g4,0,none⟩)∧Hid (ae w0 [(g4,G),(gb,m)] wx)∧Hid (F1 wx g3 (.func (.func 64) #[] #[.pointer (some ⟨gb,0,none⟩)]))∧Hid (G<2 ^ 256∧Cg (2 ^ 256) ((m:Int) * G) 1)∧Hid (w0.heap.size≤g4∧w0.heap.size≤gb∧w0.heap.size≤g3))
 case first =>
  have f:=(ae.refl w0).drew
  refine wp_region_noPanic ?_
  refine aa.region (fun (L:Array Bool) (w':World)=>(w'.cell? ⟨I,0,none⟩=some (.int .u64 (wd (m) 0:Int))∧w'.cell? ⟨I,1,none⟩=some (.int .u64 (wd (m) 1:Int))∧w'.cell? ⟨I,2,none⟩=some (.int .u64 (wd (m) 2:Int))∧w'.cell? ⟨I,3,none⟩=some (.int .u64 (wd (m) 3:Int)))) (by kernel_rfl) ?_
  generalize w0.drew=wd at *
  refine aa.tk (i:=0) (o:=⟨some 6,_,_,_,_,_⟩) (v:=?_) [] (y:=Or.inl ⟨by rfl,?_⟩) (s:=(M.out.on (ae.below f)).cell I m (by simp)) (H:=?_)
  rotate_left
  ·rintro w ⟨up,-,hX⟩; (try dsimp only at hX); go_simp; try with_reducible rfl
  try simp only [ac]
  refine aa.tk (i:=3) (o:=⟨some 9,_,_,_,_,_⟩) (v:=?_) [] (y:=Or.inl ⟨by rfl,?_⟩) (s:=(M.out.on (ae.below f)).cell I m (by simp)) (H:=?_)
  rotate_left
  ·rintro w ⟨up,-,hX⟩; (try dsimp only at hX); go_simp; try with_reducible rfl
  try simp only [ac]
  refine aa.three (i:=1) (j:=5) (k:=6) (o:=⟨some 7,_,_,_,_,_⟩) (p:=⟨some 3,_,_,_,_,_⟩) (q:=⟨some 4,_,_,_,_,_⟩) (by kernel_rfl) rfl rfl rfl (fun K D=>?_) (fun K D=>?_) (fun K D=>?_)
  ·skip
   go_simp
   with_reducible refine (by_any m _).mono ?_
   rintro e aG ⟨rfl,hE⟩
   have hb:=ae.below hE
   have E:=(ae.on f hb).more (hE.nm wd.heap.size m (by simp))
   have Fgb:=hid f.fresh
   clear f hE hb
   have f:=E
   clear E
   go_wp2_with fail
   refine D.out _ _ ((M.out.on (ae.below f)).cell I m (by simp)) ?_
   clear D K
   try simp only [ac]
   generalize wd.heap.size=gb at *
   refine aa.tk (i:=2) (o:=⟨some 8,_,_,_,_,_⟩) (v:=?_) [] (y:=Or.inl ⟨by rfl,?_⟩) (s:=(M.out.on (ae.below f)).cell I m (by simp)) (H:=?_)
   rotate_left
   ·rintro w ⟨up,-,hX⟩; (try dsimp only at hX); go_simp; try with_reducible rfl
   try simp only [ac]
   refine aa.three (i:=4) (j:=5) (k:=6) (o:=⟨some 10,_,_,_,_,_⟩) (p:=⟨some 3,_,_,_,_,_⟩) (q:=⟨some 4,_,_,_,_,_⟩) (by kernel_rfl) rfl rfl rfl (fun K D=>?_) (fun K D=>?_) (fun K D=>?_)
   ·skip
    go_simp
    with_reducible refine (ci m _ ML.out HO.out).mono ?_
    rintro e aE ⟨⟨G,rfl,O,R⟩,hb⟩
    have IV:=hid (show G<2 ^ 256∧Cg (2 ^ 256) ((m:Int) * G) 1 from ⟨O,R⟩)
    have E:=ae.on f hb
    clear f hb O R
    have f:=E
    clear E
    go_wp2_with fail
    refine D.out _ _ ((M.out.on (ae.below f)).cell I m (by simp)) ?_
    clear D K
    try simp only [ac]
    refine aa.two (i:=5) (j:=6) (o:=⟨some 3,_,_,_,_,_⟩) (p:=⟨some 4,_,_,_,_,_⟩) (by kernel_rfl) rfl rfl (fun K D=>?_) (fun K D=>?_)
    ·skip
     go_simp
     have E:=ae.alloc f (.cells #[.nilFunc] 56)
     have V:=hid f.fresh
     have z:=hid (F1.new aE .nilFunc)
     clear f
     have f:=E
     clear E
     refine D.out _ _ ((M.out.on (ae.below f)).cell I m (by simp)) ?_
     clear D K
     try simp only [ac]
     generalize aE.alloc (.cells #[.nilFunc] 56)=aJ at *
     generalize aE.heap.size=g3 at *
     refine aa.one (i:=6) (o:=⟨some 4,_,_,_,_,_⟩) (by kernel_rfl) rfl (fun K D=>?_)
     go_simp
     have E:=f.zero
     have Fg4:=hid f.fresh
     have F:=hid (z.out.on ((Below.refl aJ.heap.size aJ).alloc (Nat.le_refl _) (.cells #[.int .u64 0,.int .u64 0,.int .u64 0,.int .u64 0] 24)))
     have U:=hid (Nat.ne_of_lt (lt_of_block z.out))
     clear z
     have z:=F
     clear F
     clear f
     have f:=E
     clear E
     refine D.out _ _ ((M.out.on (ae.below f)).cell I m (by simp)) ?_
     clear D K
     try simp only [ac]
     generalize aJ.alloc (.cells #[.int .u64 0,.int .u64 0,.int .u64 0,.int .u64 0] 24)=bN at *
     generalize aJ.heap.size=g4 at *
     refine aa.one (i:=7) (o:=⟨none,_,_,_,_,_⟩) (by kernel_rfl) rfl (fun K D=>?_)
     have zc:=cell_of_one z.out
     have Y:=lt_of_block z.out
     have Z:=F1.frozen z.out
     have E:=ae.set1 f V.out.1 (fun p J=>by simp only [List.mem_cons,List.not_mem_nil,or_false] at J; rcases J with rfl | rfl <;> first | exact (Ne.symm U.out) | exact (V.out.2 (gb,m) (by simp))) (.func (.func 64) #[] #[.pointer (some ⟨gb,0,none⟩)])
     have F:Hid (F1 (bN.setCell ⟨g3,0,none⟩ (.func (.func 64) #[] #[.pointer (some ⟨gb,0,none⟩)])) g3 (.func (.func 64) #[] #[.pointer (some ⟨gb,0,none⟩)])):=hid (one_setCell z.out)
     go_simp
     clear f z
     have f:=E
     have z:=F
     clear E F
     refine D.out _ _ ((M.out.on (ae.below f)).cell I m (by simp)) ?_
     clear D K
     try simp only [ac]
     clear zc Y Z
     generalize bN.setCell ⟨g3,0,none⟩ (.func (.func 64) #[] #[.pointer (some ⟨gb,0,none⟩)])=bK at *
     refine aa.one (i:=8) (o:=⟨none,_,_,_,_,_⟩) (by kernel_rfl) rfl (fun K D=>?_)
     obtain ⟨z0,z1,z2,z3⟩:=f.cell g4 0 (by simp)
     have Y:=f.lt g4 0 (by simp)
     have Z:=f.frozen g4 0 (by simp)
     have E:=f.set g4 0 G [(gb,m)] (by simp) Fg4.out.1 (fun p J=>by simp only [List.mem_cons,List.not_mem_nil,or_false] at J; rcases J with rfl <;> first | exact ⟨by simp,(Fg4.out.2 (gb,m) (by simp))⟩)
     have F:=hid (F1.fil z.out U.out G)
     go_simp
     clear f z
     have f:=E
     have z:=F
     clear E F
     refine D.out _ _ ((M.out.on (ae.below f)).cell I m (by simp)) ?_
     clear D K
     try simp only [ac]
     clear z0 z1 z2 z3 Y Z
     change aa _ _ _ _ _ _ _ _ (fil bK g4 G)
     generalize fil bK g4 G=cq at *
     refine aa.done (by kernel_rfl) ?_ _
     refine NoPanic.normal ?_
     go_wp2_with fail
     go_meet
     exact ⟨_,_,gb,G,rfl,rfl,hid (f.perm (by simp)),z,IV,hid ⟨Fg4.out.1,Fgb.out.1,V.out.1⟩⟩
    ·skip
     go_simp
     have E:=f.zero
     have Fg4:=hid f.fresh
     clear f
     have f:=E
     clear E
     refine D.out _ _ ((M.out.on (ae.below f)).cell I m (by simp)) ?_
     clear D K
     try simp only [ac]
     generalize aE.alloc (.cells #[.int .u64 0,.int .u64 0,.int .u64 0,.int .u64 0] 24)=bA at *
     generalize aE.heap.size=g4 at *
     refine aa.one (i:=5) (o:=⟨some 3,_,_,_,_,_⟩) (by kernel_rfl) rfl (fun K D=>?_)
     go_simp
     have E:=ae.alloc f (.cells #[.nilFunc] 56)
     have V:=hid f.fresh
     have z:=hid (F1.new bA .nilFunc)
     clear f
     have f:=E
     clear E
     refine D.out _ _ ((M.out.on (ae.below f)).cell I m (by simp)) ?_
     clear D K
     try simp only [ac]
     generalize bA.alloc (.cells #[.nilFunc] 56)=bI at *
     generalize bA.heap.size=g3 at *
     refine aa.one (i:=7) (o:=⟨none,_,_,_,_,_⟩) (by kernel_rfl) rfl (fun K D=>?_)
     have zc:=cell_of_one z.out
     have Y:=lt_of_block z.out
     have Z:=F1.frozen z.out
     have E:=ae.set1 f V.out.1 (fun p J=>by simp only [List.mem_cons,List.not_mem_nil,or_false] at J; rcases J with rfl | rfl <;> first | exact (V.out.2 (g4,0) (by simp)) | exact (V.out.2 (gb,m) (by simp))) (.func (.func 64) #[] #[.pointer (some ⟨gb,0,none⟩)])
     have F:Hid (F1 (bI.setCell ⟨g3,0,none⟩ (.func (.func 64) #[] #[.pointer (some ⟨gb,0,none⟩)])) g3 (.func (.func 64) #[] #[.pointer (some ⟨gb,0,none⟩)])):=hid (one_setCell z.out)
     go_simp
     clear f z
     have f:=E
     have z:=F
     clear E F
     refine D.out _ _ ((M.out.on (ae.below f)).cell I m (by simp)) ?_
     clear D K
     try simp only [ac]
     clear zc Y Z
     generalize bI.setCell ⟨g3,0,none⟩ (.func (.func 64) #[] #[.pointer (some ⟨gb,0,none⟩)])=bG at *
     refine aa.one (i:=8) (o:=⟨none,_,_,_,_,_⟩) (by kernel_rfl) rfl (fun K D=>?_)
     obtain ⟨z0,z1,z2,z3⟩:=f.cell g4 0 (by simp)
     have Y:=f.lt g4 0 (by simp)
     have Z:=f.frozen g4 0 (by simp)
     have E:=f.set g4 0 G [(gb,m)] (by simp) Fg4.out.1 (fun p J=>by simp only [List.mem_cons,List.not_mem_nil,or_false] at J; rcases J with rfl <;> first | exact ⟨by simp,(Fg4.out.2 (gb,m) (by simp))⟩)
     have F:=hid (F1.fil z.out (Ne.symm (V.out.2 (g4,0) (by simp))) G)
     go_simp
     clear f z
     have f:=E
     have z:=F
     clear E F
     refine D.out _ _ ((M.out.on (ae.below f)).cell I m (by simp)) ?_
     clear D K
     try simp only [ac]
     clear z0 z1 z2 z3 Y Z
     change aa _ _ _ _ _ _ _ _ (fil bG g4 G)
     generalize fil bG g4 G=cp at *
     refine aa.done (by kernel_rfl) ?_ _
     refine NoPanic.normal ?_
     go_wp2_with fail
     go_meet
     exact ⟨_,_,gb,G,rfl,rfl,hid (f.perm (by simp)),z,IV,hid ⟨Fg4.out.1,Fgb.out.1,V.out.1⟩⟩
   ·skip
    go_simp
    have E:=ae.alloc f (.cells #[.nilFunc] 56)
    have V:=hid f.fresh
    have z:=hid (F1.new aG .nilFunc)
    clear f
    have f:=E
    clear E
    refine D.out _ _ ((M.out.on (ae.below f)).cell I m (by simp)) ?_
    clear D K
    try simp only [ac]
    generalize aG.alloc (.cells #[.nilFunc] 56)=ax at *
    generalize aG.heap.size=g3 at *
    refine aa.two (i:=4) (j:=6) (o:=⟨some 10,_,_,_,_,_⟩) (p:=⟨some 4,_,_,_,_,_⟩) (by kernel_rfl) rfl rfl (fun K D=>?_) (fun K D=>?_)
    ·skip
     go_simp
     with_reducible refine (ci m _ ML.out HO.out).mono ?_
     rintro e ar ⟨⟨G,rfl,O,R⟩,hb⟩
     have IV:=hid (show G<2 ^ 256∧Cg (2 ^ 256) ((m:Int) * G) 1 from ⟨O,R⟩)
     have E:=ae.on f hb
     have F:=hid (z.out.on hb)
     clear z
     have z:=F
     clear F
     clear f hb O R
     have f:=E
     clear E
     go_wp2_with fail
     refine D.out _ _ ((M.out.on (ae.below f)).cell I m (by simp)) ?_
     clear D K
     try simp only [ac]
     refine aa.one (i:=6) (o:=⟨some 4,_,_,_,_,_⟩) (by kernel_rfl) rfl (fun K D=>?_)
     go_simp
     have E:=f.zero
     have Fg4:=hid f.fresh
     have F:=hid (z.out.on ((Below.refl ar.heap.size ar).alloc (Nat.le_refl _) (.cells #[.int .u64 0,.int .u64 0,.int .u64 0,.int .u64 0] 24)))
     have U:=hid (Nat.ne_of_lt (lt_of_block z.out))
     clear z
     have z:=F
     clear F
     clear f
     have f:=E
     clear E
     refine D.out _ _ ((M.out.on (ae.below f)).cell I m (by simp)) ?_
     clear D K
     try simp only [ac]
     generalize ar.alloc (.cells #[.int .u64 0,.int .u64 0,.int .u64 0,.int .u64 0] 24)=bz at *
     generalize ar.heap.size=g4 at *
     refine aa.one (i:=7) (o:=⟨none,_,_,_,_,_⟩) (by kernel_rfl) rfl (fun K D=>?_)
     have zc:=cell_of_one z.out
     have Y:=lt_of_block z.out
     have Z:=F1.frozen z.out
     have E:=ae.set1 f V.out.1 (fun p J=>by simp only [List.mem_cons,List.not_mem_nil,or_false] at J; rcases J with rfl | rfl <;> first | exact (Ne.symm U.out) | exact (V.out.2 (gb,m) (by simp))) (.func (.func 64) #[] #[.pointer (some ⟨gb,0,none⟩)])
     have F:Hid (F1 (bz.setCell ⟨g3,0,none⟩ (.func (.func 64) #[] #[.pointer (some ⟨gb,0,none⟩)])) g3 (.func (.func 64) #[] #[.pointer (some ⟨gb,0,none⟩)])):=hid (one_setCell z.out)
     go_simp
     clear f z
     have f:=E
     have z:=F
     clear E F
     refine D.out _ _ ((M.out.on (ae.below f)).cell I m (by simp)) ?_
     clear D K
     try simp only [ac]
     clear zc Y Z
     generalize bz.setCell ⟨g3,0,none⟩ (.func (.func 64) #[] #[.pointer (some ⟨gb,0,none⟩)])=bx at *
     refine aa.one (i:=8) (o:=⟨none,_,_,_,_,_⟩) (by kernel_rfl) rfl (fun K D=>?_)
     obtain ⟨z0,z1,z2,z3⟩:=f.cell g4 0 (by simp)
     have Y:=f.lt g4 0 (by simp)
     have Z:=f.frozen g4 0 (by simp)
     have E:=f.set g4 0 G [(gb,m)] (by simp) Fg4.out.1 (fun p J=>by simp only [List.mem_cons,List.not_mem_nil,or_false] at J; rcases J with rfl <;> first | exact ⟨by simp,(Fg4.out.2 (gb,m) (by simp))⟩)
     have F:=hid (F1.fil z.out U.out G)
     go_simp
     clear f z
     have f:=E
     have z:=F
     clear E F
     refine D.out _ _ ((M.out.on (ae.below f)).cell I m (by simp)) ?_
     clear D K
     try simp only [ac]
     clear z0 z1 z2 z3 Y Z
     change aa _ _ _ _ _ _ _ _ (fil bx g4 G)
     generalize fil bx g4 G=co at *
     refine aa.done (by kernel_rfl) ?_ _
     refine NoPanic.normal ?_
     go_wp2_with fail
     go_meet
     exact ⟨_,_,gb,G,rfl,rfl,hid (f.perm (by simp)),z,IV,hid ⟨Fg4.out.1,Fgb.out.1,V.out.1⟩⟩
    ·skip
     go_simp
     have E:=f.zero
     have Fg4:=hid f.fresh
     have F:=hid (z.out.on ((Below.refl ax.heap.size ax).alloc (Nat.le_refl _) (.cells #[.int .u64 0,.int .u64 0,.int .u64 0,.int .u64 0] 24)))
     have U:=hid (Nat.ne_of_lt (lt_of_block z.out))
     clear z
     have z:=F
     clear F
     clear f
     have f:=E
     clear E
     refine D.out _ _ ((M.out.on (ae.below f)).cell I m (by simp)) ?_
     clear D K
     try simp only [ac]
     generalize ax.alloc (.cells #[.int .u64 0,.int .u64 0,.int .u64 0,.int .u64 0] 24)=cn at *
     generalize ax.heap.size=g4 at *
     refine aa.one (i:=4) (o:=⟨some 10,_,_,_,_,_⟩) (by kernel_rfl) rfl (fun K D=>?_)
     go_simp
     with_reducible refine (ci m _ ML.out HO.out).mono ?_
     rintro e bv ⟨⟨G,rfl,O,R⟩,hb⟩
     have IV:=hid (show G<2 ^ 256∧Cg (2 ^ 256) ((m:Int) * G) 1 from ⟨O,R⟩)
     have E:=ae.on f hb
     have F:=hid (z.out.on hb)
     clear z
     have z:=F
     clear F
     clear f hb O R
     have f:=E
     clear E
     go_wp2_with fail
     refine D.out _ _ ((M.out.on (ae.below f)).cell I m (by simp)) ?_
     clear D K
     try simp only [ac]
     refine aa.one (i:=7) (o:=⟨none,_,_,_,_,_⟩) (by kernel_rfl) rfl (fun K D=>?_)
     have zc:=cell_of_one z.out
     have Y:=lt_of_block z.out
     have Z:=F1.frozen z.out
     have E:=ae.set1 f V.out.1 (fun p J=>by simp only [List.mem_cons,List.not_mem_nil,or_false] at J; rcases J with rfl | rfl <;> first | exact (Ne.symm U.out) | exact (V.out.2 (gb,m) (by simp))) (.func (.func 64) #[] #[.pointer (some ⟨gb,0,none⟩)])
     have F:Hid (F1 (bv.setCell ⟨g3,0,none⟩ (.func (.func 64) #[] #[.pointer (some ⟨gb,0,none⟩)])) g3 (.func (.func 64) #[] #[.pointer (some ⟨gb,0,none⟩)])):=hid (one_setCell z.out)
     go_simp
     clear f z
     have f:=E
     have z:=F
     clear E F
     refine D.out _ _ ((M.out.on (ae.below f)).cell I m (by simp)) ?_
     clear D K
     try simp only [ac]
     clear zc Y Z
     generalize bv.setCell ⟨g3,0,none⟩ (.func (.func 64) #[] #[.pointer (some ⟨gb,0,none⟩)])=bu at *
     refine aa.one (i:=8) (o:=⟨none,_,_,_,_,_⟩) (by kernel_rfl) rfl (fun K D=>?_)
     obtain ⟨z0,z1,z2,z3⟩:=f.cell g4 0 (by simp)
     have Y:=f.lt g4 0 (by simp)
     have Z:=f.frozen g4 0 (by simp)
     have E:=f.set g4 0 G [(gb,m)] (by simp) Fg4.out.1 (fun p J=>by simp only [List.mem_cons,List.not_mem_nil,or_false] at J; rcases J with rfl <;> first | exact ⟨by simp,(Fg4.out.2 (gb,m) (by simp))⟩)
     have F:=hid (F1.fil z.out U.out G)
     go_simp
     clear f z
     have f:=E
     have z:=F
     clear E F
     refine D.out _ _ ((M.out.on (ae.below f)).cell I m (by simp)) ?_
     clear D K
     try simp only [ac]
     clear z0 z1 z2 z3 Y Z
     change aa _ _ _ _ _ _ _ _ (fil bu g4 G)
     generalize fil bu g4 G=cm at *
     refine aa.done (by kernel_rfl) ?_ _
     refine NoPanic.normal ?_
     go_wp2_with fail
     go_meet
     exact ⟨_,_,gb,G,rfl,rfl,hid (f.perm (by simp)),z,IV,hid ⟨Fg4.out.1,Fgb.out.1,V.out.1⟩⟩
   ·skip
    go_simp
    have E:=f.zero
    have Fg4:=hid f.fresh
    clear f
    have f:=E
    clear E
    refine D.out _ _ ((M.out.on (ae.below f)).cell I m (by simp)) ?_
    clear D K
    try simp only [ac]
    generalize aG.alloc (.cells #[.int .u64 0,.int .u64 0,.int .u64 0,.int .u64 0] 24)=aC at *
    generalize aG.heap.size=g4 at *
    refine aa.two (i:=4) (j:=5) (o:=⟨some 10,_,_,_,_,_⟩) (p:=⟨some 3,_,_,_,_,_⟩) (by kernel_rfl) rfl rfl (fun K D=>?_) (fun K D=>?_)
    ·skip
     go_simp
     with_reducible refine (ci m _ ML.out HO.out).mono ?_
     rintro e aB ⟨⟨G,rfl,O,R⟩,hb⟩
     have IV:=hid (show G<2 ^ 256∧Cg (2 ^ 256) ((m:Int) * G) 1 from ⟨O,R⟩)
     have E:=ae.on f hb
     clear f hb O R
     have f:=E
     clear E
     go_wp2_with fail
     refine D.out _ _ ((M.out.on (ae.below f)).cell I m (by simp)) ?_
     clear D K
     try simp only [ac]
     refine aa.one (i:=5) (o:=⟨some 3,_,_,_,_,_⟩) (by kernel_rfl) rfl (fun K D=>?_)
     go_simp
     have E:=ae.alloc f (.cells #[.nilFunc] 56)
     have V:=hid f.fresh
     have z:=hid (F1.new aB .nilFunc)
     clear f
     have f:=E
     clear E
     refine D.out _ _ ((M.out.on (ae.below f)).cell I m (by simp)) ?_
     clear D K
     try simp only [ac]
     generalize aB.alloc (.cells #[.nilFunc] 56)=bq at *
     generalize aB.heap.size=g3 at *
     refine aa.one (i:=7) (o:=⟨none,_,_,_,_,_⟩) (by kernel_rfl) rfl (fun K D=>?_)
     have zc:=cell_of_one z.out
     have Y:=lt_of_block z.out
     have Z:=F1.frozen z.out
     have E:=ae.set1 f V.out.1 (fun p J=>by simp only [List.mem_cons,List.not_mem_nil,or_false] at J; rcases J with rfl | rfl <;> first | exact (V.out.2 (g4,0) (by simp)) | exact (V.out.2 (gb,m) (by simp))) (.func (.func 64) #[] #[.pointer (some ⟨gb,0,none⟩)])
     have F:Hid (F1 (bq.setCell ⟨g3,0,none⟩ (.func (.func 64) #[] #[.pointer (some ⟨gb,0,none⟩)])) g3 (.func (.func 64) #[] #[.pointer (some ⟨gb,0,none⟩)])):=hid (one_setCell z.out)
     go_simp
     clear f z
     have f:=E
     have z:=F
     clear E F
     refine D.out _ _ ((M.out.on (ae.below f)).cell I m (by simp)) ?_
     clear D K
     try simp only [ac]
     clear zc Y Z
     generalize bq.setCell ⟨g3,0,none⟩ (.func (.func 64) #[] #[.pointer (some ⟨gb,0,none⟩)])=bp at *
     refine aa.one (i:=8) (o:=⟨none,_,_,_,_,_⟩) (by kernel_rfl) rfl (fun K D=>?_)
     obtain ⟨z0,z1,z2,z3⟩:=f.cell g4 0 (by simp)
     have Y:=f.lt g4 0 (by simp)
     have Z:=f.frozen g4 0 (by simp)
     have E:=f.set g4 0 G [(gb,m)] (by simp) Fg4.out.1 (fun p J=>by simp only [List.mem_cons,List.not_mem_nil,or_false] at J; rcases J with rfl <;> first | exact ⟨by simp,(Fg4.out.2 (gb,m) (by simp))⟩)
     have F:=hid (F1.fil z.out (Ne.symm (V.out.2 (g4,0) (by simp))) G)
     go_simp
     clear f z
     have f:=E
     have z:=F
     clear E F
     refine D.out _ _ ((M.out.on (ae.below f)).cell I m (by simp)) ?_
     clear D K
     try simp only [ac]
     clear z0 z1 z2 z3 Y Z
     change aa _ _ _ _ _ _ _ _ (fil bp g4 G)
     generalize fil bp g4 G=cl at *
     refine aa.done (by kernel_rfl) ?_ _
     refine NoPanic.normal ?_
     go_wp2_with fail
     go_meet
     exact ⟨_,_,gb,G,rfl,rfl,hid (f.perm (by simp)),z,IV,hid ⟨Fg4.out.1,Fgb.out.1,V.out.1⟩⟩
    ·skip
     go_simp
     have E:=ae.alloc f (.cells #[.nilFunc] 56)
     have V:=hid f.fresh
     have z:=hid (F1.new aC .nilFunc)
     clear f
     have f:=E
     clear E
     refine D.out _ _ ((M.out.on (ae.below f)).cell I m (by simp)) ?_
     clear D K
     try simp only [ac]
     generalize aC.alloc (.cells #[.nilFunc] 56)=ck at *
     generalize aC.heap.size=g3 at *
     refine aa.one (i:=4) (o:=⟨some 10,_,_,_,_,_⟩) (by kernel_rfl) rfl (fun K D=>?_)
     go_simp
     with_reducible refine (ci m _ ML.out HO.out).mono ?_
     rintro e bo ⟨⟨G,rfl,O,R⟩,hb⟩
     have IV:=hid (show G<2 ^ 256∧Cg (2 ^ 256) ((m:Int) * G) 1 from ⟨O,R⟩)
     have E:=ae.on f hb
     have F:=hid (z.out.on hb)
     clear z
     have z:=F
     clear F
     clear f hb O R
     have f:=E
     clear E
     go_wp2_with fail
     refine D.out _ _ ((M.out.on (ae.below f)).cell I m (by simp)) ?_
     clear D K
     try simp only [ac]
     refine aa.one (i:=7) (o:=⟨none,_,_,_,_,_⟩) (by kernel_rfl) rfl (fun K D=>?_)
     have zc:=cell_of_one z.out
     have Y:=lt_of_block z.out
     have Z:=F1.frozen z.out
     have E:=ae.set1 f V.out.1 (fun p J=>by simp only [List.mem_cons,List.not_mem_nil,or_false] at J; rcases J with rfl | rfl <;> first | exact (V.out.2 (g4,0) (by simp)) | exact (V.out.2 (gb,m) (by simp))) (.func (.func 64) #[] #[.pointer (some ⟨gb,0,none⟩)])
     have F:Hid (F1 (bo.setCell ⟨g3,0,none⟩ (.func (.func 64) #[] #[.pointer (some ⟨gb,0,none⟩)])) g3 (.func (.func 64) #[] #[.pointer (some ⟨gb,0,none⟩)])):=hid (one_setCell z.out)
     go_simp
     clear f z
     have f:=E
     have z:=F
     clear E F
     refine D.out _ _ ((M.out.on (ae.below f)).cell I m (by simp)) ?_
     clear D K
     try simp only [ac]
     clear zc Y Z
     generalize bo.setCell ⟨g3,0,none⟩ (.func (.func 64) #[] #[.pointer (some ⟨gb,0,none⟩)])=bn at *
     refine aa.one (i:=8) (o:=⟨none,_,_,_,_,_⟩) (by kernel_rfl) rfl (fun K D=>?_)
     obtain ⟨z0,z1,z2,z3⟩:=f.cell g4 0 (by simp)
     have Y:=f.lt g4 0 (by simp)
     have Z:=f.frozen g4 0 (by simp)
     have E:=f.set g4 0 G [(gb,m)] (by simp) Fg4.out.1 (fun p J=>by simp only [List.mem_cons,List.not_mem_nil,or_false] at J; rcases J with rfl <;> first | exact ⟨by simp,(Fg4.out.2 (gb,m) (by simp))⟩)
     have F:=hid (F1.fil z.out (Ne.symm (V.out.2 (g4,0) (by simp))) G)
     go_simp
     clear f z
     have f:=E
     have z:=F
     clear E F
     refine D.out _ _ ((M.out.on (ae.below f)).cell I m (by simp)) ?_
     clear D K
     try simp only [ac]
     clear z0 z1 z2 z3 Y Z
     change aa _ _ _ _ _ _ _ _ (fil bn g4 G)
     generalize fil bn g4 G=cj at *
     refine aa.done (by kernel_rfl) ?_ _
     refine NoPanic.normal ?_
     go_wp2_with fail
     go_meet
     exact ⟨_,_,gb,G,rfl,rfl,hid (f.perm (by simp)),z,IV,hid ⟨Fg4.out.1,Fgb.out.1,V.out.1⟩⟩
  ·skip
   go_simp
   have E:=ae.alloc f (.cells #[.nilFunc] 56)
   have V:=hid f.fresh
   have z:=hid (F1.new wd .nilFunc)
   clear f
   have f:=E
   clear E
   refine D.out _ _ ((M.out.on (ae.below f)).cell I m (by simp)) ?_
   clear D K
   try simp only [ac]
   generalize wd.alloc (.cells #[.nilFunc] 56)=ab at *
   generalize wd.heap.size=g3 at *
   refine aa.two (i:=1) (j:=6) (o:=⟨some 7,_,_,_,_,_⟩) (p:=⟨some 4,_,_,_,_,_⟩) (by kernel_rfl) rfl rfl (fun K D=>?_) (fun K D=>?_)
   ·skip
    go_simp
    with_reducible refine (by_any m _).mono ?_
    rintro e ap ⟨rfl,hE⟩
    have hb:=ae.below hE
    have E:=(ae.on f hb).more (hE.nm ab.heap.size m (by simp))
    have F:=hid (z.out.on hb)
    have ad:=hid (Nat.ne_of_lt (lt_of_block z.out))
    clear z
    have z:=F
    clear F
    have Fgb:=hid f.fresh
    clear f hE hb
    have f:=E
    clear E
    go_wp2_with fail
    refine D.out _ _ ((M.out.on (ae.below f)).cell I m (by simp)) ?_
    clear D K
    try simp only [ac]
    generalize ab.heap.size=gb at *
    refine aa.tk (i:=2) (o:=⟨some 8,_,_,_,_,_⟩) (v:=?_) [] (y:=Or.inl ⟨by rfl,?_⟩) (s:=(M.out.on (ae.below f)).cell I m (by simp)) (H:=?_)
    rotate_left
    ·rintro w ⟨up,-,hX⟩; (try dsimp only at hX); go_simp; try with_reducible rfl
    try simp only [ac]
    refine aa.two (i:=4) (j:=6) (o:=⟨some 10,_,_,_,_,_⟩) (p:=⟨some 4,_,_,_,_,_⟩) (by kernel_rfl) rfl rfl (fun K D=>?_) (fun K D=>?_)
    ·skip
     go_simp
     with_reducible refine (ci m _ ML.out HO.out).mono ?_
     rintro e an ⟨⟨G,rfl,O,R⟩,hb⟩
     have IV:=hid (show G<2 ^ 256∧Cg (2 ^ 256) ((m:Int) * G) 1 from ⟨O,R⟩)
     have E:=ae.on f hb
     have F:=hid (z.out.on hb)
     clear z
     have z:=F
     clear F
     clear f hb O R
     have f:=E
     clear E
     go_wp2_with fail
     refine D.out _ _ ((M.out.on (ae.below f)).cell I m (by simp)) ?_
     clear D K
     try simp only [ac]
     refine aa.one (i:=6) (o:=⟨some 4,_,_,_,_,_⟩) (by kernel_rfl) rfl (fun K D=>?_)
     go_simp
     have E:=f.zero
     have Fg4:=hid f.fresh
     have F:=hid (z.out.on ((Below.refl an.heap.size an).alloc (Nat.le_refl _) (.cells #[.int .u64 0,.int .u64 0,.int .u64 0,.int .u64 0] 24)))
     have U:=hid (Nat.ne_of_lt (lt_of_block z.out))
     clear z
     have z:=F
     clear F
     clear f
     have f:=E
     clear E
     refine D.out _ _ ((M.out.on (ae.below f)).cell I m (by simp)) ?_
     clear D K
     try simp only [ac]
     generalize an.alloc (.cells #[.int .u64 0,.int .u64 0,.int .u64 0,.int .u64 0] 24)=bm at *
     generalize an.heap.size=g4 at *
     refine aa.one (i:=7) (o:=⟨none,_,_,_,_,_⟩) (by kernel_rfl) rfl (fun K D=>?_)
     have zc:=cell_of_one z.out
     have Y:=lt_of_block z.out
     have Z:=F1.frozen z.out
     have E:=ae.set1 f V.out.1 (fun p J=>by simp only [List.mem_cons,List.not_mem_nil,or_false] at J; rcases J with rfl | rfl <;> first | exact (Ne.symm U.out) | exact (Ne.symm ad.out)) (.func (.func 64) #[] #[.pointer (some ⟨gb,0,none⟩)])
     have F:Hid (F1 (bm.setCell ⟨g3,0,none⟩ (.func (.func 64) #[] #[.pointer (some ⟨gb,0,none⟩)])) g3 (.func (.func 64) #[] #[.pointer (some ⟨gb,0,none⟩)])):=hid (one_setCell z.out)
     go_simp
     clear f z
     have f:=E
     have z:=F
     clear E F
     refine D.out _ _ ((M.out.on (ae.below f)).cell I m (by simp)) ?_
     clear D K
     try simp only [ac]
     clear zc Y Z
     generalize bm.setCell ⟨g3,0,none⟩ (.func (.func 64) #[] #[.pointer (some ⟨gb,0,none⟩)])=bk at *
     refine aa.one (i:=8) (o:=⟨none,_,_,_,_,_⟩) (by kernel_rfl) rfl (fun K D=>?_)
     obtain ⟨z0,z1,z2,z3⟩:=f.cell g4 0 (by simp)
     have Y:=f.lt g4 0 (by simp)
     have Z:=f.frozen g4 0 (by simp)
     have E:=f.set g4 0 G [(gb,m)] (by simp) Fg4.out.1 (fun p J=>by simp only [List.mem_cons,List.not_mem_nil,or_false] at J; rcases J with rfl <;> first | exact ⟨by simp,(Fg4.out.2 (gb,m) (by simp))⟩)
     have F:=hid (F1.fil z.out U.out G)
     go_simp
     clear f z
     have f:=E
     have z:=F
     clear E F
     refine D.out _ _ ((M.out.on (ae.below f)).cell I m (by simp)) ?_
     clear D K
     try simp only [ac]
     clear z0 z1 z2 z3 Y Z
     change aa _ _ _ _ _ _ _ _ (fil bk g4 G)
     generalize fil bk g4 G=cf at *
     refine aa.done (by kernel_rfl) ?_ _
     refine NoPanic.normal ?_
     go_wp2_with fail
     go_meet
     exact ⟨_,_,gb,G,rfl,rfl,hid (f.perm (by simp)),z,IV,hid ⟨Fg4.out.1,Fgb.out.1,V.out.1⟩⟩
    ·skip
     go_simp
     have E:=f.zero
     have Fg4:=hid f.fresh
     have F:=hid (z.out.on ((Below.refl ap.heap.size ap).alloc (Nat.le_refl _) (.cells #[.int .u64 0,.int .u64 0,.int .u64 0,.int .u64 0] 24)))
     have U:=hid (Nat.ne_of_lt (lt_of_block z.out))
     clear z
     have z:=F
     clear F
     clear f
     have f:=E
     clear E
     refine D.out _ _ ((M.out.on (ae.below f)).cell I m (by simp)) ?_
     clear D K
     try simp only [ac]
     generalize ap.alloc (.cells #[.int .u64 0,.int .u64 0,.int .u64 0,.int .u64 0] 24)=cd at *
     generalize ap.heap.size=g4 at *
     refine aa.one (i:=4) (o:=⟨some 10,_,_,_,_,_⟩) (by kernel_rfl) rfl (fun K D=>?_)
     go_simp
     with_reducible refine (ci m _ ML.out HO.out).mono ?_
     rintro e bd ⟨⟨G,rfl,O,R⟩,hb⟩
     have IV:=hid (show G<2 ^ 256∧Cg (2 ^ 256) ((m:Int) * G) 1 from ⟨O,R⟩)
     have E:=ae.on f hb
     have F:=hid (z.out.on hb)
     clear z
     have z:=F
     clear F
     clear f hb O R
     have f:=E
     clear E
     go_wp2_with fail
     refine D.out _ _ ((M.out.on (ae.below f)).cell I m (by simp)) ?_
     clear D K
     try simp only [ac]
     refine aa.one (i:=7) (o:=⟨none,_,_,_,_,_⟩) (by kernel_rfl) rfl (fun K D=>?_)
     have zc:=cell_of_one z.out
     have Y:=lt_of_block z.out
     have Z:=F1.frozen z.out
     have E:=ae.set1 f V.out.1 (fun p J=>by simp only [List.mem_cons,List.not_mem_nil,or_false] at J; rcases J with rfl | rfl <;> first | exact (Ne.symm U.out) | exact (Ne.symm ad.out)) (.func (.func 64) #[] #[.pointer (some ⟨gb,0,none⟩)])
     have F:Hid (F1 (bd.setCell ⟨g3,0,none⟩ (.func (.func 64) #[] #[.pointer (some ⟨gb,0,none⟩)])) g3 (.func (.func 64) #[] #[.pointer (some ⟨gb,0,none⟩)])):=hid (one_setCell z.out)
     go_simp
     clear f z
     have f:=E
     have z:=F
     clear E F
     refine D.out _ _ ((M.out.on (ae.below f)).cell I m (by simp)) ?_
     clear D K
     try simp only [ac]
     clear zc Y Z
     generalize bd.setCell ⟨g3,0,none⟩ (.func (.func 64) #[] #[.pointer (some ⟨gb,0,none⟩)])=bb at *
     refine aa.one (i:=8) (o:=⟨none,_,_,_,_,_⟩) (by kernel_rfl) rfl (fun K D=>?_)
     obtain ⟨z0,z1,z2,z3⟩:=f.cell g4 0 (by simp)
     have Y:=f.lt g4 0 (by simp)
     have Z:=f.frozen g4 0 (by simp)
     have E:=f.set g4 0 G [(gb,m)] (by simp) Fg4.out.1 (fun p J=>by simp only [List.mem_cons,List.not_mem_nil,or_false] at J; rcases J with rfl <;> first | exact ⟨by simp,(Fg4.out.2 (gb,m) (by simp))⟩)
     have F:=hid (F1.fil z.out U.out G)
     go_simp
     clear f z
     have f:=E
     have z:=F
     clear E F
     refine D.out _ _ ((M.out.on (ae.below f)).cell I m (by simp)) ?_
     clear D K
     try simp only [ac]
     clear z0 z1 z2 z3 Y Z
     change aa _ _ _ _ _ _ _ _ (fil bb g4 G)
     generalize fil bb g4 G=cc at *
     refine aa.done (by kernel_rfl) ?_ _
     refine NoPanic.normal ?_
     go_wp2_with fail
     go_meet
     exact ⟨_,_,gb,G,rfl,rfl,hid (f.perm (by simp)),z,IV,hid ⟨Fg4.out.1,Fgb.out.1,V.out.1⟩⟩
   ·skip
    go_simp
    have E:=f.zero
    have Fg4:=hid f.fresh
    have F:=hid (z.out.on ((Below.refl ab.heap.size ab).alloc (Nat.le_refl _) (.cells #[.int .u64 0,.int .u64 0,.int .u64 0,.int .u64 0] 24)))
    have U:=hid (Nat.ne_of_lt (lt_of_block z.out))
    clear z
    have z:=F
    clear F
    clear f
    have f:=E
    clear E
    refine D.out _ _ ((M.out.on (ae.below f)).cell I m (by simp)) ?_
    clear D K
    try simp only [ac]
    generalize ab.alloc (.cells #[.int .u64 0,.int .u64 0,.int .u64 0,.int .u64 0] 24)=ba at *
    generalize ab.heap.size=g4 at *
    refine aa.one (i:=1) (o:=⟨some 7,_,_,_,_,_⟩) (by kernel_rfl) rfl (fun K D=>?_)
    go_simp
    with_reducible refine (by_any m _).mono ?_
    rintro e cb ⟨rfl,hE⟩
    have hb:=ae.below hE
    have E:=(ae.on f hb).more (hE.nm ba.heap.size m (by simp))
    have F:=hid (z.out.on hb)
    have ad:=hid (Nat.ne_of_lt (lt_of_block z.out))
    clear z
    have z:=F
    clear F
    have Fgb:=hid f.fresh
    clear f hE hb
    have f:=E
    clear E
    go_wp2_with fail
    refine D.out _ _ ((M.out.on (ae.below f)).cell I m (by simp)) ?_
    clear D K
    try simp only [ac]
    generalize ba.heap.size=gb at *
    refine aa.tk (i:=2) (o:=⟨some 8,_,_,_,_,_⟩) (v:=?_) [] (y:=Or.inl ⟨by rfl,?_⟩) (s:=(M.out.on (ae.below f)).cell I m (by simp)) (H:=?_)
    rotate_left
    ·rintro w ⟨up,-,hX⟩; (try dsimp only at hX); go_simp; try with_reducible rfl
    try simp only [ac]
    refine aa.one (i:=4) (o:=⟨some 10,_,_,_,_,_⟩) (by kernel_rfl) rfl (fun K D=>?_)
    go_simp
    with_reducible refine (ci m _ ML.out HO.out).mono ?_
    rintro e aW ⟨⟨G,rfl,O,R⟩,hb⟩
    have IV:=hid (show G<2 ^ 256∧Cg (2 ^ 256) ((m:Int) * G) 1 from ⟨O,R⟩)
    have E:=ae.on f hb
    have F:=hid (z.out.on hb)
    clear z
    have z:=F
    clear F
    clear f hb O R
    have f:=E
    clear E
    go_wp2_with fail
    refine D.out _ _ ((M.out.on (ae.below f)).cell I m (by simp)) ?_
    clear D K
    try simp only [ac]
    refine aa.one (i:=7) (o:=⟨none,_,_,_,_,_⟩) (by kernel_rfl) rfl (fun K D=>?_)
    have zc:=cell_of_one z.out
    have Y:=lt_of_block z.out
    have Z:=F1.frozen z.out
    have E:=ae.set1 f V.out.1 (fun p J=>by simp only [List.mem_cons,List.not_mem_nil,or_false] at J; rcases J with rfl | rfl <;> first | exact (Ne.symm ad.out) | exact (Ne.symm U.out)) (.func (.func 64) #[] #[.pointer (some ⟨gb,0,none⟩)])
    have F:Hid (F1 (aW.setCell ⟨g3,0,none⟩ (.func (.func 64) #[] #[.pointer (some ⟨gb,0,none⟩)])) g3 (.func (.func 64) #[] #[.pointer (some ⟨gb,0,none⟩)])):=hid (one_setCell z.out)
    go_simp
    clear f z
    have f:=E
    have z:=F
    clear E F
    refine D.out _ _ ((M.out.on (ae.below f)).cell I m (by simp)) ?_
    clear D K
    try simp only [ac]
    clear zc Y Z
    generalize aW.setCell ⟨g3,0,none⟩ (.func (.func 64) #[] #[.pointer (some ⟨gb,0,none⟩)])=aU at *
    refine aa.one (i:=8) (o:=⟨none,_,_,_,_,_⟩) (by kernel_rfl) rfl (fun K D=>?_)
    obtain ⟨z0,z1,z2,z3⟩:=f.cell g4 0 (by simp)
    have Y:=f.lt g4 0 (by simp)
    have Z:=f.frozen g4 0 (by simp)
    have E:=f.set g4 0 G [(gb,m)] (by simp) Fg4.out.1 (fun p J=>by simp only [List.mem_cons,List.not_mem_nil,or_false] at J; rcases J with rfl <;> first | exact ⟨by simp,(Ne.symm (Fgb.out.2 (g4,0) (by simp)))⟩)
    have F:=hid (F1.fil z.out U.out G)
    go_simp
    clear f z
    have f:=E
    have z:=F
    clear E F
    refine D.out _ _ ((M.out.on (ae.below f)).cell I m (by simp)) ?_
    clear D K
    try simp only [ac]
    clear z0 z1 z2 z3 Y Z
    change aa _ _ _ _ _ _ _ _ (fil aU g4 G)
    generalize fil aU g4 G=ca at *
    refine aa.done (by kernel_rfl) ?_ _
    refine NoPanic.normal ?_
    go_wp2_with fail
    go_meet
    exact ⟨_,_,gb,G,rfl,rfl,hid (f.perm (by simp)),z,IV,hid ⟨Fg4.out.1,Fgb.out.1,V.out.1⟩⟩
  ·skip
   go_simp
   have E:=f.zero
   have Fg4:=hid f.fresh
   clear f
   have f:=E
   clear E
   refine D.out _ _ ((M.out.on (ae.below f)).cell I m (by simp)) ?_
   clear D K
   try simp only [ac]
   generalize wd.alloc (.cells #[.int .u64 0,.int .u64 0,.int .u64 0,.int .u64 0] 24)=al at *
   generalize wd.heap.size=g4 at *
   refine aa.two (i:=1) (j:=5) (o:=⟨some 7,_,_,_,_,_⟩) (p:=⟨some 3,_,_,_,_,_⟩) (by kernel_rfl) rfl rfl (fun K D=>?_) (fun K D=>?_)
   ·skip
    go_simp
    with_reducible refine (by_any m _).mono ?_
    rintro e aA ⟨rfl,hE⟩
    have hb:=ae.below hE
    have E:=(ae.on f hb).more (hE.nm al.heap.size m (by simp))
    have Fgb:=hid f.fresh
    clear f hE hb
    have f:=E
    clear E
    go_wp2_with fail
    refine D.out _ _ ((M.out.on (ae.below f)).cell I m (by simp)) ?_
    clear D K
    try simp only [ac]
    generalize al.heap.size=gb at *
    refine aa.tk (i:=2) (o:=⟨some 8,_,_,_,_,_⟩) (v:=?_) [] (y:=Or.inl ⟨by rfl,?_⟩) (s:=(M.out.on (ae.below f)).cell I m (by simp)) (H:=?_)
    rotate_left
    ·rintro w ⟨up,-,hX⟩; (try dsimp only at hX); go_simp; try with_reducible rfl
    try simp only [ac]
    refine aa.two (i:=4) (j:=5) (o:=⟨some 10,_,_,_,_,_⟩) (p:=⟨some 3,_,_,_,_,_⟩) (by kernel_rfl) rfl rfl (fun K D=>?_) (fun K D=>?_)
    ·skip
     go_simp
     with_reducible refine (ci m _ ML.out HO.out).mono ?_
     rintro e ay ⟨⟨G,rfl,O,R⟩,hb⟩
     have IV:=hid (show G<2 ^ 256∧Cg (2 ^ 256) ((m:Int) * G) 1 from ⟨O,R⟩)
     have E:=ae.on f hb
     clear f hb O R
     have f:=E
     clear E
     go_wp2_with fail
     refine D.out _ _ ((M.out.on (ae.below f)).cell I m (by simp)) ?_
     clear D K
     try simp only [ac]
     refine aa.one (i:=5) (o:=⟨some 3,_,_,_,_,_⟩) (by kernel_rfl) rfl (fun K D=>?_)
     go_simp
     have E:=ae.alloc f (.cells #[.nilFunc] 56)
     have V:=hid f.fresh
     have z:=hid (F1.new ay .nilFunc)
     clear f
     have f:=E
     clear E
     refine D.out _ _ ((M.out.on (ae.below f)).cell I m (by simp)) ?_
     clear D K
     try simp only [ac]
     generalize ay.alloc (.cells #[.nilFunc] 56)=aT at *
     generalize ay.heap.size=g3 at *
     refine aa.one (i:=7) (o:=⟨none,_,_,_,_,_⟩) (by kernel_rfl) rfl (fun K D=>?_)
     have zc:=cell_of_one z.out
     have Y:=lt_of_block z.out
     have Z:=F1.frozen z.out
     have E:=ae.set1 f V.out.1 (fun p J=>by simp only [List.mem_cons,List.not_mem_nil,or_false] at J; rcases J with rfl | rfl <;> first | exact (V.out.2 (gb,m) (by simp)) | exact (V.out.2 (g4,0) (by simp))) (.func (.func 64) #[] #[.pointer (some ⟨gb,0,none⟩)])
     have F:Hid (F1 (aT.setCell ⟨g3,0,none⟩ (.func (.func 64) #[] #[.pointer (some ⟨gb,0,none⟩)])) g3 (.func (.func 64) #[] #[.pointer (some ⟨gb,0,none⟩)])):=hid (one_setCell z.out)
     go_simp
     clear f z
     have f:=E
     have z:=F
     clear E F
     refine D.out _ _ ((M.out.on (ae.below f)).cell I m (by simp)) ?_
     clear D K
     try simp only [ac]
     clear zc Y Z
     generalize aT.setCell ⟨g3,0,none⟩ (.func (.func 64) #[] #[.pointer (some ⟨gb,0,none⟩)])=aS at *
     refine aa.one (i:=8) (o:=⟨none,_,_,_,_,_⟩) (by kernel_rfl) rfl (fun K D=>?_)
     obtain ⟨z0,z1,z2,z3⟩:=f.cell g4 0 (by simp)
     have Y:=f.lt g4 0 (by simp)
     have Z:=f.frozen g4 0 (by simp)
     have E:=f.set g4 0 G [(gb,m)] (by simp) Fg4.out.1 (fun p J=>by simp only [List.mem_cons,List.not_mem_nil,or_false] at J; rcases J with rfl <;> first | exact ⟨by simp,(Ne.symm (Fgb.out.2 (g4,0) (by simp)))⟩)
     have F:=hid (F1.fil z.out (Ne.symm (V.out.2 (g4,0) (by simp))) G)
     go_simp
     clear f z
     have f:=E
     have z:=F
     clear E F
     refine D.out _ _ ((M.out.on (ae.below f)).cell I m (by simp)) ?_
     clear D K
     try simp only [ac]
     clear z0 z1 z2 z3 Y Z
     change aa _ _ _ _ _ _ _ _ (fil aS g4 G)
     generalize fil aS g4 G=bZ at *
     refine aa.done (by kernel_rfl) ?_ _
     refine NoPanic.normal ?_
     go_wp2_with fail
     go_meet
     exact ⟨_,_,gb,G,rfl,rfl,hid (f.perm (by simp)),z,IV,hid ⟨Fg4.out.1,Fgb.out.1,V.out.1⟩⟩
    ·skip
     go_simp
     have E:=ae.alloc f (.cells #[.nilFunc] 56)
     have V:=hid f.fresh
     have z:=hid (F1.new aA .nilFunc)
     clear f
     have f:=E
     clear E
     refine D.out _ _ ((M.out.on (ae.below f)).cell I m (by simp)) ?_
     clear D K
     try simp only [ac]
     generalize aA.alloc (.cells #[.nilFunc] 56)=bY at *
     generalize aA.heap.size=g3 at *
     refine aa.one (i:=4) (o:=⟨some 10,_,_,_,_,_⟩) (by kernel_rfl) rfl (fun K D=>?_)
     go_simp
     with_reducible refine (ci m _ ML.out HO.out).mono ?_
     rintro e aR ⟨⟨G,rfl,O,R⟩,hb⟩
     have IV:=hid (show G<2 ^ 256∧Cg (2 ^ 256) ((m:Int) * G) 1 from ⟨O,R⟩)
     have E:=ae.on f hb
     have F:=hid (z.out.on hb)
     clear z
     have z:=F
     clear F
     clear f hb O R
     have f:=E
     clear E
     go_wp2_with fail
     refine D.out _ _ ((M.out.on (ae.below f)).cell I m (by simp)) ?_
     clear D K
     try simp only [ac]
     refine aa.one (i:=7) (o:=⟨none,_,_,_,_,_⟩) (by kernel_rfl) rfl (fun K D=>?_)
     have zc:=cell_of_one z.out
     have Y:=lt_of_block z.out
     have Z:=F1.frozen z.out
     have E:=ae.set1 f V.out.1 (fun p J=>by simp only [List.mem_cons,List.not_mem_nil,or_false] at J; rcases J with rfl | rfl <;> first | exact (V.out.2 (gb,m) (by simp)) | exact (V.out.2 (g4,0) (by simp))) (.func (.func 64) #[] #[.pointer (some ⟨gb,0,none⟩)])
     have F:Hid (F1 (aR.setCell ⟨g3,0,none⟩ (.func (.func 64) #[] #[.pointer (some ⟨gb,0,none⟩)])) g3 (.func (.func 64) #[] #[.pointer (some ⟨gb,0,none⟩)])):=hid (one_setCell z.out)
     go_simp
     clear f z
     have f:=E
     have z:=F
     clear E F
     refine D.out _ _ ((M.out.on (ae.below f)).cell I m (by simp)) ?_
     clear D K
     try simp only [ac]
     clear zc Y Z
     generalize aR.setCell ⟨g3,0,none⟩ (.func (.func 64) #[] #[.pointer (some ⟨gb,0,none⟩)])=aQ at *
     refine aa.one (i:=8) (o:=⟨none,_,_,_,_,_⟩) (by kernel_rfl) rfl (fun K D=>?_)
     obtain ⟨z0,z1,z2,z3⟩:=f.cell g4 0 (by simp)
     have Y:=f.lt g4 0 (by simp)
     have Z:=f.frozen g4 0 (by simp)
     have E:=f.set g4 0 G [(gb,m)] (by simp) Fg4.out.1 (fun p J=>by simp only [List.mem_cons,List.not_mem_nil,or_false] at J; rcases J with rfl <;> first | exact ⟨by simp,(Ne.symm (Fgb.out.2 (g4,0) (by simp)))⟩)
     have F:=hid (F1.fil z.out (Ne.symm (V.out.2 (g4,0) (by simp))) G)
     go_simp
     clear f z
     have f:=E
     have z:=F
     clear E F
     refine D.out _ _ ((M.out.on (ae.below f)).cell I m (by simp)) ?_
     clear D K
     try simp only [ac]
     clear z0 z1 z2 z3 Y Z
     change aa _ _ _ _ _ _ _ _ (fil aQ g4 G)
     generalize fil aQ g4 G=bX at *
     refine aa.done (by kernel_rfl) ?_ _
     refine NoPanic.normal ?_
     go_wp2_with fail
     go_meet
     exact ⟨_,_,gb,G,rfl,rfl,hid (f.perm (by simp)),z,IV,hid ⟨Fg4.out.1,Fgb.out.1,V.out.1⟩⟩
   ·skip
    go_simp
    have E:=ae.alloc f (.cells #[.nilFunc] 56)
    have V:=hid f.fresh
    have z:=hid (F1.new al .nilFunc)
    clear f
    have f:=E
    clear E
    refine D.out _ _ ((M.out.on (ae.below f)).cell I m (by simp)) ?_
    clear D K
    try simp only [ac]
    generalize al.alloc (.cells #[.nilFunc] 56)=aN at *
    generalize al.heap.size=g3 at *
    refine aa.one (i:=1) (o:=⟨some 7,_,_,_,_,_⟩) (by kernel_rfl) rfl (fun K D=>?_)
    go_simp
    with_reducible refine (by_any m _).mono ?_
    rintro e bW ⟨rfl,hE⟩
    have hb:=ae.below hE
    have E:=(ae.on f hb).more (hE.nm aN.heap.size m (by simp))
    have F:=hid (z.out.on hb)
    have ad:=hid (Nat.ne_of_lt (lt_of_block z.out))
    clear z
    have z:=F
    clear F
    have Fgb:=hid f.fresh
    clear f hE hb
    have f:=E
    clear E
    go_wp2_with fail
    refine D.out _ _ ((M.out.on (ae.below f)).cell I m (by simp)) ?_
    clear D K
    try simp only [ac]
    generalize aN.heap.size=gb at *
    refine aa.tk (i:=2) (o:=⟨some 8,_,_,_,_,_⟩) (v:=?_) [] (y:=Or.inl ⟨by rfl,?_⟩) (s:=(M.out.on (ae.below f)).cell I m (by simp)) (H:=?_)
    rotate_left
    ·rintro w ⟨up,-,hX⟩; (try dsimp only at hX); go_simp; try with_reducible rfl
    try simp only [ac]
    refine aa.one (i:=4) (o:=⟨some 10,_,_,_,_,_⟩) (by kernel_rfl) rfl (fun K D=>?_)
    go_simp
    with_reducible refine (ci m _ ML.out HO.out).mono ?_
    rintro e aM ⟨⟨G,rfl,O,R⟩,hb⟩
    have IV:=hid (show G<2 ^ 256∧Cg (2 ^ 256) ((m:Int) * G) 1 from ⟨O,R⟩)
    have E:=ae.on f hb
    have F:=hid (z.out.on hb)
    clear z
    have z:=F
    clear F
    clear f hb O R
    have f:=E
    clear E
    go_wp2_with fail
    refine D.out _ _ ((M.out.on (ae.below f)).cell I m (by simp)) ?_
    clear D K
    try simp only [ac]
    refine aa.one (i:=7) (o:=⟨none,_,_,_,_,_⟩) (by kernel_rfl) rfl (fun K D=>?_)
    have zc:=cell_of_one z.out
    have Y:=lt_of_block z.out
    have Z:=F1.frozen z.out
    have E:=ae.set1 f V.out.1 (fun p J=>by simp only [List.mem_cons,List.not_mem_nil,or_false] at J; rcases J with rfl | rfl <;> first | exact (Ne.symm ad.out) | exact (V.out.2 (g4,0) (by simp))) (.func (.func 64) #[] #[.pointer (some ⟨gb,0,none⟩)])
    have F:Hid (F1 (aM.setCell ⟨g3,0,none⟩ (.func (.func 64) #[] #[.pointer (some ⟨gb,0,none⟩)])) g3 (.func (.func 64) #[] #[.pointer (some ⟨gb,0,none⟩)])):=hid (one_setCell z.out)
    go_simp
    clear f z
    have f:=E
    have z:=F
    clear E F
    refine D.out _ _ ((M.out.on (ae.below f)).cell I m (by simp)) ?_
    clear D K
    try simp only [ac]
    clear zc Y Z
    generalize aM.setCell ⟨g3,0,none⟩ (.func (.func 64) #[] #[.pointer (some ⟨gb,0,none⟩)])=aL at *
    refine aa.one (i:=8) (o:=⟨none,_,_,_,_,_⟩) (by kernel_rfl) rfl (fun K D=>?_)
    obtain ⟨z0,z1,z2,z3⟩:=f.cell g4 0 (by simp)
    have Y:=f.lt g4 0 (by simp)
    have Z:=f.frozen g4 0 (by simp)
    have E:=f.set g4 0 G [(gb,m)] (by simp) Fg4.out.1 (fun p J=>by simp only [List.mem_cons,List.not_mem_nil,or_false] at J; rcases J with rfl <;> first | exact ⟨by simp,(Ne.symm (Fgb.out.2 (g4,0) (by simp)))⟩)
    have F:=hid (F1.fil z.out (Ne.symm (V.out.2 (g4,0) (by simp))) G)
    go_simp
    clear f z
    have f:=E
    have z:=F
    clear E F
    refine D.out _ _ ((M.out.on (ae.below f)).cell I m (by simp)) ?_
    clear D K
    try simp only [ac]
    clear z0 z1 z2 z3 Y Z
    change aa _ _ _ _ _ _ _ _ (fil aL g4 G)
    generalize fil aL g4 G=bV at *
    refine aa.done (by kernel_rfl) ?_ _
    refine NoPanic.normal ?_
    go_wp2_with fail
    go_meet
    exact ⟨_,_,gb,G,rfl,rfl,hid (f.perm (by simp)),z,IV,hid ⟨Fg4.out.1,Fgb.out.1,V.out.1⟩⟩
 case rest =>
  obtain ⟨gs,gi,gb,G,rfl,rfl,H1,HG,IV,DF⟩:=hcut
  go_upto_region 3 with fail
  have HL:=hid (F1.new wc (.func (.func 123) #[] #[.pointer (some ⟨gi,0,none⟩),.pointer (some ⟨I,0,none⟩),.pointer (some ⟨gs,0,none⟩)]))
  have bQ:=hid (HG.out.on ((Below.refl wc.heap.size wc).alloc (Nat.le_refl _) (.cells #[.func (.func 123) #[] #[.pointer (some ⟨gi,0,none⟩),.pointer (some ⟨I,0,none⟩),.pointer (some ⟨gs,0,none⟩)]] 56)))
  have H2:=hid (H1.out.alloc (.cells #[.func (.func 123) #[] #[.pointer (some ⟨gi,0,none⟩),.pointer (some ⟨I,0,none⟩),.pointer (some ⟨gs,0,none⟩)]] 56))
  have GI:=hid (H1.out.lt gi G (by simp))
  have BL:=hid (show wc.heap.size≠gr from Nat.ne_of_gt (Nat.lt_of_lt_of_le HR.out.lt H1.out.below.size))
  generalize wc.alloc (.cells #[.func (.func 123) #[] #[.pointer (some ⟨gi,0,none⟩),.pointer (some ⟨I,0,none⟩),.pointer (some ⟨gs,0,none⟩)]] 56)=wd at *
  generalize wc.heap.size=gl at *
  have aK:=hid (HR.out.on H2.out.below)
  have E1:=hid (M.out.on H2.out.below)
  have SD:=hid (show Shd wd m G gi I gs gb gl from ⟨H2.out.nm gi G (by simp),E1.out.nm I m (by simp),H2.out.nm gb m (by simp),bQ.out,HL.out⟩)
  have bS:=hid (show gi≠gr from Ne.symm (Nat.ne_of_lt (Nat.lt_of_lt_of_le HR.out.lt DF.out.1)))
  have bU:=hid (show gb≠gr from Ne.symm (Nat.ne_of_lt (Nat.lt_of_lt_of_le HR.out.lt DF.out.2.1)))
  have bR:=hid (show gs≠gr from Ne.symm (Nat.ne_of_lt (Nat.lt_of_lt_of_le HR.out.lt DF.out.2.2)))
  have NE:=hid (show gi≠gr∧I≠gr∧gb≠gr∧gs≠gr∧gl≠gr from ⟨bS.out,HF.out.2,bU.out,bR.out,BL.out⟩)
  obtain ⟨z0,z1,z2⟩:=aK.out.cell
  have Z:=aK.out.frozen
  have Y:=aK.out.lt
  go_wp2
  clear z0 z1 z2 Z Y
  have HZ:=hid (E1.out.fil3 (g:=gr) (a:=.func (.func 124) #[] #[.pointer (some ⟨I,0,none⟩)]) (b:=.func (.func 125) #[] #[.pointer (some ⟨gl,0,none⟩)]) (c:=.func (.func 126) #[] #[.pointer (some ⟨gl,0,none⟩)]) (by rw [hm]; exact HF.out.1) (by simp; exact HF.out.2))
  have HY:=hid (aK.out.fil (.func (.func 124) #[] #[.pointer (some ⟨I,0,none⟩)]) (.func (.func 125) #[] #[.pointer (some ⟨gl,0,none⟩)]) (.func (.func 126) #[] #[.pointer (some ⟨gl,0,none⟩)]))
  have HS:=hid (SD.out.fil3 NE.out (.func (.func 124) #[] #[.pointer (some ⟨I,0,none⟩)]) (.func (.func 125) #[] #[.pointer (some ⟨gl,0,none⟩)]) (.func (.func 126) #[] #[.pointer (some ⟨gl,0,none⟩)]))
  change bodyPost _ _ _ _ _ (fil3 wd gr _ _ _)
  generalize fil3 wd gr _ _ _=wz at *
  obtain ⟨k0,k1,k2⟩:=HY.out.cell
  exact bodyPost_ret (v:=sform I gl) (by simp [results,Tryz.results114,go_sem,k0,k1,k2]) rfl ⟨⟨G,gi,I,gs,gb,gl,rfl,HS.out,IV.out.1,IV.out.2⟩,(by have hq:=HZ.out.1; first | exact hq | rwa [hm] at hq)⟩
theorem Nm.ne3 {w:World} {g g' x t:Nat} {a b c:Value} (h:Nm w g x) (z:R3 w g' t a b c) (f:t≠24):g≠g':=by
 intro e; subst e
 have D:some (Obj.cells (ai x) 24 (0,0))=some (Obj.cells #[a,b,c] t (0,0)):=h.symm.trans z
 injection D with h2
 injection h2 with h4 h5
 exact f h5.symm
theorem F1.ne3 {w:World} {g g' t:Nat} {v a b c:Value} (h:F1 w g v) (f:R3 w g' t a b c):g≠g':=by
 intro e; subst e
 have z:some (Obj.cells #[v] 56 (0,0))=some (Obj.cells #[a,b,c] t (0,0)):=h.symm.trans f
 injection z with h2
 injection h2 with h4 h5
 have:=congrArg Array.size h4
 simp at this
theorem form_odd (m c:Nat) (w:World) (F:m<2 ^ 256) (hc:16<c) (ho:m % 2=1):Calls Tryz.prog 100 #[af m,.int .i64 (c:Int)] w fun e w'=>ShE m e w'∧Below w.heap.size w w':=by
 have al:(c:Int) > 16:=by omega
 have ab:(16:Int)<(c:Int):=by omega
 have ML:=hid F
 have HO:=hid ho
 have an:=hid (show ((m % 2:Nat):Int)=1 by omega)
 clear F ho
 have ad:∀ (fn:Fn) (first J:Array Value) (w:World),(Instr.makeFunc fn first J).run Tryz.prog w=.ok (.func fn first J) w:=fun _ _ _ _=>rfl
 have HE:=hid ((ae.refl w).new m)
 go_enter Tryz.func100,Tryz.ntmps100
 go_upto_region 1 with fail
 have HR:=hid (R3.new (w.alloc (.cells (ai m) 24)) 116 .nilFunc .nilFunc .nilFunc)
 have O:=hid (HE.out.alloc (.cells #[.nilFunc,.nilFunc,.nilFunc] 116))
 have HF:=hid (show w.heap.size≤(w.alloc (.cells (ai m) 24)).heap.size∧w.heap.size≠(w.alloc (.cells (ai m) 24)).heap.size by simp)
 simp only [show ∀ (w:World) (o:Obj),(w.alloc o).heap.size=w.heap.size+1 from fun w o=>Array.size_push _] at HR HF
 clear HE
 generalize (w.alloc (.cells (ai m) 24)).alloc (.cells #[.nilFunc,.nilFunc,.nilFunc] 116)=w0 at *
 generalize hr:w.heap.size+1=z at *
 generalize hm:w.heap.size=L at *
 have EB:=hid (show (bi m 0:Int)=((m % 2:Nat):Int) by rw [show bi m 0=m % 2 by simp [bi,aV]])
 obtain ⟨c0,c1,Z,Y⟩:=O.out.cell L m (by simp)
 have V:=O.out.lt L m (by simp)
 go_wp2_with fail
 clear c0 c1 Z Y V
 refine (bit_at m 0 _ (ae.refl w0) ML.out (by decide) (by decide) EB.out).mono ?_
 rintro e w1 ⟨rfl,U⟩
 have K:=hid (HR.out.on U.below)
 have M:=hid (O.out.on U.below)
 clear U HR O
 rw [HO.out]
 obtain ⟨c0,c1,Z,Y⟩:=M.out.cell L m (by simp)
 have V:=M.out.lt L m (by simp)
 go_wp2_with fail
 clear c0 c1 Z Y V
 refine (shifted_any m w1 ML.out HO.out).mono ?_
 rintro e w2 ⟨⟨R,gi,E,gs,gb,gl,rfl,D,G,I⟩,hb⟩
 have f:=hid (K.out.on hb)
 have E2:=hid (M.out.on hb)
 have NE:=hid (show gi≠z∧E≠z∧gb≠z∧gs≠z∧gl≠z from ⟨D.1.ne3 f.out (by decide),D.2.1.ne3 f.out (by decide),D.2.2.1.ne3 f.out (by decide),D.2.2.2.1.ne3 f.out,D.2.2.2.2.ne3 f.out⟩)
 have SD:=hid D
 have IV:=hid (show R<2 ^ 256∧Cg (2 ^ 256) ((m:Int) * R) 1 from ⟨G,I⟩)
 clear D G I hb K M
 obtain ⟨z0,z1,z2⟩:=f.out.cell
 have zf:=f.out.frozen
 have zl:=f.out.lt
 go_wp2
 clear z0 z1 z2 zf zl
 have HZ:=hid (E2.out.fil3 (g:=z) (a:=.func (.func 124) #[] #[.pointer (some ⟨E,0,none⟩)]) (b:=.func (.func 125) #[] #[.pointer (some ⟨gl,0,none⟩)]) (c:=.func (.func 126) #[] #[.pointer (some ⟨gl,0,none⟩)]) (by rw [hm]; exact HF.out.1) (by simp; exact HF.out.2))
 have HY:=hid (f.out.fil (.func (.func 124) #[] #[.pointer (some ⟨E,0,none⟩)]) (.func (.func 125) #[] #[.pointer (some ⟨gl,0,none⟩)]) (.func (.func 126) #[] #[.pointer (some ⟨gl,0,none⟩)]))
 have HS:=hid (SD.out.fil3 NE.out (.func (.func 124) #[] #[.pointer (some ⟨E,0,none⟩)]) (.func (.func 125) #[] #[.pointer (some ⟨gl,0,none⟩)]) (.func (.func 126) #[] #[.pointer (some ⟨gl,0,none⟩)]))
 try rw [Exit.noGoto_ret]
 change bodyPost _ _ _ _ _ (fil3 w2 z _ _ _)
 generalize fil3 w2 z _ _ _=wz at *
 obtain ⟨k0,k1,k2⟩:=HY.out.cell
 exact bodyPost_ret (v:=sform E gl) (by simp [results,Tryz.results100,go_sem,k0,k1,k2]) rfl ⟨⟨R,gi,E,gs,gb,gl,rfl,HS.out,IV.out.1,IV.out.2⟩,(by have hq:=HZ.out.1; first | exact hq | rwa [hm] at hq)⟩
theorem form_even (m c:Nat) (w:World) (z:m<2 ^ 256) (hc:16<c) (Z:m % 2=0):Calls Tryz.prog 100 #[af m,.int .i64 (c:Int)] w fun e w'=>∃ g,e=.returned (pform g)∧ae w [(g,m)] w':=by
 have al:(c:Int) > 16:=by omega
 have ab:(16:Int)<(c:Int):=by omega
 have ML:=hid z
 have HO:=hid Z
 clear z Z
 have ad:∀ (fn:Fn) (first F:Array Value) (w:World),(Instr.makeFunc fn first F).run Tryz.prog w=.ok (.func fn first F) w:=fun _ _ _ _=>rfl
 have HE:=hid ((ae.refl w).new m)
 go_enter Tryz.func100,Tryz.ntmps100
 go_upto_region 1 with fail
 have V:=hid (R3.new (w.alloc (.cells (ai m) 24)) 116 .nilFunc .nilFunc .nilFunc)
 have J:=hid (HE.out.alloc (.cells #[.nilFunc,.nilFunc,.nilFunc] 116))
 have Y:=hid (show w.heap.size≤(w.alloc (.cells (ai m) 24)).heap.size∧w.heap.size≠(w.alloc (.cells (ai m) 24)).heap.size by simp)
 simp only [show ∀ (w:World) (o:Obj),(w.alloc o).heap.size=w.heap.size+1 from fun w o=>Array.size_push _] at V Y
 clear HE
 generalize (w.alloc (.cells (ai m) 24)).alloc (.cells #[.nilFunc,.nilFunc,.nilFunc] 116)=w0 at *
 generalize hr:w.heap.size+1=D at *
 generalize hm:w.heap.size=E at *
 have EB:=hid (show (bi m 0:Int)=((m % 2:Nat):Int) by rw [show bi m 0=m % 2 by simp [bi,aV]])
 obtain ⟨U,R,O,M⟩:=J.out.cell E m (by simp)
 have L:=J.out.lt E m (by simp)
 go_wp2_with fail
 clear U R O M L
 refine (bit_at m 0 _ (ae.refl w0) ML.out (by decide) (by decide) EB.out).mono ?_
 rintro e w1 ⟨rfl,K⟩
 have G:=hid (V.out.on K.below)
 have I:=hid (J.out.on K.below)
 clear K V J
 rw [HO.out]
 obtain ⟨U,R,O,M⟩:=I.out.cell E m (by simp)
 have L:=I.out.lt E m (by simp)
 go_wp2_with fail
 clear U R O M L
 refine (plain_any m w1).mono ?_
 rintro e w2 ⟨gb,rfl,h,hl⟩
 have f:=hid (G.out.on h.below)
 have E2:=hid ((I.out.on h.below).more (h.nm gb m (by simp)))
 have GN:=hid (show ¬ gb=D∧¬ E=D from ⟨(h.nm gb m (by simp)).ne3 f.out (by decide),Y.out.2⟩)
 clear h hl G I
 obtain ⟨z0,z1,z2⟩:=f.out.cell
 have zf:=f.out.frozen
 have zl:=f.out.lt
 go_wp2
 clear z0 z1 z2 zf zl
 have HZ:=hid (E2.out.fil3 (g:=D) (a:=.func (.func 127) #[] #[]) (b:=.func (.func 127) #[] #[]) (c:=.func (.func 65) #[] #[.pointer (some ⟨gb,0,none⟩)]) (by rw [hm]; exact Y.out.1) (by simp; exact GN.out))
 have HY:=hid (f.out.fil (.func (.func 127) #[] #[]) (.func (.func 127) #[] #[]) (.func (.func 65) #[] #[.pointer (some ⟨gb,0,none⟩)]))
 try rw [Exit.noGoto_ret]
 change bodyPost _ _ _ _ _ (fil3 w2 D _ _ _)
 generalize fil3 w2 D _ _ _=wz at *
 obtain ⟨k0,k1,k2⟩:=HY.out.cell
 exact bodyPost_ret (v:=pform gb) (by simp [results,Tryz.results100,go_sem,k0,k1,k2]) rfl ⟨gb,rfl,HZ.out.perm (by simp)⟩
end
end Go.Proofs.YtmapkbdjnnionaaGreatDoor
