import Derived.Test.YtmapkbdjnnionaaGreatDoorPzBF
import Derived.Test.YtmapkbdjnnionaaGreatDoorPzBM
import Derived.Test.YtmapkbdjnnionaaGreatDoorPzBP
set_option maxRecDepth 100000
set_option maxHeartbeats 8000000
set_option linter.all false
namespace Go.Proofs.YtmapkbdjnnionaaGreatDoor
section
open Go.RowKit
theorem xpo_zero (p q g x:Nat) (w:World) (V:q<2 ^ 256) (R:x<2 ^ 256) (M:x=0):Calls Tryz.prog 16 #[gv p q g,af x] w fun e w'=>e=.returned (.bool false)∧Below w.heap.size w w':=by
 have qz:∀ w,(Op.equalIn 10000 24 (af x) (.agg #[.int .u64 0,.int .u64 0,.int .u64 0,.int .u64 0])).run Tryz.prog w=.ok true w:=by intro w; rw [M]; exact eq_none_yes w
 clear M R V
 obtain ⟨J,O,z,I⟩:=boxes2 w (aY p q g) (ai x) 26 24
 have E:Hid (∀ u,Below ((w.alloc (.cells (aY p q g) 26)).alloc (.cells (ai x) 24)).heap.size ((w.alloc (.cells (aY p q g) 26)).alloc (.cells (ai x) 24)) u→Below w.heap.size w u):=hid (fun u U=>J.trans (U.mono J.size))
 go_enter Tryz.func16,Tryz.ntmps16
 go_upto_region 1 with fail
 generalize (w.alloc (.cells (aY p q g) 26)).alloc (.cells (ai x) 24)=K at *
 have f:=Below.refl K.heap.size K
 have F:=hid f
 have ab:Hid (K.heap.size=w.heap.size+1+1):=hid O
 have FG:=hid ((ldG p q g 0 z (ak _)).on f)
 have ad:=hid ((aP p 0 z (ag p _ 0 rfl rfl rfl rfl)).on f)
 have aB:=hid ((aP q 4 z (ag q _ 4 rfl rfl rfl rfl)).on f)
 have dO:=hid ((aP g 8 z (ag g _ 8 rfl rfl rfl rfl)).on f)
 have Fbp:=hid ((av z).on f)
 have Z:=hid ((aP x 0 I (ak _)).on f)
 have Fba:=hid ((av I).on f)
 clear J O f z I
 generalize w.heap.size+1=G at *
 generalize D:w.heap.size=Y at *
 have L:=Z.out.here
 go_wp2_with (first | (refine am (by rfl) 24 _ rfl (.pointer (some ⟨G,0,none⟩)) (by rfl) _ L ?_))
 clear L
 try go_ret
 try rw [Exit.noGoto_ret]
 first | exact ⟨rfl,by first | exact E.out _ F.out | (rw [D]; exact E.out _ F.out)⟩ | exact bodyPost_ret (v:=.bool (false)) (by simp [results,Tryz.results16,go_sem]) rfl ⟨rfl,by first | exact E.out _ F.out | (rw [D]; exact E.out _ F.out)⟩
theorem xpo_lt (p q g x:Nat) (w:World) (Y:q<2 ^ 256) (I:x<2 ^ 256) (hv:x≠0∧x<q):Calls Tryz.prog 16 #[gv p q g,af x] w fun e w'=>e=.returned (.bool true)∧Below w.heap.size w w':=by
 have qz:=eq_none x I (by omega)
 obtain ⟨c,M⟩:∃ z,aD x q=z:=⟨_,rfl⟩
 have c1:c<0:=by rw [← M]; unfold aD; split <;> (try split) <;> omega
 have c2:¬ c≥0:=by omega
 have c3:¬ 0≤c:=by omega
 have cb:decide (0≤c)=false:=decide_eq_false c3
 have cd:decide (c<0)=true:=decide_eq_true c1
 have EC:=hid M
 clear M
 have XL:=hid I
 have QL:=hid Y
 clear hv I Y
 obtain ⟨O,Z,E,L⟩:=boxes2 w (aY p q g) (ai x) 26 24
 have G:Hid (∀ u,Below ((w.alloc (.cells (aY p q g) 26)).alloc (.cells (ai x) 24)).heap.size ((w.alloc (.cells (aY p q g) 26)).alloc (.cells (ai x) 24)) u→Below w.heap.size w u):=hid (fun u hu=>O.trans (hu.mono O.size))
 go_enter Tryz.func16,Tryz.ntmps16
 go_upto_region 1 with fail
 generalize (w.alloc (.cells (aY p q g) 26)).alloc (.cells (ai x) 24)=R at *
 have f:=Below.refl R.heap.size R
 have D:=hid f
 have ab:Hid (R.heap.size=w.heap.size+1+1):=hid Z
 have FG:=hid ((ldG p q g 0 E (ak _)).on f)
 have ad:=hid ((aP p 0 E (ag p _ 0 rfl rfl rfl rfl)).on f)
 have aB:=hid ((aP q 4 E (ag q _ 4 rfl rfl rfl rfl)).on f)
 have dO:=hid ((aP g 8 E (ag g _ 8 rfl rfl rfl rfl)).on f)
 have Fbp:=hid ((av E).on f)
 have bu:=hid ((aP x 0 L (ak _)).on f)
 have Fba:=hid ((av L).on f)
 clear O Z f E L
 generalize w.heap.size+1=K at *
 generalize F:w.heap.size=J at *
 have V:=bu.out.here
 have U:=aB.out.here
 go_wp2_with (first | (refine am (by rfl) 24 _ rfl (.pointer (some ⟨K,0,none⟩)) (by rfl) _ V ?_) | (refine am (by rfl) 24 _ rfl (.pointer (some ⟨J,4,none⟩)) (by rfl) _ U ?_))
 clear V U
 refine (dt x q c _ XL.out QL.out EC.out).mono ?_
 rintro e w1 ⟨rfl,hb⟩
 have D:=hid (D.out.trans (hb.mono D.out.size))
 clear hb
 go_wp2_with fail
 try go_ret
 try rw [Exit.noGoto_ret]
 first | exact ⟨rfl,by first | exact G.out _ D.out | (rw [F]; exact G.out _ D.out)⟩ | exact bodyPost_ret (v:=.bool (true)) (by simp [results,Tryz.results16,go_sem]) rfl ⟨rfl,by first | exact G.out _ D.out | (rw [F]; exact G.out _ D.out)⟩
theorem xpo_ge (p q g x:Nat) (w:World) (Y:q<2 ^ 256) (I:x<2 ^ 256) (hv:x≠0∧¬ x<q):Calls Tryz.prog 16 #[gv p q g,af x] w fun e w'=>e=.returned (.bool false)∧Below w.heap.size w w':=by
 have qz:=eq_none x I (by omega)
 obtain ⟨c,M⟩:∃ z,aD x q=z:=⟨_,rfl⟩
 have c1:¬ c<0:=by rw [← M]; unfold aD; split <;> (try split) <;> omega
 have c2:c≥0:=by omega
 have c3:0≤c:=c2
 have cb:decide (0≤c)=true:=decide_eq_true c3
 have cd:decide (c<0)=false:=decide_eq_false c1
 have EC:=hid M
 clear M
 have XL:=hid I
 have QL:=hid Y
 clear hv I Y
 obtain ⟨O,Z,E,L⟩:=boxes2 w (aY p q g) (ai x) 26 24
 have G:Hid (∀ u,Below ((w.alloc (.cells (aY p q g) 26)).alloc (.cells (ai x) 24)).heap.size ((w.alloc (.cells (aY p q g) 26)).alloc (.cells (ai x) 24)) u→Below w.heap.size w u):=hid (fun u hu=>O.trans (hu.mono O.size))
 go_enter Tryz.func16,Tryz.ntmps16
 go_upto_region 1 with fail
 generalize (w.alloc (.cells (aY p q g) 26)).alloc (.cells (ai x) 24)=R at *
 have f:=Below.refl R.heap.size R
 have D:=hid f
 have ab:Hid (R.heap.size=w.heap.size+1+1):=hid Z
 have FG:=hid ((ldG p q g 0 E (ak _)).on f)
 have ad:=hid ((aP p 0 E (ag p _ 0 rfl rfl rfl rfl)).on f)
 have aB:=hid ((aP q 4 E (ag q _ 4 rfl rfl rfl rfl)).on f)
 have dO:=hid ((aP g 8 E (ag g _ 8 rfl rfl rfl rfl)).on f)
 have Fbp:=hid ((av E).on f)
 have bu:=hid ((aP x 0 L (ak _)).on f)
 have Fba:=hid ((av L).on f)
 clear O Z f E L
 generalize w.heap.size+1=K at *
 generalize F:w.heap.size=J at *
 have V:=bu.out.here
 have U:=aB.out.here
 go_wp2_with (first | (refine am (by rfl) 24 _ rfl (.pointer (some ⟨K,0,none⟩)) (by rfl) _ V ?_) | (refine am (by rfl) 24 _ rfl (.pointer (some ⟨J,4,none⟩)) (by rfl) _ U ?_))
 clear V U
 refine (dt x q c _ XL.out QL.out EC.out).mono ?_
 rintro e w1 ⟨rfl,hb⟩
 have D:=hid (D.out.trans (hb.mono D.out.size))
 clear hb
 go_wp2_with fail
 try go_ret
 try rw [Exit.noGoto_ret]
 first | exact ⟨rfl,by first | exact G.out _ D.out | (rw [F]; exact G.out _ D.out)⟩ | exact bodyPost_ret (v:=.bool (false)) (by simp [results,Tryz.results16,go_sem]) rfl ⟨rfl,by first | exact G.out _ D.out | (rw [F]; exact G.out _ D.out)⟩
theorem xpo_any (p q g x:Nat) (v:Bool) (w:World) (E:q<2 ^ 256) (D:x<2 ^ 256) (F:decide (x≠0∧x<q)=v):Calls Tryz.prog 16 #[gv p q g,af x] w fun e w'=>e=.returned (.bool v)∧Below w.heap.size w w':=by
 subst F
 by_cases f:x=0
 ·rw [decide_eq_false (fun h=>h.1 f)]; exact xpo_zero p q g x w E D f
 ·by_cases z:x<q
  ·rw [decide_eq_true (show x≠0∧x<q from ⟨f,z⟩)]; exact xpo_lt p q g x w E D ⟨f,z⟩
  ·rw [decide_eq_false (fun h=>z h.2)]; exact xpo_ge p q g x w E D ⟨f,z⟩
theorem rkey_unfine (p q g x:Nat) (w:World) (hp:p<2 ^ 256) (hq:q<2 ^ 256) (hg:g<2 ^ 256) (Z:x<2 ^ 256) (hv:¬ (1<q∧g≠1∧(0<g∧g<p)∧g ^ q % p=1)):Calls Tryz.prog 5 #[gv p q g,af x] w fun e w'=>e=.returned (.tuple #[af 0,.int .i64 1])∧Below w.heap.size w w':=by
 have VF:Hid (decide (1<q∧g≠1∧(0<g∧g<p)∧g ^ q % p=1)=false):=hid (decide_eq_false hv)
 clear hv
 have PL:=hid hp
 have QL:=hid hq
 have GL:=hid hg
 have XL:=hid Z
 clear hp hq hg Z
 obtain ⟨O,M,D,K⟩:=boxes2 w (aY p q g) (ai x) 26 24
 have aA:Hid (∀ u,Below ((w.alloc (.cells (aY p q g) 26)).alloc (.cells (ai x) 24)).heap.size ((w.alloc (.cells (aY p q g) 26)).alloc (.cells (ai x) 24)) u→Below w.heap.size w u):=hid (fun u hu=>O.trans (hu.mono O.size))
 go_enter Tryz.func5,Tryz.ntmps5
 go_upto_region 1 with fail
 generalize (w.alloc (.cells (aY p q g) 26)).alloc (.cells (ai x) 24)=E at *
 have f:=(Below.refl E.heap.size E).alloc (Nat.le_refl _) (.cells #[.int .u64 0,.int .u64 0,.int .u64 0,.int .u64 0] 24)
 have L:=heap_alloc_new E (.cells #[.int .u64 0,.int .u64 0,.int .u64 0,.int .u64 0] 24)
 rw [M] at L
 have G:=hid f
 have R:Hid (E.heap.size=w.heap.size+1+1):=hid M
 have FG:=hid ((ldG p q g 0 D (ak _)).on f)
 have ad:=hid ((aP p 0 D (ag p _ 0 rfl rfl rfl rfl)).on f)
 have aB:=hid ((aP q 4 D (ag q _ 4 rfl rfl rfl rfl)).on f)
 have dO:=hid ((aP g 8 D (ag g _ 8 rfl rfl rfl rfl)).on f)
 have Fbp:=hid ((av D).on f)
 have bu:=hid ((aP x 0 K (ak _)).on f)
 have Fba:=hid ((av K).on f)
 have V:Hid (On (E.alloc (.cells #[.int .u64 0,.int .u64 0,.int .u64 0,.int .u64 0] 24)) fun u=>Nm u (w.heap.size+1+1) 0):=hid (dS (cr L))
 clear L
 generalize E.alloc (.cells #[.int .u64 0,.int .u64 0,.int .u64 0,.int .u64 0] 24)=w0 at *
 clear O M f D K
 generalize w.heap.size+1+1=z at *
 generalize w.heap.size+1=ab at *
 generalize I:w.heap.size=J at *
 have Y:=FG.out.here
 go_wp2_with (first | (refine am (by rfl) 26 _ rfl (.pointer (some ⟨J,0,none⟩)) (by rfl) _ Y ?_))
 clear Y
 refine (dg p q g false _ PL.out QL.out GL.out VF.out).mono ?_
 rintro e w1 ⟨rfl,hb⟩
 have G:=hid (G.out.trans (hb.mono G.out.size))
 have V:=hid (V.out.on hb)
 clear hb
 have F:=bw G.out V.out.here
 obtain ⟨z0,z1,z2,z3⟩:=F.cell z 0 (by simp)
 have zl:=F.lt z 0 (by simp)
 have zf:=F.frozen z 0 (by simp)
 have U:=hid (F.set z 0 (0) [] (by simp) (Nat.le_of_eq R.out) (by simp))
 go_wp2
 clear F z0 z1 z2 z3 zl zf
 try rw [Exit.noGoto_ret]
 change bodyPost _ _ _ _ _ (fil w1 z (0))
 generalize fil w1 z (0)=wz at *
 obtain ⟨k0,k1,k2,k3⟩:=U.out.cell z (0) (by simp)
 exact bodyPost_ret (v:=.tuple #[af (0),.int .i64 1]) (by simp [results,Tryz.results5,go_sem,k0,k1,k2,k3]) rfl ⟨rfl,by first | exact aA.out _ U.out.1 | (rw [I]; exact aA.out _ U.out.1)⟩
theorem rkey_bad (p q g x:Nat) (w:World) (hp:p<2 ^ 256) (hq:q<2 ^ 256) (hg:g<2 ^ 256) (hx:x<2 ^ 256) (L:(1<q∧g≠1∧(0<g∧g<p)∧g ^ q % p=1)∧¬ (x≠0∧x<q)):Calls Tryz.prog 5 #[gv p q g,af x] w fun e w'=>e=.returned (.tuple #[af 0,.int .i64 1])∧Below w.heap.size w w':=by
 have VF:Hid (decide (1<q∧g≠1∧(0<g∧g<p)∧g ^ q % p=1)=true):=hid (decide_eq_true L.1)
 have VX:Hid (decide (x≠0∧x<q)=false):=hid (decide_eq_false L.2)
 clear L
 have PL:=hid hp
 have QL:=hid hq
 have GL:=hid hg
 have XL:=hid hx
 clear hp hq hg hx
 obtain ⟨Z,Y,E,R⟩:=boxes2 w (aY p q g) (ai x) 26 24
 have aA:Hid (∀ u,Below ((w.alloc (.cells (aY p q g) 26)).alloc (.cells (ai x) 24)).heap.size ((w.alloc (.cells (aY p q g) 26)).alloc (.cells (ai x) 24)) u→Below w.heap.size w u):=hid (fun u hu=>Z.trans (hu.mono Z.size))
 go_enter Tryz.func5,Tryz.ntmps5
 go_upto_region 1 with fail
 generalize (w.alloc (.cells (aY p q g) 26)).alloc (.cells (ai x) 24)=F at *
 have f:=(Below.refl F.heap.size F).alloc (Nat.le_refl _) (.cells #[.int .u64 0,.int .u64 0,.int .u64 0,.int .u64 0] 24)
 have U:=heap_alloc_new F (.cells #[.int .u64 0,.int .u64 0,.int .u64 0,.int .u64 0] 24)
 rw [Y] at U
 have D:=hid f
 have ab:Hid (F.heap.size=w.heap.size+1+1):=hid Y
 have K:=hid ((ldG p q g 0 E (ak _)).on f)
 have ad:=hid ((aP p 0 E (ag p _ 0 rfl rfl rfl rfl)).on f)
 have aB:=hid ((aP q 4 E (ag q _ 4 rfl rfl rfl rfl)).on f)
 have dO:=hid ((aP g 8 E (ag g _ 8 rfl rfl rfl rfl)).on f)
 have Fbp:=hid ((av E).on f)
 have V:=hid ((aP x 0 R (ak _)).on f)
 have Fba:=hid ((av R).on f)
 have J:Hid (On (F.alloc (.cells #[.int .u64 0,.int .u64 0,.int .u64 0,.int .u64 0] 24)) fun u=>Nm u (w.heap.size+1+1) 0):=hid (dS (cr U))
 clear U
 generalize F.alloc (.cells #[.int .u64 0,.int .u64 0,.int .u64 0,.int .u64 0] 24)=w0 at *
 clear Z Y f E R
 generalize w.heap.size+1+1=z at *
 generalize w.heap.size+1=O at *
 generalize M:w.heap.size=I at *
 have l1:=K.out.here
 go_wp2_with (first | (refine am (by rfl) 26 _ rfl (.pointer (some ⟨I,0,none⟩)) (by rfl) _ l1 ?_))
 clear l1
 refine (dg p q g true _ PL.out QL.out GL.out VF.out).mono ?_
 rintro e w1 ⟨rfl,hb⟩
 have D:=hid (D.out.trans (hb.mono D.out.size))
 have K:=hid (K.out.on hb)
 have V:=hid (V.out.on hb)
 have J:=hid (J.out.on hb)
 clear hb
 have l2:=K.out.here
 have l3:=V.out.here
 go_wp2_with (first | (refine am (by rfl) 26 _ rfl (.pointer (some ⟨I,0,none⟩)) (by rfl) _ l2 ?_) | (refine am (by rfl) 24 _ rfl (.pointer (some ⟨O,0,none⟩)) (by rfl) _ l3 ?_))
 clear l2 l3
 refine (xpo_any p q g x false _ QL.out XL.out VX.out).mono ?_
 rintro e w2 ⟨rfl,hb⟩
 have D:=hid (D.out.trans (hb.mono D.out.size))
 have J:=hid (J.out.on hb)
 clear hb
 have G:=bw D.out J.out.here
 obtain ⟨z0,z1,z2,z3⟩:=G.cell z 0 (by simp)
 have zl:=G.lt z 0 (by simp)
 have zf:=G.frozen z 0 (by simp)
 have HZ:=hid (G.set z 0 (0) [] (by simp) (Nat.le_of_eq ab.out) (by simp))
 go_wp2
 clear G z0 z1 z2 z3 zl zf
 try rw [Exit.noGoto_ret]
 change bodyPost _ _ _ _ _ (fil w2 z (0))
 generalize fil w2 z (0)=wz at *
 obtain ⟨k0,k1,k2,k3⟩:=HZ.out.cell z (0) (by simp)
 exact bodyPost_ret (v:=.tuple #[af (0),.int .i64 1]) (by simp [results,Tryz.results5,go_sem,k0,k1,k2,k3]) rfl ⟨rfl,by first | exact aA.out _ HZ.out.1 | (rw [M]; exact aA.out _ HZ.out.1)⟩
theorem rkey_ok (p q g x r:Nat) (w:World) (Y:p<2 ^ 256) (hq:q<2 ^ 256) (hg:g<2 ^ 256) (V:x<2 ^ 256) (I:(1<q∧g≠1∧(0<g∧g<p)∧g ^ q % p=1)∧x≠0∧x<q) (hr:g ^ x % p=r):Calls Tryz.prog 5 #[gv p q g,af x] w fun e w'=>e=.returned (.tuple #[af r,.int .i64 0])∧Below w.heap.size w w':=by
 have VF:Hid (decide (1<q∧g≠1∧(0<g∧g<p)∧g ^ q % p=1)=true):=hid (decide_eq_true I.1)
 have VX:Hid (decide (x≠0∧x<q)=true):=hid (decide_eq_true I.2)
 have M:1<p:=by have:=I.1.2.2.1; omega
 have VA:=hid I.1.2.2.1
 have HD:=hid (fun w=>rmexp_some g x p r w hg V Y ⟨M,I.1.2.2.1.2⟩ hr)
 clear hr M
 clear I
 have PL:=hid Y
 have QL:=hid hq
 have GL:=hid hg
 have XL:=hid V
 clear Y hq hg V
 obtain ⟨bA,bI,J,f1⟩:=boxes2 w (aY p q g) (ai x) 26 24
 have aA:Hid (∀ u,Below ((w.alloc (.cells (aY p q g) 26)).alloc (.cells (ai x) 24)).heap.size ((w.alloc (.cells (aY p q g) 26)).alloc (.cells (ai x) 24)) u→Below w.heap.size w u):=hid (fun u hu=>bA.trans (hu.mono bA.size))
 go_enter Tryz.func5,Tryz.ntmps5
 go_upto_region 1 with fail
 generalize (w.alloc (.cells (aY p q g) 26)).alloc (.cells (ai x) 24)=L at *
 have f:=(Below.refl L.heap.size L).alloc (Nat.le_refl _) (.cells #[.int .u64 0,.int .u64 0,.int .u64 0,.int .u64 0] 24)
 have dG:=heap_alloc_new L (.cells #[.int .u64 0,.int .u64 0,.int .u64 0,.int .u64 0] 24)
 rw [bI] at dG
 have D:=hid f
 have ab:Hid (L.heap.size=w.heap.size+1+1):=hid bI
 have G:=hid ((ldG p q g 0 J (ak _)).on f)
 have ad:=hid ((aP p 0 J (ag p _ 0 rfl rfl rfl rfl)).on f)
 have aB:=hid ((aP q 4 J (ag q _ 4 rfl rfl rfl rfl)).on f)
 have U:=hid ((aP g 8 J (ag g _ 8 rfl rfl rfl rfl)).on f)
 have Fbp:=hid ((av J).on f)
 have K:=hid ((aP x 0 f1 (ak _)).on f)
 have Fba:=hid ((av f1).on f)
 have F:Hid (On (L.alloc (.cells #[.int .u64 0,.int .u64 0,.int .u64 0,.int .u64 0] 24)) fun u=>Nm u (w.heap.size+1+1) 0):=hid (dS (cr dG))
 clear dG
 generalize L.alloc (.cells #[.int .u64 0,.int .u64 0,.int .u64 0,.int .u64 0] 24)=w0 at *
 clear bA bI f J f1
 generalize w.heap.size+1+1=z at *
 generalize w.heap.size+1=R at *
 generalize Z:w.heap.size=E at *
 have l1:=G.out.here
 go_wp2_with (first | (refine am (by rfl) 26 _ rfl (.pointer (some ⟨E,0,none⟩)) (by rfl) _ l1 ?_))
 clear l1
 refine (dg p q g true _ PL.out QL.out GL.out VF.out).mono ?_
 rintro e w1 ⟨rfl,hb⟩
 have D:=hid (D.out.trans (hb.mono D.out.size))
 have G:=hid (G.out.on hb)
 have U:=hid (U.out.on hb)
 have K:=hid (K.out.on hb)
 have F:=hid (F.out.on hb)
 clear hb
 have l2:=G.out.here
 have l3:=K.out.here
 go_wp2_with (first | (refine am (by rfl) 26 _ rfl (.pointer (some ⟨E,0,none⟩)) (by rfl) _ l2 ?_) | (refine am (by rfl) 24 _ rfl (.pointer (some ⟨R,0,none⟩)) (by rfl) _ l3 ?_))
 clear l2 l3
 refine (xpo_any p q g x true _ QL.out XL.out VX.out).mono ?_
 rintro e w2 ⟨rfl,hb⟩
 have D:=hid (D.out.trans (hb.mono D.out.size))
 have G:=hid (G.out.on hb)
 have U:=hid (U.out.on hb)
 have K:=hid (K.out.on hb)
 have F:=hid (F.out.on hb)
 clear hb
 have l4:=G.out.here
 have l5:=U.out.here
 have l6:=K.out.here
 go_wp2_with (first | (refine am (by rfl) 26 _ rfl (.pointer (some ⟨E,0,none⟩)) (by rfl) _ l4 ?_) | (refine am (by rfl) 24 _ rfl (.pointer (some ⟨E,8,none⟩)) (by rfl) _ l5 ?_) | (refine am (by rfl) 24 _ rfl (.pointer (some ⟨R,0,none⟩)) (by rfl) _ l6 ?_))
 clear l4 l5 l6
 refine (r6exp_ok p q g g x r 0 _ PL.out GL.out VA.out HD.out).mono ?_
 rintro e w3 ⟨rfl,hb⟩
 have D:=hid (D.out.trans (hb.mono D.out.size))
 have F:=hid (F.out.on hb)
 clear hb
 have O:=bw D.out F.out.here
 obtain ⟨z0,z1,z2,z3⟩:=O.cell z 0 (by simp)
 have zl:=O.lt z 0 (by simp)
 have zf:=O.frozen z 0 (by simp)
 have HZ:=hid (O.set z 0 (r) [] (by simp) (Nat.le_of_eq ab.out) (by simp))
 go_wp2
 clear O z0 z1 z2 z3 zl zf
 try rw [Exit.noGoto_ret]
 change bodyPost _ _ _ _ _ (fil w3 z (r))
 generalize fil w3 z (r)=wz at *
 obtain ⟨k0,k1,k2,k3⟩:=HZ.out.cell z (r) (by simp)
 exact bodyPost_ret (v:=.tuple #[af (r),.int .i64 0]) (by simp [results,Tryz.results5,go_sem,k0,k1,k2,k3]) rfl ⟨rfl,by first | exact aA.out _ HZ.out.1 | (rw [Z]; exact aA.out _ HZ.out.1)⟩
theorem rkey_none (p q g x:Nat) (w:World) (D:p<2 ^ 256) (z:q<2 ^ 256) (E:g<2 ^ 256) (f:x<2 ^ 256) (G:¬ Sec p q g x):Calls Tryz.prog 5 #[gv p q g,af x] w fun e w'=>e=.returned (.tuple #[af 0,.int .i64 1])∧Below w.heap.size w w':=by
 by_cases h:1<q∧g≠1∧(0<g∧g<p)∧g ^ q % p=1
 ·exact rkey_bad p q g x w D z E f ⟨h,fun F=>G ⟨F.1,F.2,h⟩⟩
 ·exact rkey_unfine p q g x w D z E f h
theorem rpl_any (x:Nat) (w:World) (z:x<2 ^ 256):Calls Tryz.prog 45 #[.slice none 0 0,af x] w fun e w'=>∃ A c,e=.returned (.slice A 32 c)∧Rd w' A (be x 32)∧32≤c∧c≤9223372036854775807∧(A=none→c=0)∧Below w.heap.size w w':=by
 refine (put_k x z (ae.refl w)).mono ?_
 rintro e w' ⟨A,c,rfl,G,⟨F,E,f,D,_⟩,_⟩
 rw [aj] at f
 exact ⟨A,c,rfl,F,f,D,E,G.1⟩
theorem rws_of (w:World) (g:Nat) (f:Array Value) (n:Nat) (A:Nat→Option Addr) (C:Nat→Nat) (l:List (List UInt8)) (bs:List UInt8) (hb:w.heap[g]?=some (.cells f 66 (0,0)))
  (h:∀ r,r<n→f[r]?=some (.slice (A r) 32 (C r))∧(pts l bs r).length=32∧Rd w (A r) (pts l bs r)∧32≤C r∧C r≤9223372036854775807∧(A r=none→C r=0)):Rws w (some ⟨g,0,none⟩) n A (fun _=>32) C (pts l bs):=by
 intro r z
 obtain ⟨J,I,G,F,E,D⟩:=h r z
 exact ⟨⟨g,0,rfl,lt_of_block hb,by rw [cell_of_row _ _ _ _ 66 (0,0) hb,Nat.zero_add]; exact J⟩,I,G,F,E,D⟩
theorem dI (f:ByteArray) (D:Option Addr) (z:Nat) (A:Nat→Option Addr) (C:Nat→Nat) (l:List (List UInt8)) (bs:List UInt8) (n m s:Nat) (w:World) (G:l.length+1=n) (I:m<2 ^ 256) (J:Rws w D n A (fun _=>32) C (pts l bs)) (L:l.length≤10) (F:f.size≤1000000) (hc:n≤z) (K:D=none→z=0)
  (E:nop f l bs m=s):Calls Tryz.prog 44 #[af m,.string f,.slice D n z] w fun r w'=>(∃ e,r=.returned (.tuple #[af s,.int .i64 e]))∧Below w.heap.size w w':=by
 subst G
 refine (rnumber_any f D (l.length+1) z A _ C _ m s _ w I J (by omega) (fun r _=>by decide) F hc K E rfl).mono ?_
 rintro e w' ⟨rfl,hb⟩
 exact ⟨⟨_,rfl⟩,hb⟩
theorem rchal_any (p q g a b:Nat) (bs:List UInt8) (n:Nat) (w:World) (hq:q<2 ^ 256) (ha:a<2 ^ 256) (hb:b<2 ^ 256) (bS:bs.length=32) (hv:nop ⟨#[115,105,103,110]⟩ [be a 32,be b 32] bs q=n) :
  Calls Tryz.prog 23 #[gv p q g,af a,af b,.agg (au bs).toArray] w fun e w'=>e=.returned (af n)∧Below w.heap.size w w':=by
 have QL:=hid hq
 have AL:=hid ha
 have BL:=hid hb
 have HL:=hid bS
 have HV:=hid hv
 clear hq hv ha hb
 obtain ⟨bA,bI,f0,f1,f2,f3⟩:=boxes4 w (aY p q g) (ai a) (ai b) ((au bs).toArray) 26 24 24 28 _ rfl
 have aA:Hid (∀ u,Below ((((w.alloc (.cells (aY p q g) 26)).alloc (.cells (ai a) 24)).alloc (.cells (ai b) 24)).alloc (.cells ((au bs).toArray) 28)).heap.size ((((w.alloc (.cells (aY p q g) 26)).alloc (.cells (ai a) 24)).alloc (.cells (ai b) 24)).alloc (.cells ((au bs).toArray) 28)) u→Below w.heap.size w u):=hid (fun u hu=>bA.trans (hu.mono bA.size))
 go_enter Tryz.func23,Tryz.ntmps23
 go_upto_region 1 with fail
 generalize (((w.alloc (.cells (aY p q g) 26)).alloc (.cells (ai a) 24)).alloc (.cells (ai b) 24)).alloc (.cells ((au bs).toArray) 28)=W0 at *
 have an:=(Below.refl W0.heap.size W0).alloc (Nat.le_refl _) (.cells #[.int .u64 0,.int .u64 0,.int .u64 0,.int .u64 0] 24)
 have dG:=heap_alloc_new W0 (.cells #[.int .u64 0,.int .u64 0,.int .u64 0,.int .u64 0] 24)
 rw [bI] at dG
 have E:=hid an
 have aK:Hid (W0.heap.size=w.heap.size+1+1+1+1):=hid bI
 have aR:=hid (ldG p q g 0 f0 (ak _))
 have FG:=hid ((ldG p q g 0 f0 (ak _)).on an)
 have aL:=hid (aP p 0 f0 (ag p _ 0 rfl rfl rfl rfl))
 have aN:=hid ((aP p 0 f0 (ag p _ 0 rfl rfl rfl rfl)).on an)
 have ab:=hid (aP q 4 f0 (ag q _ 4 rfl rfl rfl rfl))
 have D:=hid ((aP q 4 f0 (ag q _ 4 rfl rfl rfl rfl)).on an)
 have aM:=hid (aP g 8 f0 (ag g _ 8 rfl rfl rfl rfl))
 have dO:=hid ((aP g 8 f0 (ag g _ 8 rfl rfl rfl rfl)).on an)
 have Z:=hid (aP a 0 f1 (ak _))
 have f:=hid ((aP a 0 f1 (ak _)).on an)
 have Y:=hid (aP b 0 f2 (ak _))
 have z:=hid ((aP b 0 f2 (ak _)).on an)
 have aQ:=hid (ldS bs bS 0 f3 (fun j v h=>by rw [Nat.zero_add]; simpa using h))
 have Fs:=hid ((ldS bs bS 0 f3 (fun j v h=>by rw [Nat.zero_add]; simpa using h)).on an)
 have I:=hid (On.on (on_rd (bt_rd (show Bt W0 _ 28 bs from f3))) an)
 have M:Hid (On (W0.alloc (.cells #[.int .u64 0,.int .u64 0,.int .u64 0,.int .u64 0] 24)) fun u=>Nm u (w.heap.size+1+1+1+1) 0):=hid (dS (cr dG))
 clear dG
 generalize W0.alloc (.cells #[.int .u64 0,.int .u64 0,.int .u64 0,.int .u64 0] 24)=w0 at *
 clear bA bI an f0 f1 f2 f3
 generalize w.heap.size+1+1+1+1=O at *
 generalize w.heap.size+1+1+1=U at *
 generalize w.heap.size+1+1=aI at *
 generalize w.heap.size+1=aJ at *
 generalize aE:w.heap.size=aG at *
 go_cut [9] (fun sx wx=>∃ g12:Nat,sx=.pointer (some ⟨g12,0,none⟩)∧Hid (ae W0 [(g12,n),(O,0)] wx))
 case first =>
  refine wp_region_noPanic ?_
  refine aa.region (fun (L:Array Bool) (u:World)=>(Instr.loadAt 24 (.pointer (some ⟨aG,4,none⟩))).run Tryz.prog u=.ok (af q) u∧(Instr.loadAt 24 (.pointer (some ⟨aJ,0,none⟩))).run Tryz.prog u=.ok (af a) u∧(Instr.loadAt 24 (.pointer (some ⟨aI,0,none⟩))).run Tryz.prog u=.ok (af b) u) (by kernel_rfl) ?_
  have hb:=(Below.refl w0.heap.size w0).drew
  have E:=hid (E.out.trans (hb.mono E.out.size))
  have D:=hid (D.out.on hb)
  have f:=hid (f.out.on hb)
  have z:=hid (z.out.on hb)
  have I:=hid (I.out.on hb)
  have M:=hid (M.out.on hb)
  clear hb
  generalize w0.drew=ud at *
  refine aa.q 0 ⟨some 12,_,_,_,_,_⟩ ⟨D.out.here,f.out.here,z.out.here⟩ ?_
  try simp only [ac]
  refine aa.tk (i:=1) (o:=⟨some 13,_,_,_,_,_⟩) (v:=af q) [] (y:=Or.inl ⟨by rfl,?_⟩) (s:=⟨D.out.here,f.out.here,z.out.here⟩) (H:=?_)
  ·rintro u ⟨up,-,hX⟩; obtain ⟨x0,x1,x2⟩:=hX; exact dn _ _ rfl _ _ rfl x0
  try simp only [ac]
  refine aa.tk (i:=2) (o:=⟨some 14,_,_,_,_,_⟩) (v:=af a) [] (y:=Or.inl ⟨by rfl,?_⟩) (s:=⟨D.out.here,f.out.here,z.out.here⟩) (H:=?_)
  ·rintro u ⟨up,-,hX⟩; obtain ⟨x0,x1,x2⟩:=hX; exact dn _ _ rfl _ _ rfl x1
  try simp only [ac]
  refine aa.tk (i:=4) (o:=⟨some 16,_,_,_,_,_⟩) (v:=af b) [] (y:=Or.inl ⟨by rfl,?_⟩) (s:=⟨D.out.here,f.out.here,z.out.here⟩) (H:=?_)
  ·rintro u ⟨up,-,hX⟩; obtain ⟨x0,x1,x2⟩:=hX; exact dn _ _ rfl _ _ rfl x2
  try simp only [ac]
  refine aa.q 6 ⟨some 18,_,_,_,_,_⟩ ⟨D.out.here,f.out.here,z.out.here⟩ ?_
  try simp only [ac]
  refine aa.two (i:=3) (j:=12) (o:=⟨some 15,_,_,_,_,_⟩) (p:=⟨some 9,_,_,_,_,_⟩) (by kernel_rfl) rfl rfl (fun K F=>?_) (fun K F=>?_)
  ·skip
   go_simp
   with_reducible refine (rpl_any a _ AL.out).mono ?_
   rintro e u1 ⟨A0,c0,rfl,hr,al,dm,ad,hb⟩
   go_wp2_with fail
   have E:=hid (E.out.trans (hb.mono E.out.size))
   have D:=hid (D.out.on hb)
   have f:=hid (f.out.on hb)
   have z:=hid (z.out.on hb)
   have I:=hid (I.out.on hb)
   have M:=hid (M.out.on hb)
   have R:=hid (on_rd hr)
   have aC:=hid (And.intro al (And.intro dm ad))
   refine F.out _ _ ⟨D.out.here,f.out.here,z.out.here⟩ ?_
   clear F K hb hr al dm ad
   try simp only [ac]
   refine aa.two (i:=5) (j:=12) (o:=⟨some 17,_,_,_,_,_⟩) (p:=⟨some 9,_,_,_,_,_⟩) (by kernel_rfl) rfl rfl (fun K F=>?_) (fun K F=>?_)
   ·skip
    go_simp
    with_reducible refine (rpl_any b _ BL.out).mono ?_
    rintro e u2 ⟨A1,c1,rfl,hr,al,dm,ad,hb⟩
    go_wp2_with fail
    have E:=hid (E.out.trans (hb.mono E.out.size))
    have D:=hid (D.out.on hb)
    have f:=hid (f.out.on hb)
    have z:=hid (z.out.on hb)
    have I:=hid (I.out.on hb)
    have R:=hid (R.out.on hb)
    have M:=hid (M.out.on hb)
    have V:=hid (on_rd hr)
    have az:=hid (And.intro al (And.intro dm ad))
    refine F.out _ _ ⟨D.out.here,f.out.here,z.out.here⟩ ?_
    clear F K hb hr al dm ad
    try simp only [ac]
    refine aa.two (i:=7) (j:=12) (o:=⟨some 19,_,_,_,_,_⟩) (p:=⟨some 9,_,_,_,_,_⟩) (by kernel_rfl) rfl rfl (fun K F=>?_) (fun K F=>?_)
    ·skip
     go_simp
     have hb:=(Below.refl u2.heap.size u2).alloc (Nat.le_refl _) (.cells #[.slice A0 32 c0,.slice A1 32 c1,.slice (some ⟨U,0,none⟩) 32 32] 66)
     have hn:=heap_alloc_new u2 (.cells #[.slice A0 32 c0,.slice A1 32 c1,.slice (some ⟨U,0,none⟩) 32 32] 66)
     have E:=hid (E.out.trans (hb.mono E.out.size))
     have D:=hid (D.out.on hb)
     have f:=hid (f.out.on hb)
     have z:=hid (z.out.on hb)
     have I:=hid (I.out.on hb)
     have R:=hid (R.out.on hb)
     have V:=hid (V.out.on hb)
     have M:=hid (M.out.on hb)
     have hw:=rws_of (u2.alloc (.cells #[.slice A0 32 c0,.slice A1 32 c1,.slice (some ⟨U,0,none⟩) 32 32] 66)) u2.heap.size _ 3 (fun r=>if r=0 then A0 else if r=1 then A1 else some ⟨U,0,none⟩) (fun r=>if r=0 then c0 else if r=1 then c1 else 32) [be a 32,be b 32] bs hn (fun r hr=>by
      rcases (show r=0∨r=1∨r=2 by omega) with rfl | rfl | rfl
      ·exact ⟨rfl,be32 a,R.out.here,aC.out⟩
      ·exact ⟨rfl,be32 b,V.out.here,az.out⟩
      ·exact ⟨rfl,HL.out,I.out.here,Nat.le_refl _,(by show 32≤9223372036854775807; decide),fun e=>by cases e⟩)
     have FW:=hid (bB hw)
     refine F.out _ _ ⟨D.out.here,f.out.here,z.out.here⟩ ?_
     clear F K hb hn hw
     try simp only [ac]
     generalize u2.alloc (.cells #[.slice A0 32 c0,.slice A1 32 c1,.slice (some ⟨U,0,none⟩) 32 32] 66)=u3 at *
     generalize u2.heap.size=ay at *
     refine aa.two (i:=8) (j:=12) (o:=⟨some 20,_,_,_,_,_⟩) (p:=⟨some 9,_,_,_,_,_⟩) (by kernel_rfl) rfl rfl (fun K F=>?_) (fun K F=>?_)
     ·skip
      go_simp
      with_reducible refine (dI ⟨#[115,105,103,110]⟩ (some ⟨ay,0,none⟩) 3 _ _ [be a 32,be b 32] bs 3 q n _ rfl QL.out FW.out.here (by simp) (by decide) (Nat.le_refl _) (fun e=>by cases e) HV.out).mono ?_
      rintro e u4 ⟨⟨e5,rfl⟩,hb⟩
      go_wp2_with fail
      have E:=hid (E.out.trans (hb.mono E.out.size))
      have D:=hid (D.out.on hb)
      have f:=hid (f.out.on hb)
      have z:=hid (z.out.on hb)
      have M:=hid (M.out.on hb)
      refine F.out _ _ ⟨D.out.here,f.out.here,z.out.here⟩ ?_
      clear F K hb
      try simp only [ac]
      refine aa.q 9 ⟨some 11,_,_,_,_,_⟩ ⟨D.out.here,f.out.here,z.out.here⟩ ?_
      try simp only [ac]
      refine aa.q 10 ⟨some 21,_,_,_,_,_⟩ ⟨D.out.here,f.out.here,z.out.here⟩ ?_
      try simp only [ac]
      refine aa.q 11 ⟨some 22,_,_,_,_,_⟩ ⟨D.out.here,f.out.here,z.out.here⟩ ?_
      try simp only [ac]
      refine aa.one (i:=12) (o:=⟨some 9,_,_,_,_,_⟩) (by kernel_rfl) rfl (fun K F=>?_)
      go_simp
      have hb:=(Below.refl u4.heap.size u4).alloc (Nat.le_refl _) (.cells #[.int .u64 0,.int .u64 0,.int .u64 0,.int .u64 0] 24)
      have hn:=heap_alloc_new u4 (.cells #[.int .u64 0,.int .u64 0,.int .u64 0,.int .u64 0] 24)
      have ax:=hid (E.out.size)
      have ar:=hid (ae.lt (bw E.out M.out.here) O 0 (by simp))
      have E:=hid (E.out.trans (hb.mono E.out.size))
      have D:=hid (D.out.on hb)
      have f:=hid (f.out.on hb)
      have z:=hid (z.out.on hb)
      have M:=hid (M.out.on hb)
      have J:=hid (dS (cr hn))
      refine F.out _ _ ⟨D.out.here,f.out.here,z.out.here⟩ ?_
      clear F K hb hn
      try simp only [ac]
      generalize u4.alloc (.cells #[.int .u64 0,.int .u64 0,.int .u64 0,.int .u64 0] 24)=u5 at *
      generalize u4.heap.size=g12 at *
      have hs:=cD (bw E.out M.out.here) J.out.here
      obtain ⟨z0,z1,z2,z3⟩:=hs.cell g12 0 (by simp)
      have zl:=hs.lt g12 0 (by simp)
      have zf:=hs.frozen g12 0 (by simp)
      have ap:O≠g12:=Nat.ne_of_lt ar.out
      have ao:=hs.set g12 0 n [(O,0)] (by simp) ax.out (fun p hp=>by obtain rfl:=List.mem_singleton.1 hp; exact ⟨by simp,ap⟩)
      have G:Below W0.heap.size W0 (fil u5 g12 n):=ao.1
      refine aa.one (i:=13) (o:=⟨none,_,_,_,_,_⟩) (by kernel_rfl) rfl (fun K F=>?_)
      go_simp
      refine F.out _ _ ⟨(ab.out _ G),(Z.out _ G),(Y.out _ G)⟩ ?_
      clear F K
      try simp only [ac]
      refine aa.q 14 ⟨some 10,_,_,_,_,_⟩ ⟨(ab.out _ G),(Z.out _ G),(Y.out _ G)⟩ ?_
      try simp only [ac]
      refine aa.done (by kernel_rfl) ?_ _
      refine NoPanic.normal ?_
      go_wp2_with fail
      go_meet
      exact ⟨_,rfl,hid ao⟩
     ·skip
      go_simp
      have hb:=(Below.refl u3.heap.size u3).alloc (Nat.le_refl _) (.cells #[.int .u64 0,.int .u64 0,.int .u64 0,.int .u64 0] 24)
      have hn:=heap_alloc_new u3 (.cells #[.int .u64 0,.int .u64 0,.int .u64 0,.int .u64 0] 24)
      have ax:=hid (E.out.size)
      have ar:=hid (ae.lt (bw E.out M.out.here) O 0 (by simp))
      have E:=hid (E.out.trans (hb.mono E.out.size))
      have D:=hid (D.out.on hb)
      have f:=hid (f.out.on hb)
      have z:=hid (z.out.on hb)
      have FW:=hid (FW.out.on hb)
      have M:=hid (M.out.on hb)
      have J:=hid (dS (cr hn))
      refine F.out _ _ ⟨D.out.here,f.out.here,z.out.here⟩ ?_
      clear F K hb hn
      try simp only [ac]
      generalize u3.alloc (.cells #[.int .u64 0,.int .u64 0,.int .u64 0,.int .u64 0] 24)=u6 at *
      generalize u3.heap.size=g12 at *
      refine aa.one (i:=8) (o:=⟨some 20,_,_,_,_,_⟩) (by kernel_rfl) rfl (fun K F=>?_)
      go_simp
      with_reducible refine (dI ⟨#[115,105,103,110]⟩ (some ⟨ay,0,none⟩) 3 _ _ [be a 32,be b 32] bs 3 q n _ rfl QL.out FW.out.here (by simp) (by decide) (Nat.le_refl _) (fun e=>by cases e) HV.out).mono ?_
      rintro e u7 ⟨⟨e5,rfl⟩,hb⟩
      go_wp2_with fail
      have E:=hid (E.out.trans (hb.mono E.out.size))
      have D:=hid (D.out.on hb)
      have f:=hid (f.out.on hb)
      have z:=hid (z.out.on hb)
      have J:=hid (J.out.on hb)
      have M:=hid (M.out.on hb)
      refine F.out _ _ ⟨D.out.here,f.out.here,z.out.here⟩ ?_
      clear F K hb
      try simp only [ac]
      refine aa.q 9 ⟨some 11,_,_,_,_,_⟩ ⟨D.out.here,f.out.here,z.out.here⟩ ?_
      try simp only [ac]
      refine aa.q 10 ⟨some 21,_,_,_,_,_⟩ ⟨D.out.here,f.out.here,z.out.here⟩ ?_
      try simp only [ac]
      refine aa.q 11 ⟨some 22,_,_,_,_,_⟩ ⟨D.out.here,f.out.here,z.out.here⟩ ?_
      try simp only [ac]
      have hs:=cD (bw E.out M.out.here) J.out.here
      obtain ⟨z0,z1,z2,z3⟩:=hs.cell g12 0 (by simp)
      have zl:=hs.lt g12 0 (by simp)
      have zf:=hs.frozen g12 0 (by simp)
      have ap:O≠g12:=Nat.ne_of_lt ar.out
      have ao:=hs.set g12 0 n [(O,0)] (by simp) ax.out (fun p hp=>by obtain rfl:=List.mem_singleton.1 hp; exact ⟨by simp,ap⟩)
      have G:Below W0.heap.size W0 (fil u7 g12 n):=ao.1
      refine aa.one (i:=13) (o:=⟨none,_,_,_,_,_⟩) (by kernel_rfl) rfl (fun K F=>?_)
      go_simp
      refine F.out _ _ ⟨(ab.out _ G),(Z.out _ G),(Y.out _ G)⟩ ?_
      clear F K
      try simp only [ac]
      refine aa.q 14 ⟨some 10,_,_,_,_,_⟩ ⟨(ab.out _ G),(Z.out _ G),(Y.out _ G)⟩ ?_
      try simp only [ac]
      refine aa.done (by kernel_rfl) ?_ _
      refine NoPanic.normal ?_
      go_wp2_with fail
      go_meet
      exact ⟨_,rfl,hid ao⟩
    ·skip
     go_simp
     have hb:=(Below.refl u2.heap.size u2).alloc (Nat.le_refl _) (.cells #[.int .u64 0,.int .u64 0,.int .u64 0,.int .u64 0] 24)
     have hn:=heap_alloc_new u2 (.cells #[.int .u64 0,.int .u64 0,.int .u64 0,.int .u64 0] 24)
     have ax:=hid (E.out.size)
     have ar:=hid (ae.lt (bw E.out M.out.here) O 0 (by simp))
     have E:=hid (E.out.trans (hb.mono E.out.size))
     have D:=hid (D.out.on hb)
     have f:=hid (f.out.on hb)
     have z:=hid (z.out.on hb)
     have I:=hid (I.out.on hb)
     have R:=hid (R.out.on hb)
     have V:=hid (V.out.on hb)
     have M:=hid (M.out.on hb)
     have J:=hid (dS (cr hn))
     refine F.out _ _ ⟨D.out.here,f.out.here,z.out.here⟩ ?_
     clear F K hb hn
     try simp only [ac]
     generalize u2.alloc (.cells #[.int .u64 0,.int .u64 0,.int .u64 0,.int .u64 0] 24)=u8 at *
     generalize u2.heap.size=g12 at *
     refine aa.one (i:=7) (o:=⟨some 19,_,_,_,_,_⟩) (by kernel_rfl) rfl (fun K F=>?_)
     go_simp
     have hb:=(Below.refl u8.heap.size u8).alloc (Nat.le_refl _) (.cells #[.slice A0 32 c0,.slice A1 32 c1,.slice (some ⟨U,0,none⟩) 32 32] 66)
     have hn:=heap_alloc_new u8 (.cells #[.slice A0 32 c0,.slice A1 32 c1,.slice (some ⟨U,0,none⟩) 32 32] 66)
     have E:=hid (E.out.trans (hb.mono E.out.size))
     have D:=hid (D.out.on hb)
     have f:=hid (f.out.on hb)
     have z:=hid (z.out.on hb)
     have I:=hid (I.out.on hb)
     have R:=hid (R.out.on hb)
     have V:=hid (V.out.on hb)
     have J:=hid (J.out.on hb)
     have M:=hid (M.out.on hb)
     have hw:=rws_of (u8.alloc (.cells #[.slice A0 32 c0,.slice A1 32 c1,.slice (some ⟨U,0,none⟩) 32 32] 66)) u8.heap.size _ 3 (fun r=>if r=0 then A0 else if r=1 then A1 else some ⟨U,0,none⟩) (fun r=>if r=0 then c0 else if r=1 then c1 else 32) [be a 32,be b 32] bs hn (fun r hr=>by
      rcases (show r=0∨r=1∨r=2 by omega) with rfl | rfl | rfl
      ·exact ⟨rfl,be32 a,R.out.here,aC.out⟩
      ·exact ⟨rfl,be32 b,V.out.here,az.out⟩
      ·exact ⟨rfl,HL.out,I.out.here,Nat.le_refl _,(by show 32≤9223372036854775807; decide),fun e=>by cases e⟩)
     have FW:=hid (bB hw)
     refine F.out _ _ ⟨D.out.here,f.out.here,z.out.here⟩ ?_
     clear F K hb hn hw
     try simp only [ac]
     generalize u8.alloc (.cells #[.slice A0 32 c0,.slice A1 32 c1,.slice (some ⟨U,0,none⟩) 32 32] 66)=u9 at *
     generalize u8.heap.size=ay at *
     refine aa.one (i:=8) (o:=⟨some 20,_,_,_,_,_⟩) (by kernel_rfl) rfl (fun K F=>?_)
     go_simp
     with_reducible refine (dI ⟨#[115,105,103,110]⟩ (some ⟨ay,0,none⟩) 3 _ _ [be a 32,be b 32] bs 3 q n _ rfl QL.out FW.out.here (by simp) (by decide) (Nat.le_refl _) (fun e=>by cases e) HV.out).mono ?_
     rintro e u10 ⟨⟨e5,rfl⟩,hb⟩
     go_wp2_with fail
     have E:=hid (E.out.trans (hb.mono E.out.size))
     have D:=hid (D.out.on hb)
     have f:=hid (f.out.on hb)
     have z:=hid (z.out.on hb)
     have J:=hid (J.out.on hb)
     have M:=hid (M.out.on hb)
     refine F.out _ _ ⟨D.out.here,f.out.here,z.out.here⟩ ?_
     clear F K hb
     try simp only [ac]
     refine aa.q 9 ⟨some 11,_,_,_,_,_⟩ ⟨D.out.here,f.out.here,z.out.here⟩ ?_
     try simp only [ac]
     refine aa.q 10 ⟨some 21,_,_,_,_,_⟩ ⟨D.out.here,f.out.here,z.out.here⟩ ?_
     try simp only [ac]
     refine aa.q 11 ⟨some 22,_,_,_,_,_⟩ ⟨D.out.here,f.out.here,z.out.here⟩ ?_
     try simp only [ac]
     have hs:=cD (bw E.out M.out.here) J.out.here
     obtain ⟨z0,z1,z2,z3⟩:=hs.cell g12 0 (by simp)
     have zl:=hs.lt g12 0 (by simp)
     have zf:=hs.frozen g12 0 (by simp)
     have ap:O≠g12:=Nat.ne_of_lt ar.out
     have ao:=hs.set g12 0 n [(O,0)] (by simp) ax.out (fun p hp=>by obtain rfl:=List.mem_singleton.1 hp; exact ⟨by simp,ap⟩)
     have G:Below W0.heap.size W0 (fil u10 g12 n):=ao.1
     refine aa.one (i:=13) (o:=⟨none,_,_,_,_,_⟩) (by kernel_rfl) rfl (fun K F=>?_)
     go_simp
     refine F.out _ _ ⟨(ab.out _ G),(Z.out _ G),(Y.out _ G)⟩ ?_
     clear F K
     try simp only [ac]
     refine aa.q 14 ⟨some 10,_,_,_,_,_⟩ ⟨(ab.out _ G),(Z.out _ G),(Y.out _ G)⟩ ?_
     try simp only [ac]
     refine aa.done (by kernel_rfl) ?_ _
     refine NoPanic.normal ?_
     go_wp2_with fail
     go_meet
     exact ⟨_,rfl,hid ao⟩
   ·skip
    go_simp
    have hb:=(Below.refl u1.heap.size u1).alloc (Nat.le_refl _) (.cells #[.int .u64 0,.int .u64 0,.int .u64 0,.int .u64 0] 24)
    have hn:=heap_alloc_new u1 (.cells #[.int .u64 0,.int .u64 0,.int .u64 0,.int .u64 0] 24)
    have ax:=hid (E.out.size)
    have ar:=hid (ae.lt (bw E.out M.out.here) O 0 (by simp))
    have E:=hid (E.out.trans (hb.mono E.out.size))
    have D:=hid (D.out.on hb)
    have f:=hid (f.out.on hb)
    have z:=hid (z.out.on hb)
    have I:=hid (I.out.on hb)
    have R:=hid (R.out.on hb)
    have M:=hid (M.out.on hb)
    have J:=hid (dS (cr hn))
    refine F.out _ _ ⟨D.out.here,f.out.here,z.out.here⟩ ?_
    clear F K hb hn
    try simp only [ac]
    generalize u1.alloc (.cells #[.int .u64 0,.int .u64 0,.int .u64 0,.int .u64 0] 24)=u11 at *
    generalize u1.heap.size=g12 at *
    refine aa.one (i:=5) (o:=⟨some 17,_,_,_,_,_⟩) (by kernel_rfl) rfl (fun K F=>?_)
    go_simp
    with_reducible refine (rpl_any b _ BL.out).mono ?_
    rintro e u12 ⟨A1,c1,rfl,hr,al,dm,ad,hb⟩
    go_wp2_with fail
    have E:=hid (E.out.trans (hb.mono E.out.size))
    have D:=hid (D.out.on hb)
    have f:=hid (f.out.on hb)
    have z:=hid (z.out.on hb)
    have I:=hid (I.out.on hb)
    have R:=hid (R.out.on hb)
    have J:=hid (J.out.on hb)
    have M:=hid (M.out.on hb)
    have V:=hid (on_rd hr)
    have az:=hid (And.intro al (And.intro dm ad))
    refine F.out _ _ ⟨D.out.here,f.out.here,z.out.here⟩ ?_
    clear F K hb hr al dm ad
    try simp only [ac]
    refine aa.one (i:=7) (o:=⟨some 19,_,_,_,_,_⟩) (by kernel_rfl) rfl (fun K F=>?_)
    go_simp
    have hb:=(Below.refl u12.heap.size u12).alloc (Nat.le_refl _) (.cells #[.slice A0 32 c0,.slice A1 32 c1,.slice (some ⟨U,0,none⟩) 32 32] 66)
    have hn:=heap_alloc_new u12 (.cells #[.slice A0 32 c0,.slice A1 32 c1,.slice (some ⟨U,0,none⟩) 32 32] 66)
    have E:=hid (E.out.trans (hb.mono E.out.size))
    have D:=hid (D.out.on hb)
    have f:=hid (f.out.on hb)
    have z:=hid (z.out.on hb)
    have I:=hid (I.out.on hb)
    have R:=hid (R.out.on hb)
    have J:=hid (J.out.on hb)
    have V:=hid (V.out.on hb)
    have M:=hid (M.out.on hb)
    have hw:=rws_of (u12.alloc (.cells #[.slice A0 32 c0,.slice A1 32 c1,.slice (some ⟨U,0,none⟩) 32 32] 66)) u12.heap.size _ 3 (fun r=>if r=0 then A0 else if r=1 then A1 else some ⟨U,0,none⟩) (fun r=>if r=0 then c0 else if r=1 then c1 else 32) [be a 32,be b 32] bs hn (fun r hr=>by
     rcases (show r=0∨r=1∨r=2 by omega) with rfl | rfl | rfl
     ·exact ⟨rfl,be32 a,R.out.here,aC.out⟩
     ·exact ⟨rfl,be32 b,V.out.here,az.out⟩
     ·exact ⟨rfl,HL.out,I.out.here,Nat.le_refl _,(by show 32≤9223372036854775807; decide),fun e=>by cases e⟩)
    have FW:=hid (bB hw)
    refine F.out _ _ ⟨D.out.here,f.out.here,z.out.here⟩ ?_
    clear F K hb hn hw
    try simp only [ac]
    generalize u12.alloc (.cells #[.slice A0 32 c0,.slice A1 32 c1,.slice (some ⟨U,0,none⟩) 32 32] 66)=u13 at *
    generalize u12.heap.size=ay at *
    refine aa.one (i:=8) (o:=⟨some 20,_,_,_,_,_⟩) (by kernel_rfl) rfl (fun K F=>?_)
    go_simp
    with_reducible refine (dI ⟨#[115,105,103,110]⟩ (some ⟨ay,0,none⟩) 3 _ _ [be a 32,be b 32] bs 3 q n _ rfl QL.out FW.out.here (by simp) (by decide) (Nat.le_refl _) (fun e=>by cases e) HV.out).mono ?_
    rintro e u14 ⟨⟨e5,rfl⟩,hb⟩
    go_wp2_with fail
    have E:=hid (E.out.trans (hb.mono E.out.size))
    have D:=hid (D.out.on hb)
    have f:=hid (f.out.on hb)
    have z:=hid (z.out.on hb)
    have J:=hid (J.out.on hb)
    have M:=hid (M.out.on hb)
    refine F.out _ _ ⟨D.out.here,f.out.here,z.out.here⟩ ?_
    clear F K hb
    try simp only [ac]
    refine aa.q 9 ⟨some 11,_,_,_,_,_⟩ ⟨D.out.here,f.out.here,z.out.here⟩ ?_
    try simp only [ac]
    refine aa.q 10 ⟨some 21,_,_,_,_,_⟩ ⟨D.out.here,f.out.here,z.out.here⟩ ?_
    try simp only [ac]
    refine aa.q 11 ⟨some 22,_,_,_,_,_⟩ ⟨D.out.here,f.out.here,z.out.here⟩ ?_
    try simp only [ac]
    have hs:=cD (bw E.out M.out.here) J.out.here
    obtain ⟨z0,z1,z2,z3⟩:=hs.cell g12 0 (by simp)
    have zl:=hs.lt g12 0 (by simp)
    have zf:=hs.frozen g12 0 (by simp)
    have ap:O≠g12:=Nat.ne_of_lt ar.out
    have ao:=hs.set g12 0 n [(O,0)] (by simp) ax.out (fun p hp=>by obtain rfl:=List.mem_singleton.1 hp; exact ⟨by simp,ap⟩)
    have G:Below W0.heap.size W0 (fil u14 g12 n):=ao.1
    refine aa.one (i:=13) (o:=⟨none,_,_,_,_,_⟩) (by kernel_rfl) rfl (fun K F=>?_)
    go_simp
    refine F.out _ _ ⟨(ab.out _ G),(Z.out _ G),(Y.out _ G)⟩ ?_
    clear F K
    try simp only [ac]
    refine aa.q 14 ⟨some 10,_,_,_,_,_⟩ ⟨(ab.out _ G),(Z.out _ G),(Y.out _ G)⟩ ?_
    try simp only [ac]
    refine aa.done (by kernel_rfl) ?_ _
    refine NoPanic.normal ?_
    go_wp2_with fail
    go_meet
    exact ⟨_,rfl,hid ao⟩
  ·skip
   go_simp
   have hb:=(Below.refl ud.heap.size ud).alloc (Nat.le_refl _) (.cells #[.int .u64 0,.int .u64 0,.int .u64 0,.int .u64 0] 24)
   have hn:=heap_alloc_new ud (.cells #[.int .u64 0,.int .u64 0,.int .u64 0,.int .u64 0] 24)
   have ax:=hid (E.out.size)
   have ar:=hid (ae.lt (bw E.out M.out.here) O 0 (by simp))
   have E:=hid (E.out.trans (hb.mono E.out.size))
   have D:=hid (D.out.on hb)
   have f:=hid (f.out.on hb)
   have z:=hid (z.out.on hb)
   have I:=hid (I.out.on hb)
   have M:=hid (M.out.on hb)
   have J:=hid (dS (cr hn))
   refine F.out _ _ ⟨D.out.here,f.out.here,z.out.here⟩ ?_
   clear F K hb hn
   try simp only [ac]
   generalize ud.alloc (.cells #[.int .u64 0,.int .u64 0,.int .u64 0,.int .u64 0] 24)=u15 at *
   generalize ud.heap.size=g12 at *
   refine aa.one (i:=3) (o:=⟨some 15,_,_,_,_,_⟩) (by kernel_rfl) rfl (fun K F=>?_)
   go_simp
   with_reducible refine (rpl_any a _ AL.out).mono ?_
   rintro e u16 ⟨A0,c0,rfl,hr,al,dm,ad,hb⟩
   go_wp2_with fail
   have E:=hid (E.out.trans (hb.mono E.out.size))
   have D:=hid (D.out.on hb)
   have f:=hid (f.out.on hb)
   have z:=hid (z.out.on hb)
   have I:=hid (I.out.on hb)
   have J:=hid (J.out.on hb)
   have M:=hid (M.out.on hb)
   have R:=hid (on_rd hr)
   have aC:=hid (And.intro al (And.intro dm ad))
   refine F.out _ _ ⟨D.out.here,f.out.here,z.out.here⟩ ?_
   clear F K hb hr al dm ad
   try simp only [ac]
   refine aa.one (i:=5) (o:=⟨some 17,_,_,_,_,_⟩) (by kernel_rfl) rfl (fun K F=>?_)
   go_simp
   with_reducible refine (rpl_any b _ BL.out).mono ?_
   rintro e u17 ⟨A1,c1,rfl,hr,al,dm,ad,hb⟩
   go_wp2_with fail
   have E:=hid (E.out.trans (hb.mono E.out.size))
   have D:=hid (D.out.on hb)
   have f:=hid (f.out.on hb)
   have z:=hid (z.out.on hb)
   have I:=hid (I.out.on hb)
   have J:=hid (J.out.on hb)
   have R:=hid (R.out.on hb)
   have M:=hid (M.out.on hb)
   have V:=hid (on_rd hr)
   have az:=hid (And.intro al (And.intro dm ad))
   refine F.out _ _ ⟨D.out.here,f.out.here,z.out.here⟩ ?_
   clear F K hb hr al dm ad
   try simp only [ac]
   refine aa.one (i:=7) (o:=⟨some 19,_,_,_,_,_⟩) (by kernel_rfl) rfl (fun K F=>?_)
   go_simp
   have hb:=(Below.refl u17.heap.size u17).alloc (Nat.le_refl _) (.cells #[.slice A0 32 c0,.slice A1 32 c1,.slice (some ⟨U,0,none⟩) 32 32] 66)
   have hn:=heap_alloc_new u17 (.cells #[.slice A0 32 c0,.slice A1 32 c1,.slice (some ⟨U,0,none⟩) 32 32] 66)
   have E:=hid (E.out.trans (hb.mono E.out.size))
   have D:=hid (D.out.on hb)
   have f:=hid (f.out.on hb)
   have z:=hid (z.out.on hb)
   have I:=hid (I.out.on hb)
   have J:=hid (J.out.on hb)
   have R:=hid (R.out.on hb)
   have V:=hid (V.out.on hb)
   have M:=hid (M.out.on hb)
   have hw:=rws_of (u17.alloc (.cells #[.slice A0 32 c0,.slice A1 32 c1,.slice (some ⟨U,0,none⟩) 32 32] 66)) u17.heap.size _ 3 (fun r=>if r=0 then A0 else if r=1 then A1 else some ⟨U,0,none⟩) (fun r=>if r=0 then c0 else if r=1 then c1 else 32) [be a 32,be b 32] bs hn (fun r hr=>by
    rcases (show r=0∨r=1∨r=2 by omega) with rfl | rfl | rfl
    ·exact ⟨rfl,be32 a,R.out.here,aC.out⟩
    ·exact ⟨rfl,be32 b,V.out.here,az.out⟩
    ·exact ⟨rfl,HL.out,I.out.here,Nat.le_refl _,(by show 32≤9223372036854775807; decide),fun e=>by cases e⟩)
   have FW:=hid (bB hw)
   refine F.out _ _ ⟨D.out.here,f.out.here,z.out.here⟩ ?_
   clear F K hb hn hw
   try simp only [ac]
   generalize u17.alloc (.cells #[.slice A0 32 c0,.slice A1 32 c1,.slice (some ⟨U,0,none⟩) 32 32] 66)=u18 at *
   generalize u17.heap.size=ay at *
   refine aa.one (i:=8) (o:=⟨some 20,_,_,_,_,_⟩) (by kernel_rfl) rfl (fun K F=>?_)
   go_simp
   with_reducible refine (dI ⟨#[115,105,103,110]⟩ (some ⟨ay,0,none⟩) 3 _ _ [be a 32,be b 32] bs 3 q n _ rfl QL.out FW.out.here (by simp) (by decide) (Nat.le_refl _) (fun e=>by cases e) HV.out).mono ?_
   rintro e u19 ⟨⟨e5,rfl⟩,hb⟩
   go_wp2_with fail
   have E:=hid (E.out.trans (hb.mono E.out.size))
   have D:=hid (D.out.on hb)
   have f:=hid (f.out.on hb)
   have z:=hid (z.out.on hb)
   have J:=hid (J.out.on hb)
   have M:=hid (M.out.on hb)
   refine F.out _ _ ⟨D.out.here,f.out.here,z.out.here⟩ ?_
   clear F K hb
   try simp only [ac]
   refine aa.q 9 ⟨some 11,_,_,_,_,_⟩ ⟨D.out.here,f.out.here,z.out.here⟩ ?_
   try simp only [ac]
   refine aa.q 10 ⟨some 21,_,_,_,_,_⟩ ⟨D.out.here,f.out.here,z.out.here⟩ ?_
   try simp only [ac]
   refine aa.q 11 ⟨some 22,_,_,_,_,_⟩ ⟨D.out.here,f.out.here,z.out.here⟩ ?_
   try simp only [ac]
   have hs:=cD (bw E.out M.out.here) J.out.here
   obtain ⟨z0,z1,z2,z3⟩:=hs.cell g12 0 (by simp)
   have zl:=hs.lt g12 0 (by simp)
   have zf:=hs.frozen g12 0 (by simp)
   have ap:O≠g12:=Nat.ne_of_lt ar.out
   have ao:=hs.set g12 0 n [(O,0)] (by simp) ax.out (fun p hp=>by obtain rfl:=List.mem_singleton.1 hp; exact ⟨by simp,ap⟩)
   have G:Below W0.heap.size W0 (fil u19 g12 n):=ao.1
   refine aa.one (i:=13) (o:=⟨none,_,_,_,_,_⟩) (by kernel_rfl) rfl (fun K F=>?_)
   go_simp
   refine F.out _ _ ⟨(ab.out _ G),(Z.out _ G),(Y.out _ G)⟩ ?_
   clear F K
   try simp only [ac]
   refine aa.q 14 ⟨some 10,_,_,_,_,_⟩ ⟨(ab.out _ G),(Z.out _ G),(Y.out _ G)⟩ ?_
   try simp only [ac]
   refine aa.done (by kernel_rfl) ?_ _
   refine NoPanic.normal ?_
   go_wp2_with fail
   go_meet
   exact ⟨_,rfl,hid ao⟩
 case rest =>
  obtain ⟨g12,rfl,H9⟩:=hcut
  obtain ⟨c0,c1,c2,c3⟩:=H9.out.cell g12 n (by simp)
  have cl:=H9.out.lt g12 n (by simp)
  have cm:=Nat.le_of_lt cl
  obtain ⟨z0,z1,z2,z3⟩:=H9.out.cell O 0 (by simp)
  have zl:=H9.out.lt O 0 (by simp)
  have zf:=H9.out.frozen O 0 (by simp)
  have HZ:=hid (H9.out.set O 0 n [] (by simp) (Nat.le_of_eq aK.out) (by simp))
  go_wp2
  clear z0 z1 z2 z3 zl zf c0 c1 c2 c3 cl cm
  try rw [Exit.noGoto_ret]
  change bodyPost _ _ _ _ _ (fil wc O n)
  generalize fil wc O n=wz at *
  obtain ⟨k0,k1,k2,k3⟩:=HZ.out.cell O n (by simp)
  exact bodyPost_ret (v:=af n) (by simp [results,Tryz.results23,go_sem,k0,k1,k2,k3]) rfl ⟨rfl,by first | exact aA.out _ HZ.out.1 | (rw [aE]; exact aA.out _ HZ.out.1)⟩
theorem rdraw_x (p q g x n r:Nat) (z:Bool) (bs:List UInt8) (w:World) (hq:q<2 ^ 256) (hx:x<2 ^ 256) (bS:bs.length=32) (hv:nop ⟨#[100,114,97,119]⟩ [be x 32] bs q=n) (qz:∀ w,(Op.equalIn 10000 24 (af n) (.agg #[.int .u64 0,.int .u64 0,.int .u64 0,.int .u64 0])).run Tryz.prog w=.ok z w) (hr:r=if z=true then 1 else n) :
  Calls Tryz.prog 22 #[gv p q g,af x,.agg (au bs).toArray] w fun e w'=>e=.returned (af r)∧Below w.heap.size w w':=by
 have aE:=hid hr
 clear hr
 have QL:=hid hq
 have XL:=hid hx
 have HL:=hid bS
 have HV:=hid hv
 clear hq hv hx
 obtain ⟨bA,bI,f0,f1,f2⟩:=boxes3 w (aY p q g) (ai x) ((au bs).toArray) 26 24 28 _ rfl
 have aA:Hid (∀ u,Below (((w.alloc (.cells (aY p q g) 26)).alloc (.cells (ai x) 24)).alloc (.cells ((au bs).toArray) 28)).heap.size (((w.alloc (.cells (aY p q g) 26)).alloc (.cells (ai x) 24)).alloc (.cells ((au bs).toArray) 28)) u→Below w.heap.size w u):=hid (fun u hu=>bA.trans (hu.mono bA.size))
 go_enter Tryz.func22,Tryz.ntmps22
 go_upto_region 1 with fail
 generalize ((w.alloc (.cells (aY p q g) 26)).alloc (.cells (ai x) 24)).alloc (.cells ((au bs).toArray) 28)=W0 at *
 have ab:=(Below.refl W0.heap.size W0).alloc (Nat.le_refl _) (.cells #[.int .u64 0,.int .u64 0,.int .u64 0,.int .u64 0] 24)
 have dG:=heap_alloc_new W0 (.cells #[.int .u64 0,.int .u64 0,.int .u64 0,.int .u64 0] 24)
 rw [bI] at dG
 have E:=hid ab
 have aC:Hid (W0.heap.size=w.heap.size+1+1+1):=hid bI
 have aN:=hid (ldG p q g 0 f0 (ak _))
 have FG:=hid ((ldG p q g 0 f0 (ak _)).on ab)
 have aJ:=hid (aP p 0 f0 (ag p _ 0 rfl rfl rfl rfl))
 have aL:=hid ((aP p 0 f0 (ag p _ 0 rfl rfl rfl rfl)).on ab)
 have V:=hid (aP q 4 f0 (ag q _ 4 rfl rfl rfl rfl))
 have D:=hid ((aP q 4 f0 (ag q _ 4 rfl rfl rfl rfl)).on ab)
 have aK:=hid (aP g 8 f0 (ag g _ 8 rfl rfl rfl rfl))
 have dO:=hid ((aP g 8 f0 (ag g _ 8 rfl rfl rfl rfl)).on ab)
 have U:=hid (aP x 0 f1 (ak _))
 have f:=hid ((aP x 0 f1 (ak _)).on ab)
 have aM:=hid (ldS bs bS 0 f2 (fun j v h=>by rw [Nat.zero_add]; simpa using h))
 have Fs:=hid ((ldS bs bS 0 f2 (fun j v h=>by rw [Nat.zero_add]; simpa using h)).on ab)
 have M:=hid (On.on (on_rd (bt_rd (show Bt W0 _ 28 bs from f2))) ab)
 have O:Hid (On (W0.alloc (.cells #[.int .u64 0,.int .u64 0,.int .u64 0,.int .u64 0] 24)) fun u=>Nm u (w.heap.size+1+1+1) 0):=hid (dS (cr dG))
 clear dG
 generalize W0.alloc (.cells #[.int .u64 0,.int .u64 0,.int .u64 0,.int .u64 0] 24)=w0 at *
 clear bA bI ab f0 f1 f2
 generalize w.heap.size+1+1+1=G at *
 generalize w.heap.size+1+1=R at *
 generalize w.heap.size+1=aG at *
 generalize az:w.heap.size=aI at *
 go_cut [7] (fun sx wx=>∃ g12:Nat,sx=.pointer (some ⟨g12,0,none⟩)∧Hid (ae W0 [(g12,n),(G,0)] wx))
 case first =>
  refine wp_region_noPanic ?_
  refine aa.region (fun (L:Array Bool) (u:World)=>(Instr.loadAt 24 (.pointer (some ⟨aI,4,none⟩))).run Tryz.prog u=.ok (af q) u∧(Instr.loadAt 24 (.pointer (some ⟨aG,0,none⟩))).run Tryz.prog u=.ok (af x) u) (by kernel_rfl) ?_
  have hb:=(Below.refl w0.heap.size w0).drew
  have E:=hid (E.out.trans (hb.mono E.out.size))
  have D:=hid (D.out.on hb)
  have f:=hid (f.out.on hb)
  have M:=hid (M.out.on hb)
  have O:=hid (O.out.on hb)
  clear hb
  generalize w0.drew=ud at *
  refine aa.q 0 ⟨some 10,_,_,_,_,_⟩ ⟨D.out.here,f.out.here⟩ ?_
  try simp only [ac]
  refine aa.tk (i:=1) (o:=⟨some 11,_,_,_,_,_⟩) (v:=af q) [] (y:=Or.inl ⟨by rfl,?_⟩) (s:=⟨D.out.here,f.out.here⟩) (H:=?_)
  ·rintro u ⟨up,-,hX⟩; obtain ⟨x0,x1⟩:=hX; exact dn _ _ rfl _ _ rfl x0
  try simp only [ac]
  refine aa.tk (i:=2) (o:=⟨some 12,_,_,_,_,_⟩) (v:=af x) [] (y:=Or.inl ⟨by rfl,?_⟩) (s:=⟨D.out.here,f.out.here⟩) (H:=?_)
  ·rintro u ⟨up,-,hX⟩; obtain ⟨x0,x1⟩:=hX; exact dn _ _ rfl _ _ rfl x1
  try simp only [ac]
  refine aa.q 4 ⟨some 14,_,_,_,_,_⟩ ⟨D.out.here,f.out.here⟩ ?_
  try simp only [ac]
  refine aa.two (i:=3) (j:=10) (o:=⟨some 13,_,_,_,_,_⟩) (p:=⟨some 7,_,_,_,_,_⟩) (by kernel_rfl) rfl rfl (fun K F=>?_) (fun K F=>?_)
  ·skip
   go_simp
   with_reducible refine (rpl_any x _ XL.out).mono ?_
   rintro e u1 ⟨A0,c0,rfl,hr,ax,dm,ar,hb⟩
   go_wp2_with fail
   have E:=hid (E.out.trans (hb.mono E.out.size))
   have D:=hid (D.out.on hb)
   have f:=hid (f.out.on hb)
   have M:=hid (M.out.on hb)
   have O:=hid (O.out.on hb)
   have Y:=hid (on_rd hr)
   have ay:=hid (And.intro ax (And.intro dm ar))
   refine F.out _ _ ⟨D.out.here,f.out.here⟩ ?_
   clear F K hb hr ax dm ar
   try simp only [ac]
   refine aa.two (i:=5) (j:=10) (o:=⟨some 15,_,_,_,_,_⟩) (p:=⟨some 7,_,_,_,_,_⟩) (by kernel_rfl) rfl rfl (fun K F=>?_) (fun K F=>?_)
   ·skip
    go_simp
    have hb:=(Below.refl u1.heap.size u1).alloc (Nat.le_refl _) (.cells #[.slice A0 32 c0,.slice (some ⟨R,0,none⟩) 32 32] 66)
    have Z:=heap_alloc_new u1 (.cells #[.slice A0 32 c0,.slice (some ⟨R,0,none⟩) 32 32] 66)
    have E:=hid (E.out.trans (hb.mono E.out.size))
    have D:=hid (D.out.on hb)
    have f:=hid (f.out.on hb)
    have M:=hid (M.out.on hb)
    have Y:=hid (Y.out.on hb)
    have O:=hid (O.out.on hb)
    have hw:=rws_of (u1.alloc (.cells #[.slice A0 32 c0,.slice (some ⟨R,0,none⟩) 32 32] 66)) u1.heap.size _ 2 (fun r=>if r=0 then A0 else some ⟨R,0,none⟩) (fun r=>if r=0 then c0 else 32) [be x 32] bs Z (fun r hr=>by
     rcases (show r=0∨r=1 by omega) with rfl | rfl
     ·exact ⟨rfl,be32 x,Y.out.here,ay.out⟩
     ·exact ⟨rfl,HL.out,M.out.here,Nat.le_refl _,(by show 32≤9223372036854775807; decide),fun e=>by cases e⟩)
    have FW:=hid (bB hw)
    refine F.out _ _ ⟨D.out.here,f.out.here⟩ ?_
    clear F K hb Z hw
    try simp only [ac]
    generalize u1.alloc (.cells #[.slice A0 32 c0,.slice (some ⟨R,0,none⟩) 32 32] 66)=u2 at *
    generalize u1.heap.size=ap at *
    refine aa.two (i:=6) (j:=10) (o:=⟨some 16,_,_,_,_,_⟩) (p:=⟨some 7,_,_,_,_,_⟩) (by kernel_rfl) rfl rfl (fun K F=>?_) (fun K F=>?_)
    ·skip
     go_simp
     with_reducible refine (dI ⟨#[100,114,97,119]⟩ (some ⟨ap,0,none⟩) 2 _ _ [be x 32] bs 2 q n _ rfl QL.out FW.out.here (by simp) (by decide) (Nat.le_refl _) (fun e=>by cases e) HV.out).mono ?_
     rintro e u3 ⟨⟨e5,rfl⟩,hb⟩
     go_wp2_with fail
     have E:=hid (E.out.trans (hb.mono E.out.size))
     have D:=hid (D.out.on hb)
     have f:=hid (f.out.on hb)
     have O:=hid (O.out.on hb)
     refine F.out _ _ ⟨D.out.here,f.out.here⟩ ?_
     clear F K hb
     try simp only [ac]
     refine aa.q 7 ⟨some 9,_,_,_,_,_⟩ ⟨D.out.here,f.out.here⟩ ?_
     try simp only [ac]
     refine aa.q 8 ⟨some 17,_,_,_,_,_⟩ ⟨D.out.here,f.out.here⟩ ?_
     try simp only [ac]
     refine aa.q 9 ⟨some 18,_,_,_,_,_⟩ ⟨D.out.here,f.out.here⟩ ?_
     try simp only [ac]
     refine aa.one (i:=10) (o:=⟨some 7,_,_,_,_,_⟩) (by kernel_rfl) rfl (fun K F=>?_)
     go_simp
     have hb:=(Below.refl u3.heap.size u3).alloc (Nat.le_refl _) (.cells #[.int .u64 0,.int .u64 0,.int .u64 0,.int .u64 0] 24)
     have Z:=heap_alloc_new u3 (.cells #[.int .u64 0,.int .u64 0,.int .u64 0,.int .u64 0] 24)
     have an:=hid (E.out.size)
     have al:=hid (ae.lt (bw E.out O.out.here) G 0 (by simp))
     have E:=hid (E.out.trans (hb.mono E.out.size))
     have D:=hid (D.out.on hb)
     have f:=hid (f.out.on hb)
     have O:=hid (O.out.on hb)
     have J:=hid (dS (cr Z))
     refine F.out _ _ ⟨D.out.here,f.out.here⟩ ?_
     clear F K hb Z
     try simp only [ac]
     generalize u3.alloc (.cells #[.int .u64 0,.int .u64 0,.int .u64 0,.int .u64 0] 24)=u4 at *
     generalize u3.heap.size=g12 at *
     have hs:=cD (bw E.out O.out.here) J.out.here
     obtain ⟨z0,z1,z2,z3⟩:=hs.cell g12 0 (by simp)
     have zl:=hs.lt g12 0 (by simp)
     have zf:=hs.frozen g12 0 (by simp)
     have ad:G≠g12:=Nat.ne_of_lt al.out
     have ao:=hs.set g12 0 n [(G,0)] (by simp) an.out (fun p hp=>by obtain rfl:=List.mem_singleton.1 hp; exact ⟨by simp,ad⟩)
     have I:Below W0.heap.size W0 (fil u4 g12 n):=ao.1
     refine aa.one (i:=11) (o:=⟨none,_,_,_,_,_⟩) (by kernel_rfl) rfl (fun K F=>?_)
     go_simp
     refine F.out _ _ ⟨(V.out _ I),(U.out _ I)⟩ ?_
     clear F K
     try simp only [ac]
     refine aa.q 12 ⟨some 8,_,_,_,_,_⟩ ⟨(V.out _ I),(U.out _ I)⟩ ?_
     try simp only [ac]
     refine aa.done (by kernel_rfl) ?_ _
     refine NoPanic.normal ?_
     go_wp2_with fail
     go_meet
     exact ⟨_,rfl,hid ao⟩
    ·skip
     go_simp
     have hb:=(Below.refl u2.heap.size u2).alloc (Nat.le_refl _) (.cells #[.int .u64 0,.int .u64 0,.int .u64 0,.int .u64 0] 24)
     have Z:=heap_alloc_new u2 (.cells #[.int .u64 0,.int .u64 0,.int .u64 0,.int .u64 0] 24)
     have an:=hid (E.out.size)
     have al:=hid (ae.lt (bw E.out O.out.here) G 0 (by simp))
     have E:=hid (E.out.trans (hb.mono E.out.size))
     have D:=hid (D.out.on hb)
     have f:=hid (f.out.on hb)
     have FW:=hid (FW.out.on hb)
     have O:=hid (O.out.on hb)
     have J:=hid (dS (cr Z))
     refine F.out _ _ ⟨D.out.here,f.out.here⟩ ?_
     clear F K hb Z
     try simp only [ac]
     generalize u2.alloc (.cells #[.int .u64 0,.int .u64 0,.int .u64 0,.int .u64 0] 24)=u5 at *
     generalize u2.heap.size=g12 at *
     refine aa.one (i:=6) (o:=⟨some 16,_,_,_,_,_⟩) (by kernel_rfl) rfl (fun K F=>?_)
     go_simp
     with_reducible refine (dI ⟨#[100,114,97,119]⟩ (some ⟨ap,0,none⟩) 2 _ _ [be x 32] bs 2 q n _ rfl QL.out FW.out.here (by simp) (by decide) (Nat.le_refl _) (fun e=>by cases e) HV.out).mono ?_
     rintro e u6 ⟨⟨e5,rfl⟩,hb⟩
     go_wp2_with fail
     have E:=hid (E.out.trans (hb.mono E.out.size))
     have D:=hid (D.out.on hb)
     have f:=hid (f.out.on hb)
     have J:=hid (J.out.on hb)
     have O:=hid (O.out.on hb)
     refine F.out _ _ ⟨D.out.here,f.out.here⟩ ?_
     clear F K hb
     try simp only [ac]
     refine aa.q 7 ⟨some 9,_,_,_,_,_⟩ ⟨D.out.here,f.out.here⟩ ?_
     try simp only [ac]
     refine aa.q 8 ⟨some 17,_,_,_,_,_⟩ ⟨D.out.here,f.out.here⟩ ?_
     try simp only [ac]
     refine aa.q 9 ⟨some 18,_,_,_,_,_⟩ ⟨D.out.here,f.out.here⟩ ?_
     try simp only [ac]
     have hs:=cD (bw E.out O.out.here) J.out.here
     obtain ⟨z0,z1,z2,z3⟩:=hs.cell g12 0 (by simp)
     have zl:=hs.lt g12 0 (by simp)
     have zf:=hs.frozen g12 0 (by simp)
     have ad:G≠g12:=Nat.ne_of_lt al.out
     have ao:=hs.set g12 0 n [(G,0)] (by simp) an.out (fun p hp=>by obtain rfl:=List.mem_singleton.1 hp; exact ⟨by simp,ad⟩)
     have I:Below W0.heap.size W0 (fil u6 g12 n):=ao.1
     refine aa.one (i:=11) (o:=⟨none,_,_,_,_,_⟩) (by kernel_rfl) rfl (fun K F=>?_)
     go_simp
     refine F.out _ _ ⟨(V.out _ I),(U.out _ I)⟩ ?_
     clear F K
     try simp only [ac]
     refine aa.q 12 ⟨some 8,_,_,_,_,_⟩ ⟨(V.out _ I),(U.out _ I)⟩ ?_
     try simp only [ac]
     refine aa.done (by kernel_rfl) ?_ _
     refine NoPanic.normal ?_
     go_wp2_with fail
     go_meet
     exact ⟨_,rfl,hid ao⟩
   ·skip
    go_simp
    have hb:=(Below.refl u1.heap.size u1).alloc (Nat.le_refl _) (.cells #[.int .u64 0,.int .u64 0,.int .u64 0,.int .u64 0] 24)
    have Z:=heap_alloc_new u1 (.cells #[.int .u64 0,.int .u64 0,.int .u64 0,.int .u64 0] 24)
    have an:=hid (E.out.size)
    have al:=hid (ae.lt (bw E.out O.out.here) G 0 (by simp))
    have E:=hid (E.out.trans (hb.mono E.out.size))
    have D:=hid (D.out.on hb)
    have f:=hid (f.out.on hb)
    have M:=hid (M.out.on hb)
    have Y:=hid (Y.out.on hb)
    have O:=hid (O.out.on hb)
    have J:=hid (dS (cr Z))
    refine F.out _ _ ⟨D.out.here,f.out.here⟩ ?_
    clear F K hb Z
    try simp only [ac]
    generalize u1.alloc (.cells #[.int .u64 0,.int .u64 0,.int .u64 0,.int .u64 0] 24)=u7 at *
    generalize u1.heap.size=g12 at *
    refine aa.one (i:=5) (o:=⟨some 15,_,_,_,_,_⟩) (by kernel_rfl) rfl (fun K F=>?_)
    go_simp
    have hb:=(Below.refl u7.heap.size u7).alloc (Nat.le_refl _) (.cells #[.slice A0 32 c0,.slice (some ⟨R,0,none⟩) 32 32] 66)
    have Z:=heap_alloc_new u7 (.cells #[.slice A0 32 c0,.slice (some ⟨R,0,none⟩) 32 32] 66)
    have E:=hid (E.out.trans (hb.mono E.out.size))
    have D:=hid (D.out.on hb)
    have f:=hid (f.out.on hb)
    have M:=hid (M.out.on hb)
    have Y:=hid (Y.out.on hb)
    have J:=hid (J.out.on hb)
    have O:=hid (O.out.on hb)
    have hw:=rws_of (u7.alloc (.cells #[.slice A0 32 c0,.slice (some ⟨R,0,none⟩) 32 32] 66)) u7.heap.size _ 2 (fun r=>if r=0 then A0 else some ⟨R,0,none⟩) (fun r=>if r=0 then c0 else 32) [be x 32] bs Z (fun r hr=>by
     rcases (show r=0∨r=1 by omega) with rfl | rfl
     ·exact ⟨rfl,be32 x,Y.out.here,ay.out⟩
     ·exact ⟨rfl,HL.out,M.out.here,Nat.le_refl _,(by show 32≤9223372036854775807; decide),fun e=>by cases e⟩)
    have FW:=hid (bB hw)
    refine F.out _ _ ⟨D.out.here,f.out.here⟩ ?_
    clear F K hb Z hw
    try simp only [ac]
    generalize u7.alloc (.cells #[.slice A0 32 c0,.slice (some ⟨R,0,none⟩) 32 32] 66)=u8 at *
    generalize u7.heap.size=ap at *
    refine aa.one (i:=6) (o:=⟨some 16,_,_,_,_,_⟩) (by kernel_rfl) rfl (fun K F=>?_)
    go_simp
    with_reducible refine (dI ⟨#[100,114,97,119]⟩ (some ⟨ap,0,none⟩) 2 _ _ [be x 32] bs 2 q n _ rfl QL.out FW.out.here (by simp) (by decide) (Nat.le_refl _) (fun e=>by cases e) HV.out).mono ?_
    rintro e u9 ⟨⟨e5,rfl⟩,hb⟩
    go_wp2_with fail
    have E:=hid (E.out.trans (hb.mono E.out.size))
    have D:=hid (D.out.on hb)
    have f:=hid (f.out.on hb)
    have J:=hid (J.out.on hb)
    have O:=hid (O.out.on hb)
    refine F.out _ _ ⟨D.out.here,f.out.here⟩ ?_
    clear F K hb
    try simp only [ac]
    refine aa.q 7 ⟨some 9,_,_,_,_,_⟩ ⟨D.out.here,f.out.here⟩ ?_
    try simp only [ac]
    refine aa.q 8 ⟨some 17,_,_,_,_,_⟩ ⟨D.out.here,f.out.here⟩ ?_
    try simp only [ac]
    refine aa.q 9 ⟨some 18,_,_,_,_,_⟩ ⟨D.out.here,f.out.here⟩ ?_
    try simp only [ac]
    have hs:=cD (bw E.out O.out.here) J.out.here
    obtain ⟨z0,z1,z2,z3⟩:=hs.cell g12 0 (by simp)
    have zl:=hs.lt g12 0 (by simp)
    have zf:=hs.frozen g12 0 (by simp)
    have ad:G≠g12:=Nat.ne_of_lt al.out
    have ao:=hs.set g12 0 n [(G,0)] (by simp) an.out (fun p hp=>by obtain rfl:=List.mem_singleton.1 hp; exact ⟨by simp,ad⟩)
    have I:Below W0.heap.size W0 (fil u9 g12 n):=ao.1
    refine aa.one (i:=11) (o:=⟨none,_,_,_,_,_⟩) (by kernel_rfl) rfl (fun K F=>?_)
    go_simp
    refine F.out _ _ ⟨(V.out _ I),(U.out _ I)⟩ ?_
    clear F K
    try simp only [ac]
    refine aa.q 12 ⟨some 8,_,_,_,_,_⟩ ⟨(V.out _ I),(U.out _ I)⟩ ?_
    try simp only [ac]
    refine aa.done (by kernel_rfl) ?_ _
    refine NoPanic.normal ?_
    go_wp2_with fail
    go_meet
    exact ⟨_,rfl,hid ao⟩
  ·skip
   go_simp
   have hb:=(Below.refl ud.heap.size ud).alloc (Nat.le_refl _) (.cells #[.int .u64 0,.int .u64 0,.int .u64 0,.int .u64 0] 24)
   have Z:=heap_alloc_new ud (.cells #[.int .u64 0,.int .u64 0,.int .u64 0,.int .u64 0] 24)
   have an:=hid (E.out.size)
   have al:=hid (ae.lt (bw E.out O.out.here) G 0 (by simp))
   have E:=hid (E.out.trans (hb.mono E.out.size))
   have D:=hid (D.out.on hb)
   have f:=hid (f.out.on hb)
   have M:=hid (M.out.on hb)
   have O:=hid (O.out.on hb)
   have J:=hid (dS (cr Z))
   refine F.out _ _ ⟨D.out.here,f.out.here⟩ ?_
   clear F K hb Z
   try simp only [ac]
   generalize ud.alloc (.cells #[.int .u64 0,.int .u64 0,.int .u64 0,.int .u64 0] 24)=u10 at *
   generalize ud.heap.size=g12 at *
   refine aa.one (i:=3) (o:=⟨some 13,_,_,_,_,_⟩) (by kernel_rfl) rfl (fun K F=>?_)
   go_simp
   with_reducible refine (rpl_any x _ XL.out).mono ?_
   rintro e u11 ⟨A0,c0,rfl,hr,ax,dm,ar,hb⟩
   go_wp2_with fail
   have E:=hid (E.out.trans (hb.mono E.out.size))
   have D:=hid (D.out.on hb)
   have f:=hid (f.out.on hb)
   have M:=hid (M.out.on hb)
   have J:=hid (J.out.on hb)
   have O:=hid (O.out.on hb)
   have Y:=hid (on_rd hr)
   have ay:=hid (And.intro ax (And.intro dm ar))
   refine F.out _ _ ⟨D.out.here,f.out.here⟩ ?_
   clear F K hb hr ax dm ar
   try simp only [ac]
   refine aa.one (i:=5) (o:=⟨some 15,_,_,_,_,_⟩) (by kernel_rfl) rfl (fun K F=>?_)
   go_simp
   have hb:=(Below.refl u11.heap.size u11).alloc (Nat.le_refl _) (.cells #[.slice A0 32 c0,.slice (some ⟨R,0,none⟩) 32 32] 66)
   have Z:=heap_alloc_new u11 (.cells #[.slice A0 32 c0,.slice (some ⟨R,0,none⟩) 32 32] 66)
   have E:=hid (E.out.trans (hb.mono E.out.size))
   have D:=hid (D.out.on hb)
   have f:=hid (f.out.on hb)
   have M:=hid (M.out.on hb)
   have J:=hid (J.out.on hb)
   have Y:=hid (Y.out.on hb)
   have O:=hid (O.out.on hb)
   have hw:=rws_of (u11.alloc (.cells #[.slice A0 32 c0,.slice (some ⟨R,0,none⟩) 32 32] 66)) u11.heap.size _ 2 (fun r=>if r=0 then A0 else some ⟨R,0,none⟩) (fun r=>if r=0 then c0 else 32) [be x 32] bs Z (fun r hr=>by
    rcases (show r=0∨r=1 by omega) with rfl | rfl
    ·exact ⟨rfl,be32 x,Y.out.here,ay.out⟩
    ·exact ⟨rfl,HL.out,M.out.here,Nat.le_refl _,(by show 32≤9223372036854775807; decide),fun e=>by cases e⟩)
   have FW:=hid (bB hw)
   refine F.out _ _ ⟨D.out.here,f.out.here⟩ ?_
   clear F K hb Z hw
   try simp only [ac]
   generalize u11.alloc (.cells #[.slice A0 32 c0,.slice (some ⟨R,0,none⟩) 32 32] 66)=u12 at *
   generalize u11.heap.size=ap at *
   refine aa.one (i:=6) (o:=⟨some 16,_,_,_,_,_⟩) (by kernel_rfl) rfl (fun K F=>?_)
   go_simp
   with_reducible refine (dI ⟨#[100,114,97,119]⟩ (some ⟨ap,0,none⟩) 2 _ _ [be x 32] bs 2 q n _ rfl QL.out FW.out.here (by simp) (by decide) (Nat.le_refl _) (fun e=>by cases e) HV.out).mono ?_
   rintro e u13 ⟨⟨e5,rfl⟩,hb⟩
   go_wp2_with fail
   have E:=hid (E.out.trans (hb.mono E.out.size))
   have D:=hid (D.out.on hb)
   have f:=hid (f.out.on hb)
   have J:=hid (J.out.on hb)
   have O:=hid (O.out.on hb)
   refine F.out _ _ ⟨D.out.here,f.out.here⟩ ?_
   clear F K hb
   try simp only [ac]
   refine aa.q 7 ⟨some 9,_,_,_,_,_⟩ ⟨D.out.here,f.out.here⟩ ?_
   try simp only [ac]
   refine aa.q 8 ⟨some 17,_,_,_,_,_⟩ ⟨D.out.here,f.out.here⟩ ?_
   try simp only [ac]
   refine aa.q 9 ⟨some 18,_,_,_,_,_⟩ ⟨D.out.here,f.out.here⟩ ?_
   try simp only [ac]
   have hs:=cD (bw E.out O.out.here) J.out.here
   obtain ⟨z0,z1,z2,z3⟩:=hs.cell g12 0 (by simp)
   have zl:=hs.lt g12 0 (by simp)
   have zf:=hs.frozen g12 0 (by simp)
   have ad:G≠g12:=Nat.ne_of_lt al.out
   have ao:=hs.set g12 0 n [(G,0)] (by simp) an.out (fun p hp=>by obtain rfl:=List.mem_singleton.1 hp; exact ⟨by simp,ad⟩)
   have I:Below W0.heap.size W0 (fil u13 g12 n):=ao.1
   refine aa.one (i:=11) (o:=⟨none,_,_,_,_,_⟩) (by kernel_rfl) rfl (fun K F=>?_)
   go_simp
   refine F.out _ _ ⟨(V.out _ I),(U.out _ I)⟩ ?_
   clear F K
   try simp only [ac]
   refine aa.q 12 ⟨some 8,_,_,_,_,_⟩ ⟨(V.out _ I),(U.out _ I)⟩ ?_
   try simp only [ac]
   refine aa.done (by kernel_rfl) ?_ _
   refine NoPanic.normal ?_
   go_wp2_with fail
   go_meet
   exact ⟨_,rfl,hid ao⟩
 case rest =>
  obtain ⟨g12,rfl,H9⟩:=hcut
  obtain ⟨c0,c1,c2,c3⟩:=H9.out.cell g12 n (by simp)
  have cl:=H9.out.lt g12 n (by simp)
  have cm:=Nat.le_of_lt cl
  obtain ⟨z0,z1,z2,z3⟩:=H9.out.cell G 0 (by simp)
  have zl:=H9.out.lt G 0 (by simp)
  have zf:=H9.out.frozen G 0 (by simp)
  rcases z with _ | _
  ·obtain rfl:n=r:=(show r=n from aE.out).symm
   have HZ:=hid (H9.out.set G 0 n [] (by simp) (Nat.le_of_eq aC.out) (by simp))
   go_wp2
   clear z0 z1 z2 z3 zl zf c0 c1 c2 c3 cl cm
   try rw [Exit.noGoto_ret]
   change bodyPost _ _ _ _ _ (fil wc G n)
   generalize fil wc G n=wz at *
   obtain ⟨k0,k1,k2,k3⟩:=HZ.out.cell G n (by simp)
   exact bodyPost_ret (v:=af n) (by simp [results,Tryz.results22,go_sem,k0,k1,k2,k3]) rfl ⟨rfl,by first | exact aA.out _ HZ.out.1 | (rw [az]; exact aA.out _ HZ.out.1)⟩
  ·obtain rfl:r=1:=aE.out
   have HZ:=hid (H9.out.set G 0 1 [] (by simp) (Nat.le_of_eq aC.out) (by simp))
   go_wp2
   clear z0 z1 z2 z3 zl zf c0 c1 c2 c3 cl cm
   try rw [Exit.noGoto_ret]
   change bodyPost _ _ _ _ _ (fil wc G 1)
   generalize fil wc G 1=wz at *
   obtain ⟨k0,k1,k2,k3⟩:=HZ.out.cell G 1 (by simp)
   exact bodyPost_ret (v:=af 1) (by simp [results,Tryz.results22,go_sem,k0,k1,k2,k3]) rfl ⟨rfl,by first | exact aA.out _ HZ.out.1 | (rw [az]; exact aA.out _ HZ.out.1)⟩
theorem rdraw_any (p q g x d:Nat) (bs:List UInt8) (w:World) (z:q<2 ^ 256) (G:1<q) (f:x<2 ^ 256) (D:bs.length=32) (E:drw q x bs=d) :
  Calls Tryz.prog 22 #[gv p q g,af x,.agg (au bs).toArray] w fun e w'=>e=.returned (af d)∧Below w.heap.size w w':=by
 subst E
 unfold drw
 have F:=nop_lt ⟨#[100,114,97,119]⟩ [be x 32] bs q (by omega)
 split
 ·next h0=>exact rdraw_x p q g x _ 1 true bs w z f D rfl (fun w=>by rw [h0]; exact eq_none_yes w) rfl
 ·next h0=>exact rdraw_x p q g x _ _ false bs w z f D rfl (eq_none _ (by omega) h0) rfl
theorem rsign_none (p q g x:Nat) (bs:List UInt8) (w:World) (hp:p<2 ^ 256) (hq:q<2 ^ 256) (hg:g<2 ^ 256) (hx:x<2 ^ 256) (bS:bs.length=32) (hv:¬ Sec p q g x):Calls Tryz.prog 7 #[gv p q g,af x,.agg (au bs).toArray] w fun e w'=>e=.returned (.tuple #[sgv 0 0,.int .i64 1])∧Below w.heap.size w w':=by
 have VV:=hid hv
 have PL:=hid hp
 have QL:=hid hq
 have GL:=hid hg
 have XL:=hid hx
 clear hv hp hq hg hx
 obtain ⟨Y,V,E,R,f2⟩:=boxes3 w (aY p q g) (ai x) ((au bs).toArray) 26 24 28 _ rfl
 have aA:Hid (∀ u,Below (((w.alloc (.cells (aY p q g) 26)).alloc (.cells (ai x) 24)).alloc (.cells ((au bs).toArray) 28)).heap.size (((w.alloc (.cells (aY p q g) 26)).alloc (.cells (ai x) 24)).alloc (.cells ((au bs).toArray) 28)) u→Below w.heap.size w u):=hid (fun u hu=>Y.trans (hu.mono Y.size))
 go_enter Tryz.func7,Tryz.ntmps7
 go_upto_region 1 with fail
 generalize ((w.alloc (.cells (aY p q g) 26)).alloc (.cells (ai x) 24)).alloc (.cells ((au bs).toArray) 28)=F at *
 have f:=(Below.refl F.heap.size F).alloc (Nat.le_refl _) (.cells #[.int .u64 0,.int .u64 0,.int .u64 0,.int .u64 0,.int .u64 0,.int .u64 0,.int .u64 0,.int .u64 0] 30)
 have U:=heap_alloc_new F (.cells #[.int .u64 0,.int .u64 0,.int .u64 0,.int .u64 0,.int .u64 0,.int .u64 0,.int .u64 0,.int .u64 0] 30)
 rw [V] at U
 have D:=hid f
 have Z:Hid (F.heap.size=w.heap.size+1+1+1):=hid V
 have FG:=hid ((ldG p q g 0 E (ak _)).on f)
 have ar:=hid ((aP p 0 E (ag p _ 0 rfl rfl rfl rfl)).on f)
 have aB:=hid ((aP q 4 E (ag q _ 4 rfl rfl rfl rfl)).on f)
 have dO:=hid ((aP g 8 E (ag g _ 8 rfl rfl rfl rfl)).on f)
 have Fbp:=hid ((av E).on f)
 have bu:=hid ((aP x 0 R (ak _)).on f)
 have Fba:=hid ((av R).on f)
 have Fs:=hid ((ldS bs bS 0 f2 (fun j v h=>by rw [Nat.zero_add]; simpa using h)).on f)
 have I:=hid (av U)
 clear U
 generalize F.alloc (.cells #[.int .u64 0,.int .u64 0,.int .u64 0,.int .u64 0,.int .u64 0,.int .u64 0,.int .u64 0,.int .u64 0] 30)=w0 at *
 clear Y V f E R f2
 generalize w.heap.size+1+1+1=z at *
 generalize w.heap.size+1+1=an at *
 generalize w.heap.size+1=O at *
 generalize L:w.heap.size=M at *
 clear bS
 have l1:=FG.out.here
 have l2:=bu.out.here
 go_wp2_with (first | (refine am (by rfl) 26 _ rfl (.pointer (some ⟨M,0,none⟩)) (by rfl) _ l1 ?_) | (refine am (by rfl) 24 _ rfl (.pointer (some ⟨O,0,none⟩)) (by rfl) _ l2 ?_))
 clear l1 l2
 refine (rkey_none p q g x _ PL.out QL.out GL.out XL.out VV.out).mono ?_
 rintro e w1 ⟨rfl,hb⟩
 have D:=hid (D.out.trans (hb.mono D.out.size))
 have I:=hid (I.out.on hb)
 clear hb
 go_upto_region 2 with fail
 have hb:=(Below.refl w1.heap.size w1).alloc (Nat.le_refl _) (.cells (ai 0) 24)
 have K:=heap_alloc_new w1 (.cells (ai 0) 24)
 have D:=hid (D.out.trans (hb.mono D.out.size))
 have I:=hid (I.out.on hb)
 have ap:=hid (aP 0 0 K (ak _))
 have FbN8:=hid (av K)
 clear hb K
 generalize w1.alloc (.cells (ai 0) 24)=w2 at *
 generalize w1.heap.size=ao at *
 have J:=I.out.here
 have HZ:=hid (setRow_heap w2 z _ (#[.int .u64 0,.int .u64 0,.int .u64 0,.int .u64 0,.int .u64 0,.int .u64 0,.int .u64 0,.int .u64 0]) 30 _ J)
 have G:=hid (below_setRow D.out (Nat.le_of_eq Z.out) (#[.int .u64 0,.int .u64 0,.int .u64 0,.int .u64 0,.int .u64 0,.int .u64 0,.int .u64 0,.int .u64 0]))
 have ad:Hid ((Tryz.prog.info? 30).map (·.size)=some (#[.int .u64 0,.int .u64 0,.int .u64 0,.int .u64 0,.int .u64 0,.int .u64 0,.int .u64 0,.int .u64 0]:Array Value).size):=hid (by kernel_rfl)
 have ab:Hid ((#[.int .u64 0,.int .u64 0,.int .u64 0,.int .u64 0,.int .u64 0,.int .u64 0,.int .u64 0,.int .u64 0]:Array Value).size=(#[.int .u64 0,.int .u64 0,.int .u64 0,.int .u64 0,.int .u64 0,.int .u64 0,.int .u64 0,.int .u64 0]:Array Value).size):=hid rfl
 have al:Hid ((#[.int .u64 0,.int .u64 0,.int .u64 0,.int .u64 0,.int .u64 0,.int .u64 0,.int .u64 0,.int .u64 0]:Array Value).all (·.oneCell')=true):=hid (by simp [Value.oneCell'])
 go_wp2_with (first | (refine wpList_store_row rfl 30 (.tmp 6) (.tmp 26) rfl z (#[.int .u64 0,.int .u64 0,.int .u64 0,.int .u64 0,.int .u64 0,.int .u64 0,.int .u64 0,.int .u64 0]) rfl rfl 30 _ J ad.out ab.out al.out ?_))
 clear J
 try rw [Exit.noGoto_ret]
 change bodyPost _ _ _ _ _ (w2.setRow z (#[.int .u64 0,.int .u64 0,.int .u64 0,.int .u64 0,.int .u64 0,.int .u64 0,.int .u64 0,.int .u64 0]))
 generalize w2.setRow z (#[.int .u64 0,.int .u64 0,.int .u64 0,.int .u64 0,.int .u64 0,.int .u64 0,.int .u64 0,.int .u64 0])=wz at *
 obtain ⟨k0,k1,k2,k3,k4,k5,k6,k7⟩:=sg_zeros HZ.out
 exact bodyPost_ret (v:=.tuple #[.agg (#[.int .u64 0,.int .u64 0,.int .u64 0,.int .u64 0,.int .u64 0,.int .u64 0,.int .u64 0,.int .u64 0]),.int .i64 1]) (by simp [results,Tryz.results7,go_sem,k0,k1,k2,k3,k4,k5,k6,k7]) rfl ⟨rfl,by first | exact aA.out _ G.out | (rw [L]; exact aA.out _ G.out)⟩
theorem rsign_ok (p q g x c t:Nat) (bs:List UInt8) (w:World) (hp:p<2 ^ 256) (hq:q<2 ^ 256) (hg:g<2 ^ 256) (hx:x<2 ^ 256) (bS:bs.length=32) (hv:Sec p q g x) (hc:sigC p q g x bs=c) (ht:sigS p q g x bs=t):Calls Tryz.prog 7 #[gv p q g,af x,.agg (au bs).toArray] w fun e w'=>e=.returned (.tuple #[sgv c t,.int .i64 0])∧Below w.heap.size w w':=by
 obtain ⟨v1,v2,v3,v4,v5,v6⟩:=hv
 have aG:1<p:=by omega
 have aE:q≠0:=by omega
 obtain ⟨k,ek⟩:∃ k,g ^ x % p=k:=⟨_,rfl⟩
 obtain ⟨d,ed⟩:∃ d,drw q x bs=d:=⟨_,rfl⟩
 obtain ⟨r,er⟩:∃ r,g ^ d % p=r:=⟨_,rfl⟩
 obtain ⟨m,em⟩:∃ m,x * c % q=m:=⟨_,rfl⟩
 have lc:c<q:=hc ▸ sigC_lt p q g x bs aE
 have ld:d<q:=ed ▸ drw_lt q x bs v3
 have lm:m<q:=em ▸ Nat.mod_lt _ (by omega)
 unfold sigS at ht
 rw [hc,ed,em] at ht
 unfold sigC at hc
 rw [ek,ed,er] at hc
 unfold chl at hc
 have lk:k<2 ^ 256:=Nat.lt_trans (ek ▸ Nat.mod_lt _ (by omega)) hp
 have lr:r<2 ^ 256:=Nat.lt_trans (er ▸ Nat.mod_lt _ (by omega)) hp
 have VV:=hid (show (1<q∧g≠1∧(0<g∧g<p)∧g ^ q % p=1)∧x≠0∧x<q from ⟨⟨v3,v4,v5,v6⟩,v1,v2⟩)
 have VG:=hid v5
 have bd:=hid (fun w=>rmexp_some g d p r w hg (by omega) hp ⟨aG,v5.2⟩ er)
 have HM:=hid (fun w=>rmmul_some x c q m w hx (by omega) hq ⟨v3,v2,lc⟩ em)
 have HA:=hid (fun w=>rmadd_some d m q t w (by omega) (by omega) hq ⟨v3,ld,lm⟩ ht)
 have PL:=hid hp
 have QL:=hid hq
 have GL:=hid hg
 have XL:=hid hx
 have BL:=hid bS
 have EK:=hid ek
 have ED:=hid ed
 have EC:=hid hc
 have LK:=hid lk
 have LR:=hid lr
 have Q1:=hid v3
 clear v1 v2 v3 v4 v5 v6 aG aE ek ed er em hc ht lc ld lm lk lr hp hq hg hx
 obtain ⟨bA,bI,f0,f1,f2⟩:=boxes3 w (aY p q g) (ai x) ((au bs).toArray) 26 24 28 _ rfl
 have aA:Hid (∀ u,Below (((w.alloc (.cells (aY p q g) 26)).alloc (.cells (ai x) 24)).alloc (.cells ((au bs).toArray) 28)).heap.size (((w.alloc (.cells (aY p q g) 26)).alloc (.cells (ai x) 24)).alloc (.cells ((au bs).toArray) 28)) u→Below w.heap.size w u):=hid (fun u hu=>bA.trans (hu.mono bA.size))
 go_enter Tryz.func7,Tryz.ntmps7
 go_upto_region 1 with fail
 generalize ((w.alloc (.cells (aY p q g) 26)).alloc (.cells (ai x) 24)).alloc (.cells ((au bs).toArray) 28)=W0 at *
 have I:=(Below.refl W0.heap.size W0).alloc (Nat.le_refl _) (.cells #[.int .u64 0,.int .u64 0,.int .u64 0,.int .u64 0,.int .u64 0,.int .u64 0,.int .u64 0,.int .u64 0] 30)
 have dG:=heap_alloc_new W0 (.cells #[.int .u64 0,.int .u64 0,.int .u64 0,.int .u64 0,.int .u64 0,.int .u64 0,.int .u64 0,.int .u64 0] 30)
 rw [bI] at dG
 have z:=hid I
 have aU:Hid (W0.heap.size=w.heap.size+1+1+1):=hid bI
 have L:=hid ((ldG p q g 0 f0 (ak _)).on I)
 have bk:=hid ((aP p 0 f0 (ag p _ 0 rfl rfl rfl rfl)).on I)
 have G:=hid ((aP q 4 f0 (ag q _ 4 rfl rfl rfl rfl)).on I)
 have U:=hid ((aP g 8 f0 (ag g _ 8 rfl rfl rfl rfl)).on I)
 have Fbp:=hid ((av f0).on I)
 have J:=hid ((aP x 0 f1 (ak _)).on I)
 have Fba:=hid ((av f1).on I)
 have O:=hid ((ldS bs bS 0 f2 (fun j v h=>by rw [Nat.zero_add]; simpa using h)).on I)
 have E:=hid (av dG)
 clear dG
 generalize W0.alloc (.cells #[.int .u64 0,.int .u64 0,.int .u64 0,.int .u64 0,.int .u64 0,.int .u64 0,.int .u64 0,.int .u64 0] 30)=w0 at *
 clear bA bI I f0 f1 f2
 generalize w.heap.size+1+1+1=R at *
 generalize w.heap.size+1+1=aI at *
 generalize w.heap.size+1=Z at *
 generalize aS:w.heap.size=M at *
 clear bS
 have l1:=L.out.here
 have l2:=J.out.here
 go_wp2_with (first | (refine am (by rfl) 26 _ rfl (.pointer (some ⟨M,0,none⟩)) (by rfl) _ l1 ?_) | (refine am (by rfl) 24 _ rfl (.pointer (some ⟨Z,0,none⟩)) (by rfl) _ l2 ?_))
 clear l1 l2
 refine (rkey_ok p q g x k _ PL.out QL.out GL.out XL.out VV.out EK.out).mono ?_
 rintro e w1 ⟨rfl,hb⟩
 have z:=hid (z.out.trans (hb.mono z.out.size))
 have L:=hid (L.out.on hb)
 have G:=hid (G.out.on hb)
 have U:=hid (U.out.on hb)
 have J:=hid (J.out.on hb)
 have O:=hid (O.out.on hb)
 have E:=hid (E.out.on hb)
 clear hb
 go_upto_region 2 with fail
 have hb:=(Below.refl w1.heap.size w1).alloc (Nat.le_refl _) (.cells (ai k) 24)
 have F:=heap_alloc_new w1 (.cells (ai k) 24)
 have z:=hid (z.out.trans (hb.mono z.out.size))
 have L:=hid (L.out.on hb)
 have G:=hid (G.out.on hb)
 have U:=hid (U.out.on hb)
 have J:=hid (J.out.on hb)
 have O:=hid (O.out.on hb)
 have E:=hid (E.out.on hb)
 have K:=hid (aP k 0 F (ak _))
 have FbN8:=hid (av F)
 clear hb F
 generalize w1.alloc (.cells (ai k) 24)=w2 at *
 generalize w1.heap.size=aT at *
 have l3:=L.out.here
 have l4:=J.out.here
 have l5:=O.out.here
 go_wp2_with (first | (refine am (by rfl) 26 _ rfl (.pointer (some ⟨M,0,none⟩)) (by rfl) _ l3 ?_) | (refine am (by rfl) 24 _ rfl (.pointer (some ⟨Z,0,none⟩)) (by rfl) _ l4 ?_) | (refine am (by rfl) 28 _ rfl (.pointer (some ⟨aI,0,none⟩)) (by rfl) _ l5 ?_))
 clear l3 l4 l5
 refine (rdraw_any p q g x d bs _ QL.out Q1.out XL.out BL.out ED.out).mono ?_
 rintro e w3 ⟨rfl,hb⟩
 have z:=hid (z.out.trans (hb.mono z.out.size))
 have L:=hid (L.out.on hb)
 have G:=hid (G.out.on hb)
 have U:=hid (U.out.on hb)
 have J:=hid (J.out.on hb)
 have O:=hid (O.out.on hb)
 have K:=hid (K.out.on hb)
 have E:=hid (E.out.on hb)
 clear hb
 go_upto_region 5 with fail
 have hb:=(Below.refl w3.heap.size w3).alloc (Nat.le_refl _) (.cells (ai d) 24)
 have F:=heap_alloc_new w3 (.cells (ai d) 24)
 have z:=hid (z.out.trans (hb.mono z.out.size))
 have L:=hid (L.out.on hb)
 have G:=hid (G.out.on hb)
 have U:=hid (U.out.on hb)
 have J:=hid (J.out.on hb)
 have O:=hid (O.out.on hb)
 have K:=hid (K.out.on hb)
 have E:=hid (E.out.on hb)
 have f:=hid (aP d 0 F (ak _))
 have FbN10:=hid (av F)
 clear hb F
 generalize w3.alloc (.cells (ai d) 24)=w4 at *
 generalize w3.heap.size=Y at *
 have l6:=L.out.here
 have l7:=U.out.here
 have l8:=f.out.here
 go_wp2_with (first | (refine am (by rfl) 26 _ rfl (.pointer (some ⟨M,0,none⟩)) (by rfl) _ l6 ?_) | (refine am (by rfl) 24 _ rfl (.pointer (some ⟨M,8,none⟩)) (by rfl) _ l7 ?_) | (refine am (by rfl) 24 _ rfl (.pointer (some ⟨Y,0,none⟩)) (by rfl) _ l8 ?_))
 clear l6 l7 l8
 refine (r6exp_ok p q g g d r 0 _ PL.out GL.out VG.out bd.out).mono ?_
 rintro e w5 ⟨rfl,hb⟩
 have z:=hid (z.out.trans (hb.mono z.out.size))
 have L:=hid (L.out.on hb)
 have G:=hid (G.out.on hb)
 have J:=hid (J.out.on hb)
 have O:=hid (O.out.on hb)
 have K:=hid (K.out.on hb)
 have f:=hid (f.out.on hb)
 have E:=hid (E.out.on hb)
 clear hb
 go_upto_region 6 with fail
 have hb:=(Below.refl w5.heap.size w5).alloc (Nat.le_refl _) (.cells (ai r) 24)
 have F:=heap_alloc_new w5 (.cells (ai r) 24)
 have z:=hid (z.out.trans (hb.mono z.out.size))
 have L:=hid (L.out.on hb)
 have G:=hid (G.out.on hb)
 have J:=hid (J.out.on hb)
 have O:=hid (O.out.on hb)
 have K:=hid (K.out.on hb)
 have f:=hid (f.out.on hb)
 have E:=hid (E.out.on hb)
 have aR:=hid (aP r 0 F (ak _))
 have FbN11:=hid (av F)
 clear hb F
 generalize w5.alloc (.cells (ai r) 24)=w6 at *
 generalize w5.heap.size=aL at *
 have l9:=L.out.here
 have aC:=K.out.here
 have az:=aR.out.here
 have ay:=O.out.here
 go_wp2_with (first | (refine am (by rfl) 26 _ rfl (.pointer (some ⟨M,0,none⟩)) (by rfl) _ l9 ?_) | (refine am (by rfl) 24 _ rfl (.pointer (some ⟨aT,0,none⟩)) (by rfl) _ aC ?_) | (refine am (by rfl) 24 _ rfl (.pointer (some ⟨aL,0,none⟩)) (by rfl) _ az ?_) | (refine am (by rfl) 28 _ rfl (.pointer (some ⟨aI,0,none⟩)) (by rfl) _ ay ?_))
 clear l9 aC az ay
 refine (rchal_any p q g k r bs c _ QL.out LK.out LR.out BL.out EC.out).mono ?_
 rintro e w7 ⟨rfl,hb⟩
 have z:=hid (z.out.trans (hb.mono z.out.size))
 have G:=hid (G.out.on hb)
 have J:=hid (J.out.on hb)
 have f:=hid (f.out.on hb)
 have E:=hid (E.out.on hb)
 clear hb
 go_upto_region 7 with fail
 have hb:=(Below.refl w7.heap.size w7).alloc (Nat.le_refl _) (.cells (ai c) 24)
 have F:=heap_alloc_new w7 (.cells (ai c) 24)
 have z:=hid (z.out.trans (hb.mono z.out.size))
 have G:=hid (G.out.on hb)
 have J:=hid (J.out.on hb)
 have f:=hid (f.out.on hb)
 have E:=hid (E.out.on hb)
 have D:=hid (aP c 0 F (ak _))
 have FbN13:=hid (av F)
 clear hb F
 generalize w7.alloc (.cells (ai c) 24)=w8 at *
 generalize w7.heap.size=V at *
 have ax:=J.out.here
 have ar:=D.out.here
 have ap:=G.out.here
 go_wp2_with (first | (refine am (by rfl) 24 _ rfl (.pointer (some ⟨Z,0,none⟩)) (by rfl) _ ax ?_) | (refine am (by rfl) 24 _ rfl (.pointer (some ⟨V,0,none⟩)) (by rfl) _ ar ?_) | (refine am (by rfl) 24 _ rfl (.pointer (some ⟨M,4,none⟩)) (by rfl) _ ap ?_))
 clear ax ar ap
 refine (HM.out _).mono ?_
 rintro e w9 ⟨rfl,hb⟩
 have z:=hid (z.out.trans (hb.mono z.out.size))
 have G:=hid (G.out.on hb)
 have f:=hid (f.out.on hb)
 have D:=hid (D.out.on hb)
 have E:=hid (E.out.on hb)
 clear hb
 go_upto_region 8 with fail
 have hb:=(Below.refl w9.heap.size w9).alloc (Nat.le_refl _) (.cells (ai m) 24)
 have F:=heap_alloc_new w9 (.cells (ai m) 24)
 have z:=hid (z.out.trans (hb.mono z.out.size))
 have G:=hid (G.out.on hb)
 have f:=hid (f.out.on hb)
 have D:=hid (D.out.on hb)
 have E:=hid (E.out.on hb)
 have aQ:=hid (aP m 0 F (ak _))
 have FbN14:=hid (av F)
 clear hb F
 generalize w9.alloc (.cells (ai m) 24)=w10 at *
 generalize w9.heap.size=aK at *
 have ao:=f.out.here
 have an:=aQ.out.here
 have al:=G.out.here
 go_wp2_with (first | (refine am (by rfl) 24 _ rfl (.pointer (some ⟨Y,0,none⟩)) (by rfl) _ ao ?_) | (refine am (by rfl) 24 _ rfl (.pointer (some ⟨aK,0,none⟩)) (by rfl) _ an ?_) | (refine am (by rfl) 24 _ rfl (.pointer (some ⟨M,4,none⟩)) (by rfl) _ al ?_))
 clear ao an al
 refine (HA.out _).mono ?_
 rintro e w11 ⟨rfl,hb⟩
 have z:=hid (z.out.trans (hb.mono z.out.size))
 have D:=hid (D.out.on hb)
 have E:=hid (E.out.on hb)
 clear hb
 go_upto_region 9 with fail
 have hb:=(Below.refl w11.heap.size w11).alloc (Nat.le_refl _) (.cells (ai t) 24)
 have F:=heap_alloc_new w11 (.cells (ai t) 24)
 have z:=hid (z.out.trans (hb.mono z.out.size))
 have D:=hid (D.out.on hb)
 have E:=hid (E.out.on hb)
 have aN:=hid (aP t 0 F (ak _))
 have FbN16:=hid (av F)
 clear hb F
 generalize w11.alloc (.cells (ai t) 24)=w12 at *
 generalize w11.heap.size=aJ at *
 have hz:=E.out.here
 have HZ:=hid (setRow_heap w12 R _ (dl c t) 30 _ hz)
 have aM:=hid (below_setRow z.out (Nat.le_of_eq aU.out) (dl c t))
 have ba:Hid ((Tryz.prog.info? 30).map (·.size)=some (dl c t:Array Value).size):=hid (by kernel_rfl)
 have aW:Hid ((#[.int .u64 0,.int .u64 0,.int .u64 0,.int .u64 0,.int .u64 0,.int .u64 0,.int .u64 0,.int .u64 0]:Array Value).size=(dl c t:Array Value).size):=hid rfl
 have bb:Hid ((dl c t:Array Value).all (·.oneCell')=true):=hid (by simp [Value.oneCell'])
 have ad:=D.out.here
 have ab:=aN.out.here
 go_wp2_with (first | (refine am (by rfl) 24 _ rfl (.pointer (some ⟨V,0,none⟩)) (by rfl) _ ad ?_) | (refine am (by rfl) 24 _ rfl (.pointer (some ⟨aJ,0,none⟩)) (by rfl) _ ab ?_) | (refine wpList_store_row rfl 30 (.tmp 6) (.tmp 63) rfl R (dl c t) rfl rfl 30 _ hz ba.out aW.out bb.out ?_))
 clear hz ad ab
 try rw [Exit.noGoto_ret]
 change bodyPost _ _ _ _ _ (w12.setRow R (dl c t))
 generalize w12.setRow R (dl c t)=wz at *
 obtain ⟨k0,k1,k2,k3,k4,k5,k6,k7⟩:=dE HZ.out
 exact bodyPost_ret (v:=.tuple #[.agg (dl c t),.int .i64 0]) (by simp [results,Tryz.results7,go_sem,k0,k1,k2,k3,k4,k5,k6,k7]) rfl ⟨rfl,by first | exact aA.out _ aM.out | (rw [aS]; exact aA.out _ aM.out)⟩
theorem rcheck_f (p q g k c s:Nat) (bs:List UInt8) (w:World) (Y:p<2 ^ 256) (V:q<2 ^ 256) (hg:g<2 ^ 256) (Z:k<2 ^ 256) (hc:c<2 ^ 256) (U:s<2 ^ 256) (bS:bs.length=32) (R:¬ (1<q∧g≠1∧(0<g∧g<p)∧g ^ q % p=1)):Calls Tryz.prog 9 #[gv p q g,af k,.agg (au bs).toArray,sgv c s] w fun e w'=>e=.returned (.bool false)∧Below w.heap.size w w':=by
 have M:=R
 have VF:Hid (decide (1<q∧g≠1∧(0<g∧g<p)∧g ^ q % p=1)=false):=hid (decide_eq_false M)
 clear R M
 have PL:=hid Y
 have QL:=hid V
 have GL:=hid hg
 have KL:=hid Z
 have CL:=hid hc
 have SL:=hid U
 clear Y V hg Z hc U
 obtain ⟨K,bI,D,J,f2,F⟩:=boxes4 w (aY p q g) (ai k) ((au bs).toArray) (dl c s) 26 24 28 30 _ rfl
 have G:Hid (∀ u,Below ((((w.alloc (.cells (aY p q g) 26)).alloc (.cells (ai k) 24)).alloc (.cells ((au bs).toArray) 28)).alloc (.cells (dl c s) 30)).heap.size ((((w.alloc (.cells (aY p q g) 26)).alloc (.cells (ai k) 24)).alloc (.cells ((au bs).toArray) 28)).alloc (.cells (dl c s) 30)) u→Below w.heap.size w u):=hid (fun u hu=>K.trans (hu.mono K.size))
 go_enter Tryz.func9,Tryz.ntmps9
 go_upto_region 1 with fail
 generalize (((w.alloc (.cells (aY p q g) 26)).alloc (.cells (ai k) 24)).alloc (.cells ((au bs).toArray) 28)).alloc (.cells (dl c s) 30)=L at *
 have f:=Below.refl L.heap.size L
 have z:=hid f
 have an:Hid (L.heap.size=w.heap.size+1+1+1+1):=hid bI
 have FG:=hid ((ldG p q g 0 D (ak _)).on f)
 have ap:=hid ((aP p 0 D (ag p _ 0 rfl rfl rfl rfl)).on f)
 have aB:=hid ((aP q 4 D (ag q _ 4 rfl rfl rfl rfl)).on f)
 have dO:=hid ((aP g 8 D (ag g _ 8 rfl rfl rfl rfl)).on f)
 have Fbp:=hid ((av D).on f)
 have aG:=hid ((aP k 0 J (ak _)).on f)
 have Fba:=hid ((av J).on f)
 have Fs:=hid ((ldS bs bS 0 f2 (fun j v h=>by rw [Nat.zero_add]; simpa using h)).on f)
 have FX:=hid ((ldX c s 0 F (ak _)).on f)
 have ct:=hid ((aP c 0 F (ag c _ 0 rfl rfl rfl rfl)).on f)
 have ao:=hid ((aP s 4 F (ag s _ 4 rfl rfl rfl rfl)).on f)
 have Fbx:=hid ((av F).on f)
 clear K bI f D J f2 F
 generalize w.heap.size+1+1+1=ab at *
 generalize w.heap.size+1+1=ad at *
 generalize w.heap.size+1=al at *
 generalize E:w.heap.size=I at *
 clear bS
 have O:=FG.out.here
 go_wp2_with (first | (refine am (by rfl) 26 _ rfl (.pointer (some ⟨I,0,none⟩)) (by rfl) _ O ?_))
 clear O
 refine (dg p q g false _ PL.out QL.out GL.out VF.out).mono ?_
 rintro e w1 ⟨rfl,hb⟩
 have z:=hid (z.out.trans (hb.mono z.out.size))
 clear hb
 go_wp2_with fail
 try go_ret
 try rw [Exit.noGoto_ret]
 first | exact ⟨rfl,by first | exact G.out _ z.out | (rw [E]; exact G.out _ z.out)⟩ | exact bodyPost_ret (v:=.bool (false)) (by simp [results,Tryz.results9,go_sem]) rfl ⟨rfl,by first | exact G.out _ z.out | (rw [E]; exact G.out _ z.out)⟩
theorem rcheck_i (p q g k c s:Nat) (bs:List UInt8) (w:World) (hp:p<2 ^ 256) (hq:q<2 ^ 256) (hg:g<2 ^ 256) (hk:k<2 ^ 256) (hc:c<2 ^ 256) (hs:s<2 ^ 256) (bS:bs.length=32) (hv:(1<q∧g≠1∧(0<g∧g<p)∧g ^ q % p=1)∧¬ ((0<k∧k<p)∧k ^ q % p=1)):Calls Tryz.prog 9 #[gv p q g,af k,.agg (au bs).toArray,sgv c s] w fun e w'=>e=.returned (.bool false)∧Below w.heap.size w w':=by
 obtain ⟨V,U⟩:=hv
 have VF:Hid (decide (1<q∧g≠1∧(0<g∧g<p)∧g ^ q % p=1)=true):=hid (decide_eq_true V)
 have VI:Hid (decide ((0<k∧k<p)∧k ^ q % p=1)=false):=hid (decide_eq_false U)
 clear V U
 have PL:=hid hp
 have QL:=hid hq
 have GL:=hid hg
 have KL:=hid hk
 have CL:=hid hc
 have SL:=hid hs
 clear hp hq hg hk hc hs
 obtain ⟨M,bI,D,L,f2,G⟩:=boxes4 w (aY p q g) (ai k) ((au bs).toArray) (dl c s) 26 24 28 30 _ rfl
 have I:Hid (∀ u,Below ((((w.alloc (.cells (aY p q g) 26)).alloc (.cells (ai k) 24)).alloc (.cells ((au bs).toArray) 28)).alloc (.cells (dl c s) 30)).heap.size ((((w.alloc (.cells (aY p q g) 26)).alloc (.cells (ai k) 24)).alloc (.cells ((au bs).toArray) 28)).alloc (.cells (dl c s) 30)) u→Below w.heap.size w u):=hid (fun u hu=>M.trans (hu.mono M.size))
 go_enter Tryz.func9,Tryz.ntmps9
 go_upto_region 1 with fail
 generalize (((w.alloc (.cells (aY p q g) 26)).alloc (.cells (ai k) 24)).alloc (.cells ((au bs).toArray) 28)).alloc (.cells (dl c s) 30)=R at *
 have f:=Below.refl R.heap.size R
 have z:=hid f
 have al:Hid (R.heap.size=w.heap.size+1+1+1+1):=hid bI
 have J:=hid ((ldG p q g 0 D (ak _)).on f)
 have ao:=hid ((aP p 0 D (ag p _ 0 rfl rfl rfl rfl)).on f)
 have aB:=hid ((aP q 4 D (ag q _ 4 rfl rfl rfl rfl)).on f)
 have dO:=hid ((aP g 8 D (ag g _ 8 rfl rfl rfl rfl)).on f)
 have Fbp:=hid ((av D).on f)
 have O:=hid ((aP k 0 L (ak _)).on f)
 have Fba:=hid ((av L).on f)
 have Fs:=hid ((ldS bs bS 0 f2 (fun j v h=>by rw [Nat.zero_add]; simpa using h)).on f)
 have FX:=hid ((ldX c s 0 G (ak _)).on f)
 have ct:=hid ((aP c 0 G (ag c _ 0 rfl rfl rfl rfl)).on f)
 have an:=hid ((aP s 4 G (ag s _ 4 rfl rfl rfl rfl)).on f)
 have Fbx:=hid ((av G).on f)
 clear M bI f D L f2 G
 generalize w.heap.size+1+1+1=ab at *
 generalize w.heap.size+1+1=ad at *
 generalize w.heap.size+1=K at *
 generalize E:w.heap.size=F at *
 clear bS
 have l1:=J.out.here
 go_wp2_with (first | (refine am (by rfl) 26 _ rfl (.pointer (some ⟨F,0,none⟩)) (by rfl) _ l1 ?_))
 clear l1
 refine (dg p q g true _ PL.out QL.out GL.out VF.out).mono ?_
 rintro e w1 ⟨rfl,hb⟩
 have z:=hid (z.out.trans (hb.mono z.out.size))
 have J:=hid (J.out.on hb)
 have O:=hid (O.out.on hb)
 clear hb
 have Z:=J.out.here
 have Y:=O.out.here
 go_wp2_with (first | (refine am (by rfl) 26 _ rfl (.pointer (some ⟨F,0,none⟩)) (by rfl) _ Z ?_) | (refine am (by rfl) 24 _ rfl (.pointer (some ⟨K,0,none⟩)) (by rfl) _ Y ?_))
 clear Z Y
 refine (r6in_any p q g k false _ PL.out QL.out KL.out VI.out).mono ?_
 rintro e w2 ⟨rfl,hb⟩
 have z:=hid (z.out.trans (hb.mono z.out.size))
 clear hb
 go_wp2_with fail
 try go_ret
 try rw [Exit.noGoto_ret]
 first | exact ⟨rfl,by first | exact I.out _ z.out | (rw [E]; exact I.out _ z.out)⟩ | exact bodyPost_ret (v:=.bool (false)) (by simp [results,Tryz.results9,go_sem]) rfl ⟨rfl,by first | exact I.out _ z.out | (rw [E]; exact I.out _ z.out)⟩
theorem rcheck_o (p q g k c s:Nat) (bs:List UInt8) (w:World) (hp:p<2 ^ 256) (hq:q<2 ^ 256) (hg:g<2 ^ 256) (hk:k<2 ^ 256) (hc:c<2 ^ 256) (hs:s<2 ^ 256) (bS:bs.length=32) (hv:(1<q∧g≠1∧(0<g∧g<p)∧g ^ q % p=1)∧((0<k∧k<p)∧k ^ q % p=1)∧k=1):Calls Tryz.prog 9 #[gv p q g,af k,.agg (au bs).toArray,sgv c s] w fun e w'=>e=.returned (.bool false)∧Below w.heap.size w w':=by
 obtain ⟨Y,V,U⟩:=hv
 have VF:Hid (decide (1<q∧g≠1∧(0<g∧g<p)∧g ^ q % p=1)=true):=hid (decide_eq_true Y)
 have VI:Hid (decide ((0<k∧k<p)∧k ^ q % p=1)=true):=hid (decide_eq_true V)
 have q1:∀ w,(Op.equalIn 10000 24 (af k) (.agg #[.int .u64 1,.int .u64 0,.int .u64 0,.int .u64 0])).run Tryz.prog w=.ok true w:=by rw [num_one]; exact eq_yes k 1 U
 clear Y V U
 have PL:=hid hp
 have QL:=hid hq
 have GL:=hid hg
 have KL:=hid hk
 have CL:=hid hc
 have SL:=hid hs
 clear hp hq hg hk hc hs
 obtain ⟨O,bI,D,M,f2,J⟩:=boxes4 w (aY p q g) (ai k) ((au bs).toArray) (dl c s) 26 24 28 30 _ rfl
 have K:Hid (∀ u,Below ((((w.alloc (.cells (aY p q g) 26)).alloc (.cells (ai k) 24)).alloc (.cells ((au bs).toArray) 28)).alloc (.cells (dl c s) 30)).heap.size ((((w.alloc (.cells (aY p q g) 26)).alloc (.cells (ai k) 24)).alloc (.cells ((au bs).toArray) 28)).alloc (.cells (dl c s) 30)) u→Below w.heap.size w u):=hid (fun u hu=>O.trans (hu.mono O.size))
 go_enter Tryz.func9,Tryz.ntmps9
 go_upto_region 1 with fail
 generalize (((w.alloc (.cells (aY p q g) 26)).alloc (.cells (ai k) 24)).alloc (.cells ((au bs).toArray) 28)).alloc (.cells (dl c s) 30)=R at *
 have f:=Below.refl R.heap.size R
 have z:=hid f
 have al:Hid (R.heap.size=w.heap.size+1+1+1+1):=hid bI
 have L:=hid ((ldG p q g 0 D (ak _)).on f)
 have ao:=hid ((aP p 0 D (ag p _ 0 rfl rfl rfl rfl)).on f)
 have aB:=hid ((aP q 4 D (ag q _ 4 rfl rfl rfl rfl)).on f)
 have dO:=hid ((aP g 8 D (ag g _ 8 rfl rfl rfl rfl)).on f)
 have Fbp:=hid ((av D).on f)
 have E:=hid ((aP k 0 M (ak _)).on f)
 have Fba:=hid ((av M).on f)
 have Fs:=hid ((ldS bs bS 0 f2 (fun j v h=>by rw [Nat.zero_add]; simpa using h)).on f)
 have FX:=hid ((ldX c s 0 J (ak _)).on f)
 have ct:=hid ((aP c 0 J (ag c _ 0 rfl rfl rfl rfl)).on f)
 have an:=hid ((aP s 4 J (ag s _ 4 rfl rfl rfl rfl)).on f)
 have Fbx:=hid ((av J).on f)
 clear O bI f D M f2 J
 generalize w.heap.size+1+1+1=ab at *
 generalize w.heap.size+1+1=ad at *
 generalize w.heap.size+1=I at *
 generalize F:w.heap.size=G at *
 clear bS
 have l1:=L.out.here
 go_wp2_with (first | (refine am (by rfl) 26 _ rfl (.pointer (some ⟨G,0,none⟩)) (by rfl) _ l1 ?_))
 clear l1
 refine (dg p q g true _ PL.out QL.out GL.out VF.out).mono ?_
 rintro e w1 ⟨rfl,hb⟩
 have z:=hid (z.out.trans (hb.mono z.out.size))
 have L:=hid (L.out.on hb)
 have E:=hid (E.out.on hb)
 clear hb
 have l2:=L.out.here
 have l3:=E.out.here
 go_wp2_with (first | (refine am (by rfl) 26 _ rfl (.pointer (some ⟨G,0,none⟩)) (by rfl) _ l2 ?_) | (refine am (by rfl) 24 _ rfl (.pointer (some ⟨I,0,none⟩)) (by rfl) _ l3 ?_))
 clear l2 l3
 refine (r6in_any p q g k true _ PL.out QL.out KL.out VI.out).mono ?_
 rintro e w2 ⟨rfl,hb⟩
 have z:=hid (z.out.trans (hb.mono z.out.size))
 have E:=hid (E.out.on hb)
 clear hb
 have Z:=E.out.here
 go_wp2_with (first | (refine am (by rfl) 24 _ rfl (.pointer (some ⟨I,0,none⟩)) (by rfl) _ Z ?_))
 clear Z
 try go_ret
 try rw [Exit.noGoto_ret]
 first | exact ⟨rfl,by first | exact K.out _ z.out | (rw [F]; exact K.out _ z.out)⟩ | exact bodyPost_ret (v:=.bool (false)) (by simp [results,Tryz.results9,go_sem]) rfl ⟨rfl,by first | exact K.out _ z.out | (rw [F]; exact K.out _ z.out)⟩
theorem rcheck_c (p q g k c s:Nat) (bs:List UInt8) (w:World) (hp:p<2 ^ 256) (hq:q<2 ^ 256) (hg:g<2 ^ 256) (Y:k<2 ^ 256) (hc:c<2 ^ 256) (hs:s<2 ^ 256) (bS:bs.length=32) (hv:(1<q∧g≠1∧(0<g∧g<p)∧g ^ q % p=1)∧((0<k∧k<p)∧k ^ q % p=1)∧k≠1∧¬ c<q):Calls Tryz.prog 9 #[gv p q g,af k,.agg (au bs).toArray,sgv c s] w fun e w'=>e=.returned (.bool false)∧Below w.heap.size w w':=by
 obtain ⟨v0,v1,v2,v3⟩:=hv
 have VF:Hid (decide (1<q∧g≠1∧(0<g∧g<p)∧g ^ q % p=1)=true):=hid (decide_eq_true v0)
 have VI:Hid (decide ((0<k∧k<p)∧k ^ q % p=1)=true):=hid (decide_eq_true v1)
 have q1:∀ w,(Op.equalIn 10000 24 (af k) (.agg #[.int .u64 1,.int .u64 0,.int .u64 0,.int .u64 0])).run Tryz.prog w=.ok false w:=by rw [num_one]; exact eq_no k 1 Y (by decide) v2
 obtain ⟨I,F⟩:∃ z,aD c q=z:=⟨_,rfl⟩
 have al:¬ I<0:=by rw [← F]; unfold aD; split <;> (try split) <;> omega
 have ad:I≥0:=by omega
 have ab:0≤I:=ad
 have ar:decide (0≤I)=true:=decide_eq_true ab
 have ap:decide (I<0)=false:=decide_eq_false al
 have an:=hid F
 clear F
 clear v0 v1 v2 v3
 have PL:=hid hp
 have QL:=hid hq
 have GL:=hid hg
 have KL:=hid Y
 have CL:=hid hc
 have SL:=hid hs
 clear hp hq hg Y hc hs
 obtain ⟨bA,bI,G,f1,f2,M⟩:=boxes4 w (aY p q g) (ai k) ((au bs).toArray) (dl c s) 26 24 28 30 _ rfl
 have U:Hid (∀ u,Below ((((w.alloc (.cells (aY p q g) 26)).alloc (.cells (ai k) 24)).alloc (.cells ((au bs).toArray) 28)).alloc (.cells (dl c s) 30)).heap.size ((((w.alloc (.cells (aY p q g) 26)).alloc (.cells (ai k) 24)).alloc (.cells ((au bs).toArray) 28)).alloc (.cells (dl c s) 30)) u→Below w.heap.size w u):=hid (fun u hu=>bA.trans (hu.mono bA.size))
 go_enter Tryz.func9,Tryz.ntmps9
 go_upto_region 1 with fail
 generalize (((w.alloc (.cells (aY p q g) 26)).alloc (.cells (ai k) 24)).alloc (.cells ((au bs).toArray) 28)).alloc (.cells (dl c s) 30)=W0 at *
 have f:=Below.refl W0.heap.size W0
 have D:=hid f
 have ax:Hid (W0.heap.size=w.heap.size+1+1+1+1):=hid bI
 have V:=hid ((ldG p q g 0 G (ak _)).on f)
 have az:=hid ((aP p 0 G (ag p _ 0 rfl rfl rfl rfl)).on f)
 have R:=hid ((aP q 4 G (ag q _ 4 rfl rfl rfl rfl)).on f)
 have dO:=hid ((aP g 8 G (ag g _ 8 rfl rfl rfl rfl)).on f)
 have Fbp:=hid ((av G).on f)
 have J:=hid ((aP k 0 f1 (ak _)).on f)
 have Fba:=hid ((av f1).on f)
 have Fs:=hid ((ldS bs bS 0 f2 (fun j v h=>by rw [Nat.zero_add]; simpa using h)).on f)
 have FX:=hid ((ldX c s 0 M (ak _)).on f)
 have O:=hid ((aP c 0 M (ag c _ 0 rfl rfl rfl rfl)).on f)
 have ay:=hid ((aP s 4 M (ag s _ 4 rfl rfl rfl rfl)).on f)
 have Fbx:=hid ((av M).on f)
 clear bA bI f G f1 f2 M
 generalize w.heap.size+1+1+1=Z at *
 generalize w.heap.size+1+1=ao at *
 generalize w.heap.size+1=L at *
 generalize K:w.heap.size=E at *
 clear bS
 have l1:=V.out.here
 go_wp2_with (first | (refine am (by rfl) 26 _ rfl (.pointer (some ⟨E,0,none⟩)) (by rfl) _ l1 ?_))
 clear l1
 refine (dg p q g true _ PL.out QL.out GL.out VF.out).mono ?_
 rintro e w1 ⟨rfl,hb⟩
 have D:=hid (D.out.trans (hb.mono D.out.size))
 have V:=hid (V.out.on hb)
 have R:=hid (R.out.on hb)
 have J:=hid (J.out.on hb)
 have O:=hid (O.out.on hb)
 clear hb
 have l2:=V.out.here
 have l3:=J.out.here
 go_wp2_with (first | (refine am (by rfl) 26 _ rfl (.pointer (some ⟨E,0,none⟩)) (by rfl) _ l2 ?_) | (refine am (by rfl) 24 _ rfl (.pointer (some ⟨L,0,none⟩)) (by rfl) _ l3 ?_))
 clear l2 l3
 refine (r6in_any p q g k true _ PL.out QL.out KL.out VI.out).mono ?_
 rintro e w2 ⟨rfl,hb⟩
 have D:=hid (D.out.trans (hb.mono D.out.size))
 have R:=hid (R.out.on hb)
 have J:=hid (J.out.on hb)
 have O:=hid (O.out.on hb)
 clear hb
 have l4:=J.out.here
 have l5:=O.out.here
 have l6:=R.out.here
 go_wp2_with (first | (refine am (by rfl) 24 _ rfl (.pointer (some ⟨L,0,none⟩)) (by rfl) _ l4 ?_) | (refine am (by rfl) 24 _ rfl (.pointer (some ⟨Z,0,none⟩)) (by rfl) _ l5 ?_) | (refine am (by rfl) 24 _ rfl (.pointer (some ⟨E,4,none⟩)) (by rfl) _ l6 ?_))
 clear l4 l5 l6
 refine (dt c q I _ CL.out QL.out an.out).mono ?_
 rintro e w3 ⟨rfl,hb⟩
 have D:=hid (D.out.trans (hb.mono D.out.size))
 clear hb
 go_wp2_with fail
 try go_ret
 try rw [Exit.noGoto_ret]
 first | exact ⟨rfl,by first | exact U.out _ D.out | (rw [K]; exact U.out _ D.out)⟩ | exact bodyPost_ret (v:=.bool (false)) (by simp [results,Tryz.results9,go_sem]) rfl ⟨rfl,by first | exact U.out _ D.out | (rw [K]; exact U.out _ D.out)⟩
theorem rcheck_s (p q g k c s:Nat) (bs:List UInt8) (w:World) (hp:p<2 ^ 256) (hq:q<2 ^ 256) (hg:g<2 ^ 256) (hk:k<2 ^ 256) (hc:c<2 ^ 256) (hs:s<2 ^ 256) (bS:bs.length=32) (hv:(1<q∧g≠1∧(0<g∧g<p)∧g ^ q % p=1)∧((0<k∧k<p)∧k ^ q % p=1)∧k≠1∧c<q∧¬ s<q):Calls Tryz.prog 9 #[gv p q g,af k,.agg (au bs).toArray,sgv c s] w fun e w'=>e=.returned (.bool false)∧Below w.heap.size w w':=by
 obtain ⟨v0,v1,v2,v3,v4⟩:=hv
 have VF:Hid (decide (1<q∧g≠1∧(0<g∧g<p)∧g ^ q % p=1)=true):=hid (decide_eq_true v0)
 have VI:Hid (decide ((0<k∧k<p)∧k ^ q % p=1)=true):=hid (decide_eq_true v1)
 have q1:∀ w,(Op.equalIn 10000 24 (af k) (.agg #[.int .u64 1,.int .u64 0,.int .u64 0,.int .u64 0])).run Tryz.prog w=.ok false w:=by rw [num_one]; exact eq_no k 1 hk (by decide) v2
 obtain ⟨M,J⟩:∃ z,aD c q=z:=⟨_,rfl⟩
 have ao:M<0:=by rw [← J]; unfold aD; split <;> (try split) <;> omega
 have aI:¬ M≥0:=by omega
 have an:¬ 0≤M:=by omega
 have aE:decide (0≤M)=false:=decide_eq_false an
 have aC:decide (M<0)=true:=decide_eq_true ao
 have ar:=hid J
 clear J
 obtain ⟨L,I⟩:∃ z,aD s q=z:=⟨_,rfl⟩
 have al:¬ L<0:=by rw [← I]; unfold aD; split <;> (try split) <;> omega
 have ad:L≥0:=by omega
 have ab:0≤L:=ad
 have az:decide (0≤L)=true:=decide_eq_true ab
 have ay:decide (L<0)=false:=decide_eq_false al
 have ap:=hid I
 clear I
 clear v0 v1 v2 v3 v4
 have PL:=hid hp
 have QL:=hid hq
 have GL:=hid hg
 have KL:=hid hk
 have CL:=hid hc
 have SL:=hid hs
 clear hp hq hg hk hc hs
 obtain ⟨bA,bI,K,f1,f2,Y⟩:=boxes4 w (aY p q g) (ai k) ((au bs).toArray) (dl c s) 26 24 28 30 _ rfl
 have aA:Hid (∀ u,Below ((((w.alloc (.cells (aY p q g) 26)).alloc (.cells (ai k) 24)).alloc (.cells ((au bs).toArray) 28)).alloc (.cells (dl c s) 30)).heap.size ((((w.alloc (.cells (aY p q g) 26)).alloc (.cells (ai k) 24)).alloc (.cells ((au bs).toArray) 28)).alloc (.cells (dl c s) 30)) u→Below w.heap.size w u):=hid (fun u hu=>bA.trans (hu.mono bA.size))
 go_enter Tryz.func9,Tryz.ntmps9
 go_upto_region 1 with fail
 generalize (((w.alloc (.cells (aY p q g) 26)).alloc (.cells (ai k) 24)).alloc (.cells ((au bs).toArray) 28)).alloc (.cells (dl c s) 30)=W0 at *
 have f:=Below.refl W0.heap.size W0
 have D:=hid f
 have aJ:Hid (W0.heap.size=w.heap.size+1+1+1+1):=hid bI
 have FG:=hid ((ldG p q g 0 K (ak _)).on f)
 have aK:=hid ((aP p 0 K (ag p _ 0 rfl rfl rfl rfl)).on f)
 have G:=hid ((aP q 4 K (ag q _ 4 rfl rfl rfl rfl)).on f)
 have dO:=hid ((aP g 8 K (ag g _ 8 rfl rfl rfl rfl)).on f)
 have Fbp:=hid ((av K).on f)
 have O:=hid ((aP k 0 f1 (ak _)).on f)
 have Fba:=hid ((av f1).on f)
 have Fs:=hid ((ldS bs bS 0 f2 (fun j v h=>by rw [Nat.zero_add]; simpa using h)).on f)
 have FX:=hid ((ldX c s 0 Y (ak _)).on f)
 have Z:=hid ((aP c 0 Y (ag c _ 0 rfl rfl rfl rfl)).on f)
 have E:=hid ((aP s 4 Y (ag s _ 4 rfl rfl rfl rfl)).on f)
 have Fbx:=hid ((av Y).on f)
 clear bA bI f K f1 f2 Y
 generalize w.heap.size+1+1+1=U at *
 generalize w.heap.size+1+1=ax at *
 generalize w.heap.size+1=V at *
 generalize R:w.heap.size=F at *
 clear bS
 have l1:=FG.out.here
 go_wp2_with (first | (refine am (by rfl) 26 _ rfl (.pointer (some ⟨F,0,none⟩)) (by rfl) _ l1 ?_))
 clear l1
 refine (dg p q g true _ PL.out QL.out GL.out VF.out).mono ?_
 rintro e w1 ⟨rfl,hb⟩
 have D:=hid (D.out.trans (hb.mono D.out.size))
 have FG:=hid (FG.out.on hb)
 have G:=hid (G.out.on hb)
 have O:=hid (O.out.on hb)
 have Z:=hid (Z.out.on hb)
 have E:=hid (E.out.on hb)
 clear hb
 have l2:=FG.out.here
 have l3:=O.out.here
 go_wp2_with (first | (refine am (by rfl) 26 _ rfl (.pointer (some ⟨F,0,none⟩)) (by rfl) _ l2 ?_) | (refine am (by rfl) 24 _ rfl (.pointer (some ⟨V,0,none⟩)) (by rfl) _ l3 ?_))
 clear l2 l3
 refine (r6in_any p q g k true _ PL.out QL.out KL.out VI.out).mono ?_
 rintro e w2 ⟨rfl,hb⟩
 have D:=hid (D.out.trans (hb.mono D.out.size))
 have G:=hid (G.out.on hb)
 have O:=hid (O.out.on hb)
 have Z:=hid (Z.out.on hb)
 have E:=hid (E.out.on hb)
 clear hb
 have l4:=O.out.here
 have l5:=Z.out.here
 have l6:=G.out.here
 go_wp2_with (first | (refine am (by rfl) 24 _ rfl (.pointer (some ⟨V,0,none⟩)) (by rfl) _ l4 ?_) | (refine am (by rfl) 24 _ rfl (.pointer (some ⟨U,0,none⟩)) (by rfl) _ l5 ?_) | (refine am (by rfl) 24 _ rfl (.pointer (some ⟨F,4,none⟩)) (by rfl) _ l6 ?_))
 clear l4 l5 l6
 refine (dt c q M _ CL.out QL.out ar.out).mono ?_
 rintro e w3 ⟨rfl,hb⟩
 have D:=hid (D.out.trans (hb.mono D.out.size))
 have G:=hid (G.out.on hb)
 have E:=hid (E.out.on hb)
 clear hb
 have l7:=E.out.here
 have l8:=G.out.here
 go_wp2_with (first | (refine am (by rfl) 24 _ rfl (.pointer (some ⟨U,4,none⟩)) (by rfl) _ l7 ?_) | (refine am (by rfl) 24 _ rfl (.pointer (some ⟨F,4,none⟩)) (by rfl) _ l8 ?_))
 clear l7 l8
 refine (dt s q L _ SL.out QL.out ap.out).mono ?_
 rintro e w4 ⟨rfl,hb⟩
 have D:=hid (D.out.trans (hb.mono D.out.size))
 clear hb
 go_wp2_with fail
 try go_ret
 try rw [Exit.noGoto_ret]
 first | exact ⟨rfl,by first | exact aA.out _ D.out | (rw [R]; exact aA.out _ D.out)⟩ | exact bodyPost_ret (v:=.bool (false)) (by simp [results,Tryz.results9,go_sem]) rfl ⟨rfl,by first | exact aA.out _ D.out | (rw [R]; exact aA.out _ D.out)⟩
theorem rcheck_ok (p q g k c s:Nat) (bs:List UInt8) (v:Bool) (w:World) (hp:p<2 ^ 256) (hq:q<2 ^ 256) (hg:g<2 ^ 256) (hk:k<2 ^ 256) (hc:c<2 ^ 256) (hs:s<2 ^ 256) (bS:bs.length=32) (hr:decide (c=chl q k (g ^ s % p * (k ^ (q - c) % p) % p) bs)=v) (hv:(1<q∧g≠1∧(0<g∧g<p)∧g ^ q % p=1)∧((0<k∧k<p)∧k ^ q % p=1)∧k≠1∧c<q∧s<q):Calls Tryz.prog 9 #[gv p q g,af k,.agg (au bs).toArray,sgv c s] w fun e w'=>e=.returned (.bool v)∧Below w.heap.size w w':=by
 obtain ⟨v0,v1,v2,v3,v4⟩:=hv
 have VF:Hid (decide (1<q∧g≠1∧(0<g∧g<p)∧g ^ q % p=1)=true):=hid (decide_eq_true v0)
 have VI:Hid (decide ((0<k∧k<p)∧k ^ q % p=1)=true):=hid (decide_eq_true v1)
 have q1:∀ w,(Op.equalIn 10000 24 (af k) (.agg #[.int .u64 1,.int .u64 0,.int .u64 0,.int .u64 0])).run Tryz.prog w=.ok false w:=by rw [num_one]; exact eq_no k 1 hk (by decide) v2
 obtain ⟨d1,an⟩:∃ z,aD c q=z:=⟨_,rfl⟩
 have bb:d1<0:=by rw [← an]; unfold aD; split <;> (try split) <;> omega
 have bN:¬ d1≥0:=by omega
 have ba:¬ 0≤d1:=by omega
 have bK:decide (0≤d1)=false:=decide_eq_false ba
 have bG:decide (d1<0)=true:=decide_eq_true bb
 have bp:=hid an
 clear an
 obtain ⟨d2,al⟩:∃ z,aD s q=z:=⟨_,rfl⟩
 have aW:d2<0:=by rw [← al]; unfold aD; split <;> (try split) <;> omega
 have bz:¬ d2≥0:=by omega
 have aU:¬ 0≤d2:=by omega
 have bx:decide (0≤d2)=false:=decide_eq_false aU
 have bv:decide (d2<0)=true:=decide_eq_true aW
 have bo:=hid al
 clear al
 have R:1<p:=by have:=v0.2.2.1; omega
 have ab:q≠0:=by have:=v0.1; omega
 obtain ⟨a,ea⟩:∃ a,g ^ s % p=a:=⟨_,rfl⟩
 obtain ⟨m,em⟩:∃ m,q - c=m:=⟨_,rfl⟩
 obtain ⟨b,eb⟩:∃ b,k ^ m % p=b:=⟨_,rfl⟩
 obtain ⟨r,er⟩:∃ r,a * b % p=r:=⟨_,rfl⟩
 rw [em,ea,eb,er] at hr
 obtain ⟨y,ey⟩:∃ y,chl q k r bs=y:=⟨_,rfl⟩
 rw [ey] at hr
 have va:0<a∧a<p:=ea ▸ grp_pos R ab (grp_pow (n:=s) R v0.2.2.2) (Nat.mod_lt _ (by omega))
 have vb:0<b∧b<p:=eb ▸ grp_pos R ab (grp_pow (n:=m) R v1.2) (Nat.mod_lt _ (by omega))
 have hy:y<2 ^ 256:=by have:=chl_lt q k r bs ab; omega
 have aK:r<2 ^ 256:=Nat.lt_trans (er ▸ Nat.mod_lt _ (by omega)) hp
 have qe:∀ w,(Op.equalIn 10000 24 (af y) (af c)).run Tryz.prog w=.ok v w:=by
  intro w; rw [← hr]; by_cases h:c=y
  ·rw [decide_eq_true h]; exact eq_yes y c h.symm w
  ·rw [decide_eq_false h]; exact eq_no y c hy hc (fun h2=>h h2.symm) w
 unfold chl at ey
 have bm:=hid (fun w=>rmexp_some g s p a w hg hs hp ⟨R,v0.2.2.1.2⟩ ea)
 have bk:=hid (fun w=>rmexp_some k m p b w hk (by omega) hp ⟨R,v1.1.2⟩ eb)
 have bd:=hid (fun w=>rmmul_some a b p r w (by omega) (by omega) hp ⟨R,va.2,vb.2⟩ er)
 have ED:Hid (dif q c=m):=hid (by unfold dif; rw [if_neg (by omega)]; exact em)
 have EL:Hid (((cM q c:Nat):Int)=0):=hid (by unfold cM; rw [if_neg (by omega)]; rfl)
 have EY:=hid ey
 have VG:=hid v0.2.2.1
 have VK:=hid v1.1
 have VA:=hid va
 have VB:=hid vb
 have RL:=hid aK
 have bn:=hid bS
 have bu:=hid (show a<2 ^ 256 by omega)
 have bq:=hid (show b<2 ^ 256 by omega)
 clear ea em eb er ey va vb hy aK hr R ab
 clear v0 v1 v2 v3 v4
 have PL:=hid hp
 have QL:=hid hq
 have GL:=hid hg
 have KL:=hid hk
 have CL:=hid hc
 have SL:=hid hs
 clear hp hq hg hk hc hs
 obtain ⟨bA,bI,f0,f1,f2,f3⟩:=boxes4 w (aY p q g) (ai k) ((au bs).toArray) (dl c s) 26 24 28 30 _ rfl
 have aA:Hid (∀ u,Below ((((w.alloc (.cells (aY p q g) 26)).alloc (.cells (ai k) 24)).alloc (.cells ((au bs).toArray) 28)).alloc (.cells (dl c s) 30)).heap.size ((((w.alloc (.cells (aY p q g) 26)).alloc (.cells (ai k) 24)).alloc (.cells ((au bs).toArray) 28)).alloc (.cells (dl c s) 30)) u→Below w.heap.size w u):=hid (fun u hu=>bA.trans (hu.mono bA.size))
 go_enter Tryz.func9,Tryz.ntmps9
 go_upto_region 1 with fail
 generalize (((w.alloc (.cells (aY p q g) 26)).alloc (.cells (ai k) 24)).alloc (.cells ((au bs).toArray) 28)).alloc (.cells (dl c s) 30)=W0 at *
 have J:=Below.refl W0.heap.size W0
 have f:=hid J
 have bO:Hid (W0.heap.size=w.heap.size+1+1+1+1):=hid bI
 have D:=hid ((ldG p q g 0 f0 (ak _)).on J)
 have bP:=hid ((aP p 0 f0 (ag p _ 0 rfl rfl rfl rfl)).on J)
 have aB:=hid ((aP q 4 f0 (ag q _ 4 rfl rfl rfl rfl)).on J)
 have Y:=hid ((aP g 8 f0 (ag g _ 8 rfl rfl rfl rfl)).on J)
 have Fbp:=hid ((av f0).on J)
 have F:=hid ((aP k 0 f1 (ak _)).on J)
 have Fba:=hid ((av f1).on J)
 have I:=hid ((ldS bs bS 0 f2 (fun j v h=>by rw [Nat.zero_add]; simpa using h)).on J)
 have FX:=hid ((ldX c s 0 f3 (ak _)).on J)
 have G:=hid ((aP c 0 f3 (ag c _ 0 rfl rfl rfl rfl)).on J)
 have M:=hid ((aP s 4 f3 (ag s _ 4 rfl rfl rfl rfl)).on J)
 have Fbx:=hid ((av f3).on J)
 clear bA bI J f0 f1 f2 f3
 generalize w.heap.size+1+1+1=Z at *
 generalize w.heap.size+1+1=aS at *
 generalize w.heap.size+1=ad at *
 generalize aL:w.heap.size=O at *
 clear bS
 have l1:=D.out.here
 go_wp2_with (first | (refine am (by rfl) 26 _ rfl (.pointer (some ⟨O,0,none⟩)) (by rfl) _ l1 ?_))
 clear l1
 refine (dg p q g true _ PL.out QL.out GL.out VF.out).mono ?_
 rintro e w1 ⟨rfl,hb⟩
 have f:=hid (f.out.trans (hb.mono f.out.size))
 have D:=hid (D.out.on hb)
 have aB:=hid (aB.out.on hb)
 have Y:=hid (Y.out.on hb)
 have F:=hid (F.out.on hb)
 have I:=hid (I.out.on hb)
 have G:=hid (G.out.on hb)
 have M:=hid (M.out.on hb)
 clear hb
 have l2:=D.out.here
 have l3:=F.out.here
 go_wp2_with (first | (refine am (by rfl) 26 _ rfl (.pointer (some ⟨O,0,none⟩)) (by rfl) _ l2 ?_) | (refine am (by rfl) 24 _ rfl (.pointer (some ⟨ad,0,none⟩)) (by rfl) _ l3 ?_))
 clear l2 l3
 refine (r6in_any p q g k true _ PL.out QL.out KL.out VI.out).mono ?_
 rintro e w2 ⟨rfl,hb⟩
 have f:=hid (f.out.trans (hb.mono f.out.size))
 have D:=hid (D.out.on hb)
 have aB:=hid (aB.out.on hb)
 have Y:=hid (Y.out.on hb)
 have F:=hid (F.out.on hb)
 have I:=hid (I.out.on hb)
 have G:=hid (G.out.on hb)
 have M:=hid (M.out.on hb)
 clear hb
 have l4:=F.out.here
 have l5:=G.out.here
 have l6:=aB.out.here
 go_wp2_with (first | (refine am (by rfl) 24 _ rfl (.pointer (some ⟨ad,0,none⟩)) (by rfl) _ l4 ?_) | (refine am (by rfl) 24 _ rfl (.pointer (some ⟨Z,0,none⟩)) (by rfl) _ l5 ?_) | (refine am (by rfl) 24 _ rfl (.pointer (some ⟨O,4,none⟩)) (by rfl) _ l6 ?_))
 clear l4 l5 l6
 refine (dt c q d1 _ CL.out QL.out bp.out).mono ?_
 rintro e w3 ⟨rfl,hb⟩
 have f:=hid (f.out.trans (hb.mono f.out.size))
 have D:=hid (D.out.on hb)
 have aB:=hid (aB.out.on hb)
 have Y:=hid (Y.out.on hb)
 have F:=hid (F.out.on hb)
 have I:=hid (I.out.on hb)
 have G:=hid (G.out.on hb)
 have M:=hid (M.out.on hb)
 clear hb
 have l7:=M.out.here
 have l8:=aB.out.here
 go_wp2_with (first | (refine am (by rfl) 24 _ rfl (.pointer (some ⟨Z,4,none⟩)) (by rfl) _ l7 ?_) | (refine am (by rfl) 24 _ rfl (.pointer (some ⟨O,4,none⟩)) (by rfl) _ l8 ?_))
 clear l7 l8
 refine (dt s q d2 _ SL.out QL.out bo.out).mono ?_
 rintro e w4 ⟨rfl,hb⟩
 have f:=hid (f.out.trans (hb.mono f.out.size))
 have D:=hid (D.out.on hb)
 have aB:=hid (aB.out.on hb)
 have Y:=hid (Y.out.on hb)
 have F:=hid (F.out.on hb)
 have I:=hid (I.out.on hb)
 have G:=hid (G.out.on hb)
 have M:=hid (M.out.on hb)
 clear hb
 have l9:=aB.out.here
 have aJ:=G.out.here
 go_wp2_with (first | (refine am (by rfl) 24 _ rfl (.pointer (some ⟨O,4,none⟩)) (by rfl) _ l9 ?_) | (refine am (by rfl) 24 _ rfl (.pointer (some ⟨Z,0,none⟩)) (by rfl) _ aJ ?_))
 clear l9 aJ
 refine (r2sub_b q c m 0 _ QL.out CL.out ED.out EL.out).mono ?_
 rintro e w5 ⟨rfl,hb⟩
 have f:=hid (f.out.trans (hb.mono f.out.size))
 have D:=hid (D.out.on hb)
 have Y:=hid (Y.out.on hb)
 have F:=hid (F.out.on hb)
 have I:=hid (I.out.on hb)
 have G:=hid (G.out.on hb)
 have M:=hid (M.out.on hb)
 clear hb
 go_upto_region 4 with fail
 have hb:=(Below.refl w5.heap.size w5).alloc (Nat.le_refl _) (.cells (ai m) 24)
 have V:=heap_alloc_new w5 (.cells (ai m) 24)
 have f:=hid (f.out.trans (hb.mono f.out.size))
 have D:=hid (D.out.on hb)
 have Y:=hid (Y.out.on hb)
 have F:=hid (F.out.on hb)
 have I:=hid (I.out.on hb)
 have G:=hid (G.out.on hb)
 have M:=hid (M.out.on hb)
 have dd:=hid (aP m 0 V (ak _))
 have FbN9:=hid (av V)
 clear hb V
 generalize w5.alloc (.cells (ai m) 24)=w6 at *
 generalize w5.heap.size=aT at *
 have aI:=D.out.here
 have aE:=Y.out.here
 have aC:=M.out.here
 go_wp2_with (first | (refine am (by rfl) 26 _ rfl (.pointer (some ⟨O,0,none⟩)) (by rfl) _ aI ?_) | (refine am (by rfl) 24 _ rfl (.pointer (some ⟨O,8,none⟩)) (by rfl) _ aE ?_) | (refine am (by rfl) 24 _ rfl (.pointer (some ⟨Z,4,none⟩)) (by rfl) _ aC ?_))
 clear aI aE aC
 refine (r6exp_ok p q g g s a 0 _ PL.out GL.out VG.out bm.out).mono ?_
 rintro e w7 ⟨rfl,hb⟩
 have f:=hid (f.out.trans (hb.mono f.out.size))
 have D:=hid (D.out.on hb)
 have F:=hid (F.out.on hb)
 have I:=hid (I.out.on hb)
 have G:=hid (G.out.on hb)
 have dd:=hid (dd.out.on hb)
 clear hb
 go_upto_region 5 with fail
 have hb:=(Below.refl w7.heap.size w7).alloc (Nat.le_refl _) (.cells (ai a) 24)
 have V:=heap_alloc_new w7 (.cells (ai a) 24)
 have f:=hid (f.out.trans (hb.mono f.out.size))
 have D:=hid (D.out.on hb)
 have F:=hid (F.out.on hb)
 have I:=hid (I.out.on hb)
 have G:=hid (G.out.on hb)
 have dd:=hid (dd.out.on hb)
 have U:=hid (aP a 0 V (ak _))
 have FbN11:=hid (av V)
 clear hb V
 generalize w7.alloc (.cells (ai a) 24)=w8 at *
 generalize w7.heap.size=aQ at *
 have az:=D.out.here
 have ay:=F.out.here
 have ax:=dd.out.here
 go_wp2_with (first | (refine am (by rfl) 26 _ rfl (.pointer (some ⟨O,0,none⟩)) (by rfl) _ az ?_) | (refine am (by rfl) 24 _ rfl (.pointer (some ⟨ad,0,none⟩)) (by rfl) _ ay ?_) | (refine am (by rfl) 24 _ rfl (.pointer (some ⟨aT,0,none⟩)) (by rfl) _ ax ?_))
 clear az ay ax
 refine (r6exp_ok p q g k m b 0 _ PL.out KL.out VK.out bk.out).mono ?_
 rintro e w9 ⟨rfl,hb⟩
 have f:=hid (f.out.trans (hb.mono f.out.size))
 have D:=hid (D.out.on hb)
 have F:=hid (F.out.on hb)
 have I:=hid (I.out.on hb)
 have G:=hid (G.out.on hb)
 have U:=hid (U.out.on hb)
 clear hb
 go_upto_region 6 with fail
 have hb:=(Below.refl w9.heap.size w9).alloc (Nat.le_refl _) (.cells (ai b) 24)
 have V:=heap_alloc_new w9 (.cells (ai b) 24)
 have f:=hid (f.out.trans (hb.mono f.out.size))
 have D:=hid (D.out.on hb)
 have F:=hid (F.out.on hb)
 have I:=hid (I.out.on hb)
 have G:=hid (G.out.on hb)
 have U:=hid (U.out.on hb)
 have aR:=hid (aP b 0 V (ak _))
 have FbN13:=hid (av V)
 clear hb V
 generalize w9.alloc (.cells (ai b) 24)=w10 at *
 generalize w9.heap.size=aN at *
 have ar:=D.out.here
 have ap:=U.out.here
 have ao:=aR.out.here
 go_wp2_with (first | (refine am (by rfl) 26 _ rfl (.pointer (some ⟨O,0,none⟩)) (by rfl) _ ar ?_) | (refine am (by rfl) 24 _ rfl (.pointer (some ⟨aQ,0,none⟩)) (by rfl) _ ap ?_) | (refine am (by rfl) 24 _ rfl (.pointer (some ⟨aN,0,none⟩)) (by rfl) _ ao ?_))
 clear ar ap ao
 refine (r6mul_ok p q g a b r 0 _ PL.out bu.out bq.out VA.out VB.out bd.out).mono ?_
 rintro e w11 ⟨rfl,hb⟩
 have f:=hid (f.out.trans (hb.mono f.out.size))
 have D:=hid (D.out.on hb)
 have F:=hid (F.out.on hb)
 have I:=hid (I.out.on hb)
 have G:=hid (G.out.on hb)
 clear hb
 go_upto_region 7 with fail
 have hb:=(Below.refl w11.heap.size w11).alloc (Nat.le_refl _) (.cells (ai r) 24)
 have V:=heap_alloc_new w11 (.cells (ai r) 24)
 have f:=hid (f.out.trans (hb.mono f.out.size))
 have D:=hid (D.out.on hb)
 have F:=hid (F.out.on hb)
 have I:=hid (I.out.on hb)
 have G:=hid (G.out.on hb)
 have E:=hid (aP r 0 V (ak _))
 have FbN15:=hid (av V)
 clear hb V
 generalize w11.alloc (.cells (ai r) 24)=w12 at *
 generalize w11.heap.size=aM at *
 refine wp_region_noPanic ?_
 refine aa.region (fun (L:Array Bool) (u:World)=>(Instr.loadAt 26 (.pointer (some ⟨O,0,none⟩))).run Tryz.prog u=.ok (gv p q g) u∧(Instr.loadAt 24 (.pointer (some ⟨ad,0,none⟩))).run Tryz.prog u=.ok (af k) u∧(Instr.loadAt 24 (.pointer (some ⟨aM,0,none⟩))).run Tryz.prog u=.ok (af r) u∧(Instr.loadAt 28 (.pointer (some ⟨aS,0,none⟩))).run Tryz.prog u=.ok (.agg (au bs).toArray) u∧(Instr.loadAt 24 (.pointer (some ⟨Z,0,none⟩))).run Tryz.prog u=.ok (af c) u) (by kernel_rfl) ?_
 have hb:=(Below.refl w12.heap.size w12).drew
 have f:=hid (f.out.trans (hb.mono f.out.size))
 have D:=hid (D.out.on hb)
 have F:=hid (F.out.on hb)
 have I:=hid (I.out.on hb)
 have G:=hid (G.out.on hb)
 have E:=hid (E.out.on hb)
 clear hb
 generalize w12.drew=w13 at *
 refine aa.tk (i:=0) (o:=⟨some 78,_,_,_,_,_⟩) (v:=gv p q g) [] (y:=Or.inl ⟨by rfl,?_⟩) (s:=⟨D.out.here,F.out.here,E.out.here,I.out.here,G.out.here⟩) (H:=?_)
 ·rintro u ⟨up,-,hX⟩; obtain ⟨x0,x1,x2,x3,x4⟩:=hX; exact dn _ _ rfl _ _ rfl x0
 try simp only [ac]
 refine aa.tk (i:=1) (o:=⟨some 79,_,_,_,_,_⟩) (v:=af k) [] (y:=Or.inl ⟨by rfl,?_⟩) (s:=⟨D.out.here,F.out.here,E.out.here,I.out.here,G.out.here⟩) (H:=?_)
 ·rintro u ⟨up,-,hX⟩; obtain ⟨x0,x1,x2,x3,x4⟩:=hX; exact dn _ _ rfl _ _ rfl x1
 try simp only [ac]
 refine aa.tk (i:=2) (o:=⟨some 80,_,_,_,_,_⟩) (v:=af r) [] (y:=Or.inl ⟨by rfl,?_⟩) (s:=⟨D.out.here,F.out.here,E.out.here,I.out.here,G.out.here⟩) (H:=?_)
 ·rintro u ⟨up,-,hX⟩; obtain ⟨x0,x1,x2,x3,x4⟩:=hX; exact dn _ _ rfl _ _ rfl x2
 try simp only [ac]
 refine aa.tk (i:=3) (o:=⟨some 81,_,_,_,_,_⟩) (v:=.agg (au bs).toArray) [] (y:=Or.inl ⟨by rfl,?_⟩) (s:=⟨D.out.here,F.out.here,E.out.here,I.out.here,G.out.here⟩) (H:=?_)
 ·rintro u ⟨up,-,hX⟩; obtain ⟨x0,x1,x2,x3,x4⟩:=hX; exact dn _ _ rfl _ _ rfl x3
 try simp only [ac]
 refine aa.q 5 ⟨some 83,_,_,_,_,_⟩ ⟨D.out.here,F.out.here,E.out.here,I.out.here,G.out.here⟩ ?_
 try simp only [ac]
 refine aa.tk (i:=6) (o:=⟨some 84,_,_,_,_,_⟩) (v:=af c) [] (y:=Or.inl ⟨by rfl,?_⟩) (s:=⟨D.out.here,F.out.here,E.out.here,I.out.here,G.out.here⟩) (H:=?_)
 ·rintro u ⟨up,-,hX⟩; obtain ⟨x0,x1,x2,x3,x4⟩:=hX; exact dn _ _ rfl _ _ rfl x4
 try simp only [ac]
 refine aa.one (i:=4) (o:=⟨some 82,_,_,_,_,_⟩) (by kernel_rfl) rfl (fun K hK=>?_)
 go_simp
 with_reducible refine (rchal_any p q g k r bs y _ QL.out KL.out RL.out bn.out EY.out).mono ?_
 rintro e w14 ⟨rfl,hb⟩
 go_wp2_with fail
 have f:=hid (f.out.trans (hb.mono f.out.size))
 have D:=hid (D.out.on hb)
 have F:=hid (F.out.on hb)
 have I:=hid (I.out.on hb)
 have G:=hid (G.out.on hb)
 have E:=hid (E.out.on hb)
 clear hb
 refine hK.out _ _ ⟨D.out.here,F.out.here,E.out.here,I.out.here,G.out.here⟩ ?_
 clear hK K
 try simp only [ac]
 refine aa.q 7 ⟨some 85,_,_,_,_,_⟩ ⟨D.out.here,F.out.here,E.out.here,I.out.here,G.out.here⟩ ?_
 try simp only [ac]
 refine aa.q 8 ⟨some 8,_,_,_,_,_⟩ ⟨D.out.here,F.out.here,E.out.here,I.out.here,G.out.here⟩ ?_
 try simp only [ac]
 refine aa.done (by kernel_rfl) ?_ _
 refine NoPanic.normal ?_
 go_wp2_with fail
 try go_ret
 try rw [Exit.noGoto_ret]
 first | exact ⟨rfl,by first | exact aA.out _ f.out | (rw [aL]; exact aA.out _ f.out)⟩ | exact bodyPost_ret (v:=.bool (v)) (by simp [results,Tryz.results9,go_sem]) rfl ⟨rfl,by first | exact aA.out _ f.out | (rw [aL]; exact aA.out _ f.out)⟩
theorem rcheck_any (p q g k c s:Nat) (bs:List UInt8) (v:Bool) (w:World) (F:p<2 ^ 256) (E:q<2 ^ 256) (I:g<2 ^ 256) (G:k<2 ^ 256) (hc:c<2 ^ 256) (D:s<2 ^ 256) (K:bs.length=32) (O:decide (Chk p q g k c s bs)=v):Calls Tryz.prog 9 #[gv p q g,af k,.agg (au bs).toArray,sgv c s] w fun e w'=>e=.returned (.bool v)∧Below w.heap.size w w':=by
 subst O
 by_cases f:1<q∧g≠1∧(0<g∧g<p)∧g ^ q % p=1
 ·by_cases z:(0<k∧k<p)∧k ^ q % p=1
  ·by_cases J:k=1
   ·rw [decide_eq_false (fun h=>h.2.1.1 J)]; exact rcheck_o p q g k c s bs w F E I G hc D K ⟨f,z,J⟩
   ·by_cases L:c<q
    ·by_cases M:s<q
     ·exact rcheck_ok p q g k c s bs _ w F E I G hc D K (decide_eq_decide.2 ⟨fun h=>⟨f,⟨J,z⟩,L,M,h⟩,fun h=>h.2.2.2.2⟩) ⟨f,z,J,L,M⟩
     ·rw [decide_eq_false (fun h=>M h.2.2.2.1)]; exact rcheck_s p q g k c s bs w F E I G hc D K ⟨f,z,J,L,M⟩
    ·rw [decide_eq_false (fun h=>L h.2.2.1)]; exact rcheck_c p q g k c s bs w F E I G hc D K ⟨f,z,J,L⟩
  ·rw [decide_eq_false (fun h=>z h.2.1.2)]; exact rcheck_i p q g k c s bs w F E I G hc D K ⟨f,z⟩
 ·rw [decide_eq_false (fun h=>f h.1)]; exact rcheck_f p q g k c s bs w F E I G hc D K f
end
end Go.Proofs.YtmapkbdjnnionaaGreatDoor
