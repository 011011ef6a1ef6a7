import Derived.Test.YtmapkbdjnnionaaGreatDoorPzBQ
set_option maxRecDepth 100000
set_option maxHeartbeats 8000000
set_option linter.all false
namespace Go.Proofs.YtmapkbdjnnionaaGreatDoor
open Go.RowKit
def Giv (Z:Array Value) (p q g x:Nat) (bs:List UInt8) (k c t:Nat):Prop :=
 (∀ j v,(aY p q g).toList[j]?=some v→Z[0+j]?=some v)∧(∀ j v,(ai x).toList[j]?=some v→Z[12+j]?=some v)∧(∀ j v,(au bs)[j]?=some v→Z[16+j]?=some v)∧(∀ j v,(ai k).toList[j]?=some v→Z[48+j]?=some v)∧(∀ j v,(dl c t).toList[j]?=some v→Z[52+j]?=some v)∧bs.length=32∧p<2 ^ 256∧q<2 ^ 256∧g<2 ^ 256∧x<2 ^ 256∧k<2 ^ 256∧c<2 ^ 256∧t<2 ^ 256
theorem key_both (p q g x:Nat) (f:p<2 ^ 256) (D:q<2 ^ 256) (E:g<2 ^ 256) (z:x<2 ^ 256):∃ (r:Nat) (e:Int),r<2 ^ 256∧(∀ w,Calls Tryz.prog 4 #[gv p q g,af x] w fun y w'=>y=.returned (.tuple #[af r,.int .i64 e])∧Below w.heap.size w w')∧∀ w,Calls Tryz.prog 5 #[gv p q g,af x] w fun y w'=>y=.returned (.tuple #[af r,.int .i64 e])∧Below w.heap.size w w':=by
 by_cases h:Sec p q g x
 ·exact ⟨_,_,Nat.lt_trans (Nat.mod_lt (g ^ x) (by have:=h.2.2.2.2.1; omega)) f,fun w=>key_ok p q g x _ w f D E z h rfl,fun w=>rkey_ok p q g x _ w f D E z ⟨h.2.2,h.1,h.2.1⟩ rfl⟩
 ·exact ⟨0,1,by decide,fun w=>key_none p q g x w f D E z h,fun w=>rkey_none p q g x w f D E z h⟩
theorem sign_both (p q g x:Nat) (bs:List UInt8) (D:p<2 ^ 256) (f:q<2 ^ 256) (E:g<2 ^ 256) (z:x<2 ^ 256) (F:bs.length=32):∃ (c t:Nat) (e:Int),c<2 ^ 256∧t<2 ^ 256∧(∀ w,Kt w→Calls Tryz.prog 6 #[gv p q g,af x,.agg (au bs).toArray] w fun y w'=>y=.returned (.tuple #[sgv c t,.int .i64 e])∧Below w.heap.size w w')∧
  ∀ w,Calls Tryz.prog 7 #[gv p q g,af x,.agg (au bs).toArray] w fun y w'=>y=.returned (.tuple #[sgv c t,.int .i64 e])∧Below w.heap.size w w':=by
 by_cases h:Sec p q g x
 ·have G:q≠0:=by have:=h.2.2.1; omega
  exact ⟨_,_,_,Nat.lt_trans (sigC_lt p q g x bs G) f,Nat.lt_trans (sigS_lt p q g x bs G) f,fun w I=>sign_ok p q g x _ _ bs w D f E z F I h rfl rfl,fun w=>rsign_ok p q g x _ _ bs w D f E z F h rfl rfl⟩
 ·exact ⟨0,0,1,by decide,by decide,fun w _=>sign_none p q g x bs w D f E z F h,fun w=>rsign_none p q g x bs w D f E z F h⟩
theorem eq_bool (b:Bool) (w:World):(Op.equalIn 10000 4 (.bool b) (.bool b)).run Tryz.prog w=.ok true w:=by cases b <;> kernel_rfl
theorem sigsOf_any (Z:Array Value) (p q g x:Nat) (bs:List UInt8) (k c t:Nat) (w:World) (hz:Giv Z p q g x bs k c t) (hK:Kt w):Calls Tryz.prog 3 #[.agg Z] w fun e w'=>e=.returned (.bool true)∧Below w.heap.size w w':=by
 obtain ⟨dG,ap,ao,an,al,bS,hp,hq,hg,hx,hk,hc,ht⟩:=hz
 obtain ⟨r,e,hr,K1,K2⟩:=key_both p q g x hp hq hg hx
 obtain ⟨c1,t1,e2,ay,ar,G1,G2⟩:=sign_both p q g x bs hp hq hg hx bS
 obtain ⟨b1,aB⟩:∃ b,decide (Chk p q g r c1 t1 bs)=b:=⟨_,rfl⟩
 obtain ⟨b2,az⟩:∃ b,decide (Chk p q g k c t bs)=b:=⟨_,rfl⟩
 have qr:=eq_yes r r rfl
 have qs:=fun w=>eq_sig c1 t1 w
 have aS:=fun w=>eq_bool b1 w
 have aR:=fun w=>eq_bool b2 w
 have PL:=hid hp
 have QL:=hid hq
 have GL:=hid hg
 have KL:=hid hk
 have CL:=hid hc
 have TL:=hid ht
 have RL:=hid hr
 have C1:=hid ay
 have T1:=hid ar
 have K1:=hid K1
 have K2:=hid K2
 have G1:=hid G1
 have G2:=hid G2
 have E1:=hid aB
 have E2:=hid az
 have BL:=hid bS
 clear hp hq hg hx hk hc ht hr ay ar aB az
 have bA:=(Below.refl w.heap.size w).alloc (Nat.le_refl _) (.cells (Z) 32)
 have bI:(w.alloc (.cells (Z) 32)).heap.size=w.heap.size+1:=sz1 _ _
 have f0:=heap_alloc_new w (.cells (Z) 32)
 have aA:Hid (∀ u,Below (w.alloc (.cells (Z) 32)).heap.size (w.alloc (.cells (Z) 32)) u→Below w.heap.size w u):=hid (fun u hu=>bA.trans (hu.mono bA.size))
 have aC:=hid (hK.on bA)
 clear hK
 go_enter Tryz.func3,Tryz.ntmps3
 go_upto_region 1 with fail
 generalize w.alloc (.cells (Z) 32)=W0 at *
 have ab:=Below.refl W0.heap.size W0
 have M:=hid ab
 have aT:Hid (W0.heap.size=w.heap.size+1):=hid bI
 have f:=hid ((ldG p q g 0 f0 dG).on ab)
 have bu:=hid ((aP x 12 f0 ap).on ab)
 have z:=hid ((ldS bs bS 16 f0 ao).on ab)
 have E:=hid ((aP k 48 f0 an).on ab)
 have D:=hid ((ldX c t 52 f0 al).on ab)
 have U:=hid (aC.out.on ab)
 clear aC
 clear bA bI ab f0
 generalize ax:w.heap.size=R at *
 clear dG ap ao an al bS
 have l1:=f.out.here
 have l2:=bu.out.here
 go_wp2_with (first | (refine am (by rfl) 26 _ rfl (.pointer (some ⟨R,0,none⟩)) (by rfl) _ l1 ?_) | (refine am (by rfl) 24 _ rfl (.pointer (some ⟨R,12,none⟩)) (by rfl) _ l2 ?_))
 clear l1 l2
 refine (K1.out _).mono ?_
 rintro e w1 ⟨rfl,hb⟩
 have M:=hid (M.out.trans (hb.mono M.out.size))
 have f:=hid (f.out.on hb)
 have bu:=hid (bu.out.on hb)
 have z:=hid (z.out.on hb)
 have E:=hid (E.out.on hb)
 have D:=hid (D.out.on hb)
 have U:=hid (U.out.on hb)
 clear hb
 go_upto_region 2 with fail
 have hb:=(Below.refl w1.heap.size w1).alloc (Nat.le_refl _) (.cells (ai r) 24)
 have hn:=heap_alloc_new w1 (.cells (ai r) 24)
 have M:=hid (M.out.trans (hb.mono M.out.size))
 have f:=hid (f.out.on hb)
 have bu:=hid (bu.out.on hb)
 have z:=hid (z.out.on hb)
 have E:=hid (E.out.on hb)
 have D:=hid (D.out.on hb)
 have U:=hid (U.out.on hb)
 have F:=hid (aP r 0 hn (ak _))
 have FbN3:=hid (av hn)
 clear hb hn
 generalize w1.alloc (.cells (ai r) 24)=w2 at *
 generalize w1.heap.size=aK at *
 have l3:=f.out.here
 have l4:=bu.out.here
 go_wp2_with (first | (refine am (by rfl) 26 _ rfl (.pointer (some ⟨R,0,none⟩)) (by rfl) _ l3 ?_) | (refine am (by rfl) 24 _ rfl (.pointer (some ⟨R,12,none⟩)) (by rfl) _ l4 ?_))
 clear l3 l4
 refine (K2.out _).mono ?_
 rintro e w3 ⟨rfl,hb⟩
 have M:=hid (M.out.trans (hb.mono M.out.size))
 have f:=hid (f.out.on hb)
 have bu:=hid (bu.out.on hb)
 have z:=hid (z.out.on hb)
 have E:=hid (E.out.on hb)
 have D:=hid (D.out.on hb)
 have F:=hid (F.out.on hb)
 have U:=hid (U.out.on hb)
 clear hb
 go_upto_region 3 with fail
 have hb:=(Below.refl w3.heap.size w3).alloc (Nat.le_refl _) (.cells (ai r) 24)
 have hn:=heap_alloc_new w3 (.cells (ai r) 24)
 have M:=hid (M.out.trans (hb.mono M.out.size))
 have f:=hid (f.out.on hb)
 have bu:=hid (bu.out.on hb)
 have z:=hid (z.out.on hb)
 have E:=hid (E.out.on hb)
 have D:=hid (D.out.on hb)
 have F:=hid (F.out.on hb)
 have U:=hid (U.out.on hb)
 have G:=hid (aP r 0 hn (ak _))
 have FbN5:=hid (av hn)
 clear hb hn
 generalize w3.alloc (.cells (ai r) 24)=w4 at *
 generalize w3.heap.size=aJ at *
 have l5:=f.out.here
 have l6:=bu.out.here
 have l7:=z.out.here
 go_wp2_with (first | (refine am (by rfl) 26 _ rfl (.pointer (some ⟨R,0,none⟩)) (by rfl) _ l5 ?_) | (refine am (by rfl) 24 _ rfl (.pointer (some ⟨R,12,none⟩)) (by rfl) _ l6 ?_) | (refine am (by rfl) 28 _ rfl (.pointer (some ⟨R,16,none⟩)) (by rfl) _ l7 ?_))
 clear l5 l6 l7
 refine (G1.out _ U.out).mono ?_
 rintro e w5 ⟨rfl,hb⟩
 have M:=hid (M.out.trans (hb.mono M.out.size))
 have f:=hid (f.out.on hb)
 have bu:=hid (bu.out.on hb)
 have z:=hid (z.out.on hb)
 have E:=hid (E.out.on hb)
 have D:=hid (D.out.on hb)
 have F:=hid (F.out.on hb)
 have G:=hid (G.out.on hb)
 have U:=hid (U.out.on hb)
 clear hb
 go_upto_region 4 with fail
 have hb:=(Below.refl w5.heap.size w5).alloc (Nat.le_refl _) (.cells (dl c1 t1) 30)
 have hn:=heap_alloc_new w5 (.cells (dl c1 t1) 30)
 have M:=hid (M.out.trans (hb.mono M.out.size))
 have f:=hid (f.out.on hb)
 have bu:=hid (bu.out.on hb)
 have z:=hid (z.out.on hb)
 have E:=hid (E.out.on hb)
 have D:=hid (D.out.on hb)
 have F:=hid (F.out.on hb)
 have G:=hid (G.out.on hb)
 have U:=hid (U.out.on hb)
 have I:=hid (ldX c1 t1 0 hn (ak _))
 have aQ:=hid (aP c1 0 hn (ag c1 _ 0 rfl rfl rfl rfl))
 have aN:=hid (aP t1 4 hn (ag t1 _ 4 rfl rfl rfl rfl))
 have FbN7:=hid (av hn)
 clear hb hn
 generalize w5.alloc (.cells (dl c1 t1) 30)=w6 at *
 generalize w5.heap.size=aI at *
 have l8:=f.out.here
 have l9:=bu.out.here
 have ad:=z.out.here
 go_wp2_with (first | (refine am (by rfl) 26 _ rfl (.pointer (some ⟨R,0,none⟩)) (by rfl) _ l8 ?_) | (refine am (by rfl) 24 _ rfl (.pointer (some ⟨R,12,none⟩)) (by rfl) _ l9 ?_) | (refine am (by rfl) 28 _ rfl (.pointer (some ⟨R,16,none⟩)) (by rfl) _ ad ?_))
 clear l8 l9 ad
 refine (G2.out _).mono ?_
 rintro e w7 ⟨rfl,hb⟩
 have M:=hid (M.out.trans (hb.mono M.out.size))
 have f:=hid (f.out.on hb)
 have z:=hid (z.out.on hb)
 have E:=hid (E.out.on hb)
 have D:=hid (D.out.on hb)
 have F:=hid (F.out.on hb)
 have G:=hid (G.out.on hb)
 have I:=hid (I.out.on hb)
 have U:=hid (U.out.on hb)
 clear hb
 go_upto_region 5 with fail
 have hb:=(Below.refl w7.heap.size w7).alloc (Nat.le_refl _) (.cells (dl c1 t1) 30)
 have hn:=heap_alloc_new w7 (.cells (dl c1 t1) 30)
 have M:=hid (M.out.trans (hb.mono M.out.size))
 have f:=hid (f.out.on hb)
 have z:=hid (z.out.on hb)
 have E:=hid (E.out.on hb)
 have D:=hid (D.out.on hb)
 have F:=hid (F.out.on hb)
 have G:=hid (G.out.on hb)
 have I:=hid (I.out.on hb)
 have U:=hid (U.out.on hb)
 have J:=hid (ldX c1 t1 0 hn (ak _))
 have aM:=hid (aP c1 0 hn (ag c1 _ 0 rfl rfl rfl rfl))
 have aL:=hid (aP t1 4 hn (ag t1 _ 4 rfl rfl rfl rfl))
 have FbN9:=hid (av hn)
 clear hb hn
 generalize w7.alloc (.cells (dl c1 t1) 30)=w8 at *
 generalize w7.heap.size=aE at *
 refine wp_region_noPanic ?_
 refine aa.region (fun (L:Array Bool) (u:World)=>(Instr.loadAt 26 (.pointer (some ⟨R,0,none⟩))).run Tryz.prog u=.ok (gv p q g) u∧(Instr.loadAt 24 (.pointer (some ⟨aK,0,none⟩))).run Tryz.prog u=.ok (af r) u∧(Instr.loadAt 24 (.pointer (some ⟨aJ,0,none⟩))).run Tryz.prog u=.ok (af r) u∧(Instr.loadAt 30 (.pointer (some ⟨aI,0,none⟩))).run Tryz.prog u=.ok (sgv c1 t1) u∧(Instr.loadAt 30 (.pointer (some ⟨aE,0,none⟩))).run Tryz.prog u=.ok (sgv c1 t1) u∧(Instr.loadAt 28 (.pointer (some ⟨R,16,none⟩))).run Tryz.prog u=.ok (.agg (au bs).toArray) u∧(Instr.loadAt 24 (.pointer (some ⟨R,48,none⟩))).run Tryz.prog u=.ok (af k) u∧(Instr.loadAt 30 (.pointer (some ⟨R,52,none⟩))).run Tryz.prog u=.ok (sgv c t) u) (by kernel_rfl) ?_
 have hb:=(Below.refl w8.heap.size w8).drew
 have M:=hid (M.out.trans (hb.mono M.out.size))
 have f:=hid (f.out.on hb)
 have z:=hid (z.out.on hb)
 have E:=hid (E.out.on hb)
 have D:=hid (D.out.on hb)
 have F:=hid (F.out.on hb)
 have G:=hid (G.out.on hb)
 have I:=hid (I.out.on hb)
 have J:=hid (J.out.on hb)
 have U:=hid (U.out.on hb)
 clear hb
 generalize w8.drew=w9 at *
 refine aa.tk (i:=0) (o:=⟨some 47,_,_,_,_,_⟩) (v:=af r) [] (y:=Or.inl ⟨by rfl,?_⟩) (s:=⟨f.out.here,F.out.here,G.out.here,I.out.here,J.out.here,z.out.here,E.out.here,D.out.here⟩) (H:=?_)
 ·rintro u ⟨up,-,O⟩; obtain ⟨Y,x1,x2,x3,x4,V,x6,x7⟩:=O; exact dn _ _ rfl _ _ rfl x1
 try simp only [ac]
 refine aa.tk (i:=1) (o:=⟨some 48,_,_,_,_,_⟩) (v:=af r) [] (y:=Or.inl ⟨by rfl,?_⟩) (s:=⟨f.out.here,F.out.here,G.out.here,I.out.here,J.out.here,z.out.here,E.out.here,D.out.here⟩) (H:=?_)
 ·rintro u ⟨up,-,O⟩; obtain ⟨Y,x1,x2,x3,x4,V,x6,x7⟩:=O; exact dn _ _ rfl _ _ rfl x2
 try simp only [ac]
 refine aa.q 2 ⟨some 49,_,_,_,_,_⟩ ⟨f.out.here,F.out.here,G.out.here,I.out.here,J.out.here,z.out.here,E.out.here,D.out.here⟩ ?_
 try simp only [ac]
 refine aa.q 3 ⟨some 50,_,_,_,_,_⟩ ⟨f.out.here,F.out.here,G.out.here,I.out.here,J.out.here,z.out.here,E.out.here,D.out.here⟩ ?_
 try simp only [ac]
 refine aa.q 4 ⟨some 51,_,_,_,_,_⟩ ⟨f.out.here,F.out.here,G.out.here,I.out.here,J.out.here,z.out.here,E.out.here,D.out.here⟩ ?_
 try simp only [ac]
 refine aa.q 5 ⟨some 52,_,_,_,_,_⟩ ⟨f.out.here,F.out.here,G.out.here,I.out.here,J.out.here,z.out.here,E.out.here,D.out.here⟩ ?_
 try simp only [ac]
 refine aa.q 6 ⟨some 53,_,_,_,_,_⟩ ⟨f.out.here,F.out.here,G.out.here,I.out.here,J.out.here,z.out.here,E.out.here,D.out.here⟩ ?_
 try simp only [ac]
 refine aa.q 7 ⟨some 54,_,_,_,_,_⟩ ⟨f.out.here,F.out.here,G.out.here,I.out.here,J.out.here,z.out.here,E.out.here,D.out.here⟩ ?_
 try simp only [ac]
 refine aa.q 8 ⟨some 55,_,_,_,_,_⟩ ⟨f.out.here,F.out.here,G.out.here,I.out.here,J.out.here,z.out.here,E.out.here,D.out.here⟩ ?_
 try simp only [ac]
 refine aa.tk (i:=9) (o:=⟨some 56,_,_,_,_,_⟩) (v:=sgv c1 t1) [] (y:=Or.inl ⟨by rfl,?_⟩) (s:=⟨f.out.here,F.out.here,G.out.here,I.out.here,J.out.here,z.out.here,E.out.here,D.out.here⟩) (H:=?_)
 ·rintro u ⟨up,-,O⟩; obtain ⟨Y,x1,x2,x3,x4,V,x6,x7⟩:=O; exact dn _ _ rfl _ _ rfl x3
 try simp only [ac]
 refine aa.tk (i:=10) (o:=⟨some 57,_,_,_,_,_⟩) (v:=sgv c1 t1) [] (y:=Or.inl ⟨by rfl,?_⟩) (s:=⟨f.out.here,F.out.here,G.out.here,I.out.here,J.out.here,z.out.here,E.out.here,D.out.here⟩) (H:=?_)
 ·rintro u ⟨up,-,O⟩; obtain ⟨Y,x1,x2,x3,x4,V,x6,x7⟩:=O; exact dn _ _ rfl _ _ rfl x4
 try simp only [ac]
 refine aa.q 11 ⟨some 58,_,_,_,_,_⟩ ⟨f.out.here,F.out.here,G.out.here,I.out.here,J.out.here,z.out.here,E.out.here,D.out.here⟩ ?_
 try simp only [ac]
 refine aa.q 12 ⟨some 59,_,_,_,_,_⟩ ⟨f.out.here,F.out.here,G.out.here,I.out.here,J.out.here,z.out.here,E.out.here,D.out.here⟩ ?_
 try simp only [ac]
 refine aa.q 13 ⟨some 60,_,_,_,_,_⟩ ⟨f.out.here,F.out.here,G.out.here,I.out.here,J.out.here,z.out.here,E.out.here,D.out.here⟩ ?_
 try simp only [ac]
 refine aa.q 14 ⟨some 61,_,_,_,_,_⟩ ⟨f.out.here,F.out.here,G.out.here,I.out.here,J.out.here,z.out.here,E.out.here,D.out.here⟩ ?_
 try simp only [ac]
 refine aa.q 15 ⟨some 62,_,_,_,_,_⟩ ⟨f.out.here,F.out.here,G.out.here,I.out.here,J.out.here,z.out.here,E.out.here,D.out.here⟩ ?_
 try simp only [ac]
 refine aa.q 16 ⟨some 63,_,_,_,_,_⟩ ⟨f.out.here,F.out.here,G.out.here,I.out.here,J.out.here,z.out.here,E.out.here,D.out.here⟩ ?_
 try simp only [ac]
 refine aa.q 17 ⟨some 64,_,_,_,_,_⟩ ⟨f.out.here,F.out.here,G.out.here,I.out.here,J.out.here,z.out.here,E.out.here,D.out.here⟩ ?_
 try simp only [ac]
 refine aa.q 18 ⟨some 65,_,_,_,_,_⟩ ⟨f.out.here,F.out.here,G.out.here,I.out.here,J.out.here,z.out.here,E.out.here,D.out.here⟩ ?_
 try simp only [ac]
 refine aa.q 19 ⟨some 66,_,_,_,_,_⟩ ⟨f.out.here,F.out.here,G.out.here,I.out.here,J.out.here,z.out.here,E.out.here,D.out.here⟩ ?_
 try simp only [ac]
 refine aa.tk (i:=20) (o:=⟨some 67,_,_,_,_,_⟩) (v:=gv p q g) [] (y:=Or.inl ⟨by rfl,?_⟩) (s:=⟨f.out.here,F.out.here,G.out.here,I.out.here,J.out.here,z.out.here,E.out.here,D.out.here⟩) (H:=?_)
 ·rintro u ⟨up,-,O⟩; obtain ⟨Y,x1,x2,x3,x4,V,x6,x7⟩:=O; exact dn _ _ rfl _ _ rfl Y
 try simp only [ac]
 refine aa.tk (i:=21) (o:=⟨some 68,_,_,_,_,_⟩) (v:=af r) [] (y:=Or.inl ⟨by rfl,?_⟩) (s:=⟨f.out.here,F.out.here,G.out.here,I.out.here,J.out.here,z.out.here,E.out.here,D.out.here⟩) (H:=?_)
 ·rintro u ⟨up,-,O⟩; obtain ⟨Y,x1,x2,x3,x4,V,x6,x7⟩:=O; exact dn _ _ rfl _ _ rfl x1
 try simp only [ac]
 refine aa.q 22 ⟨some 69,_,_,_,_,_⟩ ⟨f.out.here,F.out.here,G.out.here,I.out.here,J.out.here,z.out.here,E.out.here,D.out.here⟩ ?_
 try simp only [ac]
 refine aa.tk (i:=23) (o:=⟨some 70,_,_,_,_,_⟩) (v:=.agg (au bs).toArray) [] (y:=Or.inl ⟨by rfl,?_⟩) (s:=⟨f.out.here,F.out.here,G.out.here,I.out.here,J.out.here,z.out.here,E.out.here,D.out.here⟩) (H:=?_)
 ·rintro u ⟨up,-,O⟩; obtain ⟨Y,x1,x2,x3,x4,V,x6,x7⟩:=O; exact dn _ _ rfl _ _ rfl V
 try simp only [ac]
 refine aa.tk (i:=24) (o:=⟨some 71,_,_,_,_,_⟩) (v:=sgv c1 t1) [] (y:=Or.inl ⟨by rfl,?_⟩) (s:=⟨f.out.here,F.out.here,G.out.here,I.out.here,J.out.here,z.out.here,E.out.here,D.out.here⟩) (H:=?_)
 ·rintro u ⟨up,-,O⟩; obtain ⟨Y,x1,x2,x3,x4,V,x6,x7⟩:=O; exact dn _ _ rfl _ _ rfl x3
 try simp only [ac]
 refine aa.q 26 ⟨some 73,_,_,_,_,_⟩ ⟨f.out.here,F.out.here,G.out.here,I.out.here,J.out.here,z.out.here,E.out.here,D.out.here⟩ ?_
 try simp only [ac]
 refine aa.tk (i:=27) (o:=⟨some 74,_,_,_,_,_⟩) (v:=gv p q g) [] (y:=Or.inl ⟨by rfl,?_⟩) (s:=⟨f.out.here,F.out.here,G.out.here,I.out.here,J.out.here,z.out.here,E.out.here,D.out.here⟩) (H:=?_)
 ·rintro u ⟨up,-,O⟩; obtain ⟨Y,x1,x2,x3,x4,V,x6,x7⟩:=O; exact dn _ _ rfl _ _ rfl Y
 try simp only [ac]
 refine aa.tk (i:=28) (o:=⟨some 75,_,_,_,_,_⟩) (v:=af r) [] (y:=Or.inl ⟨by rfl,?_⟩) (s:=⟨f.out.here,F.out.here,G.out.here,I.out.here,J.out.here,z.out.here,E.out.here,D.out.here⟩) (H:=?_)
 ·rintro u ⟨up,-,O⟩; obtain ⟨Y,x1,x2,x3,x4,V,x6,x7⟩:=O; exact dn _ _ rfl _ _ rfl x2
 try simp only [ac]
 refine aa.q 29 ⟨some 76,_,_,_,_,_⟩ ⟨f.out.here,F.out.here,G.out.here,I.out.here,J.out.here,z.out.here,E.out.here,D.out.here⟩ ?_
 try simp only [ac]
 refine aa.tk (i:=30) (o:=⟨some 77,_,_,_,_,_⟩) (v:=.agg (au bs).toArray) [] (y:=Or.inl ⟨by rfl,?_⟩) (s:=⟨f.out.here,F.out.here,G.out.here,I.out.here,J.out.here,z.out.here,E.out.here,D.out.here⟩) (H:=?_)
 ·rintro u ⟨up,-,O⟩; obtain ⟨Y,x1,x2,x3,x4,V,x6,x7⟩:=O; exact dn _ _ rfl _ _ rfl V
 try simp only [ac]
 refine aa.tk (i:=31) (o:=⟨some 78,_,_,_,_,_⟩) (v:=sgv c1 t1) [] (y:=Or.inl ⟨by rfl,?_⟩) (s:=⟨f.out.here,F.out.here,G.out.here,I.out.here,J.out.here,z.out.here,E.out.here,D.out.here⟩) (H:=?_)
 ·rintro u ⟨up,-,O⟩; obtain ⟨Y,x1,x2,x3,x4,V,x6,x7⟩:=O; exact dn _ _ rfl _ _ rfl x4
 try simp only [ac]
 refine aa.one (i:=25) (o:=⟨some 72,_,_,_,_,_⟩) (by kernel_rfl) rfl (fun K hK=>?_)
 go_simp
 with_reducible refine (check_any p q g r c1 t1 bs b1 _ PL.out QL.out GL.out RL.out C1.out T1.out BL.out U.out E1.out).mono ?_
 rintro e w10 ⟨rfl,hb⟩
 go_wp2_with fail
 have M:=hid (M.out.trans (hb.mono M.out.size))
 have f:=hid (f.out.on hb)
 have z:=hid (z.out.on hb)
 have E:=hid (E.out.on hb)
 have D:=hid (D.out.on hb)
 have F:=hid (F.out.on hb)
 have G:=hid (G.out.on hb)
 have I:=hid (I.out.on hb)
 have J:=hid (J.out.on hb)
 have U:=hid (U.out.on hb)
 clear hb
 refine hK.out _ _ ⟨f.out.here,F.out.here,G.out.here,I.out.here,J.out.here,z.out.here,E.out.here,D.out.here⟩ ?_
 clear hK K
 try simp only [ac]
 refine aa.one (i:=32) (o:=⟨some 79,_,_,_,_,_⟩) (by kernel_rfl) rfl (fun K hK=>?_)
 go_simp
 with_reducible refine (rcheck_any p q g r c1 t1 bs b1 _ PL.out QL.out GL.out RL.out C1.out T1.out BL.out E1.out).mono ?_
 rintro e w11 ⟨rfl,hb⟩
 go_wp2_with fail
 have M:=hid (M.out.trans (hb.mono M.out.size))
 have f:=hid (f.out.on hb)
 have z:=hid (z.out.on hb)
 have E:=hid (E.out.on hb)
 have D:=hid (D.out.on hb)
 have F:=hid (F.out.on hb)
 have G:=hid (G.out.on hb)
 have I:=hid (I.out.on hb)
 have J:=hid (J.out.on hb)
 have U:=hid (U.out.on hb)
 clear hb
 refine hK.out _ _ ⟨f.out.here,F.out.here,G.out.here,I.out.here,J.out.here,z.out.here,E.out.here,D.out.here⟩ ?_
 clear hK K
 try simp only [ac]
 refine aa.q 33 ⟨some 80,_,_,_,_,_⟩ ⟨f.out.here,F.out.here,G.out.here,I.out.here,J.out.here,z.out.here,E.out.here,D.out.here⟩ ?_
 try simp only [ac]
 refine aa.q 34 ⟨some 81,_,_,_,_,_⟩ ⟨f.out.here,F.out.here,G.out.here,I.out.here,J.out.here,z.out.here,E.out.here,D.out.here⟩ ?_
 try simp only [ac]
 refine aa.q 35 ⟨some 82,_,_,_,_,_⟩ ⟨f.out.here,F.out.here,G.out.here,I.out.here,J.out.here,z.out.here,E.out.here,D.out.here⟩ ?_
 try simp only [ac]
 refine aa.q 36 ⟨some 83,_,_,_,_,_⟩ ⟨f.out.here,F.out.here,G.out.here,I.out.here,J.out.here,z.out.here,E.out.here,D.out.here⟩ ?_
 try simp only [ac]
 refine aa.tk (i:=37) (o:=⟨some 84,_,_,_,_,_⟩) (v:=gv p q g) [] (y:=Or.inl ⟨by rfl,?_⟩) (s:=⟨f.out.here,F.out.here,G.out.here,I.out.here,J.out.here,z.out.here,E.out.here,D.out.here⟩) (H:=?_)
 ·rintro u ⟨up,-,O⟩; obtain ⟨Y,x1,x2,x3,x4,V,x6,x7⟩:=O; exact dn _ _ rfl _ _ rfl Y
 try simp only [ac]
 refine aa.q 38 ⟨some 85,_,_,_,_,_⟩ ⟨f.out.here,F.out.here,G.out.here,I.out.here,J.out.here,z.out.here,E.out.here,D.out.here⟩ ?_
 try simp only [ac]
 refine aa.tk (i:=39) (o:=⟨some 86,_,_,_,_,_⟩) (v:=af k) [] (y:=Or.inl ⟨by rfl,?_⟩) (s:=⟨f.out.here,F.out.here,G.out.here,I.out.here,J.out.here,z.out.here,E.out.here,D.out.here⟩) (H:=?_)
 ·rintro u ⟨up,-,O⟩; obtain ⟨Y,x1,x2,x3,x4,V,x6,x7⟩:=O; exact dn _ _ rfl _ _ rfl x6
 try simp only [ac]
 refine aa.q 40 ⟨some 87,_,_,_,_,_⟩ ⟨f.out.here,F.out.here,G.out.here,I.out.here,J.out.here,z.out.here,E.out.here,D.out.here⟩ ?_
 try simp only [ac]
 refine aa.tk (i:=41) (o:=⟨some 88,_,_,_,_,_⟩) (v:=.agg (au bs).toArray) [] (y:=Or.inl ⟨by rfl,?_⟩) (s:=⟨f.out.here,F.out.here,G.out.here,I.out.here,J.out.here,z.out.here,E.out.here,D.out.here⟩) (H:=?_)
 ·rintro u ⟨up,-,O⟩; obtain ⟨Y,x1,x2,x3,x4,V,x6,x7⟩:=O; exact dn _ _ rfl _ _ rfl V
 try simp only [ac]
 refine aa.q 42 ⟨some 89,_,_,_,_,_⟩ ⟨f.out.here,F.out.here,G.out.here,I.out.here,J.out.here,z.out.here,E.out.here,D.out.here⟩ ?_
 try simp only [ac]
 refine aa.tk (i:=43) (o:=⟨some 90,_,_,_,_,_⟩) (v:=sgv c t) [] (y:=Or.inl ⟨by rfl,?_⟩) (s:=⟨f.out.here,F.out.here,G.out.here,I.out.here,J.out.here,z.out.here,E.out.here,D.out.here⟩) (H:=?_)
 ·rintro u ⟨up,-,O⟩; obtain ⟨Y,x1,x2,x3,x4,V,x6,x7⟩:=O; exact dn _ _ rfl _ _ rfl x7
 try simp only [ac]
 refine aa.q 45 ⟨some 92,_,_,_,_,_⟩ ⟨f.out.here,F.out.here,G.out.here,I.out.here,J.out.here,z.out.here,E.out.here,D.out.here⟩ ?_
 try simp only [ac]
 refine aa.tk (i:=46) (o:=⟨some 93,_,_,_,_,_⟩) (v:=gv p q g) [] (y:=Or.inl ⟨by rfl,?_⟩) (s:=⟨f.out.here,F.out.here,G.out.here,I.out.here,J.out.here,z.out.here,E.out.here,D.out.here⟩) (H:=?_)
 ·rintro u ⟨up,-,O⟩; obtain ⟨Y,x1,x2,x3,x4,V,x6,x7⟩:=O; exact dn _ _ rfl _ _ rfl Y
 try simp only [ac]
 refine aa.q 47 ⟨some 94,_,_,_,_,_⟩ ⟨f.out.here,F.out.here,G.out.here,I.out.here,J.out.here,z.out.here,E.out.here,D.out.here⟩ ?_
 try simp only [ac]
 refine aa.tk (i:=48) (o:=⟨some 95,_,_,_,_,_⟩) (v:=af k) [] (y:=Or.inl ⟨by rfl,?_⟩) (s:=⟨f.out.here,F.out.here,G.out.here,I.out.here,J.out.here,z.out.here,E.out.here,D.out.here⟩) (H:=?_)
 ·rintro u ⟨up,-,O⟩; obtain ⟨Y,x1,x2,x3,x4,V,x6,x7⟩:=O; exact dn _ _ rfl _ _ rfl x6
 try simp only [ac]
 refine aa.q 49 ⟨some 96,_,_,_,_,_⟩ ⟨f.out.here,F.out.here,G.out.here,I.out.here,J.out.here,z.out.here,E.out.here,D.out.here⟩ ?_
 try simp only [ac]
 refine aa.tk (i:=50) (o:=⟨some 97,_,_,_,_,_⟩) (v:=.agg (au bs).toArray) [] (y:=Or.inl ⟨by rfl,?_⟩) (s:=⟨f.out.here,F.out.here,G.out.here,I.out.here,J.out.here,z.out.here,E.out.here,D.out.here⟩) (H:=?_)
 ·rintro u ⟨up,-,O⟩; obtain ⟨Y,x1,x2,x3,x4,V,x6,x7⟩:=O; exact dn _ _ rfl _ _ rfl V
 try simp only [ac]
 refine aa.q 51 ⟨some 98,_,_,_,_,_⟩ ⟨f.out.here,F.out.here,G.out.here,I.out.here,J.out.here,z.out.here,E.out.here,D.out.here⟩ ?_
 try simp only [ac]
 refine aa.tk (i:=52) (o:=⟨some 99,_,_,_,_,_⟩) (v:=sgv c t) [] (y:=Or.inl ⟨by rfl,?_⟩) (s:=⟨f.out.here,F.out.here,G.out.here,I.out.here,J.out.here,z.out.here,E.out.here,D.out.here⟩) (H:=?_)
 ·rintro u ⟨up,-,O⟩; obtain ⟨Y,x1,x2,x3,x4,V,x6,x7⟩:=O; exact dn _ _ rfl _ _ rfl x7
 try simp only [ac]
 refine aa.one (i:=44) (o:=⟨some 91,_,_,_,_,_⟩) (by kernel_rfl) rfl (fun K hK=>?_)
 go_simp
 with_reducible refine (check_any p q g k c t bs b2 _ PL.out QL.out GL.out KL.out CL.out TL.out BL.out U.out E2.out).mono ?_
 rintro e w12 ⟨rfl,hb⟩
 go_wp2_with fail
 have M:=hid (M.out.trans (hb.mono M.out.size))
 have f:=hid (f.out.on hb)
 have z:=hid (z.out.on hb)
 have E:=hid (E.out.on hb)
 have D:=hid (D.out.on hb)
 have F:=hid (F.out.on hb)
 have G:=hid (G.out.on hb)
 have I:=hid (I.out.on hb)
 have J:=hid (J.out.on hb)
 clear hb
 refine hK.out _ _ ⟨f.out.here,F.out.here,G.out.here,I.out.here,J.out.here,z.out.here,E.out.here,D.out.here⟩ ?_
 clear hK K
 try simp only [ac]
 refine aa.one (i:=53) (o:=⟨some 100,_,_,_,_,_⟩) (by kernel_rfl) rfl (fun K hK=>?_)
 go_simp
 with_reducible refine (rcheck_any p q g k c t bs b2 _ PL.out QL.out GL.out KL.out CL.out TL.out BL.out E2.out).mono ?_
 rintro e w13 ⟨rfl,hb⟩
 go_wp2_with fail
 have M:=hid (M.out.trans (hb.mono M.out.size))
 have f:=hid (f.out.on hb)
 have z:=hid (z.out.on hb)
 have E:=hid (E.out.on hb)
 have D:=hid (D.out.on hb)
 have F:=hid (F.out.on hb)
 have G:=hid (G.out.on hb)
 have I:=hid (I.out.on hb)
 have J:=hid (J.out.on hb)
 clear hb
 refine hK.out _ _ ⟨f.out.here,F.out.here,G.out.here,I.out.here,J.out.here,z.out.here,E.out.here,D.out.here⟩ ?_
 clear hK K
 try simp only [ac]
 refine aa.q 54 ⟨some 101,_,_,_,_,_⟩ ⟨f.out.here,F.out.here,G.out.here,I.out.here,J.out.here,z.out.here,E.out.here,D.out.here⟩ ?_
 try simp only [ac]
 refine aa.q 55 ⟨some 102,_,_,_,_,_⟩ ⟨f.out.here,F.out.here,G.out.here,I.out.here,J.out.here,z.out.here,E.out.here,D.out.here⟩ ?_
 try simp only [ac]
 refine aa.q 56 ⟨some 103,_,_,_,_,_⟩ ⟨f.out.here,F.out.here,G.out.here,I.out.here,J.out.here,z.out.here,E.out.here,D.out.here⟩ ?_
 try simp only [ac]
 refine aa.one (i:=57) (o:=⟨some 104,_,_,_,_,_⟩) (by kernel_rfl) rfl (fun K hK=>?_)
 go_simp
 with_reducible refine (lives_any _).mono ?_
 rintro e w14 ⟨rfl,hb⟩
 go_wp2_with fail
 have M:=hid (M.out.trans (hb.mono M.out.size))
 have f:=hid (f.out.on hb)
 have z:=hid (z.out.on hb)
 have E:=hid (E.out.on hb)
 have D:=hid (D.out.on hb)
 have F:=hid (F.out.on hb)
 have G:=hid (G.out.on hb)
 have I:=hid (I.out.on hb)
 have J:=hid (J.out.on hb)
 clear hb
 refine hK.out _ _ ⟨f.out.here,F.out.here,G.out.here,I.out.here,J.out.here,z.out.here,E.out.here,D.out.here⟩ ?_
 clear hK K
 try simp only [ac]
 refine aa.q 58 ⟨some 105,_,_,_,_,_⟩ ⟨f.out.here,F.out.here,G.out.here,I.out.here,J.out.here,z.out.here,E.out.here,D.out.here⟩ ?_
 try simp only [ac]
 refine aa.q 59 ⟨some 2,_,_,_,_,_⟩ ⟨f.out.here,F.out.here,G.out.here,I.out.here,J.out.here,z.out.here,E.out.here,D.out.here⟩ ?_
 try simp only [ac]
 refine aa.done (by kernel_rfl) ?_ _
 refine NoPanic.normal ?_
 go_wp2_with fail
 try go_ret
 try rw [Exit.noGoto_ret]
 first | exact ⟨rfl,by first | exact aA.out _ M.out | (rw [ax]; exact aA.out _ M.out)⟩ | exact bodyPost_ret (v:=.bool (true)) (by simp [results,Tryz.results3,go_sem]) rfl ⟨rfl,by first | exact aA.out _ M.out | (rw [ax]; exact aA.out _ M.out)⟩
end Go.Proofs.YtmapkbdjnnionaaGreatDoor
