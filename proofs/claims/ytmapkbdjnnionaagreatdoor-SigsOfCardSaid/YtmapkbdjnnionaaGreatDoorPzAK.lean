import Derived.Test.YtmapkbdjnnionaaGreatDoorPzAJ
import Derived.Deep.DeepCutAuto
set_option maxRecDepth 100000
set_option maxHeartbeats 8000000
set_option linter.all false
namespace Go.Proofs.YtmapkbdjnnionaaGreatDoor
section
open Go.RowKit
theorem hi132 (b:List UInt8):Hid ((Tryz.prog.info? 139).map (·.size)=some (dv (wof b)).toArray.size):=by
 have h:(dv (wof b)).toArray.size=64:=by rw [dx]; exact wof_length b
 rw [h]; exact hid i132
theorem ho132 (b:List UInt8):Hid ((dv (List.replicate 64 0)).toArray.size=(dv (wof b)).toArray.size):=by
 have h:(dv (wof b)).toArray.size=64:=by rw [dx]; exact wof_length b
 rw [h]; exact hid rfl
theorem spread_any (b:List UInt8) (w:World) (hb:b.length=64) :
  Calls Tryz.prog 128 #[.agg (au b).toArray] w fun e w'=>e=.returned (.agg (dv (wof b)).toArray)∧Below w.heap.size w w':=by
 have V:=hid hb
 clear hb
 go_enter Tryz.func128,Tryz.ntmps128
 go_wp2_with fail
 have f:=hid (Spr.init w b)
 have G:(dv (List.replicate 64 0)).toArray=#[.int .u32 0,.int .u32 0,.int .u32 0,.int .u32 0,.int .u32 0,.int .u32 0,.int .u32 0,.int .u32 0,.int .u32 0,.int .u32 0,.int .u32 0,.int .u32 0,.int .u32 0,.int .u32 0,.int .u32 0,.int .u32 0,.int .u32 0,.int .u32 0,.int .u32 0,.int .u32 0,.int .u32 0,.int .u32 0,.int .u32 0,.int .u32 0,.int .u32 0,.int .u32 0,.int .u32 0,.int .u32 0,.int .u32 0,.int .u32 0,.int .u32 0,.int .u32 0,.int .u32 0,.int .u32 0,.int .u32 0,.int .u32 0,.int .u32 0,.int .u32 0,.int .u32 0,.int .u32 0,.int .u32 0,.int .u32 0,.int .u32 0,.int .u32 0,.int .u32 0,.int .u32 0,.int .u32 0,.int .u32 0,.int .u32 0,.int .u32 0,.int .u32 0,.int .u32 0,.int .u32 0,.int .u32 0,.int .u32 0,.int .u32 0,.int .u32 0,.int .u32 0,.int .u32 0,.int .u32 0,.int .u32 0,.int .u32 0,.int .u32 0,.int .u32 0]:=rfl
 rw [← G]
 clear G
 generalize ((w.alloc (.cells (au b).toArray 133)).alloc (.cells (dv (List.replicate 64 0)).toArray 139)).alloc (.cells (dv (List.replicate 64 0)).toArray 139)=w0 at *
 go_loopw [8] (fun i wr=>∃ (k:Nat) (l:List Nat),k≤64∧i=.int .i64 k∧Hid (Spr w b l wr)∧Hid (l.length=64)∧Hid (∀ j,j<64→aZ l j=dR b k j)) (fun i _=>64 - (intOf i).toNat)
 case atStart=>exact ⟨0,List.replicate 64 0,by omega,rfl,f,hid (by simp),hid (fun j I=>by rw [part_none,at_lt (by simpa using I),List.getElem_replicate])⟩
 case round =>
  obtain ⟨k,l,hk,rfl,f,z,F⟩:=hrel
  by_cases L:k<64
  ·obtain ⟨q,hq⟩:∃ q:Nat,q=k / 4:=⟨_,rfl⟩
   have aN:(k:Int) / 4=(q:Int):=by omega
   have aJ:q<16:=by omega
   have HQ:=hid hq
   clear hq
   have cw:=f.out.l.cell q (by have:=z.out; omega)
   have cf:=f.out.l.frozen q
   have cb:=f.out.b.cell k (by have:=V.out; omega)
   rw [F.out q (by omega)] at cw
   have HP:=hid (p:=dR b k q<16777216) (by rw [HQ.out]; exact part_lt b k)
   have aA:=hid (part_step b k (by have:=V.out; omega))
   have aI:=hid ((b[k]'(by have:=V.out; omega)).toNat_lt)
   generalize (b[k]'(by have:=V.out; omega)).toNat=x at *
   have aB:=hid (p:=dR b k q=dR b k q) rfl
   generalize J:dR b k q=t at cw HP
   have HT:=hid J
   clear J aB
   have HO:=hid (or_step t x HP.out aI.out)
   go_wp2
   go_region
   go_wp2
   go_roundw
   case rel =>
    refine ⟨k+1,l.set q (t * 256+x),by omega,by go_num,?_,hid (by rw [List.length_set]; exact z.out),hid ?_⟩
    ·have:=(f.out.set q (t * 256+x)).drew
     rw [← HO.out] at this
     exact hid this
    ·intro j I
     rw [at_set _ _ _ _ (by have:=z.out; omega),aA.out j,F.out j I,← HQ.out]
     by_cases h:j=q
     ·subst h; rw [if_pos rfl,if_pos rfl,HT.out]
     ·rw [if_neg h,if_neg h]
   case measure=>simp [intOf]; omega
  ·obtain rfl:k=64:=by omega
   have Y:=hid (p:=∀ j,j<64→aZ l j=aZ (ext (own b 16) 0) j) (fun j I=>by rw [F.out j I,part_all b V.out]; rfl)
   clear F
   go_wp2
   go_loopw [5] (fun i wr=>∃ (k:Nat) (l:List Nat),16≤k∧k≤64∧i=.int .i64 k∧Hid (Spr w b l wr)∧Hid (l.length=64)∧Hid (∀ j,j<64→aZ l j=aZ (ext (own b 16) (k - 16)) j)) (fun i _=>64 - (intOf i).toNat)
   case atStart=>exact ⟨16,l,by omega,by omega,rfl,f,z,Y⟩
   case round =>
    clear f z Y
    obtain ⟨k,l,hk0,hk,rfl,f,z,F⟩:=hrel
    by_cases L:k<64
    ·have HF:=spr_facts f.out z.out F.out hk0 L
     have HK:=hid hk0
     have bW:=hid hk
     clear hk0 hk
     obtain ⟨aL,ab,p7,p2,x,Z,v7,y,zx,zy,aK,K,ap,aQ,aM,l2,bV,c2,az,b2,ao,an,ay,R,ax,O,M,ar,w16,w7,al,i7,ik,ad,j7,jk,hS,HC,aE,aC,HV⟩:=HF
     go_wp2
     go_region
     go_wp2_with fail
     refine sp11_ok (hid f.out.drew) ab p7 x Z v7 y zx zy K ap az b2 ao an ay R ax O M ar w16 w7 al i7 ik ad j7 jk hS HC aE aC _ _ _ _ _ _ _ _ _ _ _ _ _ _ _ _ _ _ _ _ _ _ _ _ _ _ _ _ _ _ _ _ _ _ _ _ _ _ _ _ _ _ _ _ _ _ _ _ _ _ _ _ _ _ _ _ _ _ _ _ _ _ _ (hid ?_)
     intro bU bS bR bQ bP bO bN bK bI bG bA bz bx bv bu bq bp bo bn bm bk bd bb ba aW aU aT aS aR wn HN
     rw [HV.out]
     go_wp2
     go_roundw
     case rel =>
      have h0:=HK.out
      refine ⟨k+1,l.set k (nxw (ext (own b 16) (k - 16))),by omega,by omega,by go_num,hid (HN.out.set _ _),hid (by rw [List.length_set]; exact z.out),hid ?_⟩
      intro j I
      rw [at_set _ _ _ _ (by have:=z.out; omega),show k+1 - 16=(k - 16)+1 by omega,ext,at_end,ext_length,dF,show 16+(k - 16)=k by omega]
      by_cases h:j=k
      ·rw [if_pos h,if_pos h]
      ·rw [if_neg h,if_neg h,F.out j I]
     case measure=>simp [intOf]; omega
    ·obtain rfl:k=64:=by omega
     have hl:l=wof b:=by
      refine eq_of_at (by rw [z.out,wof_length]) (fun j I=>?_)
      rw [F.out j (by have:=z.out; omega)]; rfl
     have U:Hid (Spr w b (wof b) wr):=hid (hl ▸ f.out)
     clear F z f hl
     have f:=U
     clear U
     have HI:=hi132 b
     have HO:=ho132 b
     have HZ:=hid (f.out.z.row (m:=wof b))
     have aG:=hid (p:=Below w.heap.size w (wr.setRow (w.heap.size+1) (dv (wof b)).toArray)) (below_setRow f.out.below (Nat.le_succ _) _)
     go_upto_region 12 with fail
     have bX:=dv_all (wof b)
     have E:=f.out.l
     have D:=f.out.z
     unfold Us at E D
     have E:=hid E
     have D:=hid D
     generalize (dv (wof b)).toArray=dw at *
     go_wp2_with (first | (refine wpList_load_row rfl 139 (.tmp 3) rfl (w.heap.size+1+1) rfl 139 dw (0,0) _ E.out Tryz.underlying139 rfl HI.out ?_) | (refine wpList_store_row rfl 139 (.tmp 2) (.tmp 66) rfl (w.heap.size+1) dw rfl rfl 139 _ D.out HI.out HO.out (by assumption) ?_))
     exact bodyPost_ret (v:=.agg (dv (wof b)).toArray) (results_cell_row (p:=2) (ty:=139) Tryz.results128 _ _ (w.heap.size+1) 139 (dv (wof b)).toArray (0,0) _ rfl HZ.out Tryz.underlying139 rfl (hi132 b).out) rfl ⟨rfl,aG.out⟩
def Kt (w:World):Prop:=∀ j,j<64→w.cell? ⟨2,j,none⟩=some (.int .u32 (aZ kk j:Nat))
theorem Kt.lt {w:World} (h:Kt w):2<w.heap.size:=World.block_lt_of_cell? w ⟨2,0,none⟩ (h 0 (by decide))
theorem Kt.on {w w':World} (h:Kt w) (hb:Below w.heap.size w w'):Kt w':=fun j f=>(hb.cell (p:=⟨2,j,none⟩) h.lt).trans (h j f)
noncomputable def tk6:Code:=((Tryz.f117.body.bind (bM 6)).getD .skip)
theorem not32 (e:Nat) (f:e<4294967296):4294967295 ^^^ e=4294967295 - e:=by
 apply Nat.eq_of_testBit_eq
 intro i
 rw [show 4294967295 - e=2 ^ 32 - (e+1) by omega,Nat.testBit_two_pow_sub_succ (by omega),Nat.testBit_xor,show 4294967295=2 ^ 32 - 1 by decide,Nat.testBit_two_pow_sub_one]
 rcases Nat.lt_or_ge i 32 with h | h
 ·simp [h]
 ·have:e.testBit i=false:=Nat.testBit_lt_two_pow (Nat.lt_of_lt_of_le f (Nat.pow_le_pow_right (n:=2) (i:=32) (by decide) h))
  rw [this]; simp
theorem t_eq (e f g h E D:Nat) (z:e<4294967296) (hf:f<4294967296) (F:g<4294967296) (m:Nat) :
  IntKind.u32.wrap (IntKind.u32.wrap (IntKind.u32.wrap (IntKind.u32.wrap ((h:Int)+(m:Int))+bits BinOp.or IntKind.u32 (bits BinOp.and IntKind.u32 (e:Int) (f:Int)) (bits BinOp.and IntKind.u32 (bits BinOp.xor IntKind.u32 IntKind.u32.max (e:Int)) (g:Int)))+(E:Int))+(D:Int))=((((((h+m) % 4294967296+cho e f g) % 4294967296+E) % 4294967296+D) % 4294967296:Nat):Int):=by
 have G:bits BinOp.xor IntKind.u32 IntKind.u32.max (e:Int)=((4294967295 - e:Nat):Int):=by
  rw [← not32 e z]; exact u32_xor_nat 4294967295 e (by decide) z
 rw [G,u32_and_nat e f z hf,u32_and_nat (4294967295 - e) g (by omega) F,u32_or_nat _ _ (and_lt _ z) (and_lt _ (by omega)),IntKind.wrap_u32,IntKind.wrap_u32,IntKind.wrap_u32,IntKind.wrap_u32]
 unfold cho
 omega
theorem tk6_ok {wr:World} {g3 i e f g h kv wv tv:Nat} {Q:Exit→Act→World→Prop} (be:e<4294967296) (b6:br e 6<4294967296) (ec:br e 11<4294967296) (eb:br e 25<4294967296)
  (ee:(i:Int)<64) (i0:(0:Int)≤i) (wi:IntKind.i64.wrap (i:Int)=(i:Int))
  (hS:wr.cell? ⟨2,i,none⟩=some (.int .u32 (kv:Int))∧wr.cell? ⟨g3,i,none⟩=some (.int .u32 (wv:Int))∧2<wr.heap.size∧g3<wr.heap.size) (ed:Hid (∀ (W:World) (o:Obj),(W.cell? ⟨2,i,none⟩=some (.int .u32 (kv:Int))∧W.cell? ⟨g3,i,none⟩=some (.int .u32 (wv:Int))∧2<W.heap.size∧g3<W.heap.size)→((W.alloc o).cell? ⟨2,i,none⟩=some (.int .u32 (kv:Int))∧(W.alloc o).cell? ⟨g3,i,none⟩=some (.int .u32 (wv:Int))∧2<(W.alloc o).heap.size∧g3<(W.alloc o).heap.size)))
  (HT:Hid (IntKind.u32.wrap (IntKind.u32.wrap (IntKind.u32.wrap (IntKind.u32.wrap ((h:Int)+((br e 6 ^^^ br e 11 ^^^ br e 25:Nat):Int))+bits BinOp.or IntKind.u32 (bits BinOp.and IntKind.u32 (e:Int) (f:Int)) (bits BinOp.and IntKind.u32 (bits BinOp.xor IntKind.u32 IntKind.u32.max (e:Int)) (g:Int)))+(kv:Int))+(wv:Int))=(tv:Int)))
  (c0 c1 c2 c3 c4 c6 c7 c8 c9 ea co cn cm cl ck cj cf cd cc cb ca bZ bY bX bW bV bU bS bR bQ bP bO bN bK dZ dY dX dW dV dU dT dO dN dG dC dB dA dz dy dw ds dr dm dk df de dd dc db da cZ bI bG bA bz bx bv bu bq bp bo bn bm bk bd bb ba aW aU aT aS aR aQ aN aM aL aK aJ aI aG aC aB aA az ay ax ar ap ao an al ad ab Z Y V U R O M J I G F E:Value)
  (hQ:Hid (∀ (cY cX cW cV cU cT cS cR cQ cP cO cN cI cH cE cB cA cz cy cx cw cv cu ct cs cq cp:Value) (wn:World),Hid (Below wr.heap.size wr wn)→Q .normal ⟨#[c0,c1,c2,c3,c4,.pointer (some ⟨g3,0,none⟩),c6,c7,c8,c9,.int .u32 (e:Int),.int .u32 (f:Int),.int .u32 (g:Int),.int .u32 (h:Int),.int .i64 (i:Int),.int .u32 (tv:Int),co,cn,cm,cl,ck,cj,cf,cd,cc,cb,ca,bZ,bY,bX,bW,bV,bU,bS,bR,bQ,bP,bO,bN,bK,cY,cX,cW,cV,cU,cT,cS,cR,cQ,cP,cO,cN,cI,cH,cE,cB,cA,cz,cy,cx,cw,cv,cu,ct,cs,cq,cp,bI,bG,bA,bz,bx,bv,bu,bq,bp,bo,bn,bm,bk,bd,bb,ba,aW,aU,aT,aS,aR,aQ,aN,aM,aL,aK,aJ,aI,aG,aC,aB,aA,az,ay,ax,ar,ap,ao,an,al,ad,ab,Z,Y,V,U,R,O,M,J,I,G,F,E],[]⟩ wn)) :
  Code.wp Tryz.prog tk6 Q ⟨#[c0,c1,c2,c3,c4,.pointer (some ⟨g3,0,none⟩),c6,c7,c8,c9,.int .u32 (e:Int),.int .u32 (f:Int),.int .u32 (g:Int),.int .u32 (h:Int),.int .i64 (i:Int),ea,co,cn,cm,cl,ck,cj,cf,cd,cc,cb,ca,bZ,bY,bX,bW,bV,bU,bS,bR,bQ,bP,bO,bN,bK,dZ,dY,dX,dW,dV,dU,dT,dO,dN,dG,dC,dB,dA,dz,dy,dw,ds,dr,dm,dk,df,de,dd,dc,db,da,cZ,bI,bG,bA,bz,bx,bv,bu,bq,bp,bo,bn,bm,bk,bd,bb,ba,aW,aU,aT,aS,aR,aQ,aN,aM,aL,aK,aJ,aI,aG,aC,aB,aA,az,ay,ax,ar,ap,ao,an,al,ad,ab,Z,Y,V,U,R,O,M,J,I,G,F,E],[]⟩ wr:=by
 conv=>arg 2; whnf
 have z:wr.drew.cell? ⟨2,i,none⟩=some (.int .u32 (kv:Int))∧wr.drew.cell? ⟨g3,i,none⟩=some (.int .u32 (wv:Int))∧2<wr.drew.heap.size∧g3<wr.drew.heap.size:=hS
 refine wp_region_noPanic ?_
 refine aa.region (fun (L:Array Bool) (w':World)=>w'.cell? ⟨2,i,none⟩=some (.int .u32 (kv:Int))∧w'.cell? ⟨g3,i,none⟩=some (.int .u32 (wv:Int))∧2<w'.heap.size∧g3<w'.heap.size) (by as_aux_lemma=>kernel_rfl) ?_
 refine aa.q 0 ⟨some 40,_,_,_,_,_⟩ z ?_
 try simp only [ac]
 refine aa.q 1 ⟨some 41,_,_,_,_,_⟩ z ?_
 try simp only [ac]
 refine aa.q 3 ⟨some 43,_,_,_,_,_⟩ z ?_
 try simp only [ac]
 refine aa.q 5 ⟨some 45,_,_,_,_,_⟩ z ?_
 try simp only [ac]
 refine aa.q 10 ⟨some 50,_,_,_,_,_⟩ z ?_
 try simp only [ac]
 refine aa.q 11 ⟨some 51,_,_,_,_,_⟩ z ?_
 try simp only [ac]
 refine aa.q 12 ⟨some 52,_,_,_,_,_⟩ z ?_
 try simp only [ac]
 refine aa.q 13 ⟨some 53,_,_,_,_,_⟩ z ?_
 try simp only [ac]
 refine aa.q 14 ⟨some 54,_,_,_,_,_⟩ z ?_
 try simp only [ac]
 refine aa.q 15 ⟨some 55,_,_,_,_,_⟩ z ?_
 try simp only [ac]
 refine aa.q 16 ⟨some 56,_,_,_,_,_⟩ z ?_
 try simp only [ac]
 refine aa.q 17 ⟨some 57,_,_,_,_,_⟩ z ?_
 try simp only [ac]
 refine aa.q 19 ⟨some 59,_,_,_,_,_⟩ z ?_
 try simp only [ac]
 refine aa.q 20 ⟨some 60,_,_,_,_,_⟩ z ?_
 try simp only [ac]
 refine aa.tk (i:=21) (o:=⟨some 61,_,_,_,_,_⟩) (v:=?_) [] (y:=Or.inl ⟨by rfl,?_⟩) (s:=z) (H:=?_)
 rotate_left
 ·intro w hY; obtain ⟨up,hL⟩:=hY; have hX:=hL.2.1; clear hL; (try dsimp only at hX); go_simp; try with_reducible rfl
 try simp only [ac]
 refine aa.q 23 ⟨some 63,_,_,_,_,_⟩ z ?_
 try simp only [ac]
 refine aa.q 24 ⟨some 64,_,_,_,_,_⟩ z ?_
 try simp only [ac]
 refine aa.tk (i:=25) (o:=⟨some 65,_,_,_,_,_⟩) (v:=?_) [] (y:=Or.inl ⟨by rfl,?_⟩) (s:=z) (H:=?_)
 rotate_left
 ·intro w hY; obtain ⟨up,hL⟩:=hY; have hX:=hL.2.2.1; clear hL; (try dsimp only at hX); go_simp; try with_reducible rfl
 try simp only [ac]
 refine aa.one (i:=2) (o:=⟨some 42,_,_,_,_,_⟩) (by as_aux_lemma=>kernel_rfl) rfl (fun K D=>?_)
 go_simp
 with_reducible refine (turn_6 _ _ be).mono ?_
 rintro e' wa ⟨rfl,rfl⟩
 go_wp2_with fail
 refine D.out _ _ z ?_
 clear D K
 try simp only [ac]
 refine aa.one (i:=4) (o:=⟨some 44,_,_,_,_,_⟩) (by as_aux_lemma=>kernel_rfl) rfl (fun K D=>?_)
 go_simp
 with_reducible refine (turn_11 _ _ be).mono ?_
 rintro e' wb ⟨rfl,rfl⟩
 go_wp2_with fail
 refine D.out _ _ z ?_
 clear D K
 try simp only [ac]
 refine aa.one (i:=6) (o:=⟨some 46,_,_,_,_,_⟩) (by as_aux_lemma=>kernel_rfl) rfl (fun K D=>?_)
 go_simp
 with_reducible refine (turn_25 _ _ be).mono ?_
 rintro e' wc ⟨rfl,rfl⟩
 go_wp2_with fail
 refine D.out _ _ z ?_
 clear D K
 try simp only [ac]
 refine aa.one (i:=7) (o:=⟨some 47,_,_,_,_,_⟩) (by as_aux_lemma=>kernel_rfl) rfl (fun K D=>?_)
 go_simp
 have T1:Hid (Tri ((wr.alloc (.cells #[.int .u32 (br e 6:Nat),.int .u32 (br e 11:Nat),.int .u32 (br e 25:Nat)] 70)).drew) wr.heap.size _ _ _):=hid (Tri.n1 wr _ _ _)
 have aE:((wr.alloc (.cells #[.int .u32 (br e 6:Nat),.int .u32 (br e 11:Nat),.int .u32 (br e 25:Nat)] 70)).drew).cell? ⟨2,i,none⟩=some (.int .u32 (kv:Int))∧((wr.alloc (.cells #[.int .u32 (br e 6:Nat),.int .u32 (br e 11:Nat),.int .u32 (br e 25:Nat)] 70)).drew).cell? ⟨g3,i,none⟩=some (.int .u32 (wv:Int))∧2<((wr.alloc (.cells #[.int .u32 (br e 6:Nat),.int .u32 (br e 11:Nat),.int .u32 (br e 25:Nat)] 70)).drew).heap.size∧g3<((wr.alloc (.cells #[.int .u32 (br e 6:Nat),.int .u32 (br e 11:Nat),.int .u32 (br e 25:Nat)] 70)).drew).heap.size:=ed.out wr _ hS
 refine D.out _ _ aE ?_
 have HW:Hid (Below wr.heap.size wr ((wr.alloc (.cells #[.int .u32 (br e 6:Nat),.int .u32 (br e 11:Nat),.int .u32 (br e 25:Nat)] 70)).drew)):=hid (((Below.refl _ _).alloc (Nat.le_refl _) _).drew)
 clear D K z hS
 generalize (wr.alloc (.cells #[.int .u32 (br e 6:Nat),.int .u32 (br e 11:Nat),.int .u32 (br e 25:Nat)] 70)).drew=w1 at *
 generalize wr.heap.size=s1 at *
 have z:=aE
 clear aE
 try simp only [ac]
 refine aa.one (i:=8) (o:=⟨some 48,_,_,_,_,_⟩) (by as_aux_lemma=>kernel_rfl) rfl (fun K D=>?_)
 go_simp
 with_reducible refine (mix_any _ _ _ _ _ T1.out b6 ec eb).mono ?_
 rintro e' wd ⟨rfl,rfl⟩
 go_wp2_with fail
 refine D.out _ _ z ?_
 clear D K
 try simp only [ac]
 refine aa.q 9 ⟨some 49,_,_,_,_,_⟩ z ?_
 try simp only [ac]
 refine aa.q 18 ⟨some 58,_,_,_,_,_⟩ z ?_
 try simp only [ac]
 refine aa.q 22 ⟨some 62,_,_,_,_,_⟩ z ?_
 try simp only [ac]
 refine aa.q 26 ⟨some 66,_,_,_,_,_⟩ z ?_
 try simp only [ac]
 refine aa.q 27 ⟨some 15,_,_,_,_,_⟩ z ?_
 try simp only [ac]
 refine aa.done (by as_aux_lemma=>kernel_rfl) ?_ _
 refine NoPanic.normal ?_
 rw [HT.out]
 exact hQ.out _ _ _ _ _ _ _ _ _ _ _ _ _ _ _ _ _ _ _ _ _ _ _ _ _ _ _ _ HW
end
end Go.Proofs.YtmapkbdjnnionaaGreatDoor
