import Derived.Test.YtmapkbdjnnionaaGreatDoorPzAI
import Derived.Test.YtmapkbdjnnionaaGreatDoorPzAH
set_option maxRecDepth 100000
set_option maxHeartbeats 8000000
set_option linter.all false
namespace Go.Proofs.YtmapkbdjnnionaaGreatDoor
open Go.RowKit
theorem i132:(Tryz.prog.info? 139).map (·.size)=some 64:=by kernel_rfl
theorem dv_all (l:List Nat):(dv l).toArray.all (·.oneCell')=true:=all_oneCell_toArray (dv_one l)
theorem dx (l:List Nat):(dv l).toArray.size=l.length:=by simp [dv]
theorem Us.row {w:World} {g:Nat} {t:TypeId} {l m:List Nat} (h:Us w g t l):Us (w.setRow g (dv m).toArray) g t m:=setRow_heap w g _ _ t (0,0) h
structure Spr (w:World) (b:List UInt8) (l:List Nat) (w':World):Prop where
 below:Below w.heap.size w w'
 b:Bt w' w.heap.size 133 b
 z:Us w' (w.heap.size+1) 139 (List.replicate 64 0)
 l:Us w' (w.heap.size+1+1) 139 l
theorem Spr.init (w:World) (b:List UInt8):Spr w b (List.replicate 64 0) (((w.alloc (.cells (au b).toArray 133)).alloc (.cells (dv (List.replicate 64 0)).toArray 139)).alloc (.cells (dv (List.replicate 64 0)).toArray 139)):=by
 have s1:∀ (w:World) (o:Obj),(w.alloc o).heap.size=w.heap.size+1:=fun w o=>Array.size_push _
 refine ⟨(((Below.refl _ _).alloc (by simp) _).alloc (by rw [s1]; omega) _).alloc (by rw [s1,s1]; omega) _,?_,?_,?_⟩
 ·exact Bt.alloc (Bt.alloc (heap_alloc_new _ _) _) _
 ·have:Us ((w.alloc (.cells (au b).toArray 133)).alloc (.cells (dv (List.replicate 64 0)).toArray 139)) (w.heap.size+1) 139 (List.replicate 64 0):=by rw [← s1 w]; exact heap_alloc_new _ _
  exact this.alloc _
 ·rw [← s1 w (.cells (au b).toArray 133),← s1 _ (.cells (dv (List.replicate 64 0)).toArray 139)]; exact heap_alloc_new _ _
theorem Spr.set {w w':World} {b:List UInt8} {l:List Nat} (h:Spr w b l w') (k v:Nat):Spr w b (l.set k v) (w'.setCell ⟨w.heap.size+1+1,k,none⟩ (.int .u32 (v:Int))) :=
 ⟨h.below.setCell (by simp; omega) _,h.b.other _ (by omega),h.z.other _ (by omega),h.l.set k v⟩
theorem Spr.on {w w' w2:World} {b:List UInt8} {l:List Nat} (h:Spr w b l w') (hb:Below w'.heap.size w' w2):Spr w b l w2 :=
 ⟨h.below.trans (hb.mono (Nat.le_of_lt h.b.lt)),h.b.on hb,h.z.on hb,h.l.on hb⟩
theorem Spr.drew {w w':World} {b:List UInt8} {l:List Nat} (h:Spr w b l w'):Spr w b l w'.drew:=⟨h.below.drew,h.b,h.z,h.l⟩
theorem Spr.alloc {w w':World} {b:List UInt8} {l:List Nat} (h:Spr w b l w') (o:Obj):Spr w b l (w'.alloc o):=⟨h.below.alloc (Nat.le_of_lt h.b.lt) o,h.b.alloc o,h.z.alloc o,h.l.alloc o⟩
theorem Tri.new (w:World) (a b c:Nat):Tri (w.alloc (.cells #[.int .u32 (a:Int),.int .u32 (b:Int),.int .u32 (c:Int)] 70)) w.heap.size a b c:=by
 have h:=heap_alloc_new w (.cells #[.int .u32 (a:Int),.int .u32 (b:Int),.int .u32 (c:Int)] 70)
 exact ⟨by rw [cell_of_row _ _ 0 _ 70 (0,0) h]; rfl,by rw [cell_of_row _ _ 1 _ 70 (0,0) h]; rfl,by rw [cell_of_row _ _ 2 _ 70 (0,0) h]; rfl⟩
theorem Tri.n1 (w:World) (a b c:Nat):Tri (w.alloc (.cells #[.int .u32 (a:Int),.int .u32 (b:Int),.int .u32 (c:Int)] 70)).drew w.heap.size a b c:=Tri.new w a b c
theorem Tri.n2 (w:World) (A:Obj) (a b c:Nat):Tri ((w.alloc A).alloc (.cells #[.int .u32 (a:Int),.int .u32 (b:Int),.int .u32 (c:Int)] 70)).drew (w.heap.size+1) a b c:=by
 have h:=Tri.new (w.alloc A) a b c
 rwa [show (w.alloc A).heap.size=w.heap.size+1 from Array.size_push _] at h
theorem spr_facts {w wr:World} {b:List UInt8} {l:List Nat} {k:Nat} (I:Spr w b l wr) (HL:l.length=64) (J:∀ j,j<64→aZ l j=aZ (ext (own b 16) (k - 16)) j) (hk0:16≤k) (R:k<64) :
  ∃ F f D M x z E y L K:Nat,(k:Int) - 15=(F:Int)∧(k:Int) - 16=(f:Int)∧(k:Int) - 7=(D:Int)∧(k:Int) - 2=(M:Int)∧F<64∧M<64∧
   wr.cell? ⟨w.heap.size+1+1,F,none⟩=some (.int .u32 (x:Int))∧wr.cell? ⟨w.heap.size+1+1,M,none⟩=some (.int .u32 (y:Int))∧
   x<4294967296∧y<4294967296∧(x:Int) / 8=(L:Int)∧(y:Int) / 1024=(K:Int)∧br x 7<4294967296∧br x 18<4294967296∧L<4294967296∧br y 17<4294967296∧br y 19<4294967296∧K<4294967296∧
   IntKind.i64.wrap (f:Int)=(f:Int)∧IntKind.i64.wrap (D:Int)=(D:Int)∧(f:Int)<64∧(D:Int)<64∧(k:Int)<64∧(0:Int)≤f∧(0:Int)≤D∧(0:Int)≤k∧
   (wr.cell? ⟨w.heap.size+1+1,f,none⟩=some (.int .u32 (z:Int))∧wr.cell? ⟨w.heap.size+1+1,D,none⟩=some (.int .u32 (E:Int))∧w.heap.size+1+1<wr.heap.size)∧
   Hid (∀ W:World,Spr w b l W→(W.cell? ⟨w.heap.size+1+1,f,none⟩=some (.int .u32 (z:Int))∧W.cell? ⟨w.heap.size+1+1,D,none⟩=some (.int .u32 (E:Int))∧w.heap.size+1+1<W.heap.size)∧W.cell? ⟨w.heap.size+1+1,k,none⟩=some (.int .u32 (aZ l k:Nat))∧W.frozen? ⟨w.heap.size+1+1,k,none⟩=false)∧
   Hid (∀ (W:World) (o:Obj),(W.cell? ⟨w.heap.size+1+1,f,none⟩=some (.int .u32 (z:Int))∧W.cell? ⟨w.heap.size+1+1,D,none⟩=some (.int .u32 (E:Int))∧w.heap.size+1+1<W.heap.size)→((W.alloc o).cell? ⟨w.heap.size+1+1,f,none⟩=some (.int .u32 (z:Int))∧(W.alloc o).cell? ⟨w.heap.size+1+1,D,none⟩=some (.int .u32 (E:Int))∧w.heap.size+1+1<(W.alloc o).heap.size))∧
   Hid (∀ (W:World) (v:Value),(W.cell? ⟨w.heap.size+1+1,f,none⟩=some (.int .u32 (z:Int))∧W.cell? ⟨w.heap.size+1+1,D,none⟩=some (.int .u32 (E:Int))∧w.heap.size+1+1<W.heap.size)→((W.setCell ⟨w.heap.size+1+1,k,none⟩ v).cell? ⟨w.heap.size+1+1,f,none⟩=some (.int .u32 (z:Int))∧(W.setCell ⟨w.heap.size+1+1,k,none⟩ v).cell? ⟨w.heap.size+1+1,D,none⟩=some (.int .u32 (E:Int))∧w.heap.size+1+1<(W.setCell ⟨w.heap.size+1+1,k,none⟩ v).heap.size))∧
   Hid (IntKind.u32.wrap (IntKind.u32.wrap (IntKind.u32.wrap ((z:Int)+((br x 7 ^^^ br x 18 ^^^ L:Nat):Int))+(E:Int))+((br y 17 ^^^ br y 19 ^^^ K:Nat):Int))=((nxw (ext (own b 16) (k - 16)):Nat):Int)):=by
 have Z:Sm (ext (own b 16) (k - 16)):=ext_sm (own_sm b 16) _
 have V:(ext (own b 16) (k - 16)).length=k:=by rw [ext_length,dF]; omega
 have lt:∀ j,j<64→aZ l j<4294967296:=fun j U=>by rw [J j U]; exact at_sm Z _
 have G:=lt (k - 15) (by omega)
 have O:=lt (k - 2) (by omega)
 refine ⟨k - 15,k - 16,k - 7,k - 2,aZ l (k - 15),aZ l (k - 16),aZ l (k - 7),aZ l (k - 2),aZ l (k - 15) / 8,aZ l (k - 2) / 1024,by omega,by omega,by omega,by omega,by omega,by omega,
  I.l.cell _ (by omega),I.l.cell _ (by omega),G,O,by omega,by omega,bJ 7 G,bJ 18 G,by omega,bJ 17 O,bJ 19 O,by omega,
  by rw [IntKind.wrap_i64]; omega,by rw [IntKind.wrap_i64]; omega,by omega,by omega,by omega,by omega,by omega,by omega,⟨I.l.cell _ (by omega),I.l.cell _ (by omega),I.l.lt⟩,
  hid (fun W h=>⟨⟨h.l.cell _ (by omega),h.l.cell _ (by omega),h.l.lt⟩,h.l.cell _ (by omega),h.l.frozen _⟩),
  hid (fun W o h=>⟨by rw [World.cell?_alloc_lt _ _ _ h.2.2]; exact h.1,by rw [World.cell?_alloc_lt _ _ _ h.2.2]; exact h.2.1,by have:=h.2.2; simp; omega⟩),
  hid (fun W v h=>⟨by rw [World.cell?_setCell_other _ _ _ _ (by simp; try omega)]; exact h.1,by rw [World.cell?_setCell_other _ _ _ _ (by simp; try omega)]; exact h.2.1,by have:=h.2.2; simp; omega⟩),hid ?_⟩
 have Y:nxw (ext (own b 16) (k - 16))=(((aZ l (k - 16)+s0 (aZ l (k - 15))) % 4294967296+aZ l (k - 7)) % 4294967296+s1 (aZ l (k - 2))) % 4294967296:=by
  rw [nxw,V,J (k - 16) (by omega),J (k - 15) (by omega),J (k - 7) (by omega),J (k - 2) (by omega)]
 rw [Y,s0,s1,show (2:Nat) ^ 3=8 by decide,show (2:Nat) ^ 10=1024 by decide,IntKind.wrap_u32,IntKind.wrap_u32,IntKind.wrap_u32]
 omega
def bM (n:Nat):Code→Option Code
 | .region i ops d=>if i=n then some (.region i ops d) else none
 | .seq a b=>match bM n a with
  | some c=>some c
  | none=>bM n b
 | .block _ c=>bM n c
 | .scope c=>bM n c
 | .loop c=>bM n c
 | .cond _ a b=>match bM n a with
  | some c=>some c
  | none=>bM n b
 | _=>none
noncomputable def sp11:Code:=((Tryz.f128.body.bind (bM 11)).getD .skip)
theorem sp11_ok {w wr:World} {b:List UInt8} {l:List Nat} {k:Nat} {Q:Exit→Act→World→Prop} (HS:Hid (Spr w b l wr)) (z F x E G y J I:Nat) (cZ:(k:Int) - 16=(z:Int)) (de:(k:Int) - 7=(F:Int))
  (bb:x<4294967296) (b2:y<4294967296) (dd:(x:Int) / 8=(J:Int)) (dc:(y:Int) / 1024=(I:Int)) (cX:br x 7<4294967296) (ba:br x 18<4294967296) (cW:J<4294967296) (aW:br y 17<4294967296) (aU:br y 19<4294967296) (cV:I<4294967296)
  (w16:IntKind.i64.wrap (z:Int)=(z:Int)) (w7:IntKind.i64.wrap (F:Int)=(F:Int)) (db:(z:Int)<64) (i7:(F:Int)<64) (ik:(k:Int)<64) (da:(0:Int)≤z) (j7:(0:Int)≤F) (jk:(0:Int)≤k)
  (hS:wr.cell? ⟨w.heap.size+1+1,z,none⟩=some (.int .u32 (E:Int))∧wr.cell? ⟨w.heap.size+1+1,F,none⟩=some (.int .u32 (G:Int))∧w.heap.size+1+1<wr.heap.size)
  (HC:Hid (∀ W:World,Spr w b l W→(W.cell? ⟨w.heap.size+1+1,z,none⟩=some (.int .u32 (E:Int))∧W.cell? ⟨w.heap.size+1+1,F,none⟩=some (.int .u32 (G:Int))∧w.heap.size+1+1<W.heap.size)∧W.cell? ⟨w.heap.size+1+1,k,none⟩=some (.int .u32 (aZ l k:Nat))∧W.frozen? ⟨w.heap.size+1+1,k,none⟩=false))
  (bm:Hid (∀ (W:World) (o:Obj),(W.cell? ⟨w.heap.size+1+1,z,none⟩=some (.int .u32 (E:Int))∧W.cell? ⟨w.heap.size+1+1,F,none⟩=some (.int .u32 (G:Int))∧w.heap.size+1+1<W.heap.size)→((W.alloc o).cell? ⟨w.heap.size+1+1,z,none⟩=some (.int .u32 (E:Int))∧(W.alloc o).cell? ⟨w.heap.size+1+1,F,none⟩=some (.int .u32 (G:Int))∧w.heap.size+1+1<(W.alloc o).heap.size)))
  (cY:Hid (∀ (W:World) (v:Value),(W.cell? ⟨w.heap.size+1+1,z,none⟩=some (.int .u32 (E:Int))∧W.cell? ⟨w.heap.size+1+1,F,none⟩=some (.int .u32 (G:Int))∧w.heap.size+1+1<W.heap.size)→((W.setCell ⟨w.heap.size+1+1,k,none⟩ v).cell? ⟨w.heap.size+1+1,z,none⟩=some (.int .u32 (E:Int))∧(W.setCell ⟨w.heap.size+1+1,k,none⟩ v).cell? ⟨w.heap.size+1+1,F,none⟩=some (.int .u32 (G:Int))∧w.heap.size+1+1<(W.setCell ⟨w.heap.size+1+1,k,none⟩ v).heap.size)))
  (c0 c1 c2 c4 c8 c9 aT aS aR aQ aN aM aL aK aJ aI aG aC aB aA az ay ax ar ap an al ad ab Z Y V U cU cT cS cR cQ cP cO cN cI cH cE cB cA cz cy cx cw cv cu ct cs cq cp co cn cm cl ck cj R:Value)
  (hQ:Hid (∀ (cf cd cc cb ca bZ bY bX bW bV bU bS bR bQ bP bO bN bK bI bG bA bz bx bv bu bq bp bo bn:Value) (wn:World),Hid (Spr w b l wn)→Q .normal ⟨#[c0,c1,c2,.pointer (some ⟨w.heap.size+1+1,0,none⟩),c4,.int .i64 (k:Int),.int .u32 (x:Int),.int .u32 (y:Int),c8,c9,aT,aS,aR,aQ,aN,aM,aL,aK,aJ,aI,aG,aC,aB,aA,az,ay,ax,ar,ap,an,al,ad,ab,Z,Y,V,U,cf,cd,cc,cb,ca,bZ,bY,bX,bW,bV,bU,bS,bR,bQ,bP,bO,bN,bK,bI,bG,bA,bz,bx,bv,bu,bq,bp,bo,bn,R],[]⟩ (wn.setCell ⟨w.heap.size+1+1,k,none⟩ (.int .u32 (IntKind.u32.wrap (IntKind.u32.wrap (IntKind.u32.wrap ((E:Int)+((br x 7 ^^^ br x 18 ^^^ J:Nat):Int))+(G:Int))+((br y 17 ^^^ br y 19 ^^^ I:Nat):Int)))))))  :
  Code.wp Tryz.prog sp11 Q ⟨#[c0,c1,c2,.pointer (some ⟨w.heap.size+1+1,0,none⟩),c4,.int .i64 (k:Int),.int .u32 (x:Int),.int .u32 (y:Int),c8,c9,aT,aS,aR,aQ,aN,aM,aL,aK,aJ,aI,aG,aC,aB,aA,az,ay,ax,ar,ap,an,al,ad,ab,Z,Y,V,U,cU,cT,cS,cR,cQ,cP,cO,cN,cI,cH,cE,cB,cA,cz,cy,cx,cw,cv,cu,ct,cs,cq,cp,co,cn,cm,cl,ck,cj,R],[]⟩ wr:=by
 conv=>arg 2; whnf
 have f:wr.drew.cell? ⟨w.heap.size+1+1,z,none⟩=some (.int .u32 (E:Int))∧wr.drew.cell? ⟨w.heap.size+1+1,F,none⟩=some (.int .u32 (G:Int))∧w.heap.size+1+1<wr.drew.heap.size:=hS
 refine wp_region_noPanic ?_
 refine aa.region (fun (L:Array Bool) (w':World)=>w'.cell? ⟨w.heap.size+1+1,z,none⟩=some (.int .u32 (E:Int))∧w'.cell? ⟨w.heap.size+1+1,F,none⟩=some (.int .u32 (G:Int))∧w.heap.size+1+1<w'.heap.size) (by as_aux_lemma=>kernel_rfl) ?_
 refine aa.q 0 ⟨some 37,_,_,_,_,_⟩ f ?_
 try simp only [ac]
 refine aa.q 1 ⟨some 38,_,_,_,_,_⟩ f ?_
 try simp only [ac]
 refine aa.q 2 ⟨some 39,_,_,_,_,_⟩ f ?_
 try simp only [ac]
 refine aa.q 3 ⟨some 40,_,_,_,_,_⟩ f ?_
 try simp only [ac]
 refine aa.tk (i:=4) (o:=⟨some 41,_,_,_,_,_⟩) (v:=?_) [] (y:=Or.inl ⟨by rfl,?_⟩) (s:=f) (H:=?_)
 rotate_left
 ·intro w hY; obtain ⟨up,O⟩:=hY; have hX:=O.2.1; clear O; (try dsimp only at hX); go_simp; try with_reducible rfl
 try simp only [ac]
 refine aa.q 5 ⟨some 42,_,_,_,_,_⟩ f ?_
 try simp only [ac]
 refine aa.q 7 ⟨some 44,_,_,_,_,_⟩ f ?_
 try simp only [ac]
 refine aa.q 9 ⟨some 46,_,_,_,_,_⟩ f ?_
 try simp only [ac]
 refine aa.q 10 ⟨some 47,_,_,_,_,_⟩ f ?_
 try simp only [ac]
 refine aa.q 14 ⟨some 51,_,_,_,_,_⟩ f ?_
 try simp only [ac]
 refine aa.q 15 ⟨some 52,_,_,_,_,_⟩ f ?_
 try simp only [ac]
 refine aa.q 16 ⟨some 53,_,_,_,_,_⟩ f ?_
 try simp only [ac]
 refine aa.tk (i:=17) (o:=⟨some 54,_,_,_,_,_⟩) (v:=?_) [] (y:=Or.inl ⟨by rfl,?_⟩) (s:=f) (H:=?_)
 rotate_left
 ·intro w hY; obtain ⟨up,O⟩:=hY; have hX:=O.2.2.1; clear O; (try dsimp only at hX); go_simp; try with_reducible rfl
 try simp only [ac]
 refine aa.q 19 ⟨some 56,_,_,_,_,_⟩ f ?_
 try simp only [ac]
 refine aa.q 21 ⟨some 58,_,_,_,_,_⟩ f ?_
 try simp only [ac]
 refine aa.q 23 ⟨some 60,_,_,_,_,_⟩ f ?_
 try simp only [ac]
 refine aa.q 24 ⟨some 61,_,_,_,_,_⟩ f ?_
 try simp only [ac]
 refine aa.one (i:=6) (o:=⟨some 43,_,_,_,_,_⟩) (by as_aux_lemma=>kernel_rfl) rfl (fun K D=>?_)
 go_simp
 with_reducible refine (turn_7 _ _ bb).mono ?_
 rintro e wa ⟨rfl,rfl⟩
 go_wp2_with fail
 refine D.out _ _ f ?_
 clear D K
 try simp only [ac]
 refine aa.one (i:=8) (o:=⟨some 45,_,_,_,_,_⟩) (by as_aux_lemma=>kernel_rfl) rfl (fun K D=>?_)
 go_simp
 with_reducible refine (turn_18 _ _ bb).mono ?_
 rintro e wb ⟨rfl,rfl⟩
 go_wp2_with fail
 refine D.out _ _ f ?_
 clear D K
 try simp only [ac]
 refine aa.one (i:=11) (o:=⟨some 48,_,_,_,_,_⟩) (by as_aux_lemma=>kernel_rfl) rfl (fun K D=>?_)
 go_simp
 have T1:Hid (Tri ((wr.alloc (.cells #[.int .u32 (br x 7:Nat),.int .u32 (br x 18:Nat),.int .u32 (J:Int)] 70)).drew) wr.heap.size _ _ _):=hid (Tri.n1 wr _ _ _)
 have bk:Hid (Spr w b l ((wr.alloc (.cells #[.int .u32 (br x 7:Nat),.int .u32 (br x 18:Nat),.int .u32 (J:Int)] 70)).drew)):=hid (HS.out.alloc _).drew
 have aE:((wr.alloc (.cells #[.int .u32 (br x 7:Nat),.int .u32 (br x 18:Nat),.int .u32 (J:Int)] 70)).drew).cell? ⟨w.heap.size+1+1,z,none⟩=some (.int .u32 (E:Int))∧((wr.alloc (.cells #[.int .u32 (br x 7:Nat),.int .u32 (br x 18:Nat),.int .u32 (J:Int)] 70)).drew).cell? ⟨w.heap.size+1+1,F,none⟩=some (.int .u32 (G:Int))∧w.heap.size+1+1<((wr.alloc (.cells #[.int .u32 (br x 7:Nat),.int .u32 (br x 18:Nat),.int .u32 (J:Int)] 70)).drew).heap.size:=bm.out wr _ hS
 refine D.out _ _ aE ?_
 clear D K f
 generalize (wr.alloc (.cells #[.int .u32 (br x 7:Nat),.int .u32 (br x 18:Nat),.int .u32 (J:Int)] 70)).drew=w1 at *
 generalize wr.heap.size=s1 at *
 have f:=aE
 clear aE
 try simp only [ac]
 refine aa.one (i:=12) (o:=⟨some 49,_,_,_,_,_⟩) (by as_aux_lemma=>kernel_rfl) rfl (fun K D=>?_)
 go_simp
 with_reducible refine (mix_any _ _ _ _ _ T1.out cX ba cW).mono ?_
 rintro e wc ⟨rfl,rfl⟩
 go_wp2_with fail
 refine D.out _ _ f ?_
 clear D K
 try simp only [ac]
 refine aa.q 13 ⟨some 50,_,_,_,_,_⟩ f ?_
 try simp only [ac]
 refine aa.q 18 ⟨some 55,_,_,_,_,_⟩ f ?_
 try simp only [ac]
 refine aa.one (i:=20) (o:=⟨some 57,_,_,_,_,_⟩) (by as_aux_lemma=>kernel_rfl) rfl (fun K D=>?_)
 go_simp
 with_reducible refine (turn_17 _ _ b2).mono ?_
 rintro e wd ⟨rfl,rfl⟩
 go_wp2_with fail
 refine D.out _ _ f ?_
 clear D K
 try simp only [ac]
 refine aa.one (i:=22) (o:=⟨some 59,_,_,_,_,_⟩) (by as_aux_lemma=>kernel_rfl) rfl (fun K D=>?_)
 go_simp
 with_reducible refine (turn_19 _ _ b2).mono ?_
 rintro e we ⟨rfl,rfl⟩
 go_wp2_with fail
 refine D.out _ _ f ?_
 clear D K
 try simp only [ac]
 refine aa.one (i:=25) (o:=⟨some 62,_,_,_,_,_⟩) (by as_aux_lemma=>kernel_rfl) rfl (fun K D=>?_)
 go_simp
 have T2:Hid (Tri (w1.alloc (.cells #[.int .u32 (br y 17:Nat),.int .u32 (br y 19:Nat),.int .u32 (I:Int)] 70)) w1.heap.size _ _ _):=hid (Tri.new w1 _ _ _)
 have bd:Hid (Spr w b l (w1.alloc (.cells #[.int .u32 (br y 17:Nat),.int .u32 (br y 19:Nat),.int .u32 (I:Int)] 70))):=hid (bk.out.alloc _)
 have ao:(w1.alloc (.cells #[.int .u32 (br y 17:Nat),.int .u32 (br y 19:Nat),.int .u32 (I:Int)] 70)).cell? ⟨w.heap.size+1+1,z,none⟩=some (.int .u32 (E:Int))∧(w1.alloc (.cells #[.int .u32 (br y 17:Nat),.int .u32 (br y 19:Nat),.int .u32 (I:Int)] 70)).cell? ⟨w.heap.size+1+1,F,none⟩=some (.int .u32 (G:Int))∧w.heap.size+1+1<(w1.alloc (.cells #[.int .u32 (br y 17:Nat),.int .u32 (br y 19:Nat),.int .u32 (I:Int)] 70)).heap.size:=bm.out w1 _ f
 refine D.out _ _ ao ?_
 clear D K f
 generalize w1.alloc (.cells #[.int .u32 (br y 17:Nat),.int .u32 (br y 19:Nat),.int .u32 (I:Int)] 70)=w2 at *
 generalize w1.heap.size=s2 at *
 have f:=ao
 clear ao
 try simp only [ac]
 refine aa.one (i:=26) (o:=⟨some 63,_,_,_,_,_⟩) (by as_aux_lemma=>kernel_rfl) rfl (fun K D=>?_)
 go_simp
 with_reducible refine (mix_any _ _ _ _ _ T2.out aW aU cV).mono ?_
 rintro e wn ⟨rfl,rfl⟩
 have HN:=bd
 obtain ⟨M,nk,nf⟩:=HC.out _ HN.out
 clear f bk bd T1 T2
 have f:=M
 go_wp2_with fail
 refine D.out _ _ f ?_
 clear D K
 try simp only [ac]
 refine aa.q 27 ⟨some 64,_,_,_,_,_⟩ f ?_
 try simp only [ac]
 refine aa.q 28 ⟨some 65,_,_,_,_,_⟩ f ?_
 try simp only [ac]
 refine aa.one (i:=29) (o:=⟨none,_,_,_,_,_⟩) (by as_aux_lemma=>kernel_rfl) rfl (fun K D=>?_)
 go_simp
 refine D.out _ _ (cY.out _ _ M) ?_
 clear D K
 try simp only [ac]
 refine aa.done (by as_aux_lemma=>kernel_rfl) ?_ _
 refine NoPanic.normal ?_
 exact hQ.out _ _ _ _ _ _ _ _ _ _ _ _ _ _ _ _ _ _ _ _ _ _ _ _ _ _ _ _ _ _ HN
end Go.Proofs.YtmapkbdjnnionaaGreatDoor
