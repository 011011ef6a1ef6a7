import Derived.Test.YtmapkbdjnnionaaGreatDoorPzBB
import Derived.Test.YtmapkbdjnnionaaGreatDoorPzAC
set_option maxRecDepth 100000
set_option maxHeartbeats 8000000
set_option linter.all false
namespace Go.Proofs.YtmapkbdjnnionaaGreatDoor
section
open Go.RowKit
def On (w:World) (P:World→Prop):Prop:=∀ w',Below w.heap.size w w'→P w'
section
variable {w w2 w':World} {P Q:World→Prop}
theorem On.on (h:On w P) (hb:Below w.heap.size w w2):On w2 P:=fun w' f=>h w' (hb.trans (f.mono hb.size))
theorem On.here (h:On w P):P w:=h w (Below.refl _ _)
theorem On.both (h:On w P) (k:On w Q):On w fun u=>P u∧Q u:=fun u f=>⟨h u f,k u f⟩
theorem bf {w0:World} (h:Below w0.heap.size w0 w):On w fun u=>Below w0.heap.size w0 u:=fun u f=>h.trans (f.mono h.size)
theorem ce {g i:Nat} {v:Value} (z:g<w.heap.size) (h:w.cell? ⟨g,i,none⟩=some v):On w fun u=>u.cell? ⟨g,i,none⟩=some v:=fun u f=>(f.cell (p:=⟨g,i,none⟩) z).trans h
theorem on_rd {A:Option Addr} {bs:List UInt8} (h:Rd w A bs):On w fun u=>Rd u A bs:=fun u f=>h.below f (Nat.le_refl _)
theorem b9 {g:Nat} {t:TypeId} {bs:List UInt8} (h:Bt w g t bs):On w fun u=>Bt u g t bs:=fun u f=>h.on f
theorem bB {E:Option Addr} {n:Nat} {A:Nat→Option Addr} {L C:Nat→Nat} {z:Nat→List UInt8} (h:Rws w E n A L C z):On w fun u=>Rws u E n A L C z:=by
 intro u f r F
 obtain ⟨⟨go,o,R,D,O⟩,M,K,J,I,G⟩:=h r F
 exact ⟨⟨go,o,R,Nat.lt_of_lt_of_le D f.size,(f.cell (p:=⟨go,o+r,none⟩) D).trans O⟩,M,K.below f (Nat.le_refl _),J,I,G⟩
theorem on_kt (h:Kt w):On w Kt:=fun u f=>h.on f
end
theorem bh {o:Oper} {a:Act} {w:World} {K:Act→World→Prop} {Q:Exit→Act→World→Prop} (t:TypeId) (s x:Operand) (G:o.op=.call { callee:=.builtin .append,args:=#[s,x],argTypes:=#[t,t] }) (f:o.type=t) (D z:Value) (F:a.eval s=D) (E:a.eval x=z) (v':Value) (w':World)
  (I:(Builtin.append_ #[t,t] t #[D,z]).run Tryz.prog w=.ok v' w') (h:K (a.put o.dst v') w'):o.wp Tryz.prog a w K Q:=by
 unfold Oper.wp
 simp [execOp,G,f,resolve,invoke,builtin,F,E,I,Result.andThen]
 exact h
theorem nx_le (n:Nat) (L:Nat→Nat) (h:∀ r,r<n→L r≤1048576):∀ r,r<n+1→nx n L 1 r≤1048576:=by
 intro r f
 unfold nx
 split
 ·exact h r ‹_›
 ·decide
theorem rd_one (w:World) (g:Nat) (x:UInt8) (t:TypeId) (h:w.heap[g]?=some (.cells #[.int .u8 (x.toNat:Int)] t (0,0))):Rd w (some ⟨g,0,none⟩) [x]:=by
 intro z
 refine ⟨g,0,rfl,lt_of_block h,fun j f=>?_⟩
 obtain rfl:j=0:=by simpa using f
 rw [cell_of_row _ _ _ _ t _ h]
 simp
theorem as_r (z:ByteArray) (E:Option Addr) (f F:Nat) (A:Nat→Option Addr) (L C:Nat→Nat) (D:Nat→List UInt8) (r:List UInt8) (w:World) (K:Rws w E f A L C D) (O:Kt w) (J:f≤1000) (M:∀ r,r<f→L r≤1048576) (G:z.size≤1000000) (I:sha (cG z.data.toList f D f)=r) :
  Calls Tryz.prog 84 #[.string z,.slice E f F] w fun e w'=>e=.returned (.agg (au r).toArray)∧Below w.heap.size w w':=by
 subst I
 exact as_any z E f F A L C D w K O J M G
noncomputable def hf1:Code:=((Tryz.f83.body.bind (bM 1)).getD .skip)
theorem bC {w0 u:World} {ga gp:Nat} {f:ByteArray} {E:Option Addr} {z D:Nat} (J:ga<w0.heap.size) (I:gp<w0.heap.size) (G:w0.cell? ⟨ga,0,none⟩=some (.string f)) (F:w0.cell? ⟨gp,0,none⟩=some (.slice E z D)) (h:Below w0.heap.size w0 u) :
  u.cell? ⟨ga,0,none⟩=some (.string f)∧u.cell? ⟨gp,0,none⟩=some (.slice E z D):=⟨(h.cell (p:=⟨ga,0,none⟩) J).trans G,(h.cell (p:=⟨gp,0,none⟩) I).trans F⟩
theorem hf1_ok {w0:World} {st:ByteArray} {a0:Option Addr} {U c0 ga gp:Nat} {A:Nat→Option Addr} {L C:Nat→Nat} {xs:Nat→List UInt8} {x:UInt8} {xi:Int} {r:List UInt8} {Q:Exit→Act→World→Prop}
  (aI:Hid (On w0 Kt)) (aG:Hid (On w0 fun u=>Rws u a0 U A L C xs)) (aJ:Hid (On w0 fun u=>u.cell? ⟨ga,0,none⟩=some (.string st)∧u.cell? ⟨gp,0,none⟩=some (.slice a0 U c0)))
  (al:Hid (ga<w0.heap.size)) (ad:Hid (gp<w0.heap.size)) (ar:Hid (w0.cell? ⟨ga,0,none⟩=some (.string st))) (ap:Hid (w0.cell? ⟨gp,0,none⟩=some (.slice a0 U c0)))
  (HC:Hid (U≤c0)) (HN:Hid (U≤1000)) (ax:Hid (U≤1000)) (an:Hid (U+1≤1000)) (H0:Hid (a0=none→c0=0)) (HZ:Hid (a0=none→U=0)) (ao:Hid (∀ r,r<U+1→nx U L 1 r≤1048576)) (HS:Hid (st.size≤1000000)) (HX:Hid (xi=(x.toNat:Int)))
  (ER:Hid (sha (cG st.data.toList (U+1) (nx U xs [x]) (U+1))=r)) (HQ:Hid (r.length=32)) (c3 c4 c5 c6 c7 c8 c9 bd ba aW aU aT aS aE aC aB aA az ay:Value)
  (hQ:Hid (∀ (d8 d9 aR aQ aN aM aL aK:Value) (Z:Nat) (u:World),Hid (On u fun v=>Bt v Z 28 r∧Below w0.heap.size w0 v)→Q .normal ⟨#[.int .u8 xi,.pointer (some ⟨ga,0,none⟩),.pointer (some ⟨gp,0,none⟩),c3,c4,.pointer (some ⟨Z,0,none⟩),c6,c7,d8,d9,aR,aQ,aN,aM,aL,aK,aE,aC,aB,aA,az,ay],[]⟩ u)):Code.wp Tryz.prog hf1 Q ⟨#[.int .u8 xi,.pointer (some ⟨ga,0,none⟩),.pointer (some ⟨gp,0,none⟩),c3,c4,c5,c6,c7,c8,c9,bd,ba,aW,aU,aT,aS,aE,aC,aB,aA,az,ay],[]⟩ w0:=by
 conv=>arg 2; whnf
 have E:=hid (bf (Below.refl w0.heap.size w0).drew)
 have F:=hid (aI.out.on (Below.refl w0.heap.size w0).drew)
 have M:=hid (aG.out.on (Below.refl w0.heap.size w0).drew)
 have z:=hid (aJ.out.on (Below.refl w0.heap.size w0).drew)
 clear aI aG aJ
 refine wp_region_noPanic ?_
 refine aa.region (fun (L:Array Bool) (u:World)=>u.cell? ⟨ga,0,none⟩=some (.string st)∧u.cell? ⟨gp,0,none⟩=some (.slice a0 U c0)) (by kernel_rfl) ?_
 generalize w0.drew=ab at *
 refine aa.tk (i:=0) (o:=⟨some 8,_,_,_,_,_⟩) (v:=?_) [] (y:=Or.inl ⟨by rfl,?_⟩) (s:=z.out.here) (H:=?_)
 rotate_left
 ·rintro u ⟨up,-,hX⟩; (try dsimp only at hX); obtain ⟨x0,x1⟩:=hX; go_simp; try with_reducible rfl
 try simp only [ac]
 refine aa.tk (i:=1) (o:=⟨some 9,_,_,_,_,_⟩) (v:=?_) [] (y:=Or.inl ⟨by rfl,?_⟩) (s:=z.out.here) (H:=?_)
 rotate_left
 ·rintro u ⟨up,-,hX⟩; (try dsimp only at hX); obtain ⟨x0,x1⟩:=hX; go_simp; try with_reducible rfl
 try simp only [ac]
 refine aa.q 3 ⟨some 11,_,_,_,_,_⟩ z.out.here ?_
 try simp only [ac]
 refine aa.three (i:=2) (j:=4) (k:=8) (o:=⟨some 10,_,_,_,_,_⟩) (p:=⟨some 12,_,_,_,_,_⟩) (q:=⟨some 5,_,_,_,_,_⟩) (by kernel_rfl) rfl rfl rfl (fun K f=>?_) (fun K f=>?_) (fun K f=>?_)
 ·skip
  go_simp
  with_reducible refine (clip_any a0 U c0 _ HC.out ax.out H0.out).mono ?_
  rintro e wx ⟨rfl,rfl⟩
  go_wp2_with fail
  refine f.out _ _ z.out.here ?_
  clear f K
  try simp only [ac]
  refine aa.two (i:=4) (j:=8) (o:=⟨some 12,_,_,_,_,_⟩) (p:=⟨some 5,_,_,_,_,_⟩) (by kernel_rfl) rfl rfl (fun K f=>?_) (fun K f=>?_)
  ·skip
   go_simp
   have hb:=(Below.refl ab.heap.size ab).alloc (Nat.le_refl _) (.cells #[.int .u8 xi] 5)
   have hh:=heap_alloc_new ab (.cells #[.int .u8 xi] 5)
   refine f.out _ _ (z.out.on hb).here ?_
   clear f K
   try simp only [ac]
   have E:=hid (E.out.on hb)
   have F:=hid (F.out.on hb)
   have M:=hid (M.out.on hb)
   have z:=hid (z.out.on hb)
   generalize ab.alloc (.cells #[.int .u8 xi] 5)=w2 at *
   generalize ab.heap.size=Y at *
   have F1:=hid (on_rd (rd_one _ _ x 5 (by rw [← HX.out]; exact hh)))
   clear hb hh
   refine aa.two (i:=5) (j:=8) (o:=⟨some 13,_,_,_,_,_⟩) (p:=⟨some 5,_,_,_,_,_⟩) (by kernel_rfl) rfl rfl (fun K f=>?_) (fun K f=>?_)
   ·skip
    go_simp
    have hb:=(Below.refl w2.heap.size w2).alloc (Nat.le_refl _) (.cells #[.slice (some ⟨Y,0,none⟩) 1 1] 66)
    have hh:=heap_alloc_new w2 (.cells #[.slice (some ⟨Y,0,none⟩) 1 1] 66)
    refine f.out _ _ (z.out.on hb).here ?_
    clear f K
    try simp only [ac]
    have E:=hid (E.out.on hb)
    have F:=hid (F.out.on hb)
    have M:=hid (M.out.on hb)
    have z:=hid (z.out.on hb)
    have F1:=hid (F1.out.on hb)
    generalize w2.alloc (.cells #[.slice (some ⟨Y,0,none⟩) 1 1] 66)=w3 at *
    generalize w2.heap.size=g2 at *
    have F2:=hid (ce (i:=0) (lt_of_block hh) (by rw [cell_of_row _ _ _ _ 66 _ hh]; rfl))
    clear hb hh
    refine aa.two (i:=6) (j:=8) (o:=⟨some 14,_,_,_,_,_⟩) (p:=⟨some 5,_,_,_,_,_⟩) (by kernel_rfl) rfl rfl (fun K f=>?_) (fun K f=>?_)
    ·skip
     rw [if_pos (by rfl)]
     obtain ⟨gA,cA,w4,bb,hb,O,R,dm,G⟩:=bL w3 a0 U A L C xs M.out.here HN.out HZ.out g2 1 Y x F2.out.here F1.out.here
     refine bh 79 (.tmp 10) (.tmp 13) (by rfl) (by rfl) _ _ (by rfl) (by rfl) _ _ bb ?_
     refine f.out _ _ (z.out.on hb).here ?_
     clear f K
     try simp only [ac]
     have E:=hid (E.out.on hb)
     have F:=hid (F.out.on hb)
     have z:=hid (z.out.on hb)
     have FA:=hid (bB G)
     clear bb hb O R dm G
     refine aa.two (i:=7) (j:=8) (o:=⟨some 15,_,_,_,_,_⟩) (p:=⟨some 5,_,_,_,_,_⟩) (by kernel_rfl) rfl rfl (fun K f=>?_) (fun K f=>?_)
     ·skip
      go_simp
      with_reducible refine (as_r st (some ⟨gA,0,none⟩) (U+1) cA _ _ _ _ r w4 FA.out.here F.out.here an.out ao.out HS.out ER.out).mono ?_
      rintro e w5 ⟨rfl,hb⟩
      go_wp2_with fail
      refine f.out _ _ (z.out.on hb).here ?_
      clear f K
      try simp only [ac]
      have E:=hid (E.out.on hb)
      have z:=hid (z.out.on hb)
      clear hb
      refine aa.one (i:=8) (o:=⟨some 5,_,_,_,_,_⟩) (by kernel_rfl) rfl (fun K f=>?_)
      go_simp
      have hb:=(Below.refl w5.heap.size w5).alloc (Nat.le_refl _) (.cells #[.int .u8 0,.int .u8 0,.int .u8 0,.int .u8 0,.int .u8 0,.int .u8 0,.int .u8 0,.int .u8 0,.int .u8 0,.int .u8 0,.int .u8 0,.int .u8 0,.int .u8 0,.int .u8 0,.int .u8 0,.int .u8 0,.int .u8 0,.int .u8 0,.int .u8 0,.int .u8 0,.int .u8 0,.int .u8 0,.int .u8 0,.int .u8 0,.int .u8 0,.int .u8 0,.int .u8 0,.int .u8 0,.int .u8 0,.int .u8 0,.int .u8 0,.int .u8 0] 28)
      have hh:=heap_alloc_new w5 (.cells #[.int .u8 0,.int .u8 0,.int .u8 0,.int .u8 0,.int .u8 0,.int .u8 0,.int .u8 0,.int .u8 0,.int .u8 0,.int .u8 0,.int .u8 0,.int .u8 0,.int .u8 0,.int .u8 0,.int .u8 0,.int .u8 0,.int .u8 0,.int .u8 0,.int .u8 0,.int .u8 0,.int .u8 0,.int .u8 0,.int .u8 0,.int .u8 0,.int .u8 0,.int .u8 0,.int .u8 0,.int .u8 0,.int .u8 0,.int .u8 0,.int .u8 0,.int .u8 0] 28)
      refine f.out _ _ (z.out.on hb).here ?_
      clear f K
      try simp only [ac]
      have FG:=hid (E.out.here.size)
      have E:=hid (E.out.on hb)
      generalize w5.alloc (.cells #[.int .u8 0,.int .u8 0,.int .u8 0,.int .u8 0,.int .u8 0,.int .u8 0,.int .u8 0,.int .u8 0,.int .u8 0,.int .u8 0,.int .u8 0,.int .u8 0,.int .u8 0,.int .u8 0,.int .u8 0,.int .u8 0,.int .u8 0,.int .u8 0,.int .u8 0,.int .u8 0,.int .u8 0,.int .u8 0,.int .u8 0,.int .u8 0,.int .u8 0,.int .u8 0,.int .u8 0,.int .u8 0,.int .u8 0,.int .u8 0,.int .u8 0,.int .u8 0] 28)=w6 at *
      generalize w5.heap.size=Z at *
      have D:=hid (b9 (show Bt _ Z 28 (List.replicate 32 0) from hh))
      clear hb hh
      refine aa.one (i:=9) (o:=⟨none,_,_,_,_,_⟩) (by kernel_rfl) rfl (fun K f=>?_)
      rw [if_pos (by rfl)]
      have I:=D.out.here
      unfold Bt at I
      refine wp_store_row 28 (.tmp 5) (.tmp 15) (by rfl) Z (au r).toArray (by rfl) (by rfl) 28 _ I (hi44 r HQ.out).out (by rw [aw,aw,HQ.out,List.length_replicate]) (bF r) ?_
      have J:=below_setRow E.out.here FG.out (au r).toArray
      have V:=D.out.here.row (m:=r)
      refine f.out _ _ (bC al.out ad.out ar.out ap.out J) ?_
      clear f K
      try simp only [ac]
      have D:=hid ((b9 V).both (bf J))
      clear I J V
      refine aa.done (by kernel_rfl) ?_ _
      refine NoPanic.normal ?_
      exact hQ.out _ _ _ _ _ _ _ _ _ _ D
     ·skip
      go_simp
      have hb:=(Below.refl w4.heap.size w4).alloc (Nat.le_refl _) (.cells #[.int .u8 0,.int .u8 0,.int .u8 0,.int .u8 0,.int .u8 0,.int .u8 0,.int .u8 0,.int .u8 0,.int .u8 0,.int .u8 0,.int .u8 0,.int .u8 0,.int .u8 0,.int .u8 0,.int .u8 0,.int .u8 0,.int .u8 0,.int .u8 0,.int .u8 0,.int .u8 0,.int .u8 0,.int .u8 0,.int .u8 0,.int .u8 0,.int .u8 0,.int .u8 0,.int .u8 0,.int .u8 0,.int .u8 0,.int .u8 0,.int .u8 0,.int .u8 0] 28)
      have hh:=heap_alloc_new w4 (.cells #[.int .u8 0,.int .u8 0,.int .u8 0,.int .u8 0,.int .u8 0,.int .u8 0,.int .u8 0,.int .u8 0,.int .u8 0,.int .u8 0,.int .u8 0,.int .u8 0,.int .u8 0,.int .u8 0,.int .u8 0,.int .u8 0,.int .u8 0,.int .u8 0,.int .u8 0,.int .u8 0,.int .u8 0,.int .u8 0,.int .u8 0,.int .u8 0,.int .u8 0,.int .u8 0,.int .u8 0,.int .u8 0,.int .u8 0,.int .u8 0,.int .u8 0,.int .u8 0] 28)
      refine f.out _ _ (z.out.on hb).here ?_
      clear f K
      try simp only [ac]
      have FG:=hid (E.out.here.size)
      have E:=hid (E.out.on hb)
      have F:=hid (F.out.on hb)
      have z:=hid (z.out.on hb)
      have FA:=hid (FA.out.on hb)
      generalize w4.alloc (.cells #[.int .u8 0,.int .u8 0,.int .u8 0,.int .u8 0,.int .u8 0,.int .u8 0,.int .u8 0,.int .u8 0,.int .u8 0,.int .u8 0,.int .u8 0,.int .u8 0,.int .u8 0,.int .u8 0,.int .u8 0,.int .u8 0,.int .u8 0,.int .u8 0,.int .u8 0,.int .u8 0,.int .u8 0,.int .u8 0,.int .u8 0,.int .u8 0,.int .u8 0,.int .u8 0,.int .u8 0,.int .u8 0,.int .u8 0,.int .u8 0,.int .u8 0,.int .u8 0] 28)=w8 at *
      generalize w4.heap.size=Z at *
      have D:=hid (b9 (show Bt _ Z 28 (List.replicate 32 0) from hh))
      clear hb hh
      refine aa.one (i:=7) (o:=⟨some 15,_,_,_,_,_⟩) (by kernel_rfl) rfl (fun K f=>?_)
      go_simp
      with_reducible refine (as_r st (some ⟨gA,0,none⟩) (U+1) cA _ _ _ _ r w8 FA.out.here F.out.here an.out ao.out HS.out ER.out).mono ?_
      rintro e w9 ⟨rfl,hb⟩
      go_wp2_with fail
      refine f.out _ _ (z.out.on hb).here ?_
      clear f K
      try simp only [ac]
      have E:=hid (E.out.on hb)
      have D:=hid (D.out.on hb)
      clear hb
      refine aa.one (i:=9) (o:=⟨none,_,_,_,_,_⟩) (by kernel_rfl) rfl (fun K f=>?_)
      rw [if_pos (by rfl)]
      have I:=D.out.here
      unfold Bt at I
      refine wp_store_row 28 (.tmp 5) (.tmp 15) (by rfl) Z (au r).toArray (by rfl) (by rfl) 28 _ I (hi44 r HQ.out).out (by rw [aw,aw,HQ.out,List.length_replicate]) (bF r) ?_
      have J:=below_setRow E.out.here FG.out (au r).toArray
      have V:=D.out.here.row (m:=r)
      refine f.out _ _ (bC al.out ad.out ar.out ap.out J) ?_
      clear f K
      try simp only [ac]
      have D:=hid ((b9 V).both (bf J))
      clear I J V
      refine aa.done (by kernel_rfl) ?_ _
      refine NoPanic.normal ?_
      exact hQ.out _ _ _ _ _ _ _ _ _ _ D
    ·skip
     go_simp
     have hb:=(Below.refl w3.heap.size w3).alloc (Nat.le_refl _) (.cells #[.int .u8 0,.int .u8 0,.int .u8 0,.int .u8 0,.int .u8 0,.int .u8 0,.int .u8 0,.int .u8 0,.int .u8 0,.int .u8 0,.int .u8 0,.int .u8 0,.int .u8 0,.int .u8 0,.int .u8 0,.int .u8 0,.int .u8 0,.int .u8 0,.int .u8 0,.int .u8 0,.int .u8 0,.int .u8 0,.int .u8 0,.int .u8 0,.int .u8 0,.int .u8 0,.int .u8 0,.int .u8 0,.int .u8 0,.int .u8 0,.int .u8 0,.int .u8 0] 28)
     have hh:=heap_alloc_new w3 (.cells #[.int .u8 0,.int .u8 0,.int .u8 0,.int .u8 0,.int .u8 0,.int .u8 0,.int .u8 0,.int .u8 0,.int .u8 0,.int .u8 0,.int .u8 0,.int .u8 0,.int .u8 0,.int .u8 0,.int .u8 0,.int .u8 0,.int .u8 0,.int .u8 0,.int .u8 0,.int .u8 0,.int .u8 0,.int .u8 0,.int .u8 0,.int .u8 0,.int .u8 0,.int .u8 0,.int .u8 0,.int .u8 0,.int .u8 0,.int .u8 0,.int .u8 0,.int .u8 0] 28)
     refine f.out _ _ (z.out.on hb).here ?_
     clear f K
     try simp only [ac]
     have FG:=hid (E.out.here.size)
     have E:=hid (E.out.on hb)
     have F:=hid (F.out.on hb)
     have M:=hid (M.out.on hb)
     have z:=hid (z.out.on hb)
     have F1:=hid (F1.out.on hb)
     have F2:=hid (F2.out.on hb)
     generalize w3.alloc (.cells #[.int .u8 0,.int .u8 0,.int .u8 0,.int .u8 0,.int .u8 0,.int .u8 0,.int .u8 0,.int .u8 0,.int .u8 0,.int .u8 0,.int .u8 0,.int .u8 0,.int .u8 0,.int .u8 0,.int .u8 0,.int .u8 0,.int .u8 0,.int .u8 0,.int .u8 0,.int .u8 0,.int .u8 0,.int .u8 0,.int .u8 0,.int .u8 0,.int .u8 0,.int .u8 0,.int .u8 0,.int .u8 0,.int .u8 0,.int .u8 0,.int .u8 0,.int .u8 0] 28)=w11 at *
     generalize w3.heap.size=Z at *
     have D:=hid (b9 (show Bt _ Z 28 (List.replicate 32 0) from hh))
     clear hb hh
     refine aa.one (i:=6) (o:=⟨some 14,_,_,_,_,_⟩) (by kernel_rfl) rfl (fun K f=>?_)
     rw [if_pos (by rfl)]
     obtain ⟨gA,cA,w12,bb,hb,O,R,dm,G⟩:=bL w11 a0 U A L C xs M.out.here HN.out HZ.out g2 1 Y x F2.out.here F1.out.here
     refine bh 79 (.tmp 10) (.tmp 13) (by rfl) (by rfl) _ _ (by rfl) (by rfl) _ _ bb ?_
     refine f.out _ _ (z.out.on hb).here ?_
     clear f K
     try simp only [ac]
     have E:=hid (E.out.on hb)
     have F:=hid (F.out.on hb)
     have z:=hid (z.out.on hb)
     have D:=hid (D.out.on hb)
     have FA:=hid (bB G)
     clear bb hb O R dm G
     refine aa.one (i:=7) (o:=⟨some 15,_,_,_,_,_⟩) (by kernel_rfl) rfl (fun K f=>?_)
     go_simp
     with_reducible refine (as_r st (some ⟨gA,0,none⟩) (U+1) cA _ _ _ _ r w12 FA.out.here F.out.here an.out ao.out HS.out ER.out).mono ?_
     rintro e w13 ⟨rfl,hb⟩
     go_wp2_with fail
     refine f.out _ _ (z.out.on hb).here ?_
     clear f K
     try simp only [ac]
     have E:=hid (E.out.on hb)
     have D:=hid (D.out.on hb)
     clear hb
     refine aa.one (i:=9) (o:=⟨none,_,_,_,_,_⟩) (by kernel_rfl) rfl (fun K f=>?_)
     rw [if_pos (by rfl)]
     have I:=D.out.here
     unfold Bt at I
     refine wp_store_row 28 (.tmp 5) (.tmp 15) (by rfl) Z (au r).toArray (by rfl) (by rfl) 28 _ I (hi44 r HQ.out).out (by rw [aw,aw,HQ.out,List.length_replicate]) (bF r) ?_
     have J:=below_setRow E.out.here FG.out (au r).toArray
     have V:=D.out.here.row (m:=r)
     refine f.out _ _ (bC al.out ad.out ar.out ap.out J) ?_
     clear f K
     try simp only [ac]
     have D:=hid ((b9 V).both (bf J))
     clear I J V
     refine aa.done (by kernel_rfl) ?_ _
     refine NoPanic.normal ?_
     exact hQ.out _ _ _ _ _ _ _ _ _ _ D
   ·skip
    go_simp
    have hb:=(Below.refl w2.heap.size w2).alloc (Nat.le_refl _) (.cells #[.int .u8 0,.int .u8 0,.int .u8 0,.int .u8 0,.int .u8 0,.int .u8 0,.int .u8 0,.int .u8 0,.int .u8 0,.int .u8 0,.int .u8 0,.int .u8 0,.int .u8 0,.int .u8 0,.int .u8 0,.int .u8 0,.int .u8 0,.int .u8 0,.int .u8 0,.int .u8 0,.int .u8 0,.int .u8 0,.int .u8 0,.int .u8 0,.int .u8 0,.int .u8 0,.int .u8 0,.int .u8 0,.int .u8 0,.int .u8 0,.int .u8 0,.int .u8 0] 28)
    have hh:=heap_alloc_new w2 (.cells #[.int .u8 0,.int .u8 0,.int .u8 0,.int .u8 0,.int .u8 0,.int .u8 0,.int .u8 0,.int .u8 0,.int .u8 0,.int .u8 0,.int .u8 0,.int .u8 0,.int .u8 0,.int .u8 0,.int .u8 0,.int .u8 0,.int .u8 0,.int .u8 0,.int .u8 0,.int .u8 0,.int .u8 0,.int .u8 0,.int .u8 0,.int .u8 0,.int .u8 0,.int .u8 0,.int .u8 0,.int .u8 0,.int .u8 0,.int .u8 0,.int .u8 0,.int .u8 0] 28)
    refine f.out _ _ (z.out.on hb).here ?_
    clear f K
    try simp only [ac]
    have FG:=hid (E.out.here.size)
    have E:=hid (E.out.on hb)
    have F:=hid (F.out.on hb)
    have M:=hid (M.out.on hb)
    have z:=hid (z.out.on hb)
    have F1:=hid (F1.out.on hb)
    generalize w2.alloc (.cells #[.int .u8 0,.int .u8 0,.int .u8 0,.int .u8 0,.int .u8 0,.int .u8 0,.int .u8 0,.int .u8 0,.int .u8 0,.int .u8 0,.int .u8 0,.int .u8 0,.int .u8 0,.int .u8 0,.int .u8 0,.int .u8 0,.int .u8 0,.int .u8 0,.int .u8 0,.int .u8 0,.int .u8 0,.int .u8 0,.int .u8 0,.int .u8 0,.int .u8 0,.int .u8 0,.int .u8 0,.int .u8 0,.int .u8 0,.int .u8 0,.int .u8 0,.int .u8 0] 28)=w15 at *
    generalize w2.heap.size=Z at *
    have D:=hid (b9 (show Bt _ Z 28 (List.replicate 32 0) from hh))
    clear hb hh
    refine aa.one (i:=5) (o:=⟨some 13,_,_,_,_,_⟩) (by kernel_rfl) rfl (fun K f=>?_)
    go_simp
    have hb:=(Below.refl w15.heap.size w15).alloc (Nat.le_refl _) (.cells #[.slice (some ⟨Y,0,none⟩) 1 1] 66)
    have hh:=heap_alloc_new w15 (.cells #[.slice (some ⟨Y,0,none⟩) 1 1] 66)
    refine f.out _ _ (z.out.on hb).here ?_
    clear f K
    try simp only [ac]
    have E:=hid (E.out.on hb)
    have F:=hid (F.out.on hb)
    have M:=hid (M.out.on hb)
    have z:=hid (z.out.on hb)
    have F1:=hid (F1.out.on hb)
    have D:=hid (D.out.on hb)
    generalize w15.alloc (.cells #[.slice (some ⟨Y,0,none⟩) 1 1] 66)=w16 at *
    generalize w15.heap.size=g2 at *
    have F2:=hid (ce (i:=0) (lt_of_block hh) (by rw [cell_of_row _ _ _ _ 66 _ hh]; rfl))
    clear hb hh
    refine aa.one (i:=6) (o:=⟨some 14,_,_,_,_,_⟩) (by kernel_rfl) rfl (fun K f=>?_)
    rw [if_pos (by rfl)]
    obtain ⟨gA,cA,w17,bb,hb,O,R,dm,G⟩:=bL w16 a0 U A L C xs M.out.here HN.out HZ.out g2 1 Y x F2.out.here F1.out.here
    refine bh 79 (.tmp 10) (.tmp 13) (by rfl) (by rfl) _ _ (by rfl) (by rfl) _ _ bb ?_
    refine f.out _ _ (z.out.on hb).here ?_
    clear f K
    try simp only [ac]
    have E:=hid (E.out.on hb)
    have F:=hid (F.out.on hb)
    have z:=hid (z.out.on hb)
    have D:=hid (D.out.on hb)
    have FA:=hid (bB G)
    clear bb hb O R dm G
    refine aa.one (i:=7) (o:=⟨some 15,_,_,_,_,_⟩) (by kernel_rfl) rfl (fun K f=>?_)
    go_simp
    with_reducible refine (as_r st (some ⟨gA,0,none⟩) (U+1) cA _ _ _ _ r w17 FA.out.here F.out.here an.out ao.out HS.out ER.out).mono ?_
    rintro e w18 ⟨rfl,hb⟩
    go_wp2_with fail
    refine f.out _ _ (z.out.on hb).here ?_
    clear f K
    try simp only [ac]
    have E:=hid (E.out.on hb)
    have D:=hid (D.out.on hb)
    clear hb
    refine aa.one (i:=9) (o:=⟨none,_,_,_,_,_⟩) (by kernel_rfl) rfl (fun K f=>?_)
    rw [if_pos (by rfl)]
    have I:=D.out.here
    unfold Bt at I
    refine wp_store_row 28 (.tmp 5) (.tmp 15) (by rfl) Z (au r).toArray (by rfl) (by rfl) 28 _ I (hi44 r HQ.out).out (by rw [aw,aw,HQ.out,List.length_replicate]) (bF r) ?_
    have J:=below_setRow E.out.here FG.out (au r).toArray
    have V:=D.out.here.row (m:=r)
    refine f.out _ _ (bC al.out ad.out ar.out ap.out J) ?_
    clear f K
    try simp only [ac]
    have D:=hid ((b9 V).both (bf J))
    clear I J V
    refine aa.done (by kernel_rfl) ?_ _
    refine NoPanic.normal ?_
    exact hQ.out _ _ _ _ _ _ _ _ _ _ D
  ·skip
   go_simp
   have hb:=(Below.refl ab.heap.size ab).alloc (Nat.le_refl _) (.cells #[.int .u8 0,.int .u8 0,.int .u8 0,.int .u8 0,.int .u8 0,.int .u8 0,.int .u8 0,.int .u8 0,.int .u8 0,.int .u8 0,.int .u8 0,.int .u8 0,.int .u8 0,.int .u8 0,.int .u8 0,.int .u8 0,.int .u8 0,.int .u8 0,.int .u8 0,.int .u8 0,.int .u8 0,.int .u8 0,.int .u8 0,.int .u8 0,.int .u8 0,.int .u8 0,.int .u8 0,.int .u8 0,.int .u8 0,.int .u8 0,.int .u8 0,.int .u8 0] 28)
   have hh:=heap_alloc_new ab (.cells #[.int .u8 0,.int .u8 0,.int .u8 0,.int .u8 0,.int .u8 0,.int .u8 0,.int .u8 0,.int .u8 0,.int .u8 0,.int .u8 0,.int .u8 0,.int .u8 0,.int .u8 0,.int .u8 0,.int .u8 0,.int .u8 0,.int .u8 0,.int .u8 0,.int .u8 0,.int .u8 0,.int .u8 0,.int .u8 0,.int .u8 0,.int .u8 0,.int .u8 0,.int .u8 0,.int .u8 0,.int .u8 0,.int .u8 0,.int .u8 0,.int .u8 0,.int .u8 0] 28)
   refine f.out _ _ (z.out.on hb).here ?_
   clear f K
   try simp only [ac]
   have FG:=hid (E.out.here.size)
   have E:=hid (E.out.on hb)
   have F:=hid (F.out.on hb)
   have M:=hid (M.out.on hb)
   have z:=hid (z.out.on hb)
   generalize ab.alloc (.cells #[.int .u8 0,.int .u8 0,.int .u8 0,.int .u8 0,.int .u8 0,.int .u8 0,.int .u8 0,.int .u8 0,.int .u8 0,.int .u8 0,.int .u8 0,.int .u8 0,.int .u8 0,.int .u8 0,.int .u8 0,.int .u8 0,.int .u8 0,.int .u8 0,.int .u8 0,.int .u8 0,.int .u8 0,.int .u8 0,.int .u8 0,.int .u8 0,.int .u8 0,.int .u8 0,.int .u8 0,.int .u8 0,.int .u8 0,.int .u8 0,.int .u8 0,.int .u8 0] 28)=w20 at *
   generalize ab.heap.size=Z at *
   have D:=hid (b9 (show Bt _ Z 28 (List.replicate 32 0) from hh))
   clear hb hh
   refine aa.one (i:=4) (o:=⟨some 12,_,_,_,_,_⟩) (by kernel_rfl) rfl (fun K f=>?_)
   go_simp
   have hb:=(Below.refl w20.heap.size w20).alloc (Nat.le_refl _) (.cells #[.int .u8 xi] 5)
   have hh:=heap_alloc_new w20 (.cells #[.int .u8 xi] 5)
   refine f.out _ _ (z.out.on hb).here ?_
   clear f K
   try simp only [ac]
   have E:=hid (E.out.on hb)
   have F:=hid (F.out.on hb)
   have M:=hid (M.out.on hb)
   have z:=hid (z.out.on hb)
   have D:=hid (D.out.on hb)
   generalize w20.alloc (.cells #[.int .u8 xi] 5)=w21 at *
   generalize w20.heap.size=Y at *
   have F1:=hid (on_rd (rd_one _ _ x 5 (by rw [← HX.out]; exact hh)))
   clear hb hh
   refine aa.one (i:=5) (o:=⟨some 13,_,_,_,_,_⟩) (by kernel_rfl) rfl (fun K f=>?_)
   go_simp
   have hb:=(Below.refl w21.heap.size w21).alloc (Nat.le_refl _) (.cells #[.slice (some ⟨Y,0,none⟩) 1 1] 66)
   have hh:=heap_alloc_new w21 (.cells #[.slice (some ⟨Y,0,none⟩) 1 1] 66)
   refine f.out _ _ (z.out.on hb).here ?_
   clear f K
   try simp only [ac]
   have E:=hid (E.out.on hb)
   have F:=hid (F.out.on hb)
   have M:=hid (M.out.on hb)
   have z:=hid (z.out.on hb)
   have F1:=hid (F1.out.on hb)
   have D:=hid (D.out.on hb)
   generalize w21.alloc (.cells #[.slice (some ⟨Y,0,none⟩) 1 1] 66)=w22 at *
   generalize w21.heap.size=g2 at *
   have F2:=hid (ce (i:=0) (lt_of_block hh) (by rw [cell_of_row _ _ _ _ 66 _ hh]; rfl))
   clear hb hh
   refine aa.one (i:=6) (o:=⟨some 14,_,_,_,_,_⟩) (by kernel_rfl) rfl (fun K f=>?_)
   rw [if_pos (by rfl)]
   obtain ⟨gA,cA,w23,bb,hb,O,R,dm,G⟩:=bL w22 a0 U A L C xs M.out.here HN.out HZ.out g2 1 Y x F2.out.here F1.out.here
   refine bh 79 (.tmp 10) (.tmp 13) (by rfl) (by rfl) _ _ (by rfl) (by rfl) _ _ bb ?_
   refine f.out _ _ (z.out.on hb).here ?_
   clear f K
   try simp only [ac]
   have E:=hid (E.out.on hb)
   have F:=hid (F.out.on hb)
   have z:=hid (z.out.on hb)
   have D:=hid (D.out.on hb)
   have FA:=hid (bB G)
   clear bb hb O R dm G
   refine aa.one (i:=7) (o:=⟨some 15,_,_,_,_,_⟩) (by kernel_rfl) rfl (fun K f=>?_)
   go_simp
   with_reducible refine (as_r st (some ⟨gA,0,none⟩) (U+1) cA _ _ _ _ r w23 FA.out.here F.out.here an.out ao.out HS.out ER.out).mono ?_
   rintro e w24 ⟨rfl,hb⟩
   go_wp2_with fail
   refine f.out _ _ (z.out.on hb).here ?_
   clear f K
   try simp only [ac]
   have E:=hid (E.out.on hb)
   have D:=hid (D.out.on hb)
   clear hb
   refine aa.one (i:=9) (o:=⟨none,_,_,_,_,_⟩) (by kernel_rfl) rfl (fun K f=>?_)
   rw [if_pos (by rfl)]
   have I:=D.out.here
   unfold Bt at I
   refine wp_store_row 28 (.tmp 5) (.tmp 15) (by rfl) Z (au r).toArray (by rfl) (by rfl) 28 _ I (hi44 r HQ.out).out (by rw [aw,aw,HQ.out,List.length_replicate]) (bF r) ?_
   have J:=below_setRow E.out.here FG.out (au r).toArray
   have V:=D.out.here.row (m:=r)
   refine f.out _ _ (bC al.out ad.out ar.out ap.out J) ?_
   clear f K
   try simp only [ac]
   have D:=hid ((b9 V).both (bf J))
   clear I J V
   refine aa.done (by kernel_rfl) ?_ _
   refine NoPanic.normal ?_
   exact hQ.out _ _ _ _ _ _ _ _ _ _ D
 ·skip
  go_simp
  have hb:=(Below.refl ab.heap.size ab).alloc (Nat.le_refl _) (.cells #[.int .u8 xi] 5)
  have hh:=heap_alloc_new ab (.cells #[.int .u8 xi] 5)
  refine f.out _ _ (z.out.on hb).here ?_
  clear f K
  try simp only [ac]
  have E:=hid (E.out.on hb)
  have F:=hid (F.out.on hb)
  have M:=hid (M.out.on hb)
  have z:=hid (z.out.on hb)
  generalize ab.alloc (.cells #[.int .u8 xi] 5)=w26 at *
  generalize ab.heap.size=Y at *
  have F1:=hid (on_rd (rd_one _ _ x 5 (by rw [← HX.out]; exact hh)))
  clear hb hh
  refine aa.three (i:=2) (j:=5) (k:=8) (o:=⟨some 10,_,_,_,_,_⟩) (p:=⟨some 13,_,_,_,_,_⟩) (q:=⟨some 5,_,_,_,_,_⟩) (by kernel_rfl) rfl rfl rfl (fun K f=>?_) (fun K f=>?_) (fun K f=>?_)
  ·skip
   go_simp
   with_reducible refine (clip_any a0 U c0 _ HC.out ax.out H0.out).mono ?_
   rintro e wx ⟨rfl,rfl⟩
   go_wp2_with fail
   refine f.out _ _ z.out.here ?_
   clear f K
   try simp only [ac]
   refine aa.two (i:=5) (j:=8) (o:=⟨some 13,_,_,_,_,_⟩) (p:=⟨some 5,_,_,_,_,_⟩) (by kernel_rfl) rfl rfl (fun K f=>?_) (fun K f=>?_)
   ·skip
    go_simp
    have hb:=(Below.refl w26.heap.size w26).alloc (Nat.le_refl _) (.cells #[.slice (some ⟨Y,0,none⟩) 1 1] 66)
    have hh:=heap_alloc_new w26 (.cells #[.slice (some ⟨Y,0,none⟩) 1 1] 66)
    refine f.out _ _ (z.out.on hb).here ?_
    clear f K
    try simp only [ac]
    have E:=hid (E.out.on hb)
    have F:=hid (F.out.on hb)
    have M:=hid (M.out.on hb)
    have z:=hid (z.out.on hb)
    have F1:=hid (F1.out.on hb)
    generalize w26.alloc (.cells #[.slice (some ⟨Y,0,none⟩) 1 1] 66)=w28 at *
    generalize w26.heap.size=g2 at *
    have F2:=hid (ce (i:=0) (lt_of_block hh) (by rw [cell_of_row _ _ _ _ 66 _ hh]; rfl))
    clear hb hh
    refine aa.two (i:=6) (j:=8) (o:=⟨some 14,_,_,_,_,_⟩) (p:=⟨some 5,_,_,_,_,_⟩) (by kernel_rfl) rfl rfl (fun K f=>?_) (fun K f=>?_)
    ·skip
     rw [if_pos (by rfl)]
     obtain ⟨gA,cA,w29,bb,hb,O,R,dm,G⟩:=bL w28 a0 U A L C xs M.out.here HN.out HZ.out g2 1 Y x F2.out.here F1.out.here
     refine bh 79 (.tmp 10) (.tmp 13) (by rfl) (by rfl) _ _ (by rfl) (by rfl) _ _ bb ?_
     refine f.out _ _ (z.out.on hb).here ?_
     clear f K
     try simp only [ac]
     have E:=hid (E.out.on hb)
     have F:=hid (F.out.on hb)
     have z:=hid (z.out.on hb)
     have FA:=hid (bB G)
     clear bb hb O R dm G
     refine aa.two (i:=7) (j:=8) (o:=⟨some 15,_,_,_,_,_⟩) (p:=⟨some 5,_,_,_,_,_⟩) (by kernel_rfl) rfl rfl (fun K f=>?_) (fun K f=>?_)
     ·skip
      go_simp
      with_reducible refine (as_r st (some ⟨gA,0,none⟩) (U+1) cA _ _ _ _ r w29 FA.out.here F.out.here an.out ao.out HS.out ER.out).mono ?_
      rintro e w30 ⟨rfl,hb⟩
      go_wp2_with fail
      refine f.out _ _ (z.out.on hb).here ?_
      clear f K
      try simp only [ac]
      have E:=hid (E.out.on hb)
      have z:=hid (z.out.on hb)
      clear hb
      refine aa.one (i:=8) (o:=⟨some 5,_,_,_,_,_⟩) (by kernel_rfl) rfl (fun K f=>?_)
      go_simp
      have hb:=(Below.refl w30.heap.size w30).alloc (Nat.le_refl _) (.cells #[.int .u8 0,.int .u8 0,.int .u8 0,.int .u8 0,.int .u8 0,.int .u8 0,.int .u8 0,.int .u8 0,.int .u8 0,.int .u8 0,.int .u8 0,.int .u8 0,.int .u8 0,.int .u8 0,.int .u8 0,.int .u8 0,.int .u8 0,.int .u8 0,.int .u8 0,.int .u8 0,.int .u8 0,.int .u8 0,.int .u8 0,.int .u8 0,.int .u8 0,.int .u8 0,.int .u8 0,.int .u8 0,.int .u8 0,.int .u8 0,.int .u8 0,.int .u8 0] 28)
      have hh:=heap_alloc_new w30 (.cells #[.int .u8 0,.int .u8 0,.int .u8 0,.int .u8 0,.int .u8 0,.int .u8 0,.int .u8 0,.int .u8 0,.int .u8 0,.int .u8 0,.int .u8 0,.int .u8 0,.int .u8 0,.int .u8 0,.int .u8 0,.int .u8 0,.int .u8 0,.int .u8 0,.int .u8 0,.int .u8 0,.int .u8 0,.int .u8 0,.int .u8 0,.int .u8 0,.int .u8 0,.int .u8 0,.int .u8 0,.int .u8 0,.int .u8 0,.int .u8 0,.int .u8 0,.int .u8 0] 28)
      refine f.out _ _ (z.out.on hb).here ?_
      clear f K
      try simp only [ac]
      have FG:=hid (E.out.here.size)
      have E:=hid (E.out.on hb)
      generalize w30.alloc (.cells #[.int .u8 0,.int .u8 0,.int .u8 0,.int .u8 0,.int .u8 0,.int .u8 0,.int .u8 0,.int .u8 0,.int .u8 0,.int .u8 0,.int .u8 0,.int .u8 0,.int .u8 0,.int .u8 0,.int .u8 0,.int .u8 0,.int .u8 0,.int .u8 0,.int .u8 0,.int .u8 0,.int .u8 0,.int .u8 0,.int .u8 0,.int .u8 0,.int .u8 0,.int .u8 0,.int .u8 0,.int .u8 0,.int .u8 0,.int .u8 0,.int .u8 0,.int .u8 0] 28)=w31 at *
      generalize w30.heap.size=Z at *
      have D:=hid (b9 (show Bt _ Z 28 (List.replicate 32 0) from hh))
      clear hb hh
      refine aa.one (i:=9) (o:=⟨none,_,_,_,_,_⟩) (by kernel_rfl) rfl (fun K f=>?_)
      rw [if_pos (by rfl)]
      have I:=D.out.here
      unfold Bt at I
      refine wp_store_row 28 (.tmp 5) (.tmp 15) (by rfl) Z (au r).toArray (by rfl) (by rfl) 28 _ I (hi44 r HQ.out).out (by rw [aw,aw,HQ.out,List.length_replicate]) (bF r) ?_
      have J:=below_setRow E.out.here FG.out (au r).toArray
      have V:=D.out.here.row (m:=r)
      refine f.out _ _ (bC al.out ad.out ar.out ap.out J) ?_
      clear f K
      try simp only [ac]
      have D:=hid ((b9 V).both (bf J))
      clear I J V
      refine aa.done (by kernel_rfl) ?_ _
      refine NoPanic.normal ?_
      exact hQ.out _ _ _ _ _ _ _ _ _ _ D
     ·skip
      go_simp
      have hb:=(Below.refl w29.heap.size w29).alloc (Nat.le_refl _) (.cells #[.int .u8 0,.int .u8 0,.int .u8 0,.int .u8 0,.int .u8 0,.int .u8 0,.int .u8 0,.int .u8 0,.int .u8 0,.int .u8 0,.int .u8 0,.int .u8 0,.int .u8 0,.int .u8 0,.int .u8 0,.int .u8 0,.int .u8 0,.int .u8 0,.int .u8 0,.int .u8 0,.int .u8 0,.int .u8 0,.int .u8 0,.int .u8 0,.int .u8 0,.int .u8 0,.int .u8 0,.int .u8 0,.int .u8 0,.int .u8 0,.int .u8 0,.int .u8 0] 28)
      have hh:=heap_alloc_new w29 (.cells #[.int .u8 0,.int .u8 0,.int .u8 0,.int .u8 0,.int .u8 0,.int .u8 0,.int .u8 0,.int .u8 0,.int .u8 0,.int .u8 0,.int .u8 0,.int .u8 0,.int .u8 0,.int .u8 0,.int .u8 0,.int .u8 0,.int .u8 0,.int .u8 0,.int .u8 0,.int .u8 0,.int .u8 0,.int .u8 0,.int .u8 0,.int .u8 0,.int .u8 0,.int .u8 0,.int .u8 0,.int .u8 0,.int .u8 0,.int .u8 0,.int .u8 0,.int .u8 0] 28)
      refine f.out _ _ (z.out.on hb).here ?_
      clear f K
      try simp only [ac]
      have FG:=hid (E.out.here.size)
      have E:=hid (E.out.on hb)
      have F:=hid (F.out.on hb)
      have z:=hid (z.out.on hb)
      have FA:=hid (FA.out.on hb)
      generalize w29.alloc (.cells #[.int .u8 0,.int .u8 0,.int .u8 0,.int .u8 0,.int .u8 0,.int .u8 0,.int .u8 0,.int .u8 0,.int .u8 0,.int .u8 0,.int .u8 0,.int .u8 0,.int .u8 0,.int .u8 0,.int .u8 0,.int .u8 0,.int .u8 0,.int .u8 0,.int .u8 0,.int .u8 0,.int .u8 0,.int .u8 0,.int .u8 0,.int .u8 0,.int .u8 0,.int .u8 0,.int .u8 0,.int .u8 0,.int .u8 0,.int .u8 0,.int .u8 0,.int .u8 0] 28)=w33 at *
      generalize w29.heap.size=Z at *
      have D:=hid (b9 (show Bt _ Z 28 (List.replicate 32 0) from hh))
      clear hb hh
      refine aa.one (i:=7) (o:=⟨some 15,_,_,_,_,_⟩) (by kernel_rfl) rfl (fun K f=>?_)
      go_simp
      with_reducible refine (as_r st (some ⟨gA,0,none⟩) (U+1) cA _ _ _ _ r w33 FA.out.here F.out.here an.out ao.out HS.out ER.out).mono ?_
      rintro e w34 ⟨rfl,hb⟩
      go_wp2_with fail
      refine f.out _ _ (z.out.on hb).here ?_
      clear f K
      try simp only [ac]
      have E:=hid (E.out.on hb)
      have D:=hid (D.out.on hb)
      clear hb
      refine aa.one (i:=9) (o:=⟨none,_,_,_,_,_⟩) (by kernel_rfl) rfl (fun K f=>?_)
      rw [if_pos (by rfl)]
      have I:=D.out.here
      unfold Bt at I
      refine wp_store_row 28 (.tmp 5) (.tmp 15) (by rfl) Z (au r).toArray (by rfl) (by rfl) 28 _ I (hi44 r HQ.out).out (by rw [aw,aw,HQ.out,List.length_replicate]) (bF r) ?_
      have J:=below_setRow E.out.here FG.out (au r).toArray
      have V:=D.out.here.row (m:=r)
      refine f.out _ _ (bC al.out ad.out ar.out ap.out J) ?_
      clear f K
      try simp only [ac]
      have D:=hid ((b9 V).both (bf J))
      clear I J V
      refine aa.done (by kernel_rfl) ?_ _
      refine NoPanic.normal ?_
      exact hQ.out _ _ _ _ _ _ _ _ _ _ D
    ·skip
     go_simp
     have hb:=(Below.refl w28.heap.size w28).alloc (Nat.le_refl _) (.cells #[.int .u8 0,.int .u8 0,.int .u8 0,.int .u8 0,.int .u8 0,.int .u8 0,.int .u8 0,.int .u8 0,.int .u8 0,.int .u8 0,.int .u8 0,.int .u8 0,.int .u8 0,.int .u8 0,.int .u8 0,.int .u8 0,.int .u8 0,.int .u8 0,.int .u8 0,.int .u8 0,.int .u8 0,.int .u8 0,.int .u8 0,.int .u8 0,.int .u8 0,.int .u8 0,.int .u8 0,.int .u8 0,.int .u8 0,.int .u8 0,.int .u8 0,.int .u8 0] 28)
     have hh:=heap_alloc_new w28 (.cells #[.int .u8 0,.int .u8 0,.int .u8 0,.int .u8 0,.int .u8 0,.int .u8 0,.int .u8 0,.int .u8 0,.int .u8 0,.int .u8 0,.int .u8 0,.int .u8 0,.int .u8 0,.int .u8 0,.int .u8 0,.int .u8 0,.int .u8 0,.int .u8 0,.int .u8 0,.int .u8 0,.int .u8 0,.int .u8 0,.int .u8 0,.int .u8 0,.int .u8 0,.int .u8 0,.int .u8 0,.int .u8 0,.int .u8 0,.int .u8 0,.int .u8 0,.int .u8 0] 28)
     refine f.out _ _ (z.out.on hb).here ?_
     clear f K
     try simp only [ac]
     have FG:=hid (E.out.here.size)
     have E:=hid (E.out.on hb)
     have F:=hid (F.out.on hb)
     have M:=hid (M.out.on hb)
     have z:=hid (z.out.on hb)
     have F1:=hid (F1.out.on hb)
     have F2:=hid (F2.out.on hb)
     generalize w28.alloc (.cells #[.int .u8 0,.int .u8 0,.int .u8 0,.int .u8 0,.int .u8 0,.int .u8 0,.int .u8 0,.int .u8 0,.int .u8 0,.int .u8 0,.int .u8 0,.int .u8 0,.int .u8 0,.int .u8 0,.int .u8 0,.int .u8 0,.int .u8 0,.int .u8 0,.int .u8 0,.int .u8 0,.int .u8 0,.int .u8 0,.int .u8 0,.int .u8 0,.int .u8 0,.int .u8 0,.int .u8 0,.int .u8 0,.int .u8 0,.int .u8 0,.int .u8 0,.int .u8 0] 28)=w36 at *
     generalize w28.heap.size=Z at *
     have D:=hid (b9 (show Bt _ Z 28 (List.replicate 32 0) from hh))
     clear hb hh
     refine aa.one (i:=6) (o:=⟨some 14,_,_,_,_,_⟩) (by kernel_rfl) rfl (fun K f=>?_)
     rw [if_pos (by rfl)]
     obtain ⟨gA,cA,w37,bb,hb,O,R,dm,G⟩:=bL w36 a0 U A L C xs M.out.here HN.out HZ.out g2 1 Y x F2.out.here F1.out.here
     refine bh 79 (.tmp 10) (.tmp 13) (by rfl) (by rfl) _ _ (by rfl) (by rfl) _ _ bb ?_
     refine f.out _ _ (z.out.on hb).here ?_
     clear f K
     try simp only [ac]
     have E:=hid (E.out.on hb)
     have F:=hid (F.out.on hb)
     have z:=hid (z.out.on hb)
     have D:=hid (D.out.on hb)
     have FA:=hid (bB G)
     clear bb hb O R dm G
     refine aa.one (i:=7) (o:=⟨some 15,_,_,_,_,_⟩) (by kernel_rfl) rfl (fun K f=>?_)
     go_simp
     with_reducible refine (as_r st (some ⟨gA,0,none⟩) (U+1) cA _ _ _ _ r w37 FA.out.here F.out.here an.out ao.out HS.out ER.out).mono ?_
     rintro e w38 ⟨rfl,hb⟩
     go_wp2_with fail
     refine f.out _ _ (z.out.on hb).here ?_
     clear f K
     try simp only [ac]
     have E:=hid (E.out.on hb)
     have D:=hid (D.out.on hb)
     clear hb
     refine aa.one (i:=9) (o:=⟨none,_,_,_,_,_⟩) (by kernel_rfl) rfl (fun K f=>?_)
     rw [if_pos (by rfl)]
     have I:=D.out.here
     unfold Bt at I
     refine wp_store_row 28 (.tmp 5) (.tmp 15) (by rfl) Z (au r).toArray (by rfl) (by rfl) 28 _ I (hi44 r HQ.out).out (by rw [aw,aw,HQ.out,List.length_replicate]) (bF r) ?_
     have J:=below_setRow E.out.here FG.out (au r).toArray
     have V:=D.out.here.row (m:=r)
     refine f.out _ _ (bC al.out ad.out ar.out ap.out J) ?_
     clear f K
     try simp only [ac]
     have D:=hid ((b9 V).both (bf J))
     clear I J V
     refine aa.done (by kernel_rfl) ?_ _
     refine NoPanic.normal ?_
     exact hQ.out _ _ _ _ _ _ _ _ _ _ D
   ·skip
    go_simp
    have hb:=(Below.refl w26.heap.size w26).alloc (Nat.le_refl _) (.cells #[.int .u8 0,.int .u8 0,.int .u8 0,.int .u8 0,.int .u8 0,.int .u8 0,.int .u8 0,.int .u8 0,.int .u8 0,.int .u8 0,.int .u8 0,.int .u8 0,.int .u8 0,.int .u8 0,.int .u8 0,.int .u8 0,.int .u8 0,.int .u8 0,.int .u8 0,.int .u8 0,.int .u8 0,.int .u8 0,.int .u8 0,.int .u8 0,.int .u8 0,.int .u8 0,.int .u8 0,.int .u8 0,.int .u8 0,.int .u8 0,.int .u8 0,.int .u8 0] 28)
    have hh:=heap_alloc_new w26 (.cells #[.int .u8 0,.int .u8 0,.int .u8 0,.int .u8 0,.int .u8 0,.int .u8 0,.int .u8 0,.int .u8 0,.int .u8 0,.int .u8 0,.int .u8 0,.int .u8 0,.int .u8 0,.int .u8 0,.int .u8 0,.int .u8 0,.int .u8 0,.int .u8 0,.int .u8 0,.int .u8 0,.int .u8 0,.int .u8 0,.int .u8 0,.int .u8 0,.int .u8 0,.int .u8 0,.int .u8 0,.int .u8 0,.int .u8 0,.int .u8 0,.int .u8 0,.int .u8 0] 28)
    refine f.out _ _ (z.out.on hb).here ?_
    clear f K
    try simp only [ac]
    have FG:=hid (E.out.here.size)
    have E:=hid (E.out.on hb)
    have F:=hid (F.out.on hb)
    have M:=hid (M.out.on hb)
    have z:=hid (z.out.on hb)
    have F1:=hid (F1.out.on hb)
    generalize w26.alloc (.cells #[.int .u8 0,.int .u8 0,.int .u8 0,.int .u8 0,.int .u8 0,.int .u8 0,.int .u8 0,.int .u8 0,.int .u8 0,.int .u8 0,.int .u8 0,.int .u8 0,.int .u8 0,.int .u8 0,.int .u8 0,.int .u8 0,.int .u8 0,.int .u8 0,.int .u8 0,.int .u8 0,.int .u8 0,.int .u8 0,.int .u8 0,.int .u8 0,.int .u8 0,.int .u8 0,.int .u8 0,.int .u8 0,.int .u8 0,.int .u8 0,.int .u8 0,.int .u8 0] 28)=w40 at *
    generalize w26.heap.size=Z at *
    have D:=hid (b9 (show Bt _ Z 28 (List.replicate 32 0) from hh))
    clear hb hh
    refine aa.one (i:=5) (o:=⟨some 13,_,_,_,_,_⟩) (by kernel_rfl) rfl (fun K f=>?_)
    go_simp
    have hb:=(Below.refl w40.heap.size w40).alloc (Nat.le_refl _) (.cells #[.slice (some ⟨Y,0,none⟩) 1 1] 66)
    have hh:=heap_alloc_new w40 (.cells #[.slice (some ⟨Y,0,none⟩) 1 1] 66)
    refine f.out _ _ (z.out.on hb).here ?_
    clear f K
    try simp only [ac]
    have E:=hid (E.out.on hb)
    have F:=hid (F.out.on hb)
    have M:=hid (M.out.on hb)
    have z:=hid (z.out.on hb)
    have F1:=hid (F1.out.on hb)
    have D:=hid (D.out.on hb)
    generalize w40.alloc (.cells #[.slice (some ⟨Y,0,none⟩) 1 1] 66)=w41 at *
    generalize w40.heap.size=g2 at *
    have F2:=hid (ce (i:=0) (lt_of_block hh) (by rw [cell_of_row _ _ _ _ 66 _ hh]; rfl))
    clear hb hh
    refine aa.one (i:=6) (o:=⟨some 14,_,_,_,_,_⟩) (by kernel_rfl) rfl (fun K f=>?_)
    rw [if_pos (by rfl)]
    obtain ⟨gA,cA,w42,bb,hb,O,R,dm,G⟩:=bL w41 a0 U A L C xs M.out.here HN.out HZ.out g2 1 Y x F2.out.here F1.out.here
    refine bh 79 (.tmp 10) (.tmp 13) (by rfl) (by rfl) _ _ (by rfl) (by rfl) _ _ bb ?_
    refine f.out _ _ (z.out.on hb).here ?_
    clear f K
    try simp only [ac]
    have E:=hid (E.out.on hb)
    have F:=hid (F.out.on hb)
    have z:=hid (z.out.on hb)
    have D:=hid (D.out.on hb)
    have FA:=hid (bB G)
    clear bb hb O R dm G
    refine aa.one (i:=7) (o:=⟨some 15,_,_,_,_,_⟩) (by kernel_rfl) rfl (fun K f=>?_)
    go_simp
    with_reducible refine (as_r st (some ⟨gA,0,none⟩) (U+1) cA _ _ _ _ r w42 FA.out.here F.out.here an.out ao.out HS.out ER.out).mono ?_
    rintro e w43 ⟨rfl,hb⟩
    go_wp2_with fail
    refine f.out _ _ (z.out.on hb).here ?_
    clear f K
    try simp only [ac]
    have E:=hid (E.out.on hb)
    have D:=hid (D.out.on hb)
    clear hb
    refine aa.one (i:=9) (o:=⟨none,_,_,_,_,_⟩) (by kernel_rfl) rfl (fun K f=>?_)
    rw [if_pos (by rfl)]
    have I:=D.out.here
    unfold Bt at I
    refine wp_store_row 28 (.tmp 5) (.tmp 15) (by rfl) Z (au r).toArray (by rfl) (by rfl) 28 _ I (hi44 r HQ.out).out (by rw [aw,aw,HQ.out,List.length_replicate]) (bF r) ?_
    have J:=below_setRow E.out.here FG.out (au r).toArray
    have V:=D.out.here.row (m:=r)
    refine f.out _ _ (bC al.out ad.out ar.out ap.out J) ?_
    clear f K
    try simp only [ac]
    have D:=hid ((b9 V).both (bf J))
    clear I J V
    refine aa.done (by kernel_rfl) ?_ _
    refine NoPanic.normal ?_
    exact hQ.out _ _ _ _ _ _ _ _ _ _ D
  ·skip
   go_simp
   have hb:=(Below.refl w26.heap.size w26).alloc (Nat.le_refl _) (.cells #[.slice (some ⟨Y,0,none⟩) 1 1] 66)
   have hh:=heap_alloc_new w26 (.cells #[.slice (some ⟨Y,0,none⟩) 1 1] 66)
   refine f.out _ _ (z.out.on hb).here ?_
   clear f K
   try simp only [ac]
   have E:=hid (E.out.on hb)
   have F:=hid (F.out.on hb)
   have M:=hid (M.out.on hb)
   have z:=hid (z.out.on hb)
   have F1:=hid (F1.out.on hb)
   generalize w26.alloc (.cells #[.slice (some ⟨Y,0,none⟩) 1 1] 66)=w45 at *
   generalize w26.heap.size=g2 at *
   have F2:=hid (ce (i:=0) (lt_of_block hh) (by rw [cell_of_row _ _ _ _ 66 _ hh]; rfl))
   clear hb hh
   refine aa.two (i:=2) (j:=8) (o:=⟨some 10,_,_,_,_,_⟩) (p:=⟨some 5,_,_,_,_,_⟩) (by kernel_rfl) rfl rfl (fun K f=>?_) (fun K f=>?_)
   ·skip
    go_simp
    with_reducible refine (clip_any a0 U c0 _ HC.out ax.out H0.out).mono ?_
    rintro e wx ⟨rfl,rfl⟩
    go_wp2_with fail
    refine f.out _ _ z.out.here ?_
    clear f K
    try simp only [ac]
    refine aa.two (i:=6) (j:=8) (o:=⟨some 14,_,_,_,_,_⟩) (p:=⟨some 5,_,_,_,_,_⟩) (by kernel_rfl) rfl rfl (fun K f=>?_) (fun K f=>?_)
    ·skip
     rw [if_pos (by rfl)]
     obtain ⟨gA,cA,w47,bb,hb,O,R,dm,G⟩:=bL w45 a0 U A L C xs M.out.here HN.out HZ.out g2 1 Y x F2.out.here F1.out.here
     refine bh 79 (.tmp 10) (.tmp 13) (by rfl) (by rfl) _ _ (by rfl) (by rfl) _ _ bb ?_
     refine f.out _ _ (z.out.on hb).here ?_
     clear f K
     try simp only [ac]
     have E:=hid (E.out.on hb)
     have F:=hid (F.out.on hb)
     have z:=hid (z.out.on hb)
     have FA:=hid (bB G)
     clear bb hb O R dm G
     refine aa.two (i:=7) (j:=8) (o:=⟨some 15,_,_,_,_,_⟩) (p:=⟨some 5,_,_,_,_,_⟩) (by kernel_rfl) rfl rfl (fun K f=>?_) (fun K f=>?_)
     ·skip
      go_simp
      with_reducible refine (as_r st (some ⟨gA,0,none⟩) (U+1) cA _ _ _ _ r w47 FA.out.here F.out.here an.out ao.out HS.out ER.out).mono ?_
      rintro e w48 ⟨rfl,hb⟩
      go_wp2_with fail
      refine f.out _ _ (z.out.on hb).here ?_
      clear f K
      try simp only [ac]
      have E:=hid (E.out.on hb)
      have z:=hid (z.out.on hb)
      clear hb
      refine aa.one (i:=8) (o:=⟨some 5,_,_,_,_,_⟩) (by kernel_rfl) rfl (fun K f=>?_)
      go_simp
      have hb:=(Below.refl w48.heap.size w48).alloc (Nat.le_refl _) (.cells #[.int .u8 0,.int .u8 0,.int .u8 0,.int .u8 0,.int .u8 0,.int .u8 0,.int .u8 0,.int .u8 0,.int .u8 0,.int .u8 0,.int .u8 0,.int .u8 0,.int .u8 0,.int .u8 0,.int .u8 0,.int .u8 0,.int .u8 0,.int .u8 0,.int .u8 0,.int .u8 0,.int .u8 0,.int .u8 0,.int .u8 0,.int .u8 0,.int .u8 0,.int .u8 0,.int .u8 0,.int .u8 0,.int .u8 0,.int .u8 0,.int .u8 0,.int .u8 0] 28)
      have hh:=heap_alloc_new w48 (.cells #[.int .u8 0,.int .u8 0,.int .u8 0,.int .u8 0,.int .u8 0,.int .u8 0,.int .u8 0,.int .u8 0,.int .u8 0,.int .u8 0,.int .u8 0,.int .u8 0,.int .u8 0,.int .u8 0,.int .u8 0,.int .u8 0,.int .u8 0,.int .u8 0,.int .u8 0,.int .u8 0,.int .u8 0,.int .u8 0,.int .u8 0,.int .u8 0,.int .u8 0,.int .u8 0,.int .u8 0,.int .u8 0,.int .u8 0,.int .u8 0,.int .u8 0,.int .u8 0] 28)
      refine f.out _ _ (z.out.on hb).here ?_
      clear f K
      try simp only [ac]
      have FG:=hid (E.out.here.size)
      have E:=hid (E.out.on hb)
      generalize w48.alloc (.cells #[.int .u8 0,.int .u8 0,.int .u8 0,.int .u8 0,.int .u8 0,.int .u8 0,.int .u8 0,.int .u8 0,.int .u8 0,.int .u8 0,.int .u8 0,.int .u8 0,.int .u8 0,.int .u8 0,.int .u8 0,.int .u8 0,.int .u8 0,.int .u8 0,.int .u8 0,.int .u8 0,.int .u8 0,.int .u8 0,.int .u8 0,.int .u8 0,.int .u8 0,.int .u8 0,.int .u8 0,.int .u8 0,.int .u8 0,.int .u8 0,.int .u8 0,.int .u8 0] 28)=w49 at *
      generalize w48.heap.size=Z at *
      have D:=hid (b9 (show Bt _ Z 28 (List.replicate 32 0) from hh))
      clear hb hh
      refine aa.one (i:=9) (o:=⟨none,_,_,_,_,_⟩) (by kernel_rfl) rfl (fun K f=>?_)
      rw [if_pos (by rfl)]
      have I:=D.out.here
      unfold Bt at I
      refine wp_store_row 28 (.tmp 5) (.tmp 15) (by rfl) Z (au r).toArray (by rfl) (by rfl) 28 _ I (hi44 r HQ.out).out (by rw [aw,aw,HQ.out,List.length_replicate]) (bF r) ?_
      have J:=below_setRow E.out.here FG.out (au r).toArray
      have V:=D.out.here.row (m:=r)
      refine f.out _ _ (bC al.out ad.out ar.out ap.out J) ?_
      clear f K
      try simp only [ac]
      have D:=hid ((b9 V).both (bf J))
      clear I J V
      refine aa.done (by kernel_rfl) ?_ _
      refine NoPanic.normal ?_
      exact hQ.out _ _ _ _ _ _ _ _ _ _ D
     ·skip
      go_simp
      have hb:=(Below.refl w47.heap.size w47).alloc (Nat.le_refl _) (.cells #[.int .u8 0,.int .u8 0,.int .u8 0,.int .u8 0,.int .u8 0,.int .u8 0,.int .u8 0,.int .u8 0,.int .u8 0,.int .u8 0,.int .u8 0,.int .u8 0,.int .u8 0,.int .u8 0,.int .u8 0,.int .u8 0,.int .u8 0,.int .u8 0,.int .u8 0,.int .u8 0,.int .u8 0,.int .u8 0,.int .u8 0,.int .u8 0,.int .u8 0,.int .u8 0,.int .u8 0,.int .u8 0,.int .u8 0,.int .u8 0,.int .u8 0,.int .u8 0] 28)
      have hh:=heap_alloc_new w47 (.cells #[.int .u8 0,.int .u8 0,.int .u8 0,.int .u8 0,.int .u8 0,.int .u8 0,.int .u8 0,.int .u8 0,.int .u8 0,.int .u8 0,.int .u8 0,.int .u8 0,.int .u8 0,.int .u8 0,.int .u8 0,.int .u8 0,.int .u8 0,.int .u8 0,.int .u8 0,.int .u8 0,.int .u8 0,.int .u8 0,.int .u8 0,.int .u8 0,.int .u8 0,.int .u8 0,.int .u8 0,.int .u8 0,.int .u8 0,.int .u8 0,.int .u8 0,.int .u8 0] 28)
      refine f.out _ _ (z.out.on hb).here ?_
      clear f K
      try simp only [ac]
      have FG:=hid (E.out.here.size)
      have E:=hid (E.out.on hb)
      have F:=hid (F.out.on hb)
      have z:=hid (z.out.on hb)
      have FA:=hid (FA.out.on hb)
      generalize w47.alloc (.cells #[.int .u8 0,.int .u8 0,.int .u8 0,.int .u8 0,.int .u8 0,.int .u8 0,.int .u8 0,.int .u8 0,.int .u8 0,.int .u8 0,.int .u8 0,.int .u8 0,.int .u8 0,.int .u8 0,.int .u8 0,.int .u8 0,.int .u8 0,.int .u8 0,.int .u8 0,.int .u8 0,.int .u8 0,.int .u8 0,.int .u8 0,.int .u8 0,.int .u8 0,.int .u8 0,.int .u8 0,.int .u8 0,.int .u8 0,.int .u8 0,.int .u8 0,.int .u8 0] 28)=w51 at *
      generalize w47.heap.size=Z at *
      have D:=hid (b9 (show Bt _ Z 28 (List.replicate 32 0) from hh))
      clear hb hh
      refine aa.one (i:=7) (o:=⟨some 15,_,_,_,_,_⟩) (by kernel_rfl) rfl (fun K f=>?_)
      go_simp
      with_reducible refine (as_r st (some ⟨gA,0,none⟩) (U+1) cA _ _ _ _ r w51 FA.out.here F.out.here an.out ao.out HS.out ER.out).mono ?_
      rintro e w52 ⟨rfl,hb⟩
      go_wp2_with fail
      refine f.out _ _ (z.out.on hb).here ?_
      clear f K
      try simp only [ac]
      have E:=hid (E.out.on hb)
      have D:=hid (D.out.on hb)
      clear hb
      refine aa.one (i:=9) (o:=⟨none,_,_,_,_,_⟩) (by kernel_rfl) rfl (fun K f=>?_)
      rw [if_pos (by rfl)]
      have I:=D.out.here
      unfold Bt at I
      refine wp_store_row 28 (.tmp 5) (.tmp 15) (by rfl) Z (au r).toArray (by rfl) (by rfl) 28 _ I (hi44 r HQ.out).out (by rw [aw,aw,HQ.out,List.length_replicate]) (bF r) ?_
      have J:=below_setRow E.out.here FG.out (au r).toArray
      have V:=D.out.here.row (m:=r)
      refine f.out _ _ (bC al.out ad.out ar.out ap.out J) ?_
      clear f K
      try simp only [ac]
      have D:=hid ((b9 V).both (bf J))
      clear I J V
      refine aa.done (by kernel_rfl) ?_ _
      refine NoPanic.normal ?_
      exact hQ.out _ _ _ _ _ _ _ _ _ _ D
    ·skip
     go_simp
     have hb:=(Below.refl w45.heap.size w45).alloc (Nat.le_refl _) (.cells #[.int .u8 0,.int .u8 0,.int .u8 0,.int .u8 0,.int .u8 0,.int .u8 0,.int .u8 0,.int .u8 0,.int .u8 0,.int .u8 0,.int .u8 0,.int .u8 0,.int .u8 0,.int .u8 0,.int .u8 0,.int .u8 0,.int .u8 0,.int .u8 0,.int .u8 0,.int .u8 0,.int .u8 0,.int .u8 0,.int .u8 0,.int .u8 0,.int .u8 0,.int .u8 0,.int .u8 0,.int .u8 0,.int .u8 0,.int .u8 0,.int .u8 0,.int .u8 0] 28)
     have hh:=heap_alloc_new w45 (.cells #[.int .u8 0,.int .u8 0,.int .u8 0,.int .u8 0,.int .u8 0,.int .u8 0,.int .u8 0,.int .u8 0,.int .u8 0,.int .u8 0,.int .u8 0,.int .u8 0,.int .u8 0,.int .u8 0,.int .u8 0,.int .u8 0,.int .u8 0,.int .u8 0,.int .u8 0,.int .u8 0,.int .u8 0,.int .u8 0,.int .u8 0,.int .u8 0,.int .u8 0,.int .u8 0,.int .u8 0,.int .u8 0,.int .u8 0,.int .u8 0,.int .u8 0,.int .u8 0] 28)
     refine f.out _ _ (z.out.on hb).here ?_
     clear f K
     try simp only [ac]
     have FG:=hid (E.out.here.size)
     have E:=hid (E.out.on hb)
     have F:=hid (F.out.on hb)
     have M:=hid (M.out.on hb)
     have z:=hid (z.out.on hb)
     have F1:=hid (F1.out.on hb)
     have F2:=hid (F2.out.on hb)
     generalize w45.alloc (.cells #[.int .u8 0,.int .u8 0,.int .u8 0,.int .u8 0,.int .u8 0,.int .u8 0,.int .u8 0,.int .u8 0,.int .u8 0,.int .u8 0,.int .u8 0,.int .u8 0,.int .u8 0,.int .u8 0,.int .u8 0,.int .u8 0,.int .u8 0,.int .u8 0,.int .u8 0,.int .u8 0,.int .u8 0,.int .u8 0,.int .u8 0,.int .u8 0,.int .u8 0,.int .u8 0,.int .u8 0,.int .u8 0,.int .u8 0,.int .u8 0,.int .u8 0,.int .u8 0] 28)=w54 at *
     generalize w45.heap.size=Z at *
     have D:=hid (b9 (show Bt _ Z 28 (List.replicate 32 0) from hh))
     clear hb hh
     refine aa.one (i:=6) (o:=⟨some 14,_,_,_,_,_⟩) (by kernel_rfl) rfl (fun K f=>?_)
     rw [if_pos (by rfl)]
     obtain ⟨gA,cA,w55,bb,hb,O,R,dm,G⟩:=bL w54 a0 U A L C xs M.out.here HN.out HZ.out g2 1 Y x F2.out.here F1.out.here
     refine bh 79 (.tmp 10) (.tmp 13) (by rfl) (by rfl) _ _ (by rfl) (by rfl) _ _ bb ?_
     refine f.out _ _ (z.out.on hb).here ?_
     clear f K
     try simp only [ac]
     have E:=hid (E.out.on hb)
     have F:=hid (F.out.on hb)
     have z:=hid (z.out.on hb)
     have D:=hid (D.out.on hb)
     have FA:=hid (bB G)
     clear bb hb O R dm G
     refine aa.one (i:=7) (o:=⟨some 15,_,_,_,_,_⟩) (by kernel_rfl) rfl (fun K f=>?_)
     go_simp
     with_reducible refine (as_r st (some ⟨gA,0,none⟩) (U+1) cA _ _ _ _ r w55 FA.out.here F.out.here an.out ao.out HS.out ER.out).mono ?_
     rintro e w56 ⟨rfl,hb⟩
     go_wp2_with fail
     refine f.out _ _ (z.out.on hb).here ?_
     clear f K
     try simp only [ac]
     have E:=hid (E.out.on hb)
     have D:=hid (D.out.on hb)
     clear hb
     refine aa.one (i:=9) (o:=⟨none,_,_,_,_,_⟩) (by kernel_rfl) rfl (fun K f=>?_)
     rw [if_pos (by rfl)]
     have I:=D.out.here
     unfold Bt at I
     refine wp_store_row 28 (.tmp 5) (.tmp 15) (by rfl) Z (au r).toArray (by rfl) (by rfl) 28 _ I (hi44 r HQ.out).out (by rw [aw,aw,HQ.out,List.length_replicate]) (bF r) ?_
     have J:=below_setRow E.out.here FG.out (au r).toArray
     have V:=D.out.here.row (m:=r)
     refine f.out _ _ (bC al.out ad.out ar.out ap.out J) ?_
     clear f K
     try simp only [ac]
     have D:=hid ((b9 V).both (bf J))
     clear I J V
     refine aa.done (by kernel_rfl) ?_ _
     refine NoPanic.normal ?_
     exact hQ.out _ _ _ _ _ _ _ _ _ _ D
   ·skip
    go_simp
    have hb:=(Below.refl w45.heap.size w45).alloc (Nat.le_refl _) (.cells #[.int .u8 0,.int .u8 0,.int .u8 0,.int .u8 0,.int .u8 0,.int .u8 0,.int .u8 0,.int .u8 0,.int .u8 0,.int .u8 0,.int .u8 0,.int .u8 0,.int .u8 0,.int .u8 0,.int .u8 0,.int .u8 0,.int .u8 0,.int .u8 0,.int .u8 0,.int .u8 0,.int .u8 0,.int .u8 0,.int .u8 0,.int .u8 0,.int .u8 0,.int .u8 0,.int .u8 0,.int .u8 0,.int .u8 0,.int .u8 0,.int .u8 0,.int .u8 0] 28)
    have hh:=heap_alloc_new w45 (.cells #[.int .u8 0,.int .u8 0,.int .u8 0,.int .u8 0,.int .u8 0,.int .u8 0,.int .u8 0,.int .u8 0,.int .u8 0,.int .u8 0,.int .u8 0,.int .u8 0,.int .u8 0,.int .u8 0,.int .u8 0,.int .u8 0,.int .u8 0,.int .u8 0,.int .u8 0,.int .u8 0,.int .u8 0,.int .u8 0,.int .u8 0,.int .u8 0,.int .u8 0,.int .u8 0,.int .u8 0,.int .u8 0,.int .u8 0,.int .u8 0,.int .u8 0,.int .u8 0] 28)
    refine f.out _ _ (z.out.on hb).here ?_
    clear f K
    try simp only [ac]
    have FG:=hid (E.out.here.size)
    have E:=hid (E.out.on hb)
    have F:=hid (F.out.on hb)
    have M:=hid (M.out.on hb)
    have z:=hid (z.out.on hb)
    have F1:=hid (F1.out.on hb)
    have F2:=hid (F2.out.on hb)
    generalize w45.alloc (.cells #[.int .u8 0,.int .u8 0,.int .u8 0,.int .u8 0,.int .u8 0,.int .u8 0,.int .u8 0,.int .u8 0,.int .u8 0,.int .u8 0,.int .u8 0,.int .u8 0,.int .u8 0,.int .u8 0,.int .u8 0,.int .u8 0,.int .u8 0,.int .u8 0,.int .u8 0,.int .u8 0,.int .u8 0,.int .u8 0,.int .u8 0,.int .u8 0,.int .u8 0,.int .u8 0,.int .u8 0,.int .u8 0,.int .u8 0,.int .u8 0,.int .u8 0,.int .u8 0] 28)=w58 at *
    generalize w45.heap.size=Z at *
    have D:=hid (b9 (show Bt _ Z 28 (List.replicate 32 0) from hh))
    clear hb hh
    refine aa.one (i:=2) (o:=⟨some 10,_,_,_,_,_⟩) (by kernel_rfl) rfl (fun K f=>?_)
    go_simp
    with_reducible refine (clip_any a0 U c0 _ HC.out ax.out H0.out).mono ?_
    rintro e wx ⟨rfl,rfl⟩
    go_wp2_with fail
    refine f.out _ _ z.out.here ?_
    clear f K
    try simp only [ac]
    refine aa.one (i:=6) (o:=⟨some 14,_,_,_,_,_⟩) (by kernel_rfl) rfl (fun K f=>?_)
    rw [if_pos (by rfl)]
    obtain ⟨gA,cA,w60,bb,hb,O,R,dm,G⟩:=bL w58 a0 U A L C xs M.out.here HN.out HZ.out g2 1 Y x F2.out.here F1.out.here
    refine bh 79 (.tmp 10) (.tmp 13) (by rfl) (by rfl) _ _ (by rfl) (by rfl) _ _ bb ?_
    refine f.out _ _ (z.out.on hb).here ?_
    clear f K
    try simp only [ac]
    have E:=hid (E.out.on hb)
    have F:=hid (F.out.on hb)
    have z:=hid (z.out.on hb)
    have D:=hid (D.out.on hb)
    have FA:=hid (bB G)
    clear bb hb O R dm G
    refine aa.one (i:=7) (o:=⟨some 15,_,_,_,_,_⟩) (by kernel_rfl) rfl (fun K f=>?_)
    go_simp
    with_reducible refine (as_r st (some ⟨gA,0,none⟩) (U+1) cA _ _ _ _ r w60 FA.out.here F.out.here an.out ao.out HS.out ER.out).mono ?_
    rintro e w61 ⟨rfl,hb⟩
    go_wp2_with fail
    refine f.out _ _ (z.out.on hb).here ?_
    clear f K
    try simp only [ac]
    have E:=hid (E.out.on hb)
    have D:=hid (D.out.on hb)
    clear hb
    refine aa.one (i:=9) (o:=⟨none,_,_,_,_,_⟩) (by kernel_rfl) rfl (fun K f=>?_)
    rw [if_pos (by rfl)]
    have I:=D.out.here
    unfold Bt at I
    refine wp_store_row 28 (.tmp 5) (.tmp 15) (by rfl) Z (au r).toArray (by rfl) (by rfl) 28 _ I (hi44 r HQ.out).out (by rw [aw,aw,HQ.out,List.length_replicate]) (bF r) ?_
    have J:=below_setRow E.out.here FG.out (au r).toArray
    have V:=D.out.here.row (m:=r)
    refine f.out _ _ (bC al.out ad.out ar.out ap.out J) ?_
    clear f K
    try simp only [ac]
    have D:=hid ((b9 V).both (bf J))
    clear I J V
    refine aa.done (by kernel_rfl) ?_ _
    refine NoPanic.normal ?_
    exact hQ.out _ _ _ _ _ _ _ _ _ _ D
  ·skip
   go_simp
   have hb:=(Below.refl w26.heap.size w26).alloc (Nat.le_refl _) (.cells #[.int .u8 0,.int .u8 0,.int .u8 0,.int .u8 0,.int .u8 0,.int .u8 0,.int .u8 0,.int .u8 0,.int .u8 0,.int .u8 0,.int .u8 0,.int .u8 0,.int .u8 0,.int .u8 0,.int .u8 0,.int .u8 0,.int .u8 0,.int .u8 0,.int .u8 0,.int .u8 0,.int .u8 0,.int .u8 0,.int .u8 0,.int .u8 0,.int .u8 0,.int .u8 0,.int .u8 0,.int .u8 0,.int .u8 0,.int .u8 0,.int .u8 0,.int .u8 0] 28)
   have hh:=heap_alloc_new w26 (.cells #[.int .u8 0,.int .u8 0,.int .u8 0,.int .u8 0,.int .u8 0,.int .u8 0,.int .u8 0,.int .u8 0,.int .u8 0,.int .u8 0,.int .u8 0,.int .u8 0,.int .u8 0,.int .u8 0,.int .u8 0,.int .u8 0,.int .u8 0,.int .u8 0,.int .u8 0,.int .u8 0,.int .u8 0,.int .u8 0,.int .u8 0,.int .u8 0,.int .u8 0,.int .u8 0,.int .u8 0,.int .u8 0,.int .u8 0,.int .u8 0,.int .u8 0,.int .u8 0] 28)
   refine f.out _ _ (z.out.on hb).here ?_
   clear f K
   try simp only [ac]
   have FG:=hid (E.out.here.size)
   have E:=hid (E.out.on hb)
   have F:=hid (F.out.on hb)
   have M:=hid (M.out.on hb)
   have z:=hid (z.out.on hb)
   have F1:=hid (F1.out.on hb)
   generalize w26.alloc (.cells #[.int .u8 0,.int .u8 0,.int .u8 0,.int .u8 0,.int .u8 0,.int .u8 0,.int .u8 0,.int .u8 0,.int .u8 0,.int .u8 0,.int .u8 0,.int .u8 0,.int .u8 0,.int .u8 0,.int .u8 0,.int .u8 0,.int .u8 0,.int .u8 0,.int .u8 0,.int .u8 0,.int .u8 0,.int .u8 0,.int .u8 0,.int .u8 0,.int .u8 0,.int .u8 0,.int .u8 0,.int .u8 0,.int .u8 0,.int .u8 0,.int .u8 0,.int .u8 0] 28)=w63 at *
   generalize w26.heap.size=Z at *
   have D:=hid (b9 (show Bt _ Z 28 (List.replicate 32 0) from hh))
   clear hb hh
   refine aa.two (i:=2) (j:=5) (o:=⟨some 10,_,_,_,_,_⟩) (p:=⟨some 13,_,_,_,_,_⟩) (by kernel_rfl) rfl rfl (fun K f=>?_) (fun K f=>?_)
   ·skip
    go_simp
    with_reducible refine (clip_any a0 U c0 _ HC.out ax.out H0.out).mono ?_
    rintro e wx ⟨rfl,rfl⟩
    go_wp2_with fail
    refine f.out _ _ z.out.here ?_
    clear f K
    try simp only [ac]
    refine aa.one (i:=5) (o:=⟨some 13,_,_,_,_,_⟩) (by kernel_rfl) rfl (fun K f=>?_)
    go_simp
    have hb:=(Below.refl w63.heap.size w63).alloc (Nat.le_refl _) (.cells #[.slice (some ⟨Y,0,none⟩) 1 1] 66)
    have hh:=heap_alloc_new w63 (.cells #[.slice (some ⟨Y,0,none⟩) 1 1] 66)
    refine f.out _ _ (z.out.on hb).here ?_
    clear f K
    try simp only [ac]
    have E:=hid (E.out.on hb)
    have F:=hid (F.out.on hb)
    have M:=hid (M.out.on hb)
    have z:=hid (z.out.on hb)
    have F1:=hid (F1.out.on hb)
    have D:=hid (D.out.on hb)
    generalize w63.alloc (.cells #[.slice (some ⟨Y,0,none⟩) 1 1] 66)=w65 at *
    generalize w63.heap.size=g2 at *
    have F2:=hid (ce (i:=0) (lt_of_block hh) (by rw [cell_of_row _ _ _ _ 66 _ hh]; rfl))
    clear hb hh
    refine aa.one (i:=6) (o:=⟨some 14,_,_,_,_,_⟩) (by kernel_rfl) rfl (fun K f=>?_)
    rw [if_pos (by rfl)]
    obtain ⟨gA,cA,w66,bb,hb,O,R,dm,G⟩:=bL w65 a0 U A L C xs M.out.here HN.out HZ.out g2 1 Y x F2.out.here F1.out.here
    refine bh 79 (.tmp 10) (.tmp 13) (by rfl) (by rfl) _ _ (by rfl) (by rfl) _ _ bb ?_
    refine f.out _ _ (z.out.on hb).here ?_
    clear f K
    try simp only [ac]
    have E:=hid (E.out.on hb)
    have F:=hid (F.out.on hb)
    have z:=hid (z.out.on hb)
    have D:=hid (D.out.on hb)
    have FA:=hid (bB G)
    clear bb hb O R dm G
    refine aa.one (i:=7) (o:=⟨some 15,_,_,_,_,_⟩) (by kernel_rfl) rfl (fun K f=>?_)
    go_simp
    with_reducible refine (as_r st (some ⟨gA,0,none⟩) (U+1) cA _ _ _ _ r w66 FA.out.here F.out.here an.out ao.out HS.out ER.out).mono ?_
    rintro e w67 ⟨rfl,hb⟩
    go_wp2_with fail
    refine f.out _ _ (z.out.on hb).here ?_
    clear f K
    try simp only [ac]
    have E:=hid (E.out.on hb)
    have D:=hid (D.out.on hb)
    clear hb
    refine aa.one (i:=9) (o:=⟨none,_,_,_,_,_⟩) (by kernel_rfl) rfl (fun K f=>?_)
    rw [if_pos (by rfl)]
    have I:=D.out.here
    unfold Bt at I
    refine wp_store_row 28 (.tmp 5) (.tmp 15) (by rfl) Z (au r).toArray (by rfl) (by rfl) 28 _ I (hi44 r HQ.out).out (by rw [aw,aw,HQ.out,List.length_replicate]) (bF r) ?_
    have J:=below_setRow E.out.here FG.out (au r).toArray
    have V:=D.out.here.row (m:=r)
    refine f.out _ _ (bC al.out ad.out ar.out ap.out J) ?_
    clear f K
    try simp only [ac]
    have D:=hid ((b9 V).both (bf J))
    clear I J V
    refine aa.done (by kernel_rfl) ?_ _
    refine NoPanic.normal ?_
    exact hQ.out _ _ _ _ _ _ _ _ _ _ D
   ·skip
    go_simp
    have hb:=(Below.refl w63.heap.size w63).alloc (Nat.le_refl _) (.cells #[.slice (some ⟨Y,0,none⟩) 1 1] 66)
    have hh:=heap_alloc_new w63 (.cells #[.slice (some ⟨Y,0,none⟩) 1 1] 66)
    refine f.out _ _ (z.out.on hb).here ?_
    clear f K
    try simp only [ac]
    have E:=hid (E.out.on hb)
    have F:=hid (F.out.on hb)
    have M:=hid (M.out.on hb)
    have z:=hid (z.out.on hb)
    have F1:=hid (F1.out.on hb)
    have D:=hid (D.out.on hb)
    generalize w63.alloc (.cells #[.slice (some ⟨Y,0,none⟩) 1 1] 66)=w69 at *
    generalize w63.heap.size=g2 at *
    have F2:=hid (ce (i:=0) (lt_of_block hh) (by rw [cell_of_row _ _ _ _ 66 _ hh]; rfl))
    clear hb hh
    refine aa.one (i:=2) (o:=⟨some 10,_,_,_,_,_⟩) (by kernel_rfl) rfl (fun K f=>?_)
    go_simp
    with_reducible refine (clip_any a0 U c0 _ HC.out ax.out H0.out).mono ?_
    rintro e wx ⟨rfl,rfl⟩
    go_wp2_with fail
    refine f.out _ _ z.out.here ?_
    clear f K
    try simp only [ac]
    refine aa.one (i:=6) (o:=⟨some 14,_,_,_,_,_⟩) (by kernel_rfl) rfl (fun K f=>?_)
    rw [if_pos (by rfl)]
    obtain ⟨gA,cA,w71,bb,hb,O,R,dm,G⟩:=bL w69 a0 U A L C xs M.out.here HN.out HZ.out g2 1 Y x F2.out.here F1.out.here
    refine bh 79 (.tmp 10) (.tmp 13) (by rfl) (by rfl) _ _ (by rfl) (by rfl) _ _ bb ?_
    refine f.out _ _ (z.out.on hb).here ?_
    clear f K
    try simp only [ac]
    have E:=hid (E.out.on hb)
    have F:=hid (F.out.on hb)
    have z:=hid (z.out.on hb)
    have D:=hid (D.out.on hb)
    have FA:=hid (bB G)
    clear bb hb O R dm G
    refine aa.one (i:=7) (o:=⟨some 15,_,_,_,_,_⟩) (by kernel_rfl) rfl (fun K f=>?_)
    go_simp
    with_reducible refine (as_r st (some ⟨gA,0,none⟩) (U+1) cA _ _ _ _ r w71 FA.out.here F.out.here an.out ao.out HS.out ER.out).mono ?_
    rintro e w72 ⟨rfl,hb⟩
    go_wp2_with fail
    refine f.out _ _ (z.out.on hb).here ?_
    clear f K
    try simp only [ac]
    have E:=hid (E.out.on hb)
    have D:=hid (D.out.on hb)
    clear hb
    refine aa.one (i:=9) (o:=⟨none,_,_,_,_,_⟩) (by kernel_rfl) rfl (fun K f=>?_)
    rw [if_pos (by rfl)]
    have I:=D.out.here
    unfold Bt at I
    refine wp_store_row 28 (.tmp 5) (.tmp 15) (by rfl) Z (au r).toArray (by rfl) (by rfl) 28 _ I (hi44 r HQ.out).out (by rw [aw,aw,HQ.out,List.length_replicate]) (bF r) ?_
    have J:=below_setRow E.out.here FG.out (au r).toArray
    have V:=D.out.here.row (m:=r)
    refine f.out _ _ (bC al.out ad.out ar.out ap.out J) ?_
    clear f K
    try simp only [ac]
    have D:=hid ((b9 V).both (bf J))
    clear I J V
    refine aa.done (by kernel_rfl) ?_ _
    refine NoPanic.normal ?_
    exact hQ.out _ _ _ _ _ _ _ _ _ _ D
 ·skip
  go_simp
  have hb:=(Below.refl ab.heap.size ab).alloc (Nat.le_refl _) (.cells #[.int .u8 0,.int .u8 0,.int .u8 0,.int .u8 0,.int .u8 0,.int .u8 0,.int .u8 0,.int .u8 0,.int .u8 0,.int .u8 0,.int .u8 0,.int .u8 0,.int .u8 0,.int .u8 0,.int .u8 0,.int .u8 0,.int .u8 0,.int .u8 0,.int .u8 0,.int .u8 0,.int .u8 0,.int .u8 0,.int .u8 0,.int .u8 0,.int .u8 0,.int .u8 0,.int .u8 0,.int .u8 0,.int .u8 0,.int .u8 0,.int .u8 0,.int .u8 0] 28)
  have hh:=heap_alloc_new ab (.cells #[.int .u8 0,.int .u8 0,.int .u8 0,.int .u8 0,.int .u8 0,.int .u8 0,.int .u8 0,.int .u8 0,.int .u8 0,.int .u8 0,.int .u8 0,.int .u8 0,.int .u8 0,.int .u8 0,.int .u8 0,.int .u8 0,.int .u8 0,.int .u8 0,.int .u8 0,.int .u8 0,.int .u8 0,.int .u8 0,.int .u8 0,.int .u8 0,.int .u8 0,.int .u8 0,.int .u8 0,.int .u8 0,.int .u8 0,.int .u8 0,.int .u8 0,.int .u8 0] 28)
  refine f.out _ _ (z.out.on hb).here ?_
  clear f K
  try simp only [ac]
  have FG:=hid (E.out.here.size)
  have E:=hid (E.out.on hb)
  have F:=hid (F.out.on hb)
  have M:=hid (M.out.on hb)
  have z:=hid (z.out.on hb)
  generalize ab.alloc (.cells #[.int .u8 0,.int .u8 0,.int .u8 0,.int .u8 0,.int .u8 0,.int .u8 0,.int .u8 0,.int .u8 0,.int .u8 0,.int .u8 0,.int .u8 0,.int .u8 0,.int .u8 0,.int .u8 0,.int .u8 0,.int .u8 0,.int .u8 0,.int .u8 0,.int .u8 0,.int .u8 0,.int .u8 0,.int .u8 0,.int .u8 0,.int .u8 0,.int .u8 0,.int .u8 0,.int .u8 0,.int .u8 0,.int .u8 0,.int .u8 0,.int .u8 0,.int .u8 0] 28)=w74 at *
  generalize ab.heap.size=Z at *
  have D:=hid (b9 (show Bt _ Z 28 (List.replicate 32 0) from hh))
  clear hb hh
  refine aa.two (i:=2) (j:=4) (o:=⟨some 10,_,_,_,_,_⟩) (p:=⟨some 12,_,_,_,_,_⟩) (by kernel_rfl) rfl rfl (fun K f=>?_) (fun K f=>?_)
  ·skip
   go_simp
   with_reducible refine (clip_any a0 U c0 _ HC.out ax.out H0.out).mono ?_
   rintro e wx ⟨rfl,rfl⟩
   go_wp2_with fail
   refine f.out _ _ z.out.here ?_
   clear f K
   try simp only [ac]
   refine aa.one (i:=4) (o:=⟨some 12,_,_,_,_,_⟩) (by kernel_rfl) rfl (fun K f=>?_)
   go_simp
   have hb:=(Below.refl w74.heap.size w74).alloc (Nat.le_refl _) (.cells #[.int .u8 xi] 5)
   have hh:=heap_alloc_new w74 (.cells #[.int .u8 xi] 5)
   refine f.out _ _ (z.out.on hb).here ?_
   clear f K
   try simp only [ac]
   have E:=hid (E.out.on hb)
   have F:=hid (F.out.on hb)
   have M:=hid (M.out.on hb)
   have z:=hid (z.out.on hb)
   have D:=hid (D.out.on hb)
   generalize w74.alloc (.cells #[.int .u8 xi] 5)=w76 at *
   generalize w74.heap.size=Y at *
   have F1:=hid (on_rd (rd_one _ _ x 5 (by rw [← HX.out]; exact hh)))
   clear hb hh
   refine aa.one (i:=5) (o:=⟨some 13,_,_,_,_,_⟩) (by kernel_rfl) rfl (fun K f=>?_)
   go_simp
   have hb:=(Below.refl w76.heap.size w76).alloc (Nat.le_refl _) (.cells #[.slice (some ⟨Y,0,none⟩) 1 1] 66)
   have hh:=heap_alloc_new w76 (.cells #[.slice (some ⟨Y,0,none⟩) 1 1] 66)
   refine f.out _ _ (z.out.on hb).here ?_
   clear f K
   try simp only [ac]
   have E:=hid (E.out.on hb)
   have F:=hid (F.out.on hb)
   have M:=hid (M.out.on hb)
   have z:=hid (z.out.on hb)
   have F1:=hid (F1.out.on hb)
   have D:=hid (D.out.on hb)
   generalize w76.alloc (.cells #[.slice (some ⟨Y,0,none⟩) 1 1] 66)=w77 at *
   generalize w76.heap.size=g2 at *
   have F2:=hid (ce (i:=0) (lt_of_block hh) (by rw [cell_of_row _ _ _ _ 66 _ hh]; rfl))
   clear hb hh
   refine aa.one (i:=6) (o:=⟨some 14,_,_,_,_,_⟩) (by kernel_rfl) rfl (fun K f=>?_)
   rw [if_pos (by rfl)]
   obtain ⟨gA,cA,w78,bb,hb,O,R,dm,G⟩:=bL w77 a0 U A L C xs M.out.here HN.out HZ.out g2 1 Y x F2.out.here F1.out.here
   refine bh 79 (.tmp 10) (.tmp 13) (by rfl) (by rfl) _ _ (by rfl) (by rfl) _ _ bb ?_
   refine f.out _ _ (z.out.on hb).here ?_
   clear f K
   try simp only [ac]
   have E:=hid (E.out.on hb)
   have F:=hid (F.out.on hb)
   have z:=hid (z.out.on hb)
   have D:=hid (D.out.on hb)
   have FA:=hid (bB G)
   clear bb hb O R dm G
   refine aa.one (i:=7) (o:=⟨some 15,_,_,_,_,_⟩) (by kernel_rfl) rfl (fun K f=>?_)
   go_simp
   with_reducible refine (as_r st (some ⟨gA,0,none⟩) (U+1) cA _ _ _ _ r w78 FA.out.here F.out.here an.out ao.out HS.out ER.out).mono ?_
   rintro e w79 ⟨rfl,hb⟩
   go_wp2_with fail
   refine f.out _ _ (z.out.on hb).here ?_
   clear f K
   try simp only [ac]
   have E:=hid (E.out.on hb)
   have D:=hid (D.out.on hb)
   clear hb
   refine aa.one (i:=9) (o:=⟨none,_,_,_,_,_⟩) (by kernel_rfl) rfl (fun K f=>?_)
   rw [if_pos (by rfl)]
   have I:=D.out.here
   unfold Bt at I
   refine wp_store_row 28 (.tmp 5) (.tmp 15) (by rfl) Z (au r).toArray (by rfl) (by rfl) 28 _ I (hi44 r HQ.out).out (by rw [aw,aw,HQ.out,List.length_replicate]) (bF r) ?_
   have J:=below_setRow E.out.here FG.out (au r).toArray
   have V:=D.out.here.row (m:=r)
   refine f.out _ _ (bC al.out ad.out ar.out ap.out J) ?_
   clear f K
   try simp only [ac]
   have D:=hid ((b9 V).both (bf J))
   clear I J V
   refine aa.done (by kernel_rfl) ?_ _
   refine NoPanic.normal ?_
   exact hQ.out _ _ _ _ _ _ _ _ _ _ D
  ·skip
   go_simp
   have hb:=(Below.refl w74.heap.size w74).alloc (Nat.le_refl _) (.cells #[.int .u8 xi] 5)
   have hh:=heap_alloc_new w74 (.cells #[.int .u8 xi] 5)
   refine f.out _ _ (z.out.on hb).here ?_
   clear f K
   try simp only [ac]
   have E:=hid (E.out.on hb)
   have F:=hid (F.out.on hb)
   have M:=hid (M.out.on hb)
   have z:=hid (z.out.on hb)
   have D:=hid (D.out.on hb)
   generalize w74.alloc (.cells #[.int .u8 xi] 5)=w81 at *
   generalize w74.heap.size=Y at *
   have F1:=hid (on_rd (rd_one _ _ x 5 (by rw [← HX.out]; exact hh)))
   clear hb hh
   refine aa.two (i:=2) (j:=5) (o:=⟨some 10,_,_,_,_,_⟩) (p:=⟨some 13,_,_,_,_,_⟩) (by kernel_rfl) rfl rfl (fun K f=>?_) (fun K f=>?_)
   ·skip
    go_simp
    with_reducible refine (clip_any a0 U c0 _ HC.out ax.out H0.out).mono ?_
    rintro e wx ⟨rfl,rfl⟩
    go_wp2_with fail
    refine f.out _ _ z.out.here ?_
    clear f K
    try simp only [ac]
    refine aa.one (i:=5) (o:=⟨some 13,_,_,_,_,_⟩) (by kernel_rfl) rfl (fun K f=>?_)
    go_simp
    have hb:=(Below.refl w81.heap.size w81).alloc (Nat.le_refl _) (.cells #[.slice (some ⟨Y,0,none⟩) 1 1] 66)
    have hh:=heap_alloc_new w81 (.cells #[.slice (some ⟨Y,0,none⟩) 1 1] 66)
    refine f.out _ _ (z.out.on hb).here ?_
    clear f K
    try simp only [ac]
    have E:=hid (E.out.on hb)
    have F:=hid (F.out.on hb)
    have M:=hid (M.out.on hb)
    have z:=hid (z.out.on hb)
    have F1:=hid (F1.out.on hb)
    have D:=hid (D.out.on hb)
    generalize w81.alloc (.cells #[.slice (some ⟨Y,0,none⟩) 1 1] 66)=w83 at *
    generalize w81.heap.size=g2 at *
    have F2:=hid (ce (i:=0) (lt_of_block hh) (by rw [cell_of_row _ _ _ _ 66 _ hh]; rfl))
    clear hb hh
    refine aa.one (i:=6) (o:=⟨some 14,_,_,_,_,_⟩) (by kernel_rfl) rfl (fun K f=>?_)
    rw [if_pos (by rfl)]
    obtain ⟨gA,cA,w84,bb,hb,O,R,dm,G⟩:=bL w83 a0 U A L C xs M.out.here HN.out HZ.out g2 1 Y x F2.out.here F1.out.here
    refine bh 79 (.tmp 10) (.tmp 13) (by rfl) (by rfl) _ _ (by rfl) (by rfl) _ _ bb ?_
    refine f.out _ _ (z.out.on hb).here ?_
    clear f K
    try simp only [ac]
    have E:=hid (E.out.on hb)
    have F:=hid (F.out.on hb)
    have z:=hid (z.out.on hb)
    have D:=hid (D.out.on hb)
    have FA:=hid (bB G)
    clear bb hb O R dm G
    refine aa.one (i:=7) (o:=⟨some 15,_,_,_,_,_⟩) (by kernel_rfl) rfl (fun K f=>?_)
    go_simp
    with_reducible refine (as_r st (some ⟨gA,0,none⟩) (U+1) cA _ _ _ _ r w84 FA.out.here F.out.here an.out ao.out HS.out ER.out).mono ?_
    rintro e w85 ⟨rfl,hb⟩
    go_wp2_with fail
    refine f.out _ _ (z.out.on hb).here ?_
    clear f K
    try simp only [ac]
    have E:=hid (E.out.on hb)
    have D:=hid (D.out.on hb)
    clear hb
    refine aa.one (i:=9) (o:=⟨none,_,_,_,_,_⟩) (by kernel_rfl) rfl (fun K f=>?_)
    rw [if_pos (by rfl)]
    have I:=D.out.here
    unfold Bt at I
    refine wp_store_row 28 (.tmp 5) (.tmp 15) (by rfl) Z (au r).toArray (by rfl) (by rfl) 28 _ I (hi44 r HQ.out).out (by rw [aw,aw,HQ.out,List.length_replicate]) (bF r) ?_
    have J:=below_setRow E.out.here FG.out (au r).toArray
    have V:=D.out.here.row (m:=r)
    refine f.out _ _ (bC al.out ad.out ar.out ap.out J) ?_
    clear f K
    try simp only [ac]
    have D:=hid ((b9 V).both (bf J))
    clear I J V
    refine aa.done (by kernel_rfl) ?_ _
    refine NoPanic.normal ?_
    exact hQ.out _ _ _ _ _ _ _ _ _ _ D
   ·skip
    go_simp
    have hb:=(Below.refl w81.heap.size w81).alloc (Nat.le_refl _) (.cells #[.slice (some ⟨Y,0,none⟩) 1 1] 66)
    have hh:=heap_alloc_new w81 (.cells #[.slice (some ⟨Y,0,none⟩) 1 1] 66)
    refine f.out _ _ (z.out.on hb).here ?_
    clear f K
    try simp only [ac]
    have E:=hid (E.out.on hb)
    have F:=hid (F.out.on hb)
    have M:=hid (M.out.on hb)
    have z:=hid (z.out.on hb)
    have F1:=hid (F1.out.on hb)
    have D:=hid (D.out.on hb)
    generalize w81.alloc (.cells #[.slice (some ⟨Y,0,none⟩) 1 1] 66)=w87 at *
    generalize w81.heap.size=g2 at *
    have F2:=hid (ce (i:=0) (lt_of_block hh) (by rw [cell_of_row _ _ _ _ 66 _ hh]; rfl))
    clear hb hh
    refine aa.one (i:=2) (o:=⟨some 10,_,_,_,_,_⟩) (by kernel_rfl) rfl (fun K f=>?_)
    go_simp
    with_reducible refine (clip_any a0 U c0 _ HC.out ax.out H0.out).mono ?_
    rintro e wx ⟨rfl,rfl⟩
    go_wp2_with fail
    refine f.out _ _ z.out.here ?_
    clear f K
    try simp only [ac]
    refine aa.one (i:=6) (o:=⟨some 14,_,_,_,_,_⟩) (by kernel_rfl) rfl (fun K f=>?_)
    rw [if_pos (by rfl)]
    obtain ⟨gA,cA,w89,bb,hb,O,R,dm,G⟩:=bL w87 a0 U A L C xs M.out.here HN.out HZ.out g2 1 Y x F2.out.here F1.out.here
    refine bh 79 (.tmp 10) (.tmp 13) (by rfl) (by rfl) _ _ (by rfl) (by rfl) _ _ bb ?_
    refine f.out _ _ (z.out.on hb).here ?_
    clear f K
    try simp only [ac]
    have E:=hid (E.out.on hb)
    have F:=hid (F.out.on hb)
    have z:=hid (z.out.on hb)
    have D:=hid (D.out.on hb)
    have FA:=hid (bB G)
    clear bb hb O R dm G
    refine aa.one (i:=7) (o:=⟨some 15,_,_,_,_,_⟩) (by kernel_rfl) rfl (fun K f=>?_)
    go_simp
    with_reducible refine (as_r st (some ⟨gA,0,none⟩) (U+1) cA _ _ _ _ r w89 FA.out.here F.out.here an.out ao.out HS.out ER.out).mono ?_
    rintro e w90 ⟨rfl,hb⟩
    go_wp2_with fail
    refine f.out _ _ (z.out.on hb).here ?_
    clear f K
    try simp only [ac]
    have E:=hid (E.out.on hb)
    have D:=hid (D.out.on hb)
    clear hb
    refine aa.one (i:=9) (o:=⟨none,_,_,_,_,_⟩) (by kernel_rfl) rfl (fun K f=>?_)
    rw [if_pos (by rfl)]
    have I:=D.out.here
    unfold Bt at I
    refine wp_store_row 28 (.tmp 5) (.tmp 15) (by rfl) Z (au r).toArray (by rfl) (by rfl) 28 _ I (hi44 r HQ.out).out (by rw [aw,aw,HQ.out,List.length_replicate]) (bF r) ?_
    have J:=below_setRow E.out.here FG.out (au r).toArray
    have V:=D.out.here.row (m:=r)
    refine f.out _ _ (bC al.out ad.out ar.out ap.out J) ?_
    clear f K
    try simp only [ac]
    have D:=hid ((b9 V).both (bf J))
    clear I J V
    refine aa.done (by kernel_rfl) ?_ _
    refine NoPanic.normal ?_
    exact hQ.out _ _ _ _ _ _ _ _ _ _ D
theorem rowo_below {w w':World} {B:Nat} {v:Value} {n:Nat} {l:List Value} (h:w.ownsRow B 66 1 v n l) (hb:Below w.heap.size w w'):w'.ownsRow B 66 1 v n l:=by
 refine ⟨h.1,?_⟩
 rcases h.2 with h | ⟨g,z,f,e,F,D,E⟩
 ·exact .inl h
 ·exact .inr ⟨g,z,f,e,F,(hb.block g (lt_of_block D)).trans D,E⟩
theorem av {w:World} {g:Nat} {o:Obj} (h:w.heap[g]?=some o):On w fun u=>u.heap[g]?=some o:=fun u f=>(f.block g (lt_of_block h)).trans h
theorem cells_one (n:Nat) (A:Nat→Option Addr) (L C:Nat→Nat):∀ u∈cellsOf n A L C,u.oneCell'=true:=by
 intro u f
 obtain ⟨r,_,rfl⟩:=List.mem_map.1 f
 rfl
theorem rows_all (w:World) (F:Option Addr) (f E:Nat) (A:Nat→Option Addr) (L C:Nat→Nat) (O:Nat→List UInt8) (R:Rws w F f A L C O) (hn:f≤1000) (hc:f≤E) (V:F=none→E=0) :
  ∃ v w',(Builtin.append_ #[79,79] 79 #[.slice none 0 0,.slice F f E]).run Tryz.prog w=.ok v w'∧w'.ownsRow w.heap.size 66 1 v f (cellsOf f A L C)∧Below w.heap.size w w':=by
 obtain ⟨K,hi,I,Y,G⟩:=info_parts row_info
 rcases F with _ | ad
 ·obtain rfl:=V rfl
  obtain rfl:f=0:=by omega
  refine ⟨_,w,run_append_owned_none (P:=Tryz.prog) (w:=w) w.heap.size 79 79 66 K 1 Tryz.underlying79 hi (.slice none 0 0) 0 [] (World.ownsRow_nil w _ 66 1),World.ownsRow_nil w _ 66 1,Below.refl _ _⟩
 ·obtain ⟨v',w',Z,M,U,_⟩:=run_append_own_at (P:=Tryz.prog) w w.heap.size 79 79 66 K (.slice none 0 0) 1 24 Tryz.underlying79 hi I Y G rfl (by omega) (.slice none 0 0) 0 [] (World.ownsRow_nil w _ 66 1) ad f E (cellsOf f A L C) (by rw [bE,Nat.mul_one])
   (fun j u z=>by
    have D:j<f:=by
     rcases Nat.lt_or_ge j f with h | h
     ·exact h
     ·rw [List.getElem?_eq_none (by rw [bE]; exact h)] at z; cases z
    rw [cellsOf_at A L C D] at z
    injection z with z; subst z
    obtain ⟨⟨go,o,J,_,hc⟩,_⟩:=R j D
    injection J with J; subst J
    rw [Addr.add_lit]; exact hc) (cells_one f A L C) (by simp only [maxLen]; omega) (by omega) (Nat.le_refl _)
  rw [Nat.zero_add,List.nil_append] at M
  exact ⟨v',w',Z,M,below_grown (Below.refl _ _) (U.but (some w.heap.size)) (Nat.le_refl _) (Nat.le_refl _)⟩
theorem rows_put (w0 w:World) (B:Nat) (a0:Option Addr) (v:Value) (n:Nat) (A:Nat→Option Addr) (L C:Nat→Nat) (Z:Nat→List UInt8) (bA:w0.heap.size≤B) (hB:Below w0.heap.size w0 w) (V:B≤w.heap.size)
  (ho:w.ownsRow B 66 1 v n (cellsOf n A L C)) (hR:Rws w0 a0 n A L C Z) (hn:n≤1000) (b d b1:Nat) (x:UInt8) (hb:w.cell? ⟨b,0,none⟩=some (.slice (some ⟨b1,0,none⟩) 1 1)) (hr:w.heap[b1]?=some (.cells #[.int .u8 (x.toNat:Int)] 5 (0,0))) (K:v.ownBlock≠some b1) :
  ∃ g c w',(Builtin.append_ #[79,79] 79 #[v,.slice (some ⟨b,0,none⟩) 1 d]).run Tryz.prog w=.ok (.slice (some ⟨g,0,none⟩) (n+1) c) w'∧Below w0.heap.size w0 w'∧w.heap.size≤w'.heap.size∧n+1≤c∧
   Rws w' (some ⟨g,0,none⟩) (n+1) (nx n A (some ⟨b1,0,none⟩)) (nx n L 1) (nx n C 1) (nx n Z [x])∧(∀ k,k<w.heap.size→v.ownBlock≠some k→w'.heap[k]?=w.heap[k]?):=by
 obtain ⟨i0,hi,J,dG,I⟩:=info_parts row_info
 have F:∀ j u,([Value.slice (some ⟨b1,0,none⟩) 1 1]:List Value)[j]?=some u→w.cell? ((⟨b,0,none⟩:Addr).add j)=some u:=by
  intro j u R
  rcases j with _ | j
  ·simp only [List.getElem?_cons_zero,Option.some.injEq] at R
   subst R
   rw [Addr.add_lit]; exact hb
  ·simp at R
 obtain ⟨v',w',bb,E,z,_⟩:=run_append_own_at (P:=Tryz.prog) w B 79 79 66 i0 (.slice none 0 0) 1 24 Tryz.underlying79 hi J dG I rfl (by omega) v n (cellsOf n A L C) ho ⟨b,0,none⟩ 1 d _ rfl F (by simp [Value.oneCell']) (by simp only [maxLen]; omega) (by omega) V
 have f:∀ k,k<w.heap.size→v.ownBlock≠some k→w'.heap[k]?=w.heap[k]?:=fun k hk hv=>z.block k hk (by intro e; exact hv e.symm)
 have O:∀ k,v.ownBlock=some k→B≤k∧k<w.heap.size:=World.ownsRow.lt ho
 have G:Below w0.heap.size w0 w':=hB.trans ⟨z.os,z.tape,z.output,z.size,fun k hk=>f k (by have:=hB.size; omega) (fun e=>by have:=(O k e).1; omega)⟩
 have U:w'.heap[b1]?=some (.cells #[.int .u8 (x.toNat:Int)] 5 (0,0)):=(f b1 (lt_of_block hr) K).trans hr
 rcases E.2 with ⟨_,h⟩ | ⟨g,Y,an,rfl,al,hh,M,hm,hs,ht⟩
 ·omega
 ·refine ⟨g,Y,w',bb,G,z.size,M,fun r ab=>?_,f⟩
  have cH:=World.ownsRow.cellAt E r (by omega)
  rcases Nat.lt_or_ge r n with D | ad
  ·obtain ⟨_,k1,k2,k3,k4,k5⟩:=hR r D
   simp only [nx,D,if_true]
   refine ⟨⟨g,0,rfl,lt_of_block hh,?_⟩,k1,k2.below G (Nat.le_refl _),k3,k4,k5⟩
   rw [Nat.zero_add,cH,List.getElem?_append_left (by rw [bE]; exact D),cellsOf_at A L C D]
  ·obtain rfl:r=n:=by omega
   simp only [nx,Nat.lt_irrefl,if_false]
   refine ⟨⟨g,0,rfl,lt_of_block hh,?_⟩,rfl,rd_one w' b1 x 5 U,Nat.le_refl _,by omega,fun h=>by cases h⟩
   rw [Nat.zero_add,cH,List.getElem?_append_right (by rw [bE]; exact Nat.le_refl _),bE]
   simp
end
end Go.Proofs.YtmapkbdjnnionaaGreatDoor
