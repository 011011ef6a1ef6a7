import Derived.Test.YtmapkbdjnnionaaGreatDoorPzBI
import Derived.BigQuiet
set_option maxRecDepth 100000
set_option maxHeartbeats 8000000
set_option linter.all false
namespace Go.Proofs.YtmapkbdjnnionaaGreatDoor
open Go.RowKit
theorem ret_int {k:IntKind} {a b:Int} (h:a=b):Ending.returned (.int k a)=.returned (.int k b):=by rw [h]
def SaysN (w:World) (t:Nat) (e:Ending) (w':World):Prop:=e=.returned (.int .u64 (t:Int))∧∃ k,w'=w.drewN k
theorem rtold_any (m:Nat):∀ (A:Option Addr) (c:Nat) (bs:List UInt8) (w:World),bs.length=m→Rd w A bs→m≤c→c≤9223372036854775807→m≤8→
  Calls Tryz.prog 93 #[.slice A m c] w (SaysN w (aF bs)):=by
 induction m with
 | zero =>
  intro A c bs w D f hc E M
  obtain rfl:bs = []:=List.eq_nil_of_length_eq_zero D
  go_enter Tryz.func93,Tryz.ntmps93
  go_wp2
  go_ret
  exact ⟨rfl,0,rfl⟩
 | succ m ih =>
  intro A c bs w D f hc E M
  have z:m<bs.length:=by omega
  have R:=hid (p:=aF bs=aF (bs.take m) * 256+bs[m].toNat) (by rw [← tell_take_succ bs m z,List.take_of_length_le (by omega)])
  have hT:aF (bs.take m)<72057594037927936:=Nat.lt_of_lt_of_le (tell_lt (bs.take m)) (pow256_le (k:=(bs.take m).length) (by rw [List.length_take]; omega))
  have hX:bs[m].toNat<256:=bs[m].toNat_lt
  obtain ⟨g,o,rfl,hg,F⟩:=f (by omega)
  have V:=F m z
  clear F
  have O:=hid (fun w' (K:Rd w' (some ⟨g,o,none⟩) (bs.take m))=>ih (some ⟨g,o,none⟩) c (bs.take m) w' (by rw [List.length_take]; omega) K (by omega) E (by omega))
  clear ih
  have U:=hid (f.take m)
  generalize bs[m].toNat=x at *
  generalize aF (bs.take m)=t at *
  clear f z
  have L:(((m+1:Nat):Int) == 0)=false:=by simp; omega
  go_enter Tryz.func93,Tryz.ntmps93
  go_wp2
  have J:IntKind.u64.wrap (256 * (t:Int))=256 * (t:Int):=IntWalk.u64_in _ (by omega)
  have I:IntKind.u64.wrap (x:Int)=(x:Int):=IntWalk.u64_in _ (by omega)
  have G:IntKind.u64.wrap (256 * (t:Int)+(x:Int))=256 * (t:Int)+(x:Int):=IntWalk.u64_in _ (by omega)
  have i1:(m:Int)<(m:Int)+1:=by omega
  have Z:(0:Int)≤(m:Int):=by omega
  have Y:(m:Int)≤(c:Int):=by omega
  go_quiet ((go_at_call 93; exact Calls.quiet_of (O.out _ (by exact U.out))))
  go_wp2
  go_ret
  exact ⟨ret_int (by rw [R.out]; omega),nq,rfl⟩
def Says2 (w:World) (a b:Int) (e:Ending) (w':World):Prop:=e=.returned (.tuple #[.int .u64 a,.int .i64 b])∧∃ k,w'=w.drewN k
theorem rget_ok (A:Option Addr) (c K:Nat) (bs:List UInt8) (w:World) (f:Rd w A bs) (hc:bs.length≤c) (D:c≤9223372036854775807) (z:K≤8) (F:K≤bs.length) :
  Calls Tryz.prog 113 #[.slice A bs.length c,.int .i64 (K:Int)] w (Says2 w (aF (bs.take K):Int) 0):=by
 have E:=hid (rtold_any K A c (bs.take K) w (by rw [List.length_take]; omega) (f.take K) (by omega) D z)
 go_enter Tryz.func113,Tryz.ntmps113
 go_wp2_with fail
 refine E.out.mono ?_
 rintro e w' ⟨rfl,nq,rfl⟩
 go_wp2
 go_ret2
 exact ⟨rfl,nq,rfl⟩
theorem Rd.drewN {w:World} {A:Option Addr} {bs:List UInt8} (h:Rd w A bs) (k:Nat):Rd (w.drewN k) A bs:=h
theorem rtold_len (A:Option Addr) (c t:Nat) (bs:List UInt8) (w:World) (D:bs.length=8) (hc:8≤c) (E:c≤9223372036854775807) (f:aF bs=t) (z:Rd w A bs) :
  Calls Tryz.prog 93 #[.slice A 8 c] w (SaysN w t):=by
 subst f; exact rtold_any 8 A c bs w D z hc E (by omega)
def GL (w wk:World) (x y:Array Value):Prop:=Below w.heap.size w wk∧wk.heap[w.heap.size]?=some (.cells x 24 (0,0))∧wk.heap[w.heap.size+1]?=some (.cells y 24 (0,0))
theorem GL.drewN {w f:World} {x y:Array Value} (h:GL w f x y) (k:Nat):GL w (f.drewN k) x y:=⟨below_drewN h.1 k,h.2⟩
theorem GL.cell {w f:World} {x y:Array Value} (h:GL w f x y) (i:Nat) (v:Value) (z:y[i]?=some v):f.cell? ⟨w.heap.size+1,i,none⟩=some v:=by rw [cell_of_row _ _ _ _ 24 (0,0) h.2.2,z]
theorem GL.cell0 {w f:World} {x y:Array Value} (h:GL w f x y) (i:Nat) (v:Value) (z:x[i]?=some v):f.cell? ⟨w.heap.size,i,none⟩=some v:=by rw [cell_of_row _ _ _ _ 24 (0,0) h.2.1,z]
theorem GL.frozen {w f:World} {x y:Array Value} (h:GL w f x y) (i:Nat):f.frozen? ⟨w.heap.size+1,i,none⟩=false:=by simp [World.frozen?,h.2.2]
theorem GL.frozen0 {w f:World} {x y:Array Value} (h:GL w f x y) (i:Nat):f.frozen? ⟨w.heap.size,i,none⟩=false:=by simp [World.frozen?,h.2.1]
theorem GL.set {w f:World} {x y:Array Value} (h:GL w f x y) (i:Nat) (v:Value):GL w (f.setCell ⟨w.heap.size+1,i,none⟩ v) x (y.setIfInBounds i v) :=
 ⟨h.1.setCell (by simp) v,(Below.heap_setCell f _ v _ (by simp)).trans h.2.1,by simp [World.setCell,Array.getElem?_modify,h.2.2]⟩
theorem rgetLong_ok (A:Option Addr) (c:Nat) (bs:List UInt8) (w:World) (K:Rd w A bs) (hc:bs.length≤c) (dm:c≤9223372036854775807) (h4:32≤bs.length) :
  Calls Tryz.prog 69 #[.slice A bs.length c] w fun e w'=>e=.returned (.tuple #[.agg #[.int .u64 (word bs 3:Int),.int .u64 (word bs 2:Int),.int .u64 (word bs 1:Int),.int .u64 (word bs 0:Int)],.int .i64 0])∧
   Below w.heap.size w w':=by
 obtain ⟨g,o,rfl,hg,cH⟩:=K (by omega)
 have H0:=hid ((K.cut 0 (some ⟨g,o,none⟩) (fun O h _=>by injection h with h; subst h; rw [cg]; rfl)).take 8)
 have H1:=hid ((K.cut 8 (some ⟨g,o+8,none⟩) (fun O h _=>by injection h with h; subst h; rw [cg])).take 8)
 have H2:=hid ((K.cut 16 (some ⟨g,o+16,none⟩) (fun O h _=>by injection h with h; subst h; rw [cg])).take 8)
 have H3:=hid ((K.cut 24 (some ⟨g,o+24,none⟩) (fun O h _=>by injection h with h; subst h; rw [cg])).take 8)
 have M:Hid (∀ k,k≤24→((bs.drop k).take 8).length=8):=hid (fun k hk=>by simp; omega)
 have W0:=hid (p:=aF ((bs.drop 0).take 8)=word bs 0) rfl
 have W1:=hid (p:=aF ((bs.drop 8).take 8)=word bs 1) rfl
 have W2:=hid (p:=aF ((bs.drop 16).take 8)=word bs 2) rfl
 have W3:=hid (p:=aF ((bs.drop 24).take 8)=word bs 3) rfl
 clear cH K
 have ab:decide ((bs.length:Int)<32)=false:=by simp; omega
 generalize word bs 0=L at *
 generalize word bs 1=J at *
 generalize word bs 2=I at *
 generalize word bs 3=G at *
 go_enter Tryz.func69,Tryz.ntmps69
 go_wp2
 have Y:=hid (p:=GL w ((w.alloc (.cells #[.int .u64 0,.int .u64 0,.int .u64 0,.int .u64 0] 24)).alloc (.cells #[.int .u64 0,.int .u64 0,.int .u64 0,.int .u64 0] 24)) #[.int .u64 0,.int .u64 0,.int .u64 0,.int .u64 0] #[.int .u64 0,.int .u64 0,.int .u64 0,.int .u64 0]) ⟨((Below.refl _ _).alloc (Nat.le_refl _) _).alloc (by simp) _,(Below.heap_alloc _ _ _ (by simp)).trans (heap_alloc_new _ _),by
  have:=heap_alloc_new (w.alloc (.cells #[.int .u64 0,.int .u64 0,.int .u64 0,.int .u64 0] 24)) (.cells #[.int .u64 0,.int .u64 0,.int .u64 0,.int .u64 0] 24)
  simpa using this⟩
 generalize (w.alloc (.cells #[.int .u64 0,.int .u64 0,.int .u64 0,.int .u64 0] 24)).alloc (.cells #[.int .u64 0,.int .u64 0,.int .u64 0,.int .u64 0] 24)=w0 at *
 refine wp_loop_rounds 5 ?_
 rw [rounds_succ]
 go_wp2_with fail
 refine (rtold_len _ _ G _ _ (M.out 24 (by omega)) (by omega) (by omega) W3.out (H3.out.below Y.out.1 (Nat.le_refl _))).mono ?_
 rintro e w' ⟨rfl,q0,rfl⟩
 have F:=hid (Y.out.drewN q0)
 clear Y
 generalize w0.drewN q0=v0 at *
 have c0:=F.out.cell 0 _ rfl
 have f0:=F.out.frozen 0
 go_wp2
 clear c0 f0
 have V:=hid (p:=GL w (v0.setCell ⟨w.heap.size+1,0,none⟩ (.int .u64 (G:Int))) #[.int .u64 0,.int .u64 0,.int .u64 0,.int .u64 0] #[.int .u64 (G:Int),.int .u64 0,.int .u64 0,.int .u64 0]) (F.out.set 0 _)
 clear F
 generalize v0.setCell ⟨w.heap.size+1,0,none⟩ (.int .u64 (G:Int))=w1 at *
 rw [rounds_succ]
 go_wp2_with fail
 refine (rtold_len _ _ I _ _ (M.out 16 (by omega)) (by omega) (by omega) W2.out (H2.out.below V.out.1 (Nat.le_refl _))).mono ?_
 rintro e w' ⟨rfl,q1,rfl⟩
 have E:=hid (V.out.drewN q1)
 clear V
 generalize w1.drewN q1=v1 at *
 have c1:=E.out.cell 1 _ rfl
 have f1:=E.out.frozen 1
 go_wp2
 clear c1 f1
 have U:=hid (p:=GL w (v1.setCell ⟨w.heap.size+1,1,none⟩ (.int .u64 (I:Int))) #[.int .u64 0,.int .u64 0,.int .u64 0,.int .u64 0] #[.int .u64 (G:Int),.int .u64 (I:Int),.int .u64 0,.int .u64 0]) (E.out.set 1 _)
 clear E
 generalize v1.setCell ⟨w.heap.size+1,1,none⟩ (.int .u64 (I:Int))=w2 at *
 rw [rounds_succ]
 go_wp2_with fail
 refine (rtold_len _ _ J _ _ (M.out 8 (by omega)) (by omega) (by omega) W1.out (H1.out.below U.out.1 (Nat.le_refl _))).mono ?_
 rintro e w' ⟨rfl,q2,rfl⟩
 have D:=hid (U.out.drewN q2)
 clear U
 generalize w2.drewN q2=Z at *
 have c2:=D.out.cell 2 _ rfl
 have f2:=D.out.frozen 2
 go_wp2
 clear c2 f2
 have R:=hid (p:=GL w (Z.setCell ⟨w.heap.size+1,2,none⟩ (.int .u64 (J:Int))) #[.int .u64 0,.int .u64 0,.int .u64 0,.int .u64 0] #[.int .u64 (G:Int),.int .u64 (I:Int),.int .u64 (J:Int),.int .u64 0]) (D.out.set 2 _)
 clear D
 generalize Z.setCell ⟨w.heap.size+1,2,none⟩ (.int .u64 (J:Int))=w3 at *
 rw [rounds_succ]
 go_wp2_with fail
 refine (rtold_len _ _ L _ _ (M.out 0 (by omega)) (by omega) (by omega) W0.out (H0.out.below R.out.1 (Nat.le_refl _))).mono ?_
 rintro e w' ⟨rfl,q3,rfl⟩
 have z:=hid (R.out.drewN q3)
 clear R
 generalize w3.drewN q3=v3 at *
 have c3:=z.out.cell 3 _ rfl
 have f3:=z.out.frozen 3
 go_wp2
 clear c3 f3
 have f:=hid (p:=GL w (v3.setCell ⟨w.heap.size+1,3,none⟩ (.int .u64 (L:Int))) #[.int .u64 0,.int .u64 0,.int .u64 0,.int .u64 0] #[.int .u64 (G:Int),.int .u64 (I:Int),.int .u64 (J:Int),.int .u64 (L:Int)]) (z.out.set 3 _)
 clear z
 generalize v3.setCell ⟨w.heap.size+1,3,none⟩ (.int .u64 (L:Int))=w4 at *
 rw [rounds_succ]
 have c0:=f.out.cell 0 _ rfl
 have c1:=f.out.cell 1 _ rfl
 have c2:=f.out.cell 2 _ rfl
 have c3:=f.out.cell 3 _ rfl
 have d0:=f.out.cell0 0 _ rfl
 have d1:=f.out.cell0 1 _ rfl
 have d2:=f.out.cell0 2 _ rfl
 have d3:=f.out.cell0 3 _ rfl
 have e0:=f.out.frozen0 0
 have e1:=f.out.frozen0 1
 have e2:=f.out.frozen0 2
 have e3:=f.out.frozen0 3
 go_wp2
 refine bodyPost_ret (v:=.tuple #[.agg #[.int .u64 (G:Int),.int .u64 (I:Int),.int .u64 (J:Int),.int .u64 (L:Int)],.int .i64 0]) (by simp [results,Tryz.results69,go_sem,d0,d1,d2,d3]) rfl ⟨rfl,?_⟩
 exact (((f.out.1.setCell (Nat.le_refl _) _).setCell (Nat.le_refl _) _).setCell (Nat.le_refl _) _).setCell (Nat.le_refl _) _
end Go.Proofs.YtmapkbdjnnionaaGreatDoor
