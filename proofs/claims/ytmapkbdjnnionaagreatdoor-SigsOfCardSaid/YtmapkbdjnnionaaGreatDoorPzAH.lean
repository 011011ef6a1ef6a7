import Derived.Test.YtmapkbdjnnionaaGreatDoorPzAG
import Derived.Deep.RegionHeld3
import Derived.StillTail
set_option maxRecDepth 100000
set_option maxHeartbeats 8000000
set_option linter.all false
namespace Go.Proofs.YtmapkbdjnnionaaGreatDoor
section
open Go.RowKit
section
variable {P:Program} {md:Region.Mode} {ops:Array Oper} {Q:Exit→Act→World→Prop} {S:Array Bool→World→Prop}
def aa (P:Program) (md:Region.Mode) (ops:Array Oper) (Q:Exit→Act→World→Prop) (S:Array Bool→World→Prop):Nat→Array Bool→Act→World→Prop
 | 0,up,a,w=>Region.ready md ops up = []∧Q .normal a w
 | n+1,up,a,w=>(Region.ready md ops up = []→Q .normal a w)∧∀ j∈Region.ready md ops up,wpOp P ops Q j (fun b u=>S (up.setIfInBounds j true) u∧aa P md ops Q S n (up.setIfInBounds j true) b u) a w
theorem aa.any (n:Nat):∀ (f:Array Bool) (a:Act) (w:World),aa P md ops Q S n f a w→wpAny P md ops Q n f a w:=by
 induction n with
 | zero=>exact fun _ _ _ h=>h
 | succ n ih=>exact fun f a w h=>⟨h.1,fun j z=>wpOp_mono (fun b u g=>ih _ b u g.2) (h.2 j z)⟩
def Yet (S:Array Bool→World→Prop) (W:List Nat) (w:World):Prop:=∃ up:Array Bool,(∀ j∈W,up.getD j true=false)∧S up w
theorem aa.early {i:Nat} {o:Oper} {v:Value} {W:List Nat} (Z:ops[i]?=some o) (hn:Region.noSelect ops=true) (hp:∀ c a w,Q (.panic c) (a.put o.dst v) w→Q (.panic c) a w)
  (hW:∀ j∈W,Region.waitsFor md ops j i=true) (hS:∀ (L:Array Bool) (u:World),S (L.setIfInBounds i true) u→S L u) (n:Nat) :
  ∀ (f:Array Bool) (a:Act) (w:World),
   (∀ j p,ops[j]?=some p→j≠i→f.getD j true=false→(∀ e∈p.after,Region.binds md e=true→e.on≠i)→o.apart ops p=true)→
   i∈Region.ready md ops f→(∀ j∈W,f.getD j true=false)→YieldsIf P ops (Yet S W) o v a→S (f.setIfInBounds i true) w→
   aa P md ops Q S n (f.setIfInBounds i true) (a.put o.dst v) w→aa P md ops Q S (n+1) f a w:=by
 have G:=Region.noSelect_spec hn
 induction n with
 | zero =>
  intro f a w hf E U O J H
  refine ⟨fun h=>(by rw [h] at E; cases E),fun j R=>?_⟩
  rcases Nat.decEq j i with h | h
  ·have:=ready_mono R h
   rw [H.1] at this
   cases this
  ·subst h
   exact O.wpOp Z ⟨f,U,hS f w J⟩ ⟨J,H⟩
 | succ n ih =>
  intro f a w hf E U O J H
  refine ⟨fun h=>(by rw [h] at E; cases E),fun j R=>?_⟩
  rcases Nat.decEq j i with h | h
  ·obtain ⟨un,p,z,K⟩:=mem_ready.1 R
   have D:∀ e∈p.after,Region.binds md e=true→e.on≠i:=by
    intro e he hb al
    have M:=K e he hb
    have g0:=(mem_ready.1 E).1
    rw [al] at M
    rcases Nat.lt_or_ge i f.size with h' | h'
    ·simp [h'] at g0 M; rw [g0] at M; cases M
    ·simp [Array.getElem?_eq_none h'] at M
   have I:∀ k∈W,k≠j:=by
    intro k F e
    subst e
    obtain ⟨q,hq,e,he,hb,Y⟩:=Region.waitsFor_spec (hW _ F)
    rw [z] at hq
    cases hq
    exact D e he hb Y
   have st:=wpOp_putIf z (hf j p z h un D) (fun cs b=>G i o cs b Z) (fun cs b=>G j p cs b z) hp O (H.2 j (ready_mono R h))
   refine wpOp_mono (fun b u g=>?_) st
   have gs:=g.2.1
   rw [Array.setIfInBounds_comm _ _ (Ne.symm h)] at gs
   refine ⟨hS _ _ gs,ih _ b u ?_ (ready_mono E (Ne.symm h)) ?_ g.1 gs ?_⟩
   ·intro k q F ad V ab
    refine hf k q F ad ?_ ab
    rcases Nat.decEq j k with e | e
    ·rwa [getD_set_ne true e] at V
    ·subst e; exact un
   ·intro k F
    rw [getD_set_ne true (Ne.symm (I k F))]
    exact U k F
   ·have:=g.2.2
    rwa [Array.setIfInBounds_comm _ _ (Ne.symm h)] at this
  ·subst h
   exact O.wpOp Z ⟨f,U,hS f w J⟩ ⟨J,H⟩
theorem aa.take {i:Nat} {o:Oper} {v:Value} (W:List Nat) {n:Nat} {f:Array Bool} {a:Act} {w:World} (E:ops[i]?=some o) (K:Region.noSelect ops=true) (hf:Region.free md ops f i=true) (I:(Region.ready md ops f).contains i=true)
  (J:∀ c a w,Q (.panic c) (a.put o.dst v) w→Q (.panic c) a w) (M:(W.all fun j=>Region.waitsFor md ops j i && !(f.getD j true))=true) (O:∀ (L:Array Bool) (u:World),S (L.setIfInBounds i true) u→S L u)
  (F:YieldsIf P ops (Yet S W) o v a) (G:S (f.setIfInBounds i true) w) (H:aa P md ops Q S n (f.setIfInBounds i true) (a.put o.dst v) w):aa P md ops Q S (n+1) f a w:=by
 have z:=List.all_eq_true.1 M
 refine aa.early (W:=W) E K J (fun j D=>?_) O n f a w (Region.free_spec E hf) (by simpa using I) (fun j D=>?_) F G H
 ·have:=z j D; simp only [Bool.and_eq_true] at this; exact this.1
 ·have:=z j D; simp only [Bool.and_eq_true,Bool.not_eq_true'] at this; exact this.2
theorem aa.one {i:Nat} {o:Oper} {n:Nat} {f:Array Bool} {a:Act} {w:World} (z:Region.ready md ops f = [i]) (E:ops[i]?=some o)
  (h:∀ K:Act→World→Prop,Shut (∀ b u,S (f.setIfInBounds i true) u→aa P md ops Q S n (f.setIfInBounds i true) b u→K b u)→if Region.wanted o (yielded ops a.tmps)=true then Oper.wp P o a w K Q else K (a.put o.dst undef) w):aa P md ops Q S (n+1) f a w:=by
 refine ⟨fun e=>(by rw [z] at e; cases e),fun j D=>?_⟩
 rw [z] at D
 obtain rfl:=List.mem_singleton.1 D
 exact wpOp_step E (fun K F=>h K (fun b u I G=>F b u ⟨I,G⟩))
def Hand (P:Program) (md:Region.Mode) (ops:Array Oper) (Q:Exit→Act→World→Prop) (S:Array Bool→World→Prop) (n:Nat) (up:Array Bool) (a:Act) (w:World) (i:Nat) (o:Oper):Prop :=
 ∀ K:Act→World→Prop,Shut (∀ b u,S (up.setIfInBounds i true) u→aa P md ops Q S n (up.setIfInBounds i true) b u→K b u)→if Region.wanted o (yielded ops a.tmps)=true then Oper.wp P o a w K Q else K (a.put o.dst undef) w
theorem aa.two {i j:Nat} {o p:Oper} {n:Nat} {D:Array Bool} {a:Act} {w:World} (G:Region.ready md ops D = [i,j]) (J:ops[i]?=some o) (I:ops[j]?=some p)
  (z:Hand P md ops Q S n D a w i o) (f:Hand P md ops Q S n D a w j p):aa P md ops Q S (n+1) D a w:=by
 refine ⟨fun e=>(by rw [G] at e; cases e),fun k E=>?_⟩
 rw [G] at E
 rcases List.mem_cons.1 E with rfl | E
 ·exact wpOp_step J (fun K F=>z K (fun b u z f=>F b u ⟨z,f⟩))
 ·obtain rfl:=List.mem_singleton.1 E
  exact wpOp_step I (fun K F=>f K (fun b u z f=>F b u ⟨z,f⟩))
theorem aa.three {i j k:Nat} {o p q:Oper} {n:Nat} {E:Array Bool} {a:Act} {w:World} (G:Region.ready md ops E = [i,j,k]) (L:ops[i]?=some o) (J:ops[j]?=some p) (I:ops[k]?=some q)
  (z:Hand P md ops Q S n E a w i o) (f:Hand P md ops Q S n E a w j p) (M:Hand P md ops Q S n E a w k q):aa P md ops Q S (n+1) E a w:=by
 refine ⟨fun e=>(by rw [G] at e; cases e),fun m D=>?_⟩
 rw [G] at D
 rcases List.mem_cons.1 D with rfl | D
 ·exact wpOp_step L (fun K F=>z K (fun b u z f=>F b u ⟨z,f⟩))
 rcases List.mem_cons.1 D with rfl | D
 ·exact wpOp_step J (fun K F=>f K (fun b u z f=>F b u ⟨z,f⟩))
 ·obtain rfl:=List.mem_singleton.1 D
  exact wpOp_step I (fun K F=>M K (fun b u z f=>F b u ⟨z,f⟩))
theorem aa.done {f:Array Bool} {a:Act} {w:World} (z:Region.ready md ops f = []) (h:Q .normal a w):∀ n,aa P md ops Q S n f a w
 | 0=>⟨z,h⟩
 | _+1=>⟨fun _=>h,by rw [z]; simp⟩
theorem aa.region {f:Nat} {a:Act} {w:World} (S:Array Bool→World→Prop) (z:P.follows .mixedOrders=true) (h:aa P .any ops Q S ops.size (Array.replicate ops.size false) a w.drew):(Code.region f ops true).wp P Q a w :=
 wp_region_any z (h.any _ _ _ _)
end
theorem ac:(∀ (a:Act) (d:Nat) (v:Value),a.put (some d) v = { a with tmps:=a.tmps.setIfInBounds d v })∧(∀ (a:Act) (v:Value),a.put none v=a)∧(∀ (l:List Value) (i:Nat) (v:Value),l.toArray.setIfInBounds i v=(l.set i v).toArray)∧(∀ (a:Value) (l:List Value) (v:Value),(a :: l).set 0 v=v :: l)∧(∀ (a:Value) (l:List Value) (n:Nat) (v:Value),(a :: l).set (n+1) v=a :: l.set n v) :=
 ⟨fun _ _ _=>rfl,fun _ _=>rfl,fun l i v=>List.setIfInBounds_toArray l i v,fun _ _ _=>rfl,fun _ _ _ _=>rfl⟩
section
variable {P:Program} {md:Region.Mode} {ops:Array Oper} {Q:Exit→Act→World→Prop} {S:Array Bool→World→Prop}
theorem aa.tk {i:Nat} {o:Oper} {v:Value} (W:List Nat) {n:Nat} {f:Array Bool} {a:Act} {w:World} (E:ops[i]?=some o:=by exact rfl) (F:Region.noSelect ops=true:=by kernel_rfl) (hf:Region.free md ops f i=true:=by kernel_rfl) (z:(Region.ready md ops f).contains i=true:=by kernel_rfl)
  (D:∀ c a w,Q (.panic c) (a.put o.dst v) w→Q (.panic c) a w:=by exact fun _ _ _ h=>h) (G:(W.all fun j=>Region.waitsFor md ops j i && !(f.getD j true))=true:=by kernel_rfl) (I:∀ (L:Array Bool) (u:World),S (L.setIfInBounds i true) u→S L u:=by exact fun L u h=>h)
  (y:YieldsIf P ops (Yet S W) o v a) (s:S (f.setIfInBounds i true) w) (H:aa P md ops Q S n (f.setIfInBounds i true) (a.put o.dst v) w):aa P md ops Q S (n+1) f a w :=
 aa.take W E F hf z D G I y s H
theorem aa.q (i:Nat) (o:Oper) {v:Value} {n:Nat} {f:Array Bool} {a:Act} {w:World} (s:S (f.setIfInBounds i true) w) (H:aa P md ops Q S n (f.setIfInBounds i true) (a.put o.dst v) w) (F:ops[i]?=some o:=by exact rfl) (G:Region.noSelect ops=true:=by kernel_rfl) (hf:Region.free md ops f i=true:=by kernel_rfl) (D:(Region.ready md ops f).contains i=true:=by kernel_rfl)
  (E:∀ c a w,Q (.panic c) (a.put o.dst v) w→Q (.panic c) a w:=by exact fun _ _ _ h=>h) (I:∀ (L:Array Bool) (u:World),S (L.setIfInBounds i true) u→S L u:=by exact fun L u h=>h)
  (z:Region.wanted o (yielded ops a.tmps)=true:=by rfl) (y:∀ u,Yet S [] u→(execOp a.eval o).run P u=.ok (.value v) u:=by intro u J; go_simp; try with_reducible rfl):aa P md ops Q S (n+1) f a w :=
 aa.take [] F G hf D E (by rfl) I (Or.inl ⟨z,y⟩) s H
end
end
end Go.Proofs.YtmapkbdjnnionaaGreatDoor
