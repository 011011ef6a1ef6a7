import Derived.Test.YtmapkbdjnnionaaGreatDoorPzAB
import Derived.Maps.AppendAt
import Derived.Laws.AppendOwnNone
set_option maxRecDepth 100000
set_option maxHeartbeats 8000000
set_option linter.all false
namespace Go.Proofs.YtmapkbdjnnionaaGreatDoor
open Go.RowKit
def Ow (w:World) (base:Nat) (v:Value) (bs:List UInt8):Prop:=w.ownsRow base 5 1 v bs.length (au bs)
theorem Ow.nil (w:World) (base:Nat):Ow w base (.slice none 0 0) []:=World.ownsRow_nil w base 5 1
theorem Ow.form {w:World} {base:Nat} {v:Value} {bs:List UInt8} (h:Ow w base v bs) :
  ∃ A c,v=.slice A bs.length c∧bs.length≤c∧c≤9223372036854775807∧Rd w A bs∧(A=none→c=0):=by
 rcases h.2 with ⟨rfl,E⟩ | ⟨g,z,G,rfl,hb,hh,f,F,J,I⟩
 ·have:bs = []:=List.eq_nil_of_length_eq_zero E
  subst this
  exact ⟨none,0,rfl,Nat.le_refl _,by omega,Rd.nil _ _,fun _=>rfl⟩
 ·refine ⟨_,z,rfl,f,F,fun K=>⟨g,0,rfl,lt_of_block hh,fun j D=>?_⟩,fun h=>by cases h⟩
  have:=World.ownsRow.cellAt h j (by simpa using D)
  rw [Nat.zero_add,this]
  simp [au,D]
theorem append_bytes (w:World) (base:Nat) (v:Value) (bs z:List UInt8) (A:Option Addr) (m c:Nat) (f:Ow w base v bs) (L:Rd w A z) (I:z.length=m) (U:A=none→c=0)
  (O:bs.length+m≤140737488355328) (D:base≤w.heap.size) :
  ∃ v' w',(Builtin.append_ #[66,66] 66 #[v,.slice A m c]).run Tryz.prog w=.ok v' w'∧Ow w' base v' (bs ++ z)∧w.grownBy w' v.ownBlock∧
   (v'.ownBlock=v.ownBlock∨v'.ownBlock=some w.heap.size):=by
 obtain ⟨J,hi,G,dG,F⟩:=info_parts u8_info
 rcases A with _ | M
 ·have R:z = []:=by
   rcases Nat.eq_zero_or_pos z.length with E | E
   ·exact List.eq_nil_of_length_eq_zero E
   ·obtain ⟨_,_,h,_⟩:=L E; cases h
  subst R
  subst I
  obtain rfl:=U rfl
  exact ⟨v,w,run_append_owned_none (P:=Tryz.prog) (w:=w) base 66 66 5 J 1 Tryz.underlying66 hi v bs.length _ f,by simpa using f,World.grownBy.refl w _,.inl rfl⟩
 ·have hc:∀ j u,(au z)[j]?=some u→w.cell? (M.add j)=some u:=by
   intro j u K
   rcases Nat.eq_zero_or_pos z.length with E | E
   ·have:z = []:=List.eq_nil_of_length_eq_zero E
    subst this; simp [au] at K
   ·obtain ⟨ab,h,hc⟩:=L.cells E
    injection h with h
    subst h
    exact hc j u K
  obtain ⟨v',w',bb,Z,Y,_,V⟩:=run_append_own_at (P:=Tryz.prog) w base 66 66 5 J (.int .u8 0) 1 1 Tryz.underlying66 hi G dG F rfl (by omega) v bs.length (au bs) f M m c (au z) (by rw [aX,I,Nat.mul_one]) hc (bvs_one z)
   (by simp only [maxLen]; omega) (by omega) D
  refine ⟨v',w',bb,?_,Y,V⟩
  unfold Ow
  rw [bvs_append,List.length_append,I]
  exact Z
theorem bj {ops:Array Oper} {f:List Oper} {o:Oper} {a:Act} {w:World} {Q:Exit→Act→World→Prop} (D:o.guard=none) (s x:Operand)
  (J:o.op=.call { callee:=.builtin .append,args:=#[s,x],argTypes:=#[66,66] }) (z:o.type=66) (F E:Value) (I:a.eval s=F) (G:a.eval x=E) (v':Value) (w':World)
  (M:(Builtin.append_ #[66,66] 66 #[F,E]).run Tryz.prog w=.ok v' w') (h:wpList Tryz.prog ops Q f (a.put o.dst v') w'):wpList Tryz.prog ops Q (o :: f) a w:=by
 refine wpList_plain D fun K L=>?_
 unfold Oper.wp
 simp [execOp,J,z,resolve,invoke,builtin,I,G,M,Result.andThen]
 exact L _ _ h
end Go.Proofs.YtmapkbdjnnionaaGreatDoor
