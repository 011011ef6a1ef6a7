import Derived.Test.YtmapkbdjnnionaaGreatDoorPzAB
import Derived.ProofKit
import Derived.OpenShut
set_option maxRecDepth 100000
set_option maxHeartbeats 8000000
set_option linter.all false
namespace Go.Proofs.YtmapkbdjnnionaaGreatDoor
open Go.RowKit
def IsRow (k:IntKind) (w:World) (a:Option Addr) (len cap:Nat) (zs:List Int):Prop :=
 (a=none∧len=0∧cap=0∧zs = [])∨
 ∃ x,a=some x∧len≤cap∧cap≤maxLen∧zs.length=cap∧(∀ i,i<zs.length→w.cell? (x.add i)=some (.int k (zs.getD i 0)))∧∀ n∈zs,(Lit.int k n).wf=true
theorem IsRow.rd {w:World} {a:Option Addr} {f F:Nat} {D:List Int} (h:IsRow .u8 w a f F D):∃ bs:List UInt8,bs.length=f∧Rd w a bs∧f≤F∧F≤9223372036854775807:=by
 rcases h with ⟨rfl,rfl,rfl,rfl⟩ | ⟨x,rfl,O,M,V,hc,K⟩
 ·exact ⟨[],rfl,Rd.nil _ _,Nat.le_refl _,by omega⟩
 ·refine ⟨(D.take f).map fun z=>UInt8.ofNat z.toNat,by simp; omega,?_,O,M⟩
  intro L
  have G:0<D.length:=by simp at L; omega
  obtain ⟨b,J,rfl,I⟩:=ints_at hc G
  refine ⟨b,J,rfl,?_,fun j R=>?_⟩
  ·exact World.block_lt_of_cell? w _ (I 0 G)
  ·have E:j<D.length:=by simp at R; omega
   rw [I j E]
   have hb:=bounds_u8 (K D[j] (List.getElem_mem E))
   have e:D.getD j 0=D[j]:=by simp [E]
   rw [e]
   congr 2
   simp only [List.getElem_map,List.getElem_take,UInt8.toNat_ofNat']
   have U:(2:Nat) ^ 8=256:=by decide
   rw [U]
   omega
end Go.Proofs.YtmapkbdjnnionaaGreatDoor
