/-
  burrowlaw07.SigsOf answers true at every input, and its arguments read afterwards as they read before; the card ties the row's table to the program's text. Conditions: none (the form's own reach is used).
-/
import Derived.Test.YtmapkbdjnnionaaGreatDoorPzBS
set_option maxRecDepth 100000
set_option maxHeartbeats 8000000
set_option linter.all false
namespace Go.Proofs.YtmapkbdjnnionaaGreatDoor.sigsOf
open Go.ChangeShapes Go.WideShapes Go.ChangeAt Go.RowKit
theorem contract (H:Type) (enc:TypeId×Value→H) (F:Stop.Interp) (W:World) (base:Nat) (f:Array Value) (Y gs:List (DataW H)) (z:List MemPlace) (hT:Kt W)
  (D:∀ (j:Nat) t v,Tryz.f3.params[j]?=some t→f[j]?=some v→Value.okWide Tryz.prog W .any base t v)
  (hW:DataW.Whole enc Tryz.prog Tryz.f3.params.toList Rows.sigsOfSpec.vars false W f.toList Y gs z)
  (O:(DataW.weightsEach Tryz.prog (Tryz.f3.params.toList ++ Rows.sigsOfSpec.plain.varTypes Tryz.prog) (Y ++ gs)).all (·≤reachBytes)=true) :
  Calls Tryz.prog 3 f W fun e W'=>∃ v,e=.returned v∧Rows.sigsOfSpec.post enc Tryz.prog Tryz.f3 false true false false W f v W':=by
 have U:=hW
 obtain ⟨p,q,E,hV,rfl,ao,an⟩:=hW
 have hA:DataW.TrodAll enc Tryz.prog W 0 (fun _=>true) true Tryz.f3.params.toList f.toList Y p:=E
 rw [Tryz.params3] at hA D O
 obtain ⟨v0,al,d0,ap,p0,q0,R,rfl,rfl,h0,r0⟩:=trodAll_cons hA
 obtain ⟨rfl,rfl,rfl⟩:=trodAll_nil r0
 obtain rfl:f=#[v0]:=by cases f; simp_all
 obtain ⟨rfl,rfl⟩:=trodVars_none hV
 have k0:=h0
 have lt0:∀ x∈p0,x.block<W.heap.size:=by obtain ⟨m,hm⟩:=k0; exact DataW.trod_lt m _ _ _ hm
 obtain ⟨Z,K,J,V,G,ad,L,ab,I,rfl,M⟩:=open_given (D 0 32 v0 rfl rfl) h0
 clear E
 refine (sigsOf_any Z K J V G ad L ab I W M hT).mono fun e W' ⟨he,bel⟩=>?_
 subst he
 exact ⟨_,rfl,_,_,_,[],_,[],U,trodAll_mk1 (shut_bool Tryz.underlying4 _),(trodAll_cons_mk (Below.trod laidOut (by kernel_rfl) (of_decide_eq_true (by kernel_rfl)) k0 bel lt0) trodAll_mk0),rfl,bel.frame _,fun h=>by cases h⟩
def zero:Array Value:=#[.agg #[.int .u64 0,.int .u64 0,.int .u64 0,.int .u64 0,.int .u64 0,.int .u64 0,.int .u64 0,.int .u64 0,.int .u64 0,.int .u64 0,.int .u64 0,.int .u64 0,.int .u64 0,.int .u64 0,.int .u64 0,.int .u64 0,.int .u8 0,.int .u8 0,.int .u8 0,.int .u8 0,.int .u8 0,.int .u8 0,.int .u8 0,.int .u8 0,.int .u8 0,.int .u8 0,.int .u8 0,.int .u8 0,.int .u8 0,.int .u8 0,.int .u8 0,.int .u8 0,.int .u8 0,.int .u8 0,.int .u8 0,.int .u8 0,.int .u8 0,.int .u8 0,.int .u8 0,.int .u8 0,.int .u8 0,.int .u8 0,.int .u8 0,.int .u8 0,.int .u8 0,.int .u8 0,.int .u8 0,.int .u8 0,.int .u64 0,.int .u64 0,.int .u64 0,.int .u64 0,.int .u64 0,.int .u64 0,.int .u64 0,.int .u64 0,.int .u64 0,.int .u64 0,.int .u64 0,.int .u64 0]]
theorem laid_met (f:Os):laidMet Tryz.prog Rows.sigsOfRow.laid ((laidWorld f).forCall (fun _ _=>0) ⟨#[],zero,[]⟩).memory :=
 laidMet_of_run' 8 (by kernel_rfl) (by kernel_rfl)
theorem lifted (D:Os) (f:D.Started) (H:Type) (enc:TypeId×Value→H) (F:Stop.Interp) :
  ReturnsInHanded {} Tryz.checked D 3 .any ((OpenSpec.ofChange Rows.sigsOfSpec).preRow enc Tryz.prog Tryz.f3 Rows.sigsOfRow.domain false Rows.sigsOfRow.laid) (((OpenSpec.ofChange Rows.sigsOfSpec).at F).post enc Tryz.prog Tryz.f3 false true false false):=by
 have J:DataW.whole enc Tryz.prog ((laidWorld D).forCall (fun _ _=>0) ⟨#[],zero,[]⟩).memory Tryz.f3.params.toList Rows.sigsOfSpec.vars false zero.toList 8=some ([.agg [.agg [.agg [.lit (.int .u64 0),.lit (.int .u64 0),.lit (.int .u64 0),.lit (.int .u64 0)],.agg [.lit (.int .u64 0),.lit (.int .u64 0),.lit (.int .u64 0),.lit (.int .u64 0)],.agg [.lit (.int .u64 0),.lit (.int .u64 0),.lit (.int .u64 0),.lit (.int .u64 0)]],.agg [.lit (.int .u64 0),.lit (.int .u64 0),.lit (.int .u64 0),.lit (.int .u64 0)],.agg [.lit (.int .u8 0),.lit (.int .u8 0),.lit (.int .u8 0),.lit (.int .u8 0),.lit (.int .u8 0),.lit (.int .u8 0),.lit (.int .u8 0),.lit (.int .u8 0),.lit (.int .u8 0),.lit (.int .u8 0),.lit (.int .u8 0),.lit (.int .u8 0),.lit (.int .u8 0),.lit (.int .u8 0),.lit (.int .u8 0),.lit (.int .u8 0),.lit (.int .u8 0),.lit (.int .u8 0),.lit (.int .u8 0),.lit (.int .u8 0),.lit (.int .u8 0),.lit (.int .u8 0),.lit (.int .u8 0),.lit (.int .u8 0),.lit (.int .u8 0),.lit (.int .u8 0),.lit (.int .u8 0),.lit (.int .u8 0),.lit (.int .u8 0),.lit (.int .u8 0),.lit (.int .u8 0),.lit (.int .u8 0)],.agg [.lit (.int .u64 0),.lit (.int .u64 0),.lit (.int .u64 0),.lit (.int .u64 0)],.agg [.agg [.lit (.int .u64 0),.lit (.int .u64 0),.lit (.int .u64 0),.lit (.int .u64 0)],.agg [.lit (.int .u64 0),.lit (.int .u64 0),.lit (.int .u64 0),.lit (.int .u64 0)]]]],[],[]):=by kernel_rfl
 refine returnsInHanded_of_row (C:=Tryz.checked) (s:=OpenSpec.ofChange Rows.sigsOfSpec) own_knob f (by kernel_rfl) Tryz.func3
  (witness_row_at (enc:=enc) (C:=Tryz.checked) false (laidWorld D) zero rfl (by kernel_rfl) (by kernel_rfl) (by kernel_rfl)
   (OpenSpec.preRow_of_cond 8 J (by kernel_rfl) (fun k K=>by cases K) (by kernel_rfl) (laid_met D))) ?_
 intro W base G R O z E L _ _ I M _ _
 exact contract H enc F W base G R O z (kt_of M) E L I
theorem said:Rows.SigsOfSaid :=
 OpenClaim.holds_of_cond 3 Tryz.f3 rfl rfl rfl rfl rfl rfl rfl ⟨rfl,rfl,rfl,rfl,rfl⟩ rfl rfl rfl rfl rfl (by kernel_rfl) Tryz.func3 (by kernel_rfl)
  (of_decide_eq_true (by kernel_rfl)) (by unfold Func.isWrapper; first | (rw [if_pos (by decide +kernel)]; kernel_rfl) | (rw [if_neg (by decide +kernel)]; exact ⟨rfl,rfl⟩))
  (fun z f H enc _ F=>by rw [OpenClaim.pre_eq_preRow]; exact lifted z f H enc F)
theorem plain (f:FuncId) (D:Func) (hf:Tryz.pinned.checked.prog.funcNamed "burrow/burrowlaw07.SigsOf" = some f) (z:Tryz.pinned.checked.prog.funcs[f]?=some D) :
  false=Tryz.pinned.checked.prog.looks []∧∀ (j:Nat) t,D.params[j]?=some t→Tryz.pinned.checked.prog.wantsStandIn t=false:=by
 obtain rfl:f=3:=Option.some.inj ((show Tryz.prog.funcNamed "burrow/burrowlaw07.SigsOf" = some 3 by kernel_rfl).symm.trans hf) |>.symm
 obtain rfl:D=Tryz.f3:=(Option.some.inj (Tryz.func3.symm.trans z)).symm
 refine ⟨by kernel_rfl,fun j t E=>?_⟩
 rw [Tryz.params3] at E
 have F:t=32:=by simpa using Array.mem_of_getElem? E
 subst F
 exact (show Tryz.prog.wantsStandIn 32=false by kernel_rfl)
theorem proved:Rows.SigsOfCardSaid :=
 Claim7.holds_tied_plain_at .later [] _ _ _ _ said (fun _ h=>by cases h) (by kernel_rfl) (fun _ h=>by cases h) sigsOf_row_tie rfl ⟨rfl,rfl⟩ (by kernel_rfl) rfl plain (by kernel_rfl)
#print axioms proved
end Go.Proofs.YtmapkbdjnnionaaGreatDoor.sigsOf
