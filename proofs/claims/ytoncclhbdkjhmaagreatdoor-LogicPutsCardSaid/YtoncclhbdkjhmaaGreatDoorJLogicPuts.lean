/-
 The law LogicPuts: for every input its call returns true,and every argument reads behind the call as it read before it. Conditions: none of its own;the listed package-level variables start as the program lays them (the card ties them to the text).
-/
import Derived.Deep.DeepWitnessRowRef
import Derived.Test.YtoncclhbdkjhmaaGreatDoorJLogicPuts10
open ByteArray renaming empty→kF
open Go.Proofs.Tryz renaming prog→ax
namespace Go.Proofs.YtoncclhbdkjhmaaGreatDoor.logicPuts
open Go.ChangeShapes Go.WideShapes Go.ChangeAt Go.RowKit
open Go.ChangeMaps (open_string shut_string)
set_option linter.unusedVariables false
set_option maxRecDepth 100000

theorem contract (H:Type) (enc:TypeId × Value->H) (W:World) (base:Nat) (args:Array Value) (ds gs:List (DataW H)) (before:List MemPlace)
  (hval:∀ (j:Nat) t v,Tryz.f3.params[j]?=some t->args[j]?=some v->Value.okWide ax W .any base t v)
  (hW:DataW.Whole enc ax Tryz.f3.params.toList Rows.logicPutsSpec.vars false W args.toList ds gs before) (hL:laidMetH ax Rows.logicPutsRow.laid W) :
  Calls ax 3 args W fun e W'=>∃ v,e=.returned v/\Rows.logicPutsSpec.post enc ax Tryz.f3 false true false false W args v W':=by
 have T_:=hW;obtain⟨p,q,Ug,hV,rfl,hfz,hnd⟩:=hW;have hA:DataW.TrodAll enc ax W 0 (fun _=>true) true Tryz.f3.params.toList args.toList ds p:=Ug;rw[Tryz.params3] at hA hval;obtain⟨v0,VT,d0,WN,p0,q0,hargs,rfl,rfl,h0,r0⟩:=trodAll_cons hA;obtain⟨v1,VS,d1,WM,p1,q1,rfl,rfl,rfl,h1,r1⟩:=trodAll_cons r0;obtain⟨v2,VQ,d2,WL,p2,q2,rfl,rfl,rfl,h2,r2⟩:=trodAll_cons r1;obtain⟨rfl,rfl,rfl⟩:=trodAll_nil r2;obtain rfl:args=#[v0,v1,v2]:=by cases args;simp_all
 obtain⟨rfl,rfl⟩:=trodVars_none hV;have k0:=h0;have S8:∀ x ∈ p0,x.block<W.heap.size:=by obtain⟨m,hm⟩:=k0;exact DataW.trod_lt m _ _ _ hm
 obtain⟨x0,e0,SR⟩:=xY (hval 0 29 v0 rfl rfl) h0;subst e0;have k1:=h1;have S7:∀ x ∈ p1,x.block<W.heap.size:=by obtain⟨m,hm⟩:=k1;exact DataW.trod_lt m _ _ _ hm
 obtain⟨x1,e1,SQ⟩:=xY (hval 1 29 v1 rfl rfl) h1;subst e1;have k2:=h2;have S6:∀ x ∈ p2,x.block<W.heap.size:=by obtain⟨m,hm⟩:=k2;exact DataW.trod_lt m _ _ _ hm
 obtain⟨o2,n2,c2,e2,SP⟩:=C7 (hval 2 30 v2 rfl rfl) h2;subst e2;refine (C4 x0 x1 o2 n2 c2 W SR SQ SP (LC hL)).mono fun e W' ⟨he,N2⟩=>?_
 subst he;exact⟨_,rfl,_,_,_,[],_,[],T_,trodAll_mk1 (shut_bool Tryz.underlying4 _),(trodAll_cons_mk (Below.trod laidOut (by kernel_rfl) (of_decide_eq_true (by kernel_rfl)) k0 N2 S8) (trodAll_cons_mk (Below.trod laidOut (by kernel_rfl) (of_decide_eq_true (by kernel_rfl)) k1 N2 S7) (trodAll_cons_mk (Below.trod laidOut (by kernel_rfl) (of_decide_eq_true (by kernel_rfl)) k2 N2 S6) trodAll_mk0))),rfl,N2.frame _,fun h=>by cases h⟩

theorem reads (os:Os) {H:Type} (enc:TypeId × Value->H):∃ places,DataW.whole enc ax ((World.laidAll ax os Rows.logicPutsRow.laid).forCall (fun _ _=>0) ⟨#[],#[.agg #[.int .i64 0,.bool false,.slice none 0 0,.string kF,.slice none 0 0],.agg #[.int .i64 0,.bool false,.slice none 0 0,.string kF,.slice none 0 0],.slice none 0 0],[]⟩).memory Tryz.f3.params.toList Rows.logicPutsSpec.vars false (#[.agg #[.int .i64 0,.bool false,.slice none 0 0,.string kF,.slice none 0 0],.agg #[.int .i64 0,.bool false,.slice none 0 0,.string kF,.slice none 0 0],.slice none 0 0]:Array Value).toList 8=some ([.agg [.lit (.int .i64 0),.agg [.lit (.bool false),.nil],.lit (.string []),.nil],.agg [.lit (.int .i64 0),.agg [.lit (.bool false),.nil],.lit (.string []),.nil],.nil],[],places):=
 ⟨[],by kernel_rfl⟩

theorem lifted (os:Os) (started:os.Started) (H:Type) (enc:TypeId × Value->H) (F:Stop.Interp) :
  ReturnsInHanded {} Tryz.checked os 3 .any ((OpenSpec.ofChange Rows.logicPutsSpec).preRow enc ax Tryz.f3 Rows.logicPutsRow.domain false Rows.logicPutsRow.laid) (((OpenSpec.ofChange Rows.logicPutsSpec).at F).post enc ax Tryz.f3 false true false false):=by
 obtain⟨places,hx⟩:=reads os enc
 refine returnsInHanded_of_row (C:=Tryz.checked) (s:=OpenSpec.ofChange Rows.logicPutsSpec) own started (by kernel_rfl) Tryz.func3
  (witness_row_atRef (enc:=enc) (C:=Tryz.checked) false (World.laidAll ax os Rows.logicPutsRow.laid) #[.agg #[.int .i64 0,.bool false,.slice none 0 0,.string kF,.slice none 0 0],.agg #[.int .i64 0,.bool false,.slice none 0 0,.string kF,.slice none 0 0],.slice none 0 0] rfl (by kernel_rfl) (by kernel_rfl) (by kernel_rfl)
   (OpenSpec.preRow_of_cond 8 hx (by kernel_rfl) (fun k hk=>by cases hk) (by kernel_rfl) (EE os _))) ?_
 intro W base args ds gs before hval hW _ _ _ hL _ _;exact contract H enc W base args ds gs before hval hW hL

theorem said:Rows.LogicPutsSaid:=
 OpenClaim.holds_of_cond 3 Tryz.f3 rfl rfl rfl rfl rfl rfl rfl ⟨rfl,rfl,rfl,rfl,rfl⟩ rfl rfl rfl rfl rfl (by kernel_rfl) Tryz.func3 (by kernel_rfl)
  (of_decide_eq_true (by kernel_rfl)) (by unfold Func.isWrapper;first | (rw[if_pos (by decide +kernel)];kernel_rfl) | (rw[if_neg (by decide +kernel)];exact⟨rfl,rfl⟩))
  (fun os started H enc _ F=>by rw[OpenClaim.pre_eq_preRow];exact lifted os started H enc F)

theorem plain (f : FuncId) (fn : Func) (hf : Tryz.pinned.checked.prog.funcNamed "litmus/litmuslaw10.LogicPuts" = some f) (hfn : Tryz.pinned.checked.prog.funcs[f]? = some fn) :
  false=Tryz.pinned.checked.prog.looks []/\∀ (j:Nat) t,fn.params[j]?=some t->Tryz.pinned.checked.prog.wantsStandIn t=false:=by
 obtain rfl : f = 3 := Option.some.inj ((show Tryz.prog.funcNamed "litmus/litmuslaw10.LogicPuts" = some 3 by kernel_rfl).symm.trans hf) |>.symm
 obtain rfl:fn=Tryz.f3:=(Option.some.inj (Tryz.func3.symm.trans hfn)).symm;refine⟨by kernel_rfl,fun j t ht=>?_⟩;rw[Tryz.params3] at ht;have hm:t ∈ [29,29,30]:=by simpa using Array.mem_of_getElem? ht
 have hall:([29,29,30].all fun u=>!Tryz.prog.wantsStandIn u)=true:=by kernel_rfl
 exact (show Tryz.prog.wantsStandIn t=false by simpa using List.all_eq_true.1 hall t hm)
theorem card:Rows.LogicPutsCardSaid:=
 Claim7.holds_tied_plain_at .later [] _ _ _ _ said (fun _ h=>by cases h) (by kernel_rfl) (fun _ h=>by cases h) logicPuts_row_tie rfl ⟨rfl,rfl⟩ (by kernel_rfl) rfl plain (by kernel_rfl)
end Go.Proofs.YtoncclhbdkjhmaaGreatDoor.logicPuts
