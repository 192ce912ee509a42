/-
 The law FactsGrow: for every input its call returns true,and every argument reads behind the call as it read before it. Conditions: none of its own;the listed package-level variables start as the program lays them (the card ties them to the text).
-/
import Derived.Deep.DeepWitnessRowRef
import Derived.Test.YtoncclhbdkjhmaaGreatDoorJFactsGrow8
open ByteArray renaming empty→gY
open Go.Proofs.Tryz renaming prog→aj
namespace Go.Proofs.YtoncclhbdkjhmaaGreatDoor.factsGrow
open Go.ChangeShapes Go.WideShapes Go.ChangeAt Go.RowKit
open Go.ChangeMaps (open_string shut_string)
set_option linter.unusedVariables false
set_option maxRecDepth 100000

theorem contract (H:Type) (enc:TypeId × Value->H) (W:World) (base:Nat) (args:Array Value) (ds gs:List (DataW H)) (before:List MemPlace)
  (hval:∀ (j:Nat) t v,Tryz.f6.params[j]?=some t->args[j]?=some v->Value.okWide aj W .any base t v)
  (hW:DataW.Whole enc aj Tryz.f6.params.toList Rows.factsGrowSpec.vars false W args.toList ds gs before) (hL:laidMetH aj Rows.factsGrowRow.laid W) :
  Calls aj 6 args W fun e W'=>∃ v,e=.returned v/\Rows.factsGrowSpec.post enc aj Tryz.f6 false true false false W args v W':=by
 have XK:=hW;obtain⟨p,q,XU,hV,rfl,hfz,hnd⟩:=hW;have hA:DataW.TrodAll enc aj W 0 (fun _=>true) true Tryz.f6.params.toList args.toList ds p:=XU;rw[Tryz.params6] at hA hval;obtain⟨v0,Z4,d0,ds0,p0,q0,hargs,rfl,rfl,h0,r0⟩:=trodAll_cons hA;obtain⟨v1,Z3,d1,ds1,p1,q1,rfl,rfl,rfl,h1,r1⟩:=trodAll_cons r0;obtain⟨rfl,rfl,rfl⟩:=trodAll_nil r1;obtain rfl:args=#[v0,v1]:=by cases args;simp_all
 obtain⟨rfl,rfl⟩:=trodVars_none hV;have k0:=h0;have WQ:∀ x ∈ p0,x.block<W.heap.size:=by obtain⟨m,hm⟩:=k0;exact DataW.trod_lt m _ _ _ hm
 obtain⟨x0,e0,Wl⟩:=uZ (hval 0 29 v0 rfl rfl) h0;subst e0;have k1:=h1;have WO:∀ x ∈ p1,x.block<W.heap.size:=by obtain⟨m,hm⟩:=k1;exact DataW.trod_lt m _ _ _ hm
 obtain⟨x1,e1,Wk⟩:=uZ (hval 1 29 v1 rfl rfl) h1;subst e1;refine (tM x0 x1 W Wl Wk (MZ hL)).mono fun e W' ⟨he,Sv⟩=>?_
 subst he;exact⟨_,rfl,_,_,_,[],_,[],XK,trodAll_mk1 (shut_bool Tryz.underlying4 _),(trodAll_cons_mk (Below.trod laidOut (by kernel_rfl) (of_decide_eq_true (by kernel_rfl)) k0 Sv WQ) (trodAll_cons_mk (Below.trod laidOut (by kernel_rfl) (of_decide_eq_true (by kernel_rfl)) k1 Sv WO) trodAll_mk0)),rfl,Sv.frame _,fun h=>by cases h⟩

theorem reads (os:Os) {H:Type} (enc:TypeId × Value->H):∃ places,DataW.whole enc aj ((World.laidAll aj os Rows.factsGrowRow.laid).forCall (fun _ _=>0) ⟨#[],#[.agg #[.int .i64 0,.bool false,.slice none 0 0,.string gY,.slice none 0 0],.agg #[.int .i64 0,.bool false,.slice none 0 0,.string gY,.slice none 0 0]],[]⟩).memory Tryz.f6.params.toList Rows.factsGrowSpec.vars false (#[.agg #[.int .i64 0,.bool false,.slice none 0 0,.string gY,.slice none 0 0],.agg #[.int .i64 0,.bool false,.slice none 0 0,.string gY,.slice none 0 0]]:Array Value).toList 8=some ([.agg [.lit (.int .i64 0),.agg [.lit (.bool false),.nil],.lit (.string []),.nil],.agg [.lit (.int .i64 0),.agg [.lit (.bool false),.nil],.lit (.string []),.nil]],[],places):=
 ⟨[],by kernel_rfl⟩

theorem lifted (os:Os) (started:os.Started) (H:Type) (enc:TypeId × Value->H) (F:Stop.Interp) :
  ReturnsInHanded {} Tryz.checked os 6 .any ((OpenSpec.ofChange Rows.factsGrowSpec).preRow enc aj Tryz.f6 Rows.factsGrowRow.domain false Rows.factsGrowRow.laid) (((OpenSpec.ofChange Rows.factsGrowSpec).at F).post enc aj Tryz.f6 false true false false):=by
 obtain⟨places,hx⟩:=reads os enc;refine returnsInHanded_of_row (C:=Tryz.checked) (s:=OpenSpec.ofChange Rows.factsGrowSpec) own started (by kernel_rfl) Tryz.func6
  (witness_row_atRef (enc:=enc) (C:=Tryz.checked) false (World.laidAll aj os Rows.factsGrowRow.laid) #[.agg #[.int .i64 0,.bool false,.slice none 0 0,.string gY,.slice none 0 0],.agg #[.int .i64 0,.bool false,.slice none 0 0,.string gY,.slice none 0 0]] rfl (by kernel_rfl) (by kernel_rfl) (by kernel_rfl)
   (OpenSpec.preRow_of_cond 8 hx (by kernel_rfl) (fun k hk=>by cases hk) (by kernel_rfl) (DN os _))) ?_
 intro W base args ds gs before hval hW _ _ _ hL _ _;exact contract H enc W base args ds gs before hval hW hL

theorem said:Rows.FactsGrowSaid:=
 OpenClaim.holds_of_cond 6 Tryz.f6 rfl rfl rfl rfl rfl rfl rfl ⟨rfl,rfl,rfl,rfl,rfl⟩ rfl rfl rfl rfl rfl (by kernel_rfl) Tryz.func6 (by kernel_rfl)
  (of_decide_eq_true (by kernel_rfl)) (by unfold Func.isWrapper;first | (rw[if_pos (by decide +kernel)];kernel_rfl) | (rw[if_neg (by decide +kernel)];exact⟨rfl,rfl⟩))
  (fun os started H enc _ F=>by rw[OpenClaim.pre_eq_preRow];exact lifted os started H enc F)

theorem plain (f : FuncId) (fn : Func) (hf : Tryz.pinned.checked.prog.funcNamed "litmus/litmuslaw11.FactsGrow" = some f) (hfn : Tryz.pinned.checked.prog.funcs[f]? = some fn) :
  false=Tryz.pinned.checked.prog.looks []/\∀ (j:Nat) t,fn.params[j]?=some t->Tryz.pinned.checked.prog.wantsStandIn t=false:=by
 obtain rfl : f = 6 := Option.some.inj ((show Tryz.prog.funcNamed "litmus/litmuslaw11.FactsGrow" = some 6 by kernel_rfl).symm.trans hf) |>.symm;obtain rfl:fn=Tryz.f6:=(Option.some.inj (Tryz.func6.symm.trans hfn)).symm;refine⟨by kernel_rfl,fun j t ht=>?_⟩;rw[Tryz.params6] at ht;have hm:t ∈ [29,29]:=by simpa using Array.mem_of_getElem? ht
 have hall:([29,29].all fun u=>!Tryz.prog.wantsStandIn u)=true:=by kernel_rfl
 exact (show Tryz.prog.wantsStandIn t=false by simpa using List.all_eq_true.1 hall t hm)
theorem card:Rows.FactsGrowCardSaid:=
 Claim7.holds_tied_plain_at .later [] _ _ _ _ said (fun _ h=>by cases h) (by kernel_rfl) (fun _ h=>by cases h) factsGrow_row_tie rfl ⟨rfl,rfl⟩ (by kernel_rfl) rfl plain (by kernel_rfl)
end Go.Proofs.YtoncclhbdkjhmaaGreatDoor.factsGrow
