/-
 Joined texts: ScDoor.
-/
import Derived.Test.YtpclhpfcbjgokaaGreatDoorCards
import Derived.Test.YtpclhpfcbjgokaaGreatDoorTie
import Derived.ProofKit
import Derived.OpenShut
import Derived.ShutString
import Derived.ChangeOld
import Derived.Deep.DeepHandedRow
import Derived.LaidMore
import Derived.LaidHandle
import Derived.LaidSub
import Derived.Lib.LaidTab
import Derived.Test.YtpclhpfcbjgokaaGreatDoorJScopeBases2
import Derived.Test.YtpclhpfcbjgokaaGreatDoorJScopeBases4
import Derived.Test.YtpclhpfcbjgokaaGreatDoorJScopeBases9
namespace Go.Proofs.YtpclhpfcbjgokaaGreatDoor
open Go.ChangeShapes Go.WideShapes Go.ChangeAt Go.RowKit
set_option maxRecDepth 100000
theorem own:ownKnob Tryz.prog.godebug=none:=by kernel_rfl
theorem laidOut:laidOutB Tryz.prog=true:=by kernel_rfl
theorem errGlobal : Tryz.prog.globalNamed "errors.errorType" = some 0 := by kernel_rfl
theorem rtypeRow : (Tryz.prog.cutTypes.find? (·.1 == "internal/reflectlite.rtype")).map (·.2) = some 147 := by kernel_rfl
theorem errRow:((List.range Tryz.prog.types.size).filter fun t=>Tryz.prog.rowNamed t [101,114,114,111,114])=[28]:=by kernel_rfl
theorem gOps : (Tryz.prog.globalNamed "litmus/parse.operators").bind (fun g => (Tryz.prog.globals[g]?).map fun x => (Tryz.prog.underlying x.type, Tryz.prog.cellsOf x.type)) = some (some (.array 14 176), 70) := by kernel_rfl
theorem nOps : Tryz.prog.globalNamed "litmus/parse.operators" = some 2 := by kernel_rfl
theorem cells5Op:Tryz.prog.cellsOf 176=5:=by kernel_rfl
theorem cells1Int:Tryz.prog.cellsOf 3=1:=by kernel_rfl
theorem cells1Str:Tryz.prog.cellsOf 9=1:=by kernel_rfl
theorem cells1Kind:Tryz.prog.cellsOf 41=1:=by kernel_rfl
def opD (op:Bop):DataW Unit:=.agg [.lit (.string op.sign),.lit (.int .i64 (op.kind:Nat)),.lit (.int .i64 (op.level:Nat)),.lit (.int .i64 (op.left:Nat)),.lit (.int .i64 (op.right:Nat))]
theorem opsData:(Rows.laid_litmus_parse_operators:DataW Unit)=.agg (bops.map opD):=by rfl

theorem op_cells {enc:TypeId × Value->Unit} {w:World} {base:Nat} {sp:Nat->Bool} {held:Bool} {fuel:Nat} {cs:List Value} {y:DataW Unit × List MemPlace} {op:Bop}
  (h:DataW.trod enc Tryz.prog w base sp held fuel 176 cs=some y) (hy:y.1=opD op):cs=opC op:=by
 obtain⟨xs,n,rfl,rfl,hl,hx,hf⟩:=DataW.trod_struct Tryz.underlying176 h;have h0:DataW.trod enc Tryz.prog w base sp held n 9 ((cs.drop 0).take (Tryz.prog.cellsOf 9))=xs[0]?:=hf 0 _ rfl;have h1:DataW.trod enc Tryz.prog w base sp held n 41 ((cs.drop 1).take (Tryz.prog.cellsOf 41))=xs[1]?:=hf 1 _ rfl;have h2:DataW.trod enc Tryz.prog w base sp held n 3 ((cs.drop 2).take (Tryz.prog.cellsOf 3))=xs[2]?:=hf 2 _ rfl;have h3:DataW.trod enc Tryz.prog w base sp held n 3 ((cs.drop 3).take (Tryz.prog.cellsOf 3))=xs[3]?:=hf 3 _ rfl;have h4:DataW.trod enc Tryz.prog w base sp held n 3 ((cs.drop 4).take (Tryz.prog.cellsOf 3))=xs[4]?:=hf 4 _ rfl;rw[cells5Op] at hl
 match xs,hx with
 | [a0,a1,a2,a3,a4],_ =>
  match cs,hl with
  | [c0,c1,c2,c3,c4],_ =>
   simp only[gsz,gsc] at h0 h1 h2 h3 h4;simp only[opD,List.map_cons,List.map_nil,DataW.agg.injEq,List.cons.injEq,and_true] at hy;obtain⟨y0,y1,y2,y3,y4⟩:=hy;obtain⟨s0,e0,rfl,_⟩:=DataW.trod_string Tryz.underlying9 h0;obtain⟨s1,e1,rfl,_⟩:=DataW.trod_int Tryz.underlying41 h1;obtain⟨s2,e2,rfl,_⟩:=DataW.trod_int Tryz.underlying3 h2;obtain⟨s3,e3,rfl,_⟩:=DataW.trod_int Tryz.underlying3 h3;obtain⟨s4,e4,rfl,_⟩:=DataW.trod_int Tryz.underlying3 h4;simp only[cells1Int,cells1Str,cells1Kind,List.drop_zero,List.take_succ_cons,List.take_zero,List.drop_succ_cons,List.cons.injEq,and_true] at e0 e1 e2 e3 e4;simp only[DataW.lit.injEq,Lit.string.injEq,Lit.int.injEq,true_and] at y0 y1 y2 y3 y4;subst e0 e1 e2 e3 e4;rw[y1,y2,y3,y4];unfold opC;rw[<-y0]
theorem cells_of_ops {enc:TypeId × Value->Unit} {w:World} {base:Nat} {sp:Nat->Bool} {held:Bool} {fuel:Nat} {t:TypeId} {cs:List Value} {l:List Bop} {p:List MemPlace} {n:Nat}
  (ht:Tryz.prog.underlying t=some (.array n 176)) (hct:Tryz.prog.cellsOf t=n*5)
  (h:DataW.trod enc Tryz.prog w base sp held fuel t cs=some (.agg (l.map opD),p)):cs=l.flatMap opC:=by
 obtain⟨xs,m,rfl,he,hl,hx,hf⟩:=DataW.trod_array ht h;rw[hct] at hl;rw[cells5Op] at hf;have hxs:l.map opD=xs.map (·.1):=by injection he with he _;injection he
 have hln:l.length=n:=by have:=congrArg List.length hxs;simp at this;omega
 clear h he hct ht;clear hx
 induction l generalizing cs xs n with
 | nil=>simp at hln;subst hln;simpa using hl
 | cons op l ih =>
  match xs,hxs with
  | a::xs,hxs =>
   match n,hln with
   | n+1,hln =>
    simp only[List.map_cons,List.cons.injEq] at hxs;have h0:=hf 0 (by omega);simp only[Nat.zero_mul,List.drop_zero,gsz] at h0;have hc:=op_cells h0 hxs.1.symm
    have:=ih (cs:=cs.drop 5) (xs:=xs) (n:=n) (by rw[List.length_drop,hl];omega) (fun i hi=>by
     have:=hf (i+1) (by omega);simp only[gsc] at this
     rw[List.drop_drop,show 5+i*5=(i+1)*5 by omega];exact this) hxs.2 (by simpa using hln)
    rw[List.flatMap_cons,<-this,<-hc,List.take_append_drop]
theorem gArs7 : (Tryz.prog.globalNamed "litmus/tree.arities").bind (fun g => (Tryz.prog.globals[g]?).map fun x => (Tryz.prog.underlying x.type, Tryz.prog.cellsOf x.type)) = some (some (.array 29 3), 29) := by kernel_rfl
theorem nArs7 : Tryz.prog.globalNamed "litmus/tree.arities" = some 1 := by kernel_rfl
def arTab7:List Int:=(List.range 29).map arW
theorem arData7:(Rows.laid_litmus_tree_arities:DataW Unit)=Lib.tabData .i64 arTab7:=by rfl
theorem ops_of_var {W : World} {g : Nat} {t : TypeId} {cs : Array Value} {fuel : Nat} {p : List MemPlace} (hg : Tryz.prog.globalNamed "litmus/parse.operators" = some g) (ht : (Tryz.prog.globals[g]?).map (·.type) = some t) (hvar : W.var? Tryz.prog "litmus/parse.operators" = some cs)
  (hd:DataW.trod (fun _=>()) Tryz.prog W 0 (fun _=>true) false fuel t cs.toList=some (Rows.laid_litmus_parse_operators,p)):OpsAt W:=by
 have e:=gOps;rw[hg,Option.bind_some] at e;obtain⟨x,hx,ex⟩:=Option.map_eq_some_iff.1 e;rw[hx,Option.map_some] at ht;injection ht with ht;injection ex with e1 e2;rw[ht] at e1 e2;have hc:=cells_of_ops e1 (by rw[e2]) (opsData ▸ hd);intro j v hv;rw[World.var?_cell nOps hvar j];have:cs[j]?=cs.toList[j]?:=by simp
 rw[this,hc];exact hv
theorem laid_all {W:World} (h:laidMetH Tryz.prog Rows.scopeBasesRow.laid W):OpsAt W/\ArT W:=by
 have h1 : laidMet Tryz.prog [("litmus/tree.arities", Rows.laid_litmus_tree_arities), ("litmus/parse.operators", Rows.laid_litmus_parse_operators)] W := (laidMetH_iff.1 h).1;obtain ⟨_, ⟨g1, t1, cs1, fuel1, p1, q1, hg1, ht1, hvar1, hd1, ⟨g2, t2, cs2, fuel2, p2, q2, hg2, ht2, hvar2, hd2, _, _⟩, _⟩, _⟩ := h1;refine ⟨ops_of_var hg2 ht2 hvar2 hd2, fun i hi => ?_⟩;have e := gArs7;rw [hg1, Option.bind_some] at e;obtain ⟨x, hx, ex⟩ := Option.map_eq_some_iff.1 e;rw [hx, Option.map_some] at ht1;injection ht1 with ht1;injection ex with e1 e2;rw [ht1] at e1 e2;have hc := Lib.cells_of_tab e1 Tryz.underlying3 cells1Int e2 (arData7 ▸ hd1);rw [World.var?_cell nArs7 hvar1 i];have : cs1[i]? = cs1.toList[i]? := by simp
 rw[this,hc];unfold arTab7
 simp[hi]
theorem ops_of_laid {W:World} (h:laidMetH Tryz.prog Rows.scopeBasesRow.laid W):OpsAt W:=(laid_all h).1
theorem ar_of_laid {W:World} (h:laidMetH Tryz.prog Rows.scopeBasesRow.laid W):ArT W:=(laid_all h).2
theorem err_of_laid {W:World} (h:laidMetH Tryz.prog Rows.scopeBasesRow.laid W):ErrType W:=by
 have h' : handlesMet Tryz.prog [("errors.errorType", Rows.laid_errors_errorType)] W := (laidMetH_iff.1 h).2;obtain ⟨name, u, ty, e1, e2, e3, e4, e5⟩ := h' _ (List.mem_singleton.2 rfl);have en : name = [101, 114, 114, 111, 114] := (Option.some.inj e1).symm;subst en;obtain rfl := Option.some.inj (rtypeRow.symm.trans e2);have hm : ty ∈ (List.range Tryz.prog.types.size).filter fun t => Tryz.prog.rowNamed t [101, 114, 114, 111, 114] := List.mem_filter.2 ⟨List.mem_range.2 e3, e4⟩
 rw[errRow] at hm;obtain rfl:=List.mem_singleton.1 hm;have hh:typeHandle Tryz.prog 28=.pointer (some ⟨Tryz.prog.globals.size,28,none⟩):=by kernel_rfl
 rw[hh,gSize] at e5;unfold ErrType
 simpa using World.var?_cell errGlobal e5 0
noncomputable def laidWorld (os:Os):World:=
 let w0:=World.doorLaid Tryz.prog 4000 os
 { w0 with heap:=w0.heap.modify 0 fun
   | .cells _ t frozen=>.cells #[.iface 147 (.agg #[.pointer (some ⟨Tryz.prog.globals.size,28,none⟩)])] t frozen
   | o=>o }
theorem laid_met (os:Os) (args:Array Value):laidMetH Tryz.prog Rows.scopeBasesRow.laid ((laidWorld os).forCall (fun _ _=>0) ⟨#[],args,[]⟩).memory:=
 laidMetH_of_parts (laidMet_of_run' 24 (by kernel_rfl) (by kernel_rfl)) (by kernel_rfl)
end Go.Proofs.YtpclhpfcbjgokaaGreatDoor
