/-
 Joined texts: LgT,LgV,LgW,LgX,LgY,LgZ,LgZa.
-/
import Derived.Laws.IdiomStrings
import Derived.Test.YtdkfnbbebpbhaaaJLogicJoins4
set_option maxHeartbeats 32000000
namespace Go.Proofs.Ytdkfnbbebpbhaaa
open Go.RowKit
set_option maxRecDepth 100000
set_option linter.unusedVariables false
set_option linter.unusedSimpArgs false
attribute [local go_sem] fieldV0 fieldV1 fieldV2 fieldV3
def nmAt (j:Nat):ByteArray:=[(⟨#[105,48]⟩:ByteArray),⟨#[105,49]⟩,⟨#[105,50]⟩,⟨#[108,48]⟩,⟨#[108,49]⟩,⟨#[98,48]⟩,⟨#[98,49]⟩].getD j ⟨#[]⟩
def kdAt (j:Nat):Int:=[(0:Int),0,0,2,2,1,1].getD j 0
theorem kd_small (j:Nat):kdAt j=0\/kdAt j=1\/kdAt j=2:=by
 unfold kdAt
 match j with
 | 0 | 1 | 2 | 3 | 4 | 5 | 6=>simp
 | j+7=>simp
theorem idx7 (j:Nat) (h:j<7) (w:World):(Instr.index 67 (.agg #[.int .i64 0,.int .i64 0,.int .i64 0,.int .i64 2,.int .i64 2,.int .i64 1,.int .i64 1]) (.int .i64 (j:Nat))).run Try.prog w=.ok (.int .i64 (kdAt j)) w:=by
 have:j=0\/j=1\/j=2\/j=3\/j=4\/j=5\/j=6:=by omega
 rcases this with rfl | rfl | rfl | rfl | rfl | rfl | rfl<;>(unfold Instr.index;simp[go_sem,asIntOf,kdAt])
theorem names_at {w:World} {g:Nat} {T:TypeId} (h:w.heap[g]?=some (.cells #[.string ⟨#[105,48]⟩,.string ⟨#[105,49]⟩,.string ⟨#[105,50]⟩,.string ⟨#[108,48]⟩,.string ⟨#[108,49]⟩,.string ⟨#[98,48]⟩,.string ⟨#[98,49]⟩] T (0,0))) (j:Nat) (hj:j<7):w.cell? ⟨g,j,none⟩=some (.string (nmAt j)):=by
 have:j=0\/j=1\/j=2\/j=3\/j=4\/j=5\/j=6:=by omega
 rcases this with rfl | rfl | rfl | rfl | rfl | rfl | rfl<;>exact cell_at h _ rfl
theorem RVals.one {w:World} {g:Nat} {k:Int} {b d:Bool} {o p:Option Addr} {l c m q:Nat} (h:w.heap[g]?=some (.cells #[.int .i64 k,.bool b,.slice o l c,.bool d,.slice p m q] 41 (0,0))) (hk : -9223372036854775808<=k/\k<=9223372036854775807) (h1:RNum w (.slice o l c)) (h2:RInts w p m q):RVals w (some ⟨g,0,none⟩) 1 1:=by
 refine⟨⟨Nat.le_refl _,by decide⟩,fun i hi=>?_⟩;obtain rfl:i=0:=by omega
 exact⟨_,k,b,o,l,c,d,p,m,q,rfl,⟨cell_at h 0 rfl,cell_at h 1 rfl,cell_at h 2 rfl,cell_at h 3 rfl,cell_at h 4 rfl⟩,hk,h1,h2⟩
theorem RNum.nil (w:World):RNum w (.slice none 0 0):=⟨[],Sl.nil _ _,Dig.nil _⟩
theorem RInts.nil (w:World):RInts w none 0 0:=⟨⟨Nat.le_refl _,Nat.zero_le _⟩,fun i hi=>absurd hi (Nat.not_lt_zero i)⟩
theorem one_atB {w:World} {g:Nat} {nm:ByteArray} {u:VU} {k:Int} {b d:Bool} {o p:Option Addr} {l c m q:Nat} (hB:w.heap[g]?=some (.cells #[.string nm,.int .i64 k,.bool b,.slice o l c,.bool d,.slice p m q] 59 (0,0))) (hu:vC u=[.int .i64 k,.bool b,.slice o l c,.bool d,.slice p m q]) (hR:VR w u):bE.At w (.slice (some ⟨g,0,none⟩) 1 1) [⟨nm,u⟩]:=
 El.At.block (E:=bE) (el:=[⟨nm,u⟩]) (by rw[hB];simp only[List.flatMap_cons,List.flatMap_nil,List.append_nil,show bE.f ⟨nm,u⟩=.string nm::vC u from rfl,hu];rfl) (show 1<=maxLen by decide) (fun a ha=>by rw[List.mem_singleton] at ha;subst ha;exact hR)
def EnvAt (j:Nat) (env:List (ByteArray × V)):Prop:=env.map (·.1)=(List.range j).map nmAt/\env.map (fun p=>sortOf p.2)=(List.range j).map kdAt/\∀ p ∈ env,TV p.2
theorem EnvAt.snoc {j:Nat} {env:List (ByteArray × V)} {x:V} (h:EnvAt j env) (hs:sortOf x=kdAt j) (hx:TV x):EnvAt (j+1) (env++[(nmAt j,x)]):=by
 obtain⟨h1,h2,h3⟩:=h;refine⟨by rw[List.map_append,h1,List.range_succ,List.map_append];rfl,by rw[List.map_append,h2,List.range_succ,List.map_append];simp[hs],fun p hp=>?_⟩;rcases List.mem_append.1 hp with hp | hp
 ·exact h3 p hp
 rw[List.mem_singleton] at hp;subst hp;exact hx
theorem set1_of5 {w:World} {g:Nat} {T:TypeId} {a0 a1 a2 a3 a4:Value} (h:w.heap[g]?=some (.cells #[a0,a1,a2,a3,a4] T (0,0))) (v:Value):(w.setCell ⟨g,0,none⟩ v).heap[g]?=some (.cells #[v,a1,a2,a3,a4] T (0,0)):=heap_setCell_same _ g 0 _ T v h
theorem El.Row.other2 {α:Type} {E:El α} {w w':World} {B g:Nat} {v:Value} {el:List α} (h:E.Row w B v el) (hg:w.grownBy w' (some g)) (hne:∀ j,v.ownBlock=some j->j≠g) {e:TypeId} (hf:Fr e w w') (hok:E.ok e):E.Row w' B v el:=by
 refine⟨?_,fun j hj=>?_,fun q hq=>E.fr hok hf (h.rd q hq)⟩
 ·rcases hr:v.ownBlock with _ | j
  ·exact World.ownsRow.kept h.own hg (.inl hr)
  exact World.ownsRow.kept h.own hg (.inr (by rw[hr];intro e;injection e with e;exact hne j hr e))
 obtain⟨c,hc,h32⟩:=h.n32 j hj;exact⟨c,(hg.block j (lt_of_block hc) (fun e=>by injection e with e;exact hne j hj e)).trans hc,h32⟩
def EvRel (w:World) (kn:Nat) (B:Nat) (ov iv:Value) (wr:World):Prop:=
 ∃ (j:Nat) (us:List BU),iv=.int .i64 (j:Nat)/\j<=7/\Hid (us.length=j)/\Hid (EnvAt j (envOf us))/\Hid (bE.Row wr B ov us)/\Hid (Below w.heap.size w wr)/\Hid (wr.heap[kn]?=some (.cells #[.string ⟨#[105,48]⟩,.string ⟨#[105,49]⟩,.string ⟨#[105,50]⟩,.string ⟨#[108,48]⟩,.string ⟨#[108,49]⟩,.string ⟨#[98,48]⟩,.string ⟨#[98,49]⟩] 9 (0,0)))/\Hid (B<=wr.heap.size)
theorem env_p (ko:Option Addr) (n kc:Nat) (w:World) (hx:RVals w ko n kc) :
  Calls Try.prog 8 #[.slice ko n kc] w fun e w'=>∃ v env,e=.returned v/\EL w' v env/\EnvAt 7 env/\Below w.heap.size w w':=by
 obtain⟨h1,h2⟩:=hx.1;have hmx:kc<=9223372036854775807:=h2;have HX:=Lib.hid hx;clear hx h2;have HW:=Lib.hid (Below.refl w.heap.size w);go_enter Try.func8,Try.ntmps8
 obtain⟨x1,kn,en,ekn,hbn,hkn,HBn⟩:=newV w #[.string ⟨#[105,48]⟩,.string ⟨#[105,49]⟩,.string ⟨#[105,50]⟩,.string ⟨#[108,48]⟩,.string ⟨#[108,49]⟩,.string ⟨#[98,48]⟩,.string ⟨#[98,49]⟩] 9;replace HW:=Lib.hid (HW.out.trans (hbn.out.mono HW.out.size));have HNB:Hid (kn<x1.heap.size):=Lib.hid (lt_of_block HBn.out);go_wp2_with fail
 go_loopw [3,9] (EvRel w kn x1.heap.size) (fun _ i _=>7 - (intOf i).toNat)
 case atStart=>exact⟨0,[],rfl,Nat.zero_le _,Lib.hid rfl,Lib.hid ⟨rfl,rfl,fun p hp=>by cases hp⟩,Lib.hid (El.Row.nil _ _),HW,HBn,Lib.hid (Nat.le_refl _)⟩
 case round =>
  obtain⟨wl,hwl⟩:∃ q,q=wr:=⟨_,rfl⟩
  subst hwl;clear HW HBn;obtain⟨j,us,rfl,hj,HU,HEN,HR,HW,HBn,HSZ⟩:=hrel;obtain⟨oo,oc,rfl,hol,hoc,-⟩:=HR.out.form;have hul:=HU.out;rw[hul] at hol
  by_cases hlt:j<7
  ·have nmc:=names_at HBn.out j hlt;have hix:=idx7 j hlt;have HL:=Lib.hid hlt;clear hul;go_upto_region 6 with fail
   have HWp:=HW;have HRp:=HR;have HBnp:=HBn;obtain⟨x2,kv,ev,ekv,hbv,hkv,HBv⟩:=newV wl #[.int .i64 0,.bool false,.slice none 0 0,.bool false,.slice none 0 0] 41;replace HBn:=kBV hbv.out HBn;replace HW:=Lib.hid (HW.out.trans (hbv.out.mono HW.out.size));replace HR:=Lib.hid (HR.out.below hbv.out);replace HSZ:=Lib.hid (Nat.le_trans HSZ.out hbv.out.size);rw[ev,ekv];have HKv:Hid (w.heap.size<=kv):=Lib.hid (by rw[<-ekv];exact HWp.out.size);have HRV0:Hid (∀ q,(Value.slice oo us.length oc).ownBlock=some q->q≠kv):=Lib.hid (fun q hq=>by have h1:=(HRp.out.ge hq).2;rw[ekv] at h1;omega);have HNV:Hid (some kn≠some kv):=Lib.hid (fun e=>by injection e with e;have h1:=lt_of_block HBnp.out;rw[ekv] at h1;omega)
   by_cases hjn:j<n
   ·obtain⟨a,xk,rb,ro,rl,rc,rd,rp,rm,rq,rfl,⟨g0,g1,g2,g3,g4⟩,hxk,hrn,hri⟩:=HX.out.2 j hjn;have HRN0:=Lib.hid hrn;have HRI0:=Lib.hid hri;clear hrn hri hxk;rw[<-HW.out.cell (World.block_lt_of_cell? w _ g0)] at g0;rw[<-HW.out.cell (World.block_lt_of_cell? w _ g1)] at g1;rw[<-HW.out.cell (World.block_lt_of_cell? w _ g2)] at g2;rw[<-HW.out.cell (World.block_lt_of_cell? w _ g3)] at g3;rw[<-HW.out.cell (World.block_lt_of_cell? w _ g4)] at g4;have hjn2:((j:Nat):Int)<((n:Nat):Int):=by omega
    have v0:=cell_at (v:=.int .i64 0) HBv.out 0 rfl;have fv0:=froz_at HBv.out 0;have v1:=cell_at (v:=.bool false) HBv.out 1 rfl;have fv1:=froz_at HBv.out 1;have v2:=cell_at (v:=.slice none 0 0) HBv.out 2 rfl;have fv2:=froz_at HBv.out 2;have v3:=cell_at (v:=.bool false) HBv.out 3 rfl;have fv3:=froz_at HBv.out 3;have v4:=cell_at (v:=.slice none 0 0) HBv.out 4 rfl;have fv4:=froz_at HBv.out 4;go_upto_region 9 with fail
    clear nmc v0 fv0 v1 fv1 v2 fv2 v3 fv3 v4 fv4 g0 g1 g2 g3 g4;have hg1:=grown5V (w:=x2) (k:=kv) (.int .i64 xk) (.bool rb) (.slice ro rl rc) (.bool rd) (.slice rp rm rq);have hb1:=set5_same HBv.out (.int .i64 xk) (.bool rb) (.slice ro rl rc) (.bool rd) (.slice rp rm rq);obtain⟨W1,hW1⟩:∃ q,q=((((x2.setCell ⟨kv,0,none⟩ (.int .i64 xk)).setCell ⟨kv,1,none⟩ (.bool rb)).setCell ⟨kv,2,none⟩ (.slice ro rl rc)).setCell ⟨kv,3,none⟩ (.bool rd)).setCell ⟨kv,4,none⟩ (.slice rp rm rq):=⟨_,rfl⟩
    rw[<-hW1] at hg1 hb1 ⊢;have hg2:W1.grownBy (W1.setCell ⟨kv,0,none⟩ (.int .i64 (kdAt j))) (some kv):=grown_setCell (World.grownBy.refl _ _) _;have hb2:=set1_of5 hb1 (.int .i64 (kdAt j));obtain⟨W2,hW2⟩:∃ q,q=W1.setCell ⟨kv,0,none⟩ (.int .i64 (kdAt j)):=⟨_,rfl⟩
    rw[<-hW2] at hg2 hb2 ⊢;have hf1:Fr 41 x2 W1:=.of_grown hg1 (fun j hj=>by injection hj with hj;subst hj;exact⟨_,HBv.out,n32_5⟩);have hf2:Fr 41 W1 W2:=.of_grown hg2 (fun j hj=>by injection hj with hj;subst hj;exact⟨_,hb1,n32_5⟩);replace HR:=Lib.hid ((HR.out.other2 hg1 HRV0.out hf1 (show 26≠41 by decide)).other2 hg2 HRV0.out hf2 (show 26≠41 by decide));replace HW:=Lib.hid (ext_below (ext_below HW.out hg1 HKv.out) hg2 HKv.out);replace HSZ:=Lib.hid (Nat.le_trans HSZ.out (Nat.le_trans hg1.size hg2.size));replace HBn:=Lib.hid ((hg2.block kn (lt_of_block ((hg1.block kn (lt_of_block HBn.out) HNV.out).trans HBn.out)) HNV.out).trans ((hg1.block kn (lt_of_block HBn.out) HNV.out).trans HBn.out));have HRN2:=Lib.hid (HRN0.out.below HW.out);have HRI2:=Lib.hid (HRI0.out.below HW.out);replace HBv:=Lib.hid hb2;clear hg2 hb2 hW2 hf2 hg1 hb1 hW1 hf1
    have v0:=cell_at (v:=.int .i64 (kdAt j)) HBv.out 0 rfl;have fv0:=froz_at HBv.out 0;have v1:=cell_at (v:=.bool rb) HBv.out 1 rfl;have fv1:=froz_at HBv.out 1;have v2:=cell_at (v:=.slice ro rl rc) HBv.out 2 rfl;have fv2:=froz_at HBv.out 2;have v3:=cell_at (v:=.bool rd) HBv.out 3 rfl;have fv3:=froz_at HBv.out 3;have v4:=cell_at (v:=.slice rp rm rq) HBv.out 4 rfl;have fv4:=froz_at HBv.out 4;obtain⟨x3,ky,ey,eky,hby,hky,HBy⟩:=newV W2 #[.int .i64 (kdAt j),.bool rb,.slice ro rl rc,.bool rd,.slice rp rm rq] 41;replace HBn:=kBV hby.out HBn;replace HBv:=kBV hby.out HBv;replace HW:=Lib.hid (HW.out.trans (hby.out.mono HW.out.size));replace HR:=Lib.hid (HR.out.below hby.out);replace HSZ:=Lib.hid (Nat.le_trans HSZ.out hby.out.size)
    have HRV:=Lib.hid (RVals.one HBy.out (by rcases kd_small j with h | h | h<;>rw[h]<;>decide) (HRN2.out.below hby.out) (HRI2.out.below hby.out));have hyc:=cell_at (v:=.int .i64 (kdAt j)) HBy.out 0 rfl;go_wp2_with fail
    refine (tame_q _ 1 1 x3 HRV.out).mono ?_;rintro e x4 ⟨t,xs,rfl,hvl,hlen,htv,hks,hb⟩;clear v0 fv0 v1 fv1 v2 fv2 v3 fv3 v4 fv4;replace HBn:=kBV hb HBn;replace HBv:=kBV hb HBv;replace HBy:=kBV hb HBy;replace HW:=Lib.hid (HW.out.trans (hb.mono HW.out.size));replace HR:=Lib.hid (HR.out.below hb);replace HSZ:=Lib.hid (Nat.le_trans HSZ.out hb.size)
    obtain⟨x,rfl⟩:∃ x,xs=[x]:=by
     have hl1:xs.length=1:=by rw[hlen];rfl
     exact List.length_eq_one_iff.1 hl1
    have hsx:sortOf x=kdAt j:=by
     have:=hks 0 (by simp) _ (kdAt j) rfl (by rw[show (⟨ky,0,none⟩:Addr).add (0*5)=⟨ky,0,none⟩ from rfl];exact hyc);simp only[List.getElem_cons_zero] at this;rw[this];rcases kd_small j with h | h | h<;>rw[h]<;>rfl
    have HSX:=Lib.hid hsx;have HTX:=Lib.hid (htv x (by simp));obtain⟨tO,tc,rfl,⟨ht1,ht2⟩,htc⟩:=hvl.form;obtain⟨a3,tk,tb,to2,tl2,tc2,td,tp,tm,tq,rfl,⟨t0,t1,t2,t3,t4⟩,hvc⟩:=htc 0 (by simp);have htcm:tc<=9223372036854775807:=ht2;simp only[List.getElem_cons_zero,Nat.zero_mul,Addr.add,if_true] at t0 t1 t2 t3 t4 hvc;have hlen1:[x].length<=tc:=ht1;simp only[lsc,lsn] at hlen1;obtain⟨u,uk,ub,uo,ul,uc,ud,up,um,uq,hue0,hue,hux,hur⟩:=hvc.unit;injection hue0 with hue0;have e0:=congrArg Array.toList hue0;simp only[List.cons.injEq,Value.int.injEq,Value.bool.injEq,Value.slice.injEq,and_true,true_and] at e0;obtain⟨rfl,rfl,⟨rfl,rfl,rfl⟩,rfl,rfl,rfl,rfl⟩:=e0;have HUE:=Lib.hid hue;have HUX:=Lib.hid hux;have HUR:=Lib.hid hur;clear hue0 hvl hlen htv hks hsx hvc hue hux hur htc ht1 ht2 hyc
    obtain⟨x5,kz,ez,ekz,hbz,hkz,HBz⟩:=newV x4 #[.string (nmAt j),.int .i64 tk,.bool tb,.slice to2 tl2 tc2,.bool td,.slice tp tm tq] 59;replace HBn:=kBV hbz.out HBn;replace HBv:=kBV hbz.out HBv;replace HBy:=kBV hbz.out HBy;replace HW:=Lib.hid (HW.out.trans (hbz.out.mono HW.out.size));replace HR:=Lib.hid (HR.out.below hbz.out);replace HSZ:=Lib.hid (Nat.le_trans HSZ.out hbz.out.size);replace HUR:=Lib.hid (HUR.out.below hbz.out);have HAT:=Lib.hid (one_atB HBz.out HUE.out HUR.out);go_wp2_with (at_builtin;refine El.Row.append (E:=bE) HR.out rfl (.tmp 27) (.tmp 35) rfl rfl rfl HAT.out (by rw[HU.out];simp;omega) HSZ.out ?_;intro v9 w9 r1 r2 r3 r4)
    go_roundw
    case rel=>exact⟨j+1,us++[⟨nmAt j,u⟩],by go_num,HL.out,Lib.hid (by rw[lsa,HU.out];rfl),Lib.hid (by unfold envOf;rw[List.map_append];exact HEN.out.snoc (by rw[HUX.out];exact HSX.out) (by rw[HUX.out];exact HTX.out)),Lib.hid r1,Lib.hid (HW.out.trans (r3.mono (by have:=hbn.out.size;exact this))),Lib.hid ((r3.block kn HNB.out).trans HBn.out),Lib.hid (Nat.le_trans HSZ.out r3.size)⟩
    case measure=>simp[intOf];omega
   have hjn2:¬ ((j:Nat):Int)<((n:Nat):Int):=by omega
   have v0:=cell_at (v:=.int .i64 0) HBv.out 0 rfl;have fv0:=froz_at HBv.out 0;have v1:=cell_at (v:=.bool false) HBv.out 1 rfl;have fv1:=froz_at HBv.out 1;have v2:=cell_at (v:=.slice none 0 0) HBv.out 2 rfl;have fv2:=froz_at HBv.out 2;have v3:=cell_at (v:=.bool false) HBv.out 3 rfl;have fv3:=froz_at HBv.out 3;have v4:=cell_at (v:=.slice none 0 0) HBv.out 4 rfl;have fv4:=froz_at HBv.out 4;go_upto_region 9 with fail
   clear nmc v0 fv0 v1 fv1 v2 fv2 v3 fv3 v4 fv4;have hg2:x2.grownBy (x2.setCell ⟨kv,0,none⟩ (.int .i64 (kdAt j))) (some kv):=grown_setCell (World.grownBy.refl _ _) _;have hb2:=set1_of5 HBv.out (.int .i64 (kdAt j));obtain⟨W2,hW2⟩:∃ q,q=x2.setCell ⟨kv,0,none⟩ (.int .i64 (kdAt j)):=⟨_,rfl⟩
   rw[<-hW2] at hg2 hb2 ⊢;have hf2:Fr 41 x2 W2:=.of_grown hg2 (fun j hj=>by injection hj with hj;subst hj;exact⟨_,HBv.out,n32_5⟩);replace HR:=Lib.hid (HR.out.other2 hg2 HRV0.out hf2 (show 26≠41 by decide));replace HW:=Lib.hid (ext_below HW.out hg2 HKv.out);replace HSZ:=Lib.hid (Nat.le_trans HSZ.out hg2.size);replace HBn:=Lib.hid ((hg2.block kn (lt_of_block HBn.out) HNV.out).trans HBn.out);replace HBv:=Lib.hid hb2;clear hg2 hb2 hW2 hf2;have v0:=cell_at (v:=.int .i64 (kdAt j)) HBv.out 0 rfl;have fv0:=froz_at HBv.out 0;have v1:=cell_at (v:=.bool false) HBv.out 1 rfl;have fv1:=froz_at HBv.out 1;have v2:=cell_at (v:=.slice none 0 0) HBv.out 2 rfl;have fv2:=froz_at HBv.out 2;have v3:=cell_at (v:=.bool false) HBv.out 3 rfl;have fv3:=froz_at HBv.out 3;have v4:=cell_at (v:=.slice none 0 0) HBv.out 4 rfl;have fv4:=froz_at HBv.out 4
   obtain⟨x3,ky,ey,eky,hby,hky,HBy⟩:=newV W2 #[.int .i64 (kdAt j),.bool false,.slice none 0 0,.bool false,.slice none 0 0] 41;replace HBn:=kBV hby.out HBn;replace HBv:=kBV hby.out HBv;replace HW:=Lib.hid (HW.out.trans (hby.out.mono HW.out.size));replace HR:=Lib.hid (HR.out.below hby.out);replace HSZ:=Lib.hid (Nat.le_trans HSZ.out hby.out.size);have HRV:=Lib.hid (RVals.one HBy.out (by rcases kd_small j with h | h | h<;>rw[h]<;>decide) (RNum.nil _) (RInts.nil _));have hyc:=cell_at (v:=.int .i64 (kdAt j)) HBy.out 0 rfl;go_wp2_with fail
   refine (tame_q _ 1 1 x3 HRV.out).mono ?_;rintro e x4 ⟨t,xs,rfl,hvl,hlen,htv,hks,hb⟩;clear v0 fv0 v1 fv1 v2 fv2 v3 fv3 v4 fv4;replace HBn:=kBV hb HBn;replace HBv:=kBV hb HBv;replace HBy:=kBV hb HBy;replace HW:=Lib.hid (HW.out.trans (hb.mono HW.out.size));replace HR:=Lib.hid (HR.out.below hb);replace HSZ:=Lib.hid (Nat.le_trans HSZ.out hb.size)
   obtain⟨x,rfl⟩:∃ x,xs=[x]:=by
    have hl1:xs.length=1:=by rw[hlen];rfl
    exact List.length_eq_one_iff.1 hl1
   have hsx:sortOf x=kdAt j:=by
    have:=hks 0 (by simp) _ (kdAt j) rfl (by rw[show (⟨ky,0,none⟩:Addr).add (0*5)=⟨ky,0,none⟩ from rfl];exact hyc);simp only[List.getElem_cons_zero] at this;rw[this];rcases kd_small j with h | h | h<;>rw[h]<;>rfl
   have HSX:=Lib.hid hsx;have HTX:=Lib.hid (htv x (by simp));obtain⟨tO,tc,rfl,⟨ht1,ht2⟩,htc⟩:=hvl.form;obtain⟨a3,tk,tb,to2,tl2,tc2,td,tp,tm,tq,rfl,⟨t0,t1,t2,t3,t4⟩,hvc⟩:=htc 0 (by simp);have htcm:tc<=9223372036854775807:=ht2;simp only[List.getElem_cons_zero,Nat.zero_mul,Addr.add,if_true] at t0 t1 t2 t3 t4 hvc;have hlen1:[x].length<=tc:=ht1;simp only[lsc,lsn] at hlen1;obtain⟨u,uk,ub,uo,ul,uc,ud,up,um,uq,hue0,hue,hux,hur⟩:=hvc.unit;injection hue0 with hue0;have e0:=congrArg Array.toList hue0;simp only[List.cons.injEq,Value.int.injEq,Value.bool.injEq,Value.slice.injEq,and_true,true_and] at e0;obtain⟨rfl,rfl,⟨rfl,rfl,rfl⟩,rfl,rfl,rfl,rfl⟩:=e0;have HUE:=Lib.hid hue;have HUX:=Lib.hid hux;have HUR:=Lib.hid hur;clear hue0 hvl hlen htv hks hsx hvc hue hux hur htc ht1 ht2 hyc
   obtain⟨x5,kz,ez,ekz,hbz,hkz,HBz⟩:=newV x4 #[.string (nmAt j),.int .i64 tk,.bool tb,.slice to2 tl2 tc2,.bool td,.slice tp tm tq] 59;replace HBn:=kBV hbz.out HBn;replace HBv:=kBV hbz.out HBv;replace HBy:=kBV hbz.out HBy;replace HW:=Lib.hid (HW.out.trans (hbz.out.mono HW.out.size));replace HR:=Lib.hid (HR.out.below hbz.out);replace HSZ:=Lib.hid (Nat.le_trans HSZ.out hbz.out.size);replace HUR:=Lib.hid (HUR.out.below hbz.out);have HAT:=Lib.hid (one_atB HBz.out HUE.out HUR.out);go_wp2_with (at_builtin;refine El.Row.append (E:=bE) HR.out rfl (.tmp 27) (.tmp 35) rfl rfl rfl HAT.out (by rw[HU.out];simp;omega) HSZ.out ?_;intro v9 w9 r1 r2 r3 r4)
   go_roundw
   case rel=>exact⟨j+1,us++[⟨nmAt j,u⟩],by go_num,HL.out,Lib.hid (by rw[lsa,HU.out];rfl),Lib.hid (by unfold envOf;rw[List.map_append];exact HEN.out.snoc (by rw[HUX.out];exact HSX.out) (by rw[HUX.out];exact HTX.out)),Lib.hid r1,Lib.hid (HW.out.trans (r3.mono (by have:=hbn.out.size;exact this))),Lib.hid ((r3.block kn HNB.out).trans HBn.out),Lib.hid (Nat.le_trans HSZ.out r3.size)⟩
   case measure=>simp[intOf];omega
  go_wp2_with fail
  go_ret
  have e7:j=7:=by omega
  exact⟨_,_,rfl,⟨us,HR.out.at,rfl⟩,by rw[<-e7];exact HEN.out,HW.out⟩
theorem any_stepL {P:Program} {ops:Array Oper} {Q:Exit->Act->World->Prop} {fuel:Nat} {listed:Array Bool} {a:Act} {w:World} (R:List Nat) (hr:Region.ready .any ops listed=R) (hne:R ≠ [])
  (h:∀ i ∈ R,∃ o,ops[i]?=some o/\o.guard=none/\∀ K:Act->World->Prop,Hid (∀ a w,wpAny P .any ops Q fuel (listed.setIfInBounds i true) a w->K a w)->o.wp P a w K Q):wpAny P .any ops Q (fuel+1) listed a w:=by
 refine⟨fun h0=>absurd (hr.symm.trans h0) hne,fun i hi=>?_⟩;rw[hr] at hi;obtain⟨o,ho,hg,hk⟩:=h i hi;unfold wpOp;rw[ho];simp only[Region.wanted,hg,if_true];exact Or.inl (hk _ (Lib.hid fun _ _ h=>h))
def fR:El FU where
 e:=29
 t:=27
 n:=5
 b:=80
 z:=.agg #[.int .i64 0,.bool false,.slice none 0 0,.string ⟨#[]⟩,.slice none 0 0]
 f:=fC
 R _ _:=True
 ok _:=True
 pos:=by decide
 by_:=by decide
 zs:=rfl
 z32:=by intro u hu z;simp only[Value.cells,List.mem_cons,List.not_mem_nil,or_false] at hu;rcases hu with rfl | rfl | rfl | rfl | rfl<;>(intro h;cases h)
 ht:=Try.underlying27
 info:=infoForm
 len _:=rfl
 one n:=by
  intro u hu;simp only[fC,List.mem_cons,List.not_mem_nil,or_false] at hu;rcases hu with rfl | rfl | rfl | rfl | rfl<;>rfl
 n32 n:=by
  intro u hu z;simp only[fC,List.mem_cons,List.not_mem_nil,or_false] at hu;rcases hu with rfl | rfl | rfl | rfl | rfl<;>(intro h;cases h)
 fr _ _ _:=trivial
 own:=trivial
def zFU:FU:=⟨0,n0,⟨#[]⟩,none,0,0⟩
theorem set_flat5F (l:List FU) (i:Nat) (u:FU) (hi:i<l.length):(((((l.flatMap fC).set (i*5) (.int .i64 u.k)).set (i*5+1) (.bool (decide (u.n.z<0)))).set (i*5+2) (.slice u.n.o u.n.l u.n.c)).set (i*5+3) (.string u.nm)).set (i*5+4) (.slice u.ko u.kl u.kc)=(l.set i u).flatMap fC:=by
 induction l generalizing i with
 | nil=>simp at hi
 | cons b l ih =>
  cases i with
  | zero=>rfl
  | succ i =>
   have h1:=ih i (by simpa using hi);simp only[List.flatMap_cons,fC,List.cons_append,List.nil_append,List.set_cons_succ,Nat.add_mul,Nat.one_mul,show i*5+5=i*5+1+1+1+1+1 from rfl,show i*5+1+1+1+1+1+1=(i*5+1)+1+1+1+1+1 from rfl,show i*5+1+1+1+1+1+2=(i*5+2)+1+1+1+1+1 from rfl,show i*5+1+1+1+1+1+3=(i*5+3)+1+1+1+1+1 from rfl,show i*5+1+1+1+1+1+4=(i*5+4)+1+1+1+1+1 from rfl];rw[<-h1]
def putF (w:World) (g i:Nat) (u:FU):World:=((((w.setCell ⟨g,i*5,none⟩ (.int .i64 u.k)).setCell ⟨g,i*5+1,none⟩ (.bool (decide (u.n.z<0)))).setCell ⟨g,i*5+2,none⟩ (.slice u.n.o u.n.l u.n.c)).setCell ⟨g,i*5+3,none⟩ (.string u.nm)).setCell ⟨g,i*5+4,none⟩ (.slice u.ko u.kl u.kc)
theorem putF_grown (w:World) (g i:Nat) (u:FU):w.grownBy (putF w g i u) (some g):=by
 unfold putF;refine grown_setCell ?_ _;refine grown_setCell ?_ _;refine grown_setCell ?_ _;refine grown_setCell ?_ _;refine grown_setCell ?_ _;exact World.grownBy.refl _ _
theorem Row.setF {w:World} {B g n kc:Nat} {el:List FU} (h:fR.Row w B (.slice (some ⟨g,0,none⟩) n kc) el) (i:Nat) (hi:i<el.length) (hn:n=el.length) (u:FU) {w':World} (hw:w'=putF w g i u) :
  fR.Row w' B (.slice (some ⟨g,0,none⟩) n kc) (el.set i u)/\Fr fR.e w w':=by
 have hg:w.grownBy w' (some g):=by rw[hw];exact putF_grown w g i u
 unfold putF at hw;have h0:=h.own;rw[<-hn] at h0;have h1:=(World.ownsRow.stored (World.ownsRow.stored (World.ownsRow.stored (World.ownsRow.stored (World.ownsRow.stored h0 (i*5) (.int .i64 u.k)).1 (i*5+1) (.bool (decide (u.n.z<0)))).1 (i*5+2) (.slice u.n.o u.n.l u.n.c)).1 (i*5+3) (.string u.nm)).1 (i*5+4) (.slice u.ko u.kl u.kc)).1;have h2:=set_flat5F el i u hi;have e:fR.f=fC:=rfl;rw[e,h2,<-hw] at h1;obtain⟨c,hc,h32⟩:=h.n32 g rfl;have hc':=heap_setCell_same _ g (i*5+4) _ _ (.slice u.ko u.kl u.kc) (heap_setCell_same _ g (i*5+3) _ _ (.string u.nm) (heap_setCell_same _ g (i*5+2) _ _ (.slice u.n.o u.n.l u.n.c) (heap_setCell_same _ g (i*5+1) _ _ (.bool (decide (u.n.z<0))) (heap_setCell_same _ g (i*5) _ _ (.int .i64 u.k) hc))));rw[<-hw] at hc'
 exact h.put i u hg h1 ⟨_,hc',n32_set (n32_set (n32_set (n32_set (n32_set h32 _ (by intro z e;cases e)) _ (by intro z e;cases e)) _ (by intro z e;cases e)) _ (by intro z e;cases e)) _ (by intro z e;cases e)⟩ hn trivial
theorem Row.atF {w:World} {B g n kc:Nat} {el:List FU} (h:fR.Row w B (.slice (some ⟨g,0,none⟩) n kc) el) (hn:n=el.length) {i:Nat} (hi:i<el.length) :
  (w.cell? ⟨g,i*5,none⟩=some (.int .i64 el[i].k)/\w.cell? ⟨g,i*5+1,none⟩=some (.bool (decide (el[i].n.z<0)))/\w.cell? ⟨g,i*5+2,none⟩=some (.slice el[i].n.o el[i].n.l el[i].n.c)/\w.cell? ⟨g,i*5+3,none⟩=some (.string el[i].nm)/\w.cell? ⟨g,i*5+4,none⟩=some (.slice el[i].ko el[i].kl el[i].kc)) /\
  w.frozen? ⟨g,i*5,none⟩=false/\w.frozen? ⟨g,i*5+1,none⟩=false/\w.frozen? ⟨g,i*5+2,none⟩=false/\w.frozen? ⟨g,i*5+3,none⟩=false/\w.frozen? ⟨g,i*5+4,none⟩=false:=by
 obtain⟨c,hc,h32⟩:=h.n32 g rfl
 have key:∀ j v,(fC el[i])[j]?=some v->w.cell? ⟨g,i*5+j,none⟩=some v:=by
  intro j v hj;have hj5:j<5:=by have:=(List.getElem?_eq_some_iff.1 hj).1;simpa [fC] using this
  have h0:=h.own;rw[<-hn] at h0;rw[World.ownsRow.cellAt h0 (i*5+j) (by show i*5+j<n*5;omega)];exact (flat_atV fR.f fR.len el i j hi hj5).trans hj
 exact⟨⟨key 0 _ rfl,key 1 _ rfl,key 2 _ rfl,key 3 _ rfl,key 4 _ rfl⟩,froz_at hc _,froz_at hc _,froz_at hc _,froz_at hc _,froz_at hc _⟩
theorem fR_append {w:World} {B:Nat} {v:Value} {us:List FU} (h:fR.Row w B v us) {o:Oper} {a:Act} {K:Act->World->Prop} {Q:Exit->Act->World->Prop} (s x:Operand)
  (ho:o.op=.call { callee:=.builtin .append,args:=#[s,x],argTypes:=#[27,27] }) (hs:a.eval s=v) (g:Nat) (u:FU) (hx:a.eval x=.slice (some ⟨g,0,none⟩) 1 1) (hB:w.heap[g]?=some (.cells (fC u).toArray 29 (0,0))) (hlen:us.length<=1000) (hb:B<=w.heap.size)
  (hK:∀ g' cap w',fR.Row w' B (.slice (some ⟨g',0,none⟩) (us.length+1) cap) (us++[u])->Fr fR.e w w'->Below B w w'->w.grownBy w' v.ownBlock->FreshF w v (.slice (some ⟨g',0,none⟩) (us.length+1) cap)->us.length+1<=cap->cap<=maxLen->K (a.put o.dst (.slice (some ⟨g',0,none⟩) (us.length+1) cap)) w'):o.wp Try.prog a w K Q:=by
 have hnews:∀ j q,(fC u)[j]?=some q->w.cell? ((⟨g,0,none⟩:Addr).add j)=some q:=fun j q hj=>World.news_of_block hB j q (by simpa using hj)
 have hAt:fR.At w (.slice (some ⟨g,0,none⟩) 1 1) [u]:=El.At.block (E:=fR) (el:=[u]) (by rw[hB];simp only[List.flatMap_cons,List.flatMap_nil,List.append_nil];rfl) (show 1<=maxLen by decide) (fun _ _=>trivial);obtain⟨v',w',hr,h2,h3,h4,h5⟩:=h.run hAt o.type (by simp;omega) hb;obtain⟨i,hi,hz,hz1,hz2⟩:=info_parts fR.info
 have hf:FreshF w v v':=by
  have hown:=h.own;rw[<-hz1] at hown;exact append_freshF (P:=Try.prog) fR.ht hi hz hown (c:=1) (m:=1) (news:=fC u) (by rw[hz1];rfl) hnews (fR.one u) (by omega) (by rw[hz2];show (us.length+1)*80<=_;omega) (by decide) (by rw[hz1];exact fR.zs) (by rw[hz1];exact fR.pos) hr
 have hsh:∃ g' cap,v'=.slice (some ⟨g',0,none⟩) (us.length+1) cap/\us.length+1<=cap/\cap<=maxLen:=by
  rcases h2.own.2 with ⟨-,h0⟩ | ⟨g',cap,cur,hv,_,_,hn,hc,_⟩
  ·simp at h0
  refine⟨g',cap,?_,?_,hc⟩
  ·rw[hv];simp
  simpa using hn
 obtain⟨g',cap,rfl,hn1,hn2⟩:=hsh;unfold Oper.wp execOp;simp only[ho,resolve,invoke,builtin,Sem.run_bind,Sem.run_pure,Result.andThen_ok,List.map_toArray,List.map_cons,List.map_nil,hs,hx];rw[show (Builtin.append_ #[27,27] o.type #[v,.slice (some ⟨g,0,none⟩) 1 1]).run Try.prog w=_ from hr];exact hK _ _ _ h2 h3 h4 h5 hf hn1 hn2
structure RU where
 o:Int
 b:Bool
 ao:Option Addr
 l:Nat
 c:Nat
 nm:ByteArray
 ko:Option Addr
 kl:Nat
 kc:Nat
def rC (x:RU):List Value:=[.int .i64 x.o,.bool x.b,.slice x.ao x.l x.c,.string x.nm,.slice x.ko x.kl x.kc]
def RawF (w:World):Nat->RU->Prop
 | 0,_=>True
 | d+1,x=>IR x.o/\RNum w (.slice x.ao x.l x.c)/\x.nm.size<=9223372036854775807/\(x.kl<=x.kc/\x.kc<=maxLen)/\∀ i,i<x.kl->∃ y,AtF 5 w x.ko i (rC y)/\RawF w d y
theorem RawF.below {w w':World} (hb:Below w.heap.size w w'):∀ {d:Nat} {x:RU},RawF w d x->RawF w' d x
 | 0,_,h=>h
 | d+1,x,⟨h1,h2,h3,h4,h5⟩=>by
  refine⟨h1,h2.below hb,h3,h4,fun i hi=>?_⟩;obtain⟨y,a1,a2⟩:=h5 i hi;exact⟨y,a1.keep fun a ha=>hb.block _ (a1.lt a ha),a2.below hb⟩
def zRU:RU:=⟨0,false,none,0,0,⟨#[]⟩,none,0,0⟩
theorem raw_zero (w:World) (d:Nat):RawF w d zRU:=by
 cases d with
 | zero=>trivial
 | succ d=>exact⟨by unfold IR zRU;decide,⟨[],Sl.nil _ _,Dig.nil _⟩,by decide,⟨Nat.le_refl _,Nat.zero_le _⟩,fun i hi=>absurd hi (Nat.not_lt_zero i)⟩
def NmOk (o:Int) (nm:ByteArray):Prop:=
 if o=1 then nm=⟨#[105,48]⟩\/nm=⟨#[105,49]⟩\/nm=⟨#[105,50]⟩
 else if o=8 then nm=⟨#[108,48]⟩\/nm=⟨#[108,49]⟩
 else if o=14 then nm=⟨#[98,48]⟩\/nm=⟨#[98,49]⟩
 else nm=⟨#[]⟩
def Tm:Nat->F->Prop
 | 0,_=>False
 | d+1,t=>NmOk t.op t.name/\t.num.natAbs<L32 ^ 4/\(t.op≠0->t.op≠3->t.op≠5->t.num=0)/\t.kids.length<=3/\∀ k ∈ t.kids,Tm d k
def TamePost (d:Nat) (s:Int) (w:World) (e:Ending) (w':World):Prop:=∃ v t,e=.returned v/\FC w' (fun b=>w.heap.size<=b) d v t/\rt t=true/\srt t.op=s/\Tm d t/\Below w.heap.size w w'
structure TSt (w:World) (B kf kd kr ko:Nat) (x:RU) (dd:Int) (op:Int) (sg:Bool) (ao:Option Addr) (l c:Nat) (nm:ByteArray) (z:Int) (d:Nat) (ts:List F) (v:Value) (us:List FU) (wr:World):Prop where
 ho:wr.heap[ko]?=some (.cells #[.int .i64 op,.bool sg,.slice ao l c,.string nm,v] 29 (0,0))
 hf:wr.heap[kf]?=some (.cells #[.int .i64 x.o,.bool x.b,.slice x.ao x.l x.c,.string x.nm,.slice x.ko x.kl x.kc] 29 (0,0))
 hd:wr.heap[kd]?=some (.cells #[.int .i64 dd] 3 (0,0))
 hr:wr.heap[kr]?=some (.cells #[.int .i64 0,.bool false,.slice none 0 0,.string ⟨#[]⟩,.slice none 0 0] 29 (0,0))
 hz:CI wr (.agg #[.bool sg,.slice ao l c]) z 600
 row:fR.Row wr B v us
 len:us.length=ts.length
 tr:∀ q (h1:q<us.length) (h2:q<ts.length),FT wr (fun b=>B<=b/\v.ownBlock≠some b) d us[q] ts[q]
 good:∀ t ∈ ts,rt t=true/\Tm d t
 low:kf<B/\kd<B/\kr<B/\ko<B
 dis:kf≠ko/\kd≠ko/\kr≠ko
 hi:w.heap.size<=ko
 be:Below w.heap.size w wr
 sz:B<=wr.heap.size
theorem TSt.next {w:World} {B kf kd kr ko:Nat} {x:RU} {dd op:Int} {sg:Bool} {ao:Option Addr} {l c:Nat} {nm:ByteArray} {z:Int} {d:Nat} {ts:List F} {v:Value} {us:List FU} {wr:World} (h:TSt w B kf kd kr ko x dd op sg ao l c nm z d ts v us wr)
  {w5 w6 w8 wc:World} (hb:Below wr.heap.size wr w5) (hc:wr.heap.size<=wc.heap.size) {y:FU} {t:F} (hy:FT w5 (fun b=>wc.heap.size<=b) d y t) (hgood:rt t=true/\Tm d t) {g cap:Nat} (hfr:Fr 29 w5 w6) (hg:w5.grownBy w6 v.ownBlock) (hfresh:FreshF w5 v (.slice (some ⟨g,0,none⟩) (us.length+1) cap))
  (hrow8:fR.Row w8 B (.slice (some ⟨g,0,none⟩) (us.length+1) cap) (us++[y])) (ho8:w8.heap[ko]?=some (.cells #[.int .i64 op,.bool sg,.slice ao l c,.string nm,.slice (some ⟨g,0,none⟩) (us.length+1) cap] 29 (0,0))) (hoth:∀ k,k<w6.heap.size->k≠g->k≠ko->w8.heap[k]?=w6.heap[k]?) (hkn:KN w6 w8) (hos:w8.os=w6.os) (htp:w8.tape=w6.tape) (hou:w8.output=w6.output) (hsz:w6.heap.size<=w8.heap.size) :
  TSt w B kf kd kr ko x dd op sg ao l c nm z d (ts++[t]) (.slice (some ⟨g,0,none⟩) (us.length+1) cap) (us++[y]) w8:=by
 have hgB:B<=g:=(hrow8.ge rfl).1;have hs5:=hb.size;have hs6:=hg.size;have hB:=h.sz;have hown:∀ j,v.ownBlock=some j->B<=j/\j<wr.heap.size:=fun j hj=>h.row.ge hj
 have low:∀ k,k<B->k≠ko->w8.heap[k]?=wr.heap[k]?:=fun k hk hko=>by
  rw[hoth k (by omega) (by omega) hko,hg.block k (by omega) (fun e=>by have:=(hown k e.symm).1;omega),hb.block k (by omega)]
 obtain⟨l1,l2,l3,l4⟩:=h.low;obtain⟨d1,d2,d3⟩:=h.dis;have kn:KN wr w8:=((KN.of_below hb).trans (KN.of_fr hfr)).trans hkn;refine⟨ho8,(low _ l1 d1).trans h.hf,(low _ l2 d2).trans h.hd,(low _ l3 d3).trans h.hr,h.hz.kn kn,hrow8,by simp[h.len],fun q h1 h2=>?_,fun u hu=>?_,h.low,h.dis,h.hi,?_,by omega⟩
 ·by_cases hq:q<us.length
  ·have e1:(us++[y])[q]=us[q]:=List.getElem_append_left hq;have hq2:q<ts.length:=by rw[<-h.len];exact hq
   have e2:(ts++[t])[q]=ts[q]:=List.getElem_append_left hq2;rw[e1,e2]
   have hne:∀ b,(B<=b/\v.ownBlock≠some b)/\b<wr.heap.size->b≠g:=fun b hb' e=>by
    subst e;rcases hfresh b rfl with h' | h'
    ·exact hb'.1.2 h'
    omega
   refine ((h.tr q hq hq2).lt.keep (w':=w8) (fun b hb'=>?_) kn).mono fun b hb'=>⟨hb'.1.1,fun e=>hne b hb' (by injection e with e;exact e.symm)⟩
   rw[hoth b (by omega) (hne b hb') (by omega),hg.block b (by omega) (fun e=>hb'.1.2 e.symm),hb.block b hb'.2]
  have hqe:q=us.length:=by simp at h1;omega
  subst hqe;have e1:(us++[y])[us.length]=y:=by rw[List.getElem_append_right (Nat.le_refl _)];simp
  have e2:(ts++[t])[us.length]=t:=by rw[List.getElem_append_right (by rw[h.len];exact Nat.le_refl _)];simp[h.len]
  rw[e1,e2]
  have hne:∀ b,wc.heap.size<=b/\b<w5.heap.size->b≠g:=fun b hb' e=>by
   subst e;rcases hfresh b rfl with h' | h'
   ·have:=(hown b h').2;omega
   omega
  refine (hy.lt.keep (w':=w8) (fun b hb'=>?_) ((KN.of_fr hfr).trans hkn)).mono fun b hb'=>⟨by omega,fun e=>hne b hb' (by injection e with e;exact e.symm)⟩
  rw[hoth b (by omega) (hne b hb') (by omega),hg.block b hb'.2 (fun e=>by have:=(hown b e.symm).2;omega)]
 ·rcases List.mem_append.1 hu with hu | hu
  ·exact h.good u hu
  rw[List.mem_singleton] at hu;subst hu;exact hgood
 have hwo:=h.hi;have hbe:=h.be;have hbs:=hbe.size;refine⟨(hos.trans (hg.os.trans hb.os)).trans hbe.os,(htp.trans (hg.tape.trans hb.tape)).trans hbe.tape,(hou.trans (hg.output.trans hb.output)).trans hbe.output,by omega,fun k hk=>?_⟩;rw[low k (by omega) (by omega)];exact hbe.block k hk
theorem RawF.kid {w:World} {d:Nat} {x:RU} (h:RawF w (d+1) x) (i:Nat) (hi:i<x.kl):∃ (a:Addr) (y:RU),x.ko=some a/\(w.cell? (a.add (i*5))=some (.int .i64 y.o)/\w.cell? ⟨(a.add (i*5)).block,(a.add (i*5)).off+1,none⟩=some (.bool y.b)/\w.cell? ⟨(a.add (i*5)).block,(a.add (i*5)).off+2,none⟩=some (.slice y.ao y.l y.c) /\
  w.cell? ⟨(a.add (i*5)).block,(a.add (i*5)).off+3,none⟩=some (.string y.nm)/\w.cell? ⟨(a.add (i*5)).block,(a.add (i*5)).off+4,none⟩=some (.slice y.ko y.kl y.kc))/\RawF w d y:=by
 obtain⟨-,-,-,-,h5⟩:=h;obtain⟨y,⟨a,ha,hc⟩,hy⟩:=h5 i hi;exact⟨a,y,ha,⟨hc 0 _ rfl,hc 1 _ rfl,hc 2 _ rfl,hc 3 _ rfl,hc 4 _ rfl⟩,hy⟩
theorem set_last (us:List FU) (y:FU) {n:Nat} (hn:n=us.length):(us++[zFU]).set n y=us++[y]:=by
 subst hn;rw[List.set_append_right _ _ (Nat.le_refl _)];simp
theorem row_zero {w W:World} {B g n cap ko:Nat} {us:List FU} (h:fR.Row w B (.slice (some ⟨g,0,none⟩) (n+1) cap) (us++[zFU])) (hn:n=us.length) (hog:ko≠g) (hW:∀ k,k<w.heap.size->k≠ko->W.heap[k]?=w.heap[k]?) :
  (W.cell? ⟨g,n*5,none⟩=some (.int .i64 0)/\W.cell? ⟨g,n*5+1,none⟩=some (.bool false)/\W.cell? ⟨g,n*5+2,none⟩=some (.slice none 0 0)/\W.cell? ⟨g,n*5+3,none⟩=some (.string ⟨#[]⟩)/\W.cell? ⟨g,n*5+4,none⟩=some (.slice none 0 0)) /\
  W.frozen? ⟨g,n*5,none⟩=false/\W.frozen? ⟨g,n*5+1,none⟩=false/\W.frozen? ⟨g,n*5+2,none⟩=false/\W.frozen? ⟨g,n*5+3,none⟩=false/\W.frozen? ⟨g,n*5+4,none⟩=false:=by
 have hi:n<(us++[zFU]).length:=by rw[hn];simp
 have e:(us++[zFU])[n]=zFU:=by subst hn;rw[List.getElem_append_right (Nat.le_refl _)];simp
 obtain⟨⟨c0,c1,c2,c3,c4⟩,-⟩:=Row.atF h (by simp[hn]) hi;rw[e] at c0 c1 c2 c3 c4;obtain⟨cc,hc,-⟩:=h.n32 g rfl;have hg:=(hW g (lt_of_block hc) (fun e=>hog e.symm)).trans hc;have key:∀ j v,w.cell? ⟨g,j,none⟩=some v->W.cell? ⟨g,j,none⟩=some v:=fun j v h=>by rw[World.cell?_of_block (w:=w) (hW g (lt_of_block hc) (fun e=>hog e.symm))];exact h
 exact⟨⟨key _ _ c0,key _ _ c1,key _ _ c2,key _ _ c3,key _ _ c4⟩,froz_at hg _,froz_at hg _,froz_at hg _,froz_at hg _,froz_at hg _⟩
def TameC (d:Nat):Prop:=∀ (s o:Int) (b:Bool) (ao:Option Addr) (l c:Nat) (nm:ByteArray) (ko:Option Addr) (kl kc:Nat) (w:World),s=0\/s=1\/s=2->RawF w d ⟨o,b,ao,l,c,nm,ko,kl,kc⟩ ->
 Calls Try.prog 7 #[.agg #[.int .i64 o,.bool b,.slice ao l c,.string nm,.slice ko kl kc],.int .i64 s,.int .i64 (d:Nat)] w (TamePost d s w)
theorem kid_p (d:Nat) (hd:d<=100) (IT:TameC d) (w wr:World) (B kf kd kr ko:Nat) (x:RU) (hx:RawF w (d+1) x) (op:Int) (sg:Bool) (ao:Option Addr) (l c:Nat) (nm:ByteArray) (z:Int) (ts:List F) (v:Value) (us:List FU) (i:Nat) (s:Int) (hs:s=0\/s=1\/s=2) (hi:i<=100)
  (h:TSt w B kf kd kr ko x ((d:Nat)+1:Int) op sg ao l c nm z d ts v us wr) (hl:us.length<=100) :
  Calls Try.prog 31 #[.int .i64 (i:Nat),.int .i64 s,.pointer (some ⟨kf,0,none⟩),.pointer (some ⟨ko,0,none⟩),.pointer (some ⟨kd,0,none⟩)] wr fun e w'=>(∃ q,e=.returned q)/\∃ t v' us',srt t.op=s/\TSt w B kf kd kr ko x ((d:Nat)+1:Int) op sg ao l c nm z d (ts++[t]) v' us' w':=by
 obtain⟨xo,xb,xao,xl,xc,xnm,xko,xkl,xkc⟩:=x;obtain⟨vo,vc,rfl,hvc1,hvc2,-⟩:=h.row.form;have HS0:=Lib.hid h;have HBf:=Lib.hid h.hf;have HBo:=Lib.hid h.ho;have HBd:=Lib.hid h.hd;simp only at HBf;have HXR:=Lib.hid hx;have HIT:=Lib.hid IT;have HSS:=Lib.hid hs;obtain⟨h4a,h4b⟩:=hx.2.2.2.1;have hxm:xkc<=9223372036854775807:=h4b;have hxk:xkl<=xkc:=h4a;have hvm:vc<=9223372036854775807:=hvc2;obtain⟨n,hn⟩:∃ n,n=us.length:=⟨_,rfl⟩
 rw[<-hn] at HBo hl hvc1;have HN:=Lib.hid hn;have hsub:((d:Nat)+1:Int) - 1=((d:Nat):Int):=by omega
 have hwd:IntKind.i64.wrap ((d:Nat):Int)=((d:Nat):Int):=IntWalk.i64_in _ (by omega);clear h hx hs IT h4a h4b hvc2 hn;have HBf0:=HBf;have HBo0:=HBo;have HBd0:=HBd;have HW:=Lib.hid (Below.refl wr.heap.size wr);go_enter Try.func31,Try.ntmps31
 go_upto_region 1 with fail
 obtain⟨x1,kx,ex,ekx,hbx,hkx,HBx⟩:=newV wr #[.int .i64 0,.bool false,.slice none 0 0,.string ⟨#[]⟩,.slice none 0 0] 29;replace HBf:=kBV hbx.out HBf;replace HBo:=kBV hbx.out HBo;replace HBd:=kBV hbx.out HBd;replace HW:=Lib.hid (HW.out.trans (hbx.out.mono HW.out.size));rw[ex,ekx];have HKX:Hid (wr.heap.size<=kx):=hkx;have f0:=cell_at (v:=.int .i64 xo) HBf.out 0 rfl;have ff0:=froz_at HBf.out 0;have f1:=cell_at (v:=.bool xb) HBf.out 1 rfl;have ff1:=froz_at HBf.out 1;have f2:=cell_at (v:=.slice xao xl xc) HBf.out 2 rfl;have ff2:=froz_at HBf.out 2;have f3:=cell_at (v:=.string xnm) HBf.out 3 rfl;have ff3:=froz_at HBf.out 3;have f4:=cell_at (v:=.slice xko xkl xkc) HBf.out 4 rfl;have ff4:=froz_at HBf.out 4
 by_cases hlt:i<xkl
 ·obtain⟨a,y,hya,⟨g0,g1,g2,g3,g4⟩,hyr⟩:=HXR.out.kid i hlt;obtain⟨yo,yb,yao,yl,yc,ynm,yko,ykl,ykc⟩:=y;simp only at hya g0 g1 g2 g3 g4;subst hya;have HBE:=Lib.hid HS0.out.be;have HYR:=Lib.hid hyr;clear hyr;rw[<-((HBE.out.trans (HW.out.mono HBE.out.size)).cell (World.block_lt_of_cell? w _ g0))] at g0;rw[<-((HBE.out.trans (HW.out.mono HBE.out.size)).cell (World.block_lt_of_cell? w _ g1))] at g1;rw[<-((HBE.out.trans (HW.out.mono HBE.out.size)).cell (World.block_lt_of_cell? w _ g2))] at g2;rw[<-((HBE.out.trans (HW.out.mono HBE.out.size)).cell (World.block_lt_of_cell? w _ g3))] at g3;rw[<-((HBE.out.trans (HW.out.mono HBE.out.size)).cell (World.block_lt_of_cell? w _ g4))] at g4;have hil:((i:Nat):Int)<((xkl:Nat):Int):=by omega
  have e0:=cell_at (v:=.int .i64 0) HBx.out 0 rfl;have fe0:=froz_at HBx.out 0;have e1:=cell_at (v:=.bool false) HBx.out 1 rfl;have fe1:=froz_at HBx.out 1;have e2:=cell_at (v:=.slice none 0 0) HBx.out 2 rfl;have fe2:=froz_at HBx.out 2;have e3:=cell_at (v:=.string ⟨#[]⟩) HBx.out 3 rfl;have fe3:=froz_at HBx.out 3;have e4:=cell_at (v:=.slice none 0 0) HBx.out 4 rfl;have fe4:=froz_at HBx.out 4;go_upto_region 3 with fail
  clear f0 ff0 f1 ff1 f2 ff2 f3 ff3 f4 ff4 e0 fe0 e1 fe1 e2 fe2 e3 fe3 e4 fe4 g0 g1 g2 g3 g4;have hg1:=grown5V (w:=x1) (k:=kx) (.int .i64 yo) (.bool yb) (.slice yao yl yc) (.string ynm) (.slice yko ykl ykc);have hb1:=set5_same HBx.out (.int .i64 yo) (.bool yb) (.slice yao yl yc) (.string ynm) (.slice yko ykl ykc);obtain⟨W1,hW1⟩:∃ q,q=((((x1.setCell ⟨kx,0,none⟩ (.int .i64 yo)).setCell ⟨kx,1,none⟩ (.bool yb)).setCell ⟨kx,2,none⟩ (.slice yao yl yc)).setCell ⟨kx,3,none⟩ (.string ynm)).setCell ⟨kx,4,none⟩ (.slice yko ykl ykc):=⟨_,rfl⟩
  rw[<-hW1] at hg1 hb1 ⊢;replace HW:=Lib.hid (ext_below HW.out hg1 HKX.out);replace HBx:=Lib.hid hb1;replace HBf:=Lib.hid ((HW.out.block _ (lt_of_block HBf0.out)).trans HBf0.out);replace HBo:=Lib.hid ((HW.out.block _ (lt_of_block HBo0.out)).trans HBo0.out);replace HBd:=Lib.hid ((HW.out.block _ (lt_of_block HBd0.out)).trans HBd0.out);clear hg1 hb1 hW1;have hlt_o:=lt_of_block HBo.out;have hlt_x:=lt_of_block HBx.out;have hlt_d:=lt_of_block HBd.out;have hog:Hid (∀ q,q<0->(fun q=>0) q<W1.heap.size):=Lib.hid (fun q h=>absurd h (Nat.not_lt_zero _))
  refine R7.region (by kernel_rfl) [[],[0],[],[],[],[4],[2,3,4,5],[0,1],[],[0,1,2,3,4,5,6,7,8],[0,1,2,3,4,5,6,7,8,9],[0,1,2,3,4,5,6,7,8,9,10],[0,1,2,3,4,5,6,7,8,9],[0,1,2,3,4,5,6,7,8,9,12]] [] [] (fun q=>0) 0 9 (by kernel_rfl) (by kernel_rfl) (by rfl) hog.out (fun q q' h h' hn=>absurd hn (by omega)) ?_;refine R7.Chain.det ?_ (by rfl) (fun T xs wr hA=>?_) ?_
  rotate_left 1
  ·have e3:=hA.pre 3 (by kernel_rfl);simp only[gsa,gsc,gsz] at e3;clear hA;refine⟨(by rfl),?_⟩;go_simp<;>(try with_reducible rfl)
  refine R7.Chain.det ?_ (by rfl) (fun T xs wr hA=>?_) ?_
  rotate_left 1
  ·have e19:=hA.tm 0 19 (by rfl) (by rfl);have f19:xs 0=_:=hA.fa 0 (by rfl)
   (try simp (disch:=first | rfl | decide) only [R7.mask_in] at f19)
   rw[f19] at e19;clear f19;have hBq:wr.heap[ko]?=_:=(hA.bl _ hlt_o (fun q h=>absurd h (Nat.not_lt_zero _))).trans HBo.out;have q0:=cell_at (v:=.int .i64 op) hBq 0 rfl;have q1:=cell_at (v:=.bool sg) hBq 1 rfl;have q2:=cell_at (v:=.slice ao l c) hBq 2 rfl;have q3:=cell_at (v:=.string nm) hBq 3 rfl;have q4:=cell_at (v:=.slice vo n vc) hBq 4 rfl;clear hBq;clear hA;refine⟨(by rfl),?_⟩;go_simp<;>(try with_reducible rfl)
  refine R7.Chain.det ?_ (by rfl) (fun T xs wr hA=>?_) ?_
  rotate_left 1
  ·have e7:=hA.pre 7 (by kernel_rfl);simp only[gsa,gsc,gsz] at e7;have hBq:wr.heap[kx]?=_:=(hA.bl _ hlt_x (fun q h=>absurd h (Nat.not_lt_zero _))).trans HBx.out;have q0:=cell_at (v:=.int .i64 yo) hBq 0 rfl;have q1:=cell_at (v:=.bool yb) hBq 1 rfl;have q2:=cell_at (v:=.slice yao yl yc) hBq 2 rfl;have q3:=cell_at (v:=.string ynm) hBq 3 rfl;have q4:=cell_at (v:=.slice yko ykl ykc) hBq 4 rfl;clear hBq;clear hA;refine⟨(by rfl),?_⟩;go_simp<;>(try with_reducible rfl)
  refine R7.Chain.det ?_ (by rfl) (fun T xs wr hA=>?_) ?_
  rotate_left 1
  ·have e1:=hA.pre 1 (by kernel_rfl);simp only[gsa,gsc,gsz] at e1;clear hA;refine⟨(by rfl),?_⟩;go_simp<;>(try with_reducible rfl)
  refine R7.Chain.det ?_ (by rfl) (fun T xs wr hA=>?_) ?_
  rotate_left 1
  ·have e4:=hA.pre 4 (by kernel_rfl);simp only[gsa,gsc,gsz] at e4;have hBq:wr.heap[kd]?=_:=(hA.bl _ hlt_d (fun q h=>absurd h (Nat.not_lt_zero _))).trans HBd.out;have q0:=cell_at (v:=.int .i64 ((d:Nat)+1:Int)) hBq 0 rfl;clear hBq;clear hA;refine⟨(by rfl),?_⟩;go_simp<;>(try with_reducible rfl)
  refine R7.Chain.det ?_ (by rfl) (fun T xs wr hA=>?_) ?_
  rotate_left 1
  ·have e23:=hA.tm 4 23 (by rfl) (by rfl);have f23:xs 4=_:=hA.fa 4 (by rfl)
   (try simp (disch:=first | rfl | decide) only [R7.mask_in] at f23)
   rw[f23] at e23;clear f23;clear hA;refine⟨(by rfl),?_⟩;go_simp<;>(try with_reducible rfl)
  refine R7.Chain.call (fun xs v w=>∃ y t,v=fV y/\FT w (fun b=>W1.heap.size<=b) d y t/\rt t=true/\srt t.op=s/\Tm d t) (fun _ _ _ _ h hb=>by obtain⟨y,t,h1,h2,h3⟩:=h;exact⟨y,t,h1,h2.below hb,h3⟩) (fun _ _ _ _ _ _ h _=>by obtain⟨q,hq,_⟩:=h;exact absurd hq (Nat.not_lt_zero _)) (by rfl) (fun T xs wr hA=>?_) ?_
  ·have hsw:=(hA.be 0 (Nat.zero_le _) (fun _ _=>Nat.zero_le _)).size;have e21:=hA.tm 2 21 (by rfl) (by rfl);have f21:xs 2=_:=hA.fa 2 (by rfl)
   (try simp (disch:=first | rfl | decide) only [R7.mask_in] at f21)
   rw[f21] at e21;clear f21;have e22:=hA.tm 3 22 (by rfl) (by rfl);have f22:xs 3=_:=hA.fa 3 (by rfl)
   (try simp (disch:=first | rfl | decide) only [R7.mask_in] at f22)
   rw[f22] at e22;clear f22;have e24:=hA.tm 5 24 (by rfl) (by rfl);have f24:xs 5=_:=hA.fa 5 (by rfl)
   (try simp (disch:=first | rfl | decide) only [R7.mask_in] at f24)
   rw[f24] at e24;clear f24;have hbw:=undrew (hA.be W1.heap.size (Nat.le_refl _) (fun q h=>absurd h (Nat.not_lt_zero q)));have hraw:=HYR.out.below ((HBE.out.trans (HW.out.mono HBE.out.size)).trans (hbw.mono (Nat.le_trans HBE.out.size HW.out.size)));clear hA;refine⟨(by rfl),fun K hK=>?_⟩;go_simp
   refine (HIT.out s _ _ _ _ _ _ _ _ _ _ HSS.out hraw).mono ?_;rintro e w' ⟨q,t,rfl,⟨y,rfl,hy⟩,h2,h3,h4,hb'⟩;exact hK.out _ _ ⟨y,t,rfl,hy.mono (fun b hb=>Nat.le_trans hbw.size hb),h2,h3,h4⟩ hb'
  refine R7.Chain.det ?_ (by rfl) (fun T xs wr hA=>?_) ?_
  rotate_left 1
  ·have e20:=hA.tm 1 20 (by rfl) (by rfl);have f20:xs 1=_:=hA.fa 1 (by rfl)
   (try simp (disch:=first | rfl | decide) only [R7.mask_in] at f20)
   rw[f20] at e20;clear f20;clear hA;refine⟨(by rfl),?_⟩;go_simp<;>(try with_reducible rfl)
  refine R7.Chain.call (fun xs v w=>∃ g,v=.slice (some ⟨g,0,none⟩) 1 1/\W1.heap.size<=g/\w.heap[g]?=some (.cells #[.int .i64 0,.bool false,.slice none 0 0,.string ⟨#[]⟩,.slice none 0 0] 29 (0,0))) (fun _ _ _ _ ⟨g,hv,hl,hg⟩ hb=>⟨g,hv,hl,by rw[hb.block g (Array.getElem?_eq_some_iff.1 hg).1];exact hg⟩) (fun _ _ _ _ _ ⟨g,hv,hl,hg⟩ ⟨q,hq,e⟩ hp=>⟨g,hv,hl,by rw[hp.block g (Array.getElem?_eq_some_iff.1 hg).1 (fun h=>by have:=hog.out q hq;omega)];exact hg⟩) (by rfl) (fun T xs wr hA=>?_) ?_
  ·have hsw:=(hA.be 0 (Nat.zero_le _) (fun _ _=>Nat.zero_le _)).size;clear hA;refine⟨(by rfl),fun K hK=>?_⟩;go_simp
   exact hK.out _ _ ⟨_,rfl,hsw,by simpa using made_at wr _ _ rfl⟩ ((Below.refl _ _).alloc (Nat.le_refl _) _)
  refine R7.Chain.done (fun xs x2 hL=>?_);obtain⟨⟨hbe,hbl⟩,hf,-,-⟩:=hL;have f0:xs 0=_:=hf 0 (by decide)
  (try simp (disch:=first | rfl | decide) only [R7.mask_in] at f0)
  have f1:xs 1=_:=hf 1 (by decide)
  (try simp (disch:=first | rfl | decide) only [R7.mask_in] at f1)
  have f2:xs 2=_:=hf 2 (by decide)
  (try simp (disch:=first | rfl | decide) only [R7.mask_in] at f2)
  have f3:xs 3=_:=hf 3 (by decide)
  (try simp (disch:=first | rfl | decide) only [R7.mask_in] at f3)
  have f4:xs 4=_:=hf 4 (by decide)
  (try simp (disch:=first | rfl | decide) only [R7.mask_in] at f4)
  have f5:xs 5=_:=hf 5 (by decide)
  (try simp (disch:=first | rfl | decide) only [R7.mask_in] at f5)
  have F6:∃ y t,(xs 6)=fV y/\FT x2 (fun b=>W1.heap.size<=b) d y t/\rt t=true/\srt t.op=s/\Tm d t:=hf 6 (by decide);have f7:xs 7=_:=hf 7 (by decide)
  (try simp (disch:=first | rfl | decide) only [R7.mask_in] at f7)
  have F8:∃ g,(xs 8)=.slice (some ⟨g,0,none⟩) 1 1/\W1.heap.size<=g/\x2.heap[g]?=some (.cells #[.int .i64 0,.bool false,.slice none 0 0,.string ⟨#[]⟩,.slice none 0 0] 29 (0,0)):=hf 8 (by decide);have hb0:Below 0 W1 x2:=undrew (hbe 0 (Nat.zero_le _) (fun _ _=>Nat.zero_le _));have hgr:∀ j,j<W1.heap.size->(∀ q,q<0->(fun q=>0) q≠j)->x2.heap[j]?=W1.heap[j]?:=hbl;clear hbe hbl hf;have hb:Below W1.heap.size W1 x2:=⟨hb0.os,hb0.tape,hb0.output,hb0.size,fun q hq=>hgr q hq (fun q h=>absurd h (Nat.not_lt_zero _))⟩
  obtain⟨y,t,hv6,hyT,hyR,HSTx,hyM⟩:=F6;have HST:=Lib.hid HSTx;have hyG:=And.intro hyR hyM;obtain⟨gz,hv8,hgl,hgz⟩:=F8;unfold R7.Rest;simp only[R7.fill,t1_,t2_,t3_,t4_,t5_,t6_,t7_,hv6,hv8,fV,f0,f1,f2,f3,f4,f5,f7];clear hb0 hgr hog hv6 hv8 hyR hyM HSTx hlt_o hlt_x hlt_d f0 f1 f2 f3 f4 f5 f7;have HB5:=Lib.hid (HW.out.trans (hb.mono HW.out.size));have hcur:=HW.out.size;have hrow5:=HS0.out.row.below HB5.out;have hBsz:B<=x2.heap.size:=Nat.le_trans HS0.out.sz HB5.out.size;rw[<-HN.out] at hrow5;refine any_stepL [9] (by kernel_rfl) (by simp) (fun i hi=>?_);obtain rfl:i=9:=by simpa using hi
  refine⟨_,rfl,rfl,fun K hK=>?_⟩;refine fR_append hrow5 (.tmp 20) (.tmp 27) rfl rfl gz zFU rfl hgz (by rw[<-HN.out];omega) hBsz (fun g4 cap w6 hrow6 hfr6 hbl6 hg6 hfresh6 hn1 hn2=>?_);rw[<-HN.out] at hrow6 hn1 ⊢;refine hK.out _ _ ?_;clear hK K;have hlow:=HS0.out.low;have hob6:=(hbl6.block ko hlow.2.2.2).trans ((HB5.out.block ko (lt_of_block HBo0.out)).trans HBo0.out);have hgg:B<=g4:=(hrow6.ge rfl).1;have hog:ko≠g4:=by omega
  have hcells:=fun (W:World) (hW:∀ k,k<w6.heap.size->k≠ko->W.heap[k]?=w6.heap[k]?)=>row_zero hrow6 HN.out hog hW
  have hcapm:cap<=9223372036854775807:=hn2;have hI:(n:Int)<(n:Int)+1:=by omega
  refine any_stepL [10,12] (by kernel_rfl) (by simp) (fun i hi=>?_);rcases (by simpa using hi:i=10\/i=12) with rfl | rfl
  ·refine⟨_,rfl,rfl,fun K hK=>?_⟩;go_simp
   refine hK.out _ _ ?_;clear hK K;refine any_stepL [11,12] (by kernel_rfl) (by simp) (fun i hi=>?_);rcases (by simpa using hi:i=11\/i=12) with rfl | rfl
   ·refine⟨_,rfl,rfl,fun K hK=>?_⟩;obtain⟨⟨z0,z1,z2,z3,z4⟩,fz0,fz1,fz2,fz3,fz4⟩:=hcells w6 (fun k h1 h2=>rfl);go_simp
    obtain⟨w22,hww2⟩:∃ q,q=putF w6 g4 n y:=⟨_,rfl⟩
    change K _ (putF w6 g4 n y);rw[<-hww2];refine hK.out _ _ ?_;clear hK K z0 z1 z2 z3 z4 fz0 fz1 fz2 fz3 fz4;have hothA:∀ k,k<w6.heap.size->k≠g4->w22.heap[k]?=w6.heap[k]?:=fun k h1 h2=>by rw[hww2];exact (putF_grown w6 g4 n y).block k h1 (fun e=>by injection e with e;exact h2 e)
    have HWW2:=Lib.hid hww2;clear hww2;refine any_stepL [12] (by kernel_rfl) (by simp) (fun i hi=>?_);obtain rfl:i=12:=by simpa using hi
    refine⟨_,rfl,rfl,fun K hK=>?_⟩;go_simp
    refine hK.out _ _ ?_;clear hK K;refine any_stepL [13] (by kernel_rfl) (by simp) (fun i hi=>?_);obtain rfl:i=13:=by simpa using hi
    refine⟨_,rfl,rfl,fun K hK=>?_⟩;have hobW:=((hothA ko (lt_of_block hob6) hog).trans hob6)
    have oc4:=cell_at (v:=.slice vo n vc) hobW 4 rfl;have fo4:=froz_at hobW 4;go_simp
    obtain⟨w24,hwx4⟩:∃ q,q=w22.setCell ⟨ko,4,none⟩ (.slice (some ⟨g4,0,none⟩) (n+1) cap):=⟨_,rfl⟩
    rw[<-hwx4];refine hK.out _ _ ?_;clear hK K oc4 fo4;have hobN:w24.heap[ko]?=some (.cells #[.int .i64 op,.bool sg,.slice ao l c,.string nm,.slice (some ⟨g4,0,none⟩) (n+1) cap] 29 (0,0)):=by rw[hwx4];exact heap_setCell_same _ ko 4 _ _ _ hobW
    have hgB:w22.grownBy w24 (some ko):=by rw[hwx4];exact grown_setCell (World.grownBy.refl _ _) _
    have hothB:∀ k,k<w22.heap.size->k≠ko->w24.heap[k]?=w22.heap[k]?:=fun k h1 h2=>hgB.block k h1 (fun e=>by injection e with e;exact h2 e)
    clear hwx4;refine⟨by kernel_rfl,?_⟩;obtain⟨hrA,hfA⟩:=Row.setF hrow6 n (by simp[<-HN.out]) (by simp[<-HN.out]) y HWW2.out;have hfB:Fr 29 w22 w24:=.of_grown hgB (fun j hj=>by injection hj with hj;subst hj;exact⟨_,hobW,n32_F⟩);have hr8:=hrA.other2 hgB (fun j hj e=>hog (by have hj2:g4=j:=(by simpa [Value.ownBlock] using hj);omega)) hfB trivial;have ho8:=hobN;have hsz8:w6.heap.size<=w24.heap.size:=Nat.le_trans (by rw[HWW2.out];exact (putF_grown w6 g4 n y).size) hgB.size;have hoth8:∀ k,k<w6.heap.size->k≠g4->k≠ko->w24.heap[k]?=w6.heap[k]?:=fun k h1 h2 h3=>(hothB k (Nat.lt_of_lt_of_le h1 (by rw[HWW2.out];exact (putF_grown w6 g4 n y).size)) h3).trans (hothA k h1 h2)
    have hkn8:KN w6 w24:=(KN.of_fr hfA).trans (KN.of_fr hfB);have hgA:w6.grownBy w22 (some g4):=by rw[HWW2.out];exact putF_grown _ _ _ _
    have hmt:w24.os=w6.os/\w24.tape=w6.tape/\w24.output=w6.output:=⟨hgB.os.trans hgA.os,hgB.tape.trans hgA.tape,hgB.output.trans hgA.output⟩
    rw[set_last us y HN.out] at hr8
    go_end0
    have hN:=HN.out;subst hN;exact⟨⟨_,rfl⟩,t,_,_,HST.out,HS0.out.next HB5.out hcur hyT hyG hfr6 hg6 hfresh6 hr8 ho8 hoth8 hkn8 hmt.1 hmt.2.1 hmt.2.2 hsz8⟩
   refine⟨_,rfl,rfl,fun K hK=>?_⟩;go_simp
   refine hK.out _ _ ?_;clear hK K;refine any_stepL [11,13] (by kernel_rfl) (by simp) (fun i hi=>?_);rcases (by simpa using hi:i=11\/i=13) with rfl | rfl
   ·refine⟨_,rfl,rfl,fun K hK=>?_⟩;obtain⟨⟨z0,z1,z2,z3,z4⟩,fz0,fz1,fz2,fz3,fz4⟩:=hcells w6 (fun k h1 h2=>rfl);go_simp
    obtain⟨w23,hww3⟩:∃ q,q=putF w6 g4 n y:=⟨_,rfl⟩
    change K _ (putF w6 g4 n y);rw[<-hww3];refine hK.out _ _ ?_;clear hK K z0 z1 z2 z3 z4 fz0 fz1 fz2 fz3 fz4;have hothA:∀ k,k<w6.heap.size->k≠g4->w23.heap[k]?=w6.heap[k]?:=fun k h1 h2=>by rw[hww3];exact (putF_grown w6 g4 n y).block k h1 (fun e=>by injection e with e;exact h2 e)
    have HWW3:=Lib.hid hww3;clear hww3;refine any_stepL [13] (by kernel_rfl) (by simp) (fun i hi=>?_);obtain rfl:i=13:=by simpa using hi
    refine⟨_,rfl,rfl,fun K hK=>?_⟩;have hobW:=((hothA ko (lt_of_block hob6) hog).trans hob6)
    have oc4:=cell_at (v:=.slice vo n vc) hobW 4 rfl;have fo4:=froz_at hobW 4;go_simp
    obtain⟨w24,hwx4⟩:∃ q,q=w23.setCell ⟨ko,4,none⟩ (.slice (some ⟨g4,0,none⟩) (n+1) cap):=⟨_,rfl⟩
    rw[<-hwx4];refine hK.out _ _ ?_;clear hK K oc4 fo4;have hobN:w24.heap[ko]?=some (.cells #[.int .i64 op,.bool sg,.slice ao l c,.string nm,.slice (some ⟨g4,0,none⟩) (n+1) cap] 29 (0,0)):=by rw[hwx4];exact heap_setCell_same _ ko 4 _ _ _ hobW
    have hgB:w23.grownBy w24 (some ko):=by rw[hwx4];exact grown_setCell (World.grownBy.refl _ _) _
    have hothB:∀ k,k<w23.heap.size->k≠ko->w24.heap[k]?=w23.heap[k]?:=fun k h1 h2=>hgB.block k h1 (fun e=>by injection e with e;exact h2 e)
    clear hwx4;refine⟨by kernel_rfl,?_⟩;obtain⟨hrA,hfA⟩:=Row.setF hrow6 n (by simp[<-HN.out]) (by simp[<-HN.out]) y HWW3.out;have hfB:Fr 29 w23 w24:=.of_grown hgB (fun j hj=>by injection hj with hj;subst hj;exact⟨_,hobW,n32_F⟩);have hr8:=hrA.other2 hgB (fun j hj e=>hog (by have hj2:g4=j:=(by simpa [Value.ownBlock] using hj);omega)) hfB trivial;have ho8:=hobN;have hsz8:w6.heap.size<=w24.heap.size:=Nat.le_trans (by rw[HWW3.out];exact (putF_grown w6 g4 n y).size) hgB.size;have hoth8:∀ k,k<w6.heap.size->k≠g4->k≠ko->w24.heap[k]?=w6.heap[k]?:=fun k h1 h2 h3=>(hothB k (Nat.lt_of_lt_of_le h1 (by rw[HWW3.out];exact (putF_grown w6 g4 n y).size)) h3).trans (hothA k h1 h2)
    have hkn8:KN w6 w24:=(KN.of_fr hfA).trans (KN.of_fr hfB);have hgA:w6.grownBy w23 (some g4):=by rw[HWW3.out];exact putF_grown _ _ _ _
    have hmt:w24.os=w6.os/\w24.tape=w6.tape/\w24.output=w6.output:=⟨hgB.os.trans hgA.os,hgB.tape.trans hgA.tape,hgB.output.trans hgA.output⟩
    rw[set_last us y HN.out] at hr8
    go_end0
    have hN:=HN.out;subst hN;exact⟨⟨_,rfl⟩,t,_,_,HST.out,HS0.out.next HB5.out hcur hyT hyG hfr6 hg6 hfresh6 hr8 ho8 hoth8 hkn8 hmt.1 hmt.2.1 hmt.2.2 hsz8⟩
   refine⟨_,rfl,rfl,fun K hK=>?_⟩;have hobW:=hob6;have oc4:=cell_at (v:=.slice vo n vc) hobW 4 rfl;have fo4:=froz_at hobW 4;go_simp
   obtain⟨w23,hwx3⟩:∃ q,q=w6.setCell ⟨ko,4,none⟩ (.slice (some ⟨g4,0,none⟩) (n+1) cap):=⟨_,rfl⟩
   rw[<-hwx3];refine hK.out _ _ ?_;clear hK K oc4 fo4;have hobN:w23.heap[ko]?=some (.cells #[.int .i64 op,.bool sg,.slice ao l c,.string nm,.slice (some ⟨g4,0,none⟩) (n+1) cap] 29 (0,0)):=by rw[hwx3];exact heap_setCell_same _ ko 4 _ _ _ hobW
   have hgB:w6.grownBy w23 (some ko):=by rw[hwx3];exact grown_setCell (World.grownBy.refl _ _) _
   have hothB:∀ k,k<w6.heap.size->k≠ko->w23.heap[k]?=w6.heap[k]?:=fun k h1 h2=>hgB.block k h1 (fun e=>by injection e with e;exact h2 e)
   clear hwx3;refine any_stepL [11] (by kernel_rfl) (by simp) (fun i hi=>?_);obtain rfl:i=11:=by simpa using hi
   refine⟨_,rfl,rfl,fun K hK=>?_⟩;obtain⟨⟨z0,z1,z2,z3,z4⟩,fz0,fz1,fz2,fz3,fz4⟩:=hcells w23 hothB;go_simp
   obtain⟨w24,hww4⟩:∃ q,q=putF w23 g4 n y:=⟨_,rfl⟩
   change K _ (putF w23 g4 n y);rw[<-hww4];refine hK.out _ _ ?_;clear hK K z0 z1 z2 z3 z4 fz0 fz1 fz2 fz3 fz4;have hothA:∀ k,k<w23.heap.size->k≠g4->w24.heap[k]?=w23.heap[k]?:=fun k h1 h2=>by rw[hww4];exact (putF_grown w23 g4 n y).block k h1 (fun e=>by injection e with e;exact h2 e)
   have HWW4:=Lib.hid hww4;clear hww4;refine⟨by kernel_rfl,?_⟩;have hfB:Fr 29 w6 w23:=.of_grown hgB (fun j hj=>by injection hj with hj;subst hj;exact⟨_,hobW,n32_F⟩);have hrB:=hrow6.other2 hgB (fun j hj e=>hog (by have hj2:g4=j:=(by simpa [Value.ownBlock] using hj);omega)) hfB trivial;obtain⟨hr8,hfA⟩:=Row.setF hrB n (by simp[<-HN.out]) (by simp[<-HN.out]) y HWW4.out;have hgA:w23.grownBy w24 (some g4):=by rw[HWW4.out];exact putF_grown _ _ _ _
   have ho8:=(hothA ko (lt_of_block hobN) hog).trans hobN;have hsz8:w6.heap.size<=w24.heap.size:=Nat.le_trans hgB.size hgA.size;have hoth8:∀ k,k<w6.heap.size->k≠g4->k≠ko->w24.heap[k]?=w6.heap[k]?:=fun k h1 h2 h3=>(hothA k (Nat.lt_of_lt_of_le h1 hgB.size) h2).trans (hothB k h1 h3)
   have hkn8:KN w6 w24:=(KN.of_fr hfB).trans (KN.of_fr hfA);have hmt:w24.os=w6.os/\w24.tape=w6.tape/\w24.output=w6.output:=⟨hgA.os.trans hgB.os,hgA.tape.trans hgB.tape,hgA.output.trans hgB.output⟩
   rw[set_last us y HN.out] at hr8
   go_end0
   have hN:=HN.out;subst hN;exact⟨⟨_,rfl⟩,t,_,_,HST.out,HS0.out.next HB5.out hcur hyT hyG hfr6 hg6 hfresh6 hr8 ho8 hoth8 hkn8 hmt.1 hmt.2.1 hmt.2.2 hsz8⟩
  refine⟨_,rfl,rfl,fun K hK=>?_⟩;go_simp
  refine hK.out _ _ ?_;clear hK K;refine any_stepL [10,13] (by kernel_rfl) (by simp) (fun i hi=>?_);rcases (by simpa using hi:i=10\/i=13) with rfl | rfl
  ·refine⟨_,rfl,rfl,fun K hK=>?_⟩;go_simp
   refine hK.out _ _ ?_;clear hK K;refine any_stepL [11,13] (by kernel_rfl) (by simp) (fun i hi=>?_);rcases (by simpa using hi:i=11\/i=13) with rfl | rfl
   ·refine⟨_,rfl,rfl,fun K hK=>?_⟩;obtain⟨⟨z0,z1,z2,z3,z4⟩,fz0,fz1,fz2,fz3,fz4⟩:=hcells w6 (fun k h1 h2=>rfl);go_simp
    obtain⟨w23,hww3⟩:∃ q,q=putF w6 g4 n y:=⟨_,rfl⟩
    change K _ (putF w6 g4 n y);rw[<-hww3];refine hK.out _ _ ?_;clear hK K z0 z1 z2 z3 z4 fz0 fz1 fz2 fz3 fz4;have hothA:∀ k,k<w6.heap.size->k≠g4->w23.heap[k]?=w6.heap[k]?:=fun k h1 h2=>by rw[hww3];exact (putF_grown w6 g4 n y).block k h1 (fun e=>by injection e with e;exact h2 e)
    have HWW3:=Lib.hid hww3;clear hww3;refine any_stepL [13] (by kernel_rfl) (by simp) (fun i hi=>?_);obtain rfl:i=13:=by simpa using hi
    refine⟨_,rfl,rfl,fun K hK=>?_⟩;have hobW:=((hothA ko (lt_of_block hob6) hog).trans hob6)
    have oc4:=cell_at (v:=.slice vo n vc) hobW 4 rfl;have fo4:=froz_at hobW 4;go_simp
    obtain⟨w24,hwx4⟩:∃ q,q=w23.setCell ⟨ko,4,none⟩ (.slice (some ⟨g4,0,none⟩) (n+1) cap):=⟨_,rfl⟩
    rw[<-hwx4];refine hK.out _ _ ?_;clear hK K oc4 fo4;have hobN:w24.heap[ko]?=some (.cells #[.int .i64 op,.bool sg,.slice ao l c,.string nm,.slice (some ⟨g4,0,none⟩) (n+1) cap] 29 (0,0)):=by rw[hwx4];exact heap_setCell_same _ ko 4 _ _ _ hobW
    have hgB:w23.grownBy w24 (some ko):=by rw[hwx4];exact grown_setCell (World.grownBy.refl _ _) _
    have hothB:∀ k,k<w23.heap.size->k≠ko->w24.heap[k]?=w23.heap[k]?:=fun k h1 h2=>hgB.block k h1 (fun e=>by injection e with e;exact h2 e)
    clear hwx4;refine⟨by kernel_rfl,?_⟩;obtain⟨hrA,hfA⟩:=Row.setF hrow6 n (by simp[<-HN.out]) (by simp[<-HN.out]) y HWW3.out;have hfB:Fr 29 w23 w24:=.of_grown hgB (fun j hj=>by injection hj with hj;subst hj;exact⟨_,hobW,n32_F⟩);have hr8:=hrA.other2 hgB (fun j hj e=>hog (by have hj2:g4=j:=(by simpa [Value.ownBlock] using hj);omega)) hfB trivial;have ho8:=hobN;have hsz8:w6.heap.size<=w24.heap.size:=Nat.le_trans (by rw[HWW3.out];exact (putF_grown w6 g4 n y).size) hgB.size;have hoth8:∀ k,k<w6.heap.size->k≠g4->k≠ko->w24.heap[k]?=w6.heap[k]?:=fun k h1 h2 h3=>(hothB k (Nat.lt_of_lt_of_le h1 (by rw[HWW3.out];exact (putF_grown w6 g4 n y).size)) h3).trans (hothA k h1 h2)
    have hkn8:KN w6 w24:=(KN.of_fr hfA).trans (KN.of_fr hfB);have hgA:w6.grownBy w23 (some g4):=by rw[HWW3.out];exact putF_grown _ _ _ _
    have hmt:w24.os=w6.os/\w24.tape=w6.tape/\w24.output=w6.output:=⟨hgB.os.trans hgA.os,hgB.tape.trans hgA.tape,hgB.output.trans hgA.output⟩
    rw[set_last us y HN.out] at hr8
    go_end0
    have hN:=HN.out;subst hN;exact⟨⟨_,rfl⟩,t,_,_,HST.out,HS0.out.next HB5.out hcur hyT hyG hfr6 hg6 hfresh6 hr8 ho8 hoth8 hkn8 hmt.1 hmt.2.1 hmt.2.2 hsz8⟩
   refine⟨_,rfl,rfl,fun K hK=>?_⟩;have hobW:=hob6;have oc4:=cell_at (v:=.slice vo n vc) hobW 4 rfl;have fo4:=froz_at hobW 4;go_simp
   obtain⟨w23,hwx3⟩:∃ q,q=w6.setCell ⟨ko,4,none⟩ (.slice (some ⟨g4,0,none⟩) (n+1) cap):=⟨_,rfl⟩
   rw[<-hwx3];refine hK.out _ _ ?_;clear hK K oc4 fo4;have hobN:w23.heap[ko]?=some (.cells #[.int .i64 op,.bool sg,.slice ao l c,.string nm,.slice (some ⟨g4,0,none⟩) (n+1) cap] 29 (0,0)):=by rw[hwx3];exact heap_setCell_same _ ko 4 _ _ _ hobW
   have hgB:w6.grownBy w23 (some ko):=by rw[hwx3];exact grown_setCell (World.grownBy.refl _ _) _
   have hothB:∀ k,k<w6.heap.size->k≠ko->w23.heap[k]?=w6.heap[k]?:=fun k h1 h2=>hgB.block k h1 (fun e=>by injection e with e;exact h2 e)
   clear hwx3;refine any_stepL [11] (by kernel_rfl) (by simp) (fun i hi=>?_);obtain rfl:i=11:=by simpa using hi
   refine⟨_,rfl,rfl,fun K hK=>?_⟩;obtain⟨⟨z0,z1,z2,z3,z4⟩,fz0,fz1,fz2,fz3,fz4⟩:=hcells w23 hothB;go_simp
   obtain⟨w24,hww4⟩:∃ q,q=putF w23 g4 n y:=⟨_,rfl⟩
   change K _ (putF w23 g4 n y);rw[<-hww4];refine hK.out _ _ ?_;clear hK K z0 z1 z2 z3 z4 fz0 fz1 fz2 fz3 fz4;have hothA:∀ k,k<w23.heap.size->k≠g4->w24.heap[k]?=w23.heap[k]?:=fun k h1 h2=>by rw[hww4];exact (putF_grown w23 g4 n y).block k h1 (fun e=>by injection e with e;exact h2 e)
   have HWW4:=Lib.hid hww4;clear hww4;refine⟨by kernel_rfl,?_⟩;have hfB:Fr 29 w6 w23:=.of_grown hgB (fun j hj=>by injection hj with hj;subst hj;exact⟨_,hobW,n32_F⟩);have hrB:=hrow6.other2 hgB (fun j hj e=>hog (by have hj2:g4=j:=(by simpa [Value.ownBlock] using hj);omega)) hfB trivial;obtain⟨hr8,hfA⟩:=Row.setF hrB n (by simp[<-HN.out]) (by simp[<-HN.out]) y HWW4.out;have hgA:w23.grownBy w24 (some g4):=by rw[HWW4.out];exact putF_grown _ _ _ _
   have ho8:=(hothA ko (lt_of_block hobN) hog).trans hobN;have hsz8:w6.heap.size<=w24.heap.size:=Nat.le_trans hgB.size hgA.size;have hoth8:∀ k,k<w6.heap.size->k≠g4->k≠ko->w24.heap[k]?=w6.heap[k]?:=fun k h1 h2 h3=>(hothA k (Nat.lt_of_lt_of_le h1 hgB.size) h2).trans (hothB k h1 h3)
   have hkn8:KN w6 w24:=(KN.of_fr hfB).trans (KN.of_fr hfA);have hmt:w24.os=w6.os/\w24.tape=w6.tape/\w24.output=w6.output:=⟨hgA.os.trans hgB.os,hgA.tape.trans hgB.tape,hgA.output.trans hgB.output⟩
   rw[set_last us y HN.out] at hr8
   go_end0
   have hN:=HN.out;subst hN;exact⟨⟨_,rfl⟩,t,_,_,HST.out,HS0.out.next HB5.out hcur hyT hyG hfr6 hg6 hfresh6 hr8 ho8 hoth8 hkn8 hmt.1 hmt.2.1 hmt.2.2 hsz8⟩
  refine⟨_,rfl,rfl,fun K hK=>?_⟩;have hobW:=hob6;have oc4:=cell_at (v:=.slice vo n vc) hobW 4 rfl;have fo4:=froz_at hobW 4;go_simp
  obtain⟨w22,hwx2⟩:∃ q,q=w6.setCell ⟨ko,4,none⟩ (.slice (some ⟨g4,0,none⟩) (n+1) cap):=⟨_,rfl⟩
  rw[<-hwx2];refine hK.out _ _ ?_;clear hK K oc4 fo4;have hobN:w22.heap[ko]?=some (.cells #[.int .i64 op,.bool sg,.slice ao l c,.string nm,.slice (some ⟨g4,0,none⟩) (n+1) cap] 29 (0,0)):=by rw[hwx2];exact heap_setCell_same _ ko 4 _ _ _ hobW
  have hgB:w6.grownBy w22 (some ko):=by rw[hwx2];exact grown_setCell (World.grownBy.refl _ _) _
  have hothB:∀ k,k<w6.heap.size->k≠ko->w22.heap[k]?=w6.heap[k]?:=fun k h1 h2=>hgB.block k h1 (fun e=>by injection e with e;exact h2 e)
  clear hwx2;refine any_stepL [10] (by kernel_rfl) (by simp) (fun i hi=>?_);obtain rfl:i=10:=by simpa using hi
  refine⟨_,rfl,rfl,fun K hK=>?_⟩;go_simp
  refine hK.out _ _ ?_;clear hK K;refine any_stepL [11] (by kernel_rfl) (by simp) (fun i hi=>?_);obtain rfl:i=11:=by simpa using hi
  refine⟨_,rfl,rfl,fun K hK=>?_⟩;obtain⟨⟨z0,z1,z2,z3,z4⟩,fz0,fz1,fz2,fz3,fz4⟩:=hcells w22 hothB;go_simp
  obtain⟨w24,hww4⟩:∃ q,q=putF w22 g4 n y:=⟨_,rfl⟩
  change K _ (putF w22 g4 n y);rw[<-hww4];refine hK.out _ _ ?_;clear hK K z0 z1 z2 z3 z4 fz0 fz1 fz2 fz3 fz4;have hothA:∀ k,k<w22.heap.size->k≠g4->w24.heap[k]?=w22.heap[k]?:=fun k h1 h2=>by rw[hww4];exact (putF_grown w22 g4 n y).block k h1 (fun e=>by injection e with e;exact h2 e)
  have HWW4:=Lib.hid hww4;clear hww4;refine⟨by kernel_rfl,?_⟩;have hfB:Fr 29 w6 w22:=.of_grown hgB (fun j hj=>by injection hj with hj;subst hj;exact⟨_,hobW,n32_F⟩);have hrB:=hrow6.other2 hgB (fun j hj e=>hog (by have hj2:g4=j:=(by simpa [Value.ownBlock] using hj);omega)) hfB trivial;obtain⟨hr8,hfA⟩:=Row.setF hrB n (by simp[<-HN.out]) (by simp[<-HN.out]) y HWW4.out;have hgA:w22.grownBy w24 (some g4):=by rw[HWW4.out];exact putF_grown _ _ _ _
  have ho8:=(hothA ko (lt_of_block hobN) hog).trans hobN;have hsz8:w6.heap.size<=w24.heap.size:=Nat.le_trans hgB.size hgA.size;have hoth8:∀ k,k<w6.heap.size->k≠g4->k≠ko->w24.heap[k]?=w6.heap[k]?:=fun k h1 h2 h3=>(hothA k (Nat.lt_of_lt_of_le h1 hgB.size) h2).trans (hothB k h1 h3)
  have hkn8:KN w6 w24:=(KN.of_fr hfB).trans (KN.of_fr hfA);have hmt:w24.os=w6.os/\w24.tape=w6.tape/\w24.output=w6.output:=⟨hgA.os.trans hgB.os,hgA.tape.trans hgB.tape,hgA.output.trans hgB.output⟩
  rw[set_last us y HN.out] at hr8
  go_end0
  have hN:=HN.out;subst hN;exact⟨⟨_,rfl⟩,t,_,_,HST.out,HS0.out.next HB5.out hcur hyT hyG hfr6 hg6 hfresh6 hr8 ho8 hoth8 hkn8 hmt.1 hmt.2.1 hmt.2.2 hsz8⟩
 have hil:¬ ((i:Nat):Int)<((xkl:Nat):Int):=by omega
 have HBE:=Lib.hid HS0.out.be;have HYR:Hid (RawF w d zRU):=Lib.hid (raw_zero w d);go_upto_region 3 with fail
 clear f0 ff0 f1 ff1 f2 ff2 f3 ff3 f4 ff4;have hlt_o:=lt_of_block HBo.out;have hlt_x:=lt_of_block HBx.out;have hlt_d:=lt_of_block HBd.out;have hog:Hid (∀ q,q<0->(fun q=>0) q<x1.heap.size):=Lib.hid (fun q h=>absurd h (Nat.not_lt_zero _));refine R7.region (by kernel_rfl) [[],[0],[],[],[],[4],[2,3,4,5],[0,1],[],[0,1,2,3,4,5,6,7,8],[0,1,2,3,4,5,6,7,8,9],[0,1,2,3,4,5,6,7,8,9,10],[0,1,2,3,4,5,6,7,8,9],[0,1,2,3,4,5,6,7,8,9,12]] [] [] (fun q=>0) 0 9 (by kernel_rfl) (by kernel_rfl) (by rfl) hog.out (fun q q' h h' hn=>absurd hn (by omega)) ?_;refine R7.Chain.det ?_ (by rfl) (fun T xs wr hA=>?_) ?_
 rotate_left 1
 ·have e3:=hA.pre 3 (by kernel_rfl);simp only[gsa,gsc,gsz] at e3;clear hA;refine⟨(by rfl),?_⟩;go_simp<;>(try with_reducible rfl)
 refine R7.Chain.det ?_ (by rfl) (fun T xs wr hA=>?_) ?_
 rotate_left 1
 ·have e19:=hA.tm 0 19 (by rfl) (by rfl);have f19:xs 0=_:=hA.fa 0 (by rfl)
  (try simp (disch:=first | rfl | decide) only [R7.mask_in] at f19)
  rw[f19] at e19;clear f19;have hBq:wr.heap[ko]?=_:=(hA.bl _ hlt_o (fun q h=>absurd h (Nat.not_lt_zero _))).trans HBo.out;have q0:=cell_at (v:=.int .i64 op) hBq 0 rfl;have q1:=cell_at (v:=.bool sg) hBq 1 rfl;have q2:=cell_at (v:=.slice ao l c) hBq 2 rfl;have q3:=cell_at (v:=.string nm) hBq 3 rfl;have q4:=cell_at (v:=.slice vo n vc) hBq 4 rfl;clear hBq;clear hA;refine⟨(by rfl),?_⟩;go_simp<;>(try with_reducible rfl)
 refine R7.Chain.det ?_ (by rfl) (fun T xs wr hA=>?_) ?_
 rotate_left 1
 ·have e7:=hA.pre 7 (by kernel_rfl);simp only[gsa,gsc,gsz] at e7;have hBq:wr.heap[kx]?=_:=(hA.bl _ hlt_x (fun q h=>absurd h (Nat.not_lt_zero _))).trans HBx.out;have q0:=cell_at (v:=.int .i64 0) hBq 0 rfl;have q1:=cell_at (v:=.bool false) hBq 1 rfl;have q2:=cell_at (v:=.slice none 0 0) hBq 2 rfl;have q3:=cell_at (v:=.string ⟨#[]⟩) hBq 3 rfl;have q4:=cell_at (v:=.slice none 0 0) hBq 4 rfl;clear hBq;clear hA;refine⟨(by rfl),?_⟩;go_simp<;>(try with_reducible rfl)
 refine R7.Chain.det ?_ (by rfl) (fun T xs wr hA=>?_) ?_
 rotate_left 1
 ·have e1:=hA.pre 1 (by kernel_rfl);simp only[gsa,gsc,gsz] at e1;clear hA;refine⟨(by rfl),?_⟩;go_simp<;>(try with_reducible rfl)
 refine R7.Chain.det ?_ (by rfl) (fun T xs wr hA=>?_) ?_
 rotate_left 1
 ·have e4:=hA.pre 4 (by kernel_rfl);simp only[gsa,gsc,gsz] at e4;have hBq:wr.heap[kd]?=_:=(hA.bl _ hlt_d (fun q h=>absurd h (Nat.not_lt_zero _))).trans HBd.out;have q0:=cell_at (v:=.int .i64 ((d:Nat)+1:Int)) hBq 0 rfl;clear hBq;clear hA;refine⟨(by rfl),?_⟩;go_simp<;>(try with_reducible rfl)
 refine R7.Chain.det ?_ (by rfl) (fun T xs wr hA=>?_) ?_
 rotate_left 1
 ·have e23:=hA.tm 4 23 (by rfl) (by rfl);have f23:xs 4=_:=hA.fa 4 (by rfl)
  (try simp (disch:=first | rfl | decide) only [R7.mask_in] at f23)
  rw[f23] at e23;clear f23;clear hA;refine⟨(by rfl),?_⟩;go_simp<;>(try with_reducible rfl)
 refine R7.Chain.call (fun xs v w=>∃ y t,v=fV y/\FT w (fun b=>x1.heap.size<=b) d y t/\rt t=true/\srt t.op=s/\Tm d t) (fun _ _ _ _ h hb=>by obtain⟨y,t,h1,h2,h3⟩:=h;exact⟨y,t,h1,h2.below hb,h3⟩) (fun _ _ _ _ _ _ h _=>by obtain⟨q,hq,_⟩:=h;exact absurd hq (Nat.not_lt_zero _)) (by rfl) (fun T xs wr hA=>?_) ?_
 ·have hsw:=(hA.be 0 (Nat.zero_le _) (fun _ _=>Nat.zero_le _)).size;have e21:=hA.tm 2 21 (by rfl) (by rfl);have f21:xs 2=_:=hA.fa 2 (by rfl)
  (try simp (disch:=first | rfl | decide) only [R7.mask_in] at f21)
  rw[f21] at e21;clear f21;have e22:=hA.tm 3 22 (by rfl) (by rfl);have f22:xs 3=_:=hA.fa 3 (by rfl)
  (try simp (disch:=first | rfl | decide) only [R7.mask_in] at f22)
  rw[f22] at e22;clear f22;have e24:=hA.tm 5 24 (by rfl) (by rfl);have f24:xs 5=_:=hA.fa 5 (by rfl)
  (try simp (disch:=first | rfl | decide) only [R7.mask_in] at f24)
  rw[f24] at e24;clear f24;have hbw:=undrew (hA.be x1.heap.size (Nat.le_refl _) (fun q h=>absurd h (Nat.not_lt_zero q)));have hraw:=HYR.out.below ((HBE.out.trans (HW.out.mono HBE.out.size)).trans (hbw.mono (Nat.le_trans HBE.out.size HW.out.size)));clear hA;refine⟨(by rfl),fun K hK=>?_⟩;go_simp
  refine (HIT.out s _ _ _ _ _ _ _ _ _ _ HSS.out hraw).mono ?_;rintro e w' ⟨q,t,rfl,⟨y,rfl,hy⟩,h2,h3,h4,hb'⟩;exact hK.out _ _ ⟨y,t,rfl,hy.mono (fun b hb=>Nat.le_trans hbw.size hb),h2,h3,h4⟩ hb'
 refine R7.Chain.det ?_ (by rfl) (fun T xs wr hA=>?_) ?_
 rotate_left 1
 ·have e20:=hA.tm 1 20 (by rfl) (by rfl);have f20:xs 1=_:=hA.fa 1 (by rfl)
  (try simp (disch:=first | rfl | decide) only [R7.mask_in] at f20)
  rw[f20] at e20;clear f20;clear hA;refine⟨(by rfl),?_⟩;go_simp<;>(try with_reducible rfl)
 refine R7.Chain.call (fun xs v w=>∃ g,v=.slice (some ⟨g,0,none⟩) 1 1/\x1.heap.size<=g/\w.heap[g]?=some (.cells #[.int .i64 0,.bool false,.slice none 0 0,.string ⟨#[]⟩,.slice none 0 0] 29 (0,0))) (fun _ _ _ _ ⟨g,hv,hl,hg⟩ hb=>⟨g,hv,hl,by rw[hb.block g (Array.getElem?_eq_some_iff.1 hg).1];exact hg⟩) (fun _ _ _ _ _ ⟨g,hv,hl,hg⟩ ⟨q,hq,e⟩ hp=>⟨g,hv,hl,by rw[hp.block g (Array.getElem?_eq_some_iff.1 hg).1 (fun h=>by have:=hog.out q hq;omega)];exact hg⟩) (by rfl) (fun T xs wr hA=>?_) ?_
 ·have hsw:=(hA.be 0 (Nat.zero_le _) (fun _ _=>Nat.zero_le _)).size;clear hA;refine⟨(by rfl),fun K hK=>?_⟩;go_simp
  exact hK.out _ _ ⟨_,rfl,hsw,by simpa using made_at wr _ _ rfl⟩ ((Below.refl _ _).alloc (Nat.le_refl _) _)
 refine R7.Chain.done (fun xs x2 hL=>?_);obtain⟨⟨hbe,hbl⟩,hf,-,-⟩:=hL;have f0:xs 0=_:=hf 0 (by decide)
 (try simp (disch:=first | rfl | decide) only [R7.mask_in] at f0)
 have f1:xs 1=_:=hf 1 (by decide)
 (try simp (disch:=first | rfl | decide) only [R7.mask_in] at f1)
 have f2:xs 2=_:=hf 2 (by decide)
 (try simp (disch:=first | rfl | decide) only [R7.mask_in] at f2)
 have f3:xs 3=_:=hf 3 (by decide)
 (try simp (disch:=first | rfl | decide) only [R7.mask_in] at f3)
 have f4:xs 4=_:=hf 4 (by decide)
 (try simp (disch:=first | rfl | decide) only [R7.mask_in] at f4)
 have f5:xs 5=_:=hf 5 (by decide)
 (try simp (disch:=first | rfl | decide) only [R7.mask_in] at f5)
 have F6:∃ y t,(xs 6)=fV y/\FT x2 (fun b=>x1.heap.size<=b) d y t/\rt t=true/\srt t.op=s/\Tm d t:=hf 6 (by decide);have f7:xs 7=_:=hf 7 (by decide)
 (try simp (disch:=first | rfl | decide) only [R7.mask_in] at f7)
 have F8:∃ g,(xs 8)=.slice (some ⟨g,0,none⟩) 1 1/\x1.heap.size<=g/\x2.heap[g]?=some (.cells #[.int .i64 0,.bool false,.slice none 0 0,.string ⟨#[]⟩,.slice none 0 0] 29 (0,0)):=hf 8 (by decide);have hb0:Below 0 x1 x2:=undrew (hbe 0 (Nat.zero_le _) (fun _ _=>Nat.zero_le _));have hgr:∀ j,j<x1.heap.size->(∀ q,q<0->(fun q=>0) q≠j)->x2.heap[j]?=x1.heap[j]?:=hbl;clear hbe hbl hf;have hb:Below x1.heap.size x1 x2:=⟨hb0.os,hb0.tape,hb0.output,hb0.size,fun q hq=>hgr q hq (fun q h=>absurd h (Nat.not_lt_zero _))⟩
 obtain⟨y,t,hv6,hyT,hyR,HSTx,hyM⟩:=F6;have HST:=Lib.hid HSTx;have hyG:=And.intro hyR hyM;obtain⟨gz,hv8,hgl,hgz⟩:=F8;unfold R7.Rest;simp only[R7.fill,t1_,t2_,t3_,t4_,t5_,t6_,t7_,hv6,hv8,fV,f0,f1,f2,f3,f4,f5,f7];clear hb0 hgr hog hv6 hv8 hyR hyM HSTx hlt_o hlt_x hlt_d f0 f1 f2 f3 f4 f5 f7;have HB5:=Lib.hid (HW.out.trans (hb.mono HW.out.size));have hcur:=HW.out.size;have hrow5:=HS0.out.row.below HB5.out;have hBsz:B<=x2.heap.size:=Nat.le_trans HS0.out.sz HB5.out.size;rw[<-HN.out] at hrow5;refine any_stepL [9] (by kernel_rfl) (by simp) (fun i hi=>?_);obtain rfl:i=9:=by simpa using hi
 refine⟨_,rfl,rfl,fun K hK=>?_⟩;refine fR_append hrow5 (.tmp 20) (.tmp 27) rfl rfl gz zFU rfl hgz (by rw[<-HN.out];omega) hBsz (fun g4 cap w6 hrow6 hfr6 hbl6 hg6 hfresh6 hn1 hn2=>?_);rw[<-HN.out] at hrow6 hn1 ⊢;refine hK.out _ _ ?_;clear hK K;have hlow:=HS0.out.low;have hob6:=(hbl6.block ko hlow.2.2.2).trans ((HB5.out.block ko (lt_of_block HBo0.out)).trans HBo0.out);have hgg:B<=g4:=(hrow6.ge rfl).1;have hog:ko≠g4:=by omega
 have hcells:=fun (W:World) (hW:∀ k,k<w6.heap.size->k≠ko->W.heap[k]?=w6.heap[k]?)=>row_zero hrow6 HN.out hog hW
 have hcapm:cap<=9223372036854775807:=hn2;have hI:(n:Int)<(n:Int)+1:=by omega
 refine any_stepL [10,12] (by kernel_rfl) (by simp) (fun i hi=>?_);rcases (by simpa using hi:i=10\/i=12) with rfl | rfl
 ·refine⟨_,rfl,rfl,fun K hK=>?_⟩;go_simp
  refine hK.out _ _ ?_;clear hK K;refine any_stepL [11,12] (by kernel_rfl) (by simp) (fun i hi=>?_);rcases (by simpa using hi:i=11\/i=12) with rfl | rfl
  ·refine⟨_,rfl,rfl,fun K hK=>?_⟩;obtain⟨⟨z0,z1,z2,z3,z4⟩,fz0,fz1,fz2,fz3,fz4⟩:=hcells w6 (fun k h1 h2=>rfl);go_simp
   obtain⟨w22,hww2⟩:∃ q,q=putF w6 g4 n y:=⟨_,rfl⟩
   change K _ (putF w6 g4 n y);rw[<-hww2];refine hK.out _ _ ?_;clear hK K z0 z1 z2 z3 z4 fz0 fz1 fz2 fz3 fz4;have hothA:∀ k,k<w6.heap.size->k≠g4->w22.heap[k]?=w6.heap[k]?:=fun k h1 h2=>by rw[hww2];exact (putF_grown w6 g4 n y).block k h1 (fun e=>by injection e with e;exact h2 e)
   have HWW2:=Lib.hid hww2;clear hww2;refine any_stepL [12] (by kernel_rfl) (by simp) (fun i hi=>?_);obtain rfl:i=12:=by simpa using hi
   refine⟨_,rfl,rfl,fun K hK=>?_⟩;go_simp
   refine hK.out _ _ ?_;clear hK K;refine any_stepL [13] (by kernel_rfl) (by simp) (fun i hi=>?_);obtain rfl:i=13:=by simpa using hi
   refine⟨_,rfl,rfl,fun K hK=>?_⟩;have hobW:=((hothA ko (lt_of_block hob6) hog).trans hob6)
   have oc4:=cell_at (v:=.slice vo n vc) hobW 4 rfl;have fo4:=froz_at hobW 4;go_simp
   obtain⟨w24,hwx4⟩:∃ q,q=w22.setCell ⟨ko,4,none⟩ (.slice (some ⟨g4,0,none⟩) (n+1) cap):=⟨_,rfl⟩
   rw[<-hwx4];refine hK.out _ _ ?_;clear hK K oc4 fo4;have hobN:w24.heap[ko]?=some (.cells #[.int .i64 op,.bool sg,.slice ao l c,.string nm,.slice (some ⟨g4,0,none⟩) (n+1) cap] 29 (0,0)):=by rw[hwx4];exact heap_setCell_same _ ko 4 _ _ _ hobW
   have hgB:w22.grownBy w24 (some ko):=by rw[hwx4];exact grown_setCell (World.grownBy.refl _ _) _
   have hothB:∀ k,k<w22.heap.size->k≠ko->w24.heap[k]?=w22.heap[k]?:=fun k h1 h2=>hgB.block k h1 (fun e=>by injection e with e;exact h2 e)
   clear hwx4;refine⟨by kernel_rfl,?_⟩;obtain⟨hrA,hfA⟩:=Row.setF hrow6 n (by simp[<-HN.out]) (by simp[<-HN.out]) y HWW2.out;have hfB:Fr 29 w22 w24:=.of_grown hgB (fun j hj=>by injection hj with hj;subst hj;exact⟨_,hobW,n32_F⟩);have hr8:=hrA.other2 hgB (fun j hj e=>hog (by have hj2:g4=j:=(by simpa [Value.ownBlock] using hj);omega)) hfB trivial;have ho8:=hobN;have hsz8:w6.heap.size<=w24.heap.size:=Nat.le_trans (by rw[HWW2.out];exact (putF_grown w6 g4 n y).size) hgB.size;have hoth8:∀ k,k<w6.heap.size->k≠g4->k≠ko->w24.heap[k]?=w6.heap[k]?:=fun k h1 h2 h3=>(hothB k (Nat.lt_of_lt_of_le h1 (by rw[HWW2.out];exact (putF_grown w6 g4 n y).size)) h3).trans (hothA k h1 h2)
   have hkn8:KN w6 w24:=(KN.of_fr hfA).trans (KN.of_fr hfB);have hgA:w6.grownBy w22 (some g4):=by rw[HWW2.out];exact putF_grown _ _ _ _
   have hmt:w24.os=w6.os/\w24.tape=w6.tape/\w24.output=w6.output:=⟨hgB.os.trans hgA.os,hgB.tape.trans hgA.tape,hgB.output.trans hgA.output⟩
   rw[set_last us y HN.out] at hr8
   go_end0
   have hN:=HN.out;subst hN;exact⟨⟨_,rfl⟩,t,_,_,HST.out,HS0.out.next HB5.out hcur hyT hyG hfr6 hg6 hfresh6 hr8 ho8 hoth8 hkn8 hmt.1 hmt.2.1 hmt.2.2 hsz8⟩
  refine⟨_,rfl,rfl,fun K hK=>?_⟩;go_simp
  refine hK.out _ _ ?_;clear hK K;refine any_stepL [11,13] (by kernel_rfl) (by simp) (fun i hi=>?_);rcases (by simpa using hi:i=11\/i=13) with rfl | rfl
  ·refine⟨_,rfl,rfl,fun K hK=>?_⟩;obtain⟨⟨z0,z1,z2,z3,z4⟩,fz0,fz1,fz2,fz3,fz4⟩:=hcells w6 (fun k h1 h2=>rfl);go_simp
   obtain⟨w23,hww3⟩:∃ q,q=putF w6 g4 n y:=⟨_,rfl⟩
   change K _ (putF w6 g4 n y);rw[<-hww3];refine hK.out _ _ ?_;clear hK K z0 z1 z2 z3 z4 fz0 fz1 fz2 fz3 fz4;have hothA:∀ k,k<w6.heap.size->k≠g4->w23.heap[k]?=w6.heap[k]?:=fun k h1 h2=>by rw[hww3];exact (putF_grown w6 g4 n y).block k h1 (fun e=>by injection e with e;exact h2 e)
   have HWW3:=Lib.hid hww3;clear hww3;refine any_stepL [13] (by kernel_rfl) (by simp) (fun i hi=>?_);obtain rfl:i=13:=by simpa using hi
   refine⟨_,rfl,rfl,fun K hK=>?_⟩;have hobW:=((hothA ko (lt_of_block hob6) hog).trans hob6)
   have oc4:=cell_at (v:=.slice vo n vc) hobW 4 rfl;have fo4:=froz_at hobW 4;go_simp
   obtain⟨w24,hwx4⟩:∃ q,q=w23.setCell ⟨ko,4,none⟩ (.slice (some ⟨g4,0,none⟩) (n+1) cap):=⟨_,rfl⟩
   rw[<-hwx4];refine hK.out _ _ ?_;clear hK K oc4 fo4;have hobN:w24.heap[ko]?=some (.cells #[.int .i64 op,.bool sg,.slice ao l c,.string nm,.slice (some ⟨g4,0,none⟩) (n+1) cap] 29 (0,0)):=by rw[hwx4];exact heap_setCell_same _ ko 4 _ _ _ hobW
   have hgB:w23.grownBy w24 (some ko):=by rw[hwx4];exact grown_setCell (World.grownBy.refl _ _) _
   have hothB:∀ k,k<w23.heap.size->k≠ko->w24.heap[k]?=w23.heap[k]?:=fun k h1 h2=>hgB.block k h1 (fun e=>by injection e with e;exact h2 e)
   clear hwx4;refine⟨by kernel_rfl,?_⟩;obtain⟨hrA,hfA⟩:=Row.setF hrow6 n (by simp[<-HN.out]) (by simp[<-HN.out]) y HWW3.out;have hfB:Fr 29 w23 w24:=.of_grown hgB (fun j hj=>by injection hj with hj;subst hj;exact⟨_,hobW,n32_F⟩);have hr8:=hrA.other2 hgB (fun j hj e=>hog (by have hj2:g4=j:=(by simpa [Value.ownBlock] using hj);omega)) hfB trivial;have ho8:=hobN;have hsz8:w6.heap.size<=w24.heap.size:=Nat.le_trans (by rw[HWW3.out];exact (putF_grown w6 g4 n y).size) hgB.size;have hoth8:∀ k,k<w6.heap.size->k≠g4->k≠ko->w24.heap[k]?=w6.heap[k]?:=fun k h1 h2 h3=>(hothB k (Nat.lt_of_lt_of_le h1 (by rw[HWW3.out];exact (putF_grown w6 g4 n y).size)) h3).trans (hothA k h1 h2)
   have hkn8:KN w6 w24:=(KN.of_fr hfA).trans (KN.of_fr hfB);have hgA:w6.grownBy w23 (some g4):=by rw[HWW3.out];exact putF_grown _ _ _ _
   have hmt:w24.os=w6.os/\w24.tape=w6.tape/\w24.output=w6.output:=⟨hgB.os.trans hgA.os,hgB.tape.trans hgA.tape,hgB.output.trans hgA.output⟩
   rw[set_last us y HN.out] at hr8
   go_end0
   have hN:=HN.out;subst hN;exact⟨⟨_,rfl⟩,t,_,_,HST.out,HS0.out.next HB5.out hcur hyT hyG hfr6 hg6 hfresh6 hr8 ho8 hoth8 hkn8 hmt.1 hmt.2.1 hmt.2.2 hsz8⟩
  refine⟨_,rfl,rfl,fun K hK=>?_⟩;have hobW:=hob6;have oc4:=cell_at (v:=.slice vo n vc) hobW 4 rfl;have fo4:=froz_at hobW 4;go_simp
  obtain⟨w23,hwx3⟩:∃ q,q=w6.setCell ⟨ko,4,none⟩ (.slice (some ⟨g4,0,none⟩) (n+1) cap):=⟨_,rfl⟩
  rw[<-hwx3];refine hK.out _ _ ?_;clear hK K oc4 fo4;have hobN:w23.heap[ko]?=some (.cells #[.int .i64 op,.bool sg,.slice ao l c,.string nm,.slice (some ⟨g4,0,none⟩) (n+1) cap] 29 (0,0)):=by rw[hwx3];exact heap_setCell_same _ ko 4 _ _ _ hobW
  have hgB:w6.grownBy w23 (some ko):=by rw[hwx3];exact grown_setCell (World.grownBy.refl _ _) _
  have hothB:∀ k,k<w6.heap.size->k≠ko->w23.heap[k]?=w6.heap[k]?:=fun k h1 h2=>hgB.block k h1 (fun e=>by injection e with e;exact h2 e)
  clear hwx3;refine any_stepL [11] (by kernel_rfl) (by simp) (fun i hi=>?_);obtain rfl:i=11:=by simpa using hi
  refine⟨_,rfl,rfl,fun K hK=>?_⟩;obtain⟨⟨z0,z1,z2,z3,z4⟩,fz0,fz1,fz2,fz3,fz4⟩:=hcells w23 hothB;go_simp
  obtain⟨w24,hww4⟩:∃ q,q=putF w23 g4 n y:=⟨_,rfl⟩
  change K _ (putF w23 g4 n y);rw[<-hww4];refine hK.out _ _ ?_;clear hK K z0 z1 z2 z3 z4 fz0 fz1 fz2 fz3 fz4;have hothA:∀ k,k<w23.heap.size->k≠g4->w24.heap[k]?=w23.heap[k]?:=fun k h1 h2=>by rw[hww4];exact (putF_grown w23 g4 n y).block k h1 (fun e=>by injection e with e;exact h2 e)
  have HWW4:=Lib.hid hww4;clear hww4;refine⟨by kernel_rfl,?_⟩;have hfB:Fr 29 w6 w23:=.of_grown hgB (fun j hj=>by injection hj with hj;subst hj;exact⟨_,hobW,n32_F⟩);have hrB:=hrow6.other2 hgB (fun j hj e=>hog (by have hj2:g4=j:=(by simpa [Value.ownBlock] using hj);omega)) hfB trivial;obtain⟨hr8,hfA⟩:=Row.setF hrB n (by simp[<-HN.out]) (by simp[<-HN.out]) y HWW4.out;have hgA:w23.grownBy w24 (some g4):=by rw[HWW4.out];exact putF_grown _ _ _ _
  have ho8:=(hothA ko (lt_of_block hobN) hog).trans hobN;have hsz8:w6.heap.size<=w24.heap.size:=Nat.le_trans hgB.size hgA.size;have hoth8:∀ k,k<w6.heap.size->k≠g4->k≠ko->w24.heap[k]?=w6.heap[k]?:=fun k h1 h2 h3=>(hothA k (Nat.lt_of_lt_of_le h1 hgB.size) h2).trans (hothB k h1 h3)
  have hkn8:KN w6 w24:=(KN.of_fr hfB).trans (KN.of_fr hfA);have hmt:w24.os=w6.os/\w24.tape=w6.tape/\w24.output=w6.output:=⟨hgA.os.trans hgB.os,hgA.tape.trans hgB.tape,hgA.output.trans hgB.output⟩
  rw[set_last us y HN.out] at hr8
  go_end0
  have hN:=HN.out;subst hN;exact⟨⟨_,rfl⟩,t,_,_,HST.out,HS0.out.next HB5.out hcur hyT hyG hfr6 hg6 hfresh6 hr8 ho8 hoth8 hkn8 hmt.1 hmt.2.1 hmt.2.2 hsz8⟩
 refine⟨_,rfl,rfl,fun K hK=>?_⟩;go_simp
 refine hK.out _ _ ?_;clear hK K;refine any_stepL [10,13] (by kernel_rfl) (by simp) (fun i hi=>?_);rcases (by simpa using hi:i=10\/i=13) with rfl | rfl
 ·refine⟨_,rfl,rfl,fun K hK=>?_⟩;go_simp
  refine hK.out _ _ ?_;clear hK K;refine any_stepL [11,13] (by kernel_rfl) (by simp) (fun i hi=>?_);rcases (by simpa using hi:i=11\/i=13) with rfl | rfl
  ·refine⟨_,rfl,rfl,fun K hK=>?_⟩;obtain⟨⟨z0,z1,z2,z3,z4⟩,fz0,fz1,fz2,fz3,fz4⟩:=hcells w6 (fun k h1 h2=>rfl);go_simp
   obtain⟨w23,hww3⟩:∃ q,q=putF w6 g4 n y:=⟨_,rfl⟩
   change K _ (putF w6 g4 n y);rw[<-hww3];refine hK.out _ _ ?_;clear hK K z0 z1 z2 z3 z4 fz0 fz1 fz2 fz3 fz4;have hothA:∀ k,k<w6.heap.size->k≠g4->w23.heap[k]?=w6.heap[k]?:=fun k h1 h2=>by rw[hww3];exact (putF_grown w6 g4 n y).block k h1 (fun e=>by injection e with e;exact h2 e)
   have HWW3:=Lib.hid hww3;clear hww3;refine any_stepL [13] (by kernel_rfl) (by simp) (fun i hi=>?_);obtain rfl:i=13:=by simpa using hi
   refine⟨_,rfl,rfl,fun K hK=>?_⟩;have hobW:=((hothA ko (lt_of_block hob6) hog).trans hob6)
   have oc4:=cell_at (v:=.slice vo n vc) hobW 4 rfl;have fo4:=froz_at hobW 4;go_simp
   obtain⟨w24,hwx4⟩:∃ q,q=w23.setCell ⟨ko,4,none⟩ (.slice (some ⟨g4,0,none⟩) (n+1) cap):=⟨_,rfl⟩
   rw[<-hwx4];refine hK.out _ _ ?_;clear hK K oc4 fo4;have hobN:w24.heap[ko]?=some (.cells #[.int .i64 op,.bool sg,.slice ao l c,.string nm,.slice (some ⟨g4,0,none⟩) (n+1) cap] 29 (0,0)):=by rw[hwx4];exact heap_setCell_same _ ko 4 _ _ _ hobW
   have hgB:w23.grownBy w24 (some ko):=by rw[hwx4];exact grown_setCell (World.grownBy.refl _ _) _
   have hothB:∀ k,k<w23.heap.size->k≠ko->w24.heap[k]?=w23.heap[k]?:=fun k h1 h2=>hgB.block k h1 (fun e=>by injection e with e;exact h2 e)
   clear hwx4;refine⟨by kernel_rfl,?_⟩;obtain⟨hrA,hfA⟩:=Row.setF hrow6 n (by simp[<-HN.out]) (by simp[<-HN.out]) y HWW3.out;have hfB:Fr 29 w23 w24:=.of_grown hgB (fun j hj=>by injection hj with hj;subst hj;exact⟨_,hobW,n32_F⟩);have hr8:=hrA.other2 hgB (fun j hj e=>hog (by have hj2:g4=j:=(by simpa [Value.ownBlock] using hj);omega)) hfB trivial;have ho8:=hobN;have hsz8:w6.heap.size<=w24.heap.size:=Nat.le_trans (by rw[HWW3.out];exact (putF_grown w6 g4 n y).size) hgB.size;have hoth8:∀ k,k<w6.heap.size->k≠g4->k≠ko->w24.heap[k]?=w6.heap[k]?:=fun k h1 h2 h3=>(hothB k (Nat.lt_of_lt_of_le h1 (by rw[HWW3.out];exact (putF_grown w6 g4 n y).size)) h3).trans (hothA k h1 h2)
   have hkn8:KN w6 w24:=(KN.of_fr hfA).trans (KN.of_fr hfB);have hgA:w6.grownBy w23 (some g4):=by rw[HWW3.out];exact putF_grown _ _ _ _
   have hmt:w24.os=w6.os/\w24.tape=w6.tape/\w24.output=w6.output:=⟨hgB.os.trans hgA.os,hgB.tape.trans hgA.tape,hgB.output.trans hgA.output⟩
   rw[set_last us y HN.out] at hr8
   go_end0
   have hN:=HN.out;subst hN;exact⟨⟨_,rfl⟩,t,_,_,HST.out,HS0.out.next HB5.out hcur hyT hyG hfr6 hg6 hfresh6 hr8 ho8 hoth8 hkn8 hmt.1 hmt.2.1 hmt.2.2 hsz8⟩
  refine⟨_,rfl,rfl,fun K hK=>?_⟩;have hobW:=hob6;have oc4:=cell_at (v:=.slice vo n vc) hobW 4 rfl;have fo4:=froz_at hobW 4;go_simp
  obtain⟨w23,hwx3⟩:∃ q,q=w6.setCell ⟨ko,4,none⟩ (.slice (some ⟨g4,0,none⟩) (n+1) cap):=⟨_,rfl⟩
  rw[<-hwx3];refine hK.out _ _ ?_;clear hK K oc4 fo4;have hobN:w23.heap[ko]?=some (.cells #[.int .i64 op,.bool sg,.slice ao l c,.string nm,.slice (some ⟨g4,0,none⟩) (n+1) cap] 29 (0,0)):=by rw[hwx3];exact heap_setCell_same _ ko 4 _ _ _ hobW
  have hgB:w6.grownBy w23 (some ko):=by rw[hwx3];exact grown_setCell (World.grownBy.refl _ _) _
  have hothB:∀ k,k<w6.heap.size->k≠ko->w23.heap[k]?=w6.heap[k]?:=fun k h1 h2=>hgB.block k h1 (fun e=>by injection e with e;exact h2 e)
  clear hwx3;refine any_stepL [11] (by kernel_rfl) (by simp) (fun i hi=>?_);obtain rfl:i=11:=by simpa using hi
  refine⟨_,rfl,rfl,fun K hK=>?_⟩;obtain⟨⟨z0,z1,z2,z3,z4⟩,fz0,fz1,fz2,fz3,fz4⟩:=hcells w23 hothB;go_simp
  obtain⟨w24,hww4⟩:∃ q,q=putF w23 g4 n y:=⟨_,rfl⟩
  change K _ (putF w23 g4 n y);rw[<-hww4];refine hK.out _ _ ?_;clear hK K z0 z1 z2 z3 z4 fz0 fz1 fz2 fz3 fz4;have hothA:∀ k,k<w23.heap.size->k≠g4->w24.heap[k]?=w23.heap[k]?:=fun k h1 h2=>by rw[hww4];exact (putF_grown w23 g4 n y).block k h1 (fun e=>by injection e with e;exact h2 e)
  have HWW4:=Lib.hid hww4;clear hww4;refine⟨by kernel_rfl,?_⟩;have hfB:Fr 29 w6 w23:=.of_grown hgB (fun j hj=>by injection hj with hj;subst hj;exact⟨_,hobW,n32_F⟩);have hrB:=hrow6.other2 hgB (fun j hj e=>hog (by have hj2:g4=j:=(by simpa [Value.ownBlock] using hj);omega)) hfB trivial;obtain⟨hr8,hfA⟩:=Row.setF hrB n (by simp[<-HN.out]) (by simp[<-HN.out]) y HWW4.out;have hgA:w23.grownBy w24 (some g4):=by rw[HWW4.out];exact putF_grown _ _ _ _
  have ho8:=(hothA ko (lt_of_block hobN) hog).trans hobN;have hsz8:w6.heap.size<=w24.heap.size:=Nat.le_trans hgB.size hgA.size;have hoth8:∀ k,k<w6.heap.size->k≠g4->k≠ko->w24.heap[k]?=w6.heap[k]?:=fun k h1 h2 h3=>(hothA k (Nat.lt_of_lt_of_le h1 hgB.size) h2).trans (hothB k h1 h3)
  have hkn8:KN w6 w24:=(KN.of_fr hfB).trans (KN.of_fr hfA);have hmt:w24.os=w6.os/\w24.tape=w6.tape/\w24.output=w6.output:=⟨hgA.os.trans hgB.os,hgA.tape.trans hgB.tape,hgA.output.trans hgB.output⟩
  rw[set_last us y HN.out] at hr8
  go_end0
  have hN:=HN.out;subst hN;exact⟨⟨_,rfl⟩,t,_,_,HST.out,HS0.out.next HB5.out hcur hyT hyG hfr6 hg6 hfresh6 hr8 ho8 hoth8 hkn8 hmt.1 hmt.2.1 hmt.2.2 hsz8⟩
 refine⟨_,rfl,rfl,fun K hK=>?_⟩;have hobW:=hob6;have oc4:=cell_at (v:=.slice vo n vc) hobW 4 rfl;have fo4:=froz_at hobW 4;go_simp
 obtain⟨w22,hwx2⟩:∃ q,q=w6.setCell ⟨ko,4,none⟩ (.slice (some ⟨g4,0,none⟩) (n+1) cap):=⟨_,rfl⟩
 rw[<-hwx2];refine hK.out _ _ ?_;clear hK K oc4 fo4;have hobN:w22.heap[ko]?=some (.cells #[.int .i64 op,.bool sg,.slice ao l c,.string nm,.slice (some ⟨g4,0,none⟩) (n+1) cap] 29 (0,0)):=by rw[hwx2];exact heap_setCell_same _ ko 4 _ _ _ hobW
 have hgB:w6.grownBy w22 (some ko):=by rw[hwx2];exact grown_setCell (World.grownBy.refl _ _) _
 have hothB:∀ k,k<w6.heap.size->k≠ko->w22.heap[k]?=w6.heap[k]?:=fun k h1 h2=>hgB.block k h1 (fun e=>by injection e with e;exact h2 e)
 clear hwx2;refine any_stepL [10] (by kernel_rfl) (by simp) (fun i hi=>?_);obtain rfl:i=10:=by simpa using hi
 refine⟨_,rfl,rfl,fun K hK=>?_⟩;go_simp
 refine hK.out _ _ ?_;clear hK K;refine any_stepL [11] (by kernel_rfl) (by simp) (fun i hi=>?_);obtain rfl:i=11:=by simpa using hi
 refine⟨_,rfl,rfl,fun K hK=>?_⟩;obtain⟨⟨z0,z1,z2,z3,z4⟩,fz0,fz1,fz2,fz3,fz4⟩:=hcells w22 hothB;go_simp
 obtain⟨w24,hww4⟩:∃ q,q=putF w22 g4 n y:=⟨_,rfl⟩
 change K _ (putF w22 g4 n y);rw[<-hww4];refine hK.out _ _ ?_;clear hK K z0 z1 z2 z3 z4 fz0 fz1 fz2 fz3 fz4;have hothA:∀ k,k<w22.heap.size->k≠g4->w24.heap[k]?=w22.heap[k]?:=fun k h1 h2=>by rw[hww4];exact (putF_grown w22 g4 n y).block k h1 (fun e=>by injection e with e;exact h2 e)
 have HWW4:=Lib.hid hww4;clear hww4;refine⟨by kernel_rfl,?_⟩;have hfB:Fr 29 w6 w22:=.of_grown hgB (fun j hj=>by injection hj with hj;subst hj;exact⟨_,hobW,n32_F⟩);have hrB:=hrow6.other2 hgB (fun j hj e=>hog (by have hj2:g4=j:=(by simpa [Value.ownBlock] using hj);omega)) hfB trivial;obtain⟨hr8,hfA⟩:=Row.setF hrB n (by simp[<-HN.out]) (by simp[<-HN.out]) y HWW4.out;have hgA:w22.grownBy w24 (some g4):=by rw[HWW4.out];exact putF_grown _ _ _ _
 have ho8:=(hothA ko (lt_of_block hobN) hog).trans hobN;have hsz8:w6.heap.size<=w24.heap.size:=Nat.le_trans hgB.size hgA.size;have hoth8:∀ k,k<w6.heap.size->k≠g4->k≠ko->w24.heap[k]?=w6.heap[k]?:=fun k h1 h2 h3=>(hothA k (Nat.lt_of_lt_of_le h1 hgB.size) h2).trans (hothB k h1 h3)
 have hkn8:KN w6 w24:=(KN.of_fr hfB).trans (KN.of_fr hfA);have hmt:w24.os=w6.os/\w24.tape=w6.tape/\w24.output=w6.output:=⟨hgA.os.trans hgB.os,hgA.tape.trans hgB.tape,hgA.output.trans hgB.output⟩
 rw[set_last us y HN.out] at hr8
 go_end0
 have hN:=HN.out;subst hN;exact⟨⟨_,rfl⟩,t,_,_,HST.out,HS0.out.next HB5.out hcur hyT hyG hfr6 hg6 hfresh6 hr8 ho8 hoth8 hkn8 hmt.1 hmt.2.1 hmt.2.2 hsz8⟩
theorem and_mask (x:Int) (m:Nat) (hm:m<9223372036854775808):∃ K:Nat,bits BinOp.and IntKind.i64 x (m:Nat)=(K:Int)/\K<=m:=by
 refine⟨(BitVec.ofInt 64 x).toNat &&& m,?_,Nat.and_le_right⟩;have h1:(BitVec.ofInt 64 x).toNat &&& m<=m:=Nat.and_le_right;have h2:m % 2 ^ 64=m:=Nat.mod_eq_of_lt (Nat.lt_trans hm (by decide))
 have h3:bits BinOp.and IntKind.i64 x (m:Nat)=IntKind.i64.wrap (((BitVec.ofInt 64 x).toNat &&& m:Nat):Int):=by
  show IntKind.i64.wrap (((BitVec.ofInt 64 x) &&& (BitVec.ofInt 64 (m:Int))).toNat:Int)=_
  rw[BitVec.ofInt_natCast,BitVec.toNat_and,BitVec.toNat_ofNat,h2]
 rw[h3,IntKind.wrap_i64];generalize (BitVec.ofInt 64 x).toNat &&& m=q at h1 ⊢
 omega
theorem and_255 (x:Int):∃ K:Nat,bits BinOp.and IntKind.i64 x 255=(K:Int)/\K<=255:=and_mask x 255 (by decide)
theorem TSt.fl {w:World} {B kf kd kr ko:Nat} {x:RU} {dd op:Int} {sg:Bool} {ao:Option Addr} {l c:Nat} {nm:ByteArray} {z:Int} {d:Nat} {ts:List F} {v:Value} {us:List FU} {wr:World} (h:TSt w B kf kd kr ko x dd op sg ao l c nm z d ts v us wr):FL wr (fun b=>B<=b) d v ts:=by
 obtain⟨vo,vc,hv,h1,h2,h3⟩:=h.row.form;have hz:(us.zip ts).length=us.length:=by rw[List.length_zip,h.len,Nat.min_self]
 refine⟨us.zip ts,⟨vo,vc,by rw[hz];exact hv,⟨by rw[hz];exact h1,h2,h3⟩,fun _ a ha=>?_,fun i hi=>?_⟩,List.map_snd_zip (by rw[h.len];exact Nat.le_refl _)⟩
 ·have:=(h.row.ge (j:=a.block) (by rw[hv,ha];rfl)).1;exact this
 have hi1:i<us.length:=by rw[hz] at hi;exact hi
 have hi2:i<ts.length:=by rw[<-h.len];exact hi1
 have ho:=h.row.own;rw[hv] at ho;rw[List.getElem_zip];exact⟨own_atF fC (fun _=>rfl) rfl ho i hi1,(h.tr i hi1 hi2).mono fun b hb=>hb.1⟩
theorem TSt.zero {w:World} {B kf kd kr ko:Nat} {x:RU} {dd op:Int} {sg:Bool} {ao:Option Addr} {l c:Nat} {nm:ByteArray} {z:Int} {d:Nat} {wr:World} (ho:wr.heap[ko]?=some (.cells #[.int .i64 op,.bool sg,.slice ao l c,.string nm,.slice none 0 0] 29 (0,0)))
  (hf:wr.heap[kf]?=some (.cells #[.int .i64 x.o,.bool x.b,.slice x.ao x.l x.c,.string x.nm,.slice x.ko x.kl x.kc] 29 (0,0))) (hd:wr.heap[kd]?=some (.cells #[.int .i64 dd] 3 (0,0))) (hr:wr.heap[kr]?=some (.cells #[.int .i64 0,.bool false,.slice none 0 0,.string ⟨#[]⟩,.slice none 0 0] 29 (0,0)))
  (hz:CI wr (.agg #[.bool sg,.slice ao l c]) z 600) (low:kf<B/\kd<B/\kr<B/\ko<B) (dis:kf≠ko/\kd≠ko/\kr≠ko) (hi:w.heap.size<=ko) (be:Below w.heap.size w wr) (sz:B<=wr.heap.size):TSt w B kf kd kr ko x dd op sg ao l c nm z d [] (.slice none 0 0) [] wr:=
 ⟨ho,hf,hd,hr,hz,El.Row.nil _ _,rfl,fun q h=>absurd h (Nat.not_lt_zero q),fun t ht=>(by cases ht),low,dis,hi,be,sz⟩
theorem TSt.fin {w:World} {B kf kd kr ko:Nat} {x:RU} {dd op:Int} {sg:Bool} {ao:Option Addr} {l c:Nat} {nm:ByteArray} {z:Int} {d:Nat} {ts:List F} {v:Value} {us:List FU} {wr w':World} (h:TSt w B kf kd kr ko x dd op sg ao l c nm z d ts v us wr) (hg:wr.grownBy w' (some kr)) (hf:Fr 29 wr w') (hop:IR op) (hB:w.heap.size<=B) (hkr:w.heap.size<=kr)
  (hnm:NmOk op nm) (hzb:z.natAbs<L32 ^ 4) (hz0:op≠0->op≠3->op≠5->z=0) (hl:ts.length<=3) (hfit:fitF op z (srts ts)=true) :
  FC w' (fun b=>w.heap.size<=b) (d+1) (.agg #[.int .i64 op,.bool sg,.slice ao l c,.string nm,v]) (.node op z nm ts)/\rt (.node op z nm ts)=true/\Tm (d+1) (.node op z nm ts)/\Below w.heap.size w w':=by
 have hfl:=h.fl;obtain⟨vo,vc,hv,-⟩:=h.row.form;subst hv;have hk:=h.low.2.2.1;refine⟨FC.mk hop (h.hz.fr hf) ((hfl.grown hg (KN.of_fr hf) (fun b hb e=>by injection e with e;have hb2:B<=b:=hb;omega)).mono fun b hb=>Nat.le_trans hB hb),?_,?_,ext_below h.be hg hkr⟩
 ·rw[rt,hfit,rts_all,Bool.true_and,List.all_eq_true];exact fun t ht=>(h.good t ht).1
 exact⟨hnm,hzb,hz0,hl,fun t ht=>(h.good t ht).2⟩
theorem one_byteL (v:Int) (b:UInt8) (hb:v=(b.toNat:Int)) (w:World) :
  (convert 65 9 (.slice (some ⟨w.heap.size,0,none⟩) 1 1)).run Try.prog (w.alloc (.cells #[.int .u8 v] 5))=.ok (.string ⟨#[b]⟩) (w.alloc (.cells #[.int .u8 v] 5)):=by
 subst hb;refine run_convert_bytes_back (P:=Try.prog) _ 65 9 5 ⟨w.heap.size,0,none⟩ 1 [b] Try.underlying65 Try.underlying5 Try.underlying9 ?_;intro j hj;have:j=0:=by simpa using hj
 subst this;exact cell_of_row _ _ 0 _ _ (0,0) (made_at w _ _ rfl)
theorem small4 {n:Nat} (h:n<1000):n<L32 ^ 4:=Nat.lt_of_lt_of_le h (by decide)
theorem tmod_cases (n:Nat):(((n:Nat):Int).tmod 3=0\/((n:Nat):Int).tmod 3=1\/((n:Nat):Int).tmod 3=2)/\(((n:Nat):Int).tmod 2=0\/((n:Nat):Int).tmod 2=1):=by
 rw[Int.tmod_eq_emod_of_nonneg (by omega),Int.tmod_eq_emod_of_nonneg (by omega)];omega
theorem CI.nat {w:World} {b:Bool} {o:Option Addr} {l c:Nat} {z:Int} {k:Nat} (h:CI w (.agg #[.bool b,.slice o l c]) z k):GN w (.slice o l c) z.natAbs k:=by
 obtain⟨b',ao,l',c',n,e,hg,rfl⟩:=h.gi.shape
 simp at e
 obtain⟨rfl,rfl,rfl,rfl⟩:=e;have:(sg b n).natAbs=n:=by cases b<;>simp[sg]
 rw[this];exact hg
theorem succ4 {z:Int} (h:z.natAbs<L32 ^ 2):((sg false z.natAbs)+1).natAbs<L32 ^ 4/\1<=sg false z.natAbs+1:=by
 have e:sg false z.natAbs=(z.natAbs:Int):=rfl;rw[e];have h4:L32 ^ 2+1<=L32 ^ 4:=by decide
 omega
theorem fit_all {o:Int} (ho:o=18\/o=19) {ts:List F} (h:∀ t ∈ ts,srt t.op=1):fitF o 0 (srts ts)=true:=by
 rcases ho with rfl | rfl<;>simp[fitF,kidsOk,srts]<;>exact h
theorem idx3_0 (o0 o1 o2:Option Addr) (l0 l1 l2 c0 c1 c2:Nat) (w:World):(Instr.index 62 (.agg #[.slice o0 l0 c0,.slice o1 l1 c1,.slice o2 l2 c2]) (.int .i64 0)).run Try.prog w=.ok (.slice o0 l0 c0) w:=by
 unfold Instr.index;simp[go_sem,asIntOf]
theorem idx3_1 (o0 o1 o2:Option Addr) (l0 l1 l2 c0 c1 c2:Nat) (w:World):(Instr.index 62 (.agg #[.slice o0 l0 c0,.slice o1 l1 c1,.slice o2 l2 c2]) (.int .i64 1)).run Try.prog w=.ok (.slice o1 l1 c1) w:=by
 unfold Instr.index;simp[go_sem,asIntOf]
theorem idx3_2 (o0 o1 o2:Option Addr) (l0 l1 l2 c0 c1 c2:Nat) (w:World):(Instr.index 62 (.agg #[.slice o0 l0 c0,.slice o1 l1 c1,.slice o2 l2 c2]) (.int .i64 2)).run Try.prog w=.ok (.slice o2 l2 c2) w:=by
 unfold Instr.index;simp[go_sem,asIntOf]
def opAttame_0z (j:Nat):Int:=[(1:Int),(0:Int)].getD j 0
theorem tame_0z (xo:Int) (xb:Bool) (xao:Option Addr) (xl xc:Nat) (xnm:ByteArray) (xko:Option Addr) (xkl xkc:Nat) (w:World) (hx:RawF w (0+1) ⟨xo,xb,xao,xl,xc,xnm,xko,xkl,xkc⟩) :
  Calls Try.prog 7 #[.agg #[.int .i64 xo,.bool xb,.slice xao xl xc,.string xnm,.slice xko xkl xkc],.int .i64 0,.int .i64 1] w (TamePost (0+1) 0 w):=by
 have HX:=Lib.hid hx;obtain⟨-,hn,-,⟨hk1,hk2⟩,-⟩:=hx;simp only at hn hk1 hk2;have hxm:xkc<=9223372036854775807:=hk2;obtain⟨m,hm⟩:∃ m,m=min xl 2:=⟨_,rfl⟩
 have hmin:min (xl:Int) 2=(m:Int):=by omega
 have hm2:m<=2:=by omega
 have hml:m<=xl:=by omega
 have hx2:∃ q,GN w (.slice xao m xc) q 2/\xl<=xc/\xc<=9223372036854775807:=by
  obtain⟨xs,hs,hdg⟩:=hn;have hl:=sl_len hs;obtain⟨_,_,e,h1,h2,_⟩:=id hs;injection e with e1 e2 e3;subst e3;exact⟨_,⟨xs.take m,hs.take m (by omega),hdg.take m,rfl,by rw[List.length_take];omega⟩,by omega,h2⟩
 obtain⟨q,hq,hlc,hc⟩:=hx2;have hmc:m<=xc:=by omega
 have HG:=Lib.hid hq;clear hq hn hm hk2;obtain⟨K,hK,hK2⟩:=and_255 xo;obtain⟨j,hj⟩:∃ j,j=K % 2:=⟨_,rfl⟩
 have hjm:((K:Nat):Int).tmod 2=((j:Nat):Int):=by rw[hj];exact (Int.ofNat_tmod K 2).symm
 have hjN:j<2:=by rw[hj];exact Nat.mod_lt _ (by decide)
 clear hj hK2;have HW:=Lib.hid (Below.refl w.heap.size w);go_enter Try.func7,Try.ntmps7
 obtain⟨x1,kf,ef,ekf,hbf,hkf,HBf⟩:=newV w #[.int .i64 xo,.bool xb,.slice xao xl xc,.string xnm,.slice xko xkl xkc] 29;replace HW:=Lib.hid (HW.out.trans (hbf.out.mono HW.out.size));replace HG:=Lib.hid (HG.out.below hbf.out);obtain⟨x2,kd,ed,ekd,hbd,hkd,HBd⟩:=newV x1 #[.int .i64 1] 3;replace HBf:=kBV hbd.out HBf;replace HW:=Lib.hid (HW.out.trans (hbd.out.mono HW.out.size));replace HG:=Lib.hid (HG.out.below hbd.out);obtain⟨x3,kr,er,ekr,hbr,hkr,HBr⟩:=newV x2 #[.int .i64 0,.bool false,.slice none 0 0,.string ⟨#[]⟩,.slice none 0 0] 29;replace HBf:=kBV hbr.out HBf;replace HBd:=kBV hbr.out HBd;replace HW:=Lib.hid (HW.out.trans (hbr.out.mono HW.out.size));replace HG:=Lib.hid (HG.out.below hbr.out);have HKR:Hid (w.heap.size<=kr):=Lib.hid (by have h1:=hbf.out.size;have h2:=hbd.out.size;have h3:=hkr.out;omega)
 obtain⟨x4,kp,ep,ekp,hbp,hkp,HBp⟩:=newV x3 #[.int .i64 1,.int .i64 0,.int .i64 2,.int .i64 3,.int .i64 4,.int .i64 5,.int .i64 6,.int .i64 7] 22;replace HBf:=kBV hbp.out HBf;replace HBd:=kBV hbp.out HBd;replace HBr:=kBV hbp.out HBr;replace HW:=Lib.hid (HW.out.trans (hbp.out.mono HW.out.size));replace HG:=Lib.hid (HG.out.below hbp.out);obtain⟨x5,kq,eq,ekq,hbq,hkq,HBq⟩:=newV x4 #[.int .i64 14,.int .i64 12,.int .i64 13,.int .i64 15,.int .i64 16,.int .i64 16,.int .i64 17,.int .i64 18,.int .i64 19,.int .i64 20] 22;replace HBf:=kBV hbq.out HBf;replace HBd:=kBV hbq.out HBd;replace HBr:=kBV hbq.out HBr;replace HBp:=kBV hbq.out HBp;replace HW:=Lib.hid (HW.out.trans (hbq.out.mono HW.out.size));replace HG:=Lib.hid (HG.out.below hbq.out)
 obtain⟨x6,kt,et,ekt,hbt,hkt,HBt⟩:=newV x5 #[.int .i64 8,.int .i64 9,.int .i64 10,.int .i64 11] 22;replace HBf:=kBV hbt.out HBf;replace HBd:=kBV hbt.out HBd;replace HBr:=kBV hbt.out HBr;replace HBp:=kBV hbt.out HBp;replace HBq:=kBV hbt.out HBq;replace HW:=Lib.hid (HW.out.trans (hbt.out.mono HW.out.size));replace HG:=Lib.hid (HG.out.below hbt.out);have hidx:=idx3_0 (some ⟨kp,0,none⟩) (some ⟨kq,0,none⟩) (some ⟨kt,0,none⟩) 8 10 4 8 10 4;have f0:=cell_at (v:=.int .i64 xo) HBf.out 0 rfl;have ff0:=froz_at HBf.out 0;have f1:=cell_at (v:=.bool xb) HBf.out 1 rfl;have ff1:=froz_at HBf.out 1;have f2:=cell_at (v:=.slice xao xl xc) HBf.out 2 rfl;have ff2:=froz_at HBf.out 2;have f3:=cell_at (v:=.string xnm) HBf.out 3 rfl;have ff3:=froz_at HBf.out 3;have f4:=cell_at (v:=.slice xko xkl xkc) HBf.out 4 rfl;have ff4:=froz_at HBf.out 4
 have d0:=cell_at (v:=.int .i64 1) HBd.out 0 rfl;have fd0:=froz_at HBd.out 0
 have hop:x6.cell? ⟨kp,j,none⟩=some (.int .i64 (opAttame_0z j)):=by
  have:j=0\/j=1:=by omega
  rcases this with rfl | rfl<;>exact cell_at HBp.out _ rfl
 obtain⟨op,hopd⟩:∃ op,op=opAttame_0z j:=⟨_,rfl⟩
 rw[<-hopd] at hop;have HOP:=Lib.hid hopd;clear hopd;go_upto_region 7 with fail
 clear f0 ff0 f1 ff1 f2 ff2 f3 ff3 f4 ff4 d0 fd0 hop;clear hidx hjm hK;have HWp:=HW;have HBfp:=HBf;have HBdp:=HBd;have HBrp:=HBr;obtain⟨x7,ko,eo,eko,hbo,hko,HBo⟩:=newV x6 #[.int .i64 op,.bool false,.slice none 0 0,.string ⟨#[]⟩,.slice none 0 0] 29;replace HBf:=kBV hbo.out HBf;replace HBd:=kBV hbo.out HBd;replace HBr:=kBV hbo.out HBr;replace HBp:=kBV hbo.out HBp;replace HBq:=kBV hbo.out HBq;replace HBt:=kBV hbo.out HBt;replace HW:=Lib.hid (HW.out.trans (hbo.out.mono HW.out.size));replace HG:=Lib.hid (HG.out.below hbo.out);rw[eo,eko];have HKO:Hid (w.heap.size<=ko):=Lib.hid (by have:=HWp.out.size;have:=hko.out;omega);go_upto_region 8 with fail
 have HY:=Lib.hid (Below.refl x7.heap.size x7);have HBf0:=HBf;have HBd0:=HBd;have HBr0:=HBr;have HBo0:=HBo;have hlt_f:=lt_of_block HBf.out;have hog:Hid (∀ q,q<0->(fun q=>0) q<x7.heap.size):=Lib.hid (fun q h=>absurd h (Nat.not_lt_zero _));refine R7.region (by kernel_rfl) [[],[0],[0,1],[],[3],[3,4],[],[6],[6,7],[6,7,8],[6,7,8,9],[3,4,5,6,7,8,9,10],[0,1,2,3,4,5,6,7,8,9,10,11],[],[0,1,2,3,4,5,6,7,8,9,10,11,12,13]] [] [] (fun q=>0) 0 14 (by kernel_rfl) (by kernel_rfl) (by rfl) hog.out (fun q q' h h' hn=>absurd hn (by omega)) ?_;refine R7.Chain.det ?_ (by rfl) (fun T xs wr hA=>?_) ?_
 rotate_left 1
 ·have e3:=hA.pre 3 (by kernel_rfl);simp only[gsa,gsc,gsz] at e3;clear hA;refine⟨(by rfl),?_⟩;go_simp<;>(try with_reducible rfl)
 refine R7.Chain.det ?_ (by rfl) (fun T xs wr hA=>?_) ?_
 rotate_left 1
 ·have e36:=hA.tm 0 36 (by rfl) (by rfl);have f36:xs 0=_:=hA.fa 0 (by rfl)
  (try simp (disch:=first | rfl | decide) only [R7.mask_in] at f36)
  rw[f36] at e36;clear f36;clear hA;refine⟨(by rfl),?_⟩;go_simp<;>(try with_reducible rfl)
 refine R7.Chain.det ?_ (by rfl) (fun T xs wr hA=>?_) ?_
 rotate_left 1
 ·have e37:=hA.tm 1 37 (by rfl) (by rfl);have f37:xs 1=_:=hA.fa 1 (by rfl)
  (try simp (disch:=first | rfl | decide) only [R7.mask_in] at f37)
  rw[f37] at e37;clear f37;have hBq:wr.heap[kf]?=_:=(hA.bl _ hlt_f (fun q h=>absurd h (Nat.not_lt_zero _))).trans HBf.out;have q0:=cell_at (v:=.int .i64 xo) hBq 0 rfl;have q1:=cell_at (v:=.bool xb) hBq 1 rfl;have q2:=cell_at (v:=.slice xao xl xc) hBq 2 rfl;have q3:=cell_at (v:=.string xnm) hBq 3 rfl;have q4:=cell_at (v:=.slice xko xkl xkc) hBq 4 rfl;clear hBq;clear hA;refine⟨(by rfl),?_⟩;go_simp<;>(try with_reducible rfl)
 refine R7.Chain.det ?_ (by rfl) (fun T xs wr hA=>?_) ?_
 rotate_left 1
 ·have e3:=hA.pre 3 (by kernel_rfl);simp only[gsa,gsc,gsz] at e3;clear hA;refine⟨(by rfl),?_⟩;go_simp<;>(try with_reducible rfl)
 refine R7.Chain.det ?_ (by rfl) (fun T xs wr hA=>?_) ?_
 rotate_left 1
 ·have e39:=hA.tm 3 39 (by rfl) (by rfl);have f39:xs 3=_:=hA.fa 3 (by rfl)
  (try simp (disch:=first | rfl | decide) only [R7.mask_in] at f39)
  rw[f39] at e39;clear f39;clear hA;refine⟨(by rfl),?_⟩;go_simp<;>(try with_reducible rfl)
 refine R7.Chain.det ?_ (by rfl) (fun T xs wr hA=>?_) ?_
 rotate_left 1
 ·have e40:=hA.tm 4 40 (by rfl) (by rfl);have f40:xs 4=_:=hA.fa 4 (by rfl)
  (try simp (disch:=first | rfl | decide) only [R7.mask_in] at f40)
  rw[f40] at e40;clear f40;have hBq:wr.heap[kf]?=_:=(hA.bl _ hlt_f (fun q h=>absurd h (Nat.not_lt_zero _))).trans HBf.out;have q0:=cell_at (v:=.int .i64 xo) hBq 0 rfl;have q1:=cell_at (v:=.bool xb) hBq 1 rfl;have q2:=cell_at (v:=.slice xao xl xc) hBq 2 rfl;have q3:=cell_at (v:=.string xnm) hBq 3 rfl;have q4:=cell_at (v:=.slice xko xkl xkc) hBq 4 rfl;clear hBq;clear hA;refine⟨(by rfl),?_⟩;go_simp<;>(try with_reducible rfl)
 refine R7.Chain.det ?_ (by rfl) (fun T xs wr hA=>?_) ?_
 rotate_left 1
 ·have e3:=hA.pre 3 (by kernel_rfl);simp only[gsa,gsc,gsz] at e3;clear hA;refine⟨(by rfl),?_⟩;go_simp<;>(try with_reducible rfl)
 refine R7.Chain.det ?_ (by rfl) (fun T xs wr hA=>?_) ?_
 rotate_left 1
 ·have e42:=hA.tm 6 42 (by rfl) (by rfl);have f42:xs 6=_:=hA.fa 6 (by rfl)
  (try simp (disch:=first | rfl | decide) only [R7.mask_in] at f42)
  rw[f42] at e42;clear f42;clear hA;refine⟨(by rfl),?_⟩;go_simp<;>(try with_reducible rfl)
 refine R7.Chain.det ?_ (by rfl) (fun T xs wr hA=>?_) ?_
 rotate_left 1
 ·have e43:=hA.tm 7 43 (by rfl) (by rfl);have f43:xs 7=_:=hA.fa 7 (by rfl)
  (try simp (disch:=first | rfl | decide) only [R7.mask_in] at f43)
  rw[f43] at e43;clear f43;have hBq:wr.heap[kf]?=_:=(hA.bl _ hlt_f (fun q h=>absurd h (Nat.not_lt_zero _))).trans HBf.out;have q0:=cell_at (v:=.int .i64 xo) hBq 0 rfl;have q1:=cell_at (v:=.bool xb) hBq 1 rfl;have q2:=cell_at (v:=.slice xao xl xc) hBq 2 rfl;have q3:=cell_at (v:=.string xnm) hBq 3 rfl;have q4:=cell_at (v:=.slice xko xkl xkc) hBq 4 rfl;clear hBq;clear hA;refine⟨(by rfl),?_⟩;go_simp<;>(try with_reducible rfl)
 refine R7.Chain.det ?_ (by rfl) (fun T xs wr hA=>?_) ?_
 rotate_left 1
 ·have e44:=hA.tm 8 44 (by rfl) (by rfl);have f44:xs 8=_:=hA.fa 8 (by rfl)
  (try simp (disch:=first | rfl | decide) only [R7.mask_in] at f44)
  rw[f44] at e44;clear f44;clear hA;refine⟨(by rfl),?_⟩;go_simp<;>(try with_reducible rfl)
 refine R7.Chain.det ?_ (by rfl) (fun T xs wr hA=>?_) ?_
 rotate_left 1
 ·have e45:=hA.tm 9 45 (by rfl) (by rfl);have f45:xs 9=_:=hA.fa 9 (by rfl)
  (try simp (disch:=first | rfl | decide) only [R7.mask_in] at f45)
  rw[f45] at e45;clear f45;clear hA;refine⟨(by rfl),?_⟩;go_simp<;>(try with_reducible rfl)
 refine R7.Chain.det ?_ (by rfl) (fun T xs wr hA=>?_) ?_
 rotate_left 1
 ·have e41:=hA.tm 5 41 (by rfl) (by rfl);have f41:xs 5=_:=hA.fa 5 (by rfl)
  (try simp (disch:=first | rfl | decide) only [R7.mask_in] at f41)
  rw[f41] at e41;clear f41;have e46:=hA.tm 10 46 (by rfl) (by rfl);have f46:xs 10=_:=hA.fa 10 (by rfl)
  (try simp (disch:=first | rfl | decide) only [R7.mask_in] at f46)
  rw[f46] at e46;clear f46;clear hA;refine⟨(by rfl),?_⟩;go_simp<;>(try with_reducible rfl)
 refine R7.Chain.call (fun xs v w=>∃ z,CI w v z 2) (fun _ _ _ _ h hb=>by obtain⟨z,h2⟩:=h;exact⟨z,h2.below hb⟩) (fun _ _ _ _ _ _ h _=>by obtain⟨q,hq,_⟩:=h;exact absurd hq (Nat.not_lt_zero _)) (by rfl) (fun T xs wr hA=>?_) ?_
 ·have hsw:=(hA.be 0 (Nat.zero_le _) (fun _ _=>Nat.zero_le _)).size;have e38:=hA.tm 2 38 (by rfl) (by rfl);have f38:xs 2=_:=hA.fa 2 (by rfl)
  (try simp (disch:=first | rfl | decide) only [R7.mask_in] at f38)
  rw[f38] at e38;clear f38;have e47:=hA.tm 11 47 (by rfl) (by rfl);have f47:xs 11=_:=hA.fa 11 (by rfl)
  (try simp (disch:=first | rfl | decide) only [R7.mask_in] at f47)
  rw[f47] at e47;clear f47;have hbw:=undrew (hA.be x7.heap.size (Nat.le_refl _) (fun q h=>absurd h (Nat.not_lt_zero q)));clear hA;refine⟨(by rfl),fun K hK=>?_⟩;go_simp
  refine (big_any xb _ q 2 wr (HG.out.below hbw) (by decide)).mono ?_;rintro e w' ⟨v,rfl,hc,hb'⟩;exact hK.out _ _ ⟨_,hc⟩ hb'
 refine R7.Chain.call (fun xs v w=>∃ g,v=.pointer (some ⟨g,0,none⟩)/\x7.heap.size<=g/\w.heap[g]?=some (.cells #[.bool false,.slice none 0 0] 26 (0,0))) (fun _ _ _ _ h hb=>by obtain⟨g,h1,h2,h3⟩:=h;exact⟨g,h1,h2,by rw[hb.block g (lt_of_block h3)];exact h3⟩) (fun _ _ _ _ _ _ h _=>by obtain⟨q,hq,_⟩:=h;exact absurd hq (Nat.not_lt_zero _)) (by rfl) (fun T xs wr hA=>?_) ?_
 ·have hsw:=(hA.be 0 (Nat.zero_le _) (fun _ _=>Nat.zero_le _)).size;have hbw:=undrew (hA.be x7.heap.size (Nat.le_refl _) (fun q h=>absurd h (Nat.not_lt_zero q)));clear hA;refine⟨(by rfl),fun K hK=>?_⟩;go_simp
  exact hK.out _ _ ⟨_,rfl,hbw.size,made_at _ _ _ rfl⟩ ((Below.refl _ _).alloc (Nat.le_refl _) _)
 refine R7.Chain.done (fun xs x8 hL=>?_);obtain⟨⟨hbe,hbl⟩,hf,-,-⟩:=hL;have f0:xs 0=_:=hf 0 (by decide)
 (try simp (disch:=first | rfl | decide) only [R7.mask_in] at f0)
 have f1:xs 1=_:=hf 1 (by decide)
 (try simp (disch:=first | rfl | decide) only [R7.mask_in] at f1)
 have f2:xs 2=_:=hf 2 (by decide)
 (try simp (disch:=first | rfl | decide) only [R7.mask_in] at f2)
 have f3:xs 3=_:=hf 3 (by decide)
 (try simp (disch:=first | rfl | decide) only [R7.mask_in] at f3)
 have f4:xs 4=_:=hf 4 (by decide)
 (try simp (disch:=first | rfl | decide) only [R7.mask_in] at f4)
 have f5:xs 5=_:=hf 5 (by decide)
 (try simp (disch:=first | rfl | decide) only [R7.mask_in] at f5)
 have f6:xs 6=_:=hf 6 (by decide)
 (try simp (disch:=first | rfl | decide) only [R7.mask_in] at f6)
 have f7:xs 7=_:=hf 7 (by decide)
 (try simp (disch:=first | rfl | decide) only [R7.mask_in] at f7)
 have f8:xs 8=_:=hf 8 (by decide)
 (try simp (disch:=first | rfl | decide) only [R7.mask_in] at f8)
 have f9:xs 9=_:=hf 9 (by decide)
 (try simp (disch:=first | rfl | decide) only [R7.mask_in] at f9)
 have f10:xs 10=_:=hf 10 (by decide)
 (try simp (disch:=first | rfl | decide) only [R7.mask_in] at f10)
 have f11:xs 11=_:=hf 11 (by decide)
 (try simp (disch:=first | rfl | decide) only [R7.mask_in] at f11)
 have F12:∃ z,CI x8 (xs 12) z 2:=hf 12 (by decide);have F13:∃ g,(xs 13)=.pointer (some ⟨g,0,none⟩)/\x7.heap.size<=g/\x8.heap[g]?=some (.cells #[.bool false,.slice none 0 0] 26 (0,0)):=hf 13 (by decide);have hb0:Below 0 x7 x8:=undrew (hbe 0 (Nat.zero_le _) (fun _ _=>Nat.zero_le _));have hgr:∀ j,j<x7.heap.size->(∀ q,q<0->(fun q=>0) q≠j)->x8.heap[j]?=x7.heap[j]?:=hbl;clear hbe hbl hf;have hb:Below x7.heap.size x7 x8:=⟨hb0.os,hb0.tape,hb0.output,hb0.size,fun q hq=>hgr q hq (fun q h=>absurd h (Nat.not_lt_zero _))⟩
 refine R7.rest_list (by decide) (by kernel_rfl) ?_;simp only[R7.fill,t1_,t2_,t3_,t4_,t5_,t6_,t7_,f0,f1,f2,f3,f4,f5,f6,f7,f8,f9,f10,f11];clear hb0 hgr hog hlt_f f0 f1 f2 f3 f4 f5 f6 f7 f8 f9 f10 f11;replace HBf:=kBV hb HBf;replace HBd:=kBV hb HBd;replace HBr:=kBV hb HBr;replace HBp:=kBV hb HBp;replace HBq:=kBV hb HBq;replace HBt:=kBV hb HBt;replace HBo:=kBV hb HBo;replace HW:=Lib.hid (HW.out.trans (hb.mono HW.out.size));replace HG:=Lib.hid (HG.out.below hb);replace HY:=Lib.hid (HY.out.trans (hb.mono HY.out.size));replace hb:=Lib.hid hb;obtain⟨z,hcz⟩:=F12;obtain⟨zb,zo,zl,zc,hzv⟩:=hcz.shape;obtain⟨km,hkm,hkm1,hkm2⟩:=F13;rw[hzv] at hcz;rw[hzv,hkm];have HC:=Lib.hid (hcz.mono (k':=600) (by decide));have HCZ:=Lib.hid hcz.lt;have HBm:=Lib.hid hkm2;clear hcz hzv hkm hkm2;have m0:=cell_at (v:=.bool false) HBm.out 0 rfl
 have fm0:=froz_at HBm.out 0;have m1:=cell_at (v:=.slice none 0 0) HBm.out 1 rfl;have fm1:=froz_at HBm.out 1;go_upto_region 9 with fail
 clear m0 fm0 m1 fm1;have hg1:=grown2V (w:=x8) (k:=km) (.bool zb) (.slice zo zl zc);have hb1:((x8.setCell ⟨km,0,none⟩ (.bool zb)).setCell ⟨km,1,none⟩ (.slice zo zl zc)).heap[km]?=_:=heap_setCell_same _ km 1 _ _ _ (heap_setCell_same _ km 0 _ _ _ HBm.out);obtain⟨W1,hW1⟩:∃ q,q=(x8.setCell ⟨km,0,none⟩ (.bool zb)).setCell ⟨km,1,none⟩ (.slice zo zl zc):=⟨_,rfl⟩
 rw[<-hW1] at hg1 hb1 ⊢;have hf1:Fr 26 x8 W1:=.of_grown hg1 (fun j hj=>by injection hj with hj;subst hj;exact⟨_,HBm.out,n32_2⟩);have HKM:Hid (w.heap.size<=km):=Lib.hid (Nat.le_trans (by have:=HKO.out;have:=lt_of_block HBo0.out;omega) hkm1);replace HW:=Lib.hid (ext_below HW.out hg1 HKM.out);replace HY:=Lib.hid (ext_below HY.out hg1 hkm1);replace HC:=Lib.hid (HC.out.fr hf1);replace HBf:=Lib.hid ((HY.out.block _ (lt_of_block HBf0.out)).trans HBf0.out);replace HBd:=Lib.hid ((HY.out.block _ (lt_of_block HBd0.out)).trans HBd0.out);replace HBr:=Lib.hid ((HY.out.block _ (lt_of_block HBr0.out)).trans HBr0.out);replace HBo:=Lib.hid ((HY.out.block _ (lt_of_block HBo0.out)).trans HBo0.out);replace HBm:=Lib.hid hb1;clear hg1 hb1 hW1 hf1 hkm1
 have HLOW:Hid (kf<W1.heap.size/\kd<W1.heap.size/\kr<W1.heap.size/\ko<W1.heap.size):=Lib.hid ⟨lt_of_block HBf.out,lt_of_block HBd.out,lt_of_block HBr.out,lt_of_block HBo.out⟩;have HDIS:Hid (kf≠ko/\kd≠ko/\kr≠ko):=Lib.hid (by have h1:=lt_of_block HBfp.out;have h2:=lt_of_block HBdp.out;have h3:=lt_of_block HBrp.out;rw[eko] at h1 h2 h3;omega);have HB0:Hid (w.heap.size<=W1.heap.size):=Lib.hid HW.out.size;have hjc:j=0\/j=1:=by omega
 rcases hjc with rfl | rfl
 ·have hop2:op=1:=HOP.out;subst hop2;clear HOP;have HSZP:Hid (W1.heap.size<=W1.heap.size):=Lib.hid (Nat.le_refl _);rcases (tmod_cases xnm.size).1 with hr | hr | hr
  ·have o0:=cell_at (v:=.int .i64 1) HBo.out 0 rfl;have fo0:=froz_at HBo.out 0;have o1:=cell_at (v:=.bool false) HBo.out 1 rfl;have fo1:=froz_at HBo.out 1;have o2:=cell_at (v:=.slice none 0 0) HBo.out 2 rfl;have fo2:=froz_at HBo.out 2;have o3:=cell_at (v:=.string ⟨#[]⟩) HBo.out 3 rfl;have fo3:=froz_at HBo.out 3;have o4:=cell_at (v:=.slice none 0 0) HBo.out 4 rfl;have fo4:=froz_at HBo.out 4;have m0:=cell_at (v:=.bool zb) HBm.out 0 rfl;have fm0:=froz_at HBm.out 0;have m1:=cell_at (v:=.slice zo zl zc) HBm.out 1 rfl;have fm1:=froz_at HBm.out 1;have f0:=cell_at (v:=.int .i64 xo) HBf.out 0 rfl;have ff0:=froz_at HBf.out 0;have f1:=cell_at (v:=.bool xb) HBf.out 1 rfl;have ff1:=froz_at HBf.out 1;have f2:=cell_at (v:=.slice xao xl xc) HBf.out 2 rfl;have ff2:=froz_at HBf.out 2;have f3:=cell_at (v:=.string xnm) HBf.out 3 rfl
   have ff3:=froz_at HBf.out 3;have f4:=cell_at (v:=.slice xko xkl xkc) HBf.out 4 rfl;have ff4:=froz_at HBf.out 4;have hcv:=one_byteL 48 48 (by decide) W1;obtain⟨x9,ky,ey,eky,hby,hky,HBy⟩:=newV W1 #[.int .u8 48] 5;replace HBf:=kBV hby.out HBf;replace HBd:=kBV hby.out HBd;replace HBr:=kBV hby.out HBr;replace HBo:=kBV hby.out HBo;replace HBm:=kBV hby.out HBm;replace HW:=Lib.hid (HW.out.trans (hby.out.mono HW.out.size));replace HC:=Lib.hid (HC.out.below hby.out);rw[ey,eky] at hcv;have p0:=cell_at (v:=.int .i64 1) HBo.out 0 rfl;have fp0:=froz_at HBo.out 0;have p1:=cell_at (v:=.bool false) HBo.out 1 rfl;have fp1:=froz_at HBo.out 1;have p2:=cell_at (v:=.slice none 0 0) HBo.out 2 rfl;have fp2:=froz_at HBo.out 2;have p3:=cell_at (v:=.string ⟨#[]⟩) HBo.out 3 rfl;have fp3:=froz_at HBo.out 3
   have p4:=cell_at (v:=.slice none 0 0) HBo.out 4 rfl;have fp4:=froz_at HBo.out 4;replace HSZP:=Lib.hid (Nat.le_trans HSZP.out hby.out.size);go_upto_region 21 with fail
   clear o0 fo0 o1 fo1 o2 fo2 o3 fo3 o4 fo4 m0 fm0 m1 fm1 f0 ff0 f1 ff1 f2 ff2 f3 ff3 f4 ff4 p0 fp0 p1 fp1 p2 fp2 p3 fp3 p4 fp4
   try clear hcv
   try clear hr
   rw[show ((⟨#[105]⟩:ByteArray)++⟨#[48]⟩)=⟨#[105,48]⟩ from rfl];have hgo:x9.grownBy (x9.setCell ⟨ko,3,none⟩ (.string ⟨#[105,48]⟩)) (some ko):=by refine grown_setCell ?_ _;exact World.grownBy.refl _ _
   have hbo:(x9.setCell ⟨ko,3,none⟩ (.string ⟨#[105,48]⟩)).heap[ko]?=_:=(heap_setCell_same _ ko 3 _ _ (.string ⟨#[105,48]⟩) HBo.out)
   obtain⟨W2,hW2⟩:∃ q,q=x9.setCell ⟨ko,3,none⟩ (.string ⟨#[105,48]⟩):=⟨_,rfl⟩
   rw[<-hW2] at hgo hbo ⊢;have hfo:Fr 29 x9 W2:=.of_grown hgo (fun j hj=>by injection hj with hj;subst hj;exact⟨_,HBo.out,n32_F⟩);replace HW:=Lib.hid (ext_below HW.out hgo HKO.out);replace HC:=Lib.hid (HC.out.fr hfo);replace HBf:=Lib.hid ((hgo.block _ (lt_of_block HBf.out) (fun e=>by injection e with e;exact HDIS.out.1 e)).trans HBf.out);replace HBd:=Lib.hid ((hgo.block _ (lt_of_block HBd.out) (fun e=>by injection e with e;exact HDIS.out.2.1 e)).trans HBd.out);replace HBr:=Lib.hid ((hgo.block _ (lt_of_block HBr.out) (fun e=>by injection e with e;exact HDIS.out.2.2 e)).trans HBr.out);have HSZW:Hid (W1.heap.size<=W2.heap.size):=Lib.hid (Nat.le_trans HSZP.out hgo.size);replace HBo:=Lib.hid hbo;clear hgo hbo hW2 hfo HSZP;have HSZP:=HSZW;clear HSZW
   have HT:Hid (TSt w W1.heap.size kf kd kr ko ⟨xo,xb,xao,xl,xc,xnm,xko,xkl,xkc⟩ (1) 1 false none 0 0 (⟨#[105,48]⟩) (0) 0 [] (.slice none 0 0) [] W2):=Lib.hid (TSt.zero HBo.out HBf.out HBd.out HBr.out (nr0 _) HLOW.out HDIS.out HKO.out HW.out HSZP.out);have o0:=cell_at (v:=.int .i64 1) HBo.out 0 rfl;have fo0:=froz_at HBo.out 0;have o1:=cell_at (v:=.bool false) HBo.out 1 rfl;have fo1:=froz_at HBo.out 1;have o2:=cell_at (v:=.slice none 0 0) HBo.out 2 rfl;have fo2:=froz_at HBo.out 2;have o3:=cell_at (v:=.string ⟨#[105,48]⟩) HBo.out 3 rfl;have fo3:=froz_at HBo.out 3;have o4:=cell_at (v:=.slice none 0 0) HBo.out 4 rfl;have fo4:=froz_at HBo.out 4;obtain⟨⟨r0,r1,r2,r3,r4⟩,fr0,fr1,fr2,fr3,fr4⟩:=cells5V HBr.out;go_wp2_with fail
   clear o0 fo0 o1 fo1 o2 fo2 o3 fo3 o4 fo4;have hg:=grown5V (w:=W2) (k:=kr) (.int .i64 1) (.bool false) (.slice none 0 0) (.string ⟨#[105,48]⟩) (.slice none 0 0);have hf:Fr 29 W2 _:=.of_grown hg (fun j hj=>by injection hj with hj;subst hj;exact⟨_,HBr.out,n32_F⟩);obtain⟨h1,h2,h3,h4⟩:=HT.out.fin hg hf (by unfold IR;decide) HB0.out HKR.out (by unfold NmOk;simp) (small4 (by decide)) (fun _ _ _=>rfl) (by simp) (rfl)
   (try simp only[Exit.inBlock,Exit.then])
   exact bodyPost_ret (v:=.agg #[.int .i64 1,.bool false,.slice none 0 0,.string ⟨#[105,48]⟩,.slice none 0 0]) (by simp[results,Try.results7,go_sem,r0,r1,r2,r3,r4]) rfl ⟨_,_,rfl,h1,h2,rfl,h3,h4⟩
  ·have o0:=cell_at (v:=.int .i64 1) HBo.out 0 rfl;have fo0:=froz_at HBo.out 0;have o1:=cell_at (v:=.bool false) HBo.out 1 rfl;have fo1:=froz_at HBo.out 1;have o2:=cell_at (v:=.slice none 0 0) HBo.out 2 rfl;have fo2:=froz_at HBo.out 2;have o3:=cell_at (v:=.string ⟨#[]⟩) HBo.out 3 rfl;have fo3:=froz_at HBo.out 3;have o4:=cell_at (v:=.slice none 0 0) HBo.out 4 rfl;have fo4:=froz_at HBo.out 4;have m0:=cell_at (v:=.bool zb) HBm.out 0 rfl;have fm0:=froz_at HBm.out 0;have m1:=cell_at (v:=.slice zo zl zc) HBm.out 1 rfl;have fm1:=froz_at HBm.out 1;have f0:=cell_at (v:=.int .i64 xo) HBf.out 0 rfl;have ff0:=froz_at HBf.out 0;have f1:=cell_at (v:=.bool xb) HBf.out 1 rfl;have ff1:=froz_at HBf.out 1;have f2:=cell_at (v:=.slice xao xl xc) HBf.out 2 rfl;have ff2:=froz_at HBf.out 2;have f3:=cell_at (v:=.string xnm) HBf.out 3 rfl
   have ff3:=froz_at HBf.out 3;have f4:=cell_at (v:=.slice xko xkl xkc) HBf.out 4 rfl;have ff4:=froz_at HBf.out 4;have hcv:=one_byteL 49 49 (by decide) W1;obtain⟨x9,ky,ey,eky,hby,hky,HBy⟩:=newV W1 #[.int .u8 49] 5;replace HBf:=kBV hby.out HBf;replace HBd:=kBV hby.out HBd;replace HBr:=kBV hby.out HBr;replace HBo:=kBV hby.out HBo;replace HBm:=kBV hby.out HBm;replace HW:=Lib.hid (HW.out.trans (hby.out.mono HW.out.size));replace HC:=Lib.hid (HC.out.below hby.out);rw[ey,eky] at hcv;have p0:=cell_at (v:=.int .i64 1) HBo.out 0 rfl;have fp0:=froz_at HBo.out 0;have p1:=cell_at (v:=.bool false) HBo.out 1 rfl;have fp1:=froz_at HBo.out 1;have p2:=cell_at (v:=.slice none 0 0) HBo.out 2 rfl;have fp2:=froz_at HBo.out 2;have p3:=cell_at (v:=.string ⟨#[]⟩) HBo.out 3 rfl;have fp3:=froz_at HBo.out 3
   have p4:=cell_at (v:=.slice none 0 0) HBo.out 4 rfl;have fp4:=froz_at HBo.out 4;replace HSZP:=Lib.hid (Nat.le_trans HSZP.out hby.out.size);go_upto_region 21 with fail
   clear o0 fo0 o1 fo1 o2 fo2 o3 fo3 o4 fo4 m0 fm0 m1 fm1 f0 ff0 f1 ff1 f2 ff2 f3 ff3 f4 ff4 p0 fp0 p1 fp1 p2 fp2 p3 fp3 p4 fp4
   try clear hcv
   try clear hr
   rw[show ((⟨#[105]⟩:ByteArray)++⟨#[49]⟩)=⟨#[105,49]⟩ from rfl];have hgo:x9.grownBy (x9.setCell ⟨ko,3,none⟩ (.string ⟨#[105,49]⟩)) (some ko):=by refine grown_setCell ?_ _;exact World.grownBy.refl _ _
   have hbo:(x9.setCell ⟨ko,3,none⟩ (.string ⟨#[105,49]⟩)).heap[ko]?=_:=(heap_setCell_same _ ko 3 _ _ (.string ⟨#[105,49]⟩) HBo.out)
   obtain⟨W2,hW2⟩:∃ q,q=x9.setCell ⟨ko,3,none⟩ (.string ⟨#[105,49]⟩):=⟨_,rfl⟩
   rw[<-hW2] at hgo hbo ⊢;have hfo:Fr 29 x9 W2:=.of_grown hgo (fun j hj=>by injection hj with hj;subst hj;exact⟨_,HBo.out,n32_F⟩);replace HW:=Lib.hid (ext_below HW.out hgo HKO.out);replace HC:=Lib.hid (HC.out.fr hfo);replace HBf:=Lib.hid ((hgo.block _ (lt_of_block HBf.out) (fun e=>by injection e with e;exact HDIS.out.1 e)).trans HBf.out);replace HBd:=Lib.hid ((hgo.block _ (lt_of_block HBd.out) (fun e=>by injection e with e;exact HDIS.out.2.1 e)).trans HBd.out);replace HBr:=Lib.hid ((hgo.block _ (lt_of_block HBr.out) (fun e=>by injection e with e;exact HDIS.out.2.2 e)).trans HBr.out);have HSZW:Hid (W1.heap.size<=W2.heap.size):=Lib.hid (Nat.le_trans HSZP.out hgo.size);replace HBo:=Lib.hid hbo;clear hgo hbo hW2 hfo HSZP;have HSZP:=HSZW;clear HSZW
   have HT:Hid (TSt w W1.heap.size kf kd kr ko ⟨xo,xb,xao,xl,xc,xnm,xko,xkl,xkc⟩ (1) 1 false none 0 0 (⟨#[105,49]⟩) (0) 0 [] (.slice none 0 0) [] W2):=Lib.hid (TSt.zero HBo.out HBf.out HBd.out HBr.out (nr0 _) HLOW.out HDIS.out HKO.out HW.out HSZP.out);have o0:=cell_at (v:=.int .i64 1) HBo.out 0 rfl;have fo0:=froz_at HBo.out 0;have o1:=cell_at (v:=.bool false) HBo.out 1 rfl;have fo1:=froz_at HBo.out 1;have o2:=cell_at (v:=.slice none 0 0) HBo.out 2 rfl;have fo2:=froz_at HBo.out 2;have o3:=cell_at (v:=.string ⟨#[105,49]⟩) HBo.out 3 rfl;have fo3:=froz_at HBo.out 3;have o4:=cell_at (v:=.slice none 0 0) HBo.out 4 rfl;have fo4:=froz_at HBo.out 4;obtain⟨⟨r0,r1,r2,r3,r4⟩,fr0,fr1,fr2,fr3,fr4⟩:=cells5V HBr.out;go_wp2_with fail
   clear o0 fo0 o1 fo1 o2 fo2 o3 fo3 o4 fo4;have hg:=grown5V (w:=W2) (k:=kr) (.int .i64 1) (.bool false) (.slice none 0 0) (.string ⟨#[105,49]⟩) (.slice none 0 0);have hf:Fr 29 W2 _:=.of_grown hg (fun j hj=>by injection hj with hj;subst hj;exact⟨_,HBr.out,n32_F⟩);obtain⟨h1,h2,h3,h4⟩:=HT.out.fin hg hf (by unfold IR;decide) HB0.out HKR.out (by unfold NmOk;simp) (small4 (by decide)) (fun _ _ _=>rfl) (by simp) (rfl)
   (try simp only[Exit.inBlock,Exit.then])
   exact bodyPost_ret (v:=.agg #[.int .i64 1,.bool false,.slice none 0 0,.string ⟨#[105,49]⟩,.slice none 0 0]) (by simp[results,Try.results7,go_sem,r0,r1,r2,r3,r4]) rfl ⟨_,_,rfl,h1,h2,rfl,h3,h4⟩
  have o0:=cell_at (v:=.int .i64 1) HBo.out 0 rfl;have fo0:=froz_at HBo.out 0;have o1:=cell_at (v:=.bool false) HBo.out 1 rfl;have fo1:=froz_at HBo.out 1;have o2:=cell_at (v:=.slice none 0 0) HBo.out 2 rfl;have fo2:=froz_at HBo.out 2;have o3:=cell_at (v:=.string ⟨#[]⟩) HBo.out 3 rfl;have fo3:=froz_at HBo.out 3;have o4:=cell_at (v:=.slice none 0 0) HBo.out 4 rfl;have fo4:=froz_at HBo.out 4;have m0:=cell_at (v:=.bool zb) HBm.out 0 rfl;have fm0:=froz_at HBm.out 0;have m1:=cell_at (v:=.slice zo zl zc) HBm.out 1 rfl;have fm1:=froz_at HBm.out 1;have f0:=cell_at (v:=.int .i64 xo) HBf.out 0 rfl;have ff0:=froz_at HBf.out 0;have f1:=cell_at (v:=.bool xb) HBf.out 1 rfl;have ff1:=froz_at HBf.out 1;have f2:=cell_at (v:=.slice xao xl xc) HBf.out 2 rfl;have ff2:=froz_at HBf.out 2;have f3:=cell_at (v:=.string xnm) HBf.out 3 rfl
  have ff3:=froz_at HBf.out 3;have f4:=cell_at (v:=.slice xko xkl xkc) HBf.out 4 rfl;have ff4:=froz_at HBf.out 4;have hcv:=one_byteL 50 50 (by decide) W1;obtain⟨x9,ky,ey,eky,hby,hky,HBy⟩:=newV W1 #[.int .u8 50] 5;replace HBf:=kBV hby.out HBf;replace HBd:=kBV hby.out HBd;replace HBr:=kBV hby.out HBr;replace HBo:=kBV hby.out HBo;replace HBm:=kBV hby.out HBm;replace HW:=Lib.hid (HW.out.trans (hby.out.mono HW.out.size));replace HC:=Lib.hid (HC.out.below hby.out);rw[ey,eky] at hcv;have p0:=cell_at (v:=.int .i64 1) HBo.out 0 rfl;have fp0:=froz_at HBo.out 0;have p1:=cell_at (v:=.bool false) HBo.out 1 rfl;have fp1:=froz_at HBo.out 1;have p2:=cell_at (v:=.slice none 0 0) HBo.out 2 rfl;have fp2:=froz_at HBo.out 2;have p3:=cell_at (v:=.string ⟨#[]⟩) HBo.out 3 rfl;have fp3:=froz_at HBo.out 3
  have p4:=cell_at (v:=.slice none 0 0) HBo.out 4 rfl;have fp4:=froz_at HBo.out 4;replace HSZP:=Lib.hid (Nat.le_trans HSZP.out hby.out.size);go_upto_region 21 with fail
  clear o0 fo0 o1 fo1 o2 fo2 o3 fo3 o4 fo4 m0 fm0 m1 fm1 f0 ff0 f1 ff1 f2 ff2 f3 ff3 f4 ff4 p0 fp0 p1 fp1 p2 fp2 p3 fp3 p4 fp4
  try clear hcv
  try clear hr
  rw[show ((⟨#[105]⟩:ByteArray)++⟨#[50]⟩)=⟨#[105,50]⟩ from rfl];have hgo:x9.grownBy (x9.setCell ⟨ko,3,none⟩ (.string ⟨#[105,50]⟩)) (some ko):=by refine grown_setCell ?_ _;exact World.grownBy.refl _ _
  have hbo:(x9.setCell ⟨ko,3,none⟩ (.string ⟨#[105,50]⟩)).heap[ko]?=_:=(heap_setCell_same _ ko 3 _ _ (.string ⟨#[105,50]⟩) HBo.out)
  obtain⟨W2,hW2⟩:∃ q,q=x9.setCell ⟨ko,3,none⟩ (.string ⟨#[105,50]⟩):=⟨_,rfl⟩
  rw[<-hW2] at hgo hbo ⊢;have hfo:Fr 29 x9 W2:=.of_grown hgo (fun j hj=>by injection hj with hj;subst hj;exact⟨_,HBo.out,n32_F⟩);replace HW:=Lib.hid (ext_below HW.out hgo HKO.out);replace HC:=Lib.hid (HC.out.fr hfo);replace HBf:=Lib.hid ((hgo.block _ (lt_of_block HBf.out) (fun e=>by injection e with e;exact HDIS.out.1 e)).trans HBf.out);replace HBd:=Lib.hid ((hgo.block _ (lt_of_block HBd.out) (fun e=>by injection e with e;exact HDIS.out.2.1 e)).trans HBd.out);replace HBr:=Lib.hid ((hgo.block _ (lt_of_block HBr.out) (fun e=>by injection e with e;exact HDIS.out.2.2 e)).trans HBr.out);have HSZW:Hid (W1.heap.size<=W2.heap.size):=Lib.hid (Nat.le_trans HSZP.out hgo.size);replace HBo:=Lib.hid hbo;clear hgo hbo hW2 hfo HSZP;have HSZP:=HSZW;clear HSZW
  have HT:Hid (TSt w W1.heap.size kf kd kr ko ⟨xo,xb,xao,xl,xc,xnm,xko,xkl,xkc⟩ (1) 1 false none 0 0 (⟨#[105,50]⟩) (0) 0 [] (.slice none 0 0) [] W2):=Lib.hid (TSt.zero HBo.out HBf.out HBd.out HBr.out (nr0 _) HLOW.out HDIS.out HKO.out HW.out HSZP.out);have o0:=cell_at (v:=.int .i64 1) HBo.out 0 rfl;have fo0:=froz_at HBo.out 0;have o1:=cell_at (v:=.bool false) HBo.out 1 rfl;have fo1:=froz_at HBo.out 1;have o2:=cell_at (v:=.slice none 0 0) HBo.out 2 rfl;have fo2:=froz_at HBo.out 2;have o3:=cell_at (v:=.string ⟨#[105,50]⟩) HBo.out 3 rfl;have fo3:=froz_at HBo.out 3;have o4:=cell_at (v:=.slice none 0 0) HBo.out 4 rfl;have fo4:=froz_at HBo.out 4;obtain⟨⟨r0,r1,r2,r3,r4⟩,fr0,fr1,fr2,fr3,fr4⟩:=cells5V HBr.out;go_wp2_with fail
  clear o0 fo0 o1 fo1 o2 fo2 o3 fo3 o4 fo4;have hg:=grown5V (w:=W2) (k:=kr) (.int .i64 1) (.bool false) (.slice none 0 0) (.string ⟨#[105,50]⟩) (.slice none 0 0);have hf:Fr 29 W2 _:=.of_grown hg (fun j hj=>by injection hj with hj;subst hj;exact⟨_,HBr.out,n32_F⟩);obtain⟨h1,h2,h3,h4⟩:=HT.out.fin hg hf (by unfold IR;decide) HB0.out HKR.out (by unfold NmOk;simp) (small4 (by decide)) (fun _ _ _=>rfl) (by simp) (rfl)
  (try simp only[Exit.inBlock,Exit.then])
  exact bodyPost_ret (v:=.agg #[.int .i64 1,.bool false,.slice none 0 0,.string ⟨#[105,50]⟩,.slice none 0 0]) (by simp[results,Try.results7,go_sem,r0,r1,r2,r3,r4]) rfl ⟨_,_,rfl,h1,h2,rfl,h3,h4⟩
 have hop2:op=0:=HOP.out;subst hop2;clear HOP;have HSZP:Hid (W1.heap.size<=W1.heap.size):=Lib.hid (Nat.le_refl _);have o0:=cell_at (v:=.int .i64 0) HBo.out 0 rfl;have fo0:=froz_at HBo.out 0;have o1:=cell_at (v:=.bool false) HBo.out 1 rfl;have fo1:=froz_at HBo.out 1;have o2:=cell_at (v:=.slice none 0 0) HBo.out 2 rfl;have fo2:=froz_at HBo.out 2;have o3:=cell_at (v:=.string ⟨#[]⟩) HBo.out 3 rfl;have fo3:=froz_at HBo.out 3;have o4:=cell_at (v:=.slice none 0 0) HBo.out 4 rfl;have fo4:=froz_at HBo.out 4;have m0:=cell_at (v:=.bool zb) HBm.out 0 rfl;have fm0:=froz_at HBm.out 0;have m1:=cell_at (v:=.slice zo zl zc) HBm.out 1 rfl;have fm1:=froz_at HBm.out 1;go_upto_region 21 with fail
 clear o0 fo0 o1 fo1 o2 fo2 o3 fo3 o4 fo4 m0 fm0 m1 fm1;have hgo:W1.grownBy ((W1.setCell ⟨ko,1,none⟩ (.bool zb)).setCell ⟨ko,2,none⟩ (.slice zo zl zc)) (some ko):=by refine grown_setCell ?_ _;refine grown_setCell ?_ _;exact World.grownBy.refl _ _
 have hbo:((W1.setCell ⟨ko,1,none⟩ (.bool zb)).setCell ⟨ko,2,none⟩ (.slice zo zl zc)).heap[ko]?=_:=(heap_setCell_same _ ko 2 _ _ (.slice zo zl zc) (heap_setCell_same _ ko 1 _ _ (.bool zb) HBo.out))
 obtain⟨W2,hW2⟩:∃ q,q=(W1.setCell ⟨ko,1,none⟩ (.bool zb)).setCell ⟨ko,2,none⟩ (.slice zo zl zc):=⟨_,rfl⟩
 rw[<-hW2] at hgo hbo ⊢;have hfo:Fr 29 W1 W2:=.of_grown hgo (fun j hj=>by injection hj with hj;subst hj;exact⟨_,HBo.out,n32_F⟩);replace HW:=Lib.hid (ext_below HW.out hgo HKO.out);replace HC:=Lib.hid (HC.out.fr hfo);replace HBf:=Lib.hid ((hgo.block _ (lt_of_block HBf.out) (fun e=>by injection e with e;exact HDIS.out.1 e)).trans HBf.out);replace HBd:=Lib.hid ((hgo.block _ (lt_of_block HBd.out) (fun e=>by injection e with e;exact HDIS.out.2.1 e)).trans HBd.out);replace HBr:=Lib.hid ((hgo.block _ (lt_of_block HBr.out) (fun e=>by injection e with e;exact HDIS.out.2.2 e)).trans HBr.out);have HSZW:Hid (W1.heap.size<=W2.heap.size):=Lib.hid (Nat.le_trans HSZP.out hgo.size);replace HBo:=Lib.hid hbo;clear hgo hbo hW2 hfo HSZP;have HSZP:=HSZW;clear HSZW
 have HT:Hid (TSt w W1.heap.size kf kd kr ko ⟨xo,xb,xao,xl,xc,xnm,xko,xkl,xkc⟩ (1) 0 zb zo zl zc (⟨#[]⟩) (z) 0 [] (.slice none 0 0) [] W2):=Lib.hid (TSt.zero HBo.out HBf.out HBd.out HBr.out (HC.out) HLOW.out HDIS.out HKO.out HW.out HSZP.out);have o0:=cell_at (v:=.int .i64 0) HBo.out 0 rfl;have fo0:=froz_at HBo.out 0;have o1:=cell_at (v:=.bool zb) HBo.out 1 rfl;have fo1:=froz_at HBo.out 1;have o2:=cell_at (v:=.slice zo zl zc) HBo.out 2 rfl;have fo2:=froz_at HBo.out 2;have o3:=cell_at (v:=.string ⟨#[]⟩) HBo.out 3 rfl;have fo3:=froz_at HBo.out 3;have o4:=cell_at (v:=.slice none 0 0) HBo.out 4 rfl;have fo4:=froz_at HBo.out 4;obtain⟨⟨r0,r1,r2,r3,r4⟩,fr0,fr1,fr2,fr3,fr4⟩:=cells5V HBr.out;go_wp2_with fail
 clear o0 fo0 o1 fo1 o2 fo2 o3 fo3 o4 fo4;have hg:=grown5V (w:=W2) (k:=kr) (.int .i64 0) (.bool zb) (.slice zo zl zc) (.string ⟨#[]⟩) (.slice none 0 0);have hf:Fr 29 W2 _:=.of_grown hg (fun j hj=>by injection hj with hj;subst hj;exact⟨_,HBr.out,n32_F⟩);obtain⟨h1,h2,h3,h4⟩:=HT.out.fin hg hf (by unfold IR;decide) HB0.out HKR.out (by unfold NmOk;simp) (lt_pow_more (k:=2) (k':=4) HCZ.out (by decide)) (fun h _ _=>absurd rfl h) (by simp) (rfl)
 (try simp only[Exit.inBlock,Exit.then])
 exact bodyPost_ret (v:=.agg #[.int .i64 0,.bool zb,.slice zo zl zc,.string ⟨#[]⟩,.slice none 0 0]) (by simp[results,Try.results7,go_sem,r0,r1,r2,r3,r4]) rfl ⟨_,_,rfl,h1,h2,rfl,h3,h4⟩
def opAttame_1z (j:Nat):Int:=[(14:Int),(12:Int)].getD j 0
theorem tame_1z (xo:Int) (xb:Bool) (xao:Option Addr) (xl xc:Nat) (xnm:ByteArray) (xko:Option Addr) (xkl xkc:Nat) (w:World) (hx:RawF w (0+1) ⟨xo,xb,xao,xl,xc,xnm,xko,xkl,xkc⟩) :
  Calls Try.prog 7 #[.agg #[.int .i64 xo,.bool xb,.slice xao xl xc,.string xnm,.slice xko xkl xkc],.int .i64 1,.int .i64 1] w (TamePost (0+1) 1 w):=by
 have HX:=Lib.hid hx;obtain⟨-,hn,-,⟨hk1,hk2⟩,-⟩:=hx;simp only at hn hk1 hk2;have hxm:xkc<=9223372036854775807:=hk2;obtain⟨m,hm⟩:∃ m,m=min xl 2:=⟨_,rfl⟩
 have hmin:min (xl:Int) 2=(m:Int):=by omega
 have hm2:m<=2:=by omega
 have hml:m<=xl:=by omega
 have hx2:∃ q,GN w (.slice xao m xc) q 2/\xl<=xc/\xc<=9223372036854775807:=by
  obtain⟨xs,hs,hdg⟩:=hn;have hl:=sl_len hs;obtain⟨_,_,e,h1,h2,_⟩:=id hs;injection e with e1 e2 e3;subst e3;exact⟨_,⟨xs.take m,hs.take m (by omega),hdg.take m,rfl,by rw[List.length_take];omega⟩,by omega,h2⟩
 obtain⟨q,hq,hlc,hc⟩:=hx2;have hmc:m<=xc:=by omega
 have HG:=Lib.hid hq;clear hq hn hm hk2;obtain⟨K,hK,hK2⟩:=and_255 xo;obtain⟨j,hj⟩:∃ j,j=K % 2:=⟨_,rfl⟩
 have hjm:((K:Nat):Int).tmod 2=((j:Nat):Int):=by rw[hj];exact (Int.ofNat_tmod K 2).symm
 have hjN:j<2:=by rw[hj];exact Nat.mod_lt _ (by decide)
 clear hj hK2;have HW:=Lib.hid (Below.refl w.heap.size w);go_enter Try.func7,Try.ntmps7
 obtain⟨x1,kf,ef,ekf,hbf,hkf,HBf⟩:=newV w #[.int .i64 xo,.bool xb,.slice xao xl xc,.string xnm,.slice xko xkl xkc] 29;replace HW:=Lib.hid (HW.out.trans (hbf.out.mono HW.out.size));replace HG:=Lib.hid (HG.out.below hbf.out);obtain⟨x2,kd,ed,ekd,hbd,hkd,HBd⟩:=newV x1 #[.int .i64 1] 3;replace HBf:=kBV hbd.out HBf;replace HW:=Lib.hid (HW.out.trans (hbd.out.mono HW.out.size));replace HG:=Lib.hid (HG.out.below hbd.out);obtain⟨x3,kr,er,ekr,hbr,hkr,HBr⟩:=newV x2 #[.int .i64 0,.bool false,.slice none 0 0,.string ⟨#[]⟩,.slice none 0 0] 29;replace HBf:=kBV hbr.out HBf;replace HBd:=kBV hbr.out HBd;replace HW:=Lib.hid (HW.out.trans (hbr.out.mono HW.out.size));replace HG:=Lib.hid (HG.out.below hbr.out);have HKR:Hid (w.heap.size<=kr):=Lib.hid (by have h1:=hbf.out.size;have h2:=hbd.out.size;have h3:=hkr.out;omega)
 obtain⟨x4,kp,ep,ekp,hbp,hkp,HBp⟩:=newV x3 #[.int .i64 1,.int .i64 0,.int .i64 2,.int .i64 3,.int .i64 4,.int .i64 5,.int .i64 6,.int .i64 7] 22;replace HBf:=kBV hbp.out HBf;replace HBd:=kBV hbp.out HBd;replace HBr:=kBV hbp.out HBr;replace HW:=Lib.hid (HW.out.trans (hbp.out.mono HW.out.size));replace HG:=Lib.hid (HG.out.below hbp.out);obtain⟨x5,kq,eq,ekq,hbq,hkq,HBq⟩:=newV x4 #[.int .i64 14,.int .i64 12,.int .i64 13,.int .i64 15,.int .i64 16,.int .i64 16,.int .i64 17,.int .i64 18,.int .i64 19,.int .i64 20] 22;replace HBf:=kBV hbq.out HBf;replace HBd:=kBV hbq.out HBd;replace HBr:=kBV hbq.out HBr;replace HBp:=kBV hbq.out HBp;replace HW:=Lib.hid (HW.out.trans (hbq.out.mono HW.out.size));replace HG:=Lib.hid (HG.out.below hbq.out)
 obtain⟨x6,kt,et,ekt,hbt,hkt,HBt⟩:=newV x5 #[.int .i64 8,.int .i64 9,.int .i64 10,.int .i64 11] 22;replace HBf:=kBV hbt.out HBf;replace HBd:=kBV hbt.out HBd;replace HBr:=kBV hbt.out HBr;replace HBp:=kBV hbt.out HBp;replace HBq:=kBV hbt.out HBq;replace HW:=Lib.hid (HW.out.trans (hbt.out.mono HW.out.size));replace HG:=Lib.hid (HG.out.below hbt.out);have hidx:=idx3_1 (some ⟨kp,0,none⟩) (some ⟨kq,0,none⟩) (some ⟨kt,0,none⟩) 8 10 4 8 10 4;have f0:=cell_at (v:=.int .i64 xo) HBf.out 0 rfl;have ff0:=froz_at HBf.out 0;have f1:=cell_at (v:=.bool xb) HBf.out 1 rfl;have ff1:=froz_at HBf.out 1;have f2:=cell_at (v:=.slice xao xl xc) HBf.out 2 rfl;have ff2:=froz_at HBf.out 2;have f3:=cell_at (v:=.string xnm) HBf.out 3 rfl;have ff3:=froz_at HBf.out 3;have f4:=cell_at (v:=.slice xko xkl xkc) HBf.out 4 rfl;have ff4:=froz_at HBf.out 4
 have d0:=cell_at (v:=.int .i64 1) HBd.out 0 rfl;have fd0:=froz_at HBd.out 0
 have hop:x6.cell? ⟨kq,j,none⟩=some (.int .i64 (opAttame_1z j)):=by
  have:j=0\/j=1:=by omega
  rcases this with rfl | rfl<;>exact cell_at HBq.out _ rfl
 obtain⟨op,hopd⟩:∃ op,op=opAttame_1z j:=⟨_,rfl⟩
 rw[<-hopd] at hop;have HOP:=Lib.hid hopd;clear hopd;go_upto_region 7 with fail
 clear f0 ff0 f1 ff1 f2 ff2 f3 ff3 f4 ff4 d0 fd0 hop;clear hidx hjm hK;have HWp:=HW;have HBfp:=HBf;have HBdp:=HBd;have HBrp:=HBr;obtain⟨x7,ko,eo,eko,hbo,hko,HBo⟩:=newV x6 #[.int .i64 op,.bool false,.slice none 0 0,.string ⟨#[]⟩,.slice none 0 0] 29;replace HBf:=kBV hbo.out HBf;replace HBd:=kBV hbo.out HBd;replace HBr:=kBV hbo.out HBr;replace HBp:=kBV hbo.out HBp;replace HBq:=kBV hbo.out HBq;replace HBt:=kBV hbo.out HBt;replace HW:=Lib.hid (HW.out.trans (hbo.out.mono HW.out.size));replace HG:=Lib.hid (HG.out.below hbo.out);rw[eo,eko];have HKO:Hid (w.heap.size<=ko):=Lib.hid (by have:=HWp.out.size;have:=hko.out;omega);go_upto_region 8 with fail
 have HY:=Lib.hid (Below.refl x7.heap.size x7);have HBf0:=HBf;have HBd0:=HBd;have HBr0:=HBr;have HBo0:=HBo;have hlt_f:=lt_of_block HBf.out;have hog:Hid (∀ q,q<0->(fun q=>0) q<x7.heap.size):=Lib.hid (fun q h=>absurd h (Nat.not_lt_zero _));refine R7.region (by kernel_rfl) [[],[0],[0,1],[],[3],[3,4],[],[6],[6,7],[6,7,8],[6,7,8,9],[3,4,5,6,7,8,9,10],[0,1,2,3,4,5,6,7,8,9,10,11],[],[0,1,2,3,4,5,6,7,8,9,10,11,12,13]] [] [] (fun q=>0) 0 14 (by kernel_rfl) (by kernel_rfl) (by rfl) hog.out (fun q q' h h' hn=>absurd hn (by omega)) ?_;refine R7.Chain.det ?_ (by rfl) (fun T xs wr hA=>?_) ?_
 rotate_left 1
 ·have e3:=hA.pre 3 (by kernel_rfl);simp only[gsa,gsc,gsz] at e3;clear hA;refine⟨(by rfl),?_⟩;go_simp<;>(try with_reducible rfl)
 refine R7.Chain.det ?_ (by rfl) (fun T xs wr hA=>?_) ?_
 rotate_left 1
 ·have e36:=hA.tm 0 36 (by rfl) (by rfl);have f36:xs 0=_:=hA.fa 0 (by rfl)
  (try simp (disch:=first | rfl | decide) only [R7.mask_in] at f36)
  rw[f36] at e36;clear f36;clear hA;refine⟨(by rfl),?_⟩;go_simp<;>(try with_reducible rfl)
 refine R7.Chain.det ?_ (by rfl) (fun T xs wr hA=>?_) ?_
 rotate_left 1
 ·have e37:=hA.tm 1 37 (by rfl) (by rfl);have f37:xs 1=_:=hA.fa 1 (by rfl)
  (try simp (disch:=first | rfl | decide) only [R7.mask_in] at f37)
  rw[f37] at e37;clear f37;have hBq:wr.heap[kf]?=_:=(hA.bl _ hlt_f (fun q h=>absurd h (Nat.not_lt_zero _))).trans HBf.out;have q0:=cell_at (v:=.int .i64 xo) hBq 0 rfl;have q1:=cell_at (v:=.bool xb) hBq 1 rfl;have q2:=cell_at (v:=.slice xao xl xc) hBq 2 rfl;have q3:=cell_at (v:=.string xnm) hBq 3 rfl;have q4:=cell_at (v:=.slice xko xkl xkc) hBq 4 rfl;clear hBq;clear hA;refine⟨(by rfl),?_⟩;go_simp<;>(try with_reducible rfl)
 refine R7.Chain.det ?_ (by rfl) (fun T xs wr hA=>?_) ?_
 rotate_left 1
 ·have e3:=hA.pre 3 (by kernel_rfl);simp only[gsa,gsc,gsz] at e3;clear hA;refine⟨(by rfl),?_⟩;go_simp<;>(try with_reducible rfl)
 refine R7.Chain.det ?_ (by rfl) (fun T xs wr hA=>?_) ?_
 rotate_left 1
 ·have e39:=hA.tm 3 39 (by rfl) (by rfl);have f39:xs 3=_:=hA.fa 3 (by rfl)
  (try simp (disch:=first | rfl | decide) only [R7.mask_in] at f39)
  rw[f39] at e39;clear f39;clear hA;refine⟨(by rfl),?_⟩;go_simp<;>(try with_reducible rfl)
 refine R7.Chain.det ?_ (by rfl) (fun T xs wr hA=>?_) ?_
 rotate_left 1
 ·have e40:=hA.tm 4 40 (by rfl) (by rfl);have f40:xs 4=_:=hA.fa 4 (by rfl)
  (try simp (disch:=first | rfl | decide) only [R7.mask_in] at f40)
  rw[f40] at e40;clear f40;have hBq:wr.heap[kf]?=_:=(hA.bl _ hlt_f (fun q h=>absurd h (Nat.not_lt_zero _))).trans HBf.out;have q0:=cell_at (v:=.int .i64 xo) hBq 0 rfl;have q1:=cell_at (v:=.bool xb) hBq 1 rfl;have q2:=cell_at (v:=.slice xao xl xc) hBq 2 rfl;have q3:=cell_at (v:=.string xnm) hBq 3 rfl;have q4:=cell_at (v:=.slice xko xkl xkc) hBq 4 rfl;clear hBq;clear hA;refine⟨(by rfl),?_⟩;go_simp<;>(try with_reducible rfl)
 refine R7.Chain.det ?_ (by rfl) (fun T xs wr hA=>?_) ?_
 rotate_left 1
 ·have e3:=hA.pre 3 (by kernel_rfl);simp only[gsa,gsc,gsz] at e3;clear hA;refine⟨(by rfl),?_⟩;go_simp<;>(try with_reducible rfl)
 refine R7.Chain.det ?_ (by rfl) (fun T xs wr hA=>?_) ?_
 rotate_left 1
 ·have e42:=hA.tm 6 42 (by rfl) (by rfl);have f42:xs 6=_:=hA.fa 6 (by rfl)
  (try simp (disch:=first | rfl | decide) only [R7.mask_in] at f42)
  rw[f42] at e42;clear f42;clear hA;refine⟨(by rfl),?_⟩;go_simp<;>(try with_reducible rfl)
 refine R7.Chain.det ?_ (by rfl) (fun T xs wr hA=>?_) ?_
 rotate_left 1
 ·have e43:=hA.tm 7 43 (by rfl) (by rfl);have f43:xs 7=_:=hA.fa 7 (by rfl)
  (try simp (disch:=first | rfl | decide) only [R7.mask_in] at f43)
  rw[f43] at e43;clear f43;have hBq:wr.heap[kf]?=_:=(hA.bl _ hlt_f (fun q h=>absurd h (Nat.not_lt_zero _))).trans HBf.out;have q0:=cell_at (v:=.int .i64 xo) hBq 0 rfl;have q1:=cell_at (v:=.bool xb) hBq 1 rfl;have q2:=cell_at (v:=.slice xao xl xc) hBq 2 rfl;have q3:=cell_at (v:=.string xnm) hBq 3 rfl;have q4:=cell_at (v:=.slice xko xkl xkc) hBq 4 rfl;clear hBq;clear hA;refine⟨(by rfl),?_⟩;go_simp<;>(try with_reducible rfl)
 refine R7.Chain.det ?_ (by rfl) (fun T xs wr hA=>?_) ?_
 rotate_left 1
 ·have e44:=hA.tm 8 44 (by rfl) (by rfl);have f44:xs 8=_:=hA.fa 8 (by rfl)
  (try simp (disch:=first | rfl | decide) only [R7.mask_in] at f44)
  rw[f44] at e44;clear f44;clear hA;refine⟨(by rfl),?_⟩;go_simp<;>(try with_reducible rfl)
 refine R7.Chain.det ?_ (by rfl) (fun T xs wr hA=>?_) ?_
 rotate_left 1
 ·have e45:=hA.tm 9 45 (by rfl) (by rfl);have f45:xs 9=_:=hA.fa 9 (by rfl)
  (try simp (disch:=first | rfl | decide) only [R7.mask_in] at f45)
  rw[f45] at e45;clear f45;clear hA;refine⟨(by rfl),?_⟩;go_simp<;>(try with_reducible rfl)
 refine R7.Chain.det ?_ (by rfl) (fun T xs wr hA=>?_) ?_
 rotate_left 1
 ·have e41:=hA.tm 5 41 (by rfl) (by rfl);have f41:xs 5=_:=hA.fa 5 (by rfl)
  (try simp (disch:=first | rfl | decide) only [R7.mask_in] at f41)
  rw[f41] at e41;clear f41;have e46:=hA.tm 10 46 (by rfl) (by rfl);have f46:xs 10=_:=hA.fa 10 (by rfl)
  (try simp (disch:=first | rfl | decide) only [R7.mask_in] at f46)
  rw[f46] at e46;clear f46;clear hA;refine⟨(by rfl),?_⟩;go_simp<;>(try with_reducible rfl)
 refine R7.Chain.call (fun xs v w=>∃ z,CI w v z 2) (fun _ _ _ _ h hb=>by obtain⟨z,h2⟩:=h;exact⟨z,h2.below hb⟩) (fun _ _ _ _ _ _ h _=>by obtain⟨q,hq,_⟩:=h;exact absurd hq (Nat.not_lt_zero _)) (by rfl) (fun T xs wr hA=>?_) ?_
 ·have hsw:=(hA.be 0 (Nat.zero_le _) (fun _ _=>Nat.zero_le _)).size;have e38:=hA.tm 2 38 (by rfl) (by rfl);have f38:xs 2=_:=hA.fa 2 (by rfl)
  (try simp (disch:=first | rfl | decide) only [R7.mask_in] at f38)
  rw[f38] at e38;clear f38;have e47:=hA.tm 11 47 (by rfl) (by rfl);have f47:xs 11=_:=hA.fa 11 (by rfl)
  (try simp (disch:=first | rfl | decide) only [R7.mask_in] at f47)
  rw[f47] at e47;clear f47;have hbw:=undrew (hA.be x7.heap.size (Nat.le_refl _) (fun q h=>absurd h (Nat.not_lt_zero q)));clear hA;refine⟨(by rfl),fun K hK=>?_⟩;go_simp
  refine (big_any xb _ q 2 wr (HG.out.below hbw) (by decide)).mono ?_;rintro e w' ⟨v,rfl,hc,hb'⟩;exact hK.out _ _ ⟨_,hc⟩ hb'
 refine R7.Chain.call (fun xs v w=>∃ g,v=.pointer (some ⟨g,0,none⟩)/\x7.heap.size<=g/\w.heap[g]?=some (.cells #[.bool false,.slice none 0 0] 26 (0,0))) (fun _ _ _ _ h hb=>by obtain⟨g,h1,h2,h3⟩:=h;exact⟨g,h1,h2,by rw[hb.block g (lt_of_block h3)];exact h3⟩) (fun _ _ _ _ _ _ h _=>by obtain⟨q,hq,_⟩:=h;exact absurd hq (Nat.not_lt_zero _)) (by rfl) (fun T xs wr hA=>?_) ?_
 ·have hsw:=(hA.be 0 (Nat.zero_le _) (fun _ _=>Nat.zero_le _)).size;have hbw:=undrew (hA.be x7.heap.size (Nat.le_refl _) (fun q h=>absurd h (Nat.not_lt_zero q)));clear hA;refine⟨(by rfl),fun K hK=>?_⟩;go_simp
  exact hK.out _ _ ⟨_,rfl,hbw.size,made_at _ _ _ rfl⟩ ((Below.refl _ _).alloc (Nat.le_refl _) _)
 refine R7.Chain.done (fun xs x8 hL=>?_);obtain⟨⟨hbe,hbl⟩,hf,-,-⟩:=hL;have f0:xs 0=_:=hf 0 (by decide)
 (try simp (disch:=first | rfl | decide) only [R7.mask_in] at f0)
 have f1:xs 1=_:=hf 1 (by decide)
 (try simp (disch:=first | rfl | decide) only [R7.mask_in] at f1)
 have f2:xs 2=_:=hf 2 (by decide)
 (try simp (disch:=first | rfl | decide) only [R7.mask_in] at f2)
 have f3:xs 3=_:=hf 3 (by decide)
 (try simp (disch:=first | rfl | decide) only [R7.mask_in] at f3)
 have f4:xs 4=_:=hf 4 (by decide)
 (try simp (disch:=first | rfl | decide) only [R7.mask_in] at f4)
 have f5:xs 5=_:=hf 5 (by decide)
 (try simp (disch:=first | rfl | decide) only [R7.mask_in] at f5)
 have f6:xs 6=_:=hf 6 (by decide)
 (try simp (disch:=first | rfl | decide) only [R7.mask_in] at f6)
 have f7:xs 7=_:=hf 7 (by decide)
 (try simp (disch:=first | rfl | decide) only [R7.mask_in] at f7)
 have f8:xs 8=_:=hf 8 (by decide)
 (try simp (disch:=first | rfl | decide) only [R7.mask_in] at f8)
 have f9:xs 9=_:=hf 9 (by decide)
 (try simp (disch:=first | rfl | decide) only [R7.mask_in] at f9)
 have f10:xs 10=_:=hf 10 (by decide)
 (try simp (disch:=first | rfl | decide) only [R7.mask_in] at f10)
 have f11:xs 11=_:=hf 11 (by decide)
 (try simp (disch:=first | rfl | decide) only [R7.mask_in] at f11)
 have F12:∃ z,CI x8 (xs 12) z 2:=hf 12 (by decide);have F13:∃ g,(xs 13)=.pointer (some ⟨g,0,none⟩)/\x7.heap.size<=g/\x8.heap[g]?=some (.cells #[.bool false,.slice none 0 0] 26 (0,0)):=hf 13 (by decide);have hb0:Below 0 x7 x8:=undrew (hbe 0 (Nat.zero_le _) (fun _ _=>Nat.zero_le _));have hgr:∀ j,j<x7.heap.size->(∀ q,q<0->(fun q=>0) q≠j)->x8.heap[j]?=x7.heap[j]?:=hbl;clear hbe hbl hf;have hb:Below x7.heap.size x7 x8:=⟨hb0.os,hb0.tape,hb0.output,hb0.size,fun q hq=>hgr q hq (fun q h=>absurd h (Nat.not_lt_zero _))⟩
 refine R7.rest_list (by decide) (by kernel_rfl) ?_;simp only[R7.fill,t1_,t2_,t3_,t4_,t5_,t6_,t7_,f0,f1,f2,f3,f4,f5,f6,f7,f8,f9,f10,f11];clear hb0 hgr hog hlt_f f0 f1 f2 f3 f4 f5 f6 f7 f8 f9 f10 f11;replace HBf:=kBV hb HBf;replace HBd:=kBV hb HBd;replace HBr:=kBV hb HBr;replace HBp:=kBV hb HBp;replace HBq:=kBV hb HBq;replace HBt:=kBV hb HBt;replace HBo:=kBV hb HBo;replace HW:=Lib.hid (HW.out.trans (hb.mono HW.out.size));replace HG:=Lib.hid (HG.out.below hb);replace HY:=Lib.hid (HY.out.trans (hb.mono HY.out.size));replace hb:=Lib.hid hb;obtain⟨z,hcz⟩:=F12;obtain⟨zb,zo,zl,zc,hzv⟩:=hcz.shape;obtain⟨km,hkm,hkm1,hkm2⟩:=F13;rw[hzv] at hcz;rw[hzv,hkm];have HC:=Lib.hid (hcz.mono (k':=600) (by decide));have HCZ:=Lib.hid hcz.lt;have HBm:=Lib.hid hkm2;clear hcz hzv hkm hkm2;have m0:=cell_at (v:=.bool false) HBm.out 0 rfl
 have fm0:=froz_at HBm.out 0;have m1:=cell_at (v:=.slice none 0 0) HBm.out 1 rfl;have fm1:=froz_at HBm.out 1;go_upto_region 9 with fail
 clear m0 fm0 m1 fm1;have hg1:=grown2V (w:=x8) (k:=km) (.bool zb) (.slice zo zl zc);have hb1:((x8.setCell ⟨km,0,none⟩ (.bool zb)).setCell ⟨km,1,none⟩ (.slice zo zl zc)).heap[km]?=_:=heap_setCell_same _ km 1 _ _ _ (heap_setCell_same _ km 0 _ _ _ HBm.out);obtain⟨W1,hW1⟩:∃ q,q=(x8.setCell ⟨km,0,none⟩ (.bool zb)).setCell ⟨km,1,none⟩ (.slice zo zl zc):=⟨_,rfl⟩
 rw[<-hW1] at hg1 hb1 ⊢;have hf1:Fr 26 x8 W1:=.of_grown hg1 (fun j hj=>by injection hj with hj;subst hj;exact⟨_,HBm.out,n32_2⟩);have HKM:Hid (w.heap.size<=km):=Lib.hid (Nat.le_trans (by have:=HKO.out;have:=lt_of_block HBo0.out;omega) hkm1);replace HW:=Lib.hid (ext_below HW.out hg1 HKM.out);replace HY:=Lib.hid (ext_below HY.out hg1 hkm1);replace HC:=Lib.hid (HC.out.fr hf1);replace HBf:=Lib.hid ((HY.out.block _ (lt_of_block HBf0.out)).trans HBf0.out);replace HBd:=Lib.hid ((HY.out.block _ (lt_of_block HBd0.out)).trans HBd0.out);replace HBr:=Lib.hid ((HY.out.block _ (lt_of_block HBr0.out)).trans HBr0.out);replace HBo:=Lib.hid ((HY.out.block _ (lt_of_block HBo0.out)).trans HBo0.out);replace HBm:=Lib.hid hb1;clear hg1 hb1 hW1 hf1 hkm1
 have HLOW:Hid (kf<W1.heap.size/\kd<W1.heap.size/\kr<W1.heap.size/\ko<W1.heap.size):=Lib.hid ⟨lt_of_block HBf.out,lt_of_block HBd.out,lt_of_block HBr.out,lt_of_block HBo.out⟩;have HDIS:Hid (kf≠ko/\kd≠ko/\kr≠ko):=Lib.hid (by have h1:=lt_of_block HBfp.out;have h2:=lt_of_block HBdp.out;have h3:=lt_of_block HBrp.out;rw[eko] at h1 h2 h3;omega);have HB0:Hid (w.heap.size<=W1.heap.size):=Lib.hid HW.out.size;have hjc:j=0\/j=1:=by omega
 rcases hjc with rfl | rfl
 ·have hop2:op=14:=HOP.out;subst hop2;clear HOP;have HSZP:Hid (W1.heap.size<=W1.heap.size):=Lib.hid (Nat.le_refl _);rcases (tmod_cases xnm.size).2 with hr | hr
  ·have o0:=cell_at (v:=.int .i64 14) HBo.out 0 rfl;have fo0:=froz_at HBo.out 0;have o1:=cell_at (v:=.bool false) HBo.out 1 rfl;have fo1:=froz_at HBo.out 1;have o2:=cell_at (v:=.slice none 0 0) HBo.out 2 rfl;have fo2:=froz_at HBo.out 2;have o3:=cell_at (v:=.string ⟨#[]⟩) HBo.out 3 rfl;have fo3:=froz_at HBo.out 3;have o4:=cell_at (v:=.slice none 0 0) HBo.out 4 rfl;have fo4:=froz_at HBo.out 4;have m0:=cell_at (v:=.bool zb) HBm.out 0 rfl;have fm0:=froz_at HBm.out 0;have m1:=cell_at (v:=.slice zo zl zc) HBm.out 1 rfl;have fm1:=froz_at HBm.out 1;have f0:=cell_at (v:=.int .i64 xo) HBf.out 0 rfl;have ff0:=froz_at HBf.out 0;have f1:=cell_at (v:=.bool xb) HBf.out 1 rfl;have ff1:=froz_at HBf.out 1;have f2:=cell_at (v:=.slice xao xl xc) HBf.out 2 rfl;have ff2:=froz_at HBf.out 2;have f3:=cell_at (v:=.string xnm) HBf.out 3 rfl
   have ff3:=froz_at HBf.out 3;have f4:=cell_at (v:=.slice xko xkl xkc) HBf.out 4 rfl;have ff4:=froz_at HBf.out 4;have hcv:=one_byteL 48 48 (by decide) W1;obtain⟨x9,ky,ey,eky,hby,hky,HBy⟩:=newV W1 #[.int .u8 48] 5;replace HBf:=kBV hby.out HBf;replace HBd:=kBV hby.out HBd;replace HBr:=kBV hby.out HBr;replace HBo:=kBV hby.out HBo;replace HBm:=kBV hby.out HBm;replace HW:=Lib.hid (HW.out.trans (hby.out.mono HW.out.size));replace HC:=Lib.hid (HC.out.below hby.out);rw[ey,eky] at hcv;have p0:=cell_at (v:=.int .i64 14) HBo.out 0 rfl;have fp0:=froz_at HBo.out 0;have p1:=cell_at (v:=.bool false) HBo.out 1 rfl;have fp1:=froz_at HBo.out 1;have p2:=cell_at (v:=.slice none 0 0) HBo.out 2 rfl;have fp2:=froz_at HBo.out 2;have p3:=cell_at (v:=.string ⟨#[]⟩) HBo.out 3 rfl;have fp3:=froz_at HBo.out 3
   have p4:=cell_at (v:=.slice none 0 0) HBo.out 4 rfl;have fp4:=froz_at HBo.out 4;replace HSZP:=Lib.hid (Nat.le_trans HSZP.out hby.out.size);go_upto_region 21 with fail
   clear o0 fo0 o1 fo1 o2 fo2 o3 fo3 o4 fo4 m0 fm0 m1 fm1 f0 ff0 f1 ff1 f2 ff2 f3 ff3 f4 ff4 p0 fp0 p1 fp1 p2 fp2 p3 fp3 p4 fp4
   try clear hcv
   try clear hr
   rw[show ((⟨#[98]⟩:ByteArray)++⟨#[48]⟩)=⟨#[98,48]⟩ from rfl];have hgo:x9.grownBy (x9.setCell ⟨ko,3,none⟩ (.string ⟨#[98,48]⟩)) (some ko):=by refine grown_setCell ?_ _;exact World.grownBy.refl _ _
   have hbo:(x9.setCell ⟨ko,3,none⟩ (.string ⟨#[98,48]⟩)).heap[ko]?=_:=(heap_setCell_same _ ko 3 _ _ (.string ⟨#[98,48]⟩) HBo.out)
   obtain⟨W2,hW2⟩:∃ q,q=x9.setCell ⟨ko,3,none⟩ (.string ⟨#[98,48]⟩):=⟨_,rfl⟩
   rw[<-hW2] at hgo hbo ⊢;have hfo:Fr 29 x9 W2:=.of_grown hgo (fun j hj=>by injection hj with hj;subst hj;exact⟨_,HBo.out,n32_F⟩);replace HW:=Lib.hid (ext_below HW.out hgo HKO.out);replace HC:=Lib.hid (HC.out.fr hfo);replace HBf:=Lib.hid ((hgo.block _ (lt_of_block HBf.out) (fun e=>by injection e with e;exact HDIS.out.1 e)).trans HBf.out);replace HBd:=Lib.hid ((hgo.block _ (lt_of_block HBd.out) (fun e=>by injection e with e;exact HDIS.out.2.1 e)).trans HBd.out);replace HBr:=Lib.hid ((hgo.block _ (lt_of_block HBr.out) (fun e=>by injection e with e;exact HDIS.out.2.2 e)).trans HBr.out);have HSZW:Hid (W1.heap.size<=W2.heap.size):=Lib.hid (Nat.le_trans HSZP.out hgo.size);replace HBo:=Lib.hid hbo;clear hgo hbo hW2 hfo HSZP;have HSZP:=HSZW;clear HSZW
   have HT:Hid (TSt w W1.heap.size kf kd kr ko ⟨xo,xb,xao,xl,xc,xnm,xko,xkl,xkc⟩ (1) 14 false none 0 0 (⟨#[98,48]⟩) (0) 0 [] (.slice none 0 0) [] W2):=Lib.hid (TSt.zero HBo.out HBf.out HBd.out HBr.out (nr0 _) HLOW.out HDIS.out HKO.out HW.out HSZP.out);have o0:=cell_at (v:=.int .i64 14) HBo.out 0 rfl;have fo0:=froz_at HBo.out 0;have o1:=cell_at (v:=.bool false) HBo.out 1 rfl;have fo1:=froz_at HBo.out 1;have o2:=cell_at (v:=.slice none 0 0) HBo.out 2 rfl;have fo2:=froz_at HBo.out 2;have o3:=cell_at (v:=.string ⟨#[98,48]⟩) HBo.out 3 rfl;have fo3:=froz_at HBo.out 3;have o4:=cell_at (v:=.slice none 0 0) HBo.out 4 rfl;have fo4:=froz_at HBo.out 4;obtain⟨⟨r0,r1,r2,r3,r4⟩,fr0,fr1,fr2,fr3,fr4⟩:=cells5V HBr.out;go_wp2_with fail
   clear o0 fo0 o1 fo1 o2 fo2 o3 fo3 o4 fo4;have hg:=grown5V (w:=W2) (k:=kr) (.int .i64 14) (.bool false) (.slice none 0 0) (.string ⟨#[98,48]⟩) (.slice none 0 0);have hf:Fr 29 W2 _:=.of_grown hg (fun j hj=>by injection hj with hj;subst hj;exact⟨_,HBr.out,n32_F⟩);obtain⟨h1,h2,h3,h4⟩:=HT.out.fin hg hf (by unfold IR;decide) HB0.out HKR.out (by unfold NmOk;simp) (small4 (by decide)) (fun _ _ _=>rfl) (by simp) (rfl)
   (try simp only[Exit.inBlock,Exit.then])
   exact bodyPost_ret (v:=.agg #[.int .i64 14,.bool false,.slice none 0 0,.string ⟨#[98,48]⟩,.slice none 0 0]) (by simp[results,Try.results7,go_sem,r0,r1,r2,r3,r4]) rfl ⟨_,_,rfl,h1,h2,rfl,h3,h4⟩
  have o0:=cell_at (v:=.int .i64 14) HBo.out 0 rfl;have fo0:=froz_at HBo.out 0;have o1:=cell_at (v:=.bool false) HBo.out 1 rfl;have fo1:=froz_at HBo.out 1;have o2:=cell_at (v:=.slice none 0 0) HBo.out 2 rfl;have fo2:=froz_at HBo.out 2;have o3:=cell_at (v:=.string ⟨#[]⟩) HBo.out 3 rfl;have fo3:=froz_at HBo.out 3;have o4:=cell_at (v:=.slice none 0 0) HBo.out 4 rfl;have fo4:=froz_at HBo.out 4;have m0:=cell_at (v:=.bool zb) HBm.out 0 rfl;have fm0:=froz_at HBm.out 0;have m1:=cell_at (v:=.slice zo zl zc) HBm.out 1 rfl;have fm1:=froz_at HBm.out 1;have f0:=cell_at (v:=.int .i64 xo) HBf.out 0 rfl;have ff0:=froz_at HBf.out 0;have f1:=cell_at (v:=.bool xb) HBf.out 1 rfl;have ff1:=froz_at HBf.out 1;have f2:=cell_at (v:=.slice xao xl xc) HBf.out 2 rfl;have ff2:=froz_at HBf.out 2;have f3:=cell_at (v:=.string xnm) HBf.out 3 rfl
  have ff3:=froz_at HBf.out 3;have f4:=cell_at (v:=.slice xko xkl xkc) HBf.out 4 rfl;have ff4:=froz_at HBf.out 4;have hcv:=one_byteL 49 49 (by decide) W1;obtain⟨x9,ky,ey,eky,hby,hky,HBy⟩:=newV W1 #[.int .u8 49] 5;replace HBf:=kBV hby.out HBf;replace HBd:=kBV hby.out HBd;replace HBr:=kBV hby.out HBr;replace HBo:=kBV hby.out HBo;replace HBm:=kBV hby.out HBm;replace HW:=Lib.hid (HW.out.trans (hby.out.mono HW.out.size));replace HC:=Lib.hid (HC.out.below hby.out);rw[ey,eky] at hcv;have p0:=cell_at (v:=.int .i64 14) HBo.out 0 rfl;have fp0:=froz_at HBo.out 0;have p1:=cell_at (v:=.bool false) HBo.out 1 rfl;have fp1:=froz_at HBo.out 1;have p2:=cell_at (v:=.slice none 0 0) HBo.out 2 rfl;have fp2:=froz_at HBo.out 2;have p3:=cell_at (v:=.string ⟨#[]⟩) HBo.out 3 rfl;have fp3:=froz_at HBo.out 3
  have p4:=cell_at (v:=.slice none 0 0) HBo.out 4 rfl;have fp4:=froz_at HBo.out 4;replace HSZP:=Lib.hid (Nat.le_trans HSZP.out hby.out.size);go_upto_region 21 with fail
  clear o0 fo0 o1 fo1 o2 fo2 o3 fo3 o4 fo4 m0 fm0 m1 fm1 f0 ff0 f1 ff1 f2 ff2 f3 ff3 f4 ff4 p0 fp0 p1 fp1 p2 fp2 p3 fp3 p4 fp4
  try clear hcv
  try clear hr
  rw[show ((⟨#[98]⟩:ByteArray)++⟨#[49]⟩)=⟨#[98,49]⟩ from rfl];have hgo:x9.grownBy (x9.setCell ⟨ko,3,none⟩ (.string ⟨#[98,49]⟩)) (some ko):=by refine grown_setCell ?_ _;exact World.grownBy.refl _ _
  have hbo:(x9.setCell ⟨ko,3,none⟩ (.string ⟨#[98,49]⟩)).heap[ko]?=_:=(heap_setCell_same _ ko 3 _ _ (.string ⟨#[98,49]⟩) HBo.out)
  obtain⟨W2,hW2⟩:∃ q,q=x9.setCell ⟨ko,3,none⟩ (.string ⟨#[98,49]⟩):=⟨_,rfl⟩
  rw[<-hW2] at hgo hbo ⊢;have hfo:Fr 29 x9 W2:=.of_grown hgo (fun j hj=>by injection hj with hj;subst hj;exact⟨_,HBo.out,n32_F⟩);replace HW:=Lib.hid (ext_below HW.out hgo HKO.out);replace HC:=Lib.hid (HC.out.fr hfo);replace HBf:=Lib.hid ((hgo.block _ (lt_of_block HBf.out) (fun e=>by injection e with e;exact HDIS.out.1 e)).trans HBf.out);replace HBd:=Lib.hid ((hgo.block _ (lt_of_block HBd.out) (fun e=>by injection e with e;exact HDIS.out.2.1 e)).trans HBd.out);replace HBr:=Lib.hid ((hgo.block _ (lt_of_block HBr.out) (fun e=>by injection e with e;exact HDIS.out.2.2 e)).trans HBr.out);have HSZW:Hid (W1.heap.size<=W2.heap.size):=Lib.hid (Nat.le_trans HSZP.out hgo.size);replace HBo:=Lib.hid hbo;clear hgo hbo hW2 hfo HSZP;have HSZP:=HSZW;clear HSZW
  have HT:Hid (TSt w W1.heap.size kf kd kr ko ⟨xo,xb,xao,xl,xc,xnm,xko,xkl,xkc⟩ (1) 14 false none 0 0 (⟨#[98,49]⟩) (0) 0 [] (.slice none 0 0) [] W2):=Lib.hid (TSt.zero HBo.out HBf.out HBd.out HBr.out (nr0 _) HLOW.out HDIS.out HKO.out HW.out HSZP.out);have o0:=cell_at (v:=.int .i64 14) HBo.out 0 rfl;have fo0:=froz_at HBo.out 0;have o1:=cell_at (v:=.bool false) HBo.out 1 rfl;have fo1:=froz_at HBo.out 1;have o2:=cell_at (v:=.slice none 0 0) HBo.out 2 rfl;have fo2:=froz_at HBo.out 2;have o3:=cell_at (v:=.string ⟨#[98,49]⟩) HBo.out 3 rfl;have fo3:=froz_at HBo.out 3;have o4:=cell_at (v:=.slice none 0 0) HBo.out 4 rfl;have fo4:=froz_at HBo.out 4;obtain⟨⟨r0,r1,r2,r3,r4⟩,fr0,fr1,fr2,fr3,fr4⟩:=cells5V HBr.out;go_wp2_with fail
  clear o0 fo0 o1 fo1 o2 fo2 o3 fo3 o4 fo4;have hg:=grown5V (w:=W2) (k:=kr) (.int .i64 14) (.bool false) (.slice none 0 0) (.string ⟨#[98,49]⟩) (.slice none 0 0);have hf:Fr 29 W2 _:=.of_grown hg (fun j hj=>by injection hj with hj;subst hj;exact⟨_,HBr.out,n32_F⟩);obtain⟨h1,h2,h3,h4⟩:=HT.out.fin hg hf (by unfold IR;decide) HB0.out HKR.out (by unfold NmOk;simp) (small4 (by decide)) (fun _ _ _=>rfl) (by simp) (rfl)
  (try simp only[Exit.inBlock,Exit.then])
  exact bodyPost_ret (v:=.agg #[.int .i64 14,.bool false,.slice none 0 0,.string ⟨#[98,49]⟩,.slice none 0 0]) (by simp[results,Try.results7,go_sem,r0,r1,r2,r3,r4]) rfl ⟨_,_,rfl,h1,h2,rfl,h3,h4⟩
 have hop2:op=12:=HOP.out;subst hop2;clear HOP;have HSZP:Hid (W1.heap.size<=W1.heap.size):=Lib.hid (Nat.le_refl _);have HT:Hid (TSt w W1.heap.size kf kd kr ko ⟨xo,xb,xao,xl,xc,xnm,xko,xkl,xkc⟩ (1) 12 false none 0 0 (⟨#[]⟩) (0) 0 [] (.slice none 0 0) [] W1):=Lib.hid (TSt.zero HBo.out HBf.out HBd.out HBr.out (nr0 _) HLOW.out HDIS.out HKO.out HW.out HSZP.out);have o0:=cell_at (v:=.int .i64 12) HBo.out 0 rfl;have fo0:=froz_at HBo.out 0;have o1:=cell_at (v:=.bool false) HBo.out 1 rfl;have fo1:=froz_at HBo.out 1;have o2:=cell_at (v:=.slice none 0 0) HBo.out 2 rfl;have fo2:=froz_at HBo.out 2;have o3:=cell_at (v:=.string ⟨#[]⟩) HBo.out 3 rfl;have fo3:=froz_at HBo.out 3;have o4:=cell_at (v:=.slice none 0 0) HBo.out 4 rfl;have fo4:=froz_at HBo.out 4;obtain⟨⟨r0,r1,r2,r3,r4⟩,fr0,fr1,fr2,fr3,fr4⟩:=cells5V HBr.out;go_wp2_with fail
 clear o0 fo0 o1 fo1 o2 fo2 o3 fo3 o4 fo4;have hg:=grown5V (w:=W1) (k:=kr) (.int .i64 12) (.bool false) (.slice none 0 0) (.string ⟨#[]⟩) (.slice none 0 0);have hf:Fr 29 W1 _:=.of_grown hg (fun j hj=>by injection hj with hj;subst hj;exact⟨_,HBr.out,n32_F⟩);obtain⟨h1,h2,h3,h4⟩:=HT.out.fin hg hf (by unfold IR;decide) HB0.out HKR.out (by unfold NmOk;simp) (small4 (by decide)) (fun _ _ _=>rfl) (by simp) (rfl)
 (try simp only[Exit.inBlock,Exit.then])
 exact bodyPost_ret (v:=.agg #[.int .i64 12,.bool false,.slice none 0 0,.string ⟨#[]⟩,.slice none 0 0]) (by simp[results,Try.results7,go_sem,r0,r1,r2,r3,r4]) rfl ⟨_,_,rfl,h1,h2,rfl,h3,h4⟩
def opAttame_2z (j:Nat):Int:=[(8:Int),(9:Int)].getD j 0
theorem tame_2z (xo:Int) (xb:Bool) (xao:Option Addr) (xl xc:Nat) (xnm:ByteArray) (xko:Option Addr) (xkl xkc:Nat) (w:World) (hx:RawF w (0+1) ⟨xo,xb,xao,xl,xc,xnm,xko,xkl,xkc⟩) :
  Calls Try.prog 7 #[.agg #[.int .i64 xo,.bool xb,.slice xao xl xc,.string xnm,.slice xko xkl xkc],.int .i64 2,.int .i64 1] w (TamePost (0+1) 2 w):=by
 have HX:=Lib.hid hx;obtain⟨-,hn,-,⟨hk1,hk2⟩,-⟩:=hx;simp only at hn hk1 hk2;have hxm:xkc<=9223372036854775807:=hk2;obtain⟨m,hm⟩:∃ m,m=min xl 2:=⟨_,rfl⟩
 have hmin:min (xl:Int) 2=(m:Int):=by omega
 have hm2:m<=2:=by omega
 have hml:m<=xl:=by omega
 have hx2:∃ q,GN w (.slice xao m xc) q 2/\xl<=xc/\xc<=9223372036854775807:=by
  obtain⟨xs,hs,hdg⟩:=hn;have hl:=sl_len hs;obtain⟨_,_,e,h1,h2,_⟩:=id hs;injection e with e1 e2 e3;subst e3;exact⟨_,⟨xs.take m,hs.take m (by omega),hdg.take m,rfl,by rw[List.length_take];omega⟩,by omega,h2⟩
 obtain⟨q,hq,hlc,hc⟩:=hx2;have hmc:m<=xc:=by omega
 have HG:=Lib.hid hq;clear hq hn hm hk2;obtain⟨K,hK,hK2⟩:=and_255 xo;obtain⟨j,hj⟩:∃ j,j=K % 2:=⟨_,rfl⟩
 have hjm:((K:Nat):Int).tmod 2=((j:Nat):Int):=by rw[hj];exact (Int.ofNat_tmod K 2).symm
 have hjN:j<2:=by rw[hj];exact Nat.mod_lt _ (by decide)
 clear hj hK2;have HW:=Lib.hid (Below.refl w.heap.size w);go_enter Try.func7,Try.ntmps7
 obtain⟨x1,kf,ef,ekf,hbf,hkf,HBf⟩:=newV w #[.int .i64 xo,.bool xb,.slice xao xl xc,.string xnm,.slice xko xkl xkc] 29;replace HW:=Lib.hid (HW.out.trans (hbf.out.mono HW.out.size));replace HG:=Lib.hid (HG.out.below hbf.out);obtain⟨x2,kd,ed,ekd,hbd,hkd,HBd⟩:=newV x1 #[.int .i64 1] 3;replace HBf:=kBV hbd.out HBf;replace HW:=Lib.hid (HW.out.trans (hbd.out.mono HW.out.size));replace HG:=Lib.hid (HG.out.below hbd.out);obtain⟨x3,kr,er,ekr,hbr,hkr,HBr⟩:=newV x2 #[.int .i64 0,.bool false,.slice none 0 0,.string ⟨#[]⟩,.slice none 0 0] 29;replace HBf:=kBV hbr.out HBf;replace HBd:=kBV hbr.out HBd;replace HW:=Lib.hid (HW.out.trans (hbr.out.mono HW.out.size));replace HG:=Lib.hid (HG.out.below hbr.out);have HKR:Hid (w.heap.size<=kr):=Lib.hid (by have h1:=hbf.out.size;have h2:=hbd.out.size;have h3:=hkr.out;omega)
 obtain⟨x4,kp,ep,ekp,hbp,hkp,HBp⟩:=newV x3 #[.int .i64 1,.int .i64 0,.int .i64 2,.int .i64 3,.int .i64 4,.int .i64 5,.int .i64 6,.int .i64 7] 22;replace HBf:=kBV hbp.out HBf;replace HBd:=kBV hbp.out HBd;replace HBr:=kBV hbp.out HBr;replace HW:=Lib.hid (HW.out.trans (hbp.out.mono HW.out.size));replace HG:=Lib.hid (HG.out.below hbp.out);obtain⟨x5,kq,eq,ekq,hbq,hkq,HBq⟩:=newV x4 #[.int .i64 14,.int .i64 12,.int .i64 13,.int .i64 15,.int .i64 16,.int .i64 16,.int .i64 17,.int .i64 18,.int .i64 19,.int .i64 20] 22;replace HBf:=kBV hbq.out HBf;replace HBd:=kBV hbq.out HBd;replace HBr:=kBV hbq.out HBr;replace HBp:=kBV hbq.out HBp;replace HW:=Lib.hid (HW.out.trans (hbq.out.mono HW.out.size));replace HG:=Lib.hid (HG.out.below hbq.out)
 obtain⟨x6,kt,et,ekt,hbt,hkt,HBt⟩:=newV x5 #[.int .i64 8,.int .i64 9,.int .i64 10,.int .i64 11] 22;replace HBf:=kBV hbt.out HBf;replace HBd:=kBV hbt.out HBd;replace HBr:=kBV hbt.out HBr;replace HBp:=kBV hbt.out HBp;replace HBq:=kBV hbt.out HBq;replace HW:=Lib.hid (HW.out.trans (hbt.out.mono HW.out.size));replace HG:=Lib.hid (HG.out.below hbt.out);have hidx:=idx3_2 (some ⟨kp,0,none⟩) (some ⟨kq,0,none⟩) (some ⟨kt,0,none⟩) 8 10 4 8 10 4;have f0:=cell_at (v:=.int .i64 xo) HBf.out 0 rfl;have ff0:=froz_at HBf.out 0;have f1:=cell_at (v:=.bool xb) HBf.out 1 rfl;have ff1:=froz_at HBf.out 1;have f2:=cell_at (v:=.slice xao xl xc) HBf.out 2 rfl;have ff2:=froz_at HBf.out 2;have f3:=cell_at (v:=.string xnm) HBf.out 3 rfl;have ff3:=froz_at HBf.out 3;have f4:=cell_at (v:=.slice xko xkl xkc) HBf.out 4 rfl;have ff4:=froz_at HBf.out 4
 have d0:=cell_at (v:=.int .i64 1) HBd.out 0 rfl;have fd0:=froz_at HBd.out 0
 have hop:x6.cell? ⟨kt,j,none⟩=some (.int .i64 (opAttame_2z j)):=by
  have:j=0\/j=1:=by omega
  rcases this with rfl | rfl<;>exact cell_at HBt.out _ rfl
 obtain⟨op,hopd⟩:∃ op,op=opAttame_2z j:=⟨_,rfl⟩
 rw[<-hopd] at hop;have HOP:=Lib.hid hopd;clear hopd;go_upto_region 7 with fail
 clear f0 ff0 f1 ff1 f2 ff2 f3 ff3 f4 ff4 d0 fd0 hop;clear hidx hjm hK;have HWp:=HW;have HBfp:=HBf;have HBdp:=HBd;have HBrp:=HBr;obtain⟨x7,ko,eo,eko,hbo,hko,HBo⟩:=newV x6 #[.int .i64 op,.bool false,.slice none 0 0,.string ⟨#[]⟩,.slice none 0 0] 29;replace HBf:=kBV hbo.out HBf;replace HBd:=kBV hbo.out HBd;replace HBr:=kBV hbo.out HBr;replace HBp:=kBV hbo.out HBp;replace HBq:=kBV hbo.out HBq;replace HBt:=kBV hbo.out HBt;replace HW:=Lib.hid (HW.out.trans (hbo.out.mono HW.out.size));replace HG:=Lib.hid (HG.out.below hbo.out);rw[eo,eko];have HKO:Hid (w.heap.size<=ko):=Lib.hid (by have:=HWp.out.size;have:=hko.out;omega);go_upto_region 8 with fail
 have HY:=Lib.hid (Below.refl x7.heap.size x7);have HBf0:=HBf;have HBd0:=HBd;have HBr0:=HBr;have HBo0:=HBo;have hlt_f:=lt_of_block HBf.out;have hog:Hid (∀ q,q<0->(fun q=>0) q<x7.heap.size):=Lib.hid (fun q h=>absurd h (Nat.not_lt_zero _));refine R7.region (by kernel_rfl) [[],[0],[0,1],[],[3],[3,4],[],[6],[6,7],[6,7,8],[6,7,8,9],[3,4,5,6,7,8,9,10],[0,1,2,3,4,5,6,7,8,9,10,11],[],[0,1,2,3,4,5,6,7,8,9,10,11,12,13]] [] [] (fun q=>0) 0 14 (by kernel_rfl) (by kernel_rfl) (by rfl) hog.out (fun q q' h h' hn=>absurd hn (by omega)) ?_;refine R7.Chain.det ?_ (by rfl) (fun T xs wr hA=>?_) ?_
 rotate_left 1
 ·have e3:=hA.pre 3 (by kernel_rfl);simp only[gsa,gsc,gsz] at e3;clear hA;refine⟨(by rfl),?_⟩;go_simp<;>(try with_reducible rfl)
 refine R7.Chain.det ?_ (by rfl) (fun T xs wr hA=>?_) ?_
 rotate_left 1
 ·have e36:=hA.tm 0 36 (by rfl) (by rfl);have f36:xs 0=_:=hA.fa 0 (by rfl)
  (try simp (disch:=first | rfl | decide) only [R7.mask_in] at f36)
  rw[f36] at e36;clear f36;clear hA;refine⟨(by rfl),?_⟩;go_simp<;>(try with_reducible rfl)
 refine R7.Chain.det ?_ (by rfl) (fun T xs wr hA=>?_) ?_
 rotate_left 1
 ·have e37:=hA.tm 1 37 (by rfl) (by rfl);have f37:xs 1=_:=hA.fa 1 (by rfl)
  (try simp (disch:=first | rfl | decide) only [R7.mask_in] at f37)
  rw[f37] at e37;clear f37;have hBq:wr.heap[kf]?=_:=(hA.bl _ hlt_f (fun q h=>absurd h (Nat.not_lt_zero _))).trans HBf.out;have q0:=cell_at (v:=.int .i64 xo) hBq 0 rfl;have q1:=cell_at (v:=.bool xb) hBq 1 rfl;have q2:=cell_at (v:=.slice xao xl xc) hBq 2 rfl;have q3:=cell_at (v:=.string xnm) hBq 3 rfl;have q4:=cell_at (v:=.slice xko xkl xkc) hBq 4 rfl;clear hBq;clear hA;refine⟨(by rfl),?_⟩;go_simp<;>(try with_reducible rfl)
 refine R7.Chain.det ?_ (by rfl) (fun T xs wr hA=>?_) ?_
 rotate_left 1
 ·have e3:=hA.pre 3 (by kernel_rfl);simp only[gsa,gsc,gsz] at e3;clear hA;refine⟨(by rfl),?_⟩;go_simp<;>(try with_reducible rfl)
 refine R7.Chain.det ?_ (by rfl) (fun T xs wr hA=>?_) ?_
 rotate_left 1
 ·have e39:=hA.tm 3 39 (by rfl) (by rfl);have f39:xs 3=_:=hA.fa 3 (by rfl)
  (try simp (disch:=first | rfl | decide) only [R7.mask_in] at f39)
  rw[f39] at e39;clear f39;clear hA;refine⟨(by rfl),?_⟩;go_simp<;>(try with_reducible rfl)
 refine R7.Chain.det ?_ (by rfl) (fun T xs wr hA=>?_) ?_
 rotate_left 1
 ·have e40:=hA.tm 4 40 (by rfl) (by rfl);have f40:xs 4=_:=hA.fa 4 (by rfl)
  (try simp (disch:=first | rfl | decide) only [R7.mask_in] at f40)
  rw[f40] at e40;clear f40;have hBq:wr.heap[kf]?=_:=(hA.bl _ hlt_f (fun q h=>absurd h (Nat.not_lt_zero _))).trans HBf.out;have q0:=cell_at (v:=.int .i64 xo) hBq 0 rfl;have q1:=cell_at (v:=.bool xb) hBq 1 rfl;have q2:=cell_at (v:=.slice xao xl xc) hBq 2 rfl;have q3:=cell_at (v:=.string xnm) hBq 3 rfl;have q4:=cell_at (v:=.slice xko xkl xkc) hBq 4 rfl;clear hBq;clear hA;refine⟨(by rfl),?_⟩;go_simp<;>(try with_reducible rfl)
 refine R7.Chain.det ?_ (by rfl) (fun T xs wr hA=>?_) ?_
 rotate_left 1
 ·have e3:=hA.pre 3 (by kernel_rfl);simp only[gsa,gsc,gsz] at e3;clear hA;refine⟨(by rfl),?_⟩;go_simp<;>(try with_reducible rfl)
 refine R7.Chain.det ?_ (by rfl) (fun T xs wr hA=>?_) ?_
 rotate_left 1
 ·have e42:=hA.tm 6 42 (by rfl) (by rfl);have f42:xs 6=_:=hA.fa 6 (by rfl)
  (try simp (disch:=first | rfl | decide) only [R7.mask_in] at f42)
  rw[f42] at e42;clear f42;clear hA;refine⟨(by rfl),?_⟩;go_simp<;>(try with_reducible rfl)
 refine R7.Chain.det ?_ (by rfl) (fun T xs wr hA=>?_) ?_
 rotate_left 1
 ·have e43:=hA.tm 7 43 (by rfl) (by rfl);have f43:xs 7=_:=hA.fa 7 (by rfl)
  (try simp (disch:=first | rfl | decide) only [R7.mask_in] at f43)
  rw[f43] at e43;clear f43;have hBq:wr.heap[kf]?=_:=(hA.bl _ hlt_f (fun q h=>absurd h (Nat.not_lt_zero _))).trans HBf.out;have q0:=cell_at (v:=.int .i64 xo) hBq 0 rfl;have q1:=cell_at (v:=.bool xb) hBq 1 rfl;have q2:=cell_at (v:=.slice xao xl xc) hBq 2 rfl;have q3:=cell_at (v:=.string xnm) hBq 3 rfl;have q4:=cell_at (v:=.slice xko xkl xkc) hBq 4 rfl;clear hBq;clear hA;refine⟨(by rfl),?_⟩;go_simp<;>(try with_reducible rfl)
 refine R7.Chain.det ?_ (by rfl) (fun T xs wr hA=>?_) ?_
 rotate_left 1
 ·have e44:=hA.tm 8 44 (by rfl) (by rfl);have f44:xs 8=_:=hA.fa 8 (by rfl)
  (try simp (disch:=first | rfl | decide) only [R7.mask_in] at f44)
  rw[f44] at e44;clear f44;clear hA;refine⟨(by rfl),?_⟩;go_simp<;>(try with_reducible rfl)
 refine R7.Chain.det ?_ (by rfl) (fun T xs wr hA=>?_) ?_
 rotate_left 1
 ·have e45:=hA.tm 9 45 (by rfl) (by rfl);have f45:xs 9=_:=hA.fa 9 (by rfl)
  (try simp (disch:=first | rfl | decide) only [R7.mask_in] at f45)
  rw[f45] at e45;clear f45;clear hA;refine⟨(by rfl),?_⟩;go_simp<;>(try with_reducible rfl)
 refine R7.Chain.det ?_ (by rfl) (fun T xs wr hA=>?_) ?_
 rotate_left 1
 ·have e41:=hA.tm 5 41 (by rfl) (by rfl);have f41:xs 5=_:=hA.fa 5 (by rfl)
  (try simp (disch:=first | rfl | decide) only [R7.mask_in] at f41)
  rw[f41] at e41;clear f41;have e46:=hA.tm 10 46 (by rfl) (by rfl);have f46:xs 10=_:=hA.fa 10 (by rfl)
  (try simp (disch:=first | rfl | decide) only [R7.mask_in] at f46)
  rw[f46] at e46;clear f46;clear hA;refine⟨(by rfl),?_⟩;go_simp<;>(try with_reducible rfl)
 refine R7.Chain.call (fun xs v w=>∃ z,CI w v z 2) (fun _ _ _ _ h hb=>by obtain⟨z,h2⟩:=h;exact⟨z,h2.below hb⟩) (fun _ _ _ _ _ _ h _=>by obtain⟨q,hq,_⟩:=h;exact absurd hq (Nat.not_lt_zero _)) (by rfl) (fun T xs wr hA=>?_) ?_
 ·have hsw:=(hA.be 0 (Nat.zero_le _) (fun _ _=>Nat.zero_le _)).size;have e38:=hA.tm 2 38 (by rfl) (by rfl);have f38:xs 2=_:=hA.fa 2 (by rfl)
  (try simp (disch:=first | rfl | decide) only [R7.mask_in] at f38)
  rw[f38] at e38;clear f38;have e47:=hA.tm 11 47 (by rfl) (by rfl);have f47:xs 11=_:=hA.fa 11 (by rfl)
  (try simp (disch:=first | rfl | decide) only [R7.mask_in] at f47)
  rw[f47] at e47;clear f47;have hbw:=undrew (hA.be x7.heap.size (Nat.le_refl _) (fun q h=>absurd h (Nat.not_lt_zero q)));clear hA;refine⟨(by rfl),fun K hK=>?_⟩;go_simp
  refine (big_any xb _ q 2 wr (HG.out.below hbw) (by decide)).mono ?_;rintro e w' ⟨v,rfl,hc,hb'⟩;exact hK.out _ _ ⟨_,hc⟩ hb'
 refine R7.Chain.call (fun xs v w=>∃ g,v=.pointer (some ⟨g,0,none⟩)/\x7.heap.size<=g/\w.heap[g]?=some (.cells #[.bool false,.slice none 0 0] 26 (0,0))) (fun _ _ _ _ h hb=>by obtain⟨g,h1,h2,h3⟩:=h;exact⟨g,h1,h2,by rw[hb.block g (lt_of_block h3)];exact h3⟩) (fun _ _ _ _ _ _ h _=>by obtain⟨q,hq,_⟩:=h;exact absurd hq (Nat.not_lt_zero _)) (by rfl) (fun T xs wr hA=>?_) ?_
 ·have hsw:=(hA.be 0 (Nat.zero_le _) (fun _ _=>Nat.zero_le _)).size;have hbw:=undrew (hA.be x7.heap.size (Nat.le_refl _) (fun q h=>absurd h (Nat.not_lt_zero q)));clear hA;refine⟨(by rfl),fun K hK=>?_⟩;go_simp
  exact hK.out _ _ ⟨_,rfl,hbw.size,made_at _ _ _ rfl⟩ ((Below.refl _ _).alloc (Nat.le_refl _) _)
 refine R7.Chain.done (fun xs x8 hL=>?_);obtain⟨⟨hbe,hbl⟩,hf,-,-⟩:=hL;have f0:xs 0=_:=hf 0 (by decide)
 (try simp (disch:=first | rfl | decide) only [R7.mask_in] at f0)
 have f1:xs 1=_:=hf 1 (by decide)
 (try simp (disch:=first | rfl | decide) only [R7.mask_in] at f1)
 have f2:xs 2=_:=hf 2 (by decide)
 (try simp (disch:=first | rfl | decide) only [R7.mask_in] at f2)
 have f3:xs 3=_:=hf 3 (by decide)
 (try simp (disch:=first | rfl | decide) only [R7.mask_in] at f3)
 have f4:xs 4=_:=hf 4 (by decide)
 (try simp (disch:=first | rfl | decide) only [R7.mask_in] at f4)
 have f5:xs 5=_:=hf 5 (by decide)
 (try simp (disch:=first | rfl | decide) only [R7.mask_in] at f5)
 have f6:xs 6=_:=hf 6 (by decide)
 (try simp (disch:=first | rfl | decide) only [R7.mask_in] at f6)
 have f7:xs 7=_:=hf 7 (by decide)
 (try simp (disch:=first | rfl | decide) only [R7.mask_in] at f7)
 have f8:xs 8=_:=hf 8 (by decide)
 (try simp (disch:=first | rfl | decide) only [R7.mask_in] at f8)
 have f9:xs 9=_:=hf 9 (by decide)
 (try simp (disch:=first | rfl | decide) only [R7.mask_in] at f9)
 have f10:xs 10=_:=hf 10 (by decide)
 (try simp (disch:=first | rfl | decide) only [R7.mask_in] at f10)
 have f11:xs 11=_:=hf 11 (by decide)
 (try simp (disch:=first | rfl | decide) only [R7.mask_in] at f11)
 have F12:∃ z,CI x8 (xs 12) z 2:=hf 12 (by decide);have F13:∃ g,(xs 13)=.pointer (some ⟨g,0,none⟩)/\x7.heap.size<=g/\x8.heap[g]?=some (.cells #[.bool false,.slice none 0 0] 26 (0,0)):=hf 13 (by decide);have hb0:Below 0 x7 x8:=undrew (hbe 0 (Nat.zero_le _) (fun _ _=>Nat.zero_le _));have hgr:∀ j,j<x7.heap.size->(∀ q,q<0->(fun q=>0) q≠j)->x8.heap[j]?=x7.heap[j]?:=hbl;clear hbe hbl hf;have hb:Below x7.heap.size x7 x8:=⟨hb0.os,hb0.tape,hb0.output,hb0.size,fun q hq=>hgr q hq (fun q h=>absurd h (Nat.not_lt_zero _))⟩
 refine R7.rest_list (by decide) (by kernel_rfl) ?_;simp only[R7.fill,t1_,t2_,t3_,t4_,t5_,t6_,t7_,f0,f1,f2,f3,f4,f5,f6,f7,f8,f9,f10,f11];clear hb0 hgr hog hlt_f f0 f1 f2 f3 f4 f5 f6 f7 f8 f9 f10 f11;replace HBf:=kBV hb HBf;replace HBd:=kBV hb HBd;replace HBr:=kBV hb HBr;replace HBp:=kBV hb HBp;replace HBq:=kBV hb HBq;replace HBt:=kBV hb HBt;replace HBo:=kBV hb HBo;replace HW:=Lib.hid (HW.out.trans (hb.mono HW.out.size));replace HG:=Lib.hid (HG.out.below hb);replace HY:=Lib.hid (HY.out.trans (hb.mono HY.out.size));replace hb:=Lib.hid hb;obtain⟨z,hcz⟩:=F12;obtain⟨zb,zo,zl,zc,hzv⟩:=hcz.shape;obtain⟨km,hkm,hkm1,hkm2⟩:=F13;rw[hzv] at hcz;rw[hzv,hkm];have HC:=Lib.hid (hcz.mono (k':=600) (by decide));have HCZ:=Lib.hid hcz.lt;have HBm:=Lib.hid hkm2;clear hcz hzv hkm hkm2;have m0:=cell_at (v:=.bool false) HBm.out 0 rfl
 have fm0:=froz_at HBm.out 0;have m1:=cell_at (v:=.slice none 0 0) HBm.out 1 rfl;have fm1:=froz_at HBm.out 1;go_upto_region 9 with fail
 clear m0 fm0 m1 fm1;have hg1:=grown2V (w:=x8) (k:=km) (.bool zb) (.slice zo zl zc);have hb1:((x8.setCell ⟨km,0,none⟩ (.bool zb)).setCell ⟨km,1,none⟩ (.slice zo zl zc)).heap[km]?=_:=heap_setCell_same _ km 1 _ _ _ (heap_setCell_same _ km 0 _ _ _ HBm.out);obtain⟨W1,hW1⟩:∃ q,q=(x8.setCell ⟨km,0,none⟩ (.bool zb)).setCell ⟨km,1,none⟩ (.slice zo zl zc):=⟨_,rfl⟩
 rw[<-hW1] at hg1 hb1 ⊢;have hf1:Fr 26 x8 W1:=.of_grown hg1 (fun j hj=>by injection hj with hj;subst hj;exact⟨_,HBm.out,n32_2⟩);have HKM:Hid (w.heap.size<=km):=Lib.hid (Nat.le_trans (by have:=HKO.out;have:=lt_of_block HBo0.out;omega) hkm1);replace HW:=Lib.hid (ext_below HW.out hg1 HKM.out);replace HY:=Lib.hid (ext_below HY.out hg1 hkm1);replace HC:=Lib.hid (HC.out.fr hf1);replace HBf:=Lib.hid ((HY.out.block _ (lt_of_block HBf0.out)).trans HBf0.out);replace HBd:=Lib.hid ((HY.out.block _ (lt_of_block HBd0.out)).trans HBd0.out);replace HBr:=Lib.hid ((HY.out.block _ (lt_of_block HBr0.out)).trans HBr0.out);replace HBo:=Lib.hid ((HY.out.block _ (lt_of_block HBo0.out)).trans HBo0.out);replace HBm:=Lib.hid hb1;clear hg1 hb1 hW1 hf1 hkm1
 have HLOW:Hid (kf<W1.heap.size/\kd<W1.heap.size/\kr<W1.heap.size/\ko<W1.heap.size):=Lib.hid ⟨lt_of_block HBf.out,lt_of_block HBd.out,lt_of_block HBr.out,lt_of_block HBo.out⟩;have HDIS:Hid (kf≠ko/\kd≠ko/\kr≠ko):=Lib.hid (by have h1:=lt_of_block HBfp.out;have h2:=lt_of_block HBdp.out;have h3:=lt_of_block HBrp.out;rw[eko] at h1 h2 h3;omega);have HB0:Hid (w.heap.size<=W1.heap.size):=Lib.hid HW.out.size;have hjc:j=0\/j=1:=by omega
 rcases hjc with rfl | rfl
 ·have hop2:op=8:=HOP.out;subst hop2;clear HOP;have HSZP:Hid (W1.heap.size<=W1.heap.size):=Lib.hid (Nat.le_refl _);rcases (tmod_cases xnm.size).2 with hr | hr
  ·have o0:=cell_at (v:=.int .i64 8) HBo.out 0 rfl;have fo0:=froz_at HBo.out 0;have o1:=cell_at (v:=.bool false) HBo.out 1 rfl;have fo1:=froz_at HBo.out 1;have o2:=cell_at (v:=.slice none 0 0) HBo.out 2 rfl;have fo2:=froz_at HBo.out 2;have o3:=cell_at (v:=.string ⟨#[]⟩) HBo.out 3 rfl;have fo3:=froz_at HBo.out 3;have o4:=cell_at (v:=.slice none 0 0) HBo.out 4 rfl;have fo4:=froz_at HBo.out 4;have m0:=cell_at (v:=.bool zb) HBm.out 0 rfl;have fm0:=froz_at HBm.out 0;have m1:=cell_at (v:=.slice zo zl zc) HBm.out 1 rfl;have fm1:=froz_at HBm.out 1;have f0:=cell_at (v:=.int .i64 xo) HBf.out 0 rfl;have ff0:=froz_at HBf.out 0;have f1:=cell_at (v:=.bool xb) HBf.out 1 rfl;have ff1:=froz_at HBf.out 1;have f2:=cell_at (v:=.slice xao xl xc) HBf.out 2 rfl;have ff2:=froz_at HBf.out 2;have f3:=cell_at (v:=.string xnm) HBf.out 3 rfl
   have ff3:=froz_at HBf.out 3;have f4:=cell_at (v:=.slice xko xkl xkc) HBf.out 4 rfl;have ff4:=froz_at HBf.out 4;have hcv:=one_byteL 48 48 (by decide) W1;obtain⟨x9,ky,ey,eky,hby,hky,HBy⟩:=newV W1 #[.int .u8 48] 5;replace HBf:=kBV hby.out HBf;replace HBd:=kBV hby.out HBd;replace HBr:=kBV hby.out HBr;replace HBo:=kBV hby.out HBo;replace HBm:=kBV hby.out HBm;replace HW:=Lib.hid (HW.out.trans (hby.out.mono HW.out.size));replace HC:=Lib.hid (HC.out.below hby.out);rw[ey,eky] at hcv;have p0:=cell_at (v:=.int .i64 8) HBo.out 0 rfl;have fp0:=froz_at HBo.out 0;have p1:=cell_at (v:=.bool false) HBo.out 1 rfl;have fp1:=froz_at HBo.out 1;have p2:=cell_at (v:=.slice none 0 0) HBo.out 2 rfl;have fp2:=froz_at HBo.out 2;have p3:=cell_at (v:=.string ⟨#[]⟩) HBo.out 3 rfl;have fp3:=froz_at HBo.out 3
   have p4:=cell_at (v:=.slice none 0 0) HBo.out 4 rfl;have fp4:=froz_at HBo.out 4;replace HSZP:=Lib.hid (Nat.le_trans HSZP.out hby.out.size);go_upto_region 21 with fail
   clear o0 fo0 o1 fo1 o2 fo2 o3 fo3 o4 fo4 m0 fm0 m1 fm1 f0 ff0 f1 ff1 f2 ff2 f3 ff3 f4 ff4 p0 fp0 p1 fp1 p2 fp2 p3 fp3 p4 fp4
   try clear hcv
   try clear hr
   rw[show ((⟨#[108]⟩:ByteArray)++⟨#[48]⟩)=⟨#[108,48]⟩ from rfl];have hgo:x9.grownBy (x9.setCell ⟨ko,3,none⟩ (.string ⟨#[108,48]⟩)) (some ko):=by refine grown_setCell ?_ _;exact World.grownBy.refl _ _
   have hbo:(x9.setCell ⟨ko,3,none⟩ (.string ⟨#[108,48]⟩)).heap[ko]?=_:=(heap_setCell_same _ ko 3 _ _ (.string ⟨#[108,48]⟩) HBo.out)
   obtain⟨W2,hW2⟩:∃ q,q=x9.setCell ⟨ko,3,none⟩ (.string ⟨#[108,48]⟩):=⟨_,rfl⟩
   rw[<-hW2] at hgo hbo ⊢;have hfo:Fr 29 x9 W2:=.of_grown hgo (fun j hj=>by injection hj with hj;subst hj;exact⟨_,HBo.out,n32_F⟩);replace HW:=Lib.hid (ext_below HW.out hgo HKO.out);replace HC:=Lib.hid (HC.out.fr hfo);replace HBf:=Lib.hid ((hgo.block _ (lt_of_block HBf.out) (fun e=>by injection e with e;exact HDIS.out.1 e)).trans HBf.out);replace HBd:=Lib.hid ((hgo.block _ (lt_of_block HBd.out) (fun e=>by injection e with e;exact HDIS.out.2.1 e)).trans HBd.out);replace HBr:=Lib.hid ((hgo.block _ (lt_of_block HBr.out) (fun e=>by injection e with e;exact HDIS.out.2.2 e)).trans HBr.out);have HSZW:Hid (W1.heap.size<=W2.heap.size):=Lib.hid (Nat.le_trans HSZP.out hgo.size);replace HBo:=Lib.hid hbo;clear hgo hbo hW2 hfo HSZP;have HSZP:=HSZW;clear HSZW
   have HT:Hid (TSt w W1.heap.size kf kd kr ko ⟨xo,xb,xao,xl,xc,xnm,xko,xkl,xkc⟩ (1) 8 false none 0 0 (⟨#[108,48]⟩) (0) 0 [] (.slice none 0 0) [] W2):=Lib.hid (TSt.zero HBo.out HBf.out HBd.out HBr.out (nr0 _) HLOW.out HDIS.out HKO.out HW.out HSZP.out);have o0:=cell_at (v:=.int .i64 8) HBo.out 0 rfl;have fo0:=froz_at HBo.out 0;have o1:=cell_at (v:=.bool false) HBo.out 1 rfl;have fo1:=froz_at HBo.out 1;have o2:=cell_at (v:=.slice none 0 0) HBo.out 2 rfl;have fo2:=froz_at HBo.out 2;have o3:=cell_at (v:=.string ⟨#[108,48]⟩) HBo.out 3 rfl;have fo3:=froz_at HBo.out 3;have o4:=cell_at (v:=.slice none 0 0) HBo.out 4 rfl;have fo4:=froz_at HBo.out 4;obtain⟨⟨r0,r1,r2,r3,r4⟩,fr0,fr1,fr2,fr3,fr4⟩:=cells5V HBr.out;go_wp2_with fail
   clear o0 fo0 o1 fo1 o2 fo2 o3 fo3 o4 fo4;have hg:=grown5V (w:=W2) (k:=kr) (.int .i64 8) (.bool false) (.slice none 0 0) (.string ⟨#[108,48]⟩) (.slice none 0 0);have hf:Fr 29 W2 _:=.of_grown hg (fun j hj=>by injection hj with hj;subst hj;exact⟨_,HBr.out,n32_F⟩);obtain⟨h1,h2,h3,h4⟩:=HT.out.fin hg hf (by unfold IR;decide) HB0.out HKR.out (by unfold NmOk;simp) (small4 (by decide)) (fun _ _ _=>rfl) (by simp) (rfl)
   (try simp only[Exit.inBlock,Exit.then])
   exact bodyPost_ret (v:=.agg #[.int .i64 8,.bool false,.slice none 0 0,.string ⟨#[108,48]⟩,.slice none 0 0]) (by simp[results,Try.results7,go_sem,r0,r1,r2,r3,r4]) rfl ⟨_,_,rfl,h1,h2,rfl,h3,h4⟩
  have o0:=cell_at (v:=.int .i64 8) HBo.out 0 rfl;have fo0:=froz_at HBo.out 0;have o1:=cell_at (v:=.bool false) HBo.out 1 rfl;have fo1:=froz_at HBo.out 1;have o2:=cell_at (v:=.slice none 0 0) HBo.out 2 rfl;have fo2:=froz_at HBo.out 2;have o3:=cell_at (v:=.string ⟨#[]⟩) HBo.out 3 rfl;have fo3:=froz_at HBo.out 3;have o4:=cell_at (v:=.slice none 0 0) HBo.out 4 rfl;have fo4:=froz_at HBo.out 4;have m0:=cell_at (v:=.bool zb) HBm.out 0 rfl;have fm0:=froz_at HBm.out 0;have m1:=cell_at (v:=.slice zo zl zc) HBm.out 1 rfl;have fm1:=froz_at HBm.out 1;have f0:=cell_at (v:=.int .i64 xo) HBf.out 0 rfl;have ff0:=froz_at HBf.out 0;have f1:=cell_at (v:=.bool xb) HBf.out 1 rfl;have ff1:=froz_at HBf.out 1;have f2:=cell_at (v:=.slice xao xl xc) HBf.out 2 rfl;have ff2:=froz_at HBf.out 2;have f3:=cell_at (v:=.string xnm) HBf.out 3 rfl
  have ff3:=froz_at HBf.out 3;have f4:=cell_at (v:=.slice xko xkl xkc) HBf.out 4 rfl;have ff4:=froz_at HBf.out 4;have hcv:=one_byteL 49 49 (by decide) W1;obtain⟨x9,ky,ey,eky,hby,hky,HBy⟩:=newV W1 #[.int .u8 49] 5;replace HBf:=kBV hby.out HBf;replace HBd:=kBV hby.out HBd;replace HBr:=kBV hby.out HBr;replace HBo:=kBV hby.out HBo;replace HBm:=kBV hby.out HBm;replace HW:=Lib.hid (HW.out.trans (hby.out.mono HW.out.size));replace HC:=Lib.hid (HC.out.below hby.out);rw[ey,eky] at hcv;have p0:=cell_at (v:=.int .i64 8) HBo.out 0 rfl;have fp0:=froz_at HBo.out 0;have p1:=cell_at (v:=.bool false) HBo.out 1 rfl;have fp1:=froz_at HBo.out 1;have p2:=cell_at (v:=.slice none 0 0) HBo.out 2 rfl;have fp2:=froz_at HBo.out 2;have p3:=cell_at (v:=.string ⟨#[]⟩) HBo.out 3 rfl;have fp3:=froz_at HBo.out 3
  have p4:=cell_at (v:=.slice none 0 0) HBo.out 4 rfl;have fp4:=froz_at HBo.out 4;replace HSZP:=Lib.hid (Nat.le_trans HSZP.out hby.out.size);go_upto_region 21 with fail
  clear o0 fo0 o1 fo1 o2 fo2 o3 fo3 o4 fo4 m0 fm0 m1 fm1 f0 ff0 f1 ff1 f2 ff2 f3 ff3 f4 ff4 p0 fp0 p1 fp1 p2 fp2 p3 fp3 p4 fp4
  try clear hcv
  try clear hr
  rw[show ((⟨#[108]⟩:ByteArray)++⟨#[49]⟩)=⟨#[108,49]⟩ from rfl];have hgo:x9.grownBy (x9.setCell ⟨ko,3,none⟩ (.string ⟨#[108,49]⟩)) (some ko):=by refine grown_setCell ?_ _;exact World.grownBy.refl _ _
  have hbo:(x9.setCell ⟨ko,3,none⟩ (.string ⟨#[108,49]⟩)).heap[ko]?=_:=(heap_setCell_same _ ko 3 _ _ (.string ⟨#[108,49]⟩) HBo.out)
  obtain⟨W2,hW2⟩:∃ q,q=x9.setCell ⟨ko,3,none⟩ (.string ⟨#[108,49]⟩):=⟨_,rfl⟩
  rw[<-hW2] at hgo hbo ⊢;have hfo:Fr 29 x9 W2:=.of_grown hgo (fun j hj=>by injection hj with hj;subst hj;exact⟨_,HBo.out,n32_F⟩);replace HW:=Lib.hid (ext_below HW.out hgo HKO.out);replace HC:=Lib.hid (HC.out.fr hfo);replace HBf:=Lib.hid ((hgo.block _ (lt_of_block HBf.out) (fun e=>by injection e with e;exact HDIS.out.1 e)).trans HBf.out);replace HBd:=Lib.hid ((hgo.block _ (lt_of_block HBd.out) (fun e=>by injection e with e;exact HDIS.out.2.1 e)).trans HBd.out);replace HBr:=Lib.hid ((hgo.block _ (lt_of_block HBr.out) (fun e=>by injection e with e;exact HDIS.out.2.2 e)).trans HBr.out);have HSZW:Hid (W1.heap.size<=W2.heap.size):=Lib.hid (Nat.le_trans HSZP.out hgo.size);replace HBo:=Lib.hid hbo;clear hgo hbo hW2 hfo HSZP;have HSZP:=HSZW;clear HSZW
  have HT:Hid (TSt w W1.heap.size kf kd kr ko ⟨xo,xb,xao,xl,xc,xnm,xko,xkl,xkc⟩ (1) 8 false none 0 0 (⟨#[108,49]⟩) (0) 0 [] (.slice none 0 0) [] W2):=Lib.hid (TSt.zero HBo.out HBf.out HBd.out HBr.out (nr0 _) HLOW.out HDIS.out HKO.out HW.out HSZP.out);have o0:=cell_at (v:=.int .i64 8) HBo.out 0 rfl;have fo0:=froz_at HBo.out 0;have o1:=cell_at (v:=.bool false) HBo.out 1 rfl;have fo1:=froz_at HBo.out 1;have o2:=cell_at (v:=.slice none 0 0) HBo.out 2 rfl;have fo2:=froz_at HBo.out 2;have o3:=cell_at (v:=.string ⟨#[108,49]⟩) HBo.out 3 rfl;have fo3:=froz_at HBo.out 3;have o4:=cell_at (v:=.slice none 0 0) HBo.out 4 rfl;have fo4:=froz_at HBo.out 4;obtain⟨⟨r0,r1,r2,r3,r4⟩,fr0,fr1,fr2,fr3,fr4⟩:=cells5V HBr.out;go_wp2_with fail
  clear o0 fo0 o1 fo1 o2 fo2 o3 fo3 o4 fo4;have hg:=grown5V (w:=W2) (k:=kr) (.int .i64 8) (.bool false) (.slice none 0 0) (.string ⟨#[108,49]⟩) (.slice none 0 0);have hf:Fr 29 W2 _:=.of_grown hg (fun j hj=>by injection hj with hj;subst hj;exact⟨_,HBr.out,n32_F⟩);obtain⟨h1,h2,h3,h4⟩:=HT.out.fin hg hf (by unfold IR;decide) HB0.out HKR.out (by unfold NmOk;simp) (small4 (by decide)) (fun _ _ _=>rfl) (by simp) (rfl)
  (try simp only[Exit.inBlock,Exit.then])
  exact bodyPost_ret (v:=.agg #[.int .i64 8,.bool false,.slice none 0 0,.string ⟨#[108,49]⟩,.slice none 0 0]) (by simp[results,Try.results7,go_sem,r0,r1,r2,r3,r4]) rfl ⟨_,_,rfl,h1,h2,rfl,h3,h4⟩
 have hop2:op=9:=HOP.out;subst hop2;clear HOP;have HSZP:Hid (W1.heap.size<=W1.heap.size):=Lib.hid (Nat.le_refl _);have HT:Hid (TSt w W1.heap.size kf kd kr ko ⟨xo,xb,xao,xl,xc,xnm,xko,xkl,xkc⟩ (1) 9 false none 0 0 (⟨#[]⟩) (0) 0 [] (.slice none 0 0) [] W1):=Lib.hid (TSt.zero HBo.out HBf.out HBd.out HBr.out (nr0 _) HLOW.out HDIS.out HKO.out HW.out HSZP.out);have o0:=cell_at (v:=.int .i64 9) HBo.out 0 rfl;have fo0:=froz_at HBo.out 0;have o1:=cell_at (v:=.bool false) HBo.out 1 rfl;have fo1:=froz_at HBo.out 1;have o2:=cell_at (v:=.slice none 0 0) HBo.out 2 rfl;have fo2:=froz_at HBo.out 2;have o3:=cell_at (v:=.string ⟨#[]⟩) HBo.out 3 rfl;have fo3:=froz_at HBo.out 3;have o4:=cell_at (v:=.slice none 0 0) HBo.out 4 rfl;have fo4:=froz_at HBo.out 4;obtain⟨⟨r0,r1,r2,r3,r4⟩,fr0,fr1,fr2,fr3,fr4⟩:=cells5V HBr.out;go_wp2_with fail
 clear o0 fo0 o1 fo1 o2 fo2 o3 fo3 o4 fo4;have hg:=grown5V (w:=W1) (k:=kr) (.int .i64 9) (.bool false) (.slice none 0 0) (.string ⟨#[]⟩) (.slice none 0 0);have hf:Fr 29 W1 _:=.of_grown hg (fun j hj=>by injection hj with hj;subst hj;exact⟨_,HBr.out,n32_F⟩);obtain⟨h1,h2,h3,h4⟩:=HT.out.fin hg hf (by unfold IR;decide) HB0.out HKR.out (by unfold NmOk;simp) (small4 (by decide)) (fun _ _ _=>rfl) (by simp) (rfl)
 (try simp only[Exit.inBlock,Exit.then])
 exact bodyPost_ret (v:=.agg #[.int .i64 9,.bool false,.slice none 0 0,.string ⟨#[]⟩,.slice none 0 0]) (by simp[results,Try.results7,go_sem,r0,r1,r2,r3,r4]) rfl ⟨_,_,rfl,h1,h2,rfl,h3,h4⟩
end Go.Proofs.Ytdkfnbbebpbhaaa
