/-
 Joined texts: PsKi,PsPa,PsPb,PsPc,PsPd,PsPe,Rel9,PsPf,PsPg,PsPh,PsPi.
-/
import Derived.Deep.WholeRow
import Derived.Test.YtkocdbgmckdcpaaGreatDoorJParsePrints2
import Derived.Test.YtkocdbgmckdcpaaGreatDoorJParsePrints3
import Derived.Test.YtkocdbgmckdcpaaGreatDoorJParsePrints5
set_option maxHeartbeats 32000000
namespace Go.Proofs.YtkocdbgmckdcpaaGreatDoor
open Go.RowKit
set_option maxRecDepth 100000
theorem put_list (l:List Value) (o:Nat) (c:Value) (cs:List Value) (h:o<l.length):(l.set o c).take (o+1)++(cs++(l.set o c).drop (o+1+cs.length))=l.take o++(c::cs++l.drop (o+(cs.length+1))):=by
 rw[List.take_succ_eq_append_getElem (by simpa using h),List.take_set_of_le (Nat.le_refl _),List.getElem_set_self,List.drop_set_of_lt (by omega),show o+1+cs.length=o+(cs.length+1) by omega]
 simp
theorem put_same:∀ (cs:List Value) (w:World) (g o:Nat) (cur:Array Value) (T:TypeId),w.heap[g]?=some (.cells cur T (0,0))->o+cs.length<=cur.size->(w.setCells g o cs).heap[g]?=some (.cells (cur.toList.take o++(cs++cur.toList.drop (o+cs.length))).toArray T (0,0)):=by
 intro cs
 induction cs with
 | nil=>intro w g o cur T h _;rw[World.setCells];simp[h]
 | cons c cs ih =>
  intro w g o cur T h hl;rw[lsc] at hl;have h0:=heap_setCell_same w g o cur T c h;have h1:=ih (w.setCell ⟨g,o,none⟩ c) g (o+1) _ T h0 (by rw[Array.size_setIfInBounds];omega);rw[World.setCells,h1,Array.toList_setIfInBounds,put_list _ _ _ _ (by simpa using (by omega:o<cur.size))]
  rfl

def pmV (p:PmU) (x:X):Value:=.agg #[.string ⟨p.nm.toArray⟩,.int .i64 (p.b:Nat),.bool p.kn,.int .i64 x.k,.string x.nm,.string x.ot,.bool x.b,.slice x.ao x.n x.c,.slice x.ko x.kn x.kc,.int .i64 x.ln,.int .i64 x.cl,.int .i64 (p.ln:Nat),.int .i64 (p.cl:Nat)]
def pmC (p:PmU) (x:X):List Value:=[.string ⟨p.nm.toArray⟩,.int .i64 (p.b:Nat),.bool p.kn,.int .i64 x.k,.string x.nm,.string x.ot,.bool x.b,.slice x.ao x.n x.c,.slice x.ko x.kn x.kc,.int .i64 x.ln,.int .i64 x.cl,.int .i64 (p.ln:Nat),.int .i64 (p.cl:Nat)]
def xZ:X:=⟨0,⟨#[]⟩,⟨#[]⟩,false,none,0,0,none,0,0,0,0⟩
set_option linter.unusedVariables false
theorem below_put {w0 w w':World} {g:Nat} (h:Below w0.heap.size w0 w) (hg:w.grownBy w' (some g)) (hB:w0.heap.size<=g):Below w0.heap.size w0 w':=⟨hg.os.trans h.os,hg.tape.trans h.tape,hg.output.trans h.output,Nat.le_trans h.size hg.size,fun q hq=>by
 rw[hg.block q (Nat.lt_of_lt_of_le hq h.size) (fun e=>by injection e with e;omega)];exact h.block q hq⟩
theorem typed_p (nm:Bs) (t:Tok) (b:Nat) (w:World) (hn:nm=t.text) :
  Calls Tryz.prog 101 #[tokV t,.int .i64 (b:Nat)] w fun e w'=>e=.returned (pmV (typ nm t b) xZ)/\Below w.heap.size w w':=by
 subst hn;unfold tokV pmV xZ typ;have HW:=h_ (Below.refl w.heap.size w);go_enter Tryz.func101,Tryz.ntmps101
 go_upto_region 1 with fail
 obtain⟨w1,kt,hw,hkk,hb,hs1,HBt⟩:=newb w #[.int .i64 (t.kind:Nat),.string ⟨t.text.toArray⟩,.int .i64 (t.line:Nat),.int .i64 (t.col:Nat)] 97;have het:w.heap.size<=kt:=by omega
 rw[hw,<-hkk,<-hs1];replace HW:=h_ (HW.out.trans (hb.mono HW.out.size));have HD:=h_ (below_grown hb (some 0));have hsz1:=HD.out.size;clear hw hb hkk hs1;obtain⟨w2,kr,hw,hkk,hb,hs1,HBr⟩:=newb w1 #[.string ⟨#[]⟩,.int .i64 0,.bool false,.int .i64 0,.string ⟨#[]⟩,.string ⟨#[]⟩,.bool false,.slice none 0 0,.slice none 0 0,.int .i64 0,.int .i64 0,.int .i64 0,.int .i64 0] 48;have her:w.heap.size<=kr:=by omega
 have ht_r:=lk_ hkk HBt;rw[hw,<-hkk];replace HBt:=kB hb HBt;replace HW:=h_ (HW.out.trans (hb.mono HW.out.size));replace HD:=dB HD hb;have hsz2:=HD.out.size;clear hw hb hkk hs1;obtain⟨c0,c1,c2,c3⟩:=cl4 HBt.out;obtain⟨z0,z1,z2,z3,z4,z5,z6,z7,z8,z9,z10,z11,z12⟩:=cl13 HBr.out;obtain⟨fz0,fz1,fz2,fz3,fz4,fz5,fz6,fz7,fz8,fz9,fz10,fz11,fz12⟩:=fr13 HBr.out;go_wp2_with fail
 refine bodyPost_ret (v:=.agg #[.string ⟨t.text.toArray⟩,.int .i64 (b:Nat),.bool false,.int .i64 0,.string ⟨#[]⟩,.string ⟨#[]⟩,.bool false,.slice none 0 0,.slice none 0 0,.int .i64 0,.int .i64 0,.int .i64 (t.line:Nat),.int .i64 (t.col:Nat)]) (by simp[results,Tryz.results101,go_sem,z0,z1,z2,z3,z4,z5,z6,z7,z8,z9,z10,z11,z12]) rfl ⟨rfl,?_⟩;obtain⟨wz,hw⟩:∃ x,x=w2.setCells kr 0 [.string ⟨t.text.toArray⟩,.int .i64 (b:Nat),.bool false,.int .i64 0,.string ⟨#[]⟩,.string ⟨#[]⟩,.bool false,.slice none 0 0,.slice none 0 0,.int .i64 0,.int .i64 0,.int .i64 (t.line:Nat),.int .i64 (t.col:Nat)]:=⟨_,rfl⟩
 have hg:w2.grownBy wz (some kr):=by rw[hw];exact setCells_grown _ _ _ _
 rw[show ((((((((((((w2.setCell ⟨kr,0,none⟩ (.string ⟨t.text.toArray⟩)).setCell ⟨kr,1,none⟩ (.int .i64 (b:Nat))).setCell ⟨kr,2,none⟩ (.bool false)).setCell ⟨kr,3,none⟩ (.int .i64 0)).setCell ⟨kr,4,none⟩ (.string ⟨#[]⟩)).setCell ⟨kr,5,none⟩ (.string ⟨#[]⟩)).setCell ⟨kr,6,none⟩ (.bool false)).setCell ⟨kr,7,none⟩ (.slice none 0 0)).setCell ⟨kr,8,none⟩ (.slice none 0 0)).setCell ⟨kr,9,none⟩ (.int .i64 0)).setCell ⟨kr,10,none⟩ (.int .i64 0)).setCell ⟨kr,11,none⟩ (.int .i64 (t.line:Nat))).setCell ⟨kr,12,none⟩ (.int .i64 (t.col:Nat))=wz from hw.symm];exact below_put HW.out hg her
theorem base_p (g:Nat) (s:St) (w:World) (hps:PS w g s) :
  Calls Tryz.prog 102 #[.pointer (some ⟨g,0,none⟩)] w fun e w'=>e=.returned (.int .i64 ((cBase s).1:Nat))/\Did w g (cBase s).2 w':=by
 have HP:=h_ hps;clear hps
 by_cases h0:s.nx.text=[105,110,116]
 ·have H0:=h_ h0;have HC:Hid (cBase s=(0,s.tk)):=h_ (by unfold cBase St.is;rw[h0];rfl);clear h0;go_enter Tryz.func102,Tryz.ntmps102
  go_upto_region 1 with fail
  go_wp2_with fail
  refine (take_p g s w HP.out).mono ?_;rintro e w1 ⟨rfl,hp,hg⟩;replace HP:=h_ hp;have HD:=h_ (hg);have hsz1:=HD.out.size;clear hp hg;simp only[tokV];obtain⟨t,hnx⟩:∃ t,t=St.nx s:=⟨_,rfl⟩
  rw[<-hnx];have HNt:=h_ hnx;clear hnx;go_upto_region 2 with fail
  obtain⟨w2,kt,hw,hkk,hb,hs1,HBt⟩:=newb w1 #[.int .i64 (t.kind:Nat),.string ⟨t.text.toArray⟩,.int .i64 (t.line:Nat),.int .i64 (t.col:Nat)] 97;have hgt:g<kt:=by rw[hkk];exact HP.out.lt
  have het:w.heap.size<=kt:=by omega
  rw[hw,<-hkk];replace HP:=h_ (HP.out.below hb);replace HD:=dB HD hb;have hsz2:=HD.out.size;clear hw hb hkk hs1;obtain⟨c0,c1,c2,c3⟩:=cl4 HBt.out;have q:t.text=[105,110,116]:=by rw[HNt.out];exact H0.out
  have q0:(t.text==[105,110,116])=true:=by rw[q];rfl
  clear q;go_wp2_with fail
  go_ret
  exact⟨by rw[HC.out];rfl,by rw[HC.out];exact⟨HP.out,HD.out⟩⟩
 by_cases h1:s.nx.text=[98,111,111,108]
 ·have H1:=h_ h1;have HC:Hid (cBase s=(1,s.tk)):=h_ (by unfold cBase St.is;rw[h1];rfl);clear h1 h0;go_enter Tryz.func102,Tryz.ntmps102
  go_upto_region 1 with fail
  go_wp2_with fail
  refine (take_p g s w HP.out).mono ?_;rintro e w1 ⟨rfl,hp,hg⟩;replace HP:=h_ hp;have HD:=h_ (hg);have hsz1:=HD.out.size;clear hp hg;simp only[tokV];obtain⟨t,hnx⟩:∃ t,t=St.nx s:=⟨_,rfl⟩
  rw[<-hnx];have HNt:=h_ hnx;clear hnx;go_upto_region 2 with fail
  obtain⟨w2,kt,hw,hkk,hb,hs1,HBt⟩:=newb w1 #[.int .i64 (t.kind:Nat),.string ⟨t.text.toArray⟩,.int .i64 (t.line:Nat),.int .i64 (t.col:Nat)] 97;have hgt:g<kt:=by rw[hkk];exact HP.out.lt
  have het:w.heap.size<=kt:=by omega
  rw[hw,<-hkk];replace HP:=h_ (HP.out.below hb);replace HD:=dB HD hb;have hsz2:=HD.out.size;clear hw hb hkk hs1;obtain⟨c0,c1,c2,c3⟩:=cl4 HBt.out;have q:t.text=[98,111,111,108]:=by rw[HNt.out];exact H1.out
  have q0:(t.text==[105,110,116])=false:=by rw[q];rfl
  have q1:(t.text==[98,111,111,108])=true:=by rw[q];rfl
  clear q;go_wp2_with fail
  go_ret
  exact⟨by rw[HC.out];rfl,by rw[HC.out];exact⟨HP.out,HD.out⟩⟩
 by_cases h2:s.nx.text=[108,105,115,116]
 ·have H2:=h_ h2;have HC:Hid (cBase s=(2,s.tk)):=h_ (by unfold cBase St.is;rw[h2];rfl);clear h2 h0 h1;go_enter Tryz.func102,Tryz.ntmps102
  go_upto_region 1 with fail
  go_wp2_with fail
  refine (take_p g s w HP.out).mono ?_;rintro e w1 ⟨rfl,hp,hg⟩;replace HP:=h_ hp;have HD:=h_ (hg);have hsz1:=HD.out.size;clear hp hg;simp only[tokV];obtain⟨t,hnx⟩:∃ t,t=St.nx s:=⟨_,rfl⟩
  rw[<-hnx];have HNt:=h_ hnx;clear hnx;go_upto_region 2 with fail
  obtain⟨w2,kt,hw,hkk,hb,hs1,HBt⟩:=newb w1 #[.int .i64 (t.kind:Nat),.string ⟨t.text.toArray⟩,.int .i64 (t.line:Nat),.int .i64 (t.col:Nat)] 97;have hgt:g<kt:=by rw[hkk];exact HP.out.lt
  have het:w.heap.size<=kt:=by omega
  rw[hw,<-hkk];replace HP:=h_ (HP.out.below hb);replace HD:=dB HD hb;have hsz2:=HD.out.size;clear hw hb hkk hs1;obtain⟨c0,c1,c2,c3⟩:=cl4 HBt.out;have q:t.text=[108,105,115,116]:=by rw[HNt.out];exact H2.out
  have q0:(t.text==[105,110,116])=false:=by rw[q];rfl
  have q1:(t.text==[98,111,111,108])=false:=by rw[q];rfl
  have q2:(t.text==[108,105,115,116])=true:=by rw[q];rfl
  clear q;go_wp2_with fail
  go_ret
  exact⟨by rw[HC.out];rfl,by rw[HC.out];exact⟨HP.out,HD.out⟩⟩
 have HC:Hid (cBase s=(0,s.tk.fail s.nx 1)):=h_ (by unfold cBase St.is;rw[if_neg (by simpa using h0),if_neg (by simpa using h1),if_neg (by simpa using h2)]);have H0:Hid ((s.nx.text==[105,110,116])=false):=h_ (by simpa using h0);have H1:Hid ((s.nx.text==[98,111,111,108])=false):=h_ (by simpa using h1);have H2:Hid ((s.nx.text==[108,105,115,116])=false):=h_ (by simpa using h2);clear h0 h1 h2;go_enter Tryz.func102,Tryz.ntmps102
 go_upto_region 1 with fail
 go_wp2_with fail
 refine (take_p g s w HP.out).mono ?_;rintro e w1 ⟨rfl,hp,hg⟩;replace HP:=h_ hp;have HD:=h_ (hg);have hsz1:=HD.out.size;clear hp hg;simp only[tokV];obtain⟨t,hnx⟩:∃ t,t=St.nx s:=⟨_,rfl⟩
 rw[<-hnx];have HNt:=h_ hnx;clear hnx;go_upto_region 2 with fail
 obtain⟨w2,kt,hw,hkk,hb,hs1,HBt⟩:=newb w1 #[.int .i64 (t.kind:Nat),.string ⟨t.text.toArray⟩,.int .i64 (t.line:Nat),.int .i64 (t.col:Nat)] 97;have hgt:g<kt:=by rw[hkk];exact HP.out.lt
 have het:w.heap.size<=kt:=by omega
 rw[hw,<-hkk];replace HP:=h_ (HP.out.below hb);replace HD:=dB HD hb;clear hw hb hkk hs1;obtain⟨c0,c1,c2,c3⟩:=cl4 HBt.out;have q0:(t.text==[105,110,116])=false:=by rw[HNt.out];exact H0.out
 have q1:(t.text==[98,111,111,108])=false:=by rw[HNt.out];exact H1.out
 have q2:(t.text==[108,105,115,116])=false:=by rw[HNt.out];exact H2.out
 go_wp2_with fail
 refine (fail_p g s.tk t 1 w2 HP.out).mono ?_;rintro e w3 ⟨⟨v,rfl⟩,hp,hg⟩;clear c0 c1 c2 c3;replace HBt:=kG hg HBt;replace HP:=h_ hp;replace HD:=dG HD (hg);have hsz3:=HD.out.size;clear hp hg;go_wp2_with fail
 go_ret
 rw[HNt.out] at HP;exact⟨by rw[HC.out];rfl,by rw[HC.out];exact⟨HP.out,HD.out⟩⟩
theorem counted_p (g count limit:Nat) (s:St) (w:World) (hps:PS w g s) (h1:count<=1000000) (h2:limit<=1000000) :
  Calls Tryz.prog 63 #[.pointer (some ⟨g,0,none⟩),.int .i64 (count:Nat),.int .i64 (limit:Nat)] w fun e w'=>e=.returned (tokV s.nx)/\Did w g (s.counted count limit) w':=by
 have HP:=h_ hps;clear hps;go_enter Tryz.func63,Tryz.ntmps63
 go_upto_region 1 with fail
 obtain⟨w1,kr,hw,hkk,hb,hs1,HBr⟩:=newb w #[.int .i64 0,.string ⟨#[]⟩,.int .i64 0,.int .i64 0] 97;have hgr:g<kr:=by rw[hkk];exact HP.out.lt
 have her:w.heap.size<=kr:=by omega
 rw[hw,<-hkk];replace HP:=h_ (HP.out.below hb);have HD:=h_ (below_grown hb (some g));clear hw hb hkk hs1;go_wp2_with fail
 refine (name_p g s w1 HP.out).mono ?_;rintro e w2 ⟨rfl,hp,hg⟩;replace HBr:=kG hg HBr;replace HP:=h_ hp;replace HD:=dG HD (hg);have hsz2:=HD.out.size;clear hp hg;simp only[tokV];obtain⟨t,hnx⟩:∃ t,t=St.nx s:=⟨_,rfl⟩
 rw[<-hnx];have HNt:=h_ hnx;clear hnx;go_upto_region 2 with fail
 obtain⟨w3,kt,hw,hkk,hb,hs1,HBt⟩:=newb w2 #[.int .i64 (t.kind:Nat),.string ⟨t.text.toArray⟩,.int .i64 (t.line:Nat),.int .i64 (t.col:Nat)] 97;have hgt:g<kt:=by rw[hkk];exact HP.out.lt
 have het:w.heap.size<=kt:=by omega
 have hr_t:=lk_ hkk HBr;rw[hw,<-hkk];replace HBr:=kB hb HBr;replace HP:=h_ (HP.out.below hb);replace HD:=dB HD hb;have hsz3:=HD.out.size;clear hw hb hkk hs1
 by_cases hc:limit<=count
 ·have HX:Hid (s.counted count limit=s.name.fail t 2):=h_ (by unfold St.counted;rw[if_pos hc,HNt.out]);have hc2:((limit:Nat):Int)<=(count:Nat):=by omega
  clear hc;obtain⟨c0,c1,c2,c3⟩:=cl4 HBt.out;go_wp2_with fail
  refine (fail_p g s.name t 2 w3 HP.out).mono ?_;rintro e w4 ⟨⟨v,rfl⟩,hp,hg⟩;clear c0 c1 c2 c3;replace HBr:=kG hg HBr;replace HBt:=kG hg HBt;replace HP:=h_ hp;replace HD:=dG HD (hg);clear hp hg;obtain⟨c0,c1,c2,c3⟩:=cl4 HBt.out;obtain⟨z0,z1,z2,z3⟩:=cl4 HBr.out;obtain⟨fz0,fz1,fz2,fz3⟩:=fr4 HBr.out;go_wp2_with fail
  refine bodyPost_ret (v:=.agg #[.int .i64 (t.kind:Nat),.string ⟨t.text.toArray⟩,.int .i64 (t.line:Nat),.int .i64 (t.col:Nat)]) (by simp[results,Tryz.results63,go_sem,z0,z1,z2,z3]) rfl ?_;obtain⟨wz,hw⟩:∃ x,x=w4.setCells kr 0 [.int .i64 (t.kind:Nat),.string ⟨t.text.toArray⟩,.int .i64 (t.line:Nat),.int .i64 (t.col:Nat)]:=⟨_,rfl⟩
  have hg:w4.grownBy wz (some kr):=by rw[hw];exact setCells_grown _ _ _ _
  rw[show (((w4.setCell ⟨kr,0,none⟩ (.int .i64 (t.kind:Nat))).setCell ⟨kr,1,none⟩ (.string ⟨t.text.toArray⟩)).setCell ⟨kr,2,none⟩ (.int .i64 (t.line:Nat))).setCell ⟨kr,3,none⟩ (.int .i64 (t.col:Nat))=wz from hw.symm];clear c0 c1 c2 c3 z0 fz0 z1 fz1 z2 fz2 z3 fz3;replace HP:=h_ (HP.out.store HBr.out (by decide) (by omega) hg);replace HBt:=kG hg HBt;replace HD:=dN HD hg (by omega);have hsz5:=HD.out.size;clear hw hg;exact⟨by rw[<-HNt.out];rfl,by rw[HX.out];exact⟨HP.out,HD.out⟩⟩
 have HX:Hid (s.counted count limit=s.name):=h_ (by unfold St.counted;rw[if_neg hc]);have hc2:¬ ((limit:Nat):Int)<=(count:Nat):=by omega
 clear hc;obtain⟨c0,c1,c2,c3⟩:=cl4 HBt.out;obtain⟨z0,z1,z2,z3⟩:=cl4 HBr.out;obtain⟨fz0,fz1,fz2,fz3⟩:=fr4 HBr.out;go_wp2_with fail
 refine bodyPost_ret (v:=.agg #[.int .i64 (t.kind:Nat),.string ⟨t.text.toArray⟩,.int .i64 (t.line:Nat),.int .i64 (t.col:Nat)]) (by simp[results,Tryz.results63,go_sem,z0,z1,z2,z3]) rfl ?_;obtain⟨wz,hw⟩:∃ x,x=w3.setCells kr 0 [.int .i64 (t.kind:Nat),.string ⟨t.text.toArray⟩,.int .i64 (t.line:Nat),.int .i64 (t.col:Nat)]:=⟨_,rfl⟩
 have hg:w3.grownBy wz (some kr):=by rw[hw];exact setCells_grown _ _ _ _
 rw[show (((w3.setCell ⟨kr,0,none⟩ (.int .i64 (t.kind:Nat))).setCell ⟨kr,1,none⟩ (.string ⟨t.text.toArray⟩)).setCell ⟨kr,2,none⟩ (.int .i64 (t.line:Nat))).setCell ⟨kr,3,none⟩ (.int .i64 (t.col:Nat))=wz from hw.symm];clear c0 c1 c2 c3 z0 fz0 z1 fz1 z2 fz2 z3 fz3;replace HP:=h_ (HP.out.store HBr.out (by decide) (by omega) hg);replace HBt:=kG hg HBt;replace HD:=dN HD hg (by omega);have hsz4:=HD.out.size;clear hw hg;exact⟨by rw[<-HNt.out];rfl,by rw[HX.out];exact⟨HP.out,HD.out⟩⟩
theorem variable_p (g:Nat) (s:St) (w:World) (hps:PS w g s) :
  Calls Tryz.prog 65 #[.pointer (some ⟨g,0,none⟩)] w fun e w'=>e=.returned (pmV (cVar s).1 xZ)/\Did w g (cVar s).2 w':=by
 have HP:=h_ hps;clear hps;go_enter Tryz.func65,Tryz.ntmps65
 go_upto_region 1 with fail
 obtain⟨w1,kr,hw,hkk,hb,hs1,HBr⟩:=newb w #[.string ⟨#[]⟩,.int .i64 0,.bool false,.int .i64 0,.string ⟨#[]⟩,.string ⟨#[]⟩,.bool false,.slice none 0 0,.slice none 0 0,.int .i64 0,.int .i64 0,.int .i64 0,.int .i64 0] 48;have hgr:g<kr:=by rw[hkk];exact HP.out.lt
 have her:w.heap.size<=kr:=by omega
 rw[hw,<-hkk];replace HP:=h_ (HP.out.below hb);have HD:=h_ (below_grown hb (some g));clear hw hb hkk hs1;go_wp2_with fail
 refine (next_p g s w1 HP.out).mono ?_;rintro e w2 ⟨rfl,hb⟩;replace HBr:=kB hb HBr;replace HP:=h_ (HP.out.below hb);replace HD:=dB HD hb;have hsz2:=HD.out.size;clear hb;simp only[tokV];obtain⟨t,hnx⟩:∃ t,t=St.nx s:=⟨_,rfl⟩
 rw[<-hnx];have HNt:=h_ hnx;clear hnx;go_upto_region 2 with fail
 obtain⟨w3,kt,hw,hkk,hb,hs1,HBt⟩:=newb w2 #[.int .i64 (t.kind:Nat),.string ⟨t.text.toArray⟩,.int .i64 (t.line:Nat),.int .i64 (t.col:Nat)] 97;have hgt:g<kt:=by rw[hkk];exact HP.out.lt
 have het:w.heap.size<=kt:=by omega
 have hr_t:=lk_ hkk HBr;rw[hw,<-hkk];replace HBr:=kB hb HBr;replace HP:=h_ (HP.out.below hb);replace HD:=dB HD hb;have hsz3:=HD.out.size;clear hw hb hkk hs1;go_wp2_with fail
 obtain⟨w4,kq1,hw,hkk,hb,hs1,HBq1⟩:=newb w3 #[.string ⟨#[118]⟩,.string ⟨#[58]⟩] 9;have hgq1:g<kq1:=by rw[hkk];exact HP.out.lt
 have heq1:w.heap.size<=kq1:=by omega
 have hr_q1:=lk_ hkk HBr;have ht_q1:=lk_ hkk HBt;rw[hw,<-hkk];replace HBr:=kB hb HBr;replace HBt:=kB hb HBt;replace HP:=h_ (HP.out.below hb);replace HD:=dB HD hb;have hsz4:=HD.out.size;clear hw hb hkk hs1;refine (expect_p g s [[118],[58]] kq1 w4 HP.out HBq1.out (by omega) (by decide)).mono ?_;rintro e w5 ⟨⟨v,rfl⟩,hp,hg⟩;replace HBr:=kG hg HBr;replace HBt:=kG hg HBt;replace HBq1:=kG hg HBq1;replace HP:=h_ hp;replace HD:=dG HD (hg);have hsz5:=HD.out.size;clear hp hg;obtain⟨bb,hbb⟩:∃ b,b=(cBase ((s.exp [118]).exp [58])).1:=⟨_,rfl⟩
 obtain⟨sb,hsb⟩:∃ x,x=(cBase ((s.exp [118]).exp [58])).2:=⟨_,rfl⟩
 have HBB:=h_ hbb;have HSB:=h_ hsb;clear hbb hsb;go_upto_region 3 with fail
 have hlt_t:=lt_of_block HBt.out;have hog:∀ q,q<1->(fun q=>g) q<w5.heap.size:=fun q _=>by show g<_;exact HP.out.lt
 refine R7.region (by kernel_rfl) [[],[],[1],[0,1,2],[0,1,2,3]] [] [(2,1000)] (fun q=>g) 1 3 (by kernel_rfl) (by kernel_rfl) (by rfl) hog (fun q q' h h' hn=>absurd hn (by omega)) ?_;refine R7.cd ?_ (fun T xs wr hA=>?_) ?_
 rotate_left
 ·have e3:=hA.pq 3;simp only[gsa,gsc,gsz] at e3;have hBq:wr.heap[kt]?=_:=(hA.bl _ hlt_t (fun q _=>by show g≠kt;omega)).trans HBt.out;obtain⟨q0,q1,q2,q3⟩:=cl4 hBq;clear hBq;clear hA;go_simp<;>(try with_reducible rfl)
 refine R7.cd ?_ (fun T xs wr hA=>?_) ?_
 rotate_left
 ·have e0:=hA.pq 0;simp only[gsa,gsz] at e0;clear hA;go_simp<;>(try with_reducible rfl)
 refine R7.Chain.callOld 0 (fun xs v w=>v=.int .i64 (bb:Nat)/\PS w g sb) (fun _ _ _ _ ⟨h1,h2⟩ hb=>⟨h1,h2.below hb⟩) (fun _ _ _ _ q' _ hq hne _=>absurd rfl hne) (by rfl) (by rfl) (by decide) (R7.own_one (by rfl)) (fun T xs wr hA hold=>?_) ?_
 ·have hsw:=(hA.be 0 (Nat.zero_le _) (fun _ _=>Nat.zero_le _)).size;have e10:=tr_ (hA.tq 1 10) (hA.fq 1)
  (try simp (disch:=decide) only [R7.mi] at e10)
  have h0:=undrew (hA.be 0 (Nat.zero_le _) (fun _ _=>Nat.zero_le _))
  have hbw:Below w5.heap.size w5 wr:=⟨h0.os,h0.tape,h0.output,h0.size,fun k hk=>by
   by_cases e:k=g
   ·rw[e];exact hold
   exact hA.bl k hk (fun q _ h=>e h.symm)⟩
  clear hA;refine⟨(by rfl),fun K hK=>?_⟩;go_simp
  refine (base_p g ((s.exp [118]).exp [58]) wr (HP.out.below hbw)).mono ?_;rintro e w' ⟨rfl,hp,hg⟩;exact hK.out _ _ ⟨by rw[HBB.out],by rw[HSB.out];exact hp⟩ (R7.Priv.of hg)
 refine R7.Chain.done (fun xs w6 hL=>?_);obtain⟨⟨hbe,hbl⟩,hf,-,-⟩:=hL;have f0:xs 0=_:=hf 0 (by decide);have f1:xs 1=_:=hf 1 (by decide);have F2:(xs 2)=.int .i64 (bb:Nat)/\PS w6 g sb:=hf 2 (by decide)
 (try simp (disch:=decide) only [R7.mi] at f0 f1)
 have hb0:Below 0 w5 w6:=undrew (hbe 0 (Nat.zero_le _) (fun _ _=>Nat.zero_le _));have hgr:∀ j,j<w5.heap.size->(∀ q,q<1->(fun q=>g) q≠j)->w6.heap[j]?=w5.heap[j]?:=hbl;clear hbe hbl hf;obtain⟨hv,hp⟩:=F2;have hg:w5.grownBy w6 (some g):=⟨hb0.os,hb0.tape,hb0.output,hb0.size,fun k hk hn=>hgr k hk (fun q _ e=>hn (by rw[<-e]))⟩
 refine R7.rest_list (by decide) (by kernel_rfl) ?_;simp only[R7.fill,t1_,t2_,t3_,t4_,t5_,t6_,t7_,f0,f1];simp only[hv];clear hlt_t hog hv f0 f1;replace HBr:=kG hg HBr;replace HBt:=kG hg HBt;replace HP:=h_ hp;replace HD:=dG HD (hg);clear hp hg hb0 hgr;go_wp2_with fail
 refine (typed_p t.text t bb w6 rfl).mono ?_;rintro e w7 ⟨rfl,hb⟩;replace HBr:=kB hb HBr;replace HBt:=kB hb HBt;replace HP:=h_ (HP.out.below hb);replace HD:=dB HD hb;clear hb;simp only[pmV,typ,xZ];obtain⟨z0,z1,z2,z3,z4,z5,z6,z7,z8,z9,z10,z11,z12⟩:=cl13 HBr.out;obtain⟨fz0,fz1,fz2,fz3,fz4,fz5,fz6,fz7,fz8,fz9,fz10,fz11,fz12⟩:=fr13 HBr.out;go_wp2_with fail
 refine bodyPost_ret (v:=.agg #[.string ⟨t.text.toArray⟩,.int .i64 (bb:Nat),.bool false,.int .i64 0,.string ⟨#[]⟩,.string ⟨#[]⟩,.bool false,.slice none 0 0,.slice none 0 0,.int .i64 0,.int .i64 0,.int .i64 (t.line:Nat),.int .i64 (t.col:Nat)]) (by simp[results,Tryz.results65,go_sem,z0,z1,z2,z3,z4,z5,z6,z7,z8,z9,z10,z11,z12]) rfl ?_;obtain⟨wz,hw⟩:∃ x,x=w7.setCells kr 0 [.string ⟨t.text.toArray⟩,.int .i64 (bb:Nat),.bool false,.int .i64 0,.string ⟨#[]⟩,.string ⟨#[]⟩,.bool false,.slice none 0 0,.slice none 0 0,.int .i64 0,.int .i64 0,.int .i64 (t.line:Nat),.int .i64 (t.col:Nat)]:=⟨_,rfl⟩
 have hg:w7.grownBy wz (some kr):=by rw[hw];exact setCells_grown _ _ _ _
 rw[show ((((((((((((w7.setCell ⟨kr,0,none⟩ (.string ⟨t.text.toArray⟩)).setCell ⟨kr,1,none⟩ (.int .i64 (bb:Nat))).setCell ⟨kr,2,none⟩ (.bool false)).setCell ⟨kr,3,none⟩ (.int .i64 0)).setCell ⟨kr,4,none⟩ (.string ⟨#[]⟩)).setCell ⟨kr,5,none⟩ (.string ⟨#[]⟩)).setCell ⟨kr,6,none⟩ (.bool false)).setCell ⟨kr,7,none⟩ (.slice none 0 0)).setCell ⟨kr,8,none⟩ (.slice none 0 0)).setCell ⟨kr,9,none⟩ (.int .i64 0)).setCell ⟨kr,10,none⟩ (.int .i64 0)).setCell ⟨kr,11,none⟩ (.int .i64 (t.line:Nat))).setCell ⟨kr,12,none⟩ (.int .i64 (t.col:Nat))=wz from hw.symm];clear z0 fz0 z1 fz1 z2 fz2 z3 fz3 z4 fz4 z5 fz5 z6 fz6 z7 fz7 z8 fz8 z9 fz9 z10 fz10 z11 fz11 z12 fz12;replace HP:=h_ (HP.out.store HBr.out (by decide) (by omega) hg);replace HBt:=kG hg HBt;replace HD:=dN HD hg (by omega);have hsz8:=HD.out.size;clear hw hg
 exact⟨by unfold cVar;simp only[pmV,typ,xZ];rw[show (cBase ((s.exp wV).exp wColon)).1=bb from HBB.out.symm,<-HNt.out],by unfold cVar;rw[show (cBase ((s.exp wV).exp wColon)).2=sb from HSB.out.symm];exact⟨HP.out,HD.out⟩⟩
theorem param_p (g count:Nat) (s:St) (w:World) (hps:PS w g s) (hc:count<=1000000) :
  Calls Tryz.prog 66 #[.pointer (some ⟨g,0,none⟩),.int .i64 (count:Nat)] w fun e w'=>e=.returned (pmV (cParam count s).1 xZ)/\Did w g (cParam count s).2 w':=by
 have HP:=h_ hps;clear hps;go_enter Tryz.func66,Tryz.ntmps66
 go_upto_region 1 with fail
 obtain⟨w1,kr,hw,hkk,hb,hs1,HBr⟩:=newb w #[.string ⟨#[]⟩,.int .i64 0,.bool false,.int .i64 0,.string ⟨#[]⟩,.string ⟨#[]⟩,.bool false,.slice none 0 0,.slice none 0 0,.int .i64 0,.int .i64 0,.int .i64 0,.int .i64 0] 48;have hgr:g<kr:=by rw[hkk];exact HP.out.lt
 have her:w.heap.size<=kr:=by omega
 rw[hw,<-hkk];replace HP:=h_ (HP.out.below hb);have HD:=h_ (below_grown hb (some g));clear hw hb hkk hs1;go_wp2_with fail
 refine (counted_p g count 6 s w1 HP.out hc (by decide)).mono ?_;rintro e w2 ⟨rfl,hp,hg⟩;replace HBr:=kG hg HBr;replace HP:=h_ hp;replace HD:=dG HD (hg);have hsz2:=HD.out.size;clear hp hg;simp only[tokV];obtain⟨t,hnx⟩:∃ t,t=St.nx s:=⟨_,rfl⟩
 rw[<-hnx];have HNt:=h_ hnx;clear hnx;go_upto_region 2 with fail
 obtain⟨w3,kt,hw,hkk,hb,hs1,HBt⟩:=newb w2 #[.int .i64 (t.kind:Nat),.string ⟨t.text.toArray⟩,.int .i64 (t.line:Nat),.int .i64 (t.col:Nat)] 97;have hgt:g<kt:=by rw[hkk];exact HP.out.lt
 have het:w.heap.size<=kt:=by omega
 have hr_t:=lk_ hkk HBr;rw[hw,<-hkk];replace HBr:=kB hb HBr;replace HP:=h_ (HP.out.below hb);replace HD:=dB HD hb;have hsz3:=HD.out.size;clear hw hb hkk hs1;go_wp2_with fail
 obtain⟨w4,kq1,hw,hkk,hb,hs1,HBq1⟩:=newb w3 #[.string ⟨#[58]⟩] 9;have hgq1:g<kq1:=by rw[hkk];exact HP.out.lt
 have heq1:w.heap.size<=kq1:=by omega
 have hr_q1:=lk_ hkk HBr;have ht_q1:=lk_ hkk HBt;rw[hw,<-hkk];replace HBr:=kB hb HBr;replace HBt:=kB hb HBt;replace HP:=h_ (HP.out.below hb);replace HD:=dB HD hb;have hsz4:=HD.out.size;clear hw hb hkk hs1;refine (expect_p g (s.counted count 6) [[58]] kq1 w4 HP.out HBq1.out (by omega) (by decide)).mono ?_;rintro e w5 ⟨⟨v,rfl⟩,hp,hg⟩;replace HBr:=kG hg HBr;replace HBt:=kG hg HBt;replace HBq1:=kG hg HBq1;replace HP:=h_ hp;replace HD:=dG HD (hg);have hsz5:=HD.out.size;clear hp hg;obtain⟨bb,hbb⟩:∃ b,b=(cBase ((s.counted count 6).exp [58])).1:=⟨_,rfl⟩
 obtain⟨sb,hsb⟩:∃ x,x=(cBase ((s.counted count 6).exp [58])).2:=⟨_,rfl⟩
 have HBB:=h_ hbb;have HSB:=h_ hsb;clear hbb hsb;go_upto_region 3 with fail
 have hlt_t:=lt_of_block HBt.out;have hog:∀ q,q<1->(fun q=>g) q<w5.heap.size:=fun q _=>by show g<_;exact HP.out.lt
 refine R7.region (by kernel_rfl) [[],[],[1],[0,1,2],[0,1,2,3]] [] [(2,1000)] (fun q=>g) 1 3 (by kernel_rfl) (by kernel_rfl) (by rfl) hog (fun q q' h h' hn=>absurd hn (by omega)) ?_;refine R7.cd ?_ (fun T xs wr hA=>?_) ?_
 rotate_left
 ·have e5:=hA.pq 5;simp only[gsa,gsc,gsz] at e5;have hBq:wr.heap[kt]?=_:=(hA.bl _ hlt_t (fun q _=>by show g≠kt;omega)).trans HBt.out;obtain⟨q0,q1,q2,q3⟩:=cl4 hBq;clear hBq;clear hA;go_simp<;>(try with_reducible rfl)
 refine R7.cd ?_ (fun T xs wr hA=>?_) ?_
 rotate_left
 ·have e0:=hA.pq 0;simp only[gsa,gsz] at e0;clear hA;go_simp<;>(try with_reducible rfl)
 refine R7.Chain.callOld 0 (fun xs v w=>v=.int .i64 (bb:Nat)/\PS w g sb) (fun _ _ _ _ ⟨h1,h2⟩ hb=>⟨h1,h2.below hb⟩) (fun _ _ _ _ q' _ hq hne _=>absurd rfl hne) (by rfl) (by rfl) (by decide) (R7.own_one (by rfl)) (fun T xs wr hA hold=>?_) ?_
 ·have hsw:=(hA.be 0 (Nat.zero_le _) (fun _ _=>Nat.zero_le _)).size;have e13:=tr_ (hA.tq 1 13) (hA.fq 1)
  (try simp (disch:=decide) only [R7.mi] at e13)
  have h0:=undrew (hA.be 0 (Nat.zero_le _) (fun _ _=>Nat.zero_le _))
  have hbw:Below w5.heap.size w5 wr:=⟨h0.os,h0.tape,h0.output,h0.size,fun k hk=>by
   by_cases e:k=g
   ·rw[e];exact hold
   exact hA.bl k hk (fun q _ h=>e h.symm)⟩
  clear hA;refine⟨(by rfl),fun K hK=>?_⟩;go_simp
  refine (base_p g ((s.counted count 6).exp [58]) wr (HP.out.below hbw)).mono ?_;rintro e w' ⟨rfl,hp,hg⟩;exact hK.out _ _ ⟨by rw[HBB.out],by rw[HSB.out];exact hp⟩ (R7.Priv.of hg)
 refine R7.Chain.done (fun xs w6 hL=>?_);obtain⟨⟨hbe,hbl⟩,hf,-,-⟩:=hL;have f0:xs 0=_:=hf 0 (by decide);have f1:xs 1=_:=hf 1 (by decide);have F2:(xs 2)=.int .i64 (bb:Nat)/\PS w6 g sb:=hf 2 (by decide)
 (try simp (disch:=decide) only [R7.mi] at f0 f1)
 have hb0:Below 0 w5 w6:=undrew (hbe 0 (Nat.zero_le _) (fun _ _=>Nat.zero_le _));have hgr:∀ j,j<w5.heap.size->(∀ q,q<1->(fun q=>g) q≠j)->w6.heap[j]?=w5.heap[j]?:=hbl;clear hbe hbl hf;obtain⟨hv,hp⟩:=F2;have hg:w5.grownBy w6 (some g):=⟨hb0.os,hb0.tape,hb0.output,hb0.size,fun k hk hn=>hgr k hk (fun q _ e=>hn (by rw[<-e]))⟩
 refine R7.rest_list (by decide) (by kernel_rfl) ?_;simp only[R7.fill,t1_,t2_,t3_,t4_,t5_,t6_,t7_,f0,f1];simp only[hv];clear hlt_t hog hv f0 f1;replace HBr:=kG hg HBr;replace HBt:=kG hg HBt;replace HP:=h_ hp;replace HD:=dG HD (hg);clear hp hg hb0 hgr;go_wp2_with fail
 refine (typed_p t.text t bb w6 rfl).mono ?_;rintro e w7 ⟨rfl,hb⟩;replace HBr:=kB hb HBr;replace HBt:=kB hb HBt;replace HP:=h_ (HP.out.below hb);replace HD:=dB HD hb;clear hb;simp only[pmV,typ,xZ];obtain⟨z0,z1,z2,z3,z4,z5,z6,z7,z8,z9,z10,z11,z12⟩:=cl13 HBr.out;obtain⟨fz0,fz1,fz2,fz3,fz4,fz5,fz6,fz7,fz8,fz9,fz10,fz11,fz12⟩:=fr13 HBr.out;go_wp2_with fail
 refine bodyPost_ret (v:=.agg #[.string ⟨t.text.toArray⟩,.int .i64 (bb:Nat),.bool false,.int .i64 0,.string ⟨#[]⟩,.string ⟨#[]⟩,.bool false,.slice none 0 0,.slice none 0 0,.int .i64 0,.int .i64 0,.int .i64 (t.line:Nat),.int .i64 (t.col:Nat)]) (by simp[results,Tryz.results66,go_sem,z0,z1,z2,z3,z4,z5,z6,z7,z8,z9,z10,z11,z12]) rfl ?_;obtain⟨wz,hw⟩:∃ x,x=w7.setCells kr 0 [.string ⟨t.text.toArray⟩,.int .i64 (bb:Nat),.bool false,.int .i64 0,.string ⟨#[]⟩,.string ⟨#[]⟩,.bool false,.slice none 0 0,.slice none 0 0,.int .i64 0,.int .i64 0,.int .i64 (t.line:Nat),.int .i64 (t.col:Nat)]:=⟨_,rfl⟩
 have hg:w7.grownBy wz (some kr):=by rw[hw];exact setCells_grown _ _ _ _
 rw[show ((((((((((((w7.setCell ⟨kr,0,none⟩ (.string ⟨t.text.toArray⟩)).setCell ⟨kr,1,none⟩ (.int .i64 (bb:Nat))).setCell ⟨kr,2,none⟩ (.bool false)).setCell ⟨kr,3,none⟩ (.int .i64 0)).setCell ⟨kr,4,none⟩ (.string ⟨#[]⟩)).setCell ⟨kr,5,none⟩ (.string ⟨#[]⟩)).setCell ⟨kr,6,none⟩ (.bool false)).setCell ⟨kr,7,none⟩ (.slice none 0 0)).setCell ⟨kr,8,none⟩ (.slice none 0 0)).setCell ⟨kr,9,none⟩ (.int .i64 0)).setCell ⟨kr,10,none⟩ (.int .i64 0)).setCell ⟨kr,11,none⟩ (.int .i64 (t.line:Nat))).setCell ⟨kr,12,none⟩ (.int .i64 (t.col:Nat))=wz from hw.symm];clear z0 fz0 z1 fz1 z2 fz2 z3 fz3 z4 fz4 z5 fz5 z6 fz6 z7 fz7 z8 fz8 z9 fz9 z10 fz10 z11 fz11 z12 fz12;replace HP:=h_ (HP.out.store HBr.out (by decide) (by omega) hg);replace HBt:=kG hg HBt;replace HD:=dN HD hg (by omega);have hsz8:=HD.out.size;clear hw hg
 exact⟨by unfold cParam;simp only[pmV,typ,xZ];rw[show (cBase ((s.counted count 6).exp wColon)).1=bb from HBB.out.symm,<-HNt.out],by unfold cParam;rw[show (cBase ((s.counted count 6).exp wColon)).2=sb from HSB.out.symm];exact⟨HP.out,HD.out⟩⟩
theorem refined_p (n:Nat) (hn:n<=1000000) (g:Nat) (s:St) (nm:Bs) (t:Tok) (b:Nat) (r:PmU × St) (w:World) (hps:PS w g s) (hop:GOps w g) (hc:cRef n (typ nm t b) s=some r) :
  Calls Tryz.prog 69 #[.pointer (some ⟨g,0,none⟩),pmV (typ nm t b) xZ] w fun e w'=>∃ y,e=.returned (pmV r.1 y)/\Um w' (fun k=>w.heap.size<=k) y r.1.ref/\Did w g r.2 w':=by
 have HP:=h_ hps;have HOP:=h_ hop;clear hps hop;unfold cRef at hc;simp only[pmV,typ,xZ];go_enter Tryz.func69,Tryz.ntmps69
 go_upto_region 1 with fail
 obtain⟨w1,kp,hw,hkk,hb,hs1,HBp⟩:=newb w #[.string ⟨nm.toArray⟩,.int .i64 (b:Nat),.bool false,.int .i64 0,.string ⟨#[]⟩,.string ⟨#[]⟩,.bool false,.slice none 0 0,.slice none 0 0,.int .i64 0,.int .i64 0,.int .i64 (t.line:Nat),.int .i64 (t.col:Nat)] 48;have hgp:g<kp:=by rw[hkk];exact HP.out.lt
 have hep:w.heap.size<=kp:=by omega
 rw[hw,<-hkk,<-hs1];replace HP:=h_ (HP.out.below hb);replace HOP:=h_ (HOP.out.below hb);have HD:=h_ (below_grown hb (some g));have hsz1:=HD.out.size;clear hw hb hkk hs1;obtain⟨w2,kr,hw,hkk,hb,hs1,HBr⟩:=newb w1 #[.string ⟨#[]⟩,.int .i64 0,.bool false,.int .i64 0,.string ⟨#[]⟩,.string ⟨#[]⟩,.bool false,.slice none 0 0,.slice none 0 0,.int .i64 0,.int .i64 0,.int .i64 0,.int .i64 0] 48;have hgr:g<kr:=by rw[hkk];exact HP.out.lt
 have her:w.heap.size<=kr:=by omega
 have hp_r:=lk_ hkk HBp;rw[hw,<-hkk];replace HBp:=kB hb HBp;replace HP:=h_ (HP.out.below hb);replace HOP:=h_ (HOP.out.below hb);replace HD:=dB HD hb;clear hw hb hkk hs1;go_wp2_with fail
 refine (accept_p g s [123] w2 HP.out).mono ?_;rintro e w3 ⟨rfl,hp,hg⟩;replace HBp:=kG hg HBp;replace HBr:=kG hg HBr;replace HOP:=h_ (HOP.out.grown hg (by omega));replace HP:=h_ hp;replace HD:=dG HD (hg);have hsz3:=HD.out.size;clear hp hg
 by_cases hi:s.is wBraceO=true
 ·rw[if_pos hi,Option.bind_eq_some_iff] at hc;obtain⟨q,hq,hc⟩:=hc;injection hc with hc;subst hc;have HQ:=h_ hq;have HX:Hid (s.acc [123]=s.tk):=h_ (by unfold St.acc;rw[show s.is [123]=true from hi];rfl);rw[HX.out] at HP;rw[show s.is [123]=true from hi];clear hi hq;obtain⟨c0,c1,c2,c3,c4,c5,c6,c7,c8,c9,c10,c11,c12⟩:=cl13 HBp.out;obtain⟨fc0,fc1,fc2,fc3,fc4,fc5,fc6,fc7,fc8,fc9,fc10,fc11,fc12⟩:=fr13 HBp.out;go_upto_region 3 with fail
  obtain⟨w4,hw⟩:∃ x,x=w3.setCells kp 2 [.bool true]:=⟨_,rfl⟩
  have hg:w3.grownBy w4 (some kp):=by rw[hw];exact setCells_grown _ _ _ _
  have hv:=put_same [.bool true] w3 kp 2 _ _ HBp.out (Nat.le_of_ble_eq_true rfl);rw[<-hw] at hv;rw[show w3.setCell ⟨kp,2,none⟩ (.bool true)=w4 from hw.symm];clear c0 fc0 c1 fc1 c2 fc2 c3 fc3 c4 fc4 c5 fc5 c6 fc6 c7 fc7 c8 fc8 c9 fc9 c10 fc10 c11 fc11 c12 fc12;replace HP:=h_ (HP.out.store HBp.out (by decide) (by omega) hg);replace HBr:=kG hg HBr;replace HOP:=h_ (HOP.out.grown hg (by omega));replace HD:=dN HD hg (by omega);have hsz4:=HD.out.size;replace HBp:Hid (w4.heap[kp]?=some (.cells #[.string ⟨nm.toArray⟩,.int .i64 (b:Nat),.bool true,.int .i64 0,.string ⟨#[]⟩,.string ⟨#[]⟩,.bool false,.slice none 0 0,.slice none 0 0,.int .i64 0,.int .i64 0,.int .i64 (t.line:Nat),.int .i64 (t.col:Nat)] 48 (0,0))):=h_ hv;clear hw hg hv;go_wp2_with fail
  obtain⟨Nb,hN⟩:∃ k,k=w4.heap.size:=⟨_,rfl⟩
  have hp_Nb:kp<Nb:=by rw[hN];exact lt_of_block HBp.out
  have hr_Nb:kr<Nb:=by rw[hN];exact lt_of_block HBr.out
  have hg_Nb:g<Nb:=by rw[hN];exact HP.out.lt
  have he_Nb:w.heap.size<=Nb:=by omega
  refine (complete_p n hn g s.tk q w4 HP.out HOP.out HQ.out).mono ?_;rintro e w5 ⟨xb,rfl,hu,hp,hg⟩;replace HBp:=kG hg HBp;replace HBr:=kG hg HBr;replace HOP:=h_ (HOP.out.grown hg (by omega));replace HP:=h_ hp;replace HD:=dG HD (hg);rw[<-hN] at hu;have HUb:=h_ (hu.mono (S':=fun b=>Nb<=b/\True) (fun b h=>⟨h,trivial⟩));clear hN hu;clear hp hg;obtain⟨bk,bnm,bot,bb,bao,bn,bq,bko,bkn,bkc,bln,bcl⟩:=xb;simp only[xv];obtain⟨c0,c1,c2,c3,c4,c5,c6,c7,c8,c9,c10,c11,c12⟩:=cl13 HBp.out;obtain⟨fc0,fc1,fc2,fc3,fc4,fc5,fc6,fc7,fc8,fc9,fc10,fc11,fc12⟩:=fr13 HBp.out;go_upto_region 4 with fail
  obtain⟨w6,hw⟩:∃ x,x=w5.setCells kp 3 [.int .i64 bk,.string bnm,.string bot,.bool bb,.slice bao bn bq,.slice bko bkn bkc,.int .i64 bln,.int .i64 bcl]:=⟨_,rfl⟩
  have hg:w5.grownBy w6 (some kp):=by rw[hw];exact setCells_grown _ _ _ _
  have hv:=put_same [.int .i64 bk,.string bnm,.string bot,.bool bb,.slice bao bn bq,.slice bko bkn bkc,.int .i64 bln,.int .i64 bcl] w5 kp 3 _ _ HBp.out (Nat.le_of_ble_eq_true rfl);rw[<-hw] at hv;rw[show (((((((w5.setCell ⟨kp,3,none⟩ (.int .i64 bk)).setCell ⟨kp,4,none⟩ (.string bnm)).setCell ⟨kp,5,none⟩ (.string bot)).setCell ⟨kp,6,none⟩ (.bool bb)).setCell ⟨kp,7,none⟩ (.slice bao bn bq)).setCell ⟨kp,8,none⟩ (.slice bko bkn bkc)).setCell ⟨kp,9,none⟩ (.int .i64 bln)).setCell ⟨kp,10,none⟩ (.int .i64 bcl)=w6 from hw.symm];clear c0 fc0 c1 fc1 c2 fc2 c3 fc3 c4 fc4 c5 fc5 c6 fc6 c7 fc7 c8 fc8 c9 fc9 c10 fc10 c11 fc11 c12 fc12;replace HP:=h_ (HP.out.store HBp.out (by decide) (by omega) hg);replace HBr:=kG hg HBr;replace HUb:=h_ (HUb.out.grown hg (fun h=>by omega));replace HOP:=h_ (HOP.out.grown hg (by omega));replace HD:=dN HD hg (by omega)
  have hsz6:=HD.out.size;replace HBp:Hid (w6.heap[kp]?=some (.cells #[.string ⟨nm.toArray⟩,.int .i64 (b:Nat),.bool true,.int .i64 bk,.string bnm,.string bot,.bool bb,.slice bao bn bq,.slice bko bkn bkc,.int .i64 bln,.int .i64 bcl,.int .i64 (t.line:Nat),.int .i64 (t.col:Nat)] 48 (0,0))):=h_ hv;clear hw hg hv;go_wp2_with fail
  obtain⟨w7,kq1,hw,hkk,hb,hs1,HBq1⟩:=newb w6 #[.string ⟨#[125]⟩] 9;have hgq1:g<kq1:=by rw[hkk];exact HP.out.lt
  have heq1:w.heap.size<=kq1:=by omega
  have hp_q1:=lk_ hkk HBp;have hr_q1:=lk_ hkk HBr;replace HUb:=h_ (HUb.out.offk hkk);rw[hw,<-hkk];replace HBp:=kB hb HBp;replace HBr:=kB hb HBr;replace HP:=h_ (HP.out.below hb);replace HUb:=h_ (HUb.out.below hb);replace HOP:=h_ (HOP.out.below hb);replace HD:=dB HD hb;have hsz7:=HD.out.size;clear hw hb hkk hs1;refine (expect_p g q.2 [[125]] kq1 w7 HP.out HBq1.out (by omega) (by decide)).mono ?_;rintro e w8 ⟨⟨v,rfl⟩,hp,hg⟩;replace HBp:=kG hg HBp;replace HBr:=kG hg HBr;replace HBq1:=kG hg HBq1;replace HUb:=h_ (HUb.out.grown hg (fun h=>by omega));replace HOP:=h_ (HOP.out.grown hg (by omega));replace HP:=h_ hp;replace HD:=dG HD (hg);clear hp hg;obtain⟨c0,c1,c2,c3,c4,c5,c6,c7,c8,c9,c10,c11,c12⟩:=cl13 HBp.out;obtain⟨z0,z1,z2,z3,z4,z5,z6,z7,z8,z9,z10,z11,z12⟩:=cl13 HBr.out
  obtain⟨fz0,fz1,fz2,fz3,fz4,fz5,fz6,fz7,fz8,fz9,fz10,fz11,fz12⟩:=fr13 HBr.out;go_wp2_with fail
  refine bodyPost_ret (v:=.agg #[.string ⟨nm.toArray⟩,.int .i64 (b:Nat),.bool true,.int .i64 bk,.string bnm,.string bot,.bool bb,.slice bao bn bq,.slice bko bkn bkc,.int .i64 bln,.int .i64 bcl,.int .i64 (t.line:Nat),.int .i64 (t.col:Nat)]) (by simp[results,Tryz.results69,go_sem,z0,z1,z2,z3,z4,z5,z6,z7,z8,z9,z10,z11,z12]) rfl ?_;obtain⟨wz,hw⟩:∃ x,x=w8.setCells kr 0 [.string ⟨nm.toArray⟩,.int .i64 (b:Nat),.bool true,.int .i64 bk,.string bnm,.string bot,.bool bb,.slice bao bn bq,.slice bko bkn bkc,.int .i64 bln,.int .i64 bcl,.int .i64 (t.line:Nat),.int .i64 (t.col:Nat)]:=⟨_,rfl⟩
  have hg:w8.grownBy wz (some kr):=by rw[hw];exact setCells_grown _ _ _ _
  rw[show ((((((((((((w8.setCell ⟨kr,0,none⟩ (.string ⟨nm.toArray⟩)).setCell ⟨kr,1,none⟩ (.int .i64 (b:Nat))).setCell ⟨kr,2,none⟩ (.bool true)).setCell ⟨kr,3,none⟩ (.int .i64 bk)).setCell ⟨kr,4,none⟩ (.string bnm)).setCell ⟨kr,5,none⟩ (.string bot)).setCell ⟨kr,6,none⟩ (.bool bb)).setCell ⟨kr,7,none⟩ (.slice bao bn bq)).setCell ⟨kr,8,none⟩ (.slice bko bkn bkc)).setCell ⟨kr,9,none⟩ (.int .i64 bln)).setCell ⟨kr,10,none⟩ (.int .i64 bcl)).setCell ⟨kr,11,none⟩ (.int .i64 (t.line:Nat))).setCell ⟨kr,12,none⟩ (.int .i64 (t.col:Nat))=wz from hw.symm];clear c0 c1 c2 c3 c4 c5 c6 c7 c8 c9 c10 c11 c12 z0 fz0 z1 fz1 z2 fz2 z3 fz3 z4 fz4 z5 fz5 z6 fz6 z7 fz7 z8 fz8 z9 fz9 z10 fz10 z11 fz11 z12 fz12;replace HP:=h_ (HP.out.store HBr.out (by decide) (by omega) hg);replace HBp:=kG hg HBp;replace HUb:=h_ (HUb.out.grown hg (fun h=>by omega))
  replace HOP:=h_ (HOP.out.grown hg (by omega));replace HD:=dN HD hg (by omega);have hsz9:=HD.out.size;clear hw hg;exact⟨⟨bk,bnm,bot,bb,bao,bn,bq,bko,bkn,bkc,bln,bcl⟩,rfl,(HUb.out.mono (fun b h=>by have h:(Nb<=b/\True)/\b≠kq1:=h;show _<=b;omega)),HP.out,HD.out⟩
 rw[if_neg hi] at hc;injection hc with hc;subst hc;have hif:s.is [123]=false:=by simpa using hi
 have HX:Hid (s.acc [123]=s):=h_ (by unfold St.acc;rw[hif];rfl);rw[HX.out] at HP;rw[hif];clear hi hif;obtain⟨c0,c1,c2,c3,c4,c5,c6,c7,c8,c9,c10,c11,c12⟩:=cl13 HBp.out;obtain⟨z0,z1,z2,z3,z4,z5,z6,z7,z8,z9,z10,z11,z12⟩:=cl13 HBr.out;obtain⟨fz0,fz1,fz2,fz3,fz4,fz5,fz6,fz7,fz8,fz9,fz10,fz11,fz12⟩:=fr13 HBr.out;go_wp2_with fail
 refine bodyPost_ret (v:=.agg #[.string ⟨nm.toArray⟩,.int .i64 (b:Nat),.bool false,.int .i64 0,.string ⟨#[]⟩,.string ⟨#[]⟩,.bool false,.slice none 0 0,.slice none 0 0,.int .i64 0,.int .i64 0,.int .i64 (t.line:Nat),.int .i64 (t.col:Nat)]) (by simp[results,Tryz.results69,go_sem,z0,z1,z2,z3,z4,z5,z6,z7,z8,z9,z10,z11,z12]) rfl ?_;obtain⟨wz,hw⟩:∃ x,x=w3.setCells kr 0 [.string ⟨nm.toArray⟩,.int .i64 (b:Nat),.bool false,.int .i64 0,.string ⟨#[]⟩,.string ⟨#[]⟩,.bool false,.slice none 0 0,.slice none 0 0,.int .i64 0,.int .i64 0,.int .i64 (t.line:Nat),.int .i64 (t.col:Nat)]:=⟨_,rfl⟩
 have hg:w3.grownBy wz (some kr):=by rw[hw];exact setCells_grown _ _ _ _
 rw[show ((((((((((((w3.setCell ⟨kr,0,none⟩ (.string ⟨nm.toArray⟩)).setCell ⟨kr,1,none⟩ (.int .i64 (b:Nat))).setCell ⟨kr,2,none⟩ (.bool false)).setCell ⟨kr,3,none⟩ (.int .i64 0)).setCell ⟨kr,4,none⟩ (.string ⟨#[]⟩)).setCell ⟨kr,5,none⟩ (.string ⟨#[]⟩)).setCell ⟨kr,6,none⟩ (.bool false)).setCell ⟨kr,7,none⟩ (.slice none 0 0)).setCell ⟨kr,8,none⟩ (.slice none 0 0)).setCell ⟨kr,9,none⟩ (.int .i64 0)).setCell ⟨kr,10,none⟩ (.int .i64 0)).setCell ⟨kr,11,none⟩ (.int .i64 (t.line:Nat))).setCell ⟨kr,12,none⟩ (.int .i64 (t.col:Nat))=wz from hw.symm];clear c0 c1 c2 c3 c4 c5 c6 c7 c8 c9 c10 c11 c12 z0 fz0 z1 fz1 z2 fz2 z3 fz3 z4 fz4 z5 fz5 z6 fz6 z7 fz7 z8 fz8 z9 fz9 z10 fz10 z11 fz11 z12 fz12;replace HP:=h_ (HP.out.store HBr.out (by decide) (by omega) hg);replace HBp:=kG hg HBp;replace HOP:=h_ (HOP.out.grown hg (by omega));replace HD:=dN HD hg (by omega)
 have hsz4:=HD.out.size;clear hw hg;exact⟨xZ,rfl,um_zero _ _,HP.out,HD.out⟩
theorem result_p (n:Nat) (hn:n<=1000000) (g:Nat) (s:St) (r:PmU × St) (w:World) (hps:PS w g s) (hop:GOps w g) (hc:cRes n s=some r) :
  Calls Tryz.prog 70 #[.pointer (some ⟨g,0,none⟩)] w fun e w'=>∃ y,e=.returned (pmV r.1 y)/\Um w' (fun k=>w.heap.size<=k) y r.1.ref/\Did w g r.2 w':=by
 have HP:=h_ hps;have HOP:=h_ hop;have HC:=h_ hc;clear hps hop hc;go_enter Tryz.func70,Tryz.ntmps70
 go_upto_region 1 with fail
 obtain⟨w1,kr,hw,hkk,hb,hs1,HBr⟩:=newb w #[.string ⟨#[]⟩,.int .i64 0,.bool false,.int .i64 0,.string ⟨#[]⟩,.string ⟨#[]⟩,.bool false,.slice none 0 0,.slice none 0 0,.int .i64 0,.int .i64 0,.int .i64 0,.int .i64 0] 48;have hgr:g<kr:=by rw[hkk];exact HP.out.lt
 have her:w.heap.size<=kr:=by omega
 rw[hw,<-hkk];replace HP:=h_ (HP.out.below hb);replace HOP:=h_ (HOP.out.below hb);have HD:=h_ (below_grown hb (some g));clear hw hb hkk hs1;go_wp2_with fail
 refine (next_p g s w1 HP.out).mono ?_;rintro e w2 ⟨rfl,hb⟩;replace HBr:=kB hb HBr;replace HP:=h_ (HP.out.below hb);replace HOP:=h_ (HOP.out.below hb);replace HD:=dB HD hb;have hsz2:=HD.out.size;clear hb;simp only[tokV];obtain⟨t,hnx⟩:∃ t,t=St.nx s:=⟨_,rfl⟩
 rw[<-hnx];have HNt:=h_ hnx;clear hnx;go_upto_region 2 with fail
 obtain⟨w3,kt,hw,hkk,hb,hs1,HBt⟩:=newb w2 #[.int .i64 (t.kind:Nat),.string ⟨t.text.toArray⟩,.int .i64 (t.line:Nat),.int .i64 (t.col:Nat)] 97;have hgt:g<kt:=by rw[hkk];exact HP.out.lt
 have het:w.heap.size<=kt:=by omega
 have hr_t:=lk_ hkk HBr;rw[hw,<-hkk];replace HBr:=kB hb HBr;replace HP:=h_ (HP.out.below hb);replace HOP:=h_ (HOP.out.below hb);replace HD:=dB HD hb;have hsz3:=HD.out.size;clear hw hb hkk hs1;obtain⟨bb,hbb⟩:∃ b,b=(cBase s).1:=⟨_,rfl⟩
 obtain⟨sb,hsb⟩:∃ x,x=(cBase s).2:=⟨_,rfl⟩
 have HBB:=h_ hbb;have HSB:=h_ hsb;clear hbb hsb;have hlt_t:=lt_of_block HBt.out;have hog:∀ q,q<1->(fun q=>g) q<w3.heap.size:=fun q _=>by show g<_;exact HP.out.lt
 refine R7.region (by kernel_rfl) [[],[],[1],[0,1,2],[],[0,1,2,3,4]] [] [(2,1000)] (fun q=>g) 1 5 (by kernel_rfl) (by kernel_rfl) (by rfl) hog (fun q q' h h' hn=>absurd hn (by omega)) ?_;refine R7.cd ?_ (fun T xs wr hA=>?_) ?_
 rotate_left
 ·have e3:=hA.pq 3;simp only[gsa,gsc,gsz] at e3;have hBq:wr.heap[kt]?=_:=(hA.bl _ hlt_t (fun q _=>by show g≠kt;omega)).trans HBt.out;obtain⟨q0,q1,q2,q3⟩:=cl4 hBq;clear hBq;clear hA;go_simp<;>(try with_reducible rfl)
 refine R7.cd ?_ (fun T xs wr hA=>?_) ?_
 rotate_left
 ·have e0:=hA.pq 0;simp only[gsa,gsz] at e0;clear hA;go_simp<;>(try with_reducible rfl)
 refine R7.Chain.callOld 0 (fun xs v w=>v=.int .i64 (bb:Nat)/\PS w g sb) (fun _ _ _ _ ⟨h1,h2⟩ hb=>⟨h1,h2.below hb⟩) (fun _ _ _ _ q' _ hq hne _=>absurd rfl hne) (by rfl) (by rfl) (by decide) (R7.own_one (by rfl)) (fun T xs wr hA hold=>?_) ?_
 ·have hsw:=(hA.be 0 (Nat.zero_le _) (fun _ _=>Nat.zero_le _)).size;have e8:=tr_ (hA.tq 1 8) (hA.fq 1)
  (try simp (disch:=decide) only [R7.mi] at e8)
  have h0:=undrew (hA.be 0 (Nat.zero_le _) (fun _ _=>Nat.zero_le _))
  have hbw:Below w3.heap.size w3 wr:=⟨h0.os,h0.tape,h0.output,h0.size,fun k hk=>by
   by_cases e:k=g
   ·rw[e];exact hold
   exact hA.bl k hk (fun q _ h=>e h.symm)⟩
  clear hA;refine⟨(by rfl),fun K hK=>?_⟩;go_simp
  refine (base_p g s wr (HP.out.below hbw)).mono ?_;rintro e w' ⟨rfl,hp,hg⟩;exact hK.out _ _ ⟨by rw[HBB.out],by rw[HSB.out];exact hp⟩ (R7.Priv.of hg)
 refine R7.Chain.call (fun xs v w=>v=pmV (typ t.text t bb) xZ) (fun _ _ _ _ h _=>h) (fun _ _ _ _ _ h _ _=>h) (by rfl) (fun T xs wr hA=>?_) ?_
 ·have hsw:=(hA.be 0 (Nat.zero_le _) (fun _ _=>Nat.zero_le _)).size;have e7:=tr_ (hA.tq 0 7) (hA.fq 0)
  (try simp (disch:=decide) only [R7.mi] at e7)
  have e9:=hA.tm 2 9 (by rfl) (by rfl);have hF2:(xs 2)=.int .i64 (bb:Nat)/\PS wr g sb:=hA.fa 2 (by rfl);have hx:=hF2;rw[hx.1] at e9;clear hx;clear hA;refine⟨(by rfl),fun K hK=>?_⟩;go_simp
  refine (typed_p t.text t bb _ rfl).mono ?_;rintro e w' ⟨rfl,hb⟩;exact hK.out _ _ rfl hb
 refine R7.Chain.call (fun xs v w=>∃ k,v=.pointer (some ⟨k,0,none⟩)/\w3.heap.size<=k/\w.heap[k]?=some (.cells #[.string ⟨#[]⟩,.int .i64 0,.bool false,.int .i64 0,.string ⟨#[]⟩,.string ⟨#[]⟩,.bool false,.slice none 0 0,.slice none 0 0,.int .i64 0,.int .i64 0,.int .i64 0,.int .i64 0] 48 (0,0))) (fun _ _ _ _ ⟨g,hv,hl,hg⟩ hb=>⟨g,hv,hl,by rw[hb.block g (Array.getElem?_eq_some_iff.1 hg).1];exact hg⟩) (fun _ _ _ _ _ ⟨g,hv,hl,hg⟩ ⟨q,hq,e⟩ hp=>⟨g,hv,hl,by rw[hp.block g (Array.getElem?_eq_some_iff.1 hg).1 (fun h=>by have:=hog q hq;omega)];exact hg⟩) (by rfl) (fun T xs wr hA=>?_) ?_
 ·have hsw:=(hA.be 0 (Nat.zero_le _) (fun _ _=>Nat.zero_le _)).size;clear hA;refine⟨(by rfl),fun K hK=>?_⟩;go_simp
  exact hK.out _ _ ⟨_,rfl,hsw,by simpa using made_at wr _ _ rfl⟩ ((Below.refl _ _).alloc (Nat.le_refl _) _)
 refine R7.Chain.done (fun xs w4 hL=>?_);obtain⟨⟨hbe,hbl⟩,hf,-,-⟩:=hL;have f0:xs 0=_:=hf 0 (by decide);have f1:xs 1=_:=hf 1 (by decide);have F2:(xs 2)=.int .i64 (bb:Nat)/\PS w4 g sb:=hf 2 (by decide);have f3:xs 3=(pmV (typ t.text t bb) xZ):=hf 3 (by decide);have F4:∃ k,(xs 4)=.pointer (some ⟨k,0,none⟩)/\w3.heap.size<=k/\w4.heap[k]?=some (.cells #[.string ⟨#[]⟩,.int .i64 0,.bool false,.int .i64 0,.string ⟨#[]⟩,.string ⟨#[]⟩,.bool false,.slice none 0 0,.slice none 0 0,.int .i64 0,.int .i64 0,.int .i64 0,.int .i64 0] 48 (0,0)):=hf 4 (by decide)
 (try simp (disch:=decide) only [R7.mi] at f0 f1)
 have hb0:Below 0 w3 w4:=undrew (hbe 0 (Nat.zero_le _) (fun _ _=>Nat.zero_le _));have hgr:∀ j,j<w3.heap.size->(∀ q,q<1->(fun q=>g) q≠j)->w4.heap[j]?=w3.heap[j]?:=hbl;clear hbe hbl hf;obtain⟨-,hp⟩:=F2;obtain⟨kv,hv4,hl4,hg4⟩:=F4;have hg:w3.grownBy w4 (some g):=⟨hb0.os,hb0.tape,hb0.output,hb0.size,fun k hk hn=>hgr k hk (fun q _ e=>hn (by rw[<-e]))⟩
 have hgv:g<kv:=Nat.lt_of_lt_of_le HP.out.lt hl4;have hr_v:kr<kv:=Nat.lt_of_lt_of_le (lt_of_block HBr.out) hl4;have ht_v:kt<kv:=Nat.lt_of_lt_of_le (lt_of_block HBt.out) hl4;have hev:w.heap.size<=kv:=by omega
 refine R7.rest_list (by decide) (by kernel_rfl) ?_;simp only[R7.fill,t1_,t2_,t3_,t4_,t5_,t6_,t7_,f0,f1,f3];simp only[hv4];clear hlt_t hog hv4 hl4 f0 f1 f3;replace HBr:=kG hg HBr;replace HBt:=kG hg HBt;replace HOP:=h_ (HOP.out.grown hg (by omega));replace HP:=h_ hp;replace HD:=dG HD (hg);have HBv:=h_ hg4;clear hp hg hb0 hgr hg4;simp only[pmV,typ,xZ];obtain⟨c0,c1,c2,c3,c4,c5,c6,c7,c8,c9,c10,c11,c12⟩:=cl13 HBv.out;obtain⟨fc0,fc1,fc2,fc3,fc4,fc5,fc6,fc7,fc8,fc9,fc10,fc11,fc12⟩:=fr13 HBv.out;go_upto_region 3 with fail
 obtain⟨w5,hw⟩:∃ x,x=w4.setCells kv 0 [.string ⟨t.text.toArray⟩,.int .i64 (bb:Nat),.bool false,.int .i64 0,.string ⟨#[]⟩,.string ⟨#[]⟩,.bool false,.slice none 0 0,.slice none 0 0,.int .i64 0,.int .i64 0,.int .i64 (t.line:Nat),.int .i64 (t.col:Nat)]:=⟨_,rfl⟩
 have hg:w4.grownBy w5 (some kv):=by rw[hw];exact setCells_grown _ _ _ _
 have hv:=put_same [.string ⟨t.text.toArray⟩,.int .i64 (bb:Nat),.bool false,.int .i64 0,.string ⟨#[]⟩,.string ⟨#[]⟩,.bool false,.slice none 0 0,.slice none 0 0,.int .i64 0,.int .i64 0,.int .i64 (t.line:Nat),.int .i64 (t.col:Nat)] w4 kv 0 _ _ HBv.out (Nat.le_of_ble_eq_true rfl);rw[<-hw] at hv;rw[show ((((((((((((w4.setCell ⟨kv,0,none⟩ (.string ⟨t.text.toArray⟩)).setCell ⟨kv,1,none⟩ (.int .i64 (bb:Nat))).setCell ⟨kv,2,none⟩ (.bool false)).setCell ⟨kv,3,none⟩ (.int .i64 0)).setCell ⟨kv,4,none⟩ (.string ⟨#[]⟩)).setCell ⟨kv,5,none⟩ (.string ⟨#[]⟩)).setCell ⟨kv,6,none⟩ (.bool false)).setCell ⟨kv,7,none⟩ (.slice none 0 0)).setCell ⟨kv,8,none⟩ (.slice none 0 0)).setCell ⟨kv,9,none⟩ (.int .i64 0)).setCell ⟨kv,10,none⟩ (.int .i64 0)).setCell ⟨kv,11,none⟩ (.int .i64 (t.line:Nat))).setCell ⟨kv,12,none⟩ (.int .i64 (t.col:Nat))=w5 from hw.symm]
 clear c0 fc0 c1 fc1 c2 fc2 c3 fc3 c4 fc4 c5 fc5 c6 fc6 c7 fc7 c8 fc8 c9 fc9 c10 fc10 c11 fc11 c12 fc12;replace HP:=h_ (HP.out.store HBv.out (by decide) (by omega) hg);replace HBr:=kG hg HBr;replace HBt:=kG hg HBt;replace HOP:=h_ (HOP.out.grown hg (by omega));replace HD:=dN HD hg (by omega);replace HBv:Hid (w5.heap[kv]?=some (.cells #[.string ⟨t.text.toArray⟩,.int .i64 (bb:Nat),.bool false,.int .i64 0,.string ⟨#[]⟩,.string ⟨#[]⟩,.bool false,.slice none 0 0,.slice none 0 0,.int .i64 0,.int .i64 0,.int .i64 (t.line:Nat),.int .i64 (t.col:Nat)] 48 (0,0))):=h_ hv;clear hw hg hv;obtain⟨c0,c1,c2,c3,c4,c5,c6,c7,c8,c9,c10,c11,c12⟩:=cl13 HBv.out;obtain⟨fc0,fc1,fc2,fc3,fc4,fc5,fc6,fc7,fc8,fc9,fc10,fc11,fc12⟩:=fr13 HBv.out;go_upto_region 4 with fail
 obtain⟨w6,hw⟩:∃ x,x=w5.setCells kv 0 [.string ⟨#[118]⟩]:=⟨_,rfl⟩
 have hg:w5.grownBy w6 (some kv):=by rw[hw];exact setCells_grown _ _ _ _
 have hv:=put_same [.string ⟨#[118]⟩] w5 kv 0 _ _ HBv.out (Nat.le_of_ble_eq_true rfl);rw[<-hw] at hv;rw[show w5.setCell ⟨kv,0,none⟩ (.string ⟨#[118]⟩)=w6 from hw.symm];clear c0 fc0 c1 fc1 c2 fc2 c3 fc3 c4 fc4 c5 fc5 c6 fc6 c7 fc7 c8 fc8 c9 fc9 c10 fc10 c11 fc11 c12 fc12;replace HP:=h_ (HP.out.store HBv.out (by decide) (by omega) hg);replace HBr:=kG hg HBr;replace HBt:=kG hg HBt;replace HOP:=h_ (HOP.out.grown hg (by omega));replace HD:=dN HD hg (by omega);have hsz6:=HD.out.size;replace HBv:Hid (w6.heap[kv]?=some (.cells #[.string ⟨#[118]⟩,.int .i64 (bb:Nat),.bool false,.int .i64 0,.string ⟨#[]⟩,.string ⟨#[]⟩,.bool false,.slice none 0 0,.slice none 0 0,.int .i64 0,.int .i64 0,.int .i64 (t.line:Nat),.int .i64 (t.col:Nat)] 48 (0,0))):=h_ hv;clear hw hg hv;obtain⟨c0,c1,c2,c3,c4,c5,c6,c7,c8,c9,c10,c11,c12⟩:=cl13 HBv.out
 go_wp2_with fail
 have hc:=HC.out;unfold cRes at hc;rw[<-HBB.out,<-HSB.out,<-HNt.out] at hc;have HC2:=h_ hc;clear hc;obtain⟨Nb,hN⟩:∃ k,k=w6.heap.size:=⟨_,rfl⟩
 have hr_Nb:kr<Nb:=by rw[hN];exact lt_of_block HBr.out
 have ht_Nb:kt<Nb:=by rw[hN];exact lt_of_block HBt.out
 have hv_Nb:kv<Nb:=by rw[hN];exact lt_of_block HBv.out
 have hg_Nb:g<Nb:=by rw[hN];exact HP.out.lt
 have he_Nb:w.heap.size<=Nb:=by omega
 refine (refined_p n hn g sb wV t bb r w6 HP.out HOP.out HC2.out).mono ?_;rintro e w7 ⟨xb,rfl,hu,hp,hg⟩;clear c0 c1 c2 c3 c4 c5 c6 c7 c8 c9 c10 c11 c12;replace HBr:=kG hg HBr;replace HBt:=kG hg HBt;replace HBv:=kG hg HBv;replace HOP:=h_ (HOP.out.grown hg (by omega));replace HP:=h_ hp;replace HD:=dG HD (hg);rw[<-hN] at hu;have HUb:=h_ (hu.mono (S':=fun b=>Nb<=b/\True) (fun b h=>⟨h,trivial⟩));clear hN hu;clear hp hg;obtain⟨bk,bnm,bot,bb,bao,bn,bq,bko,bkn,bkc,bln,bcl⟩:=xb;simp only[pmV];obtain⟨z0,z1,z2,z3,z4,z5,z6,z7,z8,z9,z10,z11,z12⟩:=cl13 HBr.out;obtain⟨fz0,fz1,fz2,fz3,fz4,fz5,fz6,fz7,fz8,fz9,fz10,fz11,fz12⟩:=fr13 HBr.out;go_wp2_with fail
 refine bodyPost_ret (v:=.agg #[.string ⟨r.1.nm.toArray⟩,.int .i64 (r.1.b:Nat),.bool r.1.kn,.int .i64 bk,.string bnm,.string bot,.bool bb,.slice bao bn bq,.slice bko bkn bkc,.int .i64 bln,.int .i64 bcl,.int .i64 (r.1.ln:Nat),.int .i64 (r.1.cl:Nat)]) (by simp[results,Tryz.results70,go_sem,z0,z1,z2,z3,z4,z5,z6,z7,z8,z9,z10,z11,z12]) rfl ?_;obtain⟨wz,hw⟩:∃ x,x=w7.setCells kr 0 [.string ⟨r.1.nm.toArray⟩,.int .i64 (r.1.b:Nat),.bool r.1.kn,.int .i64 bk,.string bnm,.string bot,.bool bb,.slice bao bn bq,.slice bko bkn bkc,.int .i64 bln,.int .i64 bcl,.int .i64 (r.1.ln:Nat),.int .i64 (r.1.cl:Nat)]:=⟨_,rfl⟩
 have hg:w7.grownBy wz (some kr):=by rw[hw];exact setCells_grown _ _ _ _
 rw[show ((((((((((((w7.setCell ⟨kr,0,none⟩ (.string ⟨r.1.nm.toArray⟩)).setCell ⟨kr,1,none⟩ (.int .i64 (r.1.b:Nat))).setCell ⟨kr,2,none⟩ (.bool r.1.kn)).setCell ⟨kr,3,none⟩ (.int .i64 bk)).setCell ⟨kr,4,none⟩ (.string bnm)).setCell ⟨kr,5,none⟩ (.string bot)).setCell ⟨kr,6,none⟩ (.bool bb)).setCell ⟨kr,7,none⟩ (.slice bao bn bq)).setCell ⟨kr,8,none⟩ (.slice bko bkn bkc)).setCell ⟨kr,9,none⟩ (.int .i64 bln)).setCell ⟨kr,10,none⟩ (.int .i64 bcl)).setCell ⟨kr,11,none⟩ (.int .i64 (r.1.ln:Nat))).setCell ⟨kr,12,none⟩ (.int .i64 (r.1.cl:Nat))=wz from hw.symm];clear z0 fz0 z1 fz1 z2 fz2 z3 fz3 z4 fz4 z5 fz5 z6 fz6 z7 fz7 z8 fz8 z9 fz9 z10 fz10 z11 fz11 z12 fz12;replace HP:=h_ (HP.out.store HBr.out (by decide) (by omega) hg);replace HBt:=kG hg HBt;replace HBv:=kG hg HBv;replace HUb:=h_ (HUb.out.grown hg (fun h=>by omega))
 replace HOP:=h_ (HOP.out.grown hg (by omega));replace HD:=dN HD hg (by omega);have hsz8:=HD.out.size;clear hw hg;exact⟨⟨bk,bnm,bot,bb,bao,bn,bq,bko,bkn,bkc,bln,bcl⟩,rfl,(HUb.out.mono (fun b h=>by have h:Nb<=b/\True:=h;show _<=b;omega)),HP.out,HD.out⟩
def AtN (n:Nat) (w:World) (ko:Option Addr) (i:Nat) (cs:List Value):Prop:=∃ a,ko=some a/\∀ j v,cs[j]?=some v->w.cell? ((a.add (i*n)).add j)=some v
theorem AtN.keep {n:Nat} {w w':World} {ko:Option Addr} {i:Nat} {cs:List Value} (h:AtN n w ko i cs) (hk:∀ a,ko=some a->w'.heap[a.block]?=w.heap[a.block]?):AtN n w' ko i cs:=by
 obtain⟨a,rfl,h⟩:=h;refine⟨a,rfl,fun j v hv=>?_⟩;rw[cell_keep (w:=w) (by rw[add_block,add_block];exact hk a rfl)];exact h j v hv
theorem AtN.lt {n:Nat} {w:World} {ko:Option Addr} {i:Nat} {c:Value} {cs:List Value} (h:AtN n w ko i (c::cs)):∀ a,ko=some a->a.block<w.heap.size:=by
 obtain⟨a,rfl,h⟩:=h;rintro _ ⟨⟩;have:=cell_lt (h 0 _ rfl)
 rwa [add_block,add_block] at this
theorem own_atN {n:Nat} {w:World} {base:Nat} {e:TypeId} {ko:Option Addr} {m kc:Nat} {α:Type} (f:α->List Value) (hf:∀ a,(f a).length=n) {ys:List α} (hm:m=ys.length) (h:w.ownsRow base e n (.slice ko m kc) m (ys.flatMap f)) (i:Nat) (hi:i<ys.length):AtN n w ko i (f ys[i]):=by
 have hfl:∀ (l:List α) (i j:Nat) (hi:i<l.length),j<n->(l.flatMap f)[i*n+j]?=(f l[i])[j]?:=by
  intro l
  induction l with
  | nil=>intro i j hi;simp at hi
  | cons a l ih =>
   intro i j hi hj;rw[List.flatMap_cons]
   cases i with
   | zero=>rw[Nat.zero_mul,Nat.zero_add,List.getElem?_append_left (by rw[hf];exact hj)];rfl
   | succ i =>
    rw[List.getElem?_append_right (by rw[hf,Nat.add_mul];omega),hf,show (i+1)*n+j - n=i*n+j by rw[Nat.add_mul];omega,List.getElem_cons_succ];exact ih i j (by simpa using hi) hj
 have hll:∀ l:List α,(l.flatMap f).length=l.length*n:=by
  intro l
  induction l with
  | nil=>simp
  | cons a l ih=>rw[List.flatMap_cons,lsa,ih,hf,lsc,Nat.add_mul];omega
 have h0:=h;rcases h.2 with ⟨hv,h1⟩ | ⟨g,cap,cur,hv,hb,hg,h1,h2,h3,h4⟩
 ·omega
 injection hv with e1 e2 e3;subst e1 e3;refine⟨_,rfl,fun j v hj=>?_⟩;have hjn:j<n:=by have:=(List.getElem?_eq_some_iff.1 hj).1;rwa [hf] at this
 rw[add_lit,add_lit,Nat.zero_add,World.ownsRow.cellAt h0 (i*n+j) (by
  rw[hm]
  calc i*n+j<i*n+n:=by omega
   _=(i+1)*n:=by rw[Nat.add_mul];omega
   _<=ys.length*n:=Nat.mul_le_mul_right _ hi),hfl ys i j hi hjn]
 exact hj
theorem infoParam:(Tryz.prog.info? 48).map (fun i=>(i.zero,i.size,i.bytes))=some (some (.agg #[.string ⟨#[]⟩,.int .i64 0,.bool false,.int .i64 0,.string ⟨#[]⟩,.string ⟨#[]⟩,.bool false,.slice none 0 0,.slice none 0 0,.int .i64 0,.int .i64 0,.int .i64 0,.int .i64 0]),13,160):=by kernel_rfl
structure El (α:Type) where
 e:TypeId
 n:Nat
 f:α->List Value
 R:World->(Nat->Prop)->α->Prop
 pos:0<n
 len:∀ a,(f a).length=n
 one:∀ a,∀ u ∈ f a,u.oneCell'=true
 keep:∀ {w w':World} {S:Nat->Prop} {a:α},(∀ g,S g->w'.heap[g]?=w.heap[g]?)->R w S a->R w' S a
 mono:∀ {w:World} {S S':Nat->Prop} {a:α},(∀ g,S g->S' g)->R w S a->R w S' a
 lt:∀ {w:World} {S:Nat->Prop} {a:α},R w S a->R w (fun g=>S g/\g<w.heap.size) a
 noAt:e≠116
section
variable {α:Type} (E:El α)
theorem El.below {w w':World} {S:Nat->Prop} {a:α} (h:E.R w S a) (hb:Below w.heap.size w w'):E.R w' S a:=E.mono (fun _ h=>h.1) (E.keep (fun g hg=>hb.block g hg.2) (E.lt h))
theorem El.grown {w w':World} {S:Nat->Prop} {a:α} {r:Option Nat} (h:E.R w S a) (hg:w.grownBy w' r) (hS:∀ b,S b->r≠some b):E.R w' S a:=
 E.mono (fun _ h=>h.1) (E.keep (fun q hq=>hg.block q hq.2 (fun e=>hS q hq.1 e.symm)) (E.lt h))
def El.Row (w:World) (B:Nat) (S:Nat->Prop) (v:Value) (el:List α):Prop:=w.ownsRow B E.e E.n v el.length (el.flatMap E.f)/\∀ a ∈ el,E.R w (fun b=>S b/\v.ownBlock≠some b) a
variable {E}
theorem El.Row.nil (w:World) (B:Nat) (S:Nat->Prop):E.Row w B S (.slice none 0 0) []:=⟨World.ownsRow_nil _ _ _ _,fun q h=>by cases h⟩
theorem El.Row.form {w:World} {B:Nat} {S:Nat->Prop} {v:Value} {el:List α} (h:E.Row w B S v el):∃ ko kc,v=.slice ko el.length kc/\el.length<=kc:=own_form h.1
theorem El.Row.ge {w:World} {B:Nat} {S:Nat->Prop} {v:Value} {el:List α} (h:E.Row w B S v el) {j:Nat} (hj:v.ownBlock=some j):B<=j/\j<w.heap.size:=World.ownsRow.lt h.1 j hj
theorem El.Row.grown {w w':World} {B g:Nat} {S:Nat->Prop} {v:Value} {el:List α} (h:E.Row w B S v el) (hg:w.grownBy w' (some g)) (h1:g<B) (h2:¬ S g):E.Row w' B S v el:=by
 refine⟨World.ownsRow.kept h.1 hg ?_,fun q hq=>E.grown (h.2 q hq) hg (fun b hb e=>h2 (by injection e with e;rw[e];exact hb.1))⟩
 cases hv:v.ownBlock with
 | none=>exact .inl rfl
 | some j=>exact .inr (fun e=>by injection e with e;have:=(h.ge hv).1;omega)
theorem El.Row.below {w w':World} {B:Nat} {S:Nat->Prop} {v:Value} {el:List α} (h:E.Row w B S v el) (hb:Below w.heap.size w w'):E.Row w' B S v el:=by
 refine⟨?_,fun q hq=>E.below (h.2 q hq) hb⟩;rcases hr:v.ownBlock with _ | j
 ·exact World.ownsRow.kept h.1 (below_grown hb none) (.inl hr)
 exact World.ownsRow.kept h.1 (below_grown hb none) (.inr (by rw[hr];intro e;cases e))
theorem El.Row.kR {w w':World} {B k:Nat} {S:Nat->Prop} {v:Value} {el:List α} {o:Obj} (h:E.Row w B S v el) (hg:w.grownBy w' v.ownBlock) (hk:k<B) (hb:Hid (w.heap[k]?=some o)):Hid (w'.heap[k]?=some o):=
 h_ ((hg.block _ (lt_of_block hb.out) (fun e=>by have:=(h.ge e.symm).1;omega)).trans hb.out)
theorem El.Row.dR {we w w':World} {B g:Nat} {S:Nat->Prop} {v:Value} {el:List α} (h:E.Row w B S v el) (hg:w.grownBy w' v.ownBlock) (hB:we.heap.size<=B) (hd:Hid (we.grownBy w (some g))):Hid (we.grownBy w' (some g)):=by
 have hd:=hd.out
 exact h_ ⟨hg.os.trans hd.os,hg.tape.trans hd.tape,hg.output.trans hd.output,Nat.le_trans hd.size hg.size,fun k hk hn=>by
  rw[hg.block k (Nat.lt_of_lt_of_le hk hd.size) (fun e=>by have:=(h.ge e.symm).1;omega)];exact hd.block k hk hn⟩
theorem El.Row.ps {w w':World} {B g:Nat} {S:Nat->Prop} {v:Value} {el:List α} {s:St} (h:E.Row w B S v el) (hg:w.grownBy w' v.ownBlock) (hB:g<B) (hp:PS w g s):PS w' g s:=by
 refine⟨hp.1.keepAll (fun k hk=>?_) hg.size,hp.2⟩
 by_cases e:v.ownBlock=some k
 ·refine .inr ⟨by have:=(h.ge e).1;omega,?_⟩;rcases h.1.2 with ⟨h,-⟩ | ⟨q,c0,cur,hv,-,hq,-⟩
  ·rw[h] at e;cases e
  rw[hv] at e;have:q=k:=by simpa [Value.ownBlock] using e
  subst this;exact⟨_,_,hq,E.noAt⟩
 exact .inl (hg.block k hk (fun h=>e h.symm))
theorem El.Row.ops {w w':World} {B g:Nat} {S:Nat->Prop} {v:Value} {el:List α} (h:E.Row w B S v el) (hg:w.grownBy w' v.ownBlock) (hB:g<B) (hp:GOps w g):GOps w' g:=
 ⟨fun j u hu=>by
  have hc:=hp.1 j u hu
  rw[World.cell?_of_block (hg.block _ (cell_lt hc) (fun e=>by have:=(h.ge e.symm).1;have:=hp.2;simp only at *;omega))];exact hc,hp.2⟩
def El.At (E:El α) (w:World) (S:Nat->Prop) (v:Value) (el:List α):Prop:=∃ ko kc,v=.slice ko el.length kc/\(el.length<=kc/\kc<=maxLen)/\(el.length≠0->∀ a,ko=some a->S a.block)/\∀ i (h:i<el.length),AtN E.n w ko i (E.f el[i])/\E.R w S el[i]
theorem El.At.keep {w w':World} {S:Nat->Prop} {v:Value} {el:List α} (hk:∀ g,S g->w'.heap[g]?=w.heap[g]?) (h:E.At w S v el):E.At w' S v el:=by
 obtain⟨ko,kc,rfl,h1,h2,h3⟩:=h;exact⟨ko,kc,rfl,h1,h2,fun i hi=>⟨(h3 i hi).1.keep fun a ha=>hk _ (h2 (by omega) a ha),E.keep hk (h3 i hi).2⟩⟩
theorem El.At.mono {w:World} {S S':Nat->Prop} {v:Value} {el:List α} (hs:∀ g,S g->S' g) (h:E.At w S v el):E.At w S' v el:=by
 obtain⟨ko,kc,rfl,h1,h2,h3⟩:=h;exact⟨ko,kc,rfl,h1,fun h0 a ha=>hs _ (h2 h0 a ha),fun i hi=>⟨(h3 i hi).1,E.mono hs (h3 i hi).2⟩⟩
theorem El.At.lt {w:World} {S:Nat->Prop} {v:Value} {el:List α} (h:E.At w S v el):E.At w (fun g=>S g/\g<w.heap.size) v el:=by
 obtain⟨ko,kc,rfl,h1,h2,h3⟩:=h;refine⟨ko,kc,rfl,h1,fun h0 a ha=>⟨h2 h0 a ha,?_⟩,fun i hi=>⟨(h3 i hi).1,E.lt (h3 i hi).2⟩⟩;have h:=(h3 0 (by omega)).1
 cases hf:E.f (el[0]'(by omega)) with
 | nil=>have:=E.len (el[0]'(by omega));rw[hf] at this;have:=E.pos;simp at *;omega
 | cons c cs=>rw[hf] at h;exact h.lt a ha
theorem El.At.below {w w':World} {S:Nat->Prop} {v:Value} {el:List α} (h:E.At w S v el) (hb:Below w.heap.size w w'):E.At w' S v el:=(El.At.keep (fun g hg=>hb.block g hg.2) h.lt).mono fun _ h=>h.1
theorem El.At.grown {w w':World} {S:Nat->Prop} {v:Value} {el:List α} {r:Option Nat} (h:E.At w S v el) (hg:w.grownBy w' r) (hS:∀ b,S b->r≠some b):E.At w' S v el:=
 (El.At.keep (fun q hq=>hg.block q hq.2 (fun e=>hS q hq.1 e.symm)) h.lt).mono fun _ h=>h.1
theorem El.Row.at {w:World} {B:Nat} {S S':Nat->Prop} {v:Value} {el:List α} (h:E.Row w B S v el) (h1:∀ b,S b->S' b) (h2:∀ b,B<=b->S' b):E.At w S' v el:=by
 obtain⟨ho,hr⟩:=h;obtain⟨ko,kc,rfl,-⟩:=own_form ho;refine⟨ko,kc,rfl,?_,fun h0 a ha=>h2 _ ?_,fun i hi=>⟨own_atN E.f E.len rfl ho i hi,E.mono (fun b h=>h1 b h.1) (hr _ (List.getElem_mem hi))⟩⟩
 ·rcases ho.2 with ⟨h,h0⟩ | ⟨q,cap,cur,h,-,-,h1,h2,-⟩
  ·injection h with _ _ h;subst h;rw[h0];exact⟨Nat.le_refl _,Nat.zero_le _⟩
  injection h with _ _ h;subst h;exact⟨h1,h2⟩
 subst ha;exact (World.ownsRow.lt ho a.block rfl).1
theorem El.Row.append {w:World} {B:Nat} {S:Nat->Prop} {v:Value} {el:List α} (h:E.Row w B S v el) {ops:Array Oper} {rest:List Oper} {o:Oper} {a:Act} {Q:Exit->Act->World->Prop} (hgd:o.guard=none) (s x:Operand) (t:TypeId)
  (ho:o.op=.call { callee:=.builtin .append,args:=#[s,x],argTypes:=#[t,t] }) (ht:Tryz.prog.underlying t=some (.slice E.e)) {z:Value} {bytes:Nat} (hinfo:(Tryz.prog.info? E.e).map (fun i=>(i.zero,i.size,i.bytes))=some (some z,E.n,bytes)) (hzs:z.cells.size=E.n) (hby:bytes<=1000)
  (hs:a.eval s=v) (u:α) (k:Nat) (T:TypeId) (hx:a.eval x=.slice (some ⟨k,0,none⟩) 1 1) (hc:w.heap[k]?=some (.cells (E.f u).toArray T (0,0))) (hu:E.R w (fun b=>S b/\v.ownBlock≠some b) u) (hlen:el.length<=1000000) (hB:B<=w.heap.size)
  (hK:∀ v' w',E.Row w' B S v' (el++[u])->w.grownBy w' v.ownBlock->wpList Tryz.prog ops Q rest (a.put o.dst v') w'):wpList Tryz.prog ops Q (o::rest) a w:=by
 refine wpList_append_el w hgd s x t ho E.e ht hinfo hzs E.pos hby B v el.length (el.flatMap E.f) hs h.1 k T (E.f u) (E.len u) (E.one u) hx hc hlen hB fun v' w' h1 h2 h3=>hK v' w' ⟨?_,?_⟩ h2
 ·rw[lsa,List.flatMap_append];simpa using h1
 have key:∀ q,E.R w (fun b=>S b/\v.ownBlock≠some b) q->E.R w' (fun b=>S b/\v'.ownBlock≠some b) q:=fun q hq =>
  E.mono (S:=fun b=>(S b/\v.ownBlock≠some b)/\b<w.heap.size) (fun b hb=>⟨hb.1.1,fun e=>by rcases h3 b e with h | h;exact hb.1.2 h;omega⟩) (E.keep (fun g hg=>h2.block g hg.2 (fun e=>hg.1.2 e.symm)) (E.lt hq))
 intro q hq;rcases List.mem_append.1 hq with hq | hq
 ·exact key q (h.2 q hq)
 rw[List.mem_singleton] at hq;subst hq;exact key _ hu
end
def pmE:El (PmU × X) where
 e:=48
 n:=13
 f q:=pmC q.1 q.2
 R w S q:=Um w S q.2 q.1.ref
 pos:=by decide
 len _:=rfl
 one q:=by
  intro u hu;simp only[pmC,List.mem_cons,List.not_mem_nil,or_false] at hu;rcases hu with rfl | rfl | rfl | rfl | rfl | rfl | rfl | rfl | rfl | rfl | rfl | rfl | rfl<;>rfl
 keep h k:=k.keep h
 mono h k:=k.mono h
 lt k:=k.lt
 noAt:=by decide
def PmsAt (w:World) (S:Nat->Prop) (v:Value) (ps:List PmU):Prop:=∃ qs:List (PmU × X),qs.map Prod.fst=ps/\pmE.At w S v qs
def qlC (q:QlU) (v:Value) (x:X):List Value:=[.string ⟨q.nm.toArray⟩,v,.int .i64 x.k,.string x.nm,.string x.ot,.bool x.b,.slice x.ao x.n x.c,.slice x.ko x.kn x.kc,.int .i64 x.ln,.int .i64 x.cl,.int .i64 (q.ln:Nat),.int .i64 (q.cl:Nat)]
theorem len_counted (s:St) (c l:Nat):(s.counted c l).rest.length<=s.rest.length:=by unfold St.counted;split;exact Nat.le_trans (len_fail _ _ _) (len_name s);exact len_name s
theorem len_base (s:St):(cBase s).2.rest.length<=s.rest.length:=by
 unfold cBase
 split;exact len_tk s
 split;exact len_tk s
 split;exact len_tk s
 exact Nat.le_trans (len_fail _ _ _) (len_tk s)
theorem len_param (s:St) (c:Nat):(cParam c s).2.rest.length<=s.rest.length:=Nat.le_trans (len_base _) (Nat.le_trans (len_exp _ _) (len_counted _ _ _))
theorem len_var (s:St):(cVar s).2.rest.length<=s.rest.length:=Nat.le_trans (len_base _) (Nat.le_trans (len_exp _ _) (len_exp _ _))
theorem qmore_len {n:Nat}:∀ {l:List PmU} {s:St} {x:List PmU × St},cQMore n l s=some x->x.2.rest.length<=s.rest.length:=by
 induction n with
 | zero=>intro l s x h;simp[cQMore] at h
 | succ n ih =>
  intro l s x h;rw[cQMore] at h
  split at h
  ·exact Nat.le_trans (ih h) (Nat.le_trans (len_param _ _) (len_tk _))
  injection h with h;subst h;exact Nat.le_refl _
theorem qual_p (m n:Nat) (hn:n<=1000000) (g count:Nat) (hcn:count<=1000000) (s:St) (r:QlU × St) (w:World) (hps:PS w g s) (hop:GOps w g) (hc:cQual m n count s=some r) :
  Calls Tryz.prog 34 #[.pointer (some ⟨g,0,none⟩),.int .i64 (count:Nat)] w fun e w'=>∃ y v,e=.returned (.agg (qlC r.1 v y).toArray)/\Um w' (fun k=>w.heap.size<=k) y r.1.body/\PmsAt w' (fun k=>w.heap.size<=k) v r.1.ps/\Did w g r.2 w':=by
 have HP:=h_ hps;have HOP:=h_ hop;have hgN:=hps.lt;have hql0:=hps.2;clear hps hop;unfold cQual at hc;simp only[Option.bind_eq_some_iff] at hc;obtain⟨ra,hm,q,hq,hc⟩:=hc;injection hc with hc;subst hc;have HM:=h_ hm;have HQ:=h_ hq;clear hm hq;go_enter Tryz.func34,Tryz.ntmps34
 go_upto_region 1 with fail
 obtain⟨w1,kr,hw,hkk,hb,hs1,HBr⟩:=newb w #[.string ⟨#[]⟩,.slice none 0 0,.int .i64 0,.string ⟨#[]⟩,.string ⟨#[]⟩,.bool false,.slice none 0 0,.slice none 0 0,.int .i64 0,.int .i64 0,.int .i64 0,.int .i64 0] 69;have hgr:g<kr:=by rw[hkk];exact HP.out.lt
 have her:w.heap.size<=kr:=by omega
 rw[hw,<-hkk];replace HP:=h_ (HP.out.below hb);replace HOP:=h_ (HOP.out.below hb);have HD:=h_ (below_grown hb (some g));clear hw hb hkk hs1;go_wp2_with fail
 refine (counted_p g count 20 s w1 HP.out hcn (by decide)).mono ?_;rintro e w2 ⟨rfl,hp,hg⟩;replace HBr:=kG hg HBr;replace HOP:=h_ (HOP.out.grown hg (by omega));replace HP:=h_ hp;replace HD:=dG HD (hg);have hsz2:=HD.out.size;clear hp hg;simp only[tokV];obtain⟨t,hnx⟩:∃ t,t=St.nx s:=⟨_,rfl⟩
 rw[<-hnx];have HNt:=h_ hnx;clear hnx;go_upto_region 2 with fail
 obtain⟨w3,kt,hw,hkk,hb,hs1,HBt⟩:=newb w2 #[.int .i64 (t.kind:Nat),.string ⟨t.text.toArray⟩,.int .i64 (t.line:Nat),.int .i64 (t.col:Nat)] 97;have hgt:g<kt:=by rw[hkk];exact HP.out.lt
 have het:w.heap.size<=kt:=by omega
 have hr_t:=lk_ hkk HBr;rw[hw,<-hkk];replace HBr:=kB hb HBr;replace HP:=h_ (HP.out.below hb);replace HOP:=h_ (HOP.out.below hb);replace HD:=dB HD hb;have hsz3:=HD.out.size;clear hw hb hkk hs1;obtain⟨c0,c1,c2,c3⟩:=cl4 HBt.out;go_upto_region 3 with fail
 clear c0 c1 c2 c3;obtain⟨w4,kq,hw,hkk,hb,hs1,HBq⟩:=newb w3 #[.string ⟨t.text.toArray⟩,.slice none 0 0,.int .i64 0,.string ⟨#[]⟩,.string ⟨#[]⟩,.bool false,.slice none 0 0,.slice none 0 0,.int .i64 0,.int .i64 0,.int .i64 (t.line:Nat),.int .i64 (t.col:Nat)] 69;have hgq:g<kq:=by rw[hkk];exact HP.out.lt
 have heq:w.heap.size<=kq:=by omega
 have hr_q:=lk_ hkk HBr;have ht_q:=lk_ hkk HBt;rw[hw,<-hkk];replace HBr:=kB hb HBr;replace HBt:=kB hb HBt;replace HP:=h_ (HP.out.below hb);replace HOP:=h_ (HOP.out.below hb);replace HD:=dB HD hb;have hsz4:=HD.out.size;clear hw hb hkk hs1;go_wp2_with fail
 obtain⟨w5,kq1,hw,hkk,hb,hs1,HBq1⟩:=newb w4 #[.string ⟨#[40]⟩] 9;have hgq1:g<kq1:=by rw[hkk];exact HP.out.lt
 have heq1:w.heap.size<=kq1:=by omega
 have hr_q1:=lk_ hkk HBr;have ht_q1:=lk_ hkk HBt;have hq_q1:=lk_ hkk HBq;rw[hw,<-hkk];replace HBr:=kB hb HBr;replace HBt:=kB hb HBt;replace HBq:=kB hb HBq;replace HP:=h_ (HP.out.below hb);replace HOP:=h_ (HOP.out.below hb);replace HD:=dB HD hb;have hsz5:=HD.out.size;clear hw hb hkk hs1;refine (expect_p g (s.counted count 20) [[40]] kq1 w5 HP.out HBq1.out (by omega) (by decide)).mono ?_;rintro e w6 ⟨⟨v,rfl⟩,hp,hg⟩;replace HBr:=kG hg HBr;replace HBt:=kG hg HBt;replace HBq:=kG hg HBq;replace HBq1:=kG hg HBq1;replace HOP:=h_ (HOP.out.grown hg (by omega));replace HP:=h_ hp;replace HD:=dG HD (hg);have hsz6:=HD.out.size;clear hp hg;obtain⟨pp,hpp⟩:∃ p,p=(cVar ((s.counted count 20).exp [40])).1:=⟨_,rfl⟩
 obtain⟨sp,hsp⟩:∃ x,x=(cVar ((s.counted count 20).exp [40])).2:=⟨_,rfl⟩
 have HPP:=h_ hpp;have HSP:=h_ hsp;have hlp:=len_var ((s.counted count 20).exp [40]);rw[<-hsp] at hlp;clear hpp hsp;have HRp:Hid (pmE.Row w6 (kq+1) (fun b=>w.heap.size<=b/\b≠kq/\b≠kr/\b≠kt) (.slice none 0 0) []):=h_ (El.Row.nil _ _ _);go_upto_region 4 with fail
 have hlt_q:=lt_of_block HBq.out;have hog:∀ q,q<1->(fun q=>g) q<w6.heap.size:=fun q _=>by show g<_;exact HP.out.lt
 refine R7.region (by kernel_rfl) [[],[0],[],[2],[2,3],[0,1,2,3,4],[0,1,2,3,4,5],[0,1,2,3,4,5,6]] [] [(3,1000)] (fun q=>g) 1 5 (by kernel_rfl) (by kernel_rfl) (by rfl) hog (fun q q' h h' hn=>absurd hn (by omega)) ?_;refine R7.cd ?_ (fun T xs wr hA=>?_) ?_
 rotate_left
 ·have e6:=hA.pq 6;simp only[gsa,gsc,gsz] at e6;clear hA;go_simp<;>(try with_reducible rfl)
 refine R7.cd ?_ (fun T xs wr hA=>?_) ?_
 rotate_left
 ·have e20:=tr_ (hA.tq 0 20) (hA.fq 0)
  (try simp (disch:=decide) only [R7.mi] at e20)
  have hBq:wr.heap[kq]?=_:=(hA.bl _ hlt_q (fun q _=>by show g≠kq;omega)).trans HBq.out;obtain⟨q0,q1,q2,q3,q4,q5,q6,q7,q8,q9,q10,q11⟩:=cl12 hBq;clear hBq;clear hA;go_simp<;>(try with_reducible rfl)
 refine R7.cd ?_ (fun T xs wr hA=>?_) ?_
 rotate_left
 ·have e0:=hA.pq 0;simp only[gsa,gsz] at e0;clear hA;go_simp<;>(try with_reducible rfl)
 refine R7.Chain.callOld 0 (fun xs v w=>v=pmV pp xZ/\PS w g sp) (fun _ _ _ _ ⟨h1,h2⟩ hb=>⟨h1,h2.below hb⟩) (fun _ _ _ _ q' _ hq hne _=>absurd rfl hne) (by rfl) (by rfl) (by decide) (R7.own_one (by rfl)) (fun T xs wr hA hold=>?_) ?_
 ·have hsw:=(hA.be 0 (Nat.zero_le _) (fun _ _=>Nat.zero_le _)).size;have e22:=tr_ (hA.tq 2 22) (hA.fq 2)
  (try simp (disch:=decide) only [R7.mi] at e22)
  have h0:=undrew (hA.be 0 (Nat.zero_le _) (fun _ _=>Nat.zero_le _))
  have hbw:Below w6.heap.size w6 wr:=⟨h0.os,h0.tape,h0.output,h0.size,fun k hk=>by
   by_cases e:k=g
   ·rw[e];exact hold
   exact hA.bl k hk (fun q _ h=>e h.symm)⟩
  clear hA;refine⟨(by rfl),fun K hK=>?_⟩;go_simp
  refine (variable_p g ((s.counted count 20).exp [40]) wr (HP.out.below hbw)).mono ?_;rintro e w' ⟨rfl,hp,hg⟩;exact hK.out _ _ ⟨by rw[HPP.out],by rw[HSP.out];exact hp⟩ (R7.Priv.of hg)
 refine R7.Chain.call (fun xs v w=>∃ k,v=.slice (some ⟨k,0,none⟩) 1 1/\w6.heap.size<=k/\w.heap[k]?=some (.cells (pmC pp xZ).toArray 48 (0,0))) (fun _ _ _ _ ⟨g,hv,hl,hg⟩ hb=>⟨g,hv,hl,by rw[hb.block g (Array.getElem?_eq_some_iff.1 hg).1];exact hg⟩) (fun _ _ _ _ _ ⟨g,hv,hl,hg⟩ ⟨q,hq,e⟩ hp=>⟨g,hv,hl,by rw[hp.block g (Array.getElem?_eq_some_iff.1 hg).1 (fun h=>by have:=hog q hq;omega)];exact hg⟩) (by rfl) (fun T xs wr hA=>?_) ?_
 ·have hsw:=(hA.be 0 (Nat.zero_le _) (fun _ _=>Nat.zero_le _)).size;have e23:=hA.tm 3 23 (by rfl) (by rfl);have hF3:(xs 3)=pmV pp xZ/\PS wr g sp:=hA.fa 3 (by rfl);have hx:=hF3;rw[hx.1] at e23;simp only[pmV,xZ] at e23;clear hx;clear hA;refine⟨(by rfl),fun K hK=>?_⟩;go_simp
  exact hK.out _ _ ⟨_,rfl,hsw,made_at wr _ _ rfl⟩ ((Below.refl _ _).alloc (Nat.le_refl _) _)
 refine R7.Chain.done (fun xs w7 hL=>?_);obtain⟨⟨hbe,hbl⟩,hf,-,-⟩:=hL;have f0:xs 0=_:=hf 0 (by decide);have f1:xs 1=_:=hf 1 (by decide);have f2:xs 2=_:=hf 2 (by decide);have F3:(xs 3)=pmV pp xZ/\PS w7 g sp:=hf 3 (by decide);have F4:∃ k,(xs 4)=.slice (some ⟨k,0,none⟩) 1 1/\w6.heap.size<=k/\w7.heap[k]?=some (.cells (pmC pp xZ).toArray 48 (0,0)):=hf 4 (by decide)
 (try simp (disch:=decide) only [R7.mi] at f0 f1 f2)
 have hb0:Below 0 w6 w7:=undrew (hbe 0 (Nat.zero_le _) (fun _ _=>Nat.zero_le _));have hgr:∀ j,j<w6.heap.size->(∀ q,q<1->(fun q=>g) q≠j)->w7.heap[j]?=w6.heap[j]?:=hbl;clear hbe hbl hf;obtain⟨hv,hp⟩:=F3;obtain⟨k4,hv4,hl4,hg4⟩:=F4;have hg:w6.grownBy w7 (some g):=⟨hb0.os,hb0.tape,hb0.output,hb0.size,fun k hk hn=>hgr k hk (fun q _ e=>hn (by rw[<-e]))⟩
 refine R7.rest_list (by decide) (by kernel_rfl) ?_;simp only[R7.fill,t1_,t2_,t3_,t4_,t5_,t6_,t7_,f0,f1,f2];simp only[hv4];clear hlt_q hog hv hv4 f0 f1 f2;replace HRp:=h_ (HRp.out.grown hg (by omega) (fun h=>by omega));replace HBr:=kG hg HBr;replace HBt:=kG hg HBt;replace HBq:=kG hg HBq;replace HOP:=h_ (HOP.out.grown hg (by omega));replace HP:=h_ hp;replace HD:=dG HD (hg);have hsz7:=HD.out.size;have HB4:=h_ hg4;clear hp hg hb0 hgr hg4;refine El.Row.append (E:=pmE) HRp.out rfl (.tmp 21) (.tmp 24) 38 rfl Tryz.underlying38 infoParam rfl (by decide) rfl (pp,xZ) k4 48 rfl HB4.out (by show Um _ _ xZ pp.ref;rw[HPP.out];exact um_zero _ _) (by simp) (Nat.succ_le_of_lt (lt_of_block HBq.out)) ?_;intro v2 w8 hrow hgw;replace HBr:=HRp.out.kR hgw (by omega) HBr;replace HBt:=HRp.out.kR hgw (by omega) HBt;replace HBq:=HRp.out.kR hgw (by omega) HBq
 replace HP:=h_ (HRp.out.ps hgw (by omega) HP.out);replace HOP:=h_ (HRp.out.ops hgw (by omega) HOP.out);replace HD:=HRp.out.dR hgw (by omega) HD;obtain⟨qs1,hqs⟩:∃ l:List (PmU × X),l=([]:List (PmU × X))++[(pp,xZ)]:=⟨_,rfl⟩
 rw[<-hqs] at hrow;have HQSqs1:=h_ hqs;have HLNqs1:Hid (qs1.length=([]:List (PmU × X)).length+1):=h_ (by rw[hqs,lsa];rfl);replace HRp:=h_ hrow;obtain⟨pko,pkc,hpv,-⟩:=hrow.form;subst hpv;clear hrow hgw HB4 hqs;obtain⟨c0,c1,c2,c3,c4,c5,c6,c7,c8,c9,c10,c11⟩:=cl12 HBq.out;obtain⟨fc0,fc1,fc2,fc3,fc4,fc5,fc6,fc7,fc8,fc9,fc10,fc11⟩:=fr12 HBq.out;go_upto_region 5 with fail
 obtain⟨w9,hw⟩:∃ x,x=w8.setCells kq 1 [.slice pko qs1.length pkc]:=⟨_,rfl⟩
 have hg:w8.grownBy w9 (some kq):=by rw[hw];exact setCells_grown _ _ _ _
 have hv:=put_same [.slice pko qs1.length pkc] w8 kq 1 _ _ HBq.out (Nat.le_of_ble_eq_true rfl);rw[<-hw] at hv;rw[show w8.setCell ⟨kq,1,none⟩ (.slice pko qs1.length pkc)=w9 from hw.symm];clear c0 fc0 c1 fc1 c2 fc2 c3 fc3 c4 fc4 c5 fc5 c6 fc6 c7 fc7 c8 fc8 c9 fc9 c10 fc10 c11 fc11;replace HP:=h_ (HP.out.store HBq.out (by decide) (by omega) hg);replace HRp:=h_ (HRp.out.grown hg (by omega) (fun h=>by omega));replace HBr:=kG hg HBr;replace HBt:=kG hg HBt;replace HOP:=h_ (HOP.out.grown hg (by omega));replace HD:=dN HD hg (by omega);have hsz9:=HD.out.size;replace HBq:Hid (w9.heap[kq]?=some (.cells #[.string ⟨t.text.toArray⟩,.slice pko qs1.length pkc,.int .i64 0,.string ⟨#[]⟩,.string ⟨#[]⟩,.bool false,.slice none 0 0,.slice none 0 0,.int .i64 0,.int .i64 0,.int .i64 (t.line:Nat),.int .i64 (t.col:Nat)] 69 (0,0))):=h_ hv;clear hw hg hv
 have HM2:Hid (cQMore m (qs1.map Prod.fst) sp=some ra):=h_ (by rw[HQSqs1.out,HSP.out];show cQMore m [pp] _=_;rw[HPP.out];exact HM.out);have hlb:(s.counted count 20).rest.length<=s.rest.length:=len_counted _ _ _;have hlb2:=len_exp (s.counted count 20) [40]
 go_loopw [27] (fun _ wr=>∃ (m':Nat) (qs:List (PmU × X)) (sj:St) (ko:Option Addr) (kc:Nat),qs.length+sj.rest.length<=30001/\Hid (cQMore m' (qs.map Prod.fst) sj=some ra)/\Hid (PS wr g sj)/\Hid (wr.heap[kq]?=some (.cells #[.string ⟨t.text.toArray⟩,.slice ko qs.length kc,.int .i64 0,.string ⟨#[]⟩,.string ⟨#[]⟩,.bool false,.slice none 0 0,.slice none 0 0,.int .i64 0,.int .i64 0,.int .i64 (t.line:Nat),.int .i64 (t.col:Nat)] 69 (0,0)))/\Hid (wr.heap[kr]?=some (.cells #[.string ⟨#[]⟩,.slice none 0 0,.int .i64 0,.string ⟨#[]⟩,.string ⟨#[]⟩,.bool false,.slice none 0 0,.slice none 0 0,.int .i64 0,.int .i64 0,.int .i64 0,.int .i64 0] 69 (0,0)))/\Hid (wr.heap[kt]?=some (.cells #[.int .i64 (t.kind:Nat),.string ⟨t.text.toArray⟩,.int .i64 (t.line:Nat),.int .i64 (t.col:Nat)] 97 (0,0)))/\Hid (pmE.Row wr (kq+1) (fun b=>w.heap.size<=b/\b≠kq/\b≠kr/\b≠kt) (.slice ko qs.length kc) qs)/\Hid (GOps wr g)/\Hid (w.grownBy wr (some g))) (fun _ wr=>pLen wr g)
 case atStart=>exact⟨m,qs1,sp,pko,pkc,by have:=HLNqs1.out;simp only[lsn] at this;omega,HM2,HP,HBq,HBr,HBt,HRp,HOP,HD⟩
 case round =>
  clear HM2 HP HBq HBr HBt HRp HOP HD HQSqs1 HLNqs1 hlb hlb2;obtain⟨m',qs,sj,ko,kc,hqj,HCM,HP,HBq,HBr,HBt,HRp,HOP,HD⟩:=hrel;have hcm:=HCM.out
  cases m' with
  | zero=>exact absurd hcm (by simp[cQMore])
  | succ m' =>
   rw[cQMore] at hcm;have HLN:=h_ HP.out.len;have HGD:=h_ HP.out.good;have hszr:=HD.out.size;go_wp2_with fail
   refine (accept_p g sj [44] wr HP.out).mono ?_;rintro e w10 ⟨rfl,hp,hg⟩;replace HRp:=h_ (HRp.out.grown hg (by omega) (fun h=>by omega));replace HBq:=kG hg HBq;replace HBr:=kG hg HBr;replace HBt:=kG hg HBt;replace HOP:=h_ (HOP.out.grown hg (by omega));replace HP:=h_ hp;replace HD:=dG HD (hg);have hsz10:=HD.out.size;clear hp hg
   by_cases hi:sj.is [44]=true
   ·have hi2:sj.is wComma=true:=hi;rw[if_pos hi2] at hcm;have hlt:=tk_less HGD.out (w:=wComma) (by decide) hi2;have HX:Hid (sj.acc [44]=sj.tk):=h_ (by unfold St.acc;rw[hi];rfl);rw[HX.out] at HP;rw[hi];clear hi hi2 HX;rw[List.length_map] at hcm;obtain⟨p2,hp2⟩:∃ p,p=(cParam qs.length sj.tk).1:=⟨_,rfl⟩
    obtain⟨s2,hs2⟩:∃ x,x=(cParam qs.length sj.tk).2:=⟨_,rfl⟩
    have hlp2:=len_param sj.tk qs.length;rw[<-hs2] at hlp2;rw[<-hp2,<-hs2] at hcm;have HP2:=h_ hp2;have HS2:=h_ hs2;have HCM2:=h_ hcm;clear hp2 hs2 hcm;go_upto_region 6 with fail
    have hlt_q:=lt_of_block HBq.out;have hog:∀ q,q<1->(fun q=>g) q<w10.heap.size:=fun q _=>by show g<_;exact HP.out.lt
    refine R7.region (by kernel_rfl) [[],[0],[],[],[3],[3,4],[2,3,4,5],[2,3,4,5,6],[0,1,2,3,4,5,6,7],[0,1,2,3,4,5,6,7,8],[0,1,2,3,4,5,6,7,8,9]] [] [(6,1000)] (fun q=>g) 1 8 (by kernel_rfl) (by kernel_rfl) (by rfl) hog (fun q q' h h' hn=>absurd hn (by omega)) ?_;refine R7.cd ?_ (fun T xs wr hA=>?_) ?_
    rotate_left
    ·have e6:=hA.pq 6;simp only[gsa,gsc,gsz] at e6;clear hA;go_simp<;>(try with_reducible rfl)
    refine R7.cd ?_ (fun T xs wr hA=>?_) ?_
    rotate_left
    ·have e29:=tr_ (hA.tq 0 29) (hA.fq 0)
     (try simp (disch:=decide) only [R7.mi] at e29)
     have hBq:wr.heap[kq]?=_:=(hA.bl _ hlt_q (fun q _=>by show g≠kq;omega)).trans HBq.out;obtain⟨q0,q1,q2,q3,q4,q5,q6,q7,q8,q9,q10,q11⟩:=cl12 hBq;clear hBq;clear hA;go_simp<;>(try with_reducible rfl)
    refine R7.cd ?_ (fun T xs wr hA=>?_) ?_
    rotate_left
    ·have e0:=hA.pq 0;simp only[gsa,gsz] at e0;clear hA;go_simp<;>(try with_reducible rfl)
    refine R7.cd ?_ (fun T xs wr hA=>?_) ?_
    rotate_left
    ·have e6:=hA.pq 6;simp only[gsa,gsc,gsz] at e6;clear hA;go_simp<;>(try with_reducible rfl)
    refine R7.cd ?_ (fun T xs wr hA=>?_) ?_
    rotate_left
    ·have e32:=tr_ (hA.tq 3 32) (hA.fq 3)
     (try simp (disch:=decide) only [R7.mi] at e32)
     have hBq:wr.heap[kq]?=_:=(hA.bl _ hlt_q (fun q _=>by show g≠kq;omega)).trans HBq.out;obtain⟨q0,q1,q2,q3,q4,q5,q6,q7,q8,q9,q10,q11⟩:=cl12 hBq;clear hBq;clear hA;go_simp<;>(try with_reducible rfl)
    refine R7.cd ?_ (fun T xs wr hA=>?_) ?_
    rotate_left
    ·have e33:=tr_ (hA.tq 4 33) (hA.fq 4)
     (try simp (disch:=decide) only [R7.mi] at e33)
     clear hA;go_simp<;>(try with_reducible rfl)
    refine R7.Chain.callOld 0 (fun xs v w=>v=pmV p2 xZ/\PS w g s2) (fun _ _ _ _ ⟨h1,h2⟩ hb=>⟨h1,h2.below hb⟩) (fun _ _ _ _ q' _ hq hne _=>absurd rfl hne) (by rfl) (by rfl) (by decide) (R7.own_one (by rfl)) (fun T xs wr hA hold=>?_) ?_
    ·have hsw:=(hA.be 0 (Nat.zero_le _) (fun _ _=>Nat.zero_le _)).size;have e31:=tr_ (hA.tq 2 31) (hA.fq 2);have e34:=tr_ (hA.tq 5 34) (hA.fq 5)
     (try simp (disch:=decide) only [R7.mi] at e31 e34)
     have h0:=undrew (hA.be 0 (Nat.zero_le _) (fun _ _=>Nat.zero_le _))
     have hbw:Below w10.heap.size w10 wr:=⟨h0.os,h0.tape,h0.output,h0.size,fun k hk=>by
      by_cases e:k=g
      ·rw[e];exact hold
      exact hA.bl k hk (fun q _ h=>e h.symm)⟩
     clear hA;refine⟨(by rfl),fun K hK=>?_⟩;go_simp
     refine (param_p g qs.length sj.tk wr (HP.out.below hbw) (by omega)).mono ?_;rintro e w' ⟨rfl,hp,hg⟩;exact hK.out _ _ ⟨by rw[HP2.out],by rw[HS2.out];exact hp⟩ (R7.Priv.of hg)
    refine R7.Chain.call (fun xs v w=>∃ k,v=.slice (some ⟨k,0,none⟩) 1 1/\w10.heap.size<=k/\w.heap[k]?=some (.cells (pmC p2 xZ).toArray 48 (0,0))) (fun _ _ _ _ ⟨g,hv,hl,hg⟩ hb=>⟨g,hv,hl,by rw[hb.block g (Array.getElem?_eq_some_iff.1 hg).1];exact hg⟩) (fun _ _ _ _ _ ⟨g,hv,hl,hg⟩ ⟨q,hq,e⟩ hp=>⟨g,hv,hl,by rw[hp.block g (Array.getElem?_eq_some_iff.1 hg).1 (fun h=>by have:=hog q hq;omega)];exact hg⟩) (by rfl) (fun T xs wr hA=>?_) ?_
    ·have hsw:=(hA.be 0 (Nat.zero_le _) (fun _ _=>Nat.zero_le _)).size;have e35:=hA.tm 6 35 (by rfl) (by rfl);have hF6:(xs 6)=pmV p2 xZ/\PS wr g s2:=hA.fa 6 (by rfl);have hx:=hF6;rw[hx.1] at e35;simp only[pmV,xZ] at e35;clear hx;clear hA;refine⟨(by rfl),fun K hK=>?_⟩;go_simp
     exact hK.out _ _ ⟨_,rfl,hsw,made_at wr _ _ rfl⟩ ((Below.refl _ _).alloc (Nat.le_refl _) _)
    refine R7.Chain.done (fun xs w11 hL=>?_);obtain⟨⟨hbe,hbl⟩,hf,-,-⟩:=hL;have f0:xs 0=_:=hf 0 (by decide);have f1:xs 1=_:=hf 1 (by decide);have f2:xs 2=_:=hf 2 (by decide);have f3:xs 3=_:=hf 3 (by decide);have f4:xs 4=_:=hf 4 (by decide);have f5:xs 5=_:=hf 5 (by decide);have F6:(xs 6)=pmV p2 xZ/\PS w11 g s2:=hf 6 (by decide);have F7:∃ k,(xs 7)=.slice (some ⟨k,0,none⟩) 1 1/\w10.heap.size<=k/\w11.heap[k]?=some (.cells (pmC p2 xZ).toArray 48 (0,0)):=hf 7 (by decide)
    (try simp (disch:=decide) only [R7.mi] at f0 f1 f2 f3 f4 f5)
    have hb0:Below 0 w10 w11:=undrew (hbe 0 (Nat.zero_le _) (fun _ _=>Nat.zero_le _));have hgr:∀ j,j<w10.heap.size->(∀ q,q<1->(fun q=>g) q≠j)->w11.heap[j]?=w10.heap[j]?:=hbl;clear hbe hbl hf;obtain⟨hv,hp⟩:=F6;obtain⟨k4,hv4,hl4,hg4⟩:=F7;have hg:w10.grownBy w11 (some g):=⟨hb0.os,hb0.tape,hb0.output,hb0.size,fun k hk hn=>hgr k hk (fun q _ e=>hn (by rw[<-e]))⟩
    refine R7.rest_list (by decide) (by kernel_rfl) ?_;simp only[R7.fill,t1_,t2_,t3_,t4_,t5_,t6_,t7_,f0,f1,f2,f3,f4,f5];simp only[hv4];clear hlt_q hog hv hv4 f0 f1 f2 f3 f4 f5;replace HRp:=h_ (HRp.out.grown hg (by omega) (fun h=>by omega));replace HBq:=kG hg HBq;replace HBr:=kG hg HBr;replace HBt:=kG hg HBt;replace HOP:=h_ (HOP.out.grown hg (by omega));replace HP:=h_ hp;replace HD:=dG HD (hg);have hsz11:=HD.out.size;have HB4:=h_ hg4;clear hp hg hb0 hgr hg4;refine El.Row.append (E:=pmE) HRp.out rfl (.tmp 30) (.tmp 36) 38 rfl Tryz.underlying38 infoParam rfl (by decide) rfl (p2,xZ) k4 48 rfl HB4.out (by show Um _ _ xZ p2.ref;rw[HP2.out];exact um_zero _ _) (by omega) (Nat.succ_le_of_lt (lt_of_block HBq.out)) ?_;intro v2 w12 hrow hgw;replace HBq:=HRp.out.kR hgw (by omega) HBq;replace HBr:=HRp.out.kR hgw (by omega) HBr
    replace HBt:=HRp.out.kR hgw (by omega) HBt;replace HP:=h_ (HRp.out.ps hgw (by omega) HP.out);replace HOP:=h_ (HRp.out.ops hgw (by omega) HOP.out);replace HD:=HRp.out.dR hgw (by omega) HD;obtain⟨qs2,hqs⟩:∃ l:List (PmU × X),l=qs++[(p2,xZ)]:=⟨_,rfl⟩
    rw[<-hqs] at hrow;have HQSqs2:=h_ hqs;have HLNqs2:Hid (qs2.length=qs.length+1):=h_ (by rw[hqs,lsa];rfl);replace HRp:=h_ hrow;obtain⟨pko,pkc,hpv,-⟩:=hrow.form;subst hpv;clear hrow hgw HB4 hqs;obtain⟨c0,c1,c2,c3,c4,c5,c6,c7,c8,c9,c10,c11⟩:=cl12 HBq.out;obtain⟨fc0,fc1,fc2,fc3,fc4,fc5,fc6,fc7,fc8,fc9,fc10,fc11⟩:=fr12 HBq.out;go_wp2_with fail
    obtain⟨w13,hw⟩:∃ x,x=w12.setCells kq 1 [.slice pko qs2.length pkc]:=⟨_,rfl⟩
    have hg:w12.grownBy w13 (some kq):=by rw[hw];exact setCells_grown _ _ _ _
    have hv:=put_same [.slice pko qs2.length pkc] w12 kq 1 _ _ HBq.out (Nat.le_of_ble_eq_true rfl);rw[<-hw] at hv;rw[show w12.setCell ⟨kq,1,none⟩ (.slice pko qs2.length pkc)=w13 from hw.symm];clear c0 fc0 c1 fc1 c2 fc2 c3 fc3 c4 fc4 c5 fc5 c6 fc6 c7 fc7 c8 fc8 c9 fc9 c10 fc10 c11 fc11;replace HP:=h_ (HP.out.store HBq.out (by decide) (by omega) hg);replace HRp:=h_ (HRp.out.grown hg (by omega) (fun h=>by omega));replace HBr:=kG hg HBr;replace HBt:=kG hg HBt;replace HOP:=h_ (HOP.out.grown hg (by omega));replace HD:=dN HD hg (by omega);have hsz13:=HD.out.size;replace HBq:Hid (w13.heap[kq]?=some (.cells #[.string ⟨t.text.toArray⟩,.slice pko qs2.length pkc,.int .i64 0,.string ⟨#[]⟩,.string ⟨#[]⟩,.bool false,.slice none 0 0,.slice none 0 0,.int .i64 0,.int .i64 0,.int .i64 (t.line:Nat),.int .i64 (t.col:Nat)] 69 (0,0))):=h_ hv;clear hw hg hv
    have HCM3:Hid (cQMore m' (qs2.map Prod.fst) s2=some ra):=h_ (by rw[HQSqs2.out,List.map_append];exact HCM2.out);go_roundw
    case rel=>exact⟨m',qs2,s2,pko,pkc,by have:=HLNqs2.out;omega,HCM3,HP,HBq,HBr,HBt,HRp,HOP,HD⟩
    case measure=>rw[HP.out.len,HLN.out];omega
   have hif:sj.is [44]=false:=by simpa using hi
   rw[if_neg (show ¬ sj.is wComma=true from hi)] at hcm;injection hcm with hcm;subst hcm;have HX:Hid (sj.acc [44]=sj):=h_ (by unfold St.acc;rw[hif];rfl);rw[HX.out] at HP;rw[hif];clear hi HX;go_wp2_with fail
   obtain⟨w11,kq2,hw,hkk,hb,hs1,HBq2⟩:=newb w10 #[.string ⟨#[41]⟩,.string ⟨#[58]⟩] 9;have hgq2:g<kq2:=by rw[hkk];exact HP.out.lt
   have heq2:w.heap.size<=kq2:=by omega
   have hq_q2:=lk_ hkk HBq;have hr_q2:=lk_ hkk HBr;have ht_q2:=lk_ hkk HBt;rw[hw,<-hkk];replace HRp:=h_ (HRp.out.below hb);replace HBq:=kB hb HBq;replace HBr:=kB hb HBr;replace HBt:=kB hb HBt;replace HP:=h_ (HP.out.below hb);replace HOP:=h_ (HOP.out.below hb);replace HD:=dB HD hb;have hsz11:=HD.out.size;clear hw hb hkk hs1;refine (expect_p g sj [[41],[58]] kq2 w11 HP.out HBq2.out (by omega) (by decide)).mono ?_;rintro e w12 ⟨⟨v,rfl⟩,hp,hg⟩;replace HRp:=h_ (HRp.out.grown hg (by omega) (fun h=>by omega));replace HBq:=kG hg HBq;replace HBr:=kG hg HBr;replace HBt:=kG hg HBt;replace HBq2:=kG hg HBq2;replace HOP:=h_ (HOP.out.grown hg (by omega));replace HP:=h_ hp;replace HD:=dG HD (hg);have hsz12:=HD.out.size;clear hp hg;go_wp2_with fail
   obtain⟨Nb,hN⟩:∃ k,k=w12.heap.size:=⟨_,rfl⟩
   have hq_Nb:kq<Nb:=by rw[hN];exact lt_of_block HBq.out
   have hr_Nb:kr<Nb:=by rw[hN];exact lt_of_block HBr.out
   have ht_Nb:kt<Nb:=by rw[hN];exact lt_of_block HBt.out
   have hg_Nb:g<Nb:=by rw[hN];exact HP.out.lt
   have he_Nb:w.heap.size<=Nb:=by omega
   refine (complete_p n hn g _ q w12 HP.out HOP.out HQ.out).mono ?_;rintro e w13 ⟨xb,rfl,hu,hp,hg⟩;replace HRp:=h_ (HRp.out.grown hg (by omega) (fun h=>by omega));replace HBq:=kG hg HBq;replace HBr:=kG hg HBr;replace HBt:=kG hg HBt;replace HOP:=h_ (HOP.out.grown hg (by omega));replace HP:=h_ hp;replace HD:=dG HD (hg);rw[<-hN] at hu;have HUb:=h_ (hu.mono (S':=fun b=>Nb<=b/\True) (fun b h=>⟨h,trivial⟩));clear hN hu;clear hp hg;obtain⟨bk,bnm,bot,bb,bao,bn,bq,bko,bkn,bkc,bln,bcl⟩:=xb;simp only[xv];obtain⟨c0,c1,c2,c3,c4,c5,c6,c7,c8,c9,c10,c11⟩:=cl12 HBq.out;obtain⟨fc0,fc1,fc2,fc3,fc4,fc5,fc6,fc7,fc8,fc9,fc10,fc11⟩:=fr12 HBq.out;go_upto_region 9 with fail
   obtain⟨w14,hw⟩:∃ x,x=w13.setCells kq 2 [.int .i64 bk,.string bnm,.string bot,.bool bb,.slice bao bn bq,.slice bko bkn bkc,.int .i64 bln,.int .i64 bcl]:=⟨_,rfl⟩
   have hg:w13.grownBy w14 (some kq):=by rw[hw];exact setCells_grown _ _ _ _
   have hv:=put_same [.int .i64 bk,.string bnm,.string bot,.bool bb,.slice bao bn bq,.slice bko bkn bkc,.int .i64 bln,.int .i64 bcl] w13 kq 2 _ _ HBq.out (Nat.le_of_ble_eq_true rfl);rw[<-hw] at hv;rw[show (((((((w13.setCell ⟨kq,2,none⟩ (.int .i64 bk)).setCell ⟨kq,3,none⟩ (.string bnm)).setCell ⟨kq,4,none⟩ (.string bot)).setCell ⟨kq,5,none⟩ (.bool bb)).setCell ⟨kq,6,none⟩ (.slice bao bn bq)).setCell ⟨kq,7,none⟩ (.slice bko bkn bkc)).setCell ⟨kq,8,none⟩ (.int .i64 bln)).setCell ⟨kq,9,none⟩ (.int .i64 bcl)=w14 from hw.symm];clear c0 fc0 c1 fc1 c2 fc2 c3 fc3 c4 fc4 c5 fc5 c6 fc6 c7 fc7 c8 fc8 c9 fc9 c10 fc10 c11 fc11;replace HP:=h_ (HP.out.store HBq.out (by decide) (by omega) hg);replace HRp:=h_ (HRp.out.grown hg (by omega) (fun h=>by omega));replace HBr:=kG hg HBr;replace HBt:=kG hg HBt;replace HUb:=h_ (HUb.out.grown hg (fun h=>by omega))
   replace HOP:=h_ (HOP.out.grown hg (by omega));replace HD:=dN HD hg (by omega);replace HBq:Hid (w14.heap[kq]?=some (.cells #[.string ⟨t.text.toArray⟩,.slice ko qs.length kc,.int .i64 bk,.string bnm,.string bot,.bool bb,.slice bao bn bq,.slice bko bkn bkc,.int .i64 bln,.int .i64 bcl,.int .i64 (t.line:Nat),.int .i64 (t.col:Nat)] 69 (0,0))):=h_ hv;clear hw hg hv;obtain⟨c0,c1,c2,c3,c4,c5,c6,c7,c8,c9,c10,c11⟩:=cl12 HBq.out;obtain⟨z0,z1,z2,z3,z4,z5,z6,z7,z8,z9,z10,z11⟩:=cl12 HBr.out;obtain⟨fz0,fz1,fz2,fz3,fz4,fz5,fz6,fz7,fz8,fz9,fz10,fz11⟩:=fr12 HBr.out;go_wp2_with fail
   refine bodyPost_ret (v:=.agg #[.string ⟨t.text.toArray⟩,.slice ko qs.length kc,.int .i64 bk,.string bnm,.string bot,.bool bb,.slice bao bn bq,.slice bko bkn bkc,.int .i64 bln,.int .i64 bcl,.int .i64 (t.line:Nat),.int .i64 (t.col:Nat)]) (by simp[results,Tryz.results34,go_sem,z0,z1,z2,z3,z4,z5,z6,z7,z8,z9,z10,z11]) rfl ?_;obtain⟨wz,hw⟩:∃ x,x=w14.setCells kr 0 [.string ⟨t.text.toArray⟩,.slice ko qs.length kc,.int .i64 bk,.string bnm,.string bot,.bool bb,.slice bao bn bq,.slice bko bkn bkc,.int .i64 bln,.int .i64 bcl,.int .i64 (t.line:Nat),.int .i64 (t.col:Nat)]:=⟨_,rfl⟩
   have hg:w14.grownBy wz (some kr):=by rw[hw];exact setCells_grown _ _ _ _
   rw[show (((((((((((w14.setCell ⟨kr,0,none⟩ (.string ⟨t.text.toArray⟩)).setCell ⟨kr,1,none⟩ (.slice ko qs.length kc)).setCell ⟨kr,2,none⟩ (.int .i64 bk)).setCell ⟨kr,3,none⟩ (.string bnm)).setCell ⟨kr,4,none⟩ (.string bot)).setCell ⟨kr,5,none⟩ (.bool bb)).setCell ⟨kr,6,none⟩ (.slice bao bn bq)).setCell ⟨kr,7,none⟩ (.slice bko bkn bkc)).setCell ⟨kr,8,none⟩ (.int .i64 bln)).setCell ⟨kr,9,none⟩ (.int .i64 bcl)).setCell ⟨kr,10,none⟩ (.int .i64 (t.line:Nat))).setCell ⟨kr,11,none⟩ (.int .i64 (t.col:Nat))=wz from hw.symm];clear c0 c1 c2 c3 c4 c5 c6 c7 c8 c9 c10 c11 z0 fz0 z1 fz1 z2 fz2 z3 fz3 z4 fz4 z5 fz5 z6 fz6 z7 fz7 z8 fz8 z9 fz9 z10 fz10 z11 fz11;replace HP:=h_ (HP.out.store HBr.out (by decide) (by omega) hg);replace HRp:=h_ (HRp.out.grown hg (by omega) (fun h=>by omega));replace HBq:=kG hg HBq;replace HBt:=kG hg HBt
   replace HUb:=h_ (HUb.out.grown hg (fun h=>by omega));replace HOP:=h_ (HOP.out.grown hg (by omega));replace HD:=dN HD hg (by omega);have hsz15:=HD.out.size;clear hw hg;exact⟨⟨bk,bnm,bot,bb,bao,bn,bq,bko,bkn,bkc,bln,bcl⟩,.slice ko qs.length kc,by have hnt:=HNt.out;subst hnt;rfl,(HUb.out.mono (fun b h=>by have h:Nb<=b/\True:=h;show _<=b;omega)),⟨qs,rfl,HRp.out.at (fun b h=>h.1) (fun b h=>by show _<=b;omega)⟩,HP.out,HD.out⟩
namespace Rel9
open R7
def upd (d:Nat->Bool) (i:Nat):Nat->Bool:=fun j=>decide (j=i) || d j
section
variable {P:Program} {ops:List Oper} {D:List (List Nat)} {m:Nat} {t0:Array Value} {ds:List Deferred} {Q:Exit->Act->World->Prop}
theorem main (hok:ok ops D m t0.size=true) (hin:inOrder ops m=true) (J:(Nat->Bool)->Array Value->World->Prop)
  (hstep:∀ d T wc i o,J d T wc->ops[i]?=some o->i<m->d i=false->(∀ j,(dep D i).contains j=true->d j=true)->(∀ j k,d j=true->(dep D j).contains k=true->d k=true)->o.guard=none/\∀ K:Act->World->Prop,Hid (∀ T' w',J (upd d i) T' w'->K ⟨T',ds⟩ w')->o.wp P ⟨T,ds⟩ wc K Q)
  (hrest:∀ T wc,J (fun j=>decide (j<m)) T wc->wpList P ops.toArray Q (ops.drop m) ⟨T,ds⟩ wc) :
  ∀ (fuel:Nat) (l:Array Bool) (T:Array Value) (w:World),l.size=ops.length->l.toList.count false=fuel->(∀ j,l.getD j false=true->j<m)->(∀ j k,l.getD j false=true->(dep D j).contains k=true->l.getD k false=true)->J (fun j=>l.getD j false) T w->wpAny P .any ops.toArray Q fuel l ⟨T,ds⟩ w:=by
 have hml:=ok_len hok
 have fin:∀ (l:Array Bool) (T:Array Value) (w:World),l.size=ops.length->(∀ j,l.getD j false=true->j<m)->(∀ j,j<m->l.getD j false=true)->J (fun j=>l.getD j false) T w->wpAny P .any ops.toArray Q (l.toList.count false) l ⟨T,ds⟩ w:=by
  intro l T w hs hlt hall hJ
  have hl:l=lst ops.length m:=by
   refine Array.ext (by simp[lst,hs];omega) fun i h1 h2=>?_
   have e1:l[i]=l.getD i false:=by simp[Array.getD_eq_getD_getElem?,h1]
   rw[e1]
   by_cases hi:i<m
   ·rw[hall i hi];simp[lst,hi]
   have:l.getD i false=false:=by
    cases h:l.getD i false with
    | false=>rfl
    | true=>exact absurd (hlt i h) hi
   rw[this];simp[lst,List.getElem_append,hi]
  have hJ2:(fun j=>l.getD j false)=fun j=>decide (j<m):=funext fun j=>by
   by_cases hj:j<m
   ·rw[hall j hj];simp[hj]
   cases h:l.getD j false with
   | false=>simp[hj]
   | true=>exact absurd (hlt j h) hj
  rw[hJ2] at hJ;have hc:l.toList.count false=ops.length - m:=by rw[hl];simp[lst,List.count_append,List.count_replicate]
  rw[hc,hl];refine rest_any (ops.length - m) m (by omega) (fun i h1 h2=>?_) _ _ (hrest T w hJ);unfold inOrder at hin;have:=List.all_eq_true.1 hin i (List.mem_range.2 h2);simp only[Bool.or_eq_true,decide_eq_true_eq,beq_iff_eq] at this;exact this.resolve_left (by omega)
 intro fuel
 induction fuel with
 | zero =>
  intro l T w hs hc hlt hcl hJ;rw[<-hc];refine fin l T w hs hlt (fun j hj=>?_) hJ;rw[Array.getD_eq_getD_getElem?,Array.getElem?_eq_getElem (by omega)];simp only[Option.getD_some];have h0:=List.count_eq_zero.1 hc
  cases h:l[j]'(by omega) with
  | true=>rfl
  | false=>exact absurd (by rw[<-h];simp) h0
 | succ fuel ih =>
  intro l T w hs hc hlt hcl hJ
  by_cases hall:∀ j,j<m->l.getD j false=true
  ·rw[<-hc];exact fin l T w hs hlt hall hJ
  have tf:∀ i,i<ops.length->(l.getD i true=false ↔ l.getD i false=false):=fun i hi=>by simp[Array.getD_eq_getD_getElem?,show i<l.size by omega]
  refine⟨fun h0=>?_,fun i hi=>?_⟩
  ·-- the first that has not come up may come up
   have:∃ j,(j<m/\l.getD j false≠true)/\∀ i,i<j->l.getD i false=true:=by
    obtain⟨j,hj⟩:=Classical.not_forall.1 hall;obtain⟨hj1,hj2⟩:=Classical.not_imp.1 hj;clear hj
    induction j using Nat.strongRecOn with
    | ind j ihj =>
     by_cases h:∀ i,i<j->l.getD i false=true
     ·exact⟨j,⟨hj1,hj2⟩,h⟩
     obtain⟨i,hi⟩:=Classical.not_forall.1 h;obtain⟨hi1,hi2⟩:=Classical.not_imp.1 hi;exact ihj i hi1 (by omega) hi2
   obtain⟨j,⟨hj1,hj2⟩,hj3⟩:=this;have hjl:j<ops.length:=by omega
   have hm:j ∈ Region.ready .any ops.toArray l:=by
    rw[mem_ready];refine⟨(tf j hjl).2 (by simpa using hj2),ops[j],by simp[hjl],fun e he hb=>hj3 _ ?_⟩;exact (ok_at hok (List.getElem?_eq_getElem hjl)).1 e he hb
   rw[h0] at hm;cases hm
  obtain⟨h1,o,ho,he⟩:=mem_ready.1 hi;have ho':ops[i]?=some o:=by simpa using ho
  have hil:i<ops.length:=(List.getElem?_eq_some_iff.1 ho').1;have h1':=(tf i hil).1 h1;have hk:=ok_at hok ho'
  have hdep:∀ j,(dep D i).contains j=true->l.getD j false=true:=fun j hj=>by
   obtain⟨⟨e,e1,e2,e3⟩,-,-⟩:=hk.2.1 j hj;have:=he e e1 e2;rcases e3 with e3 | e3
   ·rw[<-e3];exact this
   exact hcl _ _ this e3
  have him:i<m:=by
   rcases hk.2.2.1 with h | h
   ·exact h
   exact absurd (fun j hj=>hdep j (h j hj)) hall
  obtain⟨hg,hw⟩:=hstep _ T w i o hJ ho' him h1' hdep hcl;unfold wpOp;rw[ho];have hwant:Region.wanted o (yielded ops.toArray T)=true:=by unfold Region.wanted;rw[hg]
  simp only[hwant,if_true];refine Or.inl (hw _ (h_ fun T' w' hJ'=>?_));have hli:i<l.size:=by omega
  have hup:(fun j=>(l.setIfInBounds i true).getD j false)=upd (fun j=>l.getD j false) i:=funext fun j=>R7.getD_set hli
  have hget:l.toList[i]?=some false:=by
   rw[Array.getElem?_toList,Array.getElem?_eq_getElem hli];have:=h1';rw[Array.getD_eq_getD_getElem?,Array.getElem?_eq_getElem hli] at this;exact congrArg some this
  refine ih _ T' w' (by simpa using hs) ?_ (fun j hj=>?_) (fun j k hj hjk=>?_) (by rw[hup];exact hJ')
  ·rw[Array.toList_setIfInBounds];have:=count_false hget
   omega
  ·rw[R7.getD_set hli,Bool.or_eq_true,decide_eq_true_eq] at hj;rcases hj with rfl | hj
   ·exact him
   exact hlt j hj
  rw[R7.getD_set hli,Bool.or_eq_true,decide_eq_true_eq] at hj ⊢;rcases hj with rfl | hj
  ·exact .inr (hdep k hjk)
  exact .inr (hcl j k hj hjk)
theorem region {id:Nat} {w:World} (hm:P.follows .mixedOrders=true) (D:List (List Nat)) (m:Nat) (hok:ok ops D m t0.size=true) (hin:inOrder ops m=true) (J:(Nat->Bool)->Array Value->World->Prop)
  (h0:J (fun _=>false) t0 w.drew)
  (hstep:∀ d T wc i o,J d T wc->ops[i]?=some o->i<m->d i=false->(∀ j,(dep D i).contains j=true->d j=true)->(∀ j k,d j=true->(dep D j).contains k=true->d k=true)->o.guard=none/\∀ K:Act->World->Prop,Hid (∀ T' w',J (upd d i) T' w'->K ⟨T',ds⟩ w')->o.wp P ⟨T,ds⟩ wc K Q)
  (hrest:∀ T wc,J (fun j=>decide (j<m)) T wc->wpList P ops.toArray Q (ops.drop m) ⟨T,ds⟩ wc):(Code.region id ops.toArray true).wp P Q ⟨t0,ds⟩ w:=by
 refine wp_region_any hm ?_
 have hno:(fun j=>(Array.replicate ops.toArray.size false).getD j false)=fun _=>false:=funext fun j=>by
  rw[Array.getD_eq_getD_getElem?]
  by_cases h:j<ops.length<;>simp[h]
 have hnn:∀ j,(Array.replicate ops.toArray.size false).getD j false=true->False:=fun j hj=>by
  have:=congrFun hno j;rw[this] at hj;cases hj
 have hc:(Array.replicate ops.toArray.size false).toList.count false=ops.toArray.size:=by simp
 exact main hok hin J hstep hrest _ _ t0 _ (by simp) hc (fun j hj=>(hnn j hj).elim) (fun j k hj=>(hnn j hj).elim) (by rw[hno];exact h0)
end
end Rel9
end Go.Proofs.YtkocdbgmckdcpaaGreatDoor
namespace Go.Proofs.YtkocdbgmckdcpaaGreatDoor
open Go.RowKit
set_option maxRecDepth 100000
set_option linter.unusedVariables false
def FBlk (w:World) (kf:Nat) (nm:Bs) (v:Value) (ln cl:Nat):Prop:=w.heap[kf]?=some (.cells #[.string ⟨nm.toArray⟩,v,.string ⟨#[]⟩,.int .i64 0,.bool false,.int .i64 0,.string ⟨#[]⟩,.string ⟨#[]⟩,.bool false,.slice none 0 0,.slice none 0 0,.int .i64 0,.int .i64 0,.int .i64 0,.int .i64 0,.int .i64 0,.string ⟨#[]⟩,.string ⟨#[]⟩,.bool false,.slice none 0 0,.slice none 0 0,.int .i64 0,.int .i64 0,.int .i64 (ln:Nat),.int .i64 (cl:Nat)] 50 (0,0))
theorem FBlk.set {w:World} {kf:Nat} {nm:Bs} {v:Value} {ln cl:Nat} (h:FBlk w kf nm v ln cl) (v':Value):FBlk (w.setCell ⟨kf,1,none⟩ v') kf nm v' ln cl:=by
 unfold FBlk at *;rw[heap_setCell_same _ kf 1 _ _ _ h];rfl
def Slots (kf kb:Nat) (val:Nat->Value) (N:Nat) (d:Nat->Bool) (T:Array Value):Prop:=T.size=N/\T[0]?=some (.pointer (some ⟨kf,0,none⟩))/\T[1]?=some (.pointer (some ⟨kb,0,none⟩))/\∀ j,j<8->d j=true->T[j+2]?=some (val j)
theorem Slots.put {kf kb:Nat} {val:Nat->Value} {N:Nat} {d:Nat->Bool} {T:Array Value} (h:Slots kf kb val N d T) {i:Nat} {v:Value} (hi:i+2<N) (hv:i<8->v=val i):Slots kf kb val N (Rel9.upd d i) (T.setIfInBounds (i+2) v):=by
 obtain⟨h1,h2,h3,h4⟩:=h;refine⟨by simpa using h1,by rw[Array.getElem?_setIfInBounds_ne (by omega)];exact h2,by rw[Array.getElem?_setIfInBounds_ne (by omega)];exact h3,fun j hj hd=>?_⟩
 by_cases e:j=i
 ·subst e;rw[Array.getElem?_setIfInBounds_self_of_lt (by omega),hv hj]
 rw[Array.getElem?_setIfInBounds_ne (by omega)];exact h4 j hj (by unfold Rel9.upd at hd;simpa [e] using hd)
def val8 (kf g n:Nat) (v pv:Value):Nat->Value
 | 0=>.pointer (some ⟨kf,1,none⟩)
 | 1=>v
 | 2=>.pointer (some ⟨g,0,none⟩)
 | 3=>.pointer (some ⟨g,0,none⟩)
 | 4=>.pointer (some ⟨kf,1,none⟩)
 | 5=>v
 | 6=>.int .i64 (n:Nat)
 | _=>pv
def Stg (wd:World) (g:Nat) (s s2:St) (r:PmU × St) (d:Nat->Bool) (T:Array Value) (w:World):Prop:=
 (d 7=false/\d 8=false/\d 9=false/\PS w g s)\/(d 7=true/\d 8=false/\d 9=false/\PS w g s2) \/
 (d 7=true/\d 8=true/\d 9=false/\∃ y,T[10]?=some (pmV r.1 y)/\Um w (fun b=>wd.heap.size<=b) y r.1.ref/\PS w g r.2) \/
 (d 7=true/\d 8=true/\d 9=true/\∃ y k,T[11]?=some (.slice (some ⟨k,0,none⟩) 1 1)/\wd.heap.size<=k/\w.heap[k]?=some (.cells (pmC r.1 y).toArray 48 (0,0))/\Um w (fun b=>wd.heap.size<=b/\b≠k) y r.1.ref/\PS w g r.2)
theorem Stg.quiet {wd:World} {g:Nat} {s s2:St} {r:PmU × St} {d:Nat->Bool} {T:Array Value} {w:World} (h:Stg wd g s s2 r d T w) {i:Nat} (hi:i<7) (v:Value):Stg wd g s s2 r (Rel9.upd d i) (T.setIfInBounds (i+2) v) w:=by
 have e:∀ j,7<=j->Rel9.upd d i j=d j:=fun j hj=>by unfold Rel9.upd;simp[show ¬ j=i by omega]
 unfold Stg at *;rw[e 7 (by omega),e 8 (by omega),e 9 (by omega),Array.getElem?_setIfInBounds_ne (by omega),Array.getElem?_setIfInBounds_ne (by omega)];exact h
theorem array14 (T:Array Value) (h:T.size=14):∃ a0 a1 a2 a3 a4 a5 a6 a7 a8 a9 a10 a11 a12 a13,T=#[a0,a1,a2,a3,a4,a5,a6,a7,a8,a9,a10,a11,a12,a13]:=by
 obtain⟨l⟩:=T
 match l,h with
 | [a0,a1,a2,a3,a4,a5,a6,a7,a8,a9,a10,a11,a12,a13],_=>exact⟨a0,a1,a2,a3,a4,a5,a6,a7,a8,a9,a10,a11,a12,a13,rfl⟩
def Kept (w w':World) (g kf B:Nat):Prop:=w'.os=w.os/\w'.tape=w.tape/\w'.output=w.output/\w.heap.size<=w'.heap.size/\∀ k,k<w.heap.size->k<B->k≠g->k≠kf->w'.heap[k]?=w.heap[k]?
theorem Kept.refl (w:World) (g kf B:Nat):Kept w w g kf B:=⟨rfl,rfl,rfl,Nat.le_refl _,fun _ _ _ _ _=>rfl⟩
theorem Kept.trans {w w1 w2:World} {g kf B:Nat} (h:Kept w w1 g kf B) (k:Kept w1 w2 g kf B):Kept w w2 g kf B:=
 ⟨k.1.trans h.1,k.2.1.trans h.2.1,k.2.2.1.trans h.2.2.1,Nat.le_trans h.2.2.2.1 k.2.2.2.1,fun q h1 h2 h3 h4=>(k.2.2.2.2 q (Nat.lt_of_lt_of_le h1 h.2.2.2.1) h2 h3 h4).trans (h.2.2.2.2 q h1 h2 h3 h4)⟩
theorem Kept.of {w w':World} {g kf B k:Nat} (h:w.grownBy w' (some k)) (hk:k=g\/k=kf\/B<=k):Kept w w' g kf B:=⟨h.os,h.tape,h.output,h.size,fun q h1 h2 h3 h4=>h.block q h1 (fun e=>by injection e with e;omega)⟩
theorem Kept.row {w w':World} {g kf B:Nat} {S:Nat->Prop} {v:Value} {α:Type} {E:El α} {el:List α} (hr:E.Row w B S v el) (h:w.grownBy w' v.ownBlock):Kept w w' g kf B:=⟨h.os,h.tape,h.output,h.size,fun q h1 h2 h3 h4=>h.block q h1 (fun e=>by have:=(hr.ge e.symm).1;omega)⟩
def FPost (wc:World) (g kf B:Nat) (S:Nat->Prop) (nm:Bs) (ln cl:Nat) (ps:List PmU) (s:St) (w':World):Prop:=∃ (qs:List (PmU × X)) (ko:Option Addr) (kc:Nat),qs.map Prod.fst=ps/\PS w' g s/\FBlk w' kf nm (.slice ko qs.length kc) ln cl/\pmE.Row w' B S (.slice ko qs.length kc) qs/\Kept wc w' g kf B
theorem fclos_p (n:Nat) (hn:n<=1000000) (g kf kb B:Nat) (S:Nat->Prop) (s:St) (r:PmU × St) (nm:Bs) (ln cl:Nat) (qs:List (PmU × X)) (ko:Option Addr) (kc:Nat) (wc:World) (hps:PS wc g s) (hop:GOps wc g) (hgb:g<kb) (hgf:g<kf) (hB:B=kf+1) (hbf:kb<kf)
  (hF:FBlk wc kf nm (.slice ko qs.length kc) ln cl) (hbx:wc.heap[kb]?=some (.cells #[.pointer (some ⟨g,0,none⟩)] 57 (0,0))) (hrow:pmE.Row wc B S (.slice ko qs.length kc) qs) (hSg:¬ S g) (hSf:¬ S kf) (hS:∀ b,wc.heap.size<=b->S b) (hlen:qs.length<=100000)
  (hc:cRef n (cParam qs.length s).1 (cParam qs.length s).2=some r) :
  Calls Tryz.prog 68 #[.pointer (some ⟨kf,0,none⟩),.pointer (some ⟨kb,0,none⟩)] wc fun e w'=>(∃ v,e=.returned v)/\FPost wc g kf B S nm ln cl (qs.map Prod.fst++[r.1]) r.2 w':=by
 have HP:=h_ hps;have HOP:=h_ hop;have HC:=h_ hc;have HF:=h_ hF;have HBb:=h_ hbx;have HR:=h_ hrow;have HSS:=h_ hS;clear hps hop hc hF hbx hrow hS;have hlf:=lt_of_block HF.out;have hlb:=lt_of_block HBb.out;have hgB:g<B:=by omega
 have hfB:kf<B:=by omega
 have hBl:B<=wc.heap.size:=by omega
 clear hB;obtain⟨p2,hp2⟩:∃ p,p=(cParam qs.length s).1:=⟨_,rfl⟩
 obtain⟨s2,hs2⟩:∃ x,x=(cParam qs.length s).2:=⟨_,rfl⟩
 have HP2:=h_ hp2;have HS2:=h_ hs2;clear hp2 hs2;go_enter Tryz.func68,Tryz.ntmps68
 refine Rel9.region (by kernel_rfl) [[],[0],[],[],[],[4],[4,5],[3,4,5,6],[2,3,4,5,6,7],[2,3,4,5,6,7,8],[0,1,2,3,4,5,6,7,8,9],[0,1,2,3,4,5,6,7,8,9,10],[0,1,2,3,4,5,6,7,8,9,10,11]] 10 (by kernel_rfl) (by kernel_rfl)
  (fun d T w=>wc.grownBy w (some g)/\Slots kf kb (val8 kf g qs.length (.slice ko qs.length kc) (pmV p2 xZ)) 14 d T/\Stg wc g s s2 r d T w) ?_ ?_ ?_
 ·refine⟨below_grown ((Below.refl _ _).drew) _,⟨by rfl,by rfl,by rfl,fun j _ h=>by cases h⟩,.inl ⟨rfl,rfl,rfl,HP.out.below ((Below.refl _ _).drew)⟩⟩
 ·intro d T w i o hJ ho hi hd hdep hcl;obtain⟨hG,hSl,hSt⟩:=hJ;have e0:=hSl.2.1;have e1:=hSl.2.2.1;obtain rfl | rfl | rfl | rfl | rfl | rfl | rfl | rfl | rfl | rfl:i=0\/i=1\/i=2\/i=3\/i=4\/i=5\/i=6\/i=7\/i=8\/i=9:=by omega
  ·injection ho with ho;subst ho;refine⟨rfl,fun K hK=>?_⟩;go_simp
   exact hK.out _ _ ⟨hG,hSl.put (i:=0) (by decide) (fun _=>rfl),hSt.quiet (i:=0) (by decide) _⟩
  ·injection ho with ho;subst ho;have e2:T[2]?=some (.pointer (some ⟨kf,1,none⟩)):=hSl.2.2.2 0 (by decide) (hdep 0 (by rfl));have hf:=(hG.block kf hlf (fun e=>by injection e with e;omega)).trans HF.out;have c1:=cell_at (v:=.slice ko qs.length kc) hf 1 rfl;clear hf;refine⟨rfl,fun K hK=>?_⟩;go_simp
   exact hK.out _ _ ⟨hG,hSl.put (i:=1) (by decide) (fun _=>rfl),hSt.quiet (i:=1) (by decide) _⟩
  ·injection ho with ho;subst ho;have hb:=(hG.block kb hlb (fun e=>by injection e with e;omega)).trans HBb.out;have c1:=cell_at (v:=.pointer (some ⟨g,0,none⟩)) hb 0 rfl;clear hb;refine⟨rfl,fun K hK=>?_⟩;go_simp
   exact hK.out _ _ ⟨hG,hSl.put (i:=2) (by decide) (fun _=>rfl),hSt.quiet (i:=2) (by decide) _⟩
  ·injection ho with ho;subst ho;have hb:=(hG.block kb hlb (fun e=>by injection e with e;omega)).trans HBb.out;have c1:=cell_at (v:=.pointer (some ⟨g,0,none⟩)) hb 0 rfl;clear hb;refine⟨rfl,fun K hK=>?_⟩;go_simp
   exact hK.out _ _ ⟨hG,hSl.put (i:=3) (by decide) (fun _=>rfl),hSt.quiet (i:=3) (by decide) _⟩
  ·injection ho with ho;subst ho;refine⟨rfl,fun K hK=>?_⟩;go_simp
   exact hK.out _ _ ⟨hG,hSl.put (i:=4) (by decide) (fun _=>rfl),hSt.quiet (i:=4) (by decide) _⟩
  ·injection ho with ho;subst ho;have e6:T[6]?=some (.pointer (some ⟨kf,1,none⟩)):=hSl.2.2.2 4 (by decide) (hdep 4 (by rfl));have hf:=(hG.block kf hlf (fun e=>by injection e with e;omega)).trans HF.out;have c1:=cell_at (v:=.slice ko qs.length kc) hf 1 rfl;clear hf;refine⟨rfl,fun K hK=>?_⟩;go_simp
   exact hK.out _ _ ⟨hG,hSl.put (i:=5) (by decide) (fun _=>rfl),hSt.quiet (i:=5) (by decide) _⟩
  ·injection ho with ho;subst ho;have e7:T[7]?=some (.slice ko qs.length kc):=hSl.2.2.2 5 (by decide) (hdep 5 (by rfl));refine⟨rfl,fun K hK=>?_⟩;go_simp
   exact hK.out _ _ ⟨hG,hSl.put (i:=6) (by decide) (fun _=>rfl),hSt.quiet (i:=6) (by decide) _⟩
  ·injection ho with ho;subst ho;have e5:T[5]?=some (.pointer (some ⟨g,0,none⟩)):=hSl.2.2.2 3 (by decide) (hdep 3 (by rfl));have e8:T[8]?=some (.int .i64 (qs.length:Nat)):=hSl.2.2.2 6 (by decide) (hdep 6 (by rfl));obtain⟨-,h8,h9,hp⟩ | ⟨h7,-⟩ | ⟨h7,-⟩ | ⟨h7,-⟩:=hSt
   ·refine⟨rfl,fun K hK=>?_⟩;go_simp
    refine (param_p g qs.length s w hp (by omega)).mono ?_;rintro e w' ⟨rfl,hp',hg'⟩;rw[<-HP2.out];rw[<-HS2.out] at hp';refine hK.out _ _ ⟨grown_tr hG hg',hSl.put (i:=7) (by decide) (fun _=>rfl),.inr (.inl ⟨by rfl,by unfold Rel9.upd;simp[h8],by unfold Rel9.upd;simp[h9],hp'⟩)⟩
   all_goals rw[hd] at h7;cases h7
  ·injection ho with ho;subst ho;have e4:T[4]?=some (.pointer (some ⟨g,0,none⟩)):=hSl.2.2.2 2 (by decide) (hdep 2 (by rfl));have e9:T[9]?=some (pmV p2 xZ):=hSl.2.2.2 7 (by decide) (hdep 7 (by rfl));obtain⟨h7,-⟩ | ⟨h7,-,h9,hp⟩ | ⟨-,h8,-⟩ | ⟨-,h8,-⟩:=hSt
   ·rw[hdep 7 (by rfl)] at h7;cases h7
   ·refine⟨rfl,fun K hK=>?_⟩;go_simp
    have hc2:cRef n (typ s.nx.text s.nx (cBase ((s.counted qs.length 6).exp wColon)).1) s2=some r:=by rw[HS2.out];exact HC.out
    have hpv:pmV p2 xZ=pmV (typ s.nx.text s.nx (cBase ((s.counted qs.length 6).exp wColon)).1) xZ:=by rw[HP2.out];rfl
    rw[hpv];refine (refined_p n hn g s2 _ _ _ r w hp (HOP.out.grown hG (Nat.le_refl _)) hc2).mono ?_;rintro e w' ⟨y,rfl,hu,hp',hg'⟩;refine hK.out _ _ ⟨grown_tr hG hg',hSl.put (i:=8) (by decide) (fun h=>absurd h (by decide)),.inr (.inr (.inl ⟨by unfold Rel9.upd;simp[h7],by rfl,by unfold Rel9.upd;simp[h9],y,?_,hu.mono (fun b h=>Nat.le_trans hG.size h),hp'⟩))⟩;rw[Array.getElem?_setIfInBounds_self_of_lt (by rw[hSl.1];decide)]
   all_goals rw[hd] at h8;cases h8
  injection ho with ho;subst ho;obtain⟨h7,-⟩ | ⟨-,h8,-⟩ | ⟨h7,h8,-,y,e10,hu,hp⟩ | ⟨-,-,h9,-⟩:=hSt
  ·rw[hdep 7 (by rfl)] at h7;cases h7
  ·rw[hdep 8 (by rfl)] at h8;cases h8
  ·refine⟨rfl,fun K hK=>?_⟩;simp only[pmV] at e10;go_simp
   refine hK.out _ _ ⟨grown_tr hG (below_grown ((Below.refl _ _).alloc (Nat.le_refl _) _) _),hSl.put (i:=9) (by decide) (fun h=>absurd h (by decide)),.inr (.inr (.inr ⟨by unfold Rel9.upd;simp[h7],by unfold Rel9.upd;simp[h8],by rfl,y,w.heap.size,?_,hG.size,made_at w _ _ rfl,?_,hp.below ((Below.refl _ _).alloc (Nat.le_refl _) _)⟩))⟩
   ·rw[Array.getElem?_setIfInBounds_self_of_lt (by rw[hSl.1];decide)]
   exact (hu.off.below ((Below.refl _ _).alloc (Nat.le_refl _) _)).mono fun b h=>h
  rw[hd] at h9;cases h9
 intro T w hJ;obtain⟨hG,hSl,hSt⟩:=hJ;obtain⟨h7,-⟩ | ⟨-,h8,-⟩ | ⟨-,-,h9,-⟩ | ⟨-,-,-,y,k,e11,hk,hB4,hu,hp⟩:=hSt
 ·exact absurd h7 (by decide)
 ·exact absurd h8 (by decide)
 ·exact absurd h9 (by decide)
 have e0:=hSl.2.1;have e3:T[3]?=some (.slice ko qs.length kc):=hSl.2.2.2 1 (by decide) (by rfl);have hr2:=HR.out.grown hG (by omega) hSg;have hF2:FBlk w kf nm (.slice ko qs.length kc) ln cl:=(hG.block kf hlf (fun e=>by injection e with e;omega)).trans HF.out;have hlf2:=lt_of_block hF2;have hws:=hG.size;have hown:∀ b,wc.heap.size<=b->(Value.slice ko qs.length kc).ownBlock≠some b:=fun b hb e=>by have:=(HR.out.ge e).2;omega
 refine El.Row.append (E:=pmE) hr2 rfl (.tmp 3) (.tmp 11) 38 rfl Tryz.underlying38 infoParam rfl (by decide) (by show T.getD 3 undef=_;rw[Array.getD_eq_getD_getElem?,e3];rfl) (r.1,y) k 48 (by show T.getD 11 undef=_;rw[Array.getD_eq_getD_getElem?,e11];rfl) hB4 (hu.mono fun b h=>⟨HSS.out b h.1,hown b h.1⟩) (by omega) (by omega) ?_;intro v2 w2 hrow hgw;obtain⟨qs2,hqs⟩:∃ l:List (PmU × X),l=qs++[(r.1,y)]:=⟨_,rfl⟩
 rw[<-hqs] at hrow;obtain⟨ko2,kc2,hv2,-⟩:=hrow.form;subst hv2;have hF3:FBlk w2 kf nm (.slice ko qs.length kc) ln cl:=(hr2.kR hgw (by omega) (h_ hF2)).out;have hp3:=hr2.ps hgw (by omega) hp;have hKe:=(Kept.of (kf:=kf) (B:=B) hG (.inl rfl)).trans (Kept.row (g:=g) (kf:=kf) hr2 hgw);have HKe:=h_ hKe;have HP3:=h_ hp3;have HF3:=h_ hF3;have HRW:=h_ hrow;have HQS:=h_ hqs;have c1:=cell_at (v:=.slice ko qs.length kc) hF3 1 rfl;have f1:=froz_at hF3 1;obtain⟨T2,hT2⟩:∃ x,x=T.setIfInBounds 12 (.slice ko2 qs2.length kc2):=⟨_,rfl⟩
 have t0:T2[0]?=some (.pointer (some ⟨kf,0,none⟩)):=by rw[hT2,Array.getElem?_setIfInBounds_ne (by decide)];exact e0
 have t12:T2[12]?=some (.slice ko2 qs2.length kc2):=by rw[hT2,Array.getElem?_setIfInBounds_self_of_lt (by rw[hSl.1];decide)]
 have hsz:T2.size=14:=by rw[hT2];simpa using hSl.1
 change wpList Tryz.prog _ _ _ ⟨T.setIfInBounds 12 (.slice ko2 qs2.length kc2),_⟩ w2;rw[<-hT2];clear hT2 hF3 hp3 hKe hrow hqs hgw hr2 hF2 hu hB4 hSl hG hp e0 e3 e11;obtain⟨a0,a1,a2,a3,a4,a5,a6,a7,a8,a9,a10,a11,a12,a13,hT⟩:=array14 T2 hsz;subst hT;have t0':a0=_:=Option.some.inj t0;have t12':a12=_:=Option.some.inj t12;subst t0' t12';clear t0 t12 hsz;go_wp2_with fail
 go_end0
 have hg:=grown_set w2 kf 1 (.slice ko2 qs2.length kc2);refine⟨⟨_,rfl⟩,qs2,ko2,kc2,by rw[HQS.out,List.map_append];rfl,?_,HF3.out.set _,HRW.out.grown hg (by omega) hSf,HKe.out.trans (Kept.of hg (.inr (.inl rfl)))⟩;exact HP3.out.store HF3.out (by decide) hgf hg
theorem FPost.did {wc w w':World} {g kf B:Nat} {S:Nat->Prop} {nm:Bs} {ln cl:Nat} {ps:List PmU} {s s':St} (h:FPost wc g kf B S nm ln cl ps s w) (hd:Did w g s' w') (h1:g<B) (h2:g<kf) (h3:¬ S g):FPost wc g kf B S nm ln cl ps s' w':=by
 obtain⟨qs,ko,kc,a1,a2,a3,a4,a5⟩:=h;exact⟨qs,ko,kc,a1,hd.1,(hd.2.block _ (lt_of_block a3) (fun e=>by injection e with e;omega)).trans a3,a4.grown hd.2 h1 h3,a5.trans (Kept.of hd.2 (.inl rfl))⟩
theorem GOps.kept {w w':World} {g kf B:Nat} (h:GOps w g) (hk:Kept w w' g kf B) (h1:g<B) (h2:g<kf):GOps w' g:=
 ⟨fun j u hu=>by
  have hc:=h.1 j u hu
  rw[World.cell?_of_block (hk.2.2.2.2 _ (cell_lt hc) (by have:=h.2;simp only at *;omega) (by have:=h.2;simp only at *;omega) (by have:=h.2;simp only at *;omega))];exact hc,h.2⟩
theorem len_call {n:Nat} {s:St} {x:U × St} (h:cAll n s=some x):x.2.rest.length<=s.rest.length:=by
 unfold cAll at h;rw[Option.bind_eq_some_iff] at h;obtain⟨r,h1,h2⟩:=h;injection h2 with h2;subst h2;have:=(c_len n).1 _ _ h1;simp only
 split
 ·exact Nat.le_trans (len_fail _ _ _) this
 exact this
theorem len_ref {n:Nat} {p:PmU} {s:St} {x:PmU × St} (h:cRef n p s=some x):x.2.rest.length<=s.rest.length:=by
 unfold cRef at h
 split at h
 ·rw[Option.bind_eq_some_iff] at h;obtain⟨r,h1,h2⟩:=h;injection h2 with h2;subst h2;exact Nat.le_trans (len_exp _ _) (Nat.le_trans (len_call h1) (len_tk _))
 injection h with h;subst h;exact Nat.le_refl _
theorem len_fpar {n:Nat} {l:List PmU} {s:St} {x:List PmU × St} (h:cFPar n l s=some x):x.2.rest.length<=s.rest.length/\∃ q,cRef n (cParam l.length s).1 (cParam l.length s).2=some q/\x=(l++[q.1],q.2):=by
 unfold cFPar at h;rw[Option.bind_eq_some_iff] at h;obtain⟨q,h1,h2⟩:=h;injection h2 with h2;subst h2;exact⟨Nat.le_trans (len_ref h1) (len_param _ _),q,h1,rfl⟩
theorem fcl_p (n:Nat) (hn:n<=1000000) (g kf kb B:Nat) (S:Nat->Prop) (nm:Bs) (ln cl:Nat) (ps:List PmU) (s:St) (r:List PmU × St) (wc w:World) (hop:GOps wc g) (hgb:g<kb) (hgf:g<kf) (hB:B=kf+1) (hbf:kb<kf) (hbx:wc.heap[kb]?=some (.cells #[.pointer (some ⟨g,0,none⟩)] 57 (0,0))) (hSg:¬ S g) (hSf:¬ S kf) (hS:∀ b,wc.heap.size<=b->S b) (hlen:ps.length<=100000)
  (h:FPost wc g kf B S nm ln cl ps s w) (hc:cFPar n ps s=some r) :
  Calls Tryz.prog 68 #[.pointer (some ⟨kf,0,none⟩),.pointer (some ⟨kb,0,none⟩)] w fun e w'=>(∃ v,e=.returned v)/\FPost wc g kf B S nm ln cl r.1 r.2 w':=by
 obtain⟨qs,ko,kc,rfl,a2,a3,a4,a5⟩:=h;rw[List.length_map] at hlen;obtain⟨-,q,hq,rfl⟩:=len_fpar hc;rw[List.length_map] at hq;refine (fclos_p n hn g kf kb B S s q nm ln cl qs ko kc w a2 (hop.kept a5 (by omega) hgf) hgb hgf hB hbf a3 ((a5.2.2.2.2 kb (lt_of_block hbx) (by omega) (by omega) (by omega)).trans hbx) a4 hSg hSf (fun b hb=>hS b (Nat.le_trans a5.2.2.2.1 hb)) hlen hq).mono ?_;rintro e w' ⟨hv,qs',ko',kc',b1,b2,b3,b4,b5⟩;exact⟨hv,qs',ko',kc',b1,b2,b3,b4,a5.trans b5⟩
theorem flist_p (m n:Nat) (hn:n<=1000000) (g kf kb B:Nat) (S:Nat->Prop) (nm:Bs) (ln cl:Nat) (s:St) (r:List PmU × St) (wc:World) (hop:GOps wc g) (hgb:g<kb) (hgf:g<kf) (hB:B=kf+1) (hbf:kb<kf) (hbx:wc.heap[kb]?=some (.cells #[.pointer (some ⟨g,0,none⟩)] 57 (0,0))) (hSg:¬ S g) (hSf:¬ S kf) (hS:∀ b,wc.heap.size<=b->S b)
  (h0:FPost wc g kf B S nm ln cl [] s wc) (hc:cFPars m n s=some r) :
  Calls Tryz.prog 67 #[.pointer (some ⟨g,0,none⟩),.func (.func 68) #[] #[.pointer (some ⟨kf,0,none⟩),.pointer (some ⟨kb,0,none⟩)]] wc fun e w'=>(∃ v,e=.returned v)/\FPost wc g kf B S nm ln cl r.1 r.2 w':=by
 have hgB:g<B:=by omega
 have HCL:Hid (∀ (ps:List PmU) (s:St) (r:List PmU × St) (w:World),ps.length<=100000->FPost wc g kf B S nm ln cl ps s w->cFPar n ps s=some r->Calls Tryz.prog 68 #[.pointer (some ⟨kf,0,none⟩),.pointer (some ⟨kb,0,none⟩)] w fun e w'=>(∃ v,e=.returned v)/\FPost wc g kf B S nm ln cl r.1 r.2 w'):=
  h_ (fun ps s r w hl h hc=>fcl_p n hn g kf kb B S nm ln cl ps s r wc w hop hgb hgf hB hbf hbx hSg hSf hS hl h hc)
 have HL:=h_ h0;have hlen:s.rest.length<=30000:=by obtain⟨_,_,_,_,h,_⟩:=h0;exact h.2
 have HPS:Hid (∀ ps s w,FPost wc g kf B S nm ln cl ps s w->PS w g s):=h_ (fun ps s w h=>by obtain⟨_,_,_,_,h,_⟩:=h;exact h);have HDD:Hid (∀ ps s s' w w',FPost wc g kf B S nm ln cl ps s w->Did w g s' w'->FPost wc g kf B S nm ln cl ps s' w'):=h_ (fun ps s s' w w' h hd=>h.did hd hgB hgf hSg);clear h0 hop hbx hS hB;unfold cFPars at hc
 by_cases hcl:s.is wClose=true
 ·rw[if_pos hcl] at hc;injection hc with hc;subst hc;have HI:Hid (s.acc [41]=s.tk):=h_ (by unfold St.acc;rw[show s.is [41]=true from hcl];rfl);go_enter Tryz.func67,Tryz.ntmps67
  go_wp2_with fail
  refine (accept_p g s [41] wc (HPS.out _ _ _ HL.out)).mono ?_;rintro e w1 ⟨rfl,hd⟩;have HL1:=h_ (HDD.out _ _ _ _ _ HL.out hd);rw[HI.out] at HL1;rw[show s.is [41]=true from hcl];clear hd hcl;go_wp2_with fail
  exact bodyPost_ret (v:=.tuple #[]) (by simp[results,Tryz.results67,go_sem]) rfl ⟨⟨_,rfl⟩,HL1.out⟩
 rw[if_neg hcl,Option.bind_eq_some_iff] at hc;obtain⟨r1,hc1,hc2⟩:=hc;have HC1:=h_ hc1;have HC2:=h_ hc2;have hcf:s.is [41]=false:=by simpa using hcl
 have HI:Hid (s.acc [41]=s):=h_ (by unfold St.acc;rw[hcf];rfl);have hl1:=(len_fpar hc1).1;have hr1:r1.1.length=1:=by obtain⟨-,q,-,e⟩:=len_fpar hc1;rw[e];rfl
 have HR1:=h_ hr1;clear hc1 hc2 hcl hr1;go_enter Tryz.func67,Tryz.ntmps67
 go_wp2_with fail
 refine (accept_p g s [41] wc (HPS.out _ _ _ HL.out)).mono ?_;rintro e w1 ⟨rfl,hd⟩;have HL1:=h_ (HDD.out _ _ _ _ _ HL.out hd);rw[HI.out] at HL1;rw[hcf];clear hd;go_wp2_with fail
 refine (HCL.out [] s r1 w1 (by simp) HL1.out HC1.out).mono ?_;rintro e w2 ⟨⟨v,rfl⟩,hl⟩;have HL2:=h_ hl;clear hl;go_wp2_with fail
 go_loopw [8] (fun _ wr=>∃ (m':Nat) (us:List PmU) (sj:St),us.length+sj.rest.length<=30001/\Hid (cFMore m' n us sj=some r)/\Hid (FPost wc g kf B S nm ln cl us sj wr)) (fun _ wr=>pLen wr g)
 case atStart=>exact⟨m,r1.1,r1.2,by rw[HR1.out];omega,HC2,HL2⟩
 case round =>
  obtain⟨m',us,sj,hlj,HC,HLj⟩:=hrel
  cases m' with
  | zero=>exact absurd HC.out (by simp[cFMore])
  | succ m' =>
   have hcm:=HC.out;rw[cFMore] at hcm;have HLN:=h_ (HPS.out _ _ _ HLj.out).len;have HGD:=h_ (HPS.out _ _ _ HLj.out).good;go_wp2_with fail
   refine (accept_p g sj [44] wr (HPS.out _ _ _ HLj.out)).mono ?_;rintro e w3 ⟨rfl,hd⟩;have HL3:=h_ (HDD.out _ _ _ _ _ HLj.out hd);clear hd
   by_cases hi:sj.is [44]=true
   ·have hi2:sj.is wComma=true:=hi;rw[if_pos hi2,Option.bind_eq_some_iff] at hcm;obtain⟨r2,hd1,hd2⟩:=hcm;have HD1:=h_ hd1;have HD2:=h_ hd2;have hlt:=tk_less HGD.out (w:=wComma) (by decide) hi2;have hl2:=(len_fpar hd1).1;have hr2:r2.1.length=us.length+1:=by obtain⟨-,q,-,e⟩:=len_fpar hd1;rw[e,lsa];rfl
    have HR2:=h_ hr2;have HX:Hid (sj.acc [44]=sj.tk):=h_ (by unfold St.acc;rw[hi];rfl);rw[HX.out] at HL3;rw[hi];clear hi hi2 hd1 hd2 hr2;go_wp2_with fail
    refine (HCL.out us sj.tk r2 w3 (by omega) HL3.out HD1.out).mono ?_;rintro e w4 ⟨⟨v,rfl⟩,hl⟩;have HL4:=h_ hl;clear hl;go_wp2_with fail
    go_roundw
    case rel=>exact⟨m',r2.1,r2.2,by rw[HR2.out];omega,HD2,HL4⟩
    case measure=>rw[(HPS.out _ _ _ HL4.out).len,HLN.out];omega
   have hif:sj.is [44]=false:=by simpa using hi
   rw[if_neg (show ¬ sj.is wComma=true from hi)] at hcm;injection hcm with hcm;subst hcm;have HX:Hid (sj.acc [44]=sj):=h_ (by unfold St.acc;rw[hif];rfl);rw[HX.out] at HL3;rw[hif];clear hi;go_wp2_with fail
   obtain⟨w4,kq,hw,hkk,hb,hs1,HK⟩:=newb w3 #[.string ⟨#[41]⟩] 9;have hgk:g<kq:=by rw[hkk];exact (HPS.out _ _ _ HL3.out).lt
   rw[hw,<-hkk];have HL4:=h_ (HDD.out _ _ _ _ _ HL3.out (Did.of_below (HPS.out _ _ _ HL3.out) hb));clear hw hb hkk hs1;refine (expect_p g sj [[41]] kq w4 (HPS.out _ _ _ HL4.out) HK.out (by omega) (by decide)).mono ?_;rintro e w5 ⟨⟨v,rfl⟩,hd⟩;have HL5:=h_ (HDD.out _ _ _ _ _ HL4.out hd);clear hd;go_wp2_with fail
   go_end0
   exact⟨⟨_,rfl⟩,HL5.out⟩
def fnC (q:FnU) (v:Value) (x y:X):List Value:=[.string ⟨q.nm.toArray⟩,v,.string ⟨q.res.nm.toArray⟩,.int .i64 (q.res.b:Nat),.bool q.res.kn,.int .i64 x.k,.string x.nm,.string x.ot,.bool x.b,.slice x.ao x.n x.c,.slice x.ko x.kn x.kc,.int .i64 x.ln,.int .i64 x.cl,.int .i64 (q.res.ln:Nat),.int .i64 (q.res.cl:Nat),.int .i64 y.k,.string y.nm,.string y.ot,.bool y.b,.slice y.ao y.n y.c,.slice y.ko y.kn y.kc,.int .i64 y.ln,.int .i64 y.cl,.int .i64 (q.ln:Nat),.int .i64 (q.cl:Nat)]
theorem wp_build_any {P:Program} {op:Oper} {a:Act} {w:World} {K:Act->World->Prop} {Q:Exit->Act->World->Prop} (ty:TypeId) (parts:Array (Nat × Operand)) (v:Value) (ho:op.op=.build ty parts) (vals:Array (Nat × Value)) (hv:(parts.map fun (i,x)=>(i,a.eval x))=vals) (hr:(Instr.build ty vals).run P w=.ok v w) (h:K (a.put op.dst v) w):op.wp P a w K Q:=by
 unfold Oper.wp execOp;simp only[ho,hv,Sem.run_bind,hr,Sem.run_pure,Result.andThen_ok];exact h
theorem res_cell {P:Program} {fn:Func} {T:Array Value} {w:World} {t:Tmp} {ty:TypeId} (hr:fn.results=#[.cell t ty]) {p:Addr} (hT:T[t]?=some (.pointer (some p))) (cs:List Value) {d:TypeDesc} (hc:∀ j v,cs[j]?=some v->w.cell? (p.add j)=some v)
  (hu:P.underlying ty=some d) (hd:d.isRow=true) (hi:(P.info? ty).map (·.size)=some cs.length):(results fn T).run P w=.ok (.agg cs.toArray) w:=by
 have hl:=run_loadCells_list (P:=P) w p cs hc
 cases hq:P.info? ty with
 | none=>simp[hq] at hi
 | some i =>
  have hs:i.size=cs.length:=by simpa [hq] using hi
  have hagg:(isAgg ty).run P w=.ok true w:=by
   unfold isAgg;rw[Sem.run_bind,run_underlying hu w]
   cases d<;>simp_all
  unfold results;rw[hr]
  simp[go_sem,asAddr,hT,hagg,sizeOf,typeInfo,hq,hs]
  simp[loadCells] at hl
  rw[hl];rfl
theorem grown_setRow (w:World) (g:Nat) (cs:Array Value):w.grownBy (w.setRow g cs) (some g):=⟨rfl,rfl,rfl,by simp[World.setRow],fun k hk hn=>setRow_other w g k cs (fun e=>hn (by rw[e]))⟩
theorem build_fun (l:ByteArray) (x y:Int) (w:World):(Instr.build 50 #[(0,.string l),(4,.int .i64 x),(5,.int .i64 y)]).run Tryz.prog w=.ok (.agg #[.string l,.slice none 0 0,.string ⟨#[]⟩,.int .i64 0,.bool false,.int .i64 0,.string ⟨#[]⟩,.string ⟨#[]⟩,.bool false,.slice none 0 0,.slice none 0 0,.int .i64 0,.int .i64 0,.int .i64 0,.int .i64 0,.int .i64 0,.string ⟨#[]⟩,.string ⟨#[]⟩,.bool false,.slice none 0 0,.slice none 0 0,.int .i64 0,.int .i64 0,.int .i64 x,.int .i64 y]) w:=by kernel_rfl
theorem kK {w w':World} {g kf B k:Nat} {o:Obj} (h:Kept w w' g kf B) (hb:Hid (w.heap[k]?=some o)) (h1:k<B) (h2:k≠g) (h3:k≠kf):Hid (w'.heap[k]?=some o):=h_ ((h.2.2.2.2 k (lt_of_block hb.out) h1 h2 h3).trans hb.out)
theorem dK {we w w':World} {g kf B:Nat} (h:Kept w w' g kf B) (hd:Hid (we.grownBy w (some g))) (h1:we.heap.size<=kf) (h2:we.heap.size<=B):Hid (we.grownBy w' (some g)):=by
 have hd:=hd.out;exact h_ ⟨h.1.trans hd.os,h.2.1.trans hd.tape,h.2.2.1.trans hd.output,Nat.le_trans hd.size h.2.2.2.1,fun k hk hn=>(h.2.2.2.2 k (Nat.lt_of_lt_of_le hk hd.size) (by omega) (fun e=>hn (by rw[e])) (by omega)).trans (hd.block k hk hn)⟩
theorem fun_p (m n:Nat) (hn:n<=1000000) (g count:Nat) (hcn:count<=1000000) (s:St) (r:FnU × St) (w:World) (hps:PS w g s) (hop:GOps w g) (hc:cFun m n count s=some r) :
  Calls Tryz.prog 35 #[.pointer (some ⟨g,0,none⟩),.int .i64 (count:Nat)] w fun e w'=>∃ x y v,e=.returned (.agg (fnC r.1 v x y).toArray)/\Um w' (fun k=>w.heap.size<=k) x r.1.res.ref/\Um w' (fun k=>w.heap.size<=k) y r.1.body/\PmsAt w' (fun k=>w.heap.size<=k) v r.1.ps/\Did w g r.2 w':=by
 have HP:=h_ hps;have HOP:=h_ hop;have hgN:=hps.lt;have hql0:=hps.2;clear hps hop;unfold cFun at hc;simp only[Option.bind_eq_some_iff] at hc;obtain⟨ra,hm,rt,ht,q,hq,hc⟩:=hc;injection hc with hc;subst hc;have HM:=h_ hm;have HQ:=h_ hq;have HTT:=h_ ht;clear hm hq ht;have hmf:∀ (fn:Fn) (first cap:Array Value) (w:World),(Instr.makeFunc fn first cap).run Tryz.prog w=.ok (.func fn first cap) w:=fun _ _ _ _=>rfl
 go_enter Tryz.func35,Tryz.ntmps35
 go_upto_region 1 with fail
 obtain⟨w1,kb,hw,hkk,hb,hs1,HBb⟩:=newb w #[.pointer (some ⟨g,0,none⟩)] 57;have hgb:g<kb:=by rw[hkk];exact HP.out.lt
 have heb:w.heap.size<=kb:=by omega
 rw[hw,<-hkk,<-hs1];replace HP:=h_ (HP.out.below hb);replace HOP:=h_ (HOP.out.below hb);have HD:=h_ (below_grown hb (some g));have hsz1:=HD.out.size;clear hw hb hkk hs1;obtain⟨w2,kr,hw,hkk,hb,hs1,HBr⟩:=newb w1 #[.string ⟨#[]⟩,.slice none 0 0,.string ⟨#[]⟩,.int .i64 0,.bool false,.int .i64 0,.string ⟨#[]⟩,.string ⟨#[]⟩,.bool false,.slice none 0 0,.slice none 0 0,.int .i64 0,.int .i64 0,.int .i64 0,.int .i64 0,.int .i64 0,.string ⟨#[]⟩,.string ⟨#[]⟩,.bool false,.slice none 0 0,.slice none 0 0,.int .i64 0,.int .i64 0,.int .i64 0,.int .i64 0] 50;have hgr:g<kr:=by rw[hkk];exact HP.out.lt
 have her:w.heap.size<=kr:=by omega
 have hb_r:=lk_ hkk HBb;rw[hw,<-hkk];replace HBb:=kB hb HBb;replace HP:=h_ (HP.out.below hb);replace HOP:=h_ (HOP.out.below hb);replace HD:=dB HD hb;clear hw hb hkk hs1;have c0:=cell_at (v:=.pointer (some ⟨g,0,none⟩)) HBb.out 0 rfl;go_wp2_with fail
 refine (counted_p g count 20 s w2 HP.out hcn (by decide)).mono ?_;rintro e w3 ⟨rfl,hp,hg⟩;clear c0;replace HBb:=kG hg HBb;replace HBr:=kG hg HBr;replace HOP:=h_ (HOP.out.grown hg (by omega));replace HP:=h_ hp;replace HD:=dG HD (hg);have hsz3:=HD.out.size;clear hp hg;simp only[tokV];obtain⟨t,hnx⟩:∃ t,t=St.nx s:=⟨_,rfl⟩
 rw[<-hnx];have HNt:=h_ hnx;clear hnx;go_upto_region 2 with fail
 obtain⟨w4,kt,hw,hkk,hb,hs1,HBt⟩:=newb w3 #[.int .i64 (t.kind:Nat),.string ⟨t.text.toArray⟩,.int .i64 (t.line:Nat),.int .i64 (t.col:Nat)] 97;have hgt:g<kt:=by rw[hkk];exact HP.out.lt
 have het:w.heap.size<=kt:=by omega
 have hb_t:=lk_ hkk HBb;have hr_t:=lk_ hkk HBr;rw[hw,<-hkk];replace HBb:=kB hb HBb;replace HBr:=kB hb HBr;replace HP:=h_ (HP.out.below hb);replace HOP:=h_ (HOP.out.below hb);replace HD:=dB HD hb;have hsz4:=HD.out.size;clear hw hb hkk hs1;obtain⟨c0,c1,c2,c3⟩:=cl4 HBt.out;refine wp_region_lit ?_
 iterate 6 (refine wpList_plain rfl fun K0 hK0=>?_;go_simp;refine hK0 _ _ ?_;clear hK0)
 refine wpList_plain rfl fun K0 hK0=>?_
 refine wp_build_any 50 _ _ rfl _ (by simp only[List.map_toArray,List.map_cons,List.map_nil];rfl) (build_fun ⟨t.text.toArray⟩ (t.line:Nat) (t.col:Nat) _) ?_;refine hK0 _ _ ?_;clear hK0;refine wpList_plain rfl fun K0 hK0=>?_
 go_simp
 refine hK0 _ _ ?_;clear hK0;refine wpList_plain rfl fun K0 hK0=>?_
 refine wp_store_row 50 (.tmp 6) (.tmp 16) rfl w4.heap.size #[.string ⟨t.text.toArray⟩,.slice none 0 0,.string ⟨#[]⟩,.int .i64 0,.bool false,.int .i64 0,.string ⟨#[]⟩,.string ⟨#[]⟩,.bool false,.slice none 0 0,.slice none 0 0,.int .i64 0,.int .i64 0,.int .i64 0,.int .i64 0,.int .i64 0,.string ⟨#[]⟩,.string ⟨#[]⟩,.bool false,.slice none 0 0,.slice none 0 0,.int .i64 0,.int .i64 0,.int .i64 (t.line:Nat),.int .i64 (t.col:Nat)] rfl rfl 50 _ (heap_alloc_last w4 _) (by kernel_rfl) rfl (by simp[Value.oneCell']) ?_;rw[World.setRow_alloc_new];refine hK0 _ _ ?_;clear hK0;clear c0 c1 c2 c3
 obtain⟨w5,kf,hw,hkk,hb,hs1,HBf⟩:=newb w4 #[.string ⟨t.text.toArray⟩,.slice none 0 0,.string ⟨#[]⟩,.int .i64 0,.bool false,.int .i64 0,.string ⟨#[]⟩,.string ⟨#[]⟩,.bool false,.slice none 0 0,.slice none 0 0,.int .i64 0,.int .i64 0,.int .i64 0,.int .i64 0,.int .i64 0,.string ⟨#[]⟩,.string ⟨#[]⟩,.bool false,.slice none 0 0,.slice none 0 0,.int .i64 0,.int .i64 0,.int .i64 (t.line:Nat),.int .i64 (t.col:Nat)] 50;have hgf:g<kf:=by rw[hkk];exact HP.out.lt
 have hef:w.heap.size<=kf:=by omega
 have hb_f:=lk_ hkk HBb;have hr_f:=lk_ hkk HBr;have ht_f:=lk_ hkk HBt;rw[hw,<-hkk];replace HBb:=kB hb HBb;replace HBr:=kB hb HBr;replace HBt:=kB hb HBt;replace HP:=h_ (HP.out.below hb);replace HOP:=h_ (HOP.out.below hb);replace HD:=dB HD hb;have hsz5:=HD.out.size;clear hw hb hkk hs1;have c0:=cell_at (v:=.pointer (some ⟨g,0,none⟩)) HBb.out 0 rfl;go_wp2_with fail
 clear c0;obtain⟨w6,kq1,hw,hkk,hb,hs1,HBq1⟩:=newb w5 #[.string ⟨#[40]⟩] 9;have hgq1:g<kq1:=by rw[hkk];exact HP.out.lt
 have heq1:w.heap.size<=kq1:=by omega
 have hb_q1:=lk_ hkk HBb;have hr_q1:=lk_ hkk HBr;have ht_q1:=lk_ hkk HBt;have hf_q1:=lk_ hkk HBf;rw[hw,<-hkk];replace HBb:=kB hb HBb;replace HBr:=kB hb HBr;replace HBt:=kB hb HBt;replace HBf:=kB hb HBf;replace HP:=h_ (HP.out.below hb);replace HOP:=h_ (HOP.out.below hb);replace HD:=dB HD hb;have hsz6:=HD.out.size;clear hw hb hkk hs1;refine (expect_p g (s.counted count 20) [[40]] kq1 w6 HP.out HBq1.out (by omega) (by decide)).mono ?_;rintro e w7 ⟨⟨v,rfl⟩,hp,hg⟩;replace HBb:=kG hg HBb;replace HBr:=kG hg HBr;replace HBt:=kG hg HBt;replace HBf:=kG hg HBf;replace HBq1:=kG hg HBq1;replace HOP:=h_ (HOP.out.grown hg (by omega));replace HP:=h_ hp;replace HD:=dG HD (hg);have hsz7:=HD.out.size;clear hp hg;have c0:=cell_at (v:=.pointer (some ⟨g,0,none⟩)) HBb.out 0 rfl;go_wp2_with fail
 have HFP:Hid (FPost w7 g kf (kf+1) (fun b=>w.heap.size<=b/\b≠kf/\b≠kb/\b≠kr) t.text t.line t.col [] ((s.counted count 20).exp [40]) w7):=h_ ⟨[],none,0,rfl,HP.out,HBf.out,El.Row.nil _ _ _,Kept.refl _ _ _ _⟩;have hlf:=lt_of_block HBf.out;refine (flist_p m n hn g kf kb (kf+1) (fun b=>w.heap.size<=b/\b≠kf/\b≠kb/\b≠kr) t.text t.line t.col _ ra w7 HOP.out (by omega) (by omega) rfl (by omega) HBb.out (fun h=>by have h:=h.1;omega) (fun h=>h.2.1 rfl) (fun b hb=>⟨by omega,by omega,by omega,by omega⟩) HFP.out HM.out).mono ?_;rintro e w8 ⟨⟨v,rfl⟩,qs,ko,kc,hqs,hp,hf,hrow,hk⟩;clear c0;replace HBb:=kK hk HBb (by omega) (by omega) (by omega);replace HBr:=kK hk HBr (by omega) (by omega) (by omega)
 replace HBf:Hid (w8.heap[kf]?=some (.cells #[.string ⟨t.text.toArray⟩,.slice ko qs.length kc,.string ⟨#[]⟩,.int .i64 0,.bool false,.int .i64 0,.string ⟨#[]⟩,.string ⟨#[]⟩,.bool false,.slice none 0 0,.slice none 0 0,.int .i64 0,.int .i64 0,.int .i64 0,.int .i64 0,.int .i64 0,.string ⟨#[]⟩,.string ⟨#[]⟩,.bool false,.slice none 0 0,.slice none 0 0,.int .i64 0,.int .i64 0,.int .i64 (t.line:Nat),.int .i64 (t.col:Nat)] 50 (0,0))):=h_ hf;replace HOP:=h_ (HOP.out.kept hk (by omega) (by omega));replace HD:=dK hk HD (by omega) (by omega);have hsz8:=HD.out.size;replace HP:=h_ hp;have HRp:=h_ hrow;have HQS:=h_ hqs;clear hqs hp hf hrow hk HFP hlf HBt;have c0:=cell_at (v:=.pointer (some ⟨g,0,none⟩)) HBb.out 0 rfl;go_wp2_with fail
 clear c0;obtain⟨w9,kq2,hw,hkk,hb,hs1,HBq2⟩:=newb w8 #[.string ⟨#[58]⟩] 9;have hgq2:g<kq2:=by rw[hkk];exact HP.out.lt
 have heq2:w.heap.size<=kq2:=by omega
 have hb_q2:=lk_ hkk HBb;have hr_q2:=lk_ hkk HBr;have hf_q2:=lk_ hkk HBf;rw[hw,<-hkk];replace HRp:=h_ (HRp.out.below hb);replace HBb:=kB hb HBb;replace HBr:=kB hb HBr;replace HBf:=kB hb HBf;replace HP:=h_ (HP.out.below hb);replace HOP:=h_ (HOP.out.below hb);replace HD:=dB HD hb;have hsz9:=HD.out.size;clear hw hb hkk hs1;refine (expect_p g ra.2 [[58]] kq2 w9 HP.out HBq2.out (by omega) (by decide)).mono ?_;rintro e w10 ⟨⟨v,rfl⟩,hp,hg⟩;replace HRp:=h_ (HRp.out.grown hg (by omega) (fun h=>by omega));replace HBb:=kG hg HBb;replace HBr:=kG hg HBr;replace HBf:=kG hg HBf;replace HBq2:=kG hg HBq2;replace HOP:=h_ (HOP.out.grown hg (by omega));replace HP:=h_ hp;replace HD:=dG HD (hg);have hsz10:=HD.out.size;clear hp hg;have c0:=cell_at (v:=.pointer (some ⟨g,0,none⟩)) HBb.out 0 rfl;go_wp2_with fail
 obtain⟨Ny,hN⟩:∃ k,k=w10.heap.size:=⟨_,rfl⟩
 have hb_Ny:kb<Ny:=by rw[hN];exact lt_of_block HBb.out
 have hr_Ny:kr<Ny:=by rw[hN];exact lt_of_block HBr.out
 have hf_Ny:kf<Ny:=by rw[hN];exact lt_of_block HBf.out
 have hg_Ny:g<Ny:=by rw[hN];exact HP.out.lt
 have he_Ny:w.heap.size<=Ny:=by omega
 refine (result_p n hn g _ rt w10 HP.out HOP.out HTT.out).mono ?_;rintro e w11 ⟨xy,rfl,hu,hp,hg⟩;clear c0;replace HRp:=h_ (HRp.out.grown hg (by omega) (fun h=>by omega));replace HBb:=kG hg HBb;replace HBr:=kG hg HBr;replace HBf:=kG hg HBf;replace HOP:=h_ (HOP.out.grown hg (by omega));replace HP:=h_ hp;replace HD:=dG HD (hg);rw[<-hN] at hu;have HUy:=h_ (hu.mono (S':=fun b=>Ny<=b/\True) (fun b h=>⟨h,trivial⟩));clear hN hu;clear hp hg;obtain⟨yk,ynm,yot,yb,yao,yn,yq,yko,ykn,ykc,yln,ycl⟩:=xy;simp only[pmV];obtain⟨c0,c1,c2,c3,c4,c5,c6,c7,c8,c9,c10,c11,c12,c13,c14,c15,c16,c17,c18,c19,c20,c21,c22,c23,c24⟩:=cl25 HBf.out;obtain⟨fc0,fc1,fc2,fc3,fc4,fc5,fc6,fc7,fc8,fc9,fc10,fc11,fc12,fc13,fc14,fc15,fc16,fc17,fc18,fc19,fc20,fc21,fc22,fc23,fc24⟩:=fr25 HBf.out;go_upto_region 7 with fail
 obtain⟨w12,hw⟩:∃ x,x=w11.setCells kf 2 [.string ⟨rt.1.nm.toArray⟩,.int .i64 (rt.1.b:Nat),.bool rt.1.kn,.int .i64 yk,.string ynm,.string yot,.bool yb,.slice yao yn yq,.slice yko ykn ykc,.int .i64 yln,.int .i64 ycl,.int .i64 (rt.1.ln:Nat),.int .i64 (rt.1.cl:Nat)]:=⟨_,rfl⟩
 have hg:w11.grownBy w12 (some kf):=by rw[hw];exact setCells_grown _ _ _ _
 have hv:=put_same [.string ⟨rt.1.nm.toArray⟩,.int .i64 (rt.1.b:Nat),.bool rt.1.kn,.int .i64 yk,.string ynm,.string yot,.bool yb,.slice yao yn yq,.slice yko ykn ykc,.int .i64 yln,.int .i64 ycl,.int .i64 (rt.1.ln:Nat),.int .i64 (rt.1.cl:Nat)] w11 kf 2 _ _ HBf.out (Nat.le_of_ble_eq_true rfl);rw[<-hw] at hv
 rw[show ((((((((((((w11.setCell ⟨kf,2,none⟩ (.string ⟨rt.1.nm.toArray⟩)).setCell ⟨kf,3,none⟩ (.int .i64 (rt.1.b:Nat))).setCell ⟨kf,4,none⟩ (.bool rt.1.kn)).setCell ⟨kf,5,none⟩ (.int .i64 yk)).setCell ⟨kf,6,none⟩ (.string ynm)).setCell ⟨kf,7,none⟩ (.string yot)).setCell ⟨kf,8,none⟩ (.bool yb)).setCell ⟨kf,9,none⟩ (.slice yao yn yq)).setCell ⟨kf,10,none⟩ (.slice yko ykn ykc)).setCell ⟨kf,11,none⟩ (.int .i64 yln)).setCell ⟨kf,12,none⟩ (.int .i64 ycl)).setCell ⟨kf,13,none⟩ (.int .i64 (rt.1.ln:Nat))).setCell ⟨kf,14,none⟩ (.int .i64 (rt.1.cl:Nat))=w12 from hw.symm];clear c0 fc0 c1 fc1 c2 fc2 c3 fc3 c4 fc4 c5 fc5 c6 fc6 c7 fc7 c8 fc8 c9 fc9 c10 fc10 c11 fc11 c12 fc12 c13 fc13 c14 fc14 c15 fc15 c16 fc16 c17 fc17 c18 fc18 c19 fc19 c20 fc20 c21 fc21 c22 fc22 c23 fc23 c24 fc24;replace HP:=h_ (HP.out.store HBf.out (by decide) (by omega) hg)
 replace HRp:=h_ (HRp.out.grown hg (by omega) (fun h=>by omega));replace HBb:=kG hg HBb;replace HBr:=kG hg HBr;replace HUy:=h_ (HUy.out.grown hg (fun h=>by omega));replace HOP:=h_ (HOP.out.grown hg (by omega));replace HD:=dN HD hg (by omega);have hsz12:=HD.out.size;replace HBf:Hid (w12.heap[kf]?=some (.cells #[.string ⟨t.text.toArray⟩,.slice ko qs.length kc,.string ⟨rt.1.nm.toArray⟩,.int .i64 (rt.1.b:Nat),.bool rt.1.kn,.int .i64 yk,.string ynm,.string yot,.bool yb,.slice yao yn yq,.slice yko ykn ykc,.int .i64 yln,.int .i64 ycl,.int .i64 (rt.1.ln:Nat),.int .i64 (rt.1.cl:Nat),.int .i64 0,.string ⟨#[]⟩,.string ⟨#[]⟩,.bool false,.slice none 0 0,.slice none 0 0,.int .i64 0,.int .i64 0,.int .i64 (t.line:Nat),.int .i64 (t.col:Nat)] 50 (0,0))):=h_ hv;clear hw hg hv;have c0:=cell_at (v:=.pointer (some ⟨g,0,none⟩)) HBb.out 0 rfl
 go_wp2_with fail
 clear c0;obtain⟨w13,kq3,hw,hkk,hb,hs1,HBq3⟩:=newb w12 #[.string ⟨#[61]⟩] 9;have hgq3:g<kq3:=by rw[hkk];exact HP.out.lt
 have heq3:w.heap.size<=kq3:=by omega
 have hb_q3:=lk_ hkk HBb;have hr_q3:=lk_ hkk HBr;have hf_q3:=lk_ hkk HBf;replace HUy:=h_ (HUy.out.offk hkk);rw[hw,<-hkk];replace HRp:=h_ (HRp.out.below hb);replace HBb:=kB hb HBb;replace HBr:=kB hb HBr;replace HBf:=kB hb HBf;replace HP:=h_ (HP.out.below hb);replace HUy:=h_ (HUy.out.below hb);replace HOP:=h_ (HOP.out.below hb);replace HD:=dB HD hb;have hsz13:=HD.out.size;clear hw hb hkk hs1;refine (expect_p g rt.2 [[61]] kq3 w13 HP.out HBq3.out (by omega) (by decide)).mono ?_;rintro e w14 ⟨⟨v,rfl⟩,hp,hg⟩;replace HRp:=h_ (HRp.out.grown hg (by omega) (fun h=>by omega));replace HBb:=kG hg HBb;replace HBr:=kG hg HBr;replace HBf:=kG hg HBf;replace HBq3:=kG hg HBq3;replace HUy:=h_ (HUy.out.grown hg (fun h=>by omega));replace HOP:=h_ (HOP.out.grown hg (by omega));replace HP:=h_ hp;replace HD:=dG HD (hg);have hsz14:=HD.out.size;clear hp hg
 have c0:=cell_at (v:=.pointer (some ⟨g,0,none⟩)) HBb.out 0 rfl;go_wp2_with fail
 obtain⟨Nz,hN⟩:∃ k,k=w14.heap.size:=⟨_,rfl⟩
 have hb_Nz:kb<Nz:=by rw[hN];exact lt_of_block HBb.out
 have hr_Nz:kr<Nz:=by rw[hN];exact lt_of_block HBr.out
 have hf_Nz:kf<Nz:=by rw[hN];exact lt_of_block HBf.out
 have hg_Nz:g<Nz:=by rw[hN];exact HP.out.lt
 have he_Nz:w.heap.size<=Nz:=by omega
 refine (complete_p n hn g _ q w14 HP.out HOP.out HQ.out).mono ?_;rintro e w15 ⟨xz,rfl,hu,hp,hg⟩;clear c0;replace HRp:=h_ (HRp.out.grown hg (by omega) (fun h=>by omega));replace HBb:=kG hg HBb;replace HBr:=kG hg HBr;replace HBf:=kG hg HBf;replace HUy:=h_ (HUy.out.grown hg (fun h=>by omega));replace HOP:=h_ (HOP.out.grown hg (by omega));replace HP:=h_ hp;replace HD:=dG HD (hg);rw[<-hN] at hu;have HUz:=h_ (hu.mono (S':=fun b=>Nz<=b/\True) (fun b h=>⟨h,trivial⟩));clear hN hu;clear hp hg;obtain⟨zk,znm,zot,zb,zao,zn,zq,zko,zkn,zkc,zln,zcl⟩:=xz;simp only[xv];obtain⟨c0,c1,c2,c3,c4,c5,c6,c7,c8,c9,c10,c11,c12,c13,c14,c15,c16,c17,c18,c19,c20,c21,c22,c23,c24⟩:=cl25 HBf.out
 obtain⟨fc0,fc1,fc2,fc3,fc4,fc5,fc6,fc7,fc8,fc9,fc10,fc11,fc12,fc13,fc14,fc15,fc16,fc17,fc18,fc19,fc20,fc21,fc22,fc23,fc24⟩:=fr25 HBf.out;go_upto_region 9 with fail
 obtain⟨w16,hw⟩:∃ x,x=w15.setCells kf 15 [.int .i64 zk,.string znm,.string zot,.bool zb,.slice zao zn zq,.slice zko zkn zkc,.int .i64 zln,.int .i64 zcl]:=⟨_,rfl⟩
 have hg:w15.grownBy w16 (some kf):=by rw[hw];exact setCells_grown _ _ _ _
 have hv:=put_same [.int .i64 zk,.string znm,.string zot,.bool zb,.slice zao zn zq,.slice zko zkn zkc,.int .i64 zln,.int .i64 zcl] w15 kf 15 _ _ HBf.out (Nat.le_of_ble_eq_true rfl);rw[<-hw] at hv;rw[show (((((((w15.setCell ⟨kf,15,none⟩ (.int .i64 zk)).setCell ⟨kf,16,none⟩ (.string znm)).setCell ⟨kf,17,none⟩ (.string zot)).setCell ⟨kf,18,none⟩ (.bool zb)).setCell ⟨kf,19,none⟩ (.slice zao zn zq)).setCell ⟨kf,20,none⟩ (.slice zko zkn zkc)).setCell ⟨kf,21,none⟩ (.int .i64 zln)).setCell ⟨kf,22,none⟩ (.int .i64 zcl)=w16 from hw.symm];clear c0 fc0 c1 fc1 c2 fc2 c3 fc3 c4 fc4 c5 fc5 c6 fc6 c7 fc7 c8 fc8 c9 fc9 c10 fc10 c11 fc11 c12 fc12 c13 fc13 c14 fc14 c15 fc15 c16 fc16 c17 fc17 c18 fc18 c19 fc19 c20 fc20 c21 fc21 c22 fc22 c23 fc23 c24 fc24;replace HP:=h_ (HP.out.store HBf.out (by decide) (by omega) hg)
 replace HRp:=h_ (HRp.out.grown hg (by omega) (fun h=>by omega));replace HBb:=kG hg HBb;replace HBr:=kG hg HBr;replace HUy:=h_ (HUy.out.grown hg (fun h=>by omega));replace HUz:=h_ (HUz.out.grown hg (fun h=>by omega));replace HOP:=h_ (HOP.out.grown hg (by omega));replace HD:=dN HD hg (by omega);replace HBf:Hid (w16.heap[kf]?=some (.cells #[.string ⟨t.text.toArray⟩,.slice ko qs.length kc,.string ⟨rt.1.nm.toArray⟩,.int .i64 (rt.1.b:Nat),.bool rt.1.kn,.int .i64 yk,.string ynm,.string yot,.bool yb,.slice yao yn yq,.slice yko ykn ykc,.int .i64 yln,.int .i64 ycl,.int .i64 (rt.1.ln:Nat),.int .i64 (rt.1.cl:Nat),.int .i64 zk,.string znm,.string zot,.bool zb,.slice zao zn zq,.slice zko zkn zkc,.int .i64 zln,.int .i64 zcl,.int .i64 (t.line:Nat),.int .i64 (t.col:Nat)] 50 (0,0))):=h_ hv;clear hw hg hv;refine wp_region_lit ?_
 refine wpList_plain rfl fun K0 hK0=>?_
 refine wp_load_row 50 (.tmp 6) rfl ⟨kf,0,none⟩ rfl [.string ⟨t.text.toArray⟩,.slice ko qs.length kc,.string ⟨rt.1.nm.toArray⟩,.int .i64 (rt.1.b:Nat),.bool rt.1.kn,.int .i64 yk,.string ynm,.string yot,.bool yb,.slice yao yn yq,.slice yko ykn ykc,.int .i64 yln,.int .i64 ycl,.int .i64 (rt.1.ln:Nat),.int .i64 (rt.1.cl:Nat),.int .i64 zk,.string znm,.string zot,.bool zb,.slice zao zn zq,.slice zko zkn zkc,.int .i64 zln,.int .i64 zcl,.int .i64 (t.line:Nat),.int .i64 (t.col:Nat)] _ (fun j v hv=>by rw[add_lit,Nat.zero_add];exact cell_at HBf.out j (by rw[gsa];exact hv)) Tryz.underlying50 rfl (by kernel_rfl) ?_;refine hK0 _ _ ?_;clear hK0
 obtain⟨wz,hw⟩:∃ x,x=w16.setRow kr #[.string ⟨t.text.toArray⟩,.slice ko qs.length kc,.string ⟨rt.1.nm.toArray⟩,.int .i64 (rt.1.b:Nat),.bool rt.1.kn,.int .i64 yk,.string ynm,.string yot,.bool yb,.slice yao yn yq,.slice yko ykn ykc,.int .i64 yln,.int .i64 ycl,.int .i64 (rt.1.ln:Nat),.int .i64 (rt.1.cl:Nat),.int .i64 zk,.string znm,.string zot,.bool zb,.slice zao zn zq,.slice zko zkn zkc,.int .i64 zln,.int .i64 zcl,.int .i64 (t.line:Nat),.int .i64 (t.col:Nat)]:=⟨_,rfl⟩
 refine wpList_plain rfl fun K0 hK0=>?_
 refine wp_store_row 50 (.tmp 4) (.tmp 35) rfl kr #[.string ⟨t.text.toArray⟩,.slice ko qs.length kc,.string ⟨rt.1.nm.toArray⟩,.int .i64 (rt.1.b:Nat),.bool rt.1.kn,.int .i64 yk,.string ynm,.string yot,.bool yb,.slice yao yn yq,.slice yko ykn ykc,.int .i64 yln,.int .i64 ycl,.int .i64 (rt.1.ln:Nat),.int .i64 (rt.1.cl:Nat),.int .i64 zk,.string znm,.string zot,.bool zb,.slice zao zn zq,.slice zko zkn zkc,.int .i64 zln,.int .i64 zcl,.int .i64 (t.line:Nat),.int .i64 (t.col:Nat)] rfl rfl 50 _ HBr.out (by kernel_rfl) rfl (by simp[Value.oneCell']) ?_;rw[<-hw];refine hK0 _ _ ?_;clear hK0;have hg:w16.grownBy wz (some kr):=by rw[hw];exact grown_setRow _ _ _
 have hv:wz.heap[kr]?=some (.cells #[.string ⟨t.text.toArray⟩,.slice ko qs.length kc,.string ⟨rt.1.nm.toArray⟩,.int .i64 (rt.1.b:Nat),.bool rt.1.kn,.int .i64 yk,.string ynm,.string yot,.bool yb,.slice yao yn yq,.slice yko ykn ykc,.int .i64 yln,.int .i64 ycl,.int .i64 (rt.1.ln:Nat),.int .i64 (rt.1.cl:Nat),.int .i64 zk,.string znm,.string zot,.bool zb,.slice zao zn zq,.slice zko zkn zkc,.int .i64 zln,.int .i64 zcl,.int .i64 (t.line:Nat),.int .i64 (t.col:Nat)] 50 (0,0)):=by rw[hw];exact setRow_heap _ _ _ _ _ _ HBr.out
 replace HP:=h_ (HP.out.store HBr.out (by decide) (by omega) hg);replace HRp:=h_ (HRp.out.grown hg (by omega) (fun h=>by omega));replace HBb:=kG hg HBb;replace HBf:=kG hg HBf;replace HUy:=h_ (HUy.out.grown hg (fun h=>by omega));replace HUz:=h_ (HUz.out.grown hg (fun h=>by omega));replace HOP:=h_ (HOP.out.grown hg (by omega));replace HD:=dN HD hg (by omega);have hsz16:=HD.out.size;have HBr:=h_ hv;clear hw hg hv;go_wp2_with fail
 refine bodyPost_ret (v:=.agg #[.string ⟨t.text.toArray⟩,.slice ko qs.length kc,.string ⟨rt.1.nm.toArray⟩,.int .i64 (rt.1.b:Nat),.bool rt.1.kn,.int .i64 yk,.string ynm,.string yot,.bool yb,.slice yao yn yq,.slice yko ykn ykc,.int .i64 yln,.int .i64 ycl,.int .i64 (rt.1.ln:Nat),.int .i64 (rt.1.cl:Nat),.int .i64 zk,.string znm,.string zot,.bool zb,.slice zao zn zq,.slice zko zkn zkc,.int .i64 zln,.int .i64 zcl,.int .i64 (t.line:Nat),.int .i64 (t.col:Nat)]) (res_cell Tryz.results35 (by rfl) [.string ⟨t.text.toArray⟩,.slice ko qs.length kc,.string ⟨rt.1.nm.toArray⟩,.int .i64 (rt.1.b:Nat),.bool rt.1.kn,.int .i64 yk,.string ynm,.string yot,.bool yb,.slice yao yn yq,.slice yko ykn ykc,.int .i64 yln,.int .i64 ycl,.int .i64 (rt.1.ln:Nat),.int .i64 (rt.1.cl:Nat),.int .i64 zk,.string znm,.string zot,.bool zb,.slice zao zn zq,.slice zko zkn zkc,.int .i64 zln,.int .i64 zcl,.int .i64 (t.line:Nat),.int .i64 (t.col:Nat)] (fun j v hv=>by rw[add_lit,Nat.zero_add];exact cell_at HBr.out j (by rw[gsa];exact hv)) Tryz.underlying50 rfl (by kernel_rfl)) rfl ?_
 exact⟨⟨yk,ynm,yot,yb,yao,yn,yq,yko,ykn,ykc,yln,ycl⟩,⟨zk,znm,zot,zb,zao,zn,zq,zko,zkn,zkc,zln,zcl⟩,.slice ko qs.length kc,by have hnt:=HNt.out;subst hnt;rfl,(HUy.out.mono (fun b h=>by have h:(Ny<=b/\True)/\b≠kq3:=h;show _<=b;omega)),(HUz.out.mono (fun b h=>by have h:Nz<=b/\True:=h;show _<=b;omega)),⟨qs,HQS.out,HRp.out.at (fun b h=>h.1) (fun b h=>by show _<=b;omega)⟩,HP.out,HD.out⟩
theorem PmsAt.keep {w w':World} {S:Nat->Prop} {v:Value} {ps:List PmU} (hk:∀ g,S g->w'.heap[g]?=w.heap[g]?) (h:PmsAt w S v ps):PmsAt w' S v ps:=by obtain⟨qs,h1,h2⟩:=h;exact⟨qs,h1,El.At.keep hk h2⟩
theorem PmsAt.mono {w:World} {S S':Nat->Prop} {v:Value} {ps:List PmU} (hs:∀ g,S g->S' g) (h:PmsAt w S v ps):PmsAt w S' v ps:=by obtain⟨qs,h1,h2⟩:=h;exact⟨qs,h1,El.At.mono hs h2⟩
theorem PmsAt.lt {w:World} {S:Nat->Prop} {v:Value} {ps:List PmU} (h:PmsAt w S v ps):PmsAt w (fun g=>S g/\g<w.heap.size) v ps:=by obtain⟨qs,h1,h2⟩:=h;exact⟨qs,h1,El.At.lt h2⟩
theorem PmsAt.one {w:World} {S:Nat->Prop} {v:Value} {ps:List PmU} (h:PmsAt w S v ps):v.oneCell'=true:=by obtain⟨qs,h1,ko,kc,rfl,-⟩:=h;rfl
structure Qd where
 q:QlU
 v:Value
 x:X
structure Fd where
 q:FnU
 v:Value
 x:X
 y:X
def qlE:El Qd where
 e:=69
 n:=12
 f a:=if a.v.oneCell' then qlC a.q a.v a.x else List.replicate 12 (.bool false)
 R w S a:=a.v.oneCell'=true/\Um w S a.x a.q.body/\PmsAt w S a.v a.q.ps
 pos:=by decide
 len a:=by split;rfl;rfl
 one a:=by
  intro u hu
  split at hu
  ·rename_i h
   simp only[qlC,List.mem_cons,List.not_mem_nil,or_false] at hu;rcases hu with rfl | rfl | rfl | rfl | rfl | rfl | rfl | rfl | rfl | rfl | rfl | rfl<;>first | rfl | exact h
  rw[List.eq_of_mem_replicate hu];rfl
 keep h k:=⟨k.1,k.2.1.keep h,k.2.2.keep h⟩
 mono h k:=⟨k.1,k.2.1.mono h,k.2.2.mono h⟩
 lt k:=⟨k.1,k.2.1.lt,k.2.2.lt⟩
 noAt:=by decide
def fnE:El Fd where
 e:=50
 n:=25
 f a:=if a.v.oneCell' then fnC a.q a.v a.x a.y else List.replicate 25 (.bool false)
 R w S a:=a.v.oneCell'=true/\Um w S a.x a.q.res.ref/\Um w S a.y a.q.body/\PmsAt w S a.v a.q.ps
 pos:=by decide
 len a:=by split;rfl;rfl
 one a:=by
  intro u hu
  split at hu
  ·rename_i h
   simp only[fnC,List.mem_cons,List.not_mem_nil,or_false] at hu;rcases hu with rfl | rfl | rfl | rfl | rfl | rfl | rfl | rfl | rfl | rfl | rfl | rfl | rfl | rfl | rfl | rfl | rfl | rfl | rfl | rfl | rfl | rfl | rfl | rfl | rfl<;>first | rfl | exact h
  rw[List.eq_of_mem_replicate hu];rfl
 keep h k:=⟨k.1,k.2.1.keep h,k.2.2.1.keep h,k.2.2.2.keep h⟩
 mono h k:=⟨k.1,k.2.1.mono h,k.2.2.1.mono h,k.2.2.2.mono h⟩
 lt k:=⟨k.1,k.2.1.lt,k.2.2.1.lt,k.2.2.2.lt⟩
 noAt:=by decide
theorem infoQual:(Tryz.prog.info? 69).map (fun i=>(i.zero,i.size,i.bytes))=some (some (.agg #[.string ⟨#[]⟩,.slice none 0 0,.int .i64 0,.string ⟨#[]⟩,.string ⟨#[]⟩,.bool false,.slice none 0 0,.slice none 0 0,.int .i64 0,.int .i64 0,.int .i64 0,.int .i64 0]),12,168):=by kernel_rfl
theorem infoFun:(Tryz.prog.info? 50).map (fun i=>(i.zero,i.size,i.bytes))=some (some (.agg #[.string ⟨#[]⟩,.slice none 0 0,.string ⟨#[]⟩,.int .i64 0,.bool false,.int .i64 0,.string ⟨#[]⟩,.string ⟨#[]⟩,.bool false,.slice none 0 0,.slice none 0 0,.int .i64 0,.int .i64 0,.int .i64 0,.int .i64 0,.int .i64 0,.string ⟨#[]⟩,.string ⟨#[]⟩,.bool false,.slice none 0 0,.slice none 0 0,.int .i64 0,.int .i64 0,.int .i64 0,.int .i64 0]),25,328):=by kernel_rfl
section
variable {α β:Type} {E:El α} {F:El β}
def Two (E:El α) (F:El β) (w:World) (B:Nat) (S:Nat->Prop) (v:Value) (el:List α) (u:Value) (fl:List β):Prop:=
 E.Row w B (fun b=>S b/\u.ownBlock≠some b) v el/\F.Row w B (fun b=>S b/\v.ownBlock≠some b) u fl/\∀ j,v.ownBlock=some j->u.ownBlock≠some j
theorem Two.nil (w:World) (B:Nat) (S:Nat->Prop):Two E F w B S (.slice none 0 0) [] (.slice none 0 0) []:=⟨El.Row.nil _ _ _,El.Row.nil _ _ _,fun j h=>by cases h⟩
theorem Two.swap {w:World} {B:Nat} {S:Nat->Prop} {v u:Value} {el:List α} {fl:List β} (h:Two E F w B S v el u fl):Two F E w B S u fl v el:=⟨h.2.1,h.1,fun j h1 h2=>h.2.2 j h2 h1⟩
theorem Two.grown {w w':World} {B g:Nat} {S:Nat->Prop} {v u:Value} {el:List α} {fl:List β} (h:Two E F w B S v el u fl) (hg:w.grownBy w' (some g)) (h1:g<B) (h2:¬ S g):Two E F w' B S v el u fl:=
 ⟨h.1.grown hg h1 (fun h=>h2 h.1),h.2.1.grown hg h1 (fun h=>h2 h.1),h.2.2⟩
theorem Two.append {w:World} {B:Nat} {S:Nat->Prop} {v u:Value} {el:List α} {fl:List β} (h:Two E F w B S v el u fl) {ops:Array Oper} {rest:List Oper} {o:Oper} {a:Act} {Q:Exit->Act->World->Prop} (hgd:o.guard=none) (s x:Operand) (t:TypeId)
  (ho:o.op=.call { callee:=.builtin .append,args:=#[s,x],argTypes:=#[t,t] }) (ht:Tryz.prog.underlying t=some (.slice E.e)) {z:Value} {bytes:Nat} (hinfo:(Tryz.prog.info? E.e).map (fun i=>(i.zero,i.size,i.bytes))=some (some z,E.n,bytes)) (hzs:z.cells.size=E.n) (hby:bytes<=1000)
  (hs:a.eval s=v) (c:α) (k:Nat) (T:TypeId) (hx:a.eval x=.slice (some ⟨k,0,none⟩) 1 1) (hc:w.heap[k]?=some (.cells (E.f c).toArray T (0,0))) (hu:E.R w (fun b=>(S b/\u.ownBlock≠some b)/\v.ownBlock≠some b) c) (hlen:el.length<=1000000) (hB:B<=w.heap.size)
  (hK:∀ v' w',Two E F w' B S v' (el++[c]) u fl->w.grownBy w' v.ownBlock->wpList Tryz.prog ops Q rest (a.put o.dst v') w'):wpList Tryz.prog ops Q (o::rest) a w:=by
 obtain⟨hE,hF,hn⟩:=h;refine wpList_append_el w hgd s x t ho E.e ht hinfo hzs E.pos hby B v el.length (el.flatMap E.f) hs hE.1 k T (E.f c) (E.len c) (E.one c) hx hc hlen hB fun v' w' h1 h2 h3=>hK v' w' ⟨⟨?_,?_⟩,⟨?_,?_⟩,?_⟩ h2
 ·rw[lsa,List.flatMap_append];simpa using h1
 ·have key:∀ q,E.R w (fun b=>(S b/\u.ownBlock≠some b)/\v.ownBlock≠some b) q->E.R w' (fun b=>(S b/\u.ownBlock≠some b)/\v'.ownBlock≠some b) q:=fun q hq =>
   E.mono (S:=fun b=>((S b/\u.ownBlock≠some b)/\v.ownBlock≠some b)/\b<w.heap.size) (fun b hb=>⟨hb.1.1,fun e=>by rcases h3 b e with h | h;exact hb.1.2 h;omega⟩) (E.keep (fun g hg=>h2.block g hg.2 (fun e=>hg.1.2 e.symm)) (E.lt hq))
  intro q hq;rcases List.mem_append.1 hq with hq | hq
  ·exact key q (hE.2 q hq)
  rw[List.mem_singleton] at hq;subst hq;exact key _ hu
 ·refine World.ownsRow.kept hF.1 h2 ?_
  cases hv:u.ownBlock with
  | none=>exact .inl rfl
  | some j=>exact .inr (fun e=>hn j e.symm hv)
 ·intro q hq;exact F.mono (S:=fun b=>((S b/\v.ownBlock≠some b)/\u.ownBlock≠some b)/\b<w.heap.size) (fun b hb=>⟨⟨hb.1.1.1,fun e=>by rcases h3 b e with h | h;exact hb.1.1.2 h;omega⟩,hb.1.2⟩) (F.keep (fun g hg=>h2.block g hg.2 (fun e=>hg.1.1.2 e.symm)) (F.lt (hF.2 q hq)))
 intro j hj hu';rcases h3 j hj with h | h
 ·exact hn j h hu'
 have:=(hF.ge hu').2;omega
end
end Go.Proofs.YtkocdbgmckdcpaaGreatDoor
