/-
 Joined texts: PsB,PsC,PsD,PsF,PsG.
-/
import Derived.Deep.MidRow
import Derived.Test.YtpclhpfcbjgokaaGreatDoorJScopeChecks1
set_option maxHeartbeats 32000000
namespace Go.Proofs.YtpclhpfcbjgokaaGreatDoor
open Go.RowKit
set_option maxRecDepth 100000
set_option linter.unusedVariables false
theorem field_text (a c d:Int) (l:ByteArray) (w:World):(Instr.field 103 (.agg #[.int .i64 a,.string l,.int .i64 c,.int .i64 d]) 1).run Tryz.prog w=.ok (.string l) w:=by kernel_rfl
theorem Did.trans {w w1 w2:World} {g:Nat} {s1 s2:St} (h:Did w g s1 w1) (k:Did w1 g s2 w2):Did w g s2 w2:=⟨k.1,grown_tr h.2 k.2⟩
theorem Did.of_below {w w':World} {g:Nat} {s:St} (h:PS w g s) (hb:Below w.heap.size w w'):Did w g s w':=⟨h.below hb,below_grown hb _⟩
theorem accept_p (g:Nat) (s:St) (l:Bs) (w:World) (h:PS w g s) :
  Calls Tryz.prog 30 #[.pointer (some ⟨g,0,none⟩),.string ⟨l.toArray⟩] w fun e w'=>e=.returned (.bool (s.is l))/\Did w g (s.acc l) w':=by
 have HP:=h_ h;clear h
 cases hq:(s.nx.text==l)
 ·have hn:=hq;have HI:Hid (s.is l=false/\s.acc l=s):=h_ (by have e:s.is l=false:=hq;exact⟨e,by unfold St.acc;rw[e];rfl⟩);clear hq;go_enter Tryz.func30,Tryz.ntmps30
  go_wp2_with fail
  refine (next_p g s w HP.out).mono ?_;rintro e w2 ⟨rfl,hb⟩;have HP2:=h_ (Did.of_below HP.out hb);clear hb;simp only[tokV];have hf:=field_text (s.nx.kind:Nat) (s.nx.line:Nat) (s.nx.col:Nat) ⟨s.nx.text.toArray⟩ w2;go_wp2_with fail
  go_ret
  rw[HI.out.1,HI.out.2];exact⟨rfl,HP2.out⟩
 have hn:=hq;have HI:Hid (s.is l=true/\s.acc l=s.tk):=h_ (by have e:s.is l=true:=hq;exact⟨e,by unfold St.acc;rw[e];rfl⟩);clear hq;go_enter Tryz.func30,Tryz.ntmps30
 go_wp2_with fail
 refine (next_p g s w HP.out).mono ?_;rintro e w2 ⟨rfl,hb⟩;have HP2:=h_ (Did.of_below HP.out hb);clear hb;simp only[tokV];have hf:=field_text (s.nx.kind:Nat) (s.nx.line:Nat) (s.nx.col:Nat) ⟨s.nx.text.toArray⟩ w2;go_wp2_with fail
 refine (take_p g s w2 HP2.out.1).mono ?_;rintro e w3 ⟨rfl,hd⟩;have HP3:=h_ (HP2.out.trans hd);clear hd;go_wp2_with fail
 go_ret
 rw[HI.out.1,HI.out.2];exact⟨rfl,HP3.out⟩

theorem PSA.fail {w':World} {g b o c:Nat} {ev:Value} {s:St} {x:Option (Nat × Nat × Nat)} (hg:w'.heap[g]?=some (.cells #[.slice (some ⟨b,o+(s.rest.length - 1)*4,none⟩) 1 (c - (s.rest.length - 1)),ev] 99 (0,0))) (h2:GoodL s.rest) (h3:s.rest.length<=c) (h4:c<=maxLen) (h5:b<g) (h6:b<w'.heap.size) (h7:Toks w' b o s.rest) (h8:ErrAt w' g ev x):PSA w' g ⟨s.rest.drop (s.rest.length - 1),x⟩:=by
 obtain⟨e,q1,q2,q3⟩:=h2.last;have hl:=List.length_pos_iff.2 h2.ne;have hd:=h7.drop (s.rest.length - 1);rw[Nat.mul_comm 4] at hd;refine⟨b,o+(s.rest.length - 1)*4,c - (s.rest.length - 1),ev,?_,?_,?_,Nat.le_trans (Nat.sub_le _ _) h4,h5,h6,hd,h8⟩
 ·rw[hg];simp only[List.length_drop];rw[show s.rest.length - (s.rest.length - 1)=1 by omega]
 ·have:=h2;clear hg h7 hd h8 q1 q2 q3 h3 hl;generalize s.rest=l at *
  induction l with
  | nil=>exact absurd this id
  | cons t ts ih =>
   match ts,this,ih with
   | [],this,_=>exact this
   | u::us,this,ih =>
    have:=ih this.2.2 this.2.2;simp only[lsc,Nat.add_sub_cancel] at this ⊢;rw[List.drop_succ_cons];exact this
 simp only[List.length_drop];omega
theorem fail_yes (g:Nat) (s:St) (t:Tok) (ec:Nat) (w:World) (h:PS w g s) (he:s.err=none) :
  Calls Tryz.prog 34 #[.pointer (some ⟨g,0,none⟩),tokV t,.iface 34 (.int .i64 (ec:Nat))] w fun e w'=>(∃ v,e=.returned v)/\Did w g (s.fail t ec) w':=by
 have hl:=List.length_pos_iff.2 h.good.ne;have hlen2:=h_ h.2;simp only[tokV];obtain⟨w1,hw⟩:∃ x,x=w.alloc (.cells #[.int .i64 (t.kind:Nat),.string ⟨t.text.toArray⟩,.int .i64 (t.line:Nat),.int .i64 (t.col:Nat)] 103):=⟨_,rfl⟩
 have hb:Below w.heap.size w w1:=by rw[hw];exact (Below.refl _ _).alloc (Nat.le_refl _) _
 have hk:w1.heap[w.heap.size]?=some (.cells #[.int .i64 (t.kind:Nat),.string ⟨t.text.toArray⟩,.int .i64 (t.line:Nat),.int .i64 (t.col:Nat)] 103 (0,0)):=by rw[hw];exact made_at w _ _ rfl
 have HW:=h_ hw;obtain⟨k1,hkk⟩:∃ k,k=w.heap.size:=⟨_,rfl⟩
 have HKK:=h_ hkk;have hg1:g<k1:=by rw[hkk];exact h.lt
 have he1:w.heap.size<=k1:=by omega
 rw[<-hkk] at hk;have HB1:=h_ hk;have HD:=h_ (below_grown hb (some g));have hsz:=hb.size;obtain⟨b,o,c,ev,h1,h2,h3,h4,h5,-,-,-,-,h6,h7,h8,h9⟩:=(h.below hb).1.cells;clear hw hb hk hkk h h2;have hlen:s.rest.length<=9223372036854775807:=by unfold maxLen at h4;omega
 have hcc:c<=9223372036854775807:=by unfold maxLen at h4;omega
 obtain⟨rest,err⟩:=s;simp only at he hl hlen h1 h3 h7 h8 h9;subst he;have hev:ev=.nilIface:=h9;subst hev;have p0:=cell_at (v:=.slice (some ⟨b,o,none⟩) rest.length c) h1 0 rfl;have p1:=cell_at (v:=.nilIface) h1 1 rfl;have fp0:=froz_at h1 0;have fp1:=froz_at h1 1;have HG:=h_ h1;have HT:=h_ h8;have HL:=h_ h7;clear h1 h7 h8 h9;obtain⟨x0,x1,x2,x3⟩:=cl4 HB1.out;generalize hn:rest.length=n at *;have HN:=h_ hn;clear hn;go_enter Tryz.func34,Tryz.ntmps34
 go_upto_region 1 with fail
 rw[<-HW.out,<-HKK.out];clear x0 x1 x2 x3;obtain⟨w2,hw2⟩:∃ x,x=w1.alloc (.cells #[.int .i64 (t.line:Nat),.int .i64 (t.col:Nat),.iface 34 (.int .i64 (ec:Nat))] 86):=⟨_,rfl⟩
 have hb2:Below w1.heap.size w1 w2:=by rw[hw2];exact (Below.refl _ _).alloc (Nat.le_refl _) _
 have hq2:w2.heap[w1.heap.size]?=some (.cells #[.int .i64 (t.line:Nat),.int .i64 (t.col:Nat),.iface 34 (.int .i64 (ec:Nat))] 86 (0,0)):=by rw[hw2];exact made_at w1 _ _ rfl
 have hg2:=(hb2.block _ (lt_of_block HG.out)).trans HG.out;have h12:=(hb2.block _ (lt_of_block HB1.out)).trans HB1.out;have y1:=cell_at (v:=.nilIface) hg2 1 rfl;have fy1:=froz_at hg2 1;have y0:=cell_at (v:=.slice (some ⟨b,o,none⟩) n c) hg2 0 rfl;obtain⟨x0,x1,x2,x3⟩:=cl4 HB1.out;have hq:g<w1.heap.size:=lt_of_block HG.out;obtain⟨q,hqq⟩:∃ q,q=w1.heap.size:=⟨_,rfl⟩
 have HQ:=h_ hq2;have HG2:=h_ hg2;have HB2:=h_ hb2;have HW2:=h_ hw2;have HQQ:=h_ hqq;have hgq:g<q:=by rw[hqq];exact hq
 rw[hw2] at y1 fy1 y0;clear hb2 hq2 hg2 h12 hw2 hqq hq;go_upto_region 3 with fail
 rw[<-HW2.out,<-HQQ.out];obtain⟨w3,hw⟩:∃ x,x=w2.setCell ⟨g,1,none⟩ (.iface 81 (.pointer (some ⟨q,0,none⟩))):=⟨_,rfl⟩
 have hg:w2.grownBy w3 (some g):=by rw[hw];exact grown_set _ g 1 _
 have hgb:w3.heap[g]?=some (.cells #[.slice (some ⟨b,o,none⟩) n c,.iface 81 (.pointer (some ⟨q,0,none⟩))] 99 (0,0)):=by rw[hw,heap_setCell_same _ g 1 _ _ _ HG2.out];rfl
 have hD3:w.grownBy w3 (some g):=grown_tr (grown_tr HD.out (below_grown HB2.out _)) hg
 have hq3:AtB w3 q (t.line,t.col) (.iface 34 (.int .i64 (ec:Nat))):=by
  have:=HQ.out;rw[<-HQQ.out] at this;unfold AtB;rw[hg.block q (lt_of_block this) (fun e=>by injection e with e;omega)];exact this
 have hT3:Toks w3 b o rest:=(HT.out.keep (w':=w3) ((hg.block b (Nat.lt_of_lt_of_le h6 HB2.out.size) (fun e=>by injection e with e;omega)).trans (HB2.out.block b h6)))
 have hb3:b<w3.heap.size:=Nat.lt_of_lt_of_le (Nat.lt_of_lt_of_le h6 HB2.out.size) hg.size;rw[<-hw];have HG3:=h_ hgb;have HD3:=h_ hD3;have HQ3:=h_ hq3;have HT3:=h_ hT3;clear hw hg hgb hD3 hq3 hT3 y0 y1 fy1 x0 x1 x2 x3 p0 p1 fp0 fp1;have p0:=cell_at (v:=.slice (some ⟨b,o,none⟩) n c) HG3.out 0 rfl;have fp0:=froz_at HG3.out 0;have hi1:IntKind.i64.wrap ((n:Int) - 1)=(n:Int) - 1:=IntWalk.i64_in _ (by omega);have hi2:(1:Int)<=(n:Int):=by omega
 have hi3:((n:Int) - 1).toNat=n - 1:=by omega
 have hi4:¬ (c=n - 1):=by omega
 have hi5:n - 1<=n:=by omega
 have hi6:n - 1<=c:=by omega
 have hi7:(n:Int) - 1<=(n:Int):=by omega
 have hi8:n - (n - 1)=1:=by omega
 go_still_tail 14,(by kernel_rfl)
 clear hi1 hi2 hi3 hi4 hi5 hi6 hi7 hi8;change wpList _ _ _ _ _ w3.drew;obtain⟨w4,hw⟩:∃ x,x=w3.drew:=⟨_,rfl⟩
 have HG4:Hid (w4.heap[g]?=some (.cells #[.slice (some ⟨b,o,none⟩) n c,.iface 81 (.pointer (some ⟨q,0,none⟩))] 99 (0,0))):=h_ (by rw[hw];exact HG3.out);have HT4:Hid (Toks w4 b o rest):=h_ (by rw[hw];exact HT3.out.keep (w':=w3.drew) (by rfl));have HE4:=h_ (ErrAt.keep (w':=w4) (show ErrAt w3 g _ (some (ec,t.line,t.col)) from ⟨q,rfl,HQ3.out,by omega⟩) fun _ _ _=>by rw[hw];rfl);have HD4:Hid (w.grownBy w4 (some g)):=h_ (by rw[hw];exact grown_drew HD3.out);have hb4:b<w4.heap.size:=by rw[hw];exact hb3
 rw[<-hw];have q0:=cell_at (v:=.slice (some ⟨b,o,none⟩) n c) HG4.out 0 rfl;have fq0:=froz_at HG4.out 0;clear hw p0 fp0;go_wp2_with fail
 go_end0
 refine⟨⟨_,rfl⟩,?_,grown_tr HD4.out (grown_set _ g 0 _)⟩;have hgb:(w4.setCell ⟨g,0,none⟩ (.slice (some ⟨b,o+(n - 1)*4,none⟩) 1 (c - (n - 1)))).heap[g]?=some (.cells #[.slice (some ⟨b,o+(n - 1)*4,none⟩) 1 (c - (n - 1)),.iface 81 (.pointer (some ⟨q,0,none⟩))] 99 (0,0)):=by rw[heap_setCell_same _ g 0 _ _ _ HG4.out];rfl
 have hk:∀ q,q≠g->(w4.setCell ⟨g,0,none⟩ (.slice (some ⟨b,o+(n - 1)*4,none⟩) 1 (c - (n - 1)))).heap[q]?=w4.heap[q]?:=fun q h=>set1_other _ _ _ _ h
 refine⟨?_,Nat.le_trans (len_fail _ _ _) (show rest.length<=30000 by rw[HN.out];exact hlen2.out)⟩;unfold St.fail;refine PSA.fail (b:=b) (o:=o) (c:=c) (by rw[HN.out];exact hgb) HL.out (by rw[HN.out];exact h3) h4 h5 (by simp;exact hb4) (HT4.out.keep (hk b (by omega))) ?_;exact (HE4.out.keep fun q h _=>hk q h)
theorem fail_no (g:Nat) (s:St) (t:Tok) (ec:Nat) (w:World) (h:PS w g s) (he:s.err≠none) :
  Calls Tryz.prog 34 #[.pointer (some ⟨g,0,none⟩),tokV t,.iface 34 (.int .i64 (ec:Nat))] w fun e w'=>(∃ v,e=.returned v)/\Did w g (s.fail t ec) w':=by
 have hl:=List.length_pos_iff.2 h.good.ne;have hlen2:=h_ h.2;simp only[tokV];obtain⟨w1,hw⟩:∃ x,x=w.alloc (.cells #[.int .i64 (t.kind:Nat),.string ⟨t.text.toArray⟩,.int .i64 (t.line:Nat),.int .i64 (t.col:Nat)] 103):=⟨_,rfl⟩
 have hb:Below w.heap.size w w1:=by rw[hw];exact (Below.refl _ _).alloc (Nat.le_refl _) _
 have hk:w1.heap[w.heap.size]?=some (.cells #[.int .i64 (t.kind:Nat),.string ⟨t.text.toArray⟩,.int .i64 (t.line:Nat),.int .i64 (t.col:Nat)] 103 (0,0)):=by rw[hw];exact made_at w _ _ rfl
 have HW:=h_ hw;obtain⟨k1,hkk⟩:∃ k,k=w.heap.size:=⟨_,rfl⟩
 have HKK:=h_ hkk;have hg1:g<k1:=by rw[hkk];exact h.lt
 have he1:w.heap.size<=k1:=by omega
 rw[<-hkk] at hk;have HB1:=h_ hk;have HD:=h_ (below_grown hb (some g));have hsz:=hb.size;obtain⟨b,o,c,ev,h1,h2,h3,h4,h5,-,-,-,-,h6,h7,h8,h9⟩:=(h.below hb).1.cells;clear hw hb hk hkk h h2;have hlen:s.rest.length<=9223372036854775807:=by unfold maxLen at h4;omega
 have hcc:c<=9223372036854775807:=by unfold maxLen at h4;omega
 obtain⟨rest,err⟩:=s;simp only at he hl hlen h1 h3 h7 h8 h9;obtain⟨⟨xc,xl,xk⟩,rfl⟩:=Option.ne_none_iff_exists'.1 he;have HE:=h_ h9;obtain⟨q,hq,-,-⟩:=h9;subst hq;have p0:=cell_at (v:=.slice (some ⟨b,o,none⟩) rest.length c) h1 0 rfl;have p1:=cell_at (v:=.iface 81 (.pointer (some ⟨q,0,none⟩))) h1 1 rfl;have fp0:=froz_at h1 0;have fp1:=froz_at h1 1;have HG:=h_ h1;have HT:=h_ h8;have HL:=h_ h7;clear h1 h7 h8 he;obtain⟨x0,x1,x2,x3⟩:=cl4 HB1.out;generalize hn:rest.length=n at *;have HN:=h_ hn;clear hn;go_enter Tryz.func34,Tryz.ntmps34
 go_upto_region 1 with fail
 rw[<-HW.out,<-HKK.out];clear x0 x1 x2 x3;have HG3:=HG;have HD3:=HD;have HT3:=HT;have hb3:=h6;obtain⟨w3,hw3⟩:∃ x,x=w1:=⟨_,rfl⟩
 go_upto_region 3 with fail
 rw[<-hw3] at HG3 HD3 HT3 hb3 HE ⊢;clear hw3 p0 p1 fp0 fp1;have p0:=cell_at (v:=.slice (some ⟨b,o,none⟩) n c) HG3.out 0 rfl;have fp0:=froz_at HG3.out 0;have hi1:IntKind.i64.wrap ((n:Int) - 1)=(n:Int) - 1:=IntWalk.i64_in _ (by omega);have hi2:(1:Int)<=(n:Int):=by omega
 have hi3:((n:Int) - 1).toNat=n - 1:=by omega
 have hi4:¬ (c=n - 1):=by omega
 have hi5:n - 1<=n:=by omega
 have hi6:n - 1<=c:=by omega
 have hi7:(n:Int) - 1<=(n:Int):=by omega
 have hi8:n - (n - 1)=1:=by omega
 go_still_tail 14,(by kernel_rfl)
 clear hi1 hi2 hi3 hi4 hi5 hi6 hi7 hi8;change wpList _ _ _ _ _ w3.drew;obtain⟨w4,hw⟩:∃ x,x=w3.drew:=⟨_,rfl⟩
 have HG4:Hid (w4.heap[g]?=some (.cells #[.slice (some ⟨b,o,none⟩) n c,.iface 81 (.pointer (some ⟨q,0,none⟩))] 99 (0,0))):=h_ (by rw[hw];exact HG3.out);have HT4:Hid (Toks w4 b o rest):=h_ (by rw[hw];exact HT3.out.keep (w':=w3.drew) (by rfl));have HE4:=h_ (ErrAt.keep (w':=w4) (HE.out) fun _ _ _=>by rw[hw];rfl);have HD4:Hid (w.grownBy w4 (some g)):=h_ (by rw[hw];exact grown_drew HD3.out);have hb4:b<w4.heap.size:=by rw[hw];exact hb3
 rw[<-hw];have q0:=cell_at (v:=.slice (some ⟨b,o,none⟩) n c) HG4.out 0 rfl;have fq0:=froz_at HG4.out 0;clear hw p0 fp0;go_wp2_with fail
 go_end0
 refine⟨⟨_,rfl⟩,?_,grown_tr HD4.out (grown_set _ g 0 _)⟩;have hgb:(w4.setCell ⟨g,0,none⟩ (.slice (some ⟨b,o+(n - 1)*4,none⟩) 1 (c - (n - 1)))).heap[g]?=some (.cells #[.slice (some ⟨b,o+(n - 1)*4,none⟩) 1 (c - (n - 1)),.iface 81 (.pointer (some ⟨q,0,none⟩))] 99 (0,0)):=by rw[heap_setCell_same _ g 0 _ _ _ HG4.out];rfl
 have hk:∀ q,q≠g->(w4.setCell ⟨g,0,none⟩ (.slice (some ⟨b,o+(n - 1)*4,none⟩) 1 (c - (n - 1)))).heap[q]?=w4.heap[q]?:=fun q h=>set1_other _ _ _ _ h
 refine⟨?_,Nat.le_trans (len_fail _ _ _) (show rest.length<=30000 by rw[HN.out];exact hlen2.out)⟩;unfold St.fail;refine PSA.fail (b:=b) (o:=o) (c:=c) (by rw[HN.out];exact hgb) HL.out (by rw[HN.out];exact h3) h4 h5 (by simp;exact hb4) (HT4.out.keep (hk b (by omega))) ?_;exact (HE4.out.keep fun q h _=>hk q h)
theorem fail_p (g:Nat) (s:St) (t:Tok) (ec:Nat) (w:World) (h:PS w g s) :
  Calls Tryz.prog 34 #[.pointer (some ⟨g,0,none⟩),tokV t,.iface 34 (.int .i64 (ec:Nat))] w fun e w'=>(∃ v,e=.returned v)/\Did w g (s.fail t ec) w':=by
 by_cases he:s.err=none
 ·exact fail_yes g s t ec w h he
 exact fail_no g s t ec w h he
theorem name_p (g:Nat) (s:St) (w:World) (h:PS w g s) :
  Calls Tryz.prog 85 #[.pointer (some ⟨g,0,none⟩)] w fun e w'=>e=.returned (tokV s.nx)/\Did w g s.name w':=by
 have HP:=h_ h;clear h
 by_cases hk:s.nx.kind=0
 ·have hk0:((s.nx.kind:Int) != 0)=false:=by simp;omega
  have HY:Hid (s.name=s.tk):=h_ (by unfold St.name;rw[if_pos hk]);clear hk;go_enter Tryz.func85,Tryz.ntmps85
  go_upto_region 1 with fail
  obtain⟨w1,kr,hw,hkk,hb,-,HBr⟩:=newb w #[.int .i64 0,.string ⟨#[]⟩,.int .i64 0,.int .i64 0] 103;have hgr:g<kr:=by rw[hkk];exact HP.out.lt
  have her:w.heap.size<=kr:=by omega
  rw[hw,<-hkk];replace HP:=h_ (HP.out.below hb);have HD:=h_ (below_grown hb (some g));clear hw hb hkk;go_wp2_with fail
  refine (take_p g s w1 HP.out).mono ?_;rintro e w2 ⟨rfl,hp,hg⟩;replace HBr:=kG hg HBr;replace HP:=h_ hp;replace HD:=dG HD hg;have hsz2:=HD.out.size;clear hp hg;simp only[tokV];generalize hnx:s.nx=t at *;have HN:=h_ hnx;clear hnx;go_upto_region 2 with fail
  obtain⟨w3,kt,hw,hkk,hb,-,HBt⟩:=newb w2 #[.int .i64 (t.kind:Nat),.string ⟨t.text.toArray⟩,.int .i64 (t.line:Nat),.int .i64 (t.col:Nat)] 103;have hgt:g<kt:=by rw[hkk];exact HP.out.lt
  have het:w.heap.size<=kt:=by omega
  have hr_t:=lk_ hkk HBr;rw[hw,<-hkk];replace HBr:=kB hb HBr;replace HP:=h_ (HP.out.below hb);replace HD:=dB HD hb;have hsz3:=HD.out.size;clear hw hb hkk;obtain⟨x0,x1,x2,x3⟩:=cl4 HBt.out;obtain⟨z0,z1,z2,z3⟩:=cl4 HBr.out;obtain⟨fz0,fz1,fz2,fz3⟩:=fr4 HBr.out;go_wp2_with fail
  refine bodyPost_ret (v:=.agg #[.int .i64 (t.kind:Nat),.string ⟨t.text.toArray⟩,.int .i64 (t.line:Nat),.int .i64 (t.col:Nat)]) (by simp[results,Tryz.results85,go_sem,z0,z1,z2,z3]) rfl ⟨by rw[HN.out];rfl,?_,?_⟩
  ·rw[HY.out];exact HP.out.store HBr.out (by decide) hgr (grown4 _ _ _ _ _ _)
  exact grown_new HD.out (grown4 _ _ _ _ _ _) her
 have hk0:((s.nx.kind:Int) != 0)=true:=by simp;omega
 have HY:Hid (s.name=s.tk.fail s.nx 1):=h_ (by unfold St.name;rw[if_neg hk]);clear hk;go_enter Tryz.func85,Tryz.ntmps85
 go_upto_region 1 with fail
 obtain⟨w1,kr,hw,hkk,hb,-,HBr⟩:=newb w #[.int .i64 0,.string ⟨#[]⟩,.int .i64 0,.int .i64 0] 103;have hgr:g<kr:=by rw[hkk];exact HP.out.lt
 have her:w.heap.size<=kr:=by omega
 rw[hw,<-hkk];replace HP:=h_ (HP.out.below hb);have HD:=h_ (below_grown hb (some g));clear hw hb hkk;go_wp2_with fail
 refine (take_p g s w1 HP.out).mono ?_;rintro e w2 ⟨rfl,hp,hg⟩;replace HBr:=kG hg HBr;replace HP:=h_ hp;replace HD:=dG HD hg;have hsz2:=HD.out.size;clear hp hg;simp only[tokV];generalize hnx:s.nx=t at *;have HN:=h_ hnx;clear hnx;go_upto_region 2 with fail
 obtain⟨w3,kt,hw,hkk,hb,-,HBt⟩:=newb w2 #[.int .i64 (t.kind:Nat),.string ⟨t.text.toArray⟩,.int .i64 (t.line:Nat),.int .i64 (t.col:Nat)] 103;have hgt:g<kt:=by rw[hkk];exact HP.out.lt
 have het:w.heap.size<=kt:=by omega
 have hr_t:=lk_ hkk HBr;rw[hw,<-hkk];replace HBr:=kB hb HBr;replace HP:=h_ (HP.out.below hb);replace HD:=dB HD hb;clear hw hb hkk;obtain⟨x0,x1,x2,x3⟩:=cl4 HBt.out;go_wp2_with fail
 have hp0:=fail_p g s.tk t 1 w3 HP.out;simp only[tokV] at hp0;refine (hp0).mono ?_;rintro e w4 ⟨⟨v,rfl⟩,hp,hg⟩;clear x0 x1 x2 x3;replace HBr:=kG hg HBr;replace HBt:=kG hg HBt;replace HP:=h_ hp;replace HD:=dG HD hg;have hsz4:=HD.out.size;clear hp hg;clear hp0;obtain⟨x0,x1,x2,x3⟩:=cl4 HBt.out;obtain⟨z0,z1,z2,z3⟩:=cl4 HBr.out;obtain⟨fz0,fz1,fz2,fz3⟩:=fr4 HBr.out;go_wp2_with fail
 refine bodyPost_ret (v:=.agg #[.int .i64 (t.kind:Nat),.string ⟨t.text.toArray⟩,.int .i64 (t.line:Nat),.int .i64 (t.col:Nat)]) (by simp[results,Tryz.results85,go_sem,z0,z1,z2,z3]) rfl ⟨by rw[HN.out];rfl,?_,?_⟩
 ·rw[HY.out];exact HP.out.store HBr.out (by decide) hgr (grown4 _ _ _ _ _ _)
 exact grown_new HD.out (grown4 _ _ _ _ _ _) her
theorem finish_p (g:Nat) (s:St) (w:World) (h:PS w g s) :
  Calls Tryz.prog 16 #[.pointer (some ⟨g,0,none⟩)] w fun e w'=>∃ ev,e=.returned ev/\ErrAt w' g ev s.fin.err/\Did w g s.fin w':=by
 have HP:=h_ h;clear h
 by_cases hk:s.nx.kind=4
 ·have hk0:((s.nx.kind:Int) != 4)=false:=by simp;omega
  have HY:Hid (s.fin=s):=h_ (by unfold St.fin;rw[if_pos hk]);clear hk;go_enter Tryz.func16,Tryz.ntmps16
  go_wp2_with fail
  refine (next_p g s w HP.out).mono ?_;rintro e w1 ⟨rfl,hb⟩;replace HP:=h_ (HP.out.below hb);have HD:=h_ (below_grown hb (some g));have hsz1:=HD.out.size;clear hb;simp only[tokV];generalize hnx:s.nx=t at *;have HN:=h_ hnx;clear hnx;go_upto_region 2 with fail
  obtain⟨w2,kt,hw,hkk,hb,-,HBt⟩:=newb w1 #[.int .i64 (t.kind:Nat),.string ⟨t.text.toArray⟩,.int .i64 (t.line:Nat),.int .i64 (t.col:Nat)] 103;have hgt:g<kt:=by rw[hkk];exact HP.out.lt
  have het:w.heap.size<=kt:=by omega
  rw[hw,<-hkk];replace HP:=h_ (HP.out.below hb);replace HD:=dB HD hb;have hsz2:=HD.out.size;clear hw hb hkk;obtain⟨x0,x1,x2,x3⟩:=cl4 HBt.out;obtain⟨b,o,c,ev,h1,h2,h3,h4,h5,-,-,-,-,h6,h7,h8,h9⟩:=HP.out.1.cells;have p1:=cell_at (v:=ev) h1 1 rfl;have HE:=h_ h9;clear h1 h7 h8 h9;go_wp2_with fail
  go_ret
  refine⟨ev,rfl,?_,?_,HD.out⟩
  ·rw[HY.out];exact HE.out
  rw[HY.out];exact HP.out
 have hk0:((s.nx.kind:Int) != 4)=true:=by simp;omega
 have HY:Hid (s.fin=s.fail s.nx 1):=h_ (by unfold St.fin;rw[if_neg hk]);clear hk;go_enter Tryz.func16,Tryz.ntmps16
 go_wp2_with fail
 refine (next_p g s w HP.out).mono ?_;rintro e w1 ⟨rfl,hb⟩;replace HP:=h_ (HP.out.below hb);have HD:=h_ (below_grown hb (some g));have hsz1:=HD.out.size;clear hb;simp only[tokV];generalize hnx:s.nx=t at *;have HN:=h_ hnx;clear hnx;go_upto_region 2 with fail
 obtain⟨w2,kt,hw,hkk,hb,-,HBt⟩:=newb w1 #[.int .i64 (t.kind:Nat),.string ⟨t.text.toArray⟩,.int .i64 (t.line:Nat),.int .i64 (t.col:Nat)] 103;have hgt:g<kt:=by rw[hkk];exact HP.out.lt
 have het:w.heap.size<=kt:=by omega
 rw[hw,<-hkk];replace HP:=h_ (HP.out.below hb);replace HD:=dB HD hb;clear hw hb hkk;obtain⟨x0,x1,x2,x3⟩:=cl4 HBt.out;go_wp2_with fail
 have hp0:=fail_p g s t 1 w2 HP.out;simp only[tokV] at hp0;refine (hp0).mono ?_;rintro e w3 ⟨⟨v,rfl⟩,hp,hg⟩;clear x0 x1 x2 x3;replace HBt:=kG hg HBt;replace HP:=h_ hp;replace HD:=dG HD hg;have hsz3:=HD.out.size;clear hp hg;clear hp0;obtain⟨b,o,c,ev,h1,h2,h3,h4,h5,-,-,-,-,h6,h7,h8,h9⟩:=HP.out.1.cells;have p1:=cell_at (v:=ev) h1 1 rfl;have HE:=h_ h9;clear h1 h7 h8 h9;go_wp2_with fail
 go_ret
 refine⟨ev,rfl,?_,?_,HD.out⟩
 ·rw[HY.out];exact HE.out
 rw[HY.out];exact HP.out
theorem exps_take (s:St) (ws:List Bs) (j:Nat) (h:j<ws.length):s.exps (ws.take (j+1))=(s.exps (ws.take j)).exp ws[j]:=by
 unfold St.exps;rw[List.take_succ_eq_append_getElem h,List.foldl_append];rfl
theorem expect_p (g:Nat) (s:St) (ws:List Bs) (q:Nat) (w:World) (h:PS w g s) (hq:w.heap[q]?=some (.cells (ws.map fun b=>Value.string ⟨b.toArray⟩).toArray 9 (0,0))) (hgq:g≠q) (hl:ws.length<=1000) :
  Calls Tryz.prog 55 #[.pointer (some ⟨g,0,none⟩),.slice (some ⟨q,0,none⟩) ws.length ws.length] w fun e w'=>(∃ v,e=.returned v)/\Did w g (s.exps ws) w':=by
 have HP:=h_ h;have HQ:=h_ hq;clear h hq;generalize hn:ws.length=n at *;have HN:=h_ hn;clear hn;go_enter Tryz.func55,Tryz.ntmps55
 go_wp2_with fail
 go_loopw [8] (fun i wr=>∃ j:Nat,i=.int .i64 (j:Nat)/\j<=n/\Hid (Did w g (s.exps (ws.take j)) wr)) (fun i _=>n - (intOf i).toNat)
 case atStart=>exact⟨0,rfl,Nat.zero_le _,h_ ⟨HP.out,World.grownBy.refl _ _⟩⟩
 case round =>
  obtain⟨j,rfl,hj,HDj⟩:=hrel
  by_cases hlt:j<n
  ·have hjl:j<ws.length:=by rw[HN.out];exact hlt
   have hc:=cell_at (v:=.string ⟨(ws[j]).toArray⟩) (((HDj.out.2.block q (lt_of_block HQ.out) (fun e=>by injection e with e;exact hgq e.symm)).trans HQ.out)) j (by simp[hjl]);have HS:=h_ (exps_take s ws j hjl);obtain⟨l,hL⟩:∃ l,l=ws[j]:=⟨_,rfl⟩
   rw[<-hL] at HS hc;clear hL;obtain⟨sj,hsj⟩:∃ sj,sj=s.exps (ws.take j):=⟨_,rfl⟩
   rw[<-hsj] at HDj HS;clear hsj;go_wp2_with fail
   refine (accept_p g sj l wr HDj.out.1).mono ?_;rintro e w2 ⟨rfl,hd⟩;have HD2:=h_ (HDj.out.trans hd);clear hd hc
   cases hi:sj.is l
   ·have HX:Hid (sj.exp l=sj.fail sj.nx 1/\sj.acc l=sj):=h_ (by unfold St.exp St.acc;rw[hi];exact⟨rfl,rfl⟩);rw[HX.out.2] at HD2;clear hi;go_wp2_with fail
    refine (next_p g sj w2 HD2.out.1).mono ?_;rintro e w3 ⟨rfl,hb⟩;have HD3:=h_ (HD2.out.trans (Did.of_below HD2.out.1 hb));clear hb;go_wp2_with fail
    refine (fail_p g sj sj.nx 1 w3 HD3.out.1).mono ?_;rintro e w4 ⟨⟨v,rfl⟩,hd⟩;have HD4:=h_ (HD3.out.trans hd);clear hd;go_wp2_with fail
    go_roundw
    case rel=>exact⟨j+1,by go_num,by omega,h_ (by rw[HS.out,HX.out.1];exact HD4.out)⟩
    case measure=>simp[intOf];omega
   ·have HX:Hid (sj.exp l=sj.tk/\sj.acc l=sj.tk):=h_ (by unfold St.exp St.acc;rw[hi];exact⟨rfl,rfl⟩);rw[HX.out.2] at HD2;clear hi;go_wp2_with fail
    go_roundw
    case rel=>exact⟨j+1,by go_num,by omega,h_ (by rw[HS.out,HX.out.1];exact HD2.out)⟩
    case measure=>simp[intOf];omega
  have e:j=n:=by omega
  subst e;go_wp2_with fail
  go_end0
  refine⟨⟨_,rfl⟩,?_⟩;have:=HDj.out;rw[<-HN.out,List.take_length] at this;exact this
theorem part_p (k:Nat) (t:Tok) (ko:Option Addr) (n c:Nat) (w:World) :
  Calls Tryz.prog 89 #[.int .i64 (k:Nat),tokV t,.slice ko n c] w fun e w'=>e=.returned (xv ⟨(k:Nat),⟨#[]⟩,⟨#[]⟩,false,none,0,0,ko,n,c,(t.line:Nat),(t.col:Nat)⟩)/\Below w.heap.size w w':=by
 simp only[tokV,xv];go_enter Tryz.func89,Tryz.ntmps89
 go_wp2
 exact bodyPost_ret (v:=.agg #[.int .i64 (k:Nat),.string ⟨#[]⟩,.string ⟨#[]⟩,.bool false,.slice none 0 0,.slice ko n c,.int .i64 (t.line:Nat),.int .i64 (t.col:Nat)]) (by simp[results,Tryz.results89,go_sem]) rfl ⟨rfl,((Below.refl _ _).alloc (Nat.le_refl _) _).alloc (by simp) _⟩
theorem run_loadAt_row {P:Program} (w:World) (p:Addr) (ty:TypeId) (cs:List Value) (d:TypeDesc) (hc:∀ j v,cs[j]?=some v->w.cell? (p.add j)=some v)
  (hu:P.underlying ty=some d) (hd:d.isRow=true) (hi:(P.info? ty).map (·.size)=some cs.length) :
  (Instr.loadAt ty (.pointer (some p))).run P w=.ok (.agg cs.toArray) w:=by
 have hl:=run_loadCells_list (P:=P) w p cs hc
 cases hq:P.info? ty with
 | none=>simp[hq] at hi
 | some i =>
  have hs:i.size=cs.length:=by simpa [hq] using hi
  have hagg:(isAgg ty).run P w=.ok true w:=by
   unfold isAgg;rw[Sem.run_bind,run_underlying hu w]
   cases d<;>simp_all
  simp[Instr.loadAt,Instr.sureAddr,loadVar,Sem.run_bind,hagg,sizeOf,typeInfo,hq,hs,hl]
theorem wp_load_row {P:Program} {op:Oper} {a:Act} {w:World} {K:Act->World->Prop} {Q:Exit->Act->World->Prop} (ty:TypeId) (x:Operand) (ho:op.op=.load ty x)
  (p:Addr) (hx:a.eval x=.pointer (some p)) (cs:List Value) (d:TypeDesc) (hc:∀ j v,cs[j]?=some v->w.cell? (p.add j)=some v)
  (hu:P.underlying ty=some d) (hd:d.isRow=true) (hi:(P.info? ty).map (·.size)=some cs.length)
  (h:K (a.put op.dst (.agg cs.toArray)) w):op.wp P a w K Q:=by
 unfold Oper.wp execOp;simp only[ho,hx,Sem.run_bind,Sem.run_pure,Result.andThen_ok,run_loadAt_row w p ty cs d hc hu hd hi];exact h
theorem named_p (k:Nat) (t:Tok) (ko:Option Addr) (n c:Nat) (w:World) :
  Calls Tryz.prog 113 #[.int .i64 (k:Nat),tokV t,.slice ko n c] w fun e w'=>e=.returned (xv ⟨(k:Nat),⟨t.text.toArray⟩,⟨#[]⟩,false,none,0,0,ko,n,c,(t.line:Nat),(t.col:Nat)⟩)/\Below w.heap.size w w':=by
 have hp:=fun w=>part_p k t ko n c w
 simp only[tokV,xv] at hp ⊢;have HPt:=h_ hp;clear hp;go_enter Tryz.func113,Tryz.ntmps113
 go_upto_region 1 with fail
 obtain⟨w1,hw1⟩:∃ x,x=w.alloc (.cells #[.int .i64 (t.kind:Nat),.string ⟨t.text.toArray⟩,.int .i64 (t.line:Nat),.int .i64 (t.col:Nat)] 103):=⟨_,rfl⟩
 obtain⟨w2,hw2⟩:∃ x,x=w1.alloc (.cells #[.int .i64 0,.string ⟨#[]⟩,.string ⟨#[]⟩,.bool false,.slice none 0 0,.slice none 0 0,.int .i64 0,.int .i64 0] 48):=⟨_,rfl⟩
 have hb1:Below w.heap.size w w1:=by rw[hw1];exact (Below.refl _ _).alloc (Nat.le_refl _) _
 have hs1:w1.heap.size=w.heap.size+1:=by rw[hw1];simp
 have hb2:Below w1.heap.size w1 w2:=by rw[hw2];exact (Below.refl _ _).alloc (Nat.le_refl _) _
 have ht1:w1.heap[w.heap.size]?=some (.cells #[.int .i64 (t.kind:Nat),.string ⟨t.text.toArray⟩,.int .i64 (t.line:Nat),.int .i64 (t.col:Nat)] 103 (0,0)):=by rw[hw1];exact made_at w _ _ rfl
 have hr2:w2.heap[w.heap.size+1]?=some (.cells #[.int .i64 0,.string ⟨#[]⟩,.string ⟨#[]⟩,.bool false,.slice none 0 0,.slice none 0 0,.int .i64 0,.int .i64 0] 48 (0,0)):=by rw[hw2,<-hs1];exact made_at w1 _ _ rfl
 have ht2:=(hb2.block _ (lt_of_block ht1)).trans ht1;rw[<-hw1,<-hw2];obtain⟨kt,hkt⟩:∃ k,k=w.heap.size:=⟨_,rfl⟩
 obtain⟨kr,hkr⟩:∃ k,k=w.heap.size+1:=⟨_,rfl⟩
 have hBB:Below w.heap.size w w2:=hb1.trans (hb2.mono hb1.size);rw[<-hkt] at ht2 hkr ⊢;rw[<-hkt,<-hkr] at hr2;rw[<-hkr];have HT:=h_ ht2;have HR:=h_ hr2;have HB:=h_ hBB;have hlt:kt<kr:=by omega
 have hN:w.heap.size<=kt:=by omega
 clear hw1 hw2 hb1 hb2 ht1 ht2 hr2 hBB hkt hkr hs1;obtain⟨x0,x1,x2,x3⟩:=cl4 HT.out;go_wp2_with fail
 refine (HPt.out w2).mono ?_;rintro e w3 ⟨rfl,hb⟩;have HT3:=kB hb HT;have HR3:=kB hb HR;have HB3:=bw_ HB hb;clear hb x0 x1 x2 x3;go_upto_region 2 with fail
 obtain⟨w4,hw4⟩:∃ x,x=w3.alloc (.cells #[.int .i64 (k:Nat),.string ⟨#[]⟩,.string ⟨#[]⟩,.bool false,.slice none 0 0,.slice ko n c,.int .i64 (t.line:Nat),.int .i64 (t.col:Nat)] 48):=⟨_,rfl⟩
 have hb4:Below w3.heap.size w3 w4:=by rw[hw4];exact (Below.refl _ _).alloc (Nat.le_refl _) _
 have hv4:w4.heap[w3.heap.size]?=some (.cells #[.int .i64 (k:Nat),.string ⟨#[]⟩,.string ⟨#[]⟩,.bool false,.slice none 0 0,.slice ko n c,.int .i64 (t.line:Nat),.int .i64 (t.col:Nat)] 48 (0,0)):=by rw[hw4];exact made_at w3 _ _ rfl
 rw[<-hw4];obtain⟨kv,hkv⟩:∃ k,k=w3.heap.size:=⟨_,rfl⟩
 have hlv:kr<kv:=by rw[hkv];exact lt_of_block HR3.out
 rw[<-hkv] at hv4 ⊢;have HT4:=kB hb4 HT3;have HR4:=kB hb4 HR3;have HB4:=h_ (HB3.out.trans (hb4.mono HB3.out.size));have HV4:=h_ hv4;clear hw4 hb4 hv4 hkv;have x1:=cell_at (v:=.string ⟨t.text.toArray⟩) HT4.out 1 rfl;have v1:=cell_at (v:=.string ⟨#[]⟩) HV4.out 1 rfl;have fv1:=froz_at HV4.out 1;go_upto_region 3 with fail
 obtain⟨w5,hw5⟩:∃ x,x=w4.setCell ⟨kv,1,none⟩ (.string ⟨t.text.toArray⟩):=⟨_,rfl⟩
 have hg5:w4.grownBy w5 (some kv):=by rw[hw5];exact grown_set _ kv 1 _
 have hv5:w5.heap[kv]?=some (.cells #[.int .i64 (k:Nat),.string ⟨t.text.toArray⟩,.string ⟨#[]⟩,.bool false,.slice none 0 0,.slice ko n c,.int .i64 (t.line:Nat),.int .i64 (t.col:Nat)] 48 (0,0)):=by rw[hw5,heap_setCell_same _ kv 1 _ _ _ HV4.out];rfl
 have hr5:=(hg5.block kr (lt_of_block HR4.out) (fun e=>by injection e with e;omega)).trans HR4.out;have hB5:Below w.heap.size w w5:=HB4.out.trans (grown_below hg5 HB4.out.size (by omega));rw[<-hw5];have HV5:=h_ hv5;have HR5:=h_ hr5;have HB5:=h_ hB5;clear hw5 hg5 hv5 hr5 hB5 x1 v1 fv1;obtain⟨v0,v1,v2,v3,v4,v5,v6,v7⟩:=cl8 HV5.out;obtain⟨z0,z1,z2,z3,z4,z5,z6,z7⟩:=cl8 HR5.out;obtain⟨f0,f1,f2,f3,f4,f5,f6,f7⟩:=fr8 HR5.out;go_wp2_with fail
 exact bodyPost_ret (v:=.agg #[.int .i64 (k:Nat),.string ⟨t.text.toArray⟩,.string ⟨#[]⟩,.bool false,.slice none 0 0,.slice ko n c,.int .i64 (t.line:Nat),.int .i64 (t.col:Nat)]) (by simp[results,Tryz.results113,go_sem,z0,z1,z2,z3,z4,z5,z6,z7]) rfl ⟨rfl,st8_below HB5.out (by omega) _ _ _ _ _ _ _ _⟩
theorem unary_p (l:Bs) (w:World) :
  Calls Tryz.prog 103 #[.string ⟨l.toArray⟩] w fun e w'=>e=.returned (.tuple #[.int .i64 (((unOf l).getD 0:Nat)),.bool (unOf l).isSome])/\w'=w:=by
 by_cases h1:l=[45]
 ·subst h1;go_enter Tryz.func103,Tryz.ntmps103
  go_wp2
  go_ret2
  exact⟨rfl,rfl⟩
 by_cases h2:l=[110,111,116]
 ·subst h2;go_enter Tryz.func103,Tryz.ntmps103
  go_wp2
  go_ret2
  exact⟨rfl,rfl⟩
 by_cases h3:l=[108,101,110]
 ·subst h3;go_enter Tryz.func103,Tryz.ntmps103
  go_wp2
  go_ret2
  exact⟨rfl,rfl⟩
 by_cases h4:l=[104,100]
 ·subst h4;go_enter Tryz.func103,Tryz.ntmps103
  go_wp2
  go_ret2
  exact⟨rfl,rfl⟩
 by_cases h5:l=[116,108]
 ·subst h5;go_enter Tryz.func103,Tryz.ntmps103
  go_wp2
  go_ret2
  exact⟨rfl,rfl⟩
 have HU:Hid (unOf l=none):=h_ (by unfold unOf;rw[if_neg h1,if_neg h2,if_neg h3,if_neg h4,if_neg h5]);have e1:(l==[45])=false:=by simpa using h1
 have e2:(l==[110,111,116])=false:=by simpa using h2
 have e3:(l==[108,101,110])=false:=by simpa using h3
 have e4:(l==[104,100])=false:=by simpa using h4
 have e5:(l==[116,108])=false:=by simpa using h5
 clear h1 h2 h3 h4 h5;go_enter Tryz.func103,Tryz.ntmps103
 go_wp2
 go_ret2
 rw[HU.out];exact⟨rfl,rfl⟩
def opC (op:Bop):List Value:=[.string ⟨op.sign.toArray⟩,.int .i64 (op.kind:Nat),.int .i64 (op.level:Nat),.int .i64 (op.left:Nat),.int .i64 (op.right:Nat)]
def opV (o:Option Bop):Value:=match o with
 | some op=>.agg #[.string ⟨op.sign.toArray⟩,.int .i64 (op.kind:Nat),.int .i64 (op.level:Nat),.int .i64 (op.left:Nat),.int .i64 (op.right:Nat)]
 | none=>.agg #[.string ⟨#[]⟩,.int .i64 0,.int .i64 0,.int .i64 0,.int .i64 0]
def OpsAt (w:World):Prop:=∀ j v,(bops.flatMap opC)[j]?=some v->w.cell? ⟨2,j,none⟩=some v
theorem OpsAt.below {w w':World} (h:OpsAt w) (hb:Below w.heap.size w w'):OpsAt w':=fun j v hv=>by rw[hb.cell (cell_lt (h j v hv))];exact h j v hv
theorem OpsAt.grown {w w':World} {g:Nat} (h:OpsAt w) (hg:w.grownBy w' (some g)) (hn:2<g):OpsAt w':=fun j v hv=>by
 have hl:=cell_lt (h j v hv);rw[World.cell?_of_block (hg.block _ hl (fun e=>by injection e with e;simp only at e;omega))];exact h j v hv
theorem idx_op0 (w:World):(Instr.index 188 (.agg (bops.flatMap opC).toArray) (.int .i64 ((0:Nat):Int))).run Tryz.prog w=.ok (opV (some (bops[0]'(by decide)))) w:=by kernel_rfl
theorem idx_op1 (w:World):(Instr.index 188 (.agg (bops.flatMap opC).toArray) (.int .i64 ((1:Nat):Int))).run Tryz.prog w=.ok (opV (some (bops[1]'(by decide)))) w:=by kernel_rfl
theorem idx_op2 (w:World):(Instr.index 188 (.agg (bops.flatMap opC).toArray) (.int .i64 ((2:Nat):Int))).run Tryz.prog w=.ok (opV (some (bops[2]'(by decide)))) w:=by kernel_rfl
theorem idx_op3 (w:World):(Instr.index 188 (.agg (bops.flatMap opC).toArray) (.int .i64 ((3:Nat):Int))).run Tryz.prog w=.ok (opV (some (bops[3]'(by decide)))) w:=by kernel_rfl
theorem idx_op4 (w:World):(Instr.index 188 (.agg (bops.flatMap opC).toArray) (.int .i64 ((4:Nat):Int))).run Tryz.prog w=.ok (opV (some (bops[4]'(by decide)))) w:=by kernel_rfl
theorem idx_op5 (w:World):(Instr.index 188 (.agg (bops.flatMap opC).toArray) (.int .i64 ((5:Nat):Int))).run Tryz.prog w=.ok (opV (some (bops[5]'(by decide)))) w:=by kernel_rfl
theorem idx_op6 (w:World):(Instr.index 188 (.agg (bops.flatMap opC).toArray) (.int .i64 ((6:Nat):Int))).run Tryz.prog w=.ok (opV (some (bops[6]'(by decide)))) w:=by kernel_rfl
theorem idx_op7 (w:World):(Instr.index 188 (.agg (bops.flatMap opC).toArray) (.int .i64 ((7:Nat):Int))).run Tryz.prog w=.ok (opV (some (bops[7]'(by decide)))) w:=by kernel_rfl
theorem idx_op8 (w:World):(Instr.index 188 (.agg (bops.flatMap opC).toArray) (.int .i64 ((8:Nat):Int))).run Tryz.prog w=.ok (opV (some (bops[8]'(by decide)))) w:=by kernel_rfl
theorem idx_op9 (w:World):(Instr.index 188 (.agg (bops.flatMap opC).toArray) (.int .i64 ((9:Nat):Int))).run Tryz.prog w=.ok (opV (some (bops[9]'(by decide)))) w:=by kernel_rfl
theorem idx_op10 (w:World):(Instr.index 188 (.agg (bops.flatMap opC).toArray) (.int .i64 ((10:Nat):Int))).run Tryz.prog w=.ok (opV (some (bops[10]'(by decide)))) w:=by kernel_rfl
theorem idx_op11 (w:World):(Instr.index 188 (.agg (bops.flatMap opC).toArray) (.int .i64 ((11:Nat):Int))).run Tryz.prog w=.ok (opV (some (bops[11]'(by decide)))) w:=by kernel_rfl
theorem idx_op12 (w:World):(Instr.index 188 (.agg (bops.flatMap opC).toArray) (.int .i64 ((12:Nat):Int))).run Tryz.prog w=.ok (opV (some (bops[12]'(by decide)))) w:=by kernel_rfl
theorem idx_op13 (w:World):(Instr.index 188 (.agg (bops.flatMap opC).toArray) (.int .i64 ((13:Nat):Int))).run Tryz.prog w=.ok (opV (some (bops[13]'(by decide)))) w:=by kernel_rfl
theorem idx_op (j:Nat) (hj:j<bops.length) (w:World):(Instr.index 188 (.agg (bops.flatMap opC).toArray) (.int .i64 (j:Nat))).run Tryz.prog w=.ok (opV (some bops[j])) w:=by
 have h14:j<14:=hj;have:j=0\/j=1\/j=2\/j=3\/j=4\/j=5\/j=6\/j=7\/j=8\/j=9\/j=10\/j=11\/j=12\/j=13:=by omega
 rcases this with rfl | rfl | rfl | rfl | rfl | rfl | rfl | rfl | rfl | rfl | rfl | rfl | rfl | rfl 
 ·exact idx_op0 w
 ·exact idx_op1 w
 ·exact idx_op2 w
 ·exact idx_op3 w
 ·exact idx_op4 w
 ·exact idx_op5 w
 ·exact idx_op6 w
 ·exact idx_op7 w
 ·exact idx_op8 w
 ·exact idx_op9 w
 ·exact idx_op10 w
 ·exact idx_op11 w
 ·exact idx_op12 w
 exact idx_op13 w
theorem find_step {l:Bs} {j:Nat} (hj:j<bops.length) (h:bopOf l=(bops.drop j).find? (·.sign==l)) (hn:(bops[j].sign==l)=false):bopOf l=(bops.drop (j+1)).find? (·.sign==l):=by
 rw[h,List.drop_eq_getElem_cons hj,List.find?_cons,hn]
theorem find_hit {l:Bs} {j:Nat} (hj:j<bops.length) (h:bopOf l=(bops.drop j).find? (·.sign==l)) (hn:(bops[j].sign==l)=true):bopOf l=some bops[j]:=by
 rw[h,List.drop_eq_getElem_cons hj,List.find?_cons,hn]
theorem below_set5 {w w':World} {k:Nat} (h:Below w.heap.size w w') (hk:w.heap.size<=k) (a b c d e:Value):Below w.heap.size w (((((w'.setCell ⟨k,0,none⟩ a).setCell ⟨k,1,none⟩ b).setCell ⟨k,2,none⟩ c).setCell ⟨k,3,none⟩ d).setCell ⟨k,4,none⟩ e):=
 ((((h.setCell (by simpa using hk) _).setCell (by simpa using hk) _).setCell (by simpa using hk) _).setCell (by simpa using hk) _).setCell (by simpa using hk) _
theorem binop_p (l:Bs) (w:World) (ht:OpsAt w) :
  Calls Tryz.prog 91 #[.string ⟨l.toArray⟩] w fun e w'=>e=.returned (.tuple #[opV (bopOf l),.bool (bopOf l).isSome])/\Below w.heap.size w w':=by
 obtain⟨w1,hw1⟩:∃ x,x=w.alloc (.cells #[.string ⟨#[]⟩,.int .i64 0,.int .i64 0,.int .i64 0,.int .i64 0] 176):=⟨_,rfl⟩
 have hb1:Below w.heap.size w w1:=by rw[hw1];exact (Below.refl _ _).alloc (Nat.le_refl _) _
 have hk1:w1.heap[w.heap.size]?=some (.cells #[.string ⟨#[]⟩,.int .i64 0,.int .i64 0,.int .i64 0,.int .i64 0] 176 (0,0)):=by rw[hw1];exact made_at w _ _ rfl
 have HC:=h_ (ht.below hb1);have HI:=h_ idx_op;have HW:=h_ hw1;obtain⟨kr,hkr⟩:∃ k,k=w.heap.size:=⟨_,rfl⟩
 have hN:w.heap.size<=kr:=by omega
 rw[<-hkr] at hk1;have HKR:=h_ hkr;have HR:=h_ hk1;have HB:=h_ hb1;clear hw1 hb1 hk1 hkr ht;go_enter Tryz.func91,Tryz.ntmps91
 go_upto_region 1 with fail
 rw[<-HW.out,<-HKR.out];refine wp_region_lit ?_;refine wpList_plain rfl fun K0 hK0=>?_
 refine wp_load_row 188 (.global 2) rfl ⟨2,0,none⟩ rfl (bops.flatMap opC) _ (fun j v hv=>by rw[add_lit,Nat.zero_add];exact HC.out j v hv) Tryz.underlying188 rfl (by kernel_rfl) ?_;refine hK0 _ _ ?_;clear hK0;generalize Value.agg (bops.flatMap opC).toArray=vq at HI ⊢;go_wp2_with fail
 go_loopw [7] (fun i wr=>∃ j:Nat,i=.int .i64 (j:Nat)/\j<=14/\Hid (bopOf l=(bops.drop j).find? (·.sign==l))/\Hid (Below w1.heap.size w1 wr)) (fun i _=>14 - (intOf i).toNat)
 case atStart=>exact⟨0,rfl,Nat.zero_le _,h_ rfl,h_ (Below.refl _ _)⟩
 case round =>
  obtain⟨j,rfl,hj,HF,HBr⟩:=hrel;have HR2:=kB HBr.out HR;have HB2:=h_ (HB.out.trans (HBr.out.mono HB.out.size))
  by_cases hlt:j<14
  ·have hjl:j<bops.length:=hlt;have hi:=fun w=>HI.out j hjl w
   have HS:=h_ (fun h=>find_step hjl HF.out h);have HT:=h_ (fun h=>find_hit hjl HF.out h);obtain⟨op,hop⟩:∃ op,op=bops[j]:=⟨_,rfl⟩
   rw[<-hop] at HS HT hi;simp only[opV] at hi;clear hop
   cases hq:(op.sign==l)
   ·go_wp2_with fail
    go_roundw
    case rel=>exact⟨j+1,by go_num,by omega,h_ (HS.out hq),h_ (HBr.out.alloc HBr.out.size _)⟩
    case measure=>simp[intOf];omega
   go_upto_region 5 with fail
   obtain⟨w3,hw3⟩:∃ x,x=wr.alloc (.cells #[.string ⟨op.sign.toArray⟩,.int .i64 (op.kind:Nat),.int .i64 (op.level:Nat),.int .i64 (op.left:Nat),.int .i64 (op.right:Nat)] 176):=⟨_,rfl⟩
   have hb3:Below wr.heap.size wr w3:=by rw[hw3];exact (Below.refl _ _).alloc (Nat.le_refl _) _
   have hk3:w3.heap[wr.heap.size]?=some (.cells #[.string ⟨op.sign.toArray⟩,.int .i64 (op.kind:Nat),.int .i64 (op.level:Nat),.int .i64 (op.left:Nat),.int .i64 (op.right:Nat)] 176 (0,0)):=by rw[hw3];exact made_at wr _ _ rfl
   have hr3:=(hb3.block _ (lt_of_block HR2.out)).trans HR2.out;rw[<-hw3];have HB3:=h_ (HB2.out.trans (hb3.mono HB2.out.size));have HO:=h_ hk3;clear hw3 hb3;obtain⟨o0,o1,o2,o3,o4⟩:=cl5 HO.out;have z0:=cell_at (v:=.string ⟨#[]⟩) hr3 0 rfl;have z1:=cell_at (v:=.int .i64 0) hr3 1 rfl;have z2:=cell_at (v:=.int .i64 0) hr3 2 rfl;have z3:=cell_at (v:=.int .i64 0) hr3 3 rfl;have z4:=cell_at (v:=.int .i64 0) hr3 4 rfl;have f0:=froz_at hr3 0;have f1:=froz_at hr3 1;have f2:=froz_at hr3 2;have f3:=froz_at hr3 3;have f4:=froz_at hr3 4;clear hk3 hr3;go_wp2_with fail
   refine bodyPost_ret (v:=.tuple #[.agg #[.string ⟨op.sign.toArray⟩,.int .i64 (op.kind:Nat),.int .i64 (op.level:Nat),.int .i64 (op.left:Nat),.int .i64 (op.right:Nat)],.bool true]) (by simp[results,Tryz.results91,go_sem,z0,z1,z2,z3,z4]) rfl ⟨by rw[HT.out hq];rfl,below_set5 HB3.out hN _ _ _ _ _⟩
  have e:j=14:=by omega
  subst e;have HN:Hid (bopOf l=none):=h_ (by rw[HF.out];rfl);obtain⟨z0,z1,z2,z3,z4⟩:=cl5 HR2.out;obtain⟨f0,f1,f2,f3,f4⟩:=fr5 HR2.out;go_wp2_with fail
  refine bodyPost_ret (v:=.tuple #[.agg #[.string ⟨#[]⟩,.int .i64 0,.int .i64 0,.int .i64 0,.int .i64 0],.bool false]) (by simp[results,Tryz.results91,go_sem,z0,z1,z2,z3,z4]) rfl ⟨by rw[HN.out];rfl,below_set5 HB2.out hN _ _ _ _ _⟩
def TreePost (w:World) (g:Nat) (u:U) (s':St) (e:Ending) (w':World):Prop:=∃ x,e=.returned (xv x)/\Um w' (fun b=>w.heap.size<=b) x u/\Did w g s' w'
def GOps (w:World) (g:Nat):Prop:=OpsAt w/\2<g
theorem GOps.below {w w':World} {g:Nat} (h:GOps w g) (hb:Below w.heap.size w w'):GOps w' g:=⟨h.1.below hb,h.2⟩
theorem GOps.grown {w w':World} {g k:Nat} (h:GOps w g) (hg:w.grownBy w' (some k)) (hk:g<=k):GOps w' g:=⟨h.1.grown hg (Nat.lt_of_lt_of_le h.2 hk),h.2⟩
def ExprAt7 (n:Nat):Prop:=∀ (g:Nat) (s:St) (r:U × St) (w:World),PS w g s->GOps w g->cExpr n s=some r->Calls Tryz.prog 46 #[.pointer (some ⟨g,0,none⟩)] w (TreePost w g r.1 r.2)
def LetAt (n:Nat):Prop:=∀ (g:Nat) (s:St) (r:U × St) (w:World),PS w g s->GOps w g->cLet n s=some r->Calls Tryz.prog 67 #[.pointer (some ⟨g,0,none⟩)] w (TreePost w g r.1 r.2)
def IfAt (n:Nat):Prop:=∀ (g:Nat) (s:St) (r:U × St) (w:World),PS w g s->GOps w g->cIf n s=some r->Calls Tryz.prog 68 #[.pointer (some ⟨g,0,none⟩)] w (TreePost w g r.1 r.2)
def MatchAt (n:Nat):Prop:=∀ (g:Nat) (s:St) (r:U × St) (w:World),PS w g s->GOps w g->cMatch n s=some r->Calls Tryz.prog 69 #[.pointer (some ⟨g,0,none⟩)] w (TreePost w g r.1 r.2)
def AssertAt (n:Nat):Prop:=∀ (g:Nat) (s:St) (r:U × St) (w:World),PS w g s->GOps w g->cAssert n s=some r->Calls Tryz.prog 70 #[.pointer (some ⟨g,0,none⟩)] w (TreePost w g r.1 r.2)
def BinAt (n:Nat):Prop:=∀ (g:Nat) (l:Nat) (s:St) (r:U × St) (w:World),PS w g s->GOps w g->cBin n l s=some r->Calls Tryz.prog 71 #[.pointer (some ⟨g,0,none⟩),.int .i64 (l:Nat)] w (TreePost w g r.1 r.2)
def OneAt (n:Nat):Prop:=∀ (g:Nat) (s:St) (r:U × St) (w:World),PS w g s->GOps w g->cOne n s=some r->Calls Tryz.prog 90 #[.pointer (some ⟨g,0,none⟩)] w (TreePost w g r.1 r.2)
def AtomAt (n:Nat):Prop:=∀ (g:Nat) (s:St) (r:U × St) (w:World),PS w g s->GOps w g->cAtom n s=some r->Calls Tryz.prog 104 #[.pointer (some ⟨g,0,none⟩)] w (TreePost w g r.1 r.2)
def ArgsAt (n:Nat):Prop:=∀ (g:Nat) (s:St) (r:List U × St) (w:World),PS w g s->GOps w g->cArgs n s=some r->Calls Tryz.prog 114 #[.pointer (some ⟨g,0,none⟩)] w fun e w'=>∃ ko c,e=.returned (.slice ko r.1.length c)/\(r.1.length<=c/\c<=maxLen)/\(r.1.length≠0->∀ a,ko=some a->w.heap.size<=a.block)/\Ums w' (fun b=>w.heap.size<=b) ko 0 r.1/\Did w g r.2 w'
theorem ums_blk {w:World} {S:Nat->Prop} {k:Nat} {T:TypeId}:∀ {ys:List X} {us:List U},w.heap[k]?=some (.cells (ys.flatMap xc).toArray T (0,0))->ys.length=us.length->(∀ i (h1:i<ys.length) (h2:i<us.length),Um w S ys[i] us[i])->Ums w S (some ⟨k,0,none⟩) 0 us:=by
 intro ys us hB hl h;refine ums_of 0 fun j hj=>⟨ys[j],⟨_,rfl,fun i v hv=>?_⟩,h j (by omega) hj⟩
 have hi8:i<8:=by have:=(List.getElem?_eq_some_iff.1 hv).1;simpa [xc] using this
 rw[add_lit,add_lit,Nat.zero_add,Nat.zero_add];refine cell_at hB _ ?_;rw[gsa,flat_at ys j i (by omega) hi8];exact hv
theorem um_node {w:World} {S:Nat->Prop} (k:Nat) (nm ot:Bs) (ln cl:Nat) (kk:Nat) {T:TypeId} (ys:List X) (us:List U) (n:Nat) (hn:n=us.length) (hS:S kk) (hB:w.heap[kk]?=some (.cells (ys.flatMap xc).toArray T (0,0))) (hl:ys.length=us.length) (h:∀ i (h1:i<ys.length) (h2:i<us.length),Um w S ys[i] us[i]) (hb:n<=1000:=by decide) :
  Um w S ⟨(k:Nat),⟨nm.toArray⟩,⟨ot.toArray⟩,false,none,0,0,some ⟨kk,0,none⟩,n,n,(ln:Nat),(cl:Nat)⟩ (.node k nm ot 0 ln cl us):=by
 rw[Um];refine⟨⟨rfl,rfl,rfl,rfl,rfl,rfl⟩,⟨?_,fun h=>absurd rfl h⟩,⟨hn,⟨Nat.le_refl _,show n<=maxLen by unfold maxLen;omega⟩,fun _ a h=>by injection h with h;subst h;exact hS⟩,ums_blk hB hl h⟩;rw[dig_zero];exact⟨none,0,rfl,Nat.le_refl _,by omega,fun _=>rfl,fun i hi=>by simp at hi⟩
theorem um_leaf {w:World} {S:Nat->Prop} (k:Nat) (nm ot:Bs) (ln cl:Nat):Um w S ⟨(k:Nat),⟨nm.toArray⟩,⟨ot.toArray⟩,false,none,0,0,none,0,0,(ln:Nat),(cl:Nat)⟩ (.node k nm ot 0 ln cl []):=by
 rw[Um];refine⟨⟨rfl,rfl,rfl,rfl,rfl,rfl⟩,⟨?_,fun h=>absurd rfl h⟩,⟨rfl,⟨Nat.le_refl _,Nat.zero_le _⟩,fun h=>absurd rfl h⟩,by rw[Ums];trivial⟩;rw[dig_zero];exact⟨none,0,rfl,Nat.le_refl _,by omega,fun _=>rfl,fun i hi=>by simp at hi⟩
theorem all1 {P:X->U->Prop} {a:X} {u:U} (h:P a u):∀ i (h1:i < [a].length) (h2:i < [u].length),P [a][i] [u][i]:=by
 intro i h1 h2;simp at h1;subst h1;exact h
theorem all2 {P:X->U->Prop} {a b:X} {u v:U} (h:P a u) (k:P b v):∀ i (h1:i < [a,b].length) (h2:i < [u,v].length),P [a,b][i] [u,v][i]:=by
 intro i h1 h2
 match i,h1,h2 with
 | 0,_,_=>exact h
 | 1,_,_=>exact k
 | i+2,h1,_=>simp at h1;omega
theorem all3 {P:X->U->Prop} {a b c:X} {u v x:U} (h:P a u) (k:P b v) (l:P c x):∀ i (h1:i < [a,b,c].length) (h2:i < [u,v,x].length),P [a,b,c][i] [u,v,x][i]:=by
 intro i h1 h2
 match i,h1,h2 with
 | 0,_,_=>exact h
 | 1,_,_=>exact k
 | 2,_,_=>exact l
 | i+3,h1,_=>simp at h1;omega
theorem let_p (n:Nat) (E:Hid (ExprAt7 n)):LetAt (n+1):=by
 intro g s r w hps hop hc;have HP:=h_ hps;have HOP:=h_ hop;clear hps hop;rw[cLet] at hc;simp only[Option.bind_eq_some_iff] at hc;obtain⟨r1,h1,r2,h2,hr⟩:=hc;injection hr with hr;subst hr;have h1:=h_ h1;have h2:=h_ h2;go_enter Tryz.func67,Tryz.ntmps67
 go_upto_region 1 with fail
 obtain⟨w1,kr,hw,hkk,hb,-,HBr⟩:=newb w #[.int .i64 0,.string ⟨#[]⟩,.string ⟨#[]⟩,.bool false,.slice none 0 0,.slice none 0 0,.int .i64 0,.int .i64 0] 48;have hgr:g<kr:=by rw[hkk];exact HP.out.lt
 have her:w.heap.size<=kr:=by omega
 rw[hw,<-hkk];replace HP:=h_ (HP.out.below hb);replace HOP:=h_ (HOP.out.below hb);have HD:=h_ (below_grown hb (some g));clear hw hb hkk;go_wp2_with fail
 refine (take_p g s w1 HP.out).mono ?_;rintro e w2 ⟨rfl,hp,hg⟩;replace HBr:=kG hg HBr;replace HOP:=h_ (HOP.out.grown hg (by omega));replace HP:=h_ hp;replace HD:=dG HD hg;have hsz2:=HD.out.size;clear hp hg;simp only[tokV];obtain⟨t,hnx⟩:∃ t,t=St.nx s:=⟨_,rfl⟩
 rw[<-hnx];have HNt:=h_ hnx;clear hnx;go_upto_region 2 with fail
 obtain⟨w3,kt,hw,hkk,hb,-,HBt⟩:=newb w2 #[.int .i64 (t.kind:Nat),.string ⟨t.text.toArray⟩,.int .i64 (t.line:Nat),.int .i64 (t.col:Nat)] 103;have hgt:g<kt:=by rw[hkk];exact HP.out.lt
 have het:w.heap.size<=kt:=by omega
 have hr_t:=lk_ hkk HBr;rw[hw,<-hkk];replace HBr:=kB hb HBr;replace HP:=h_ (HP.out.below hb);replace HOP:=h_ (HOP.out.below hb);replace HD:=dB HD hb;clear hw hb hkk;go_wp2_with fail
 refine (name_p g s.tk w3 HP.out).mono ?_;rintro e w4 ⟨rfl,hp,hg⟩;replace HBr:=kG hg HBr;replace HBt:=kG hg HBt;replace HOP:=h_ (HOP.out.grown hg (by omega));replace HP:=h_ hp;replace HD:=dG HD hg;have hsz4:=HD.out.size;clear hp hg;simp only[tokV];obtain⟨nm,hnx⟩:∃ t,t=St.nx s.tk:=⟨_,rfl⟩
 rw[<-hnx];have HNnm:=h_ hnx;clear hnx;go_upto_region 3 with fail
 obtain⟨w5,knm,hw,hkk,hb,-,HBnm⟩:=newb w4 #[.int .i64 (nm.kind:Nat),.string ⟨nm.text.toArray⟩,.int .i64 (nm.line:Nat),.int .i64 (nm.col:Nat)] 103;have hgnm:g<knm:=by rw[hkk];exact HP.out.lt
 have henm:w.heap.size<=knm:=by omega
 have hr_nm:=lk_ hkk HBr;have ht_nm:=lk_ hkk HBt;rw[hw,<-hkk];replace HBr:=kB hb HBr;replace HBt:=kB hb HBt;replace HP:=h_ (HP.out.below hb);replace HOP:=h_ (HOP.out.below hb);replace HD:=dB HD hb;have hsz5:=HD.out.size;clear hw hb hkk;go_wp2_with fail
 obtain⟨w6,kq1,hw,hkk,hb,-,HBq1⟩:=newb w5 #[.string ⟨#[61]⟩] 9;have hgq1:g<kq1:=by rw[hkk];exact HP.out.lt
 have heq1:w.heap.size<=kq1:=by omega
 have hr_q1:=lk_ hkk HBr;have ht_q1:=lk_ hkk HBt;have hnm_q1:=lk_ hkk HBnm;rw[hw,<-hkk];replace HBr:=kB hb HBr;replace HBt:=kB hb HBt;replace HBnm:=kB hb HBnm;replace HP:=h_ (HP.out.below hb);replace HOP:=h_ (HOP.out.below hb);replace HD:=dB HD hb;have hsz6:=HD.out.size;clear hw hb hkk;refine (expect_p g s.tk.name [[61]] kq1 w6 HP.out HBq1.out (by omega) (by decide)).mono ?_;rintro e w7 ⟨⟨v,rfl⟩,hp,hg⟩;replace HBr:=kG hg HBr;replace HBt:=kG hg HBt;replace HBnm:=kG hg HBnm;replace HBq1:=kG hg HBq1;replace HOP:=h_ (HOP.out.grown hg (by omega));replace HP:=h_ hp;replace HD:=dG HD hg;have hsz7:=HD.out.size;clear hp hg;go_wp2_with fail
 obtain⟨Na,hN⟩:∃ k,k=w7.heap.size:=⟨_,rfl⟩
 have hr_Na:kr<Na:=by rw[hN];exact lt_of_block HBr.out
 have ht_Na:kt<Na:=by rw[hN];exact lt_of_block HBt.out
 have hnm_Na:knm<Na:=by rw[hN];exact lt_of_block HBnm.out
 have hg_Na:g<Na:=by rw[hN];exact HP.out.lt
 have he_Na:w.heap.size<=Na:=by omega
 refine (E.out g _ _ w7 HP.out HOP.out h1.out).mono ?_;rintro e w8 ⟨xa,rfl,hu,hp,hg⟩;replace HBr:=kG hg HBr;replace HBt:=kG hg HBt;replace HBnm:=kG hg HBnm;replace HOP:=h_ (HOP.out.grown hg (by omega));replace HP:=h_ hp;replace HD:=dG HD hg;have hsz8:=HD.out.size;rw[<-hN] at hu;have HUa:=h_ (hu.mono (S':=fun b=>Na<=b/\True) (fun b h=>⟨h,trivial⟩));clear hN hu;clear hp hg;obtain⟨ak,anm,aot,ab,aao,an,aq,ako,akn,akc,aln,acl⟩:=xa;simp only[xv];go_upto_region 5 with fail
 obtain⟨w9,ka,hw,hkk,hb,-,HBa⟩:=newb w8 #[.int .i64 ak,.string anm,.string aot,.bool ab,.slice aao an aq,.slice ako akn akc,.int .i64 aln,.int .i64 acl] 48;have hga:g<ka:=by rw[hkk];exact HP.out.lt
 have hea:w.heap.size<=ka:=by omega
 have hr_a:=lk_ hkk HBr;have ht_a:=lk_ hkk HBt;have hnm_a:=lk_ hkk HBnm;replace HUa:=h_ (HUa.out.offk hkk);rw[hw,<-hkk];replace HBr:=kB hb HBr;replace HBt:=kB hb HBt;replace HBnm:=kB hb HBnm;replace HP:=h_ (HP.out.below hb);replace HUa:=h_ (HUa.out.below hb);replace HOP:=h_ (HOP.out.below hb);replace HD:=dB HD hb;have hsz9:=HD.out.size;clear hw hb hkk;go_wp2_with fail
 obtain⟨w10,kq2,hw,hkk,hb,-,HBq2⟩:=newb w9 #[.string ⟨#[105,110]⟩] 9;have hgq2:g<kq2:=by rw[hkk];exact HP.out.lt
 have heq2:w.heap.size<=kq2:=by omega
 have hr_q2:=lk_ hkk HBr;have ht_q2:=lk_ hkk HBt;have hnm_q2:=lk_ hkk HBnm;have ha_q2:=lk_ hkk HBa;replace HUa:=h_ (HUa.out.offk hkk);rw[hw,<-hkk];replace HBr:=kB hb HBr;replace HBt:=kB hb HBt;replace HBnm:=kB hb HBnm;replace HBa:=kB hb HBa;replace HP:=h_ (HP.out.below hb);replace HUa:=h_ (HUa.out.below hb);replace HOP:=h_ (HOP.out.below hb);replace HD:=dB HD hb;have hsz10:=HD.out.size;clear hw hb hkk;refine (expect_p g r1.2 [[105,110]] kq2 w10 HP.out HBq2.out (by omega) (by decide)).mono ?_;rintro e w11 ⟨⟨v,rfl⟩,hp,hg⟩;replace HBr:=kG hg HBr;replace HBt:=kG hg HBt;replace HBnm:=kG hg HBnm;replace HBa:=kG hg HBa;replace HBq2:=kG hg HBq2;replace HUa:=h_ (HUa.out.grown hg (fun h=>by omega));replace HOP:=h_ (HOP.out.grown hg (by omega));replace HP:=h_ hp;replace HD:=dG HD hg;have hsz11:=HD.out.size;clear hp hg;go_wp2_with fail
 obtain⟨Nb,hN⟩:∃ k,k=w11.heap.size:=⟨_,rfl⟩
 have hr_Nb:kr<Nb:=by rw[hN];exact lt_of_block HBr.out
 have ht_Nb:kt<Nb:=by rw[hN];exact lt_of_block HBt.out
 have hnm_Nb:knm<Nb:=by rw[hN];exact lt_of_block HBnm.out
 have ha_Nb:ka<Nb:=by rw[hN];exact lt_of_block HBa.out
 have hg_Nb:g<Nb:=by rw[hN];exact HP.out.lt
 have he_Nb:w.heap.size<=Nb:=by omega
 refine (E.out g _ _ w11 HP.out HOP.out h2.out).mono ?_;rintro e w12 ⟨xb,rfl,hu,hp,hg⟩;replace HBr:=kG hg HBr;replace HBt:=kG hg HBt;replace HBnm:=kG hg HBnm;replace HBa:=kG hg HBa;replace HUa:=h_ (HUa.out.grown hg (fun h=>by omega));replace HOP:=h_ (HOP.out.grown hg (by omega));replace HP:=h_ hp;replace HD:=dG HD hg;have hsz12:=HD.out.size;rw[<-hN] at hu;have HUb:=h_ (hu.mono (S':=fun b=>Nb<=b/\True) (fun b h=>⟨h,trivial⟩));clear hN hu;clear hp hg;obtain⟨bk,bnm,bot,bb,bao,bn,bq,bko,bkn,bkc,bln,bcl⟩:=xb;simp only[xv];go_upto_region 7 with fail
 obtain⟨w13,kb,hw,hkk,hb,-,HBb⟩:=newb w12 #[.int .i64 bk,.string bnm,.string bot,.bool bb,.slice bao bn bq,.slice bko bkn bkc,.int .i64 bln,.int .i64 bcl] 48;have hgb:g<kb:=by rw[hkk];exact HP.out.lt
 have heb:w.heap.size<=kb:=by omega
 have hr_b:=lk_ hkk HBr;have ht_b:=lk_ hkk HBt;have hnm_b:=lk_ hkk HBnm;have ha_b:=lk_ hkk HBa;replace HUa:=h_ (HUa.out.offk hkk);replace HUb:=h_ (HUb.out.offk hkk);rw[hw,<-hkk];replace HBr:=kB hb HBr;replace HBt:=kB hb HBt;replace HBnm:=kB hb HBnm;replace HBa:=kB hb HBa;replace HP:=h_ (HP.out.below hb);replace HUa:=h_ (HUa.out.below hb);replace HUb:=h_ (HUb.out.below hb);replace HOP:=h_ (HOP.out.below hb);replace HD:=dB HD hb;have hsz13:=HD.out.size;clear hw hb hkk;obtain⟨ct0,ct1,ct2,ct3⟩:=cl4 HBt.out;obtain⟨ca0,ca1,ca2,ca3,ca4,ca5,ca6,ca7⟩:=cl8 HBa.out;obtain⟨cb0,cb1,cb2,cb3,cb4,cb5,cb6,cb7⟩:=cl8 HBb.out;go_wp2_with fail
 clear ct0 ct1 ct2 ct3 ca0 ca1 ca2 ca3 ca4 ca5 ca6 ca7 cb0 cb1 cb2 cb3 cb4 cb5 cb6 cb7;obtain⟨w14,kkk,hw,hkk,hb,-,HBkk⟩:=newb w13 #[.int .i64 ak,.string anm,.string aot,.bool ab,.slice aao an aq,.slice ako akn akc,.int .i64 aln,.int .i64 acl,.int .i64 bk,.string bnm,.string bot,.bool bb,.slice bao bn bq,.slice bko bkn bkc,.int .i64 bln,.int .i64 bcl] 48;have hgkk:g<kkk:=by rw[hkk];exact HP.out.lt
 have hekk:w.heap.size<=kkk:=by omega
 have hr_kk:=lk_ hkk HBr;have ht_kk:=lk_ hkk HBt;have hnm_kk:=lk_ hkk HBnm;have ha_kk:=lk_ hkk HBa;have hb_kk:=lk_ hkk HBb;replace HUa:=h_ (HUa.out.offk hkk);replace HUb:=h_ (HUb.out.offk hkk);rw[hw,<-hkk];replace HBr:=kB hb HBr;replace HBt:=kB hb HBt;replace HBnm:=kB hb HBnm;replace HBa:=kB hb HBa;replace HBb:=kB hb HBb;replace HP:=h_ (HP.out.below hb);replace HUa:=h_ (HUa.out.below hb);replace HUb:=h_ (HUb.out.below hb);replace HOP:=h_ (HOP.out.below hb);replace HD:=dB HD hb;clear hw hb hkk;refine (part_p 26 t (some ⟨kkk,0,none⟩) 2 2 w14).mono ?_;rintro e w15 ⟨rfl,hb⟩;replace HBr:=kB hb HBr;replace HBt:=kB hb HBt;replace HBnm:=kB hb HBnm;replace HBa:=kB hb HBa;replace HBb:=kB hb HBb;replace HBkk:=kB hb HBkk;replace HP:=h_ (HP.out.below hb);replace HUa:=h_ (HUa.out.below hb);replace HUb:=h_ (HUb.out.below hb)
 replace HOP:=h_ (HOP.out.below hb);replace HD:=dB HD hb;have hsz15:=HD.out.size;clear hb;simp only[xv];go_upto_region 8 with fail
 obtain⟨w16,kv,hw,hkk,hb,-,HBv⟩:=newb w15 #[.int .i64 26,.string ⟨#[]⟩,.string ⟨#[]⟩,.bool false,.slice none 0 0,.slice (some ⟨kkk,0,none⟩) 2 2,.int .i64 (t.line:Nat),.int .i64 (t.col:Nat)] 48;have hgv:g<kv:=by rw[hkk];exact HP.out.lt
 have hev:w.heap.size<=kv:=by omega
 have hr_v:=lk_ hkk HBr;have ht_v:=lk_ hkk HBt;have hnm_v:=lk_ hkk HBnm;have ha_v:=lk_ hkk HBa;have hb_v:=lk_ hkk HBb;have hkk_v:=lk_ hkk HBkk;replace HUa:=h_ (HUa.out.offk hkk);replace HUb:=h_ (HUb.out.offk hkk);rw[hw,<-hkk];replace HBr:=kB hb HBr;replace HBt:=kB hb HBt;replace HBnm:=kB hb HBnm;replace HBa:=kB hb HBa;replace HBb:=kB hb HBb;replace HBkk:=kB hb HBkk;replace HP:=h_ (HP.out.below hb);replace HUa:=h_ (HUa.out.below hb);replace HUb:=h_ (HUb.out.below hb);replace HOP:=h_ (HOP.out.below hb);replace HD:=dB HD hb;clear hw hb hkk;obtain⟨cn0,cn1,cn2,cn3⟩:=cl4 HBnm.out;obtain⟨cv0,cv1,cv2,cv3,cv4,cv5,cv6,cv7⟩:=cl8 HBv.out;obtain⟨fcv0,fcv1,fcv2,fcv3,fcv4,fcv5,fcv6,fcv7⟩:=fr8 HBv.out;go_upto_region 9 with fail
 obtain⟨w17,hw⟩:∃ x,x=w16.setCell ⟨kv,1,none⟩ (.string ⟨nm.text.toArray⟩):=⟨_,rfl⟩
 have hg:w16.grownBy w17 (some kv):=by rw[hw];exact grown_set _ kv 1 _
 have hv:w17.heap[kv]?=some (.cells #[.int .i64 26,.string ⟨nm.text.toArray⟩,.string ⟨#[]⟩,.bool false,.slice none 0 0,.slice (some ⟨kkk,0,none⟩) 2 2,.int .i64 (t.line:Nat),.int .i64 (t.col:Nat)] 48 (0,0)):=by rw[hw,heap_setCell_same _ kv 1 _ _ _ HBv.out];rfl
 rw[<-hw];clear cn0 cn1 cn2 cn3 cv0 fcv0 cv1 fcv1 cv2 fcv2 cv3 fcv3 cv4 fcv4 cv5 fcv5 cv6 fcv6 cv7 fcv7;replace HP:=h_ (HP.out.store HBv.out (by decide) (by omega) hg);replace HBr:=kG hg HBr;replace HBt:=kG hg HBt;replace HBnm:=kG hg HBnm;replace HBa:=kG hg HBa;replace HBb:=kG hg HBb;replace HBkk:=kG hg HBkk;replace HUa:=h_ (HUa.out.grown hg (fun h=>by omega));replace HUb:=h_ (HUb.out.grown hg (fun h=>by omega));replace HOP:=h_ (HOP.out.grown hg (by omega));replace HD:=dN HD hg (by omega);replace HBv:=h_ hv;clear hw hg hv;obtain⟨cv0,cv1,cv2,cv3,cv4,cv5,cv6,cv7⟩:=cl8 HBv.out;obtain⟨z0,z1,z2,z3,z4,z5,z6,z7⟩:=cl8 HBr.out;obtain⟨fz0,fz1,fz2,fz3,fz4,fz5,fz6,fz7⟩:=fr8 HBr.out;go_wp2_with fail
 refine bodyPost_ret (v:=.agg #[.int .i64 26,.string ⟨nm.text.toArray⟩,.string ⟨#[]⟩,.bool false,.slice none 0 0,.slice (some ⟨kkk,0,none⟩) 2 2,.int .i64 (t.line:Nat),.int .i64 (t.col:Nat)]) (by simp[results,Tryz.results67,go_sem,z0,z1,z2,z3,z4,z5,z6,z7]) rfl ?_;obtain⟨wz,hw⟩:∃ x,x=st8 w17 kr (.int .i64 26) (.string ⟨nm.text.toArray⟩) (.string ⟨#[]⟩) (.bool false) (.slice none 0 0) (.slice (some ⟨kkk,0,none⟩) 2 2) (.int .i64 (t.line:Nat)) (.int .i64 (t.col:Nat)):=⟨_,rfl⟩
 have hg:w17.grownBy wz (some kr):=by rw[hw];exact st8_grown _ _ _ _ _ _ _ _ _ _
 change TreePost w g _ _ _ (st8 w17 kr (.int .i64 26) (.string ⟨nm.text.toArray⟩) (.string ⟨#[]⟩) (.bool false) (.slice none 0 0) (.slice (some ⟨kkk,0,none⟩) 2 2) (.int .i64 (t.line:Nat)) (.int .i64 (t.col:Nat)));rw[<-hw];clear cv0 cv1 cv2 cv3 cv4 cv5 cv6 cv7 z0 fz0 z1 fz1 z2 fz2 z3 fz3 z4 fz4 z5 fz5 z6 fz6 z7 fz7;replace HP:=h_ (HP.out.store HBr.out (by decide) (by omega) hg);replace HBt:=kG hg HBt;replace HBnm:=kG hg HBnm;replace HBa:=kG hg HBa;replace HBb:=kG hg HBb;replace HBkk:=kG hg HBkk;replace HBv:=kG hg HBv;replace HUa:=h_ (HUa.out.grown hg (fun h=>by omega));replace HUb:=h_ (HUb.out.grown hg (fun h=>by omega));replace HOP:=h_ (HOP.out.grown hg (by omega));replace HD:=dN HD hg (by omega);have hsz17:=HD.out.size;clear hw hg
 have hu:U.node 26 s.tk.nx.text [] 0 s.nx.line s.nx.col [r1.1,r2.1]=U.node 26 nm.text [] 0 t.line t.col [r1.1,r2.1]:=by rw[HNt.out,HNnm.out]
 rw[hu];exact⟨⟨26,⟨nm.text.toArray⟩,⟨#[]⟩,false,none,0,0,some ⟨kkk,0,none⟩,2,2,(t.line:Nat),(t.col:Nat)⟩,rfl,um_node 26 nm.text [] t.line t.col kkk [⟨ak,anm,aot,ab,aao,an,aq,ako,akn,akc,aln,acl⟩,⟨bk,bnm,bot,bb,bao,bn,bq,bko,bkn,bkc,bln,bcl⟩] [r1.1,r2.1] 2 rfl (by omega) HBkk.out rfl (all2 (HUa.out.mono (fun b h=>by have h:(((((Na<=b/\True)/\b≠ka)/\b≠kq2)/\b≠kb)/\b≠kkk)/\b≠kv:=h;show _<=b;omega)) (HUb.out.mono (fun b h=>by have h:(((Nb<=b/\True)/\b≠kb)/\b≠kkk)/\b≠kv:=h;show _<=b;omega))),HP.out,HD.out⟩
theorem if_p (n:Nat) (E:Hid (ExprAt7 n)):IfAt (n+1):=by
 intro g s r w hps hop hc;have HP:=h_ hps;have HOP:=h_ hop;clear hps hop;rw[cIf] at hc;simp only[Option.bind_eq_some_iff] at hc;obtain⟨r1,h1,r2,h2,r3,h3,hr⟩:=hc;injection hr with hr;subst hr;have h1:=h_ h1;have h2:=h_ h2;have h3:=h_ h3;go_enter Tryz.func68,Tryz.ntmps68
 go_upto_region 1 with fail
 obtain⟨w1,kr,hw,hkk,hb,-,HBr⟩:=newb w #[.int .i64 0,.string ⟨#[]⟩,.string ⟨#[]⟩,.bool false,.slice none 0 0,.slice none 0 0,.int .i64 0,.int .i64 0] 48;have hgr:g<kr:=by rw[hkk];exact HP.out.lt
 have her:w.heap.size<=kr:=by omega
 rw[hw,<-hkk];replace HP:=h_ (HP.out.below hb);replace HOP:=h_ (HOP.out.below hb);have HD:=h_ (below_grown hb (some g));clear hw hb hkk;go_wp2_with fail
 refine (take_p g s w1 HP.out).mono ?_;rintro e w2 ⟨rfl,hp,hg⟩;replace HBr:=kG hg HBr;replace HOP:=h_ (HOP.out.grown hg (by omega));replace HP:=h_ hp;replace HD:=dG HD hg;have hsz2:=HD.out.size;clear hp hg;simp only[tokV];obtain⟨t,hnx⟩:∃ t,t=St.nx s:=⟨_,rfl⟩
 rw[<-hnx];have HNt:=h_ hnx;clear hnx;go_upto_region 2 with fail
 obtain⟨w3,kt,hw,hkk,hb,-,HBt⟩:=newb w2 #[.int .i64 (t.kind:Nat),.string ⟨t.text.toArray⟩,.int .i64 (t.line:Nat),.int .i64 (t.col:Nat)] 103;have hgt:g<kt:=by rw[hkk];exact HP.out.lt
 have het:w.heap.size<=kt:=by omega
 have hr_t:=lk_ hkk HBr;rw[hw,<-hkk];replace HBr:=kB hb HBr;replace HP:=h_ (HP.out.below hb);replace HOP:=h_ (HOP.out.below hb);replace HD:=dB HD hb;have hsz3:=HD.out.size;clear hw hb hkk;go_wp2_with fail
 obtain⟨Na,hN⟩:∃ k,k=w3.heap.size:=⟨_,rfl⟩
 have hr_Na:kr<Na:=by rw[hN];exact lt_of_block HBr.out
 have ht_Na:kt<Na:=by rw[hN];exact lt_of_block HBt.out
 have hg_Na:g<Na:=by rw[hN];exact HP.out.lt
 have he_Na:w.heap.size<=Na:=by omega
 refine (E.out g _ _ w3 HP.out HOP.out h1.out).mono ?_;rintro e w4 ⟨xa,rfl,hu,hp,hg⟩;replace HBr:=kG hg HBr;replace HBt:=kG hg HBt;replace HOP:=h_ (HOP.out.grown hg (by omega));replace HP:=h_ hp;replace HD:=dG HD hg;have hsz4:=HD.out.size;rw[<-hN] at hu;have HUa:=h_ (hu.mono (S':=fun b=>Na<=b/\True) (fun b h=>⟨h,trivial⟩));clear hN hu;clear hp hg;obtain⟨ak,anm,aot,ab,aao,an,aq,ako,akn,akc,aln,acl⟩:=xa;simp only[xv];go_upto_region 3 with fail
 obtain⟨w5,ka,hw,hkk,hb,-,HBa⟩:=newb w4 #[.int .i64 ak,.string anm,.string aot,.bool ab,.slice aao an aq,.slice ako akn akc,.int .i64 aln,.int .i64 acl] 48;have hga:g<ka:=by rw[hkk];exact HP.out.lt
 have hea:w.heap.size<=ka:=by omega
 have hr_a:=lk_ hkk HBr;have ht_a:=lk_ hkk HBt;replace HUa:=h_ (HUa.out.offk hkk);rw[hw,<-hkk];replace HBr:=kB hb HBr;replace HBt:=kB hb HBt;replace HP:=h_ (HP.out.below hb);replace HUa:=h_ (HUa.out.below hb);replace HOP:=h_ (HOP.out.below hb);replace HD:=dB HD hb;have hsz5:=HD.out.size;clear hw hb hkk;go_wp2_with fail
 obtain⟨w6,kq1,hw,hkk,hb,-,HBq1⟩:=newb w5 #[.string ⟨#[116,104,101,110]⟩] 9;have hgq1:g<kq1:=by rw[hkk];exact HP.out.lt
 have heq1:w.heap.size<=kq1:=by omega
 have hr_q1:=lk_ hkk HBr;have ht_q1:=lk_ hkk HBt;have ha_q1:=lk_ hkk HBa;replace HUa:=h_ (HUa.out.offk hkk);rw[hw,<-hkk];replace HBr:=kB hb HBr;replace HBt:=kB hb HBt;replace HBa:=kB hb HBa;replace HP:=h_ (HP.out.below hb);replace HUa:=h_ (HUa.out.below hb);replace HOP:=h_ (HOP.out.below hb);replace HD:=dB HD hb;have hsz6:=HD.out.size;clear hw hb hkk;refine (expect_p g r1.2 [[116,104,101,110]] kq1 w6 HP.out HBq1.out (by omega) (by decide)).mono ?_;rintro e w7 ⟨⟨v,rfl⟩,hp,hg⟩;replace HBr:=kG hg HBr;replace HBt:=kG hg HBt;replace HBa:=kG hg HBa;replace HBq1:=kG hg HBq1;replace HUa:=h_ (HUa.out.grown hg (fun h=>by omega));replace HOP:=h_ (HOP.out.grown hg (by omega));replace HP:=h_ hp;replace HD:=dG HD hg;have hsz7:=HD.out.size;clear hp hg;go_wp2_with fail
 obtain⟨Nb,hN⟩:∃ k,k=w7.heap.size:=⟨_,rfl⟩
 have hr_Nb:kr<Nb:=by rw[hN];exact lt_of_block HBr.out
 have ht_Nb:kt<Nb:=by rw[hN];exact lt_of_block HBt.out
 have ha_Nb:ka<Nb:=by rw[hN];exact lt_of_block HBa.out
 have hg_Nb:g<Nb:=by rw[hN];exact HP.out.lt
 have he_Nb:w.heap.size<=Nb:=by omega
 refine (E.out g _ _ w7 HP.out HOP.out h2.out).mono ?_;rintro e w8 ⟨xb,rfl,hu,hp,hg⟩;replace HBr:=kG hg HBr;replace HBt:=kG hg HBt;replace HBa:=kG hg HBa;replace HUa:=h_ (HUa.out.grown hg (fun h=>by omega));replace HOP:=h_ (HOP.out.grown hg (by omega));replace HP:=h_ hp;replace HD:=dG HD hg;have hsz8:=HD.out.size;rw[<-hN] at hu;have HUb:=h_ (hu.mono (S':=fun b=>Nb<=b/\True) (fun b h=>⟨h,trivial⟩));clear hN hu;clear hp hg;obtain⟨bk,bnm,bot,bb,bao,bn,bq,bko,bkn,bkc,bln,bcl⟩:=xb;simp only[xv];go_upto_region 5 with fail
 obtain⟨w9,kb,hw,hkk,hb,-,HBb⟩:=newb w8 #[.int .i64 bk,.string bnm,.string bot,.bool bb,.slice bao bn bq,.slice bko bkn bkc,.int .i64 bln,.int .i64 bcl] 48;have hgb:g<kb:=by rw[hkk];exact HP.out.lt
 have heb:w.heap.size<=kb:=by omega
 have hr_b:=lk_ hkk HBr;have ht_b:=lk_ hkk HBt;have ha_b:=lk_ hkk HBa;replace HUa:=h_ (HUa.out.offk hkk);replace HUb:=h_ (HUb.out.offk hkk);rw[hw,<-hkk];replace HBr:=kB hb HBr;replace HBt:=kB hb HBt;replace HBa:=kB hb HBa;replace HP:=h_ (HP.out.below hb);replace HUa:=h_ (HUa.out.below hb);replace HUb:=h_ (HUb.out.below hb);replace HOP:=h_ (HOP.out.below hb);replace HD:=dB HD hb;have hsz9:=HD.out.size;clear hw hb hkk;go_wp2_with fail
 obtain⟨w10,kq2,hw,hkk,hb,-,HBq2⟩:=newb w9 #[.string ⟨#[101,108,115,101]⟩] 9;have hgq2:g<kq2:=by rw[hkk];exact HP.out.lt
 have heq2:w.heap.size<=kq2:=by omega
 have hr_q2:=lk_ hkk HBr;have ht_q2:=lk_ hkk HBt;have ha_q2:=lk_ hkk HBa;have hb_q2:=lk_ hkk HBb;replace HUa:=h_ (HUa.out.offk hkk);replace HUb:=h_ (HUb.out.offk hkk);rw[hw,<-hkk];replace HBr:=kB hb HBr;replace HBt:=kB hb HBt;replace HBa:=kB hb HBa;replace HBb:=kB hb HBb;replace HP:=h_ (HP.out.below hb);replace HUa:=h_ (HUa.out.below hb);replace HUb:=h_ (HUb.out.below hb);replace HOP:=h_ (HOP.out.below hb);replace HD:=dB HD hb;have hsz10:=HD.out.size;clear hw hb hkk;refine (expect_p g r2.2 [[101,108,115,101]] kq2 w10 HP.out HBq2.out (by omega) (by decide)).mono ?_;rintro e w11 ⟨⟨v,rfl⟩,hp,hg⟩;replace HBr:=kG hg HBr;replace HBt:=kG hg HBt;replace HBa:=kG hg HBa;replace HBb:=kG hg HBb;replace HBq2:=kG hg HBq2;replace HUa:=h_ (HUa.out.grown hg (fun h=>by omega));replace HUb:=h_ (HUb.out.grown hg (fun h=>by omega))
 replace HOP:=h_ (HOP.out.grown hg (by omega));replace HP:=h_ hp;replace HD:=dG HD hg;have hsz11:=HD.out.size;clear hp hg;go_wp2_with fail
 obtain⟨Nc,hN⟩:∃ k,k=w11.heap.size:=⟨_,rfl⟩
 have hr_Nc:kr<Nc:=by rw[hN];exact lt_of_block HBr.out
 have ht_Nc:kt<Nc:=by rw[hN];exact lt_of_block HBt.out
 have ha_Nc:ka<Nc:=by rw[hN];exact lt_of_block HBa.out
 have hb_Nc:kb<Nc:=by rw[hN];exact lt_of_block HBb.out
 have hg_Nc:g<Nc:=by rw[hN];exact HP.out.lt
 have he_Nc:w.heap.size<=Nc:=by omega
 refine (E.out g _ _ w11 HP.out HOP.out h3.out).mono ?_;rintro e w12 ⟨xc,rfl,hu,hp,hg⟩;replace HBr:=kG hg HBr;replace HBt:=kG hg HBt;replace HBa:=kG hg HBa;replace HBb:=kG hg HBb;replace HUa:=h_ (HUa.out.grown hg (fun h=>by omega));replace HUb:=h_ (HUb.out.grown hg (fun h=>by omega));replace HOP:=h_ (HOP.out.grown hg (by omega));replace HP:=h_ hp;replace HD:=dG HD hg;have hsz12:=HD.out.size;rw[<-hN] at hu;have HUc:=h_ (hu.mono (S':=fun b=>Nc<=b/\True) (fun b h=>⟨h,trivial⟩));clear hN hu;clear hp hg;obtain⟨ck,cnm,cot,cb,cao,cn,cq,cko,ckn,ckc,cln,ccl⟩:=xc;simp only[xv];go_upto_region 7 with fail
 obtain⟨w13,kc,hw,hkk,hb,-,HBc⟩:=newb w12 #[.int .i64 ck,.string cnm,.string cot,.bool cb,.slice cao cn cq,.slice cko ckn ckc,.int .i64 cln,.int .i64 ccl] 48;have hgc:g<kc:=by rw[hkk];exact HP.out.lt
 have hec:w.heap.size<=kc:=by omega
 have hr_c:=lk_ hkk HBr;have ht_c:=lk_ hkk HBt;have ha_c:=lk_ hkk HBa;have hb_c:=lk_ hkk HBb;replace HUa:=h_ (HUa.out.offk hkk);replace HUb:=h_ (HUb.out.offk hkk);replace HUc:=h_ (HUc.out.offk hkk);rw[hw,<-hkk];replace HBr:=kB hb HBr;replace HBt:=kB hb HBt;replace HBa:=kB hb HBa;replace HBb:=kB hb HBb;replace HP:=h_ (HP.out.below hb);replace HUa:=h_ (HUa.out.below hb);replace HUb:=h_ (HUb.out.below hb);replace HUc:=h_ (HUc.out.below hb);replace HOP:=h_ (HOP.out.below hb);replace HD:=dB HD hb;have hsz13:=HD.out.size;clear hw hb hkk;obtain⟨ct0,ct1,ct2,ct3⟩:=cl4 HBt.out;obtain⟨ca0,ca1,ca2,ca3,ca4,ca5,ca6,ca7⟩:=cl8 HBa.out;obtain⟨cb0,cb1,cb2,cb3,cb4,cb5,cb6,cb7⟩:=cl8 HBb.out;obtain⟨cc0,cc1,cc2,cc3,cc4,cc5,cc6,cc7⟩:=cl8 HBc.out;go_wp2_with fail
 clear ct0 ct1 ct2 ct3 ca0 ca1 ca2 ca3 ca4 ca5 ca6 ca7 cb0 cb1 cb2 cb3 cb4 cb5 cb6 cb7 cc0 cc1 cc2 cc3 cc4 cc5 cc6 cc7;obtain⟨w14,kkk,hw,hkk,hb,-,HBkk⟩:=newb w13 #[.int .i64 ak,.string anm,.string aot,.bool ab,.slice aao an aq,.slice ako akn akc,.int .i64 aln,.int .i64 acl,.int .i64 bk,.string bnm,.string bot,.bool bb,.slice bao bn bq,.slice bko bkn bkc,.int .i64 bln,.int .i64 bcl,.int .i64 ck,.string cnm,.string cot,.bool cb,.slice cao cn cq,.slice cko ckn ckc,.int .i64 cln,.int .i64 ccl] 48;have hgkk:g<kkk:=by rw[hkk];exact HP.out.lt
 have hekk:w.heap.size<=kkk:=by omega
 have hr_kk:=lk_ hkk HBr;have ht_kk:=lk_ hkk HBt;have ha_kk:=lk_ hkk HBa;have hb_kk:=lk_ hkk HBb;have hc_kk:=lk_ hkk HBc;replace HUa:=h_ (HUa.out.offk hkk);replace HUb:=h_ (HUb.out.offk hkk);replace HUc:=h_ (HUc.out.offk hkk);rw[hw,<-hkk];replace HBr:=kB hb HBr;replace HBt:=kB hb HBt;replace HBa:=kB hb HBa;replace HBb:=kB hb HBb;replace HBc:=kB hb HBc;replace HP:=h_ (HP.out.below hb);replace HUa:=h_ (HUa.out.below hb);replace HUb:=h_ (HUb.out.below hb);replace HUc:=h_ (HUc.out.below hb);replace HOP:=h_ (HOP.out.below hb);replace HD:=dB HD hb;clear hw hb hkk;refine (part_p 25 t (some ⟨kkk,0,none⟩) 3 3 w14).mono ?_;rintro e w15 ⟨rfl,hb⟩;replace HBr:=kB hb HBr;replace HBt:=kB hb HBt;replace HBa:=kB hb HBa;replace HBb:=kB hb HBb;replace HBc:=kB hb HBc;replace HBkk:=kB hb HBkk;replace HP:=h_ (HP.out.below hb)
 replace HUa:=h_ (HUa.out.below hb);replace HUb:=h_ (HUb.out.below hb);replace HUc:=h_ (HUc.out.below hb);replace HOP:=h_ (HOP.out.below hb);replace HD:=dB HD hb;clear hb;simp only[xv];obtain⟨z0,z1,z2,z3,z4,z5,z6,z7⟩:=cl8 HBr.out;obtain⟨fz0,fz1,fz2,fz3,fz4,fz5,fz6,fz7⟩:=fr8 HBr.out;go_wp2_with fail
 refine bodyPost_ret (v:=.agg #[.int .i64 25,.string ⟨#[]⟩,.string ⟨#[]⟩,.bool false,.slice none 0 0,.slice (some ⟨kkk,0,none⟩) 3 3,.int .i64 (t.line:Nat),.int .i64 (t.col:Nat)]) (by simp[results,Tryz.results68,go_sem,z0,z1,z2,z3,z4,z5,z6,z7]) rfl ?_;obtain⟨wz,hw⟩:∃ x,x=st8 w15 kr (.int .i64 25) (.string ⟨#[]⟩) (.string ⟨#[]⟩) (.bool false) (.slice none 0 0) (.slice (some ⟨kkk,0,none⟩) 3 3) (.int .i64 (t.line:Nat)) (.int .i64 (t.col:Nat)):=⟨_,rfl⟩
 have hg:w15.grownBy wz (some kr):=by rw[hw];exact st8_grown _ _ _ _ _ _ _ _ _ _
 change TreePost w g _ _ _ (st8 w15 kr (.int .i64 25) (.string ⟨#[]⟩) (.string ⟨#[]⟩) (.bool false) (.slice none 0 0) (.slice (some ⟨kkk,0,none⟩) 3 3) (.int .i64 (t.line:Nat)) (.int .i64 (t.col:Nat)));rw[<-hw];clear z0 fz0 z1 fz1 z2 fz2 z3 fz3 z4 fz4 z5 fz5 z6 fz6 z7 fz7;replace HP:=h_ (HP.out.store HBr.out (by decide) (by omega) hg);replace HBt:=kG hg HBt;replace HBa:=kG hg HBa;replace HBb:=kG hg HBb;replace HBc:=kG hg HBc;replace HBkk:=kG hg HBkk;replace HUa:=h_ (HUa.out.grown hg (fun h=>by omega));replace HUb:=h_ (HUb.out.grown hg (fun h=>by omega));replace HUc:=h_ (HUc.out.grown hg (fun h=>by omega));replace HOP:=h_ (HOP.out.grown hg (by omega));replace HD:=dN HD hg (by omega);have hsz15:=HD.out.size;clear hw hg;have hu:U.node 25 [] [] 0 s.nx.line s.nx.col [r1.1,r2.1,r3.1]=U.node 25 [] [] 0 t.line t.col [r1.1,r2.1,r3.1]:=by rw[HNt.out]
 unfold prt;rw[hu];exact⟨⟨25,⟨#[]⟩,⟨#[]⟩,false,none,0,0,some ⟨kkk,0,none⟩,3,3,(t.line:Nat),(t.col:Nat)⟩,rfl,um_node 25 [] [] t.line t.col kkk [⟨ak,anm,aot,ab,aao,an,aq,ako,akn,akc,aln,acl⟩,⟨bk,bnm,bot,bb,bao,bn,bq,bko,bkn,bkc,bln,bcl⟩,⟨ck,cnm,cot,cb,cao,cn,cq,cko,ckn,ckc,cln,ccl⟩] [r1.1,r2.1,r3.1] 3 rfl (by omega) HBkk.out rfl (all3 (HUa.out.mono (fun b h=>by have h:((((((Na<=b/\True)/\b≠ka)/\b≠kq1)/\b≠kb)/\b≠kq2)/\b≠kc)/\b≠kkk:=h;show _<=b;omega)) (HUb.out.mono (fun b h=>by have h:((((Nb<=b/\True)/\b≠kb)/\b≠kq2)/\b≠kc)/\b≠kkk:=h;show _<=b;omega)) (HUc.out.mono (fun b h=>by have h:((Nc<=b/\True)/\b≠kc)/\b≠kkk:=h;show _<=b;omega))),HP.out,HD.out⟩
theorem assert_p (n:Nat) (E:Hid (ExprAt7 n)):AssertAt (n+1):=by
 intro g s r w hps hop hc;have HP:=h_ hps;have HOP:=h_ hop;clear hps hop;rw[cAssert] at hc;simp only[Option.bind_eq_some_iff] at hc;obtain⟨r1,h1,r2,h2,hr⟩:=hc;injection hr with hr;subst hr;have h1:=h_ h1;have h2:=h_ h2;go_enter Tryz.func70,Tryz.ntmps70
 go_upto_region 1 with fail
 obtain⟨w1,kr,hw,hkk,hb,-,HBr⟩:=newb w #[.int .i64 0,.string ⟨#[]⟩,.string ⟨#[]⟩,.bool false,.slice none 0 0,.slice none 0 0,.int .i64 0,.int .i64 0] 48;have hgr:g<kr:=by rw[hkk];exact HP.out.lt
 have her:w.heap.size<=kr:=by omega
 rw[hw,<-hkk];replace HP:=h_ (HP.out.below hb);replace HOP:=h_ (HOP.out.below hb);have HD:=h_ (below_grown hb (some g));clear hw hb hkk;go_wp2_with fail
 refine (take_p g s w1 HP.out).mono ?_;rintro e w2 ⟨rfl,hp,hg⟩;replace HBr:=kG hg HBr;replace HOP:=h_ (HOP.out.grown hg (by omega));replace HP:=h_ hp;replace HD:=dG HD hg;have hsz2:=HD.out.size;clear hp hg;simp only[tokV];obtain⟨t,hnx⟩:∃ t,t=St.nx s:=⟨_,rfl⟩
 rw[<-hnx];have HNt:=h_ hnx;clear hnx;go_upto_region 2 with fail
 obtain⟨w3,kt,hw,hkk,hb,-,HBt⟩:=newb w2 #[.int .i64 (t.kind:Nat),.string ⟨t.text.toArray⟩,.int .i64 (t.line:Nat),.int .i64 (t.col:Nat)] 103;have hgt:g<kt:=by rw[hkk];exact HP.out.lt
 have het:w.heap.size<=kt:=by omega
 have hr_t:=lk_ hkk HBr;rw[hw,<-hkk];replace HBr:=kB hb HBr;replace HP:=h_ (HP.out.below hb);replace HOP:=h_ (HOP.out.below hb);replace HD:=dB HD hb;have hsz3:=HD.out.size;clear hw hb hkk;go_wp2_with fail
 obtain⟨Na,hN⟩:∃ k,k=w3.heap.size:=⟨_,rfl⟩
 have hr_Na:kr<Na:=by rw[hN];exact lt_of_block HBr.out
 have ht_Na:kt<Na:=by rw[hN];exact lt_of_block HBt.out
 have hg_Na:g<Na:=by rw[hN];exact HP.out.lt
 have he_Na:w.heap.size<=Na:=by omega
 refine (E.out g _ _ w3 HP.out HOP.out h1.out).mono ?_;rintro e w4 ⟨xa,rfl,hu,hp,hg⟩;replace HBr:=kG hg HBr;replace HBt:=kG hg HBt;replace HOP:=h_ (HOP.out.grown hg (by omega));replace HP:=h_ hp;replace HD:=dG HD hg;have hsz4:=HD.out.size;rw[<-hN] at hu;have HUa:=h_ (hu.mono (S':=fun b=>Na<=b/\True) (fun b h=>⟨h,trivial⟩));clear hN hu;clear hp hg;obtain⟨ak,anm,aot,ab,aao,an,aq,ako,akn,akc,aln,acl⟩:=xa;simp only[xv];go_upto_region 3 with fail
 obtain⟨w5,ka,hw,hkk,hb,-,HBa⟩:=newb w4 #[.int .i64 ak,.string anm,.string aot,.bool ab,.slice aao an aq,.slice ako akn akc,.int .i64 aln,.int .i64 acl] 48;have hga:g<ka:=by rw[hkk];exact HP.out.lt
 have hea:w.heap.size<=ka:=by omega
 have hr_a:=lk_ hkk HBr;have ht_a:=lk_ hkk HBt;replace HUa:=h_ (HUa.out.offk hkk);rw[hw,<-hkk];replace HBr:=kB hb HBr;replace HBt:=kB hb HBt;replace HP:=h_ (HP.out.below hb);replace HUa:=h_ (HUa.out.below hb);replace HOP:=h_ (HOP.out.below hb);replace HD:=dB HD hb;have hsz5:=HD.out.size;clear hw hb hkk;go_wp2_with fail
 obtain⟨w6,kq1,hw,hkk,hb,-,HBq1⟩:=newb w5 #[.string ⟨#[59]⟩] 9;have hgq1:g<kq1:=by rw[hkk];exact HP.out.lt
 have heq1:w.heap.size<=kq1:=by omega
 have hr_q1:=lk_ hkk HBr;have ht_q1:=lk_ hkk HBt;have ha_q1:=lk_ hkk HBa;replace HUa:=h_ (HUa.out.offk hkk);rw[hw,<-hkk];replace HBr:=kB hb HBr;replace HBt:=kB hb HBt;replace HBa:=kB hb HBa;replace HP:=h_ (HP.out.below hb);replace HUa:=h_ (HUa.out.below hb);replace HOP:=h_ (HOP.out.below hb);replace HD:=dB HD hb;have hsz6:=HD.out.size;clear hw hb hkk;refine (expect_p g r1.2 [[59]] kq1 w6 HP.out HBq1.out (by omega) (by decide)).mono ?_;rintro e w7 ⟨⟨v,rfl⟩,hp,hg⟩;replace HBr:=kG hg HBr;replace HBt:=kG hg HBt;replace HBa:=kG hg HBa;replace HBq1:=kG hg HBq1;replace HUa:=h_ (HUa.out.grown hg (fun h=>by omega));replace HOP:=h_ (HOP.out.grown hg (by omega));replace HP:=h_ hp;replace HD:=dG HD hg;have hsz7:=HD.out.size;clear hp hg;go_wp2_with fail
 obtain⟨Nb,hN⟩:∃ k,k=w7.heap.size:=⟨_,rfl⟩
 have hr_Nb:kr<Nb:=by rw[hN];exact lt_of_block HBr.out
 have ht_Nb:kt<Nb:=by rw[hN];exact lt_of_block HBt.out
 have ha_Nb:ka<Nb:=by rw[hN];exact lt_of_block HBa.out
 have hg_Nb:g<Nb:=by rw[hN];exact HP.out.lt
 have he_Nb:w.heap.size<=Nb:=by omega
 refine (E.out g _ _ w7 HP.out HOP.out h2.out).mono ?_;rintro e w8 ⟨xb,rfl,hu,hp,hg⟩;replace HBr:=kG hg HBr;replace HBt:=kG hg HBt;replace HBa:=kG hg HBa;replace HUa:=h_ (HUa.out.grown hg (fun h=>by omega));replace HOP:=h_ (HOP.out.grown hg (by omega));replace HP:=h_ hp;replace HD:=dG HD hg;have hsz8:=HD.out.size;rw[<-hN] at hu;have HUb:=h_ (hu.mono (S':=fun b=>Nb<=b/\True) (fun b h=>⟨h,trivial⟩));clear hN hu;clear hp hg;obtain⟨bk,bnm,bot,bb,bao,bn,bq,bko,bkn,bkc,bln,bcl⟩:=xb;simp only[xv];go_upto_region 5 with fail
 obtain⟨w9,kb,hw,hkk,hb,-,HBb⟩:=newb w8 #[.int .i64 bk,.string bnm,.string bot,.bool bb,.slice bao bn bq,.slice bko bkn bkc,.int .i64 bln,.int .i64 bcl] 48;have hgb:g<kb:=by rw[hkk];exact HP.out.lt
 have heb:w.heap.size<=kb:=by omega
 have hr_b:=lk_ hkk HBr;have ht_b:=lk_ hkk HBt;have ha_b:=lk_ hkk HBa;replace HUa:=h_ (HUa.out.offk hkk);replace HUb:=h_ (HUb.out.offk hkk);rw[hw,<-hkk];replace HBr:=kB hb HBr;replace HBt:=kB hb HBt;replace HBa:=kB hb HBa;replace HP:=h_ (HP.out.below hb);replace HUa:=h_ (HUa.out.below hb);replace HUb:=h_ (HUb.out.below hb);replace HOP:=h_ (HOP.out.below hb);replace HD:=dB HD hb;have hsz9:=HD.out.size;clear hw hb hkk;obtain⟨ct0,ct1,ct2,ct3⟩:=cl4 HBt.out;obtain⟨ca0,ca1,ca2,ca3,ca4,ca5,ca6,ca7⟩:=cl8 HBa.out;obtain⟨cb0,cb1,cb2,cb3,cb4,cb5,cb6,cb7⟩:=cl8 HBb.out;go_wp2_with fail
 clear ct0 ct1 ct2 ct3 ca0 ca1 ca2 ca3 ca4 ca5 ca6 ca7 cb0 cb1 cb2 cb3 cb4 cb5 cb6 cb7;obtain⟨w10,kkk,hw,hkk,hb,-,HBkk⟩:=newb w9 #[.int .i64 ak,.string anm,.string aot,.bool ab,.slice aao an aq,.slice ako akn akc,.int .i64 aln,.int .i64 acl,.int .i64 bk,.string bnm,.string bot,.bool bb,.slice bao bn bq,.slice bko bkn bkc,.int .i64 bln,.int .i64 bcl] 48;have hgkk:g<kkk:=by rw[hkk];exact HP.out.lt
 have hekk:w.heap.size<=kkk:=by omega
 have hr_kk:=lk_ hkk HBr;have ht_kk:=lk_ hkk HBt;have ha_kk:=lk_ hkk HBa;have hb_kk:=lk_ hkk HBb;replace HUa:=h_ (HUa.out.offk hkk);replace HUb:=h_ (HUb.out.offk hkk);rw[hw,<-hkk];replace HBr:=kB hb HBr;replace HBt:=kB hb HBt;replace HBa:=kB hb HBa;replace HBb:=kB hb HBb;replace HP:=h_ (HP.out.below hb);replace HUa:=h_ (HUa.out.below hb);replace HUb:=h_ (HUb.out.below hb);replace HOP:=h_ (HOP.out.below hb);replace HD:=dB HD hb;clear hw hb hkk;refine (part_p 28 t (some ⟨kkk,0,none⟩) 2 2 w10).mono ?_;rintro e w11 ⟨rfl,hb⟩;replace HBr:=kB hb HBr;replace HBt:=kB hb HBt;replace HBa:=kB hb HBa;replace HBb:=kB hb HBb;replace HBkk:=kB hb HBkk;replace HP:=h_ (HP.out.below hb);replace HUa:=h_ (HUa.out.below hb);replace HUb:=h_ (HUb.out.below hb);replace HOP:=h_ (HOP.out.below hb);replace HD:=dB HD hb;clear hb;simp only[xv]
 obtain⟨z0,z1,z2,z3,z4,z5,z6,z7⟩:=cl8 HBr.out;obtain⟨fz0,fz1,fz2,fz3,fz4,fz5,fz6,fz7⟩:=fr8 HBr.out;go_wp2_with fail
 refine bodyPost_ret (v:=.agg #[.int .i64 28,.string ⟨#[]⟩,.string ⟨#[]⟩,.bool false,.slice none 0 0,.slice (some ⟨kkk,0,none⟩) 2 2,.int .i64 (t.line:Nat),.int .i64 (t.col:Nat)]) (by simp[results,Tryz.results70,go_sem,z0,z1,z2,z3,z4,z5,z6,z7]) rfl ?_;obtain⟨wz,hw⟩:∃ x,x=st8 w11 kr (.int .i64 28) (.string ⟨#[]⟩) (.string ⟨#[]⟩) (.bool false) (.slice none 0 0) (.slice (some ⟨kkk,0,none⟩) 2 2) (.int .i64 (t.line:Nat)) (.int .i64 (t.col:Nat)):=⟨_,rfl⟩
 have hg:w11.grownBy wz (some kr):=by rw[hw];exact st8_grown _ _ _ _ _ _ _ _ _ _
 change TreePost w g _ _ _ (st8 w11 kr (.int .i64 28) (.string ⟨#[]⟩) (.string ⟨#[]⟩) (.bool false) (.slice none 0 0) (.slice (some ⟨kkk,0,none⟩) 2 2) (.int .i64 (t.line:Nat)) (.int .i64 (t.col:Nat)));rw[<-hw];clear z0 fz0 z1 fz1 z2 fz2 z3 fz3 z4 fz4 z5 fz5 z6 fz6 z7 fz7;replace HP:=h_ (HP.out.store HBr.out (by decide) (by omega) hg);replace HBt:=kG hg HBt;replace HBa:=kG hg HBa;replace HBb:=kG hg HBb;replace HBkk:=kG hg HBkk;replace HUa:=h_ (HUa.out.grown hg (fun h=>by omega));replace HUb:=h_ (HUb.out.grown hg (fun h=>by omega));replace HOP:=h_ (HOP.out.grown hg (by omega));replace HD:=dN HD hg (by omega);have hsz11:=HD.out.size;clear hw hg;have hu:U.node 28 [] [] 0 s.nx.line s.nx.col [r1.1,r2.1]=U.node 28 [] [] 0 t.line t.col [r1.1,r2.1]:=by rw[HNt.out]
 unfold prt;rw[hu];exact⟨⟨28,⟨#[]⟩,⟨#[]⟩,false,none,0,0,some ⟨kkk,0,none⟩,2,2,(t.line:Nat),(t.col:Nat)⟩,rfl,um_node 28 [] [] t.line t.col kkk [⟨ak,anm,aot,ab,aao,an,aq,ako,akn,akc,aln,acl⟩,⟨bk,bnm,bot,bb,bao,bn,bq,bko,bkn,bkc,bln,bcl⟩] [r1.1,r2.1] 2 rfl (by omega) HBkk.out rfl (all2 (HUa.out.mono (fun b h=>by have h:((((Na<=b/\True)/\b≠ka)/\b≠kq1)/\b≠kb)/\b≠kkk:=h;show _<=b;omega)) (HUb.out.mono (fun b h=>by have h:((Nb<=b/\True)/\b≠kb)/\b≠kkk:=h;show _<=b;omega))),HP.out,HD.out⟩
theorem match_p (n:Nat) (E:Hid (ExprAt7 n)):MatchAt (n+1):=by
 intro g s r w hps hop hc;have HP:=h_ hps;have HOP:=h_ hop;clear hps hop;rw[cMatch] at hc;simp only[Option.bind_eq_some_iff] at hc;obtain⟨r1,h1,r2,h2,r3,h3,hr⟩:=hc;injection hr with hr;subst hr;have h1:=h_ h1;have h2:=h_ h2;have h3:=h_ h3;go_enter Tryz.func69,Tryz.ntmps69
 go_upto_region 1 with fail
 obtain⟨w1,kr,hw,hkk,hb,-,HBr⟩:=newb w #[.int .i64 0,.string ⟨#[]⟩,.string ⟨#[]⟩,.bool false,.slice none 0 0,.slice none 0 0,.int .i64 0,.int .i64 0] 48;have hgr:g<kr:=by rw[hkk];exact HP.out.lt
 have her:w.heap.size<=kr:=by omega
 rw[hw,<-hkk];replace HP:=h_ (HP.out.below hb);replace HOP:=h_ (HOP.out.below hb);have HD:=h_ (below_grown hb (some g));clear hw hb hkk;go_wp2_with fail
 refine (take_p g s w1 HP.out).mono ?_;rintro e w2 ⟨rfl,hp,hg⟩;replace HBr:=kG hg HBr;replace HOP:=h_ (HOP.out.grown hg (by omega));replace HP:=h_ hp;replace HD:=dG HD hg;have hsz2:=HD.out.size;clear hp hg;simp only[tokV];obtain⟨t,hnx⟩:∃ t,t=St.nx s:=⟨_,rfl⟩
 rw[<-hnx];have HNt:=h_ hnx;clear hnx;go_upto_region 2 with fail
 obtain⟨w3,kt,hw,hkk,hb,-,HBt⟩:=newb w2 #[.int .i64 (t.kind:Nat),.string ⟨t.text.toArray⟩,.int .i64 (t.line:Nat),.int .i64 (t.col:Nat)] 103;have hgt:g<kt:=by rw[hkk];exact HP.out.lt
 have het:w.heap.size<=kt:=by omega
 have hr_t:=lk_ hkk HBr;rw[hw,<-hkk];replace HBr:=kB hb HBr;replace HP:=h_ (HP.out.below hb);replace HOP:=h_ (HOP.out.below hb);replace HD:=dB HD hb;have hsz3:=HD.out.size;clear hw hb hkk;go_wp2_with fail
 obtain⟨Na,hN⟩:∃ k,k=w3.heap.size:=⟨_,rfl⟩
 have hr_Na:kr<Na:=by rw[hN];exact lt_of_block HBr.out
 have ht_Na:kt<Na:=by rw[hN];exact lt_of_block HBt.out
 have hg_Na:g<Na:=by rw[hN];exact HP.out.lt
 have he_Na:w.heap.size<=Na:=by omega
 refine (E.out g _ _ w3 HP.out HOP.out h1.out).mono ?_;rintro e w4 ⟨xa,rfl,hu,hp,hg⟩;replace HBr:=kG hg HBr;replace HBt:=kG hg HBt;replace HOP:=h_ (HOP.out.grown hg (by omega));replace HP:=h_ hp;replace HD:=dG HD hg;have hsz4:=HD.out.size;rw[<-hN] at hu;have HUa:=h_ (hu.mono (S':=fun b=>Na<=b/\True) (fun b h=>⟨h,trivial⟩));clear hN hu;clear hp hg;obtain⟨ak,anm,aot,ab,aao,an,aq,ako,akn,akc,aln,acl⟩:=xa;simp only[xv];go_upto_region 3 with fail
 obtain⟨w5,ka,hw,hkk,hb,-,HBa⟩:=newb w4 #[.int .i64 ak,.string anm,.string aot,.bool ab,.slice aao an aq,.slice ako akn akc,.int .i64 aln,.int .i64 acl] 48;have hga:g<ka:=by rw[hkk];exact HP.out.lt
 have hea:w.heap.size<=ka:=by omega
 have hr_a:=lk_ hkk HBr;have ht_a:=lk_ hkk HBt;replace HUa:=h_ (HUa.out.offk hkk);rw[hw,<-hkk];replace HBr:=kB hb HBr;replace HBt:=kB hb HBt;replace HP:=h_ (HP.out.below hb);replace HUa:=h_ (HUa.out.below hb);replace HOP:=h_ (HOP.out.below hb);replace HD:=dB HD hb;have hsz5:=HD.out.size;clear hw hb hkk;go_wp2_with fail
 obtain⟨w6,kq1,hw,hkk,hb,-,HBq1⟩:=newb w5 #[.string ⟨#[119,105,116,104]⟩,.string ⟨#[91,93]⟩,.string ⟨#[45,62]⟩] 9;have hgq1:g<kq1:=by rw[hkk];exact HP.out.lt
 have heq1:w.heap.size<=kq1:=by omega
 have hr_q1:=lk_ hkk HBr;have ht_q1:=lk_ hkk HBt;have ha_q1:=lk_ hkk HBa;replace HUa:=h_ (HUa.out.offk hkk);rw[hw,<-hkk];replace HBr:=kB hb HBr;replace HBt:=kB hb HBt;replace HBa:=kB hb HBa;replace HP:=h_ (HP.out.below hb);replace HUa:=h_ (HUa.out.below hb);replace HOP:=h_ (HOP.out.below hb);replace HD:=dB HD hb;have hsz6:=HD.out.size;clear hw hb hkk;refine (expect_p g r1.2 [[119,105,116,104],[91,93],[45,62]] kq1 w6 HP.out HBq1.out (by omega) (by decide)).mono ?_;rintro e w7 ⟨⟨v,rfl⟩,hp,hg⟩;replace HBr:=kG hg HBr;replace HBt:=kG hg HBt;replace HBa:=kG hg HBa;replace HBq1:=kG hg HBq1;replace HUa:=h_ (HUa.out.grown hg (fun h=>by omega));replace HOP:=h_ (HOP.out.grown hg (by omega));replace HP:=h_ hp;replace HD:=dG HD hg;have hsz7:=HD.out.size;clear hp hg;go_wp2_with fail
 obtain⟨Nb,hN⟩:∃ k,k=w7.heap.size:=⟨_,rfl⟩
 have hr_Nb:kr<Nb:=by rw[hN];exact lt_of_block HBr.out
 have ht_Nb:kt<Nb:=by rw[hN];exact lt_of_block HBt.out
 have ha_Nb:ka<Nb:=by rw[hN];exact lt_of_block HBa.out
 have hg_Nb:g<Nb:=by rw[hN];exact HP.out.lt
 have he_Nb:w.heap.size<=Nb:=by omega
 refine (E.out g _ _ w7 HP.out HOP.out h2.out).mono ?_;rintro e w8 ⟨xb,rfl,hu,hp,hg⟩;replace HBr:=kG hg HBr;replace HBt:=kG hg HBt;replace HBa:=kG hg HBa;replace HUa:=h_ (HUa.out.grown hg (fun h=>by omega));replace HOP:=h_ (HOP.out.grown hg (by omega));replace HP:=h_ hp;replace HD:=dG HD hg;have hsz8:=HD.out.size;rw[<-hN] at hu;have HUb:=h_ (hu.mono (S':=fun b=>Nb<=b/\True) (fun b h=>⟨h,trivial⟩));clear hN hu;clear hp hg;obtain⟨bk,bnm,bot,bb,bao,bn,bq,bko,bkn,bkc,bln,bcl⟩:=xb;simp only[xv];go_upto_region 5 with fail
 obtain⟨w9,kb,hw,hkk,hb,-,HBb⟩:=newb w8 #[.int .i64 bk,.string bnm,.string bot,.bool bb,.slice bao bn bq,.slice bko bkn bkc,.int .i64 bln,.int .i64 bcl] 48;have hgb:g<kb:=by rw[hkk];exact HP.out.lt
 have heb:w.heap.size<=kb:=by omega
 have hr_b:=lk_ hkk HBr;have ht_b:=lk_ hkk HBt;have ha_b:=lk_ hkk HBa;replace HUa:=h_ (HUa.out.offk hkk);replace HUb:=h_ (HUb.out.offk hkk);rw[hw,<-hkk];replace HBr:=kB hb HBr;replace HBt:=kB hb HBt;replace HBa:=kB hb HBa;replace HP:=h_ (HP.out.below hb);replace HUa:=h_ (HUa.out.below hb);replace HUb:=h_ (HUb.out.below hb);replace HOP:=h_ (HOP.out.below hb);replace HD:=dB HD hb;have hsz9:=HD.out.size;clear hw hb hkk;go_wp2_with fail
 obtain⟨w10,kq2,hw,hkk,hb,-,HBq2⟩:=newb w9 #[.string ⟨#[124]⟩] 9;have hgq2:g<kq2:=by rw[hkk];exact HP.out.lt
 have heq2:w.heap.size<=kq2:=by omega
 have hr_q2:=lk_ hkk HBr;have ht_q2:=lk_ hkk HBt;have ha_q2:=lk_ hkk HBa;have hb_q2:=lk_ hkk HBb;replace HUa:=h_ (HUa.out.offk hkk);replace HUb:=h_ (HUb.out.offk hkk);rw[hw,<-hkk];replace HBr:=kB hb HBr;replace HBt:=kB hb HBt;replace HBa:=kB hb HBa;replace HBb:=kB hb HBb;replace HP:=h_ (HP.out.below hb);replace HUa:=h_ (HUa.out.below hb);replace HUb:=h_ (HUb.out.below hb);replace HOP:=h_ (HOP.out.below hb);replace HD:=dB HD hb;have hsz10:=HD.out.size;clear hw hb hkk;refine (expect_p g r2.2 [[124]] kq2 w10 HP.out HBq2.out (by omega) (by decide)).mono ?_;rintro e w11 ⟨⟨v,rfl⟩,hp,hg⟩;replace HBr:=kG hg HBr;replace HBt:=kG hg HBt;replace HBa:=kG hg HBa;replace HBb:=kG hg HBb;replace HBq2:=kG hg HBq2;replace HUa:=h_ (HUa.out.grown hg (fun h=>by omega));replace HUb:=h_ (HUb.out.grown hg (fun h=>by omega))
 replace HOP:=h_ (HOP.out.grown hg (by omega));replace HP:=h_ hp;replace HD:=dG HD hg;clear hp hg;go_wp2_with fail
 refine (name_p g (r2.2.exp wBar) w11 HP.out).mono ?_;rintro e w12 ⟨rfl,hp,hg⟩;replace HBr:=kG hg HBr;replace HBt:=kG hg HBt;replace HBa:=kG hg HBa;replace HBb:=kG hg HBb;replace HUa:=h_ (HUa.out.grown hg (fun h=>by omega));replace HUb:=h_ (HUb.out.grown hg (fun h=>by omega));replace HOP:=h_ (HOP.out.grown hg (by omega));replace HP:=h_ hp;replace HD:=dG HD hg;have hsz12:=HD.out.size;clear hp hg;simp only[tokV];obtain⟨nh,hnx⟩:∃ t,t=St.nx (r2.2.exp wBar):=⟨_,rfl⟩
 rw[<-hnx];have HNnh:=h_ hnx;clear hnx;go_upto_region 7 with fail
 obtain⟨w13,knh,hw,hkk,hb,-,HBnh⟩:=newb w12 #[.int .i64 (nh.kind:Nat),.string ⟨nh.text.toArray⟩,.int .i64 (nh.line:Nat),.int .i64 (nh.col:Nat)] 103;have hgnh:g<knh:=by rw[hkk];exact HP.out.lt
 have henh:w.heap.size<=knh:=by omega
 have hr_nh:=lk_ hkk HBr;have ht_nh:=lk_ hkk HBt;have ha_nh:=lk_ hkk HBa;have hb_nh:=lk_ hkk HBb;replace HUa:=h_ (HUa.out.offk hkk);replace HUb:=h_ (HUb.out.offk hkk);rw[hw,<-hkk];replace HBr:=kB hb HBr;replace HBt:=kB hb HBt;replace HBa:=kB hb HBa;replace HBb:=kB hb HBb;replace HP:=h_ (HP.out.below hb);replace HUa:=h_ (HUa.out.below hb);replace HUb:=h_ (HUb.out.below hb);replace HOP:=h_ (HOP.out.below hb);replace HD:=dB HD hb;have hsz13:=HD.out.size;clear hw hb hkk;go_wp2_with fail
 obtain⟨w14,kq3,hw,hkk,hb,-,HBq3⟩:=newb w13 #[.string ⟨#[58,58]⟩] 9;have hgq3:g<kq3:=by rw[hkk];exact HP.out.lt
 have heq3:w.heap.size<=kq3:=by omega
 have hr_q3:=lk_ hkk HBr;have ht_q3:=lk_ hkk HBt;have ha_q3:=lk_ hkk HBa;have hb_q3:=lk_ hkk HBb;have hnh_q3:=lk_ hkk HBnh;replace HUa:=h_ (HUa.out.offk hkk);replace HUb:=h_ (HUb.out.offk hkk);rw[hw,<-hkk];replace HBr:=kB hb HBr;replace HBt:=kB hb HBt;replace HBa:=kB hb HBa;replace HBb:=kB hb HBb;replace HBnh:=kB hb HBnh;replace HP:=h_ (HP.out.below hb);replace HUa:=h_ (HUa.out.below hb);replace HUb:=h_ (HUb.out.below hb);replace HOP:=h_ (HOP.out.below hb);replace HD:=dB HD hb;have hsz14:=HD.out.size;clear hw hb hkk;refine (expect_p g (r2.2.exp wBar).name [[58,58]] kq3 w14 HP.out HBq3.out (by omega) (by decide)).mono ?_;rintro e w15 ⟨⟨v,rfl⟩,hp,hg⟩;replace HBr:=kG hg HBr;replace HBt:=kG hg HBt;replace HBa:=kG hg HBa;replace HBb:=kG hg HBb;replace HBnh:=kG hg HBnh;replace HBq3:=kG hg HBq3
 replace HUa:=h_ (HUa.out.grown hg (fun h=>by omega));replace HUb:=h_ (HUb.out.grown hg (fun h=>by omega));replace HOP:=h_ (HOP.out.grown hg (by omega));replace HP:=h_ hp;replace HD:=dG HD hg;clear hp hg;go_wp2_with fail
 refine (name_p g (((r2.2.exp wBar).name).exp wCons) w15 HP.out).mono ?_;rintro e w16 ⟨rfl,hp,hg⟩;replace HBr:=kG hg HBr;replace HBt:=kG hg HBt;replace HBa:=kG hg HBa;replace HBb:=kG hg HBb;replace HBnh:=kG hg HBnh;replace HUa:=h_ (HUa.out.grown hg (fun h=>by omega));replace HUb:=h_ (HUb.out.grown hg (fun h=>by omega));replace HOP:=h_ (HOP.out.grown hg (by omega));replace HP:=h_ hp;replace HD:=dG HD hg;have hsz16:=HD.out.size;clear hp hg;simp only[tokV];obtain⟨nt,hnx⟩:∃ t,t=St.nx (((r2.2.exp wBar).name).exp wCons):=⟨_,rfl⟩
 rw[<-hnx];have HNnt:=h_ hnx;clear hnx;go_upto_region 9 with fail
 obtain⟨w17,knt,hw,hkk,hb,-,HBnt⟩:=newb w16 #[.int .i64 (nt.kind:Nat),.string ⟨nt.text.toArray⟩,.int .i64 (nt.line:Nat),.int .i64 (nt.col:Nat)] 103;have hgnt:g<knt:=by rw[hkk];exact HP.out.lt
 have hent:w.heap.size<=knt:=by omega
 have hr_nt:=lk_ hkk HBr;have ht_nt:=lk_ hkk HBt;have ha_nt:=lk_ hkk HBa;have hb_nt:=lk_ hkk HBb;have hnh_nt:=lk_ hkk HBnh;replace HUa:=h_ (HUa.out.offk hkk);replace HUb:=h_ (HUb.out.offk hkk);rw[hw,<-hkk];replace HBr:=kB hb HBr;replace HBt:=kB hb HBt;replace HBa:=kB hb HBa;replace HBb:=kB hb HBb;replace HBnh:=kB hb HBnh;replace HP:=h_ (HP.out.below hb);replace HUa:=h_ (HUa.out.below hb);replace HUb:=h_ (HUb.out.below hb);replace HOP:=h_ (HOP.out.below hb);replace HD:=dB HD hb;have hsz17:=HD.out.size;clear hw hb hkk;go_wp2_with fail
 obtain⟨w18,kq4,hw,hkk,hb,-,HBq4⟩:=newb w17 #[.string ⟨#[45,62]⟩] 9;have hgq4:g<kq4:=by rw[hkk];exact HP.out.lt
 have heq4:w.heap.size<=kq4:=by omega
 have hr_q4:=lk_ hkk HBr;have ht_q4:=lk_ hkk HBt;have ha_q4:=lk_ hkk HBa;have hb_q4:=lk_ hkk HBb;have hnh_q4:=lk_ hkk HBnh;have hnt_q4:=lk_ hkk HBnt;replace HUa:=h_ (HUa.out.offk hkk);replace HUb:=h_ (HUb.out.offk hkk);rw[hw,<-hkk];replace HBr:=kB hb HBr;replace HBt:=kB hb HBt;replace HBa:=kB hb HBa;replace HBb:=kB hb HBb;replace HBnh:=kB hb HBnh;replace HBnt:=kB hb HBnt;replace HP:=h_ (HP.out.below hb);replace HUa:=h_ (HUa.out.below hb);replace HUb:=h_ (HUb.out.below hb);replace HOP:=h_ (HOP.out.below hb);replace HD:=dB HD hb;have hsz18:=HD.out.size;clear hw hb hkk;refine (expect_p g (((r2.2.exp wBar).name).exp wCons).name [[45,62]] kq4 w18 HP.out HBq4.out (by omega) (by decide)).mono ?_;rintro e w19 ⟨⟨v,rfl⟩,hp,hg⟩;replace HBr:=kG hg HBr;replace HBt:=kG hg HBt;replace HBa:=kG hg HBa;replace HBb:=kG hg HBb;replace HBnh:=kG hg HBnh
 replace HBnt:=kG hg HBnt;replace HBq4:=kG hg HBq4;replace HUa:=h_ (HUa.out.grown hg (fun h=>by omega));replace HUb:=h_ (HUb.out.grown hg (fun h=>by omega));replace HOP:=h_ (HOP.out.grown hg (by omega));replace HP:=h_ hp;replace HD:=dG HD hg;have hsz19:=HD.out.size;clear hp hg;go_wp2_with fail
 obtain⟨Nc,hN⟩:∃ k,k=w19.heap.size:=⟨_,rfl⟩
 have hr_Nc:kr<Nc:=by rw[hN];exact lt_of_block HBr.out
 have ht_Nc:kt<Nc:=by rw[hN];exact lt_of_block HBt.out
 have ha_Nc:ka<Nc:=by rw[hN];exact lt_of_block HBa.out
 have hb_Nc:kb<Nc:=by rw[hN];exact lt_of_block HBb.out
 have hnh_Nc:knh<Nc:=by rw[hN];exact lt_of_block HBnh.out
 have hnt_Nc:knt<Nc:=by rw[hN];exact lt_of_block HBnt.out
 have hg_Nc:g<Nc:=by rw[hN];exact HP.out.lt
 have he_Nc:w.heap.size<=Nc:=by omega
 refine (E.out g _ _ w19 HP.out HOP.out h3.out).mono ?_;rintro e w20 ⟨xc,rfl,hu,hp,hg⟩;replace HBr:=kG hg HBr;replace HBt:=kG hg HBt;replace HBa:=kG hg HBa;replace HBb:=kG hg HBb;replace HBnh:=kG hg HBnh;replace HBnt:=kG hg HBnt;replace HUa:=h_ (HUa.out.grown hg (fun h=>by omega));replace HUb:=h_ (HUb.out.grown hg (fun h=>by omega));replace HOP:=h_ (HOP.out.grown hg (by omega));replace HP:=h_ hp;replace HD:=dG HD hg;have hsz20:=HD.out.size;rw[<-hN] at hu;have HUc:=h_ (hu.mono (S':=fun b=>Nc<=b/\True) (fun b h=>⟨h,trivial⟩));clear hN hu;clear hp hg;obtain⟨ck,cnm,cot,cb,cao,cn,cq,cko,ckn,ckc,cln,ccl⟩:=xc;simp only[xv];go_upto_region 11 with fail
 obtain⟨w21,kc,hw,hkk,hb,-,HBc⟩:=newb w20 #[.int .i64 ck,.string cnm,.string cot,.bool cb,.slice cao cn cq,.slice cko ckn ckc,.int .i64 cln,.int .i64 ccl] 48;have hgc:g<kc:=by rw[hkk];exact HP.out.lt
 have hec:w.heap.size<=kc:=by omega
 have hr_c:=lk_ hkk HBr;have ht_c:=lk_ hkk HBt;have ha_c:=lk_ hkk HBa;have hb_c:=lk_ hkk HBb;have hnh_c:=lk_ hkk HBnh;have hnt_c:=lk_ hkk HBnt;replace HUa:=h_ (HUa.out.offk hkk);replace HUb:=h_ (HUb.out.offk hkk);replace HUc:=h_ (HUc.out.offk hkk);rw[hw,<-hkk];replace HBr:=kB hb HBr;replace HBt:=kB hb HBt;replace HBa:=kB hb HBa;replace HBb:=kB hb HBb;replace HBnh:=kB hb HBnh;replace HBnt:=kB hb HBnt;replace HP:=h_ (HP.out.below hb);replace HUa:=h_ (HUa.out.below hb);replace HUb:=h_ (HUb.out.below hb);replace HUc:=h_ (HUc.out.below hb);replace HOP:=h_ (HOP.out.below hb);replace HD:=dB HD hb;have hsz21:=HD.out.size;clear hw hb hkk;obtain⟨ct0,ct1,ct2,ct3⟩:=cl4 HBt.out;obtain⟨ca0,ca1,ca2,ca3,ca4,ca5,ca6,ca7⟩:=cl8 HBa.out;obtain⟨cb0,cb1,cb2,cb3,cb4,cb5,cb6,cb7⟩:=cl8 HBb.out
 obtain⟨cc0,cc1,cc2,cc3,cc4,cc5,cc6,cc7⟩:=cl8 HBc.out;go_wp2_with fail
 clear ct0 ct1 ct2 ct3 ca0 ca1 ca2 ca3 ca4 ca5 ca6 ca7 cb0 cb1 cb2 cb3 cb4 cb5 cb6 cb7 cc0 cc1 cc2 cc3 cc4 cc5 cc6 cc7;obtain⟨w22,kkk,hw,hkk,hb,-,HBkk⟩:=newb w21 #[.int .i64 ak,.string anm,.string aot,.bool ab,.slice aao an aq,.slice ako akn akc,.int .i64 aln,.int .i64 acl,.int .i64 bk,.string bnm,.string bot,.bool bb,.slice bao bn bq,.slice bko bkn bkc,.int .i64 bln,.int .i64 bcl,.int .i64 ck,.string cnm,.string cot,.bool cb,.slice cao cn cq,.slice cko ckn ckc,.int .i64 cln,.int .i64 ccl] 48;have hgkk:g<kkk:=by rw[hkk];exact HP.out.lt
 have hekk:w.heap.size<=kkk:=by omega
 have hr_kk:=lk_ hkk HBr;have ht_kk:=lk_ hkk HBt;have ha_kk:=lk_ hkk HBa;have hb_kk:=lk_ hkk HBb;have hnh_kk:=lk_ hkk HBnh;have hnt_kk:=lk_ hkk HBnt;have hc_kk:=lk_ hkk HBc;replace HUa:=h_ (HUa.out.offk hkk);replace HUb:=h_ (HUb.out.offk hkk);replace HUc:=h_ (HUc.out.offk hkk);rw[hw,<-hkk];replace HBr:=kB hb HBr;replace HBt:=kB hb HBt;replace HBa:=kB hb HBa;replace HBb:=kB hb HBb;replace HBnh:=kB hb HBnh;replace HBnt:=kB hb HBnt;replace HBc:=kB hb HBc;replace HP:=h_ (HP.out.below hb);replace HUa:=h_ (HUa.out.below hb);replace HUb:=h_ (HUb.out.below hb);replace HUc:=h_ (HUc.out.below hb);replace HOP:=h_ (HOP.out.below hb);replace HD:=dB HD hb;clear hw hb hkk;refine (part_p 27 t (some ⟨kkk,0,none⟩) 3 3 w22).mono ?_;rintro e w23 ⟨rfl,hb⟩;replace HBr:=kB hb HBr;replace HBt:=kB hb HBt;replace HBa:=kB hb HBa;replace HBb:=kB hb HBb
 replace HBnh:=kB hb HBnh;replace HBnt:=kB hb HBnt;replace HBc:=kB hb HBc;replace HBkk:=kB hb HBkk;replace HP:=h_ (HP.out.below hb);replace HUa:=h_ (HUa.out.below hb);replace HUb:=h_ (HUb.out.below hb);replace HUc:=h_ (HUc.out.below hb);replace HOP:=h_ (HOP.out.below hb);replace HD:=dB HD hb;have hsz23:=HD.out.size;clear hb;simp only[xv];go_upto_region 12 with fail
 obtain⟨w24,kv,hw,hkk,hb,-,HBv⟩:=newb w23 #[.int .i64 27,.string ⟨#[]⟩,.string ⟨#[]⟩,.bool false,.slice none 0 0,.slice (some ⟨kkk,0,none⟩) 3 3,.int .i64 (t.line:Nat),.int .i64 (t.col:Nat)] 48;have hgv:g<kv:=by rw[hkk];exact HP.out.lt
 have hev:w.heap.size<=kv:=by omega
 have hr_v:=lk_ hkk HBr;have ht_v:=lk_ hkk HBt;have ha_v:=lk_ hkk HBa;have hb_v:=lk_ hkk HBb;have hnh_v:=lk_ hkk HBnh;have hnt_v:=lk_ hkk HBnt;have hc_v:=lk_ hkk HBc;have hkk_v:=lk_ hkk HBkk;replace HUa:=h_ (HUa.out.offk hkk);replace HUb:=h_ (HUb.out.offk hkk);replace HUc:=h_ (HUc.out.offk hkk);rw[hw,<-hkk];replace HBr:=kB hb HBr;replace HBt:=kB hb HBt;replace HBa:=kB hb HBa;replace HBb:=kB hb HBb;replace HBnh:=kB hb HBnh;replace HBnt:=kB hb HBnt;replace HBc:=kB hb HBc;replace HBkk:=kB hb HBkk;replace HP:=h_ (HP.out.below hb);replace HUa:=h_ (HUa.out.below hb);replace HUb:=h_ (HUb.out.below hb);replace HUc:=h_ (HUc.out.below hb);replace HOP:=h_ (HOP.out.below hb);replace HD:=dB HD hb;clear hw hb hkk;obtain⟨cnh0,cnh1,cnh2,cnh3⟩:=cl4 HBnh.out;obtain⟨cnt0,cnt1,cnt2,cnt3⟩:=cl4 HBnt.out
 obtain⟨cv0,cv1,cv2,cv3,cv4,cv5,cv6,cv7⟩:=cl8 HBv.out;obtain⟨fcv0,fcv1,fcv2,fcv3,fcv4,fcv5,fcv6,fcv7⟩:=fr8 HBv.out
 go_region
 obtain⟨w25,hw⟩:∃ x,x=((w24.setCell ⟨kv,1,none⟩ (.string ⟨nh.text.toArray⟩)).setCell ⟨kv,2,none⟩ (.string ⟨nt.text.toArray⟩)).drew:=⟨_,rfl⟩
 have hg:w24.grownBy w25 (some kv):=by rw[hw];exact grown_drew (grown_tr (grown_set _ kv 1 _) (grown_set _ kv 2 _))
 have hv:w25.heap[kv]?=some (.cells #[.int .i64 27,.string ⟨nh.text.toArray⟩,.string ⟨nt.text.toArray⟩,.bool false,.slice none 0 0,.slice (some ⟨kkk,0,none⟩) 3 3,.int .i64 (t.line:Nat),.int .i64 (t.col:Nat)] 48 (0,0)):=by rw[hw];show ((w24.setCell ⟨kv,1,none⟩ (.string ⟨nh.text.toArray⟩)).setCell ⟨kv,2,none⟩ (.string ⟨nt.text.toArray⟩)).heap[kv]?=_;rw[heap_setCell_same _ kv 2 _ _ _ (heap_setCell_same _ kv 1 _ _ _ HBv.out)];rfl
 rw[<-hw];clear cnh0 cnh1 cnh2 cnh3 cnt0 cnt1 cnt2 cnt3 cv0 fcv0 cv1 fcv1 cv2 fcv2 cv3 fcv3 cv4 fcv4 cv5 fcv5 cv6 fcv6 cv7 fcv7;replace HP:=h_ (HP.out.store HBv.out (by decide) (by omega) hg);replace HBr:=kG hg HBr;replace HBt:=kG hg HBt;replace HBa:=kG hg HBa;replace HBb:=kG hg HBb;replace HBnh:=kG hg HBnh;replace HBnt:=kG hg HBnt;replace HBc:=kG hg HBc;replace HBkk:=kG hg HBkk;replace HUa:=h_ (HUa.out.grown hg (fun h=>by omega));replace HUb:=h_ (HUb.out.grown hg (fun h=>by omega));replace HUc:=h_ (HUc.out.grown hg (fun h=>by omega));replace HOP:=h_ (HOP.out.grown hg (by omega));replace HD:=dN HD hg (by omega);replace HBv:=h_ hv;clear hw hg hv;obtain⟨cv0,cv1,cv2,cv3,cv4,cv5,cv6,cv7⟩:=cl8 HBv.out;obtain⟨z0,z1,z2,z3,z4,z5,z6,z7⟩:=cl8 HBr.out;obtain⟨fz0,fz1,fz2,fz3,fz4,fz5,fz6,fz7⟩:=fr8 HBr.out;go_wp2_with fail
 refine bodyPost_ret (v:=.agg #[.int .i64 27,.string ⟨nh.text.toArray⟩,.string ⟨nt.text.toArray⟩,.bool false,.slice none 0 0,.slice (some ⟨kkk,0,none⟩) 3 3,.int .i64 (t.line:Nat),.int .i64 (t.col:Nat)]) (by simp[results,Tryz.results69,go_sem,z0,z1,z2,z3,z4,z5,z6,z7]) rfl ?_;obtain⟨wz,hw⟩:∃ x,x=st8 w25 kr (.int .i64 27) (.string ⟨nh.text.toArray⟩) (.string ⟨nt.text.toArray⟩) (.bool false) (.slice none 0 0) (.slice (some ⟨kkk,0,none⟩) 3 3) (.int .i64 (t.line:Nat)) (.int .i64 (t.col:Nat)):=⟨_,rfl⟩
 have hg:w25.grownBy wz (some kr):=by rw[hw];exact st8_grown _ _ _ _ _ _ _ _ _ _
 change TreePost w g _ _ _ (st8 w25 kr (.int .i64 27) (.string ⟨nh.text.toArray⟩) (.string ⟨nt.text.toArray⟩) (.bool false) (.slice none 0 0) (.slice (some ⟨kkk,0,none⟩) 3 3) (.int .i64 (t.line:Nat)) (.int .i64 (t.col:Nat)));rw[<-hw];clear cv0 cv1 cv2 cv3 cv4 cv5 cv6 cv7 z0 fz0 z1 fz1 z2 fz2 z3 fz3 z4 fz4 z5 fz5 z6 fz6 z7 fz7;replace HP:=h_ (HP.out.store HBr.out (by decide) (by omega) hg);replace HBt:=kG hg HBt;replace HBa:=kG hg HBa;replace HBb:=kG hg HBb;replace HBnh:=kG hg HBnh;replace HBnt:=kG hg HBnt;replace HBc:=kG hg HBc;replace HBkk:=kG hg HBkk;replace HBv:=kG hg HBv;replace HUa:=h_ (HUa.out.grown hg (fun h=>by omega));replace HUb:=h_ (HUb.out.grown hg (fun h=>by omega));replace HUc:=h_ (HUc.out.grown hg (fun h=>by omega));replace HOP:=h_ (HOP.out.grown hg (by omega));replace HD:=dN HD hg (by omega);have hsz25:=HD.out.size;clear hw hg
 have hu:U.node 27 (r2.2.exp wBar).nx.text (((r2.2.exp wBar).name).exp wCons).nx.text 0 s.nx.line s.nx.col [r1.1,r2.1,r3.1]=U.node 27 nh.text nt.text 0 t.line t.col [r1.1,r2.1,r3.1]:=by rw[HNt.out,HNnh.out,HNnt.out]
 rw[hu]
 exact⟨⟨27,⟨nh.text.toArray⟩,⟨nt.text.toArray⟩,false,none,0,0,some ⟨kkk,0,none⟩,3,3,(t.line:Nat),(t.col:Nat)⟩,rfl,um_node 27 nh.text nt.text t.line t.col kkk [⟨ak,anm,aot,ab,aao,an,aq,ako,akn,akc,aln,acl⟩,⟨bk,bnm,bot,bb,bao,bn,bq,bko,bkn,bkc,bln,bcl⟩,⟨ck,cnm,cot,cb,cao,cn,cq,cko,ckn,ckc,cln,ccl⟩] [r1.1,r2.1,r3.1] 3 rfl (by omega) HBkk.out rfl (all3 (HUa.out.mono (fun b h=>by have h:(((((((((((Na<=b/\True)/\b≠ka)/\b≠kq1)/\b≠kb)/\b≠kq2)/\b≠knh)/\b≠kq3)/\b≠knt)/\b≠kq4)/\b≠kc)/\b≠kkk)/\b≠kv:=h;show _<=b;omega)) (HUb.out.mono (fun b h=>by have h:(((((((((Nb<=b/\True)/\b≠kb)/\b≠kq2)/\b≠knh)/\b≠kq3)/\b≠knt)/\b≠kq4)/\b≠kc)/\b≠kkk)/\b≠kv:=h;show _<=b;omega)) (HUc.out.mono (fun b h=>by have h:(((Nc<=b/\True)/\b≠kc)/\b≠kkk)/\b≠kv:=h;show _<=b;omega))),HP.out,HD.out⟩
theorem one_p (n:Nat) (O:Hid (OneAt n)) (A:Hid (AtomAt n)):OneAt (n+1):=by
 intro g s r w hps hop hc;have HP:=h_ hps;have HOP:=h_ hop;clear hps hop;rw[cOne] at hc
 cases hu:unOf s.nx.text with
 | none =>
  rw[hu] at hc;have HU:=h_ hu;have h1:=h_ hc;clear hu hc;go_enter Tryz.func90,Tryz.ntmps90
  go_upto_region 1 with fail
  obtain⟨w1,kr,hw,hkk,hb,-,HBr⟩:=newb w #[.int .i64 0,.string ⟨#[]⟩,.string ⟨#[]⟩,.bool false,.slice none 0 0,.slice none 0 0,.int .i64 0,.int .i64 0] 48;have hgr:g<kr:=by rw[hkk];exact HP.out.lt
  have her:w.heap.size<=kr:=by omega
  rw[hw,<-hkk];replace HP:=h_ (HP.out.below hb);replace HOP:=h_ (HOP.out.below hb);have HD:=h_ (below_grown hb (some g));clear hw hb hkk;go_wp2_with fail
  refine (next_p g s w1 HP.out).mono ?_;rintro e w2 ⟨rfl,hb⟩;replace HBr:=kB hb HBr;replace HP:=h_ (HP.out.below hb);replace HOP:=h_ (HOP.out.below hb);replace HD:=dB HD hb;have hsz2:=HD.out.size;clear hb;simp only[tokV];have hf:=field_text (s.nx.kind:Nat) (s.nx.line:Nat) (s.nx.col:Nat) ⟨s.nx.text.toArray⟩ w2;go_wp2_with fail
  refine (unary_p s.nx.text _).mono ?_;rintro e wx ⟨rfl,hx⟩;obtain rfl:=hx.symm;clear hx;rw[HU.out];clear hf;simp only[Option.getD_none,Option.isSome_none];go_wp2_with fail
  obtain⟨Na,hN⟩:∃ k,k=w2.heap.size:=⟨_,rfl⟩
  have hr_Na:kr<Na:=by rw[hN];exact lt_of_block HBr.out
  have hg_Na:g<Na:=by rw[hN];exact HP.out.lt
  have he_Na:w.heap.size<=Na:=by omega
  refine (A.out g  _ _ w2 HP.out HOP.out h1.out).mono ?_;rintro e w3 ⟨xa,rfl,hu,hp,hg⟩;replace HBr:=kG hg HBr;replace HOP:=h_ (HOP.out.grown hg (by omega));replace HP:=h_ hp;replace HD:=dG HD hg;rw[<-hN] at hu;have HUa:=h_ (hu.mono (S':=fun b=>Na<=b/\True) (fun b h=>⟨h,trivial⟩));clear hN hu;clear hp hg;obtain⟨ak,anm,aot,ab,aao,an,aq,ako,akn,akc,aln,acl⟩:=xa;simp only[xv];obtain⟨z0,z1,z2,z3,z4,z5,z6,z7⟩:=cl8 HBr.out;obtain⟨fz0,fz1,fz2,fz3,fz4,fz5,fz6,fz7⟩:=fr8 HBr.out;go_wp2_with fail
  refine bodyPost_ret (v:=.agg #[.int .i64 ak,.string anm,.string aot,.bool ab,.slice aao an aq,.slice ako akn akc,.int .i64 aln,.int .i64 acl]) (by simp[results,Tryz.results90,go_sem,z0,z1,z2,z3,z4,z5,z6,z7]) rfl ?_;obtain⟨wz,hw⟩:∃ x,x=st8 w3 kr (.int .i64 ak) (.string anm) (.string aot) (.bool ab) (.slice aao an aq) (.slice ako akn akc) (.int .i64 aln) (.int .i64 acl):=⟨_,rfl⟩
  have hg:w3.grownBy wz (some kr):=by rw[hw];exact st8_grown _ _ _ _ _ _ _ _ _ _
  change TreePost w g _ _ _ (st8 w3 kr (.int .i64 ak) (.string anm) (.string aot) (.bool ab) (.slice aao an aq) (.slice ako akn akc) (.int .i64 aln) (.int .i64 acl));rw[<-hw];clear z0 fz0 z1 fz1 z2 fz2 z3 fz3 z4 fz4 z5 fz5 z6 fz6 z7 fz7;replace HP:=h_ (HP.out.store HBr.out (by decide) (by omega) hg);replace HUa:=h_ (HUa.out.grown hg (fun h=>by omega));replace HOP:=h_ (HOP.out.grown hg (by omega));replace HD:=dN HD hg (by omega);have hsz3:=HD.out.size;clear hw hg;exact⟨⟨ak,anm,aot,ab,aao,an,aq,ako,akn,akc,aln,acl⟩,rfl,(HUa.out.mono (fun b h=>by have h:Na<=b/\True:=h;show _<=b;omega)),HP.out,HD.out⟩
 | some kd =>
  rw[hu] at hc;simp only[Option.bind_eq_some_iff] at hc;obtain⟨r1,h1,hr⟩:=hc;injection hr with hr;subst hr;have HU:=h_ hu;have h1:=h_ h1;clear hu;go_enter Tryz.func90,Tryz.ntmps90
  go_upto_region 1 with fail
  obtain⟨w1,kr,hw,hkk,hb,-,HBr⟩:=newb w #[.int .i64 0,.string ⟨#[]⟩,.string ⟨#[]⟩,.bool false,.slice none 0 0,.slice none 0 0,.int .i64 0,.int .i64 0] 48;have hgr:g<kr:=by rw[hkk];exact HP.out.lt
  have her:w.heap.size<=kr:=by omega
  rw[hw,<-hkk];replace HP:=h_ (HP.out.below hb);replace HOP:=h_ (HOP.out.below hb);have HD:=h_ (below_grown hb (some g));clear hw hb hkk;go_wp2_with fail
  refine (next_p g s w1 HP.out).mono ?_;rintro e w2 ⟨rfl,hb⟩;replace HBr:=kB hb HBr;replace HP:=h_ (HP.out.below hb);replace HOP:=h_ (HOP.out.below hb);replace HD:=dB HD hb;clear hb;simp only[tokV];have hf:=field_text (s.nx.kind:Nat) (s.nx.line:Nat) (s.nx.col:Nat) ⟨s.nx.text.toArray⟩ w2;go_wp2_with fail
  refine (unary_p s.nx.text _).mono ?_;rintro e wx ⟨rfl,hx⟩;obtain rfl:=hx.symm;clear hx;rw[HU.out];clear hf;simp only[Option.getD_some,Option.isSome_some];go_wp2_with fail
  refine (take_p g s w2 HP.out).mono ?_;rintro e w3 ⟨rfl,hp,hg⟩;replace HBr:=kG hg HBr;replace HOP:=h_ (HOP.out.grown hg (by omega));replace HP:=h_ hp;replace HD:=dG HD hg;have hsz3:=HD.out.size;clear hp hg;simp only[tokV];obtain⟨t,hnx⟩:∃ t,t=St.nx s:=⟨_,rfl⟩
  rw[<-hnx];have HNt:=h_ hnx;clear hnx;go_upto_region 5 with fail
  obtain⟨w4,kt,hw,hkk,hb,-,HBt⟩:=newb w3 #[.int .i64 (t.kind:Nat),.string ⟨t.text.toArray⟩,.int .i64 (t.line:Nat),.int .i64 (t.col:Nat)] 103;have hgt:g<kt:=by rw[hkk];exact HP.out.lt
  have het:w.heap.size<=kt:=by omega
  have hr_t:=lk_ hkk HBr;rw[hw,<-hkk];replace HBr:=kB hb HBr;replace HP:=h_ (HP.out.below hb);replace HOP:=h_ (HOP.out.below hb);replace HD:=dB HD hb;have hsz4:=HD.out.size;clear hw hb hkk;go_wp2_with fail
  obtain⟨Na,hN⟩:∃ k,k=w4.heap.size:=⟨_,rfl⟩
  have hr_Na:kr<Na:=by rw[hN];exact lt_of_block HBr.out
  have ht_Na:kt<Na:=by rw[hN];exact lt_of_block HBt.out
  have hg_Na:g<Na:=by rw[hN];exact HP.out.lt
  have he_Na:w.heap.size<=Na:=by omega
  refine (O.out g _ _ w4 HP.out HOP.out h1.out).mono ?_;rintro e w5 ⟨xa,rfl,hu,hp,hg⟩;replace HBr:=kG hg HBr;replace HBt:=kG hg HBt;replace HOP:=h_ (HOP.out.grown hg (by omega));replace HP:=h_ hp;replace HD:=dG HD hg;have hsz5:=HD.out.size;rw[<-hN] at hu;have HUa:=h_ (hu.mono (S':=fun b=>Na<=b/\True) (fun b h=>⟨h,trivial⟩));clear hN hu;clear hp hg;obtain⟨ak,anm,aot,ab,aao,an,aq,ako,akn,akc,aln,acl⟩:=xa;simp only[xv];go_upto_region 6 with fail
  obtain⟨w6,ka,hw,hkk,hb,-,HBa⟩:=newb w5 #[.int .i64 ak,.string anm,.string aot,.bool ab,.slice aao an aq,.slice ako akn akc,.int .i64 aln,.int .i64 acl] 48;have hga:g<ka:=by rw[hkk];exact HP.out.lt
  have hea:w.heap.size<=ka:=by omega
  have hr_a:=lk_ hkk HBr;have ht_a:=lk_ hkk HBt;replace HUa:=h_ (HUa.out.offk hkk);rw[hw,<-hkk];replace HBr:=kB hb HBr;replace HBt:=kB hb HBt;replace HP:=h_ (HP.out.below hb);replace HUa:=h_ (HUa.out.below hb);replace HOP:=h_ (HOP.out.below hb);replace HD:=dB HD hb;have hsz6:=HD.out.size;clear hw hb hkk;obtain⟨ct0,ct1,ct2,ct3⟩:=cl4 HBt.out;obtain⟨ca0,ca1,ca2,ca3,ca4,ca5,ca6,ca7⟩:=cl8 HBa.out;go_wp2_with fail
  clear ct0 ct1 ct2 ct3 ca0 ca1 ca2 ca3 ca4 ca5 ca6 ca7;obtain⟨w7,kkk,hw,hkk,hb,-,HBkk⟩:=newb w6 #[.int .i64 ak,.string anm,.string aot,.bool ab,.slice aao an aq,.slice ako akn akc,.int .i64 aln,.int .i64 acl] 48;have hgkk:g<kkk:=by rw[hkk];exact HP.out.lt
  have hekk:w.heap.size<=kkk:=by omega
  have hr_kk:=lk_ hkk HBr;have ht_kk:=lk_ hkk HBt;have ha_kk:=lk_ hkk HBa;replace HUa:=h_ (HUa.out.offk hkk);rw[hw,<-hkk];replace HBr:=kB hb HBr;replace HBt:=kB hb HBt;replace HBa:=kB hb HBa;replace HP:=h_ (HP.out.below hb);replace HUa:=h_ (HUa.out.below hb);replace HOP:=h_ (HOP.out.below hb);replace HD:=dB HD hb;clear hw hb hkk;refine (part_p kd t (some ⟨kkk,0,none⟩) 1 1 w7).mono ?_;rintro e w8 ⟨rfl,hb⟩;replace HBr:=kB hb HBr;replace HBt:=kB hb HBt;replace HBa:=kB hb HBa;replace HBkk:=kB hb HBkk;replace HP:=h_ (HP.out.below hb);replace HUa:=h_ (HUa.out.below hb);replace HOP:=h_ (HOP.out.below hb);replace HD:=dB HD hb;clear hb;simp only[xv];obtain⟨z0,z1,z2,z3,z4,z5,z6,z7⟩:=cl8 HBr.out;obtain⟨fz0,fz1,fz2,fz3,fz4,fz5,fz6,fz7⟩:=fr8 HBr.out;go_wp2_with fail
  refine bodyPost_ret (v:=.agg #[.int .i64 (kd:Nat),.string ⟨#[]⟩,.string ⟨#[]⟩,.bool false,.slice none 0 0,.slice (some ⟨kkk,0,none⟩) 1 1,.int .i64 (t.line:Nat),.int .i64 (t.col:Nat)]) (by simp[results,Tryz.results90,go_sem,z0,z1,z2,z3,z4,z5,z6,z7]) rfl ?_;obtain⟨wz,hw⟩:∃ x,x=st8 w8 kr (.int .i64 (kd:Nat)) (.string ⟨#[]⟩) (.string ⟨#[]⟩) (.bool false) (.slice none 0 0) (.slice (some ⟨kkk,0,none⟩) 1 1) (.int .i64 (t.line:Nat)) (.int .i64 (t.col:Nat)):=⟨_,rfl⟩
  have hg:w8.grownBy wz (some kr):=by rw[hw];exact st8_grown _ _ _ _ _ _ _ _ _ _
  change TreePost w g _ _ _ (st8 w8 kr (.int .i64 (kd:Nat)) (.string ⟨#[]⟩) (.string ⟨#[]⟩) (.bool false) (.slice none 0 0) (.slice (some ⟨kkk,0,none⟩) 1 1) (.int .i64 (t.line:Nat)) (.int .i64 (t.col:Nat)));rw[<-hw];clear z0 fz0 z1 fz1 z2 fz2 z3 fz3 z4 fz4 z5 fz5 z6 fz6 z7 fz7;replace HP:=h_ (HP.out.store HBr.out (by decide) (by omega) hg);replace HBt:=kG hg HBt;replace HBa:=kG hg HBa;replace HBkk:=kG hg HBkk;replace HUa:=h_ (HUa.out.grown hg (fun h=>by omega));replace HOP:=h_ (HOP.out.grown hg (by omega));replace HD:=dN HD hg (by omega);have hsz8:=HD.out.size;clear hw hg;have hu:U.node kd [] [] 0 s.nx.line s.nx.col [r1.1]=U.node kd [] [] 0 t.line t.col [r1.1]:=by rw[HNt.out]
  unfold prt;rw[hu];exact⟨⟨(kd:Nat),⟨#[]⟩,⟨#[]⟩,false,none,0,0,some ⟨kkk,0,none⟩,1,1,(t.line:Nat),(t.col:Nat)⟩,rfl,um_node kd [] [] t.line t.col kkk [⟨ak,anm,aot,ab,aao,an,aq,ako,akn,akc,aln,acl⟩] [r1.1] 1 rfl (by omega) HBkk.out rfl (all1 (HUa.out.mono (fun b h=>by have h:((Na<=b/\True)/\b≠ka)/\b≠kkk:=h;show _<=b;omega))),HP.out,HD.out⟩
theorem expr_p (n:Nat) (LE:Hid (LetAt n)) (IE:Hid (IfAt n)) (ME:Hid (MatchAt n)) (AE:Hid (AssertAt n)) (BE:Hid (BinAt n)):ExprAt7 (n+1):=by
 intro g s r w hps hop hc;have HP:=h_ hps;have HOP:=h_ hop;clear hps hop;rw[cExpr] at hc
 by_cases q0:s.is wLet=true
 ·rw[if_pos q0] at hc;have h1:=h_ hc;have e0:(s.nx.text==[108,101,116])=true:=q0;clear hc q0;go_enter Tryz.func46,Tryz.ntmps46
  go_upto_region 1 with fail
  obtain⟨w1,kr,hw,hkk,hb,-,HBr⟩:=newb w #[.int .i64 0,.string ⟨#[]⟩,.string ⟨#[]⟩,.bool false,.slice none 0 0,.slice none 0 0,.int .i64 0,.int .i64 0] 48;have hgr:g<kr:=by rw[hkk];exact HP.out.lt
  have her:w.heap.size<=kr:=by omega
  rw[hw,<-hkk];replace HP:=h_ (HP.out.below hb);replace HOP:=h_ (HOP.out.below hb);have HD:=h_ (below_grown hb (some g));clear hw hb hkk;go_wp2_with fail
  refine (next_p g s w1 HP.out).mono ?_;rintro e w2 ⟨rfl,hb⟩;replace HBr:=kB hb HBr;replace HP:=h_ (HP.out.below hb);replace HOP:=h_ (HOP.out.below hb);replace HD:=dB HD hb;have hsz2:=HD.out.size;clear hb;simp only[tokV];have hf:=field_text (s.nx.kind:Nat) (s.nx.line:Nat) (s.nx.col:Nat) ⟨s.nx.text.toArray⟩ w2;go_wp2_with fail
  clear hf;obtain⟨Na,hN⟩:∃ k,k=w2.heap.size:=⟨_,rfl⟩
  have hr_Na:kr<Na:=by rw[hN];exact lt_of_block HBr.out
  have hg_Na:g<Na:=by rw[hN];exact HP.out.lt
  have he_Na:w.heap.size<=Na:=by omega
  refine (LE.out g  _ _ w2 HP.out HOP.out h1.out).mono ?_;rintro e w3 ⟨xa,rfl,hu,hp,hg⟩;replace HBr:=kG hg HBr;replace HOP:=h_ (HOP.out.grown hg (by omega));replace HP:=h_ hp;replace HD:=dG HD hg;rw[<-hN] at hu;have HUa:=h_ (hu.mono (S':=fun b=>Na<=b/\True) (fun b h=>⟨h,trivial⟩));clear hN hu;clear hp hg;obtain⟨ak,anm,aot,ab,aao,an,aq,ako,akn,akc,aln,acl⟩:=xa;simp only[xv];obtain⟨z0,z1,z2,z3,z4,z5,z6,z7⟩:=cl8 HBr.out;obtain⟨fz0,fz1,fz2,fz3,fz4,fz5,fz6,fz7⟩:=fr8 HBr.out;go_wp2_with fail
  refine bodyPost_ret (v:=.agg #[.int .i64 ak,.string anm,.string aot,.bool ab,.slice aao an aq,.slice ako akn akc,.int .i64 aln,.int .i64 acl]) (by simp[results,Tryz.results46,go_sem,z0,z1,z2,z3,z4,z5,z6,z7]) rfl ?_;obtain⟨wz,hw⟩:∃ x,x=st8 w3 kr (.int .i64 ak) (.string anm) (.string aot) (.bool ab) (.slice aao an aq) (.slice ako akn akc) (.int .i64 aln) (.int .i64 acl):=⟨_,rfl⟩
  have hg:w3.grownBy wz (some kr):=by rw[hw];exact st8_grown _ _ _ _ _ _ _ _ _ _
  change TreePost w g _ _ _ (st8 w3 kr (.int .i64 ak) (.string anm) (.string aot) (.bool ab) (.slice aao an aq) (.slice ako akn akc) (.int .i64 aln) (.int .i64 acl));rw[<-hw];clear z0 fz0 z1 fz1 z2 fz2 z3 fz3 z4 fz4 z5 fz5 z6 fz6 z7 fz7;replace HP:=h_ (HP.out.store HBr.out (by decide) (by omega) hg);replace HUa:=h_ (HUa.out.grown hg (fun h=>by omega));replace HOP:=h_ (HOP.out.grown hg (by omega));replace HD:=dN HD hg (by omega);have hsz3:=HD.out.size;clear hw hg;exact⟨⟨ak,anm,aot,ab,aao,an,aq,ako,akn,akc,aln,acl⟩,rfl,(HUa.out.mono (fun b h=>by have h:Na<=b/\True:=h;show _<=b;omega)),HP.out,HD.out⟩
 rw[if_neg q0] at hc;have e0:(s.nx.text==[108,101,116])=false:=by simpa [St.is] using q0
 by_cases q1:s.is wIf=true
 ·rw[if_pos q1] at hc;have h1:=h_ hc;have e1:(s.nx.text==[105,102])=true:=q1;clear hc q0 q1;go_enter Tryz.func46,Tryz.ntmps46
  go_upto_region 1 with fail
  obtain⟨w1,kr,hw,hkk,hb,-,HBr⟩:=newb w #[.int .i64 0,.string ⟨#[]⟩,.string ⟨#[]⟩,.bool false,.slice none 0 0,.slice none 0 0,.int .i64 0,.int .i64 0] 48;have hgr:g<kr:=by rw[hkk];exact HP.out.lt
  have her:w.heap.size<=kr:=by omega
  rw[hw,<-hkk];replace HP:=h_ (HP.out.below hb);replace HOP:=h_ (HOP.out.below hb);have HD:=h_ (below_grown hb (some g));clear hw hb hkk;go_wp2_with fail
  refine (next_p g s w1 HP.out).mono ?_;rintro e w2 ⟨rfl,hb⟩;replace HBr:=kB hb HBr;replace HP:=h_ (HP.out.below hb);replace HOP:=h_ (HOP.out.below hb);replace HD:=dB HD hb;have hsz2:=HD.out.size;clear hb;simp only[tokV];have hf:=field_text (s.nx.kind:Nat) (s.nx.line:Nat) (s.nx.col:Nat) ⟨s.nx.text.toArray⟩ w2;go_wp2_with fail
  clear hf;obtain⟨Na,hN⟩:∃ k,k=w2.heap.size:=⟨_,rfl⟩
  have hr_Na:kr<Na:=by rw[hN];exact lt_of_block HBr.out
  have hg_Na:g<Na:=by rw[hN];exact HP.out.lt
  have he_Na:w.heap.size<=Na:=by omega
  refine (IE.out g  _ _ w2 HP.out HOP.out h1.out).mono ?_;rintro e w3 ⟨xa,rfl,hu,hp,hg⟩;replace HBr:=kG hg HBr;replace HOP:=h_ (HOP.out.grown hg (by omega));replace HP:=h_ hp;replace HD:=dG HD hg;rw[<-hN] at hu;have HUa:=h_ (hu.mono (S':=fun b=>Na<=b/\True) (fun b h=>⟨h,trivial⟩));clear hN hu;clear hp hg;obtain⟨ak,anm,aot,ab,aao,an,aq,ako,akn,akc,aln,acl⟩:=xa;simp only[xv];obtain⟨z0,z1,z2,z3,z4,z5,z6,z7⟩:=cl8 HBr.out;obtain⟨fz0,fz1,fz2,fz3,fz4,fz5,fz6,fz7⟩:=fr8 HBr.out;go_wp2_with fail
  refine bodyPost_ret (v:=.agg #[.int .i64 ak,.string anm,.string aot,.bool ab,.slice aao an aq,.slice ako akn akc,.int .i64 aln,.int .i64 acl]) (by simp[results,Tryz.results46,go_sem,z0,z1,z2,z3,z4,z5,z6,z7]) rfl ?_;obtain⟨wz,hw⟩:∃ x,x=st8 w3 kr (.int .i64 ak) (.string anm) (.string aot) (.bool ab) (.slice aao an aq) (.slice ako akn akc) (.int .i64 aln) (.int .i64 acl):=⟨_,rfl⟩
  have hg:w3.grownBy wz (some kr):=by rw[hw];exact st8_grown _ _ _ _ _ _ _ _ _ _
  change TreePost w g _ _ _ (st8 w3 kr (.int .i64 ak) (.string anm) (.string aot) (.bool ab) (.slice aao an aq) (.slice ako akn akc) (.int .i64 aln) (.int .i64 acl));rw[<-hw];clear z0 fz0 z1 fz1 z2 fz2 z3 fz3 z4 fz4 z5 fz5 z6 fz6 z7 fz7;replace HP:=h_ (HP.out.store HBr.out (by decide) (by omega) hg);replace HUa:=h_ (HUa.out.grown hg (fun h=>by omega));replace HOP:=h_ (HOP.out.grown hg (by omega));replace HD:=dN HD hg (by omega);have hsz3:=HD.out.size;clear hw hg;exact⟨⟨ak,anm,aot,ab,aao,an,aq,ako,akn,akc,aln,acl⟩,rfl,(HUa.out.mono (fun b h=>by have h:Na<=b/\True:=h;show _<=b;omega)),HP.out,HD.out⟩
 rw[if_neg q1] at hc;have e1:(s.nx.text==[105,102])=false:=by simpa [St.is] using q1
 by_cases q2:s.is wMatch=true
 ·rw[if_pos q2] at hc;have h1:=h_ hc;have e2:(s.nx.text==[109,97,116,99,104])=true:=q2;clear hc q0 q1 q2;go_enter Tryz.func46,Tryz.ntmps46
  go_upto_region 1 with fail
  obtain⟨w1,kr,hw,hkk,hb,-,HBr⟩:=newb w #[.int .i64 0,.string ⟨#[]⟩,.string ⟨#[]⟩,.bool false,.slice none 0 0,.slice none 0 0,.int .i64 0,.int .i64 0] 48;have hgr:g<kr:=by rw[hkk];exact HP.out.lt
  have her:w.heap.size<=kr:=by omega
  rw[hw,<-hkk];replace HP:=h_ (HP.out.below hb);replace HOP:=h_ (HOP.out.below hb);have HD:=h_ (below_grown hb (some g));clear hw hb hkk;go_wp2_with fail
  refine (next_p g s w1 HP.out).mono ?_;rintro e w2 ⟨rfl,hb⟩;replace HBr:=kB hb HBr;replace HP:=h_ (HP.out.below hb);replace HOP:=h_ (HOP.out.below hb);replace HD:=dB HD hb;have hsz2:=HD.out.size;clear hb;simp only[tokV];have hf:=field_text (s.nx.kind:Nat) (s.nx.line:Nat) (s.nx.col:Nat) ⟨s.nx.text.toArray⟩ w2;go_wp2_with fail
  clear hf;obtain⟨Na,hN⟩:∃ k,k=w2.heap.size:=⟨_,rfl⟩
  have hr_Na:kr<Na:=by rw[hN];exact lt_of_block HBr.out
  have hg_Na:g<Na:=by rw[hN];exact HP.out.lt
  have he_Na:w.heap.size<=Na:=by omega
  refine (ME.out g  _ _ w2 HP.out HOP.out h1.out).mono ?_;rintro e w3 ⟨xa,rfl,hu,hp,hg⟩;replace HBr:=kG hg HBr;replace HOP:=h_ (HOP.out.grown hg (by omega));replace HP:=h_ hp;replace HD:=dG HD hg;rw[<-hN] at hu;have HUa:=h_ (hu.mono (S':=fun b=>Na<=b/\True) (fun b h=>⟨h,trivial⟩));clear hN hu;clear hp hg;obtain⟨ak,anm,aot,ab,aao,an,aq,ako,akn,akc,aln,acl⟩:=xa;simp only[xv];obtain⟨z0,z1,z2,z3,z4,z5,z6,z7⟩:=cl8 HBr.out;obtain⟨fz0,fz1,fz2,fz3,fz4,fz5,fz6,fz7⟩:=fr8 HBr.out;go_wp2_with fail
  refine bodyPost_ret (v:=.agg #[.int .i64 ak,.string anm,.string aot,.bool ab,.slice aao an aq,.slice ako akn akc,.int .i64 aln,.int .i64 acl]) (by simp[results,Tryz.results46,go_sem,z0,z1,z2,z3,z4,z5,z6,z7]) rfl ?_;obtain⟨wz,hw⟩:∃ x,x=st8 w3 kr (.int .i64 ak) (.string anm) (.string aot) (.bool ab) (.slice aao an aq) (.slice ako akn akc) (.int .i64 aln) (.int .i64 acl):=⟨_,rfl⟩
  have hg:w3.grownBy wz (some kr):=by rw[hw];exact st8_grown _ _ _ _ _ _ _ _ _ _
  change TreePost w g _ _ _ (st8 w3 kr (.int .i64 ak) (.string anm) (.string aot) (.bool ab) (.slice aao an aq) (.slice ako akn akc) (.int .i64 aln) (.int .i64 acl));rw[<-hw];clear z0 fz0 z1 fz1 z2 fz2 z3 fz3 z4 fz4 z5 fz5 z6 fz6 z7 fz7;replace HP:=h_ (HP.out.store HBr.out (by decide) (by omega) hg);replace HUa:=h_ (HUa.out.grown hg (fun h=>by omega));replace HOP:=h_ (HOP.out.grown hg (by omega));replace HD:=dN HD hg (by omega);have hsz3:=HD.out.size;clear hw hg;exact⟨⟨ak,anm,aot,ab,aao,an,aq,ako,akn,akc,aln,acl⟩,rfl,(HUa.out.mono (fun b h=>by have h:Na<=b/\True:=h;show _<=b;omega)),HP.out,HD.out⟩
 rw[if_neg q2] at hc;have e2:(s.nx.text==[109,97,116,99,104])=false:=by simpa [St.is] using q2
 by_cases q3:s.is wAssert=true
 ·rw[if_pos q3] at hc;have h1:=h_ hc;have e3:(s.nx.text==[97,115,115,101,114,116])=true:=q3;clear hc q0 q1 q2 q3;go_enter Tryz.func46,Tryz.ntmps46
  go_upto_region 1 with fail
  obtain⟨w1,kr,hw,hkk,hb,-,HBr⟩:=newb w #[.int .i64 0,.string ⟨#[]⟩,.string ⟨#[]⟩,.bool false,.slice none 0 0,.slice none 0 0,.int .i64 0,.int .i64 0] 48;have hgr:g<kr:=by rw[hkk];exact HP.out.lt
  have her:w.heap.size<=kr:=by omega
  rw[hw,<-hkk];replace HP:=h_ (HP.out.below hb);replace HOP:=h_ (HOP.out.below hb);have HD:=h_ (below_grown hb (some g));clear hw hb hkk;go_wp2_with fail
  refine (next_p g s w1 HP.out).mono ?_;rintro e w2 ⟨rfl,hb⟩;replace HBr:=kB hb HBr;replace HP:=h_ (HP.out.below hb);replace HOP:=h_ (HOP.out.below hb);replace HD:=dB HD hb;have hsz2:=HD.out.size;clear hb;simp only[tokV];have hf:=field_text (s.nx.kind:Nat) (s.nx.line:Nat) (s.nx.col:Nat) ⟨s.nx.text.toArray⟩ w2;go_wp2_with fail
  clear hf;obtain⟨Na,hN⟩:∃ k,k=w2.heap.size:=⟨_,rfl⟩
  have hr_Na:kr<Na:=by rw[hN];exact lt_of_block HBr.out
  have hg_Na:g<Na:=by rw[hN];exact HP.out.lt
  have he_Na:w.heap.size<=Na:=by omega
  refine (AE.out g  _ _ w2 HP.out HOP.out h1.out).mono ?_;rintro e w3 ⟨xa,rfl,hu,hp,hg⟩;replace HBr:=kG hg HBr;replace HOP:=h_ (HOP.out.grown hg (by omega));replace HP:=h_ hp;replace HD:=dG HD hg;rw[<-hN] at hu;have HUa:=h_ (hu.mono (S':=fun b=>Na<=b/\True) (fun b h=>⟨h,trivial⟩));clear hN hu;clear hp hg;obtain⟨ak,anm,aot,ab,aao,an,aq,ako,akn,akc,aln,acl⟩:=xa;simp only[xv];obtain⟨z0,z1,z2,z3,z4,z5,z6,z7⟩:=cl8 HBr.out;obtain⟨fz0,fz1,fz2,fz3,fz4,fz5,fz6,fz7⟩:=fr8 HBr.out;go_wp2_with fail
  refine bodyPost_ret (v:=.agg #[.int .i64 ak,.string anm,.string aot,.bool ab,.slice aao an aq,.slice ako akn akc,.int .i64 aln,.int .i64 acl]) (by simp[results,Tryz.results46,go_sem,z0,z1,z2,z3,z4,z5,z6,z7]) rfl ?_;obtain⟨wz,hw⟩:∃ x,x=st8 w3 kr (.int .i64 ak) (.string anm) (.string aot) (.bool ab) (.slice aao an aq) (.slice ako akn akc) (.int .i64 aln) (.int .i64 acl):=⟨_,rfl⟩
  have hg:w3.grownBy wz (some kr):=by rw[hw];exact st8_grown _ _ _ _ _ _ _ _ _ _
  change TreePost w g _ _ _ (st8 w3 kr (.int .i64 ak) (.string anm) (.string aot) (.bool ab) (.slice aao an aq) (.slice ako akn akc) (.int .i64 aln) (.int .i64 acl));rw[<-hw];clear z0 fz0 z1 fz1 z2 fz2 z3 fz3 z4 fz4 z5 fz5 z6 fz6 z7 fz7;replace HP:=h_ (HP.out.store HBr.out (by decide) (by omega) hg);replace HUa:=h_ (HUa.out.grown hg (fun h=>by omega));replace HOP:=h_ (HOP.out.grown hg (by omega));replace HD:=dN HD hg (by omega);have hsz3:=HD.out.size;clear hw hg;exact⟨⟨ak,anm,aot,ab,aao,an,aq,ako,akn,akc,aln,acl⟩,rfl,(HUa.out.mono (fun b h=>by have h:Na<=b/\True:=h;show _<=b;omega)),HP.out,HD.out⟩
 rw[if_neg q3] at hc;have e3:(s.nx.text==[97,115,115,101,114,116])=false:=by simpa [St.is] using q3
 have h1:=h_ hc;clear hc q0 q1 q2 q3;go_enter Tryz.func46,Tryz.ntmps46
 go_upto_region 1 with fail
 obtain⟨w1,kr,hw,hkk,hb,-,HBr⟩:=newb w #[.int .i64 0,.string ⟨#[]⟩,.string ⟨#[]⟩,.bool false,.slice none 0 0,.slice none 0 0,.int .i64 0,.int .i64 0] 48;have hgr:g<kr:=by rw[hkk];exact HP.out.lt
 have her:w.heap.size<=kr:=by omega
 rw[hw,<-hkk];replace HP:=h_ (HP.out.below hb);replace HOP:=h_ (HOP.out.below hb);have HD:=h_ (below_grown hb (some g));clear hw hb hkk;go_wp2_with fail
 refine (next_p g s w1 HP.out).mono ?_;rintro e w2 ⟨rfl,hb⟩;replace HBr:=kB hb HBr;replace HP:=h_ (HP.out.below hb);replace HOP:=h_ (HOP.out.below hb);replace HD:=dB HD hb;have hsz2:=HD.out.size;clear hb;simp only[tokV];have hf:=field_text (s.nx.kind:Nat) (s.nx.line:Nat) (s.nx.col:Nat) ⟨s.nx.text.toArray⟩ w2;go_wp2_with fail
 clear hf;obtain⟨Na,hN⟩:∃ k,k=w2.heap.size:=⟨_,rfl⟩
 have hr_Na:kr<Na:=by rw[hN];exact lt_of_block HBr.out
 have hg_Na:g<Na:=by rw[hN];exact HP.out.lt
 have he_Na:w.heap.size<=Na:=by omega
 refine (BE.out g 1 _ _ w2 HP.out HOP.out h1.out).mono ?_;rintro e w3 ⟨xa,rfl,hu,hp,hg⟩;replace HBr:=kG hg HBr;replace HOP:=h_ (HOP.out.grown hg (by omega));replace HP:=h_ hp;replace HD:=dG HD hg;rw[<-hN] at hu;have HUa:=h_ (hu.mono (S':=fun b=>Na<=b/\True) (fun b h=>⟨h,trivial⟩));clear hN hu;clear hp hg;obtain⟨ak,anm,aot,ab,aao,an,aq,ako,akn,akc,aln,acl⟩:=xa;simp only[xv];obtain⟨z0,z1,z2,z3,z4,z5,z6,z7⟩:=cl8 HBr.out;obtain⟨fz0,fz1,fz2,fz3,fz4,fz5,fz6,fz7⟩:=fr8 HBr.out;go_wp2_with fail
 refine bodyPost_ret (v:=.agg #[.int .i64 ak,.string anm,.string aot,.bool ab,.slice aao an aq,.slice ako akn akc,.int .i64 aln,.int .i64 acl]) (by simp[results,Tryz.results46,go_sem,z0,z1,z2,z3,z4,z5,z6,z7]) rfl ?_;obtain⟨wz,hw⟩:∃ x,x=st8 w3 kr (.int .i64 ak) (.string anm) (.string aot) (.bool ab) (.slice aao an aq) (.slice ako akn akc) (.int .i64 aln) (.int .i64 acl):=⟨_,rfl⟩
 have hg:w3.grownBy wz (some kr):=by rw[hw];exact st8_grown _ _ _ _ _ _ _ _ _ _
 change TreePost w g _ _ _ (st8 w3 kr (.int .i64 ak) (.string anm) (.string aot) (.bool ab) (.slice aao an aq) (.slice ako akn akc) (.int .i64 aln) (.int .i64 acl));rw[<-hw];clear z0 fz0 z1 fz1 z2 fz2 z3 fz3 z4 fz4 z5 fz5 z6 fz6 z7 fz7;replace HP:=h_ (HP.out.store HBr.out (by decide) (by omega) hg);replace HUa:=h_ (HUa.out.grown hg (fun h=>by omega));replace HOP:=h_ (HOP.out.grown hg (by omega));replace HD:=dN HD hg (by omega);have hsz3:=HD.out.size;clear hw hg;exact⟨⟨ak,anm,aot,ab,aao,an,aq,ako,akn,akc,aln,acl⟩,rfl,(HUa.out.mono (fun b h=>by have h:Na<=b/\True:=h;show _<=b;omega)),HP.out,HD.out⟩
end Go.Proofs.YtpclhpfcbjgokaaGreatDoor
