/-
 Joined texts: PsG,PsH.
-/
import Derived.BigQuiet
import Derived.Test.YtkocdbgmckdcpaaGreatDoorJScopeSites1
import Derived.Test.YtkocdbgmckdcpaaGreatDoorJScopeSites2
set_option maxHeartbeats 32000000
namespace Go.Proofs.YtkocdbgmckdcpaaGreatDoor
open Go.RowKit
set_option maxRecDepth 100000
set_option linter.unusedVariables false
theorem let_p (n:Nat) (E:Hid (ExprAt7 n)):LetAt (n+1):=by
 intro g s r w hps hop hc;have HP:=h_ hps;have HOP:=h_ hop;clear hps hop;rw[cLet] at hc;simp only[Option.bind_eq_some_iff] at hc;obtain⟨r1,h1,r2,h2,hr⟩:=hc;injection hr with hr;subst hr;have h1:=h_ h1;have h2:=h_ h2;go_enter Tryz.func91,Tryz.ntmps91
 go_upto_region 1 with fail
 obtain⟨w1,kr,hw,hkk,hb,-,HBr⟩:=newb w #[.int .i64 0,.string ⟨#[]⟩,.string ⟨#[]⟩,.bool false,.slice none 0 0,.slice none 0 0,.int .i64 0,.int .i64 0] 46;have hgr:g<kr:=by rw[hkk];exact HP.out.lt
 have her:w.heap.size<=kr:=by omega
 rw[hw,<-hkk];replace HP:=h_ (HP.out.below hb);replace HOP:=h_ (HOP.out.below hb);have HD:=h_ (below_grown hb (some g));clear hw hb hkk;go_wp2_with fail
 refine (take_p g s w1 HP.out).mono ?_;rintro e w2 ⟨rfl,hp,hg⟩;replace HBr:=kG hg HBr;replace HOP:=h_ (HOP.out.grown hg (by omega));replace HP:=h_ hp;replace HD:=dG HD hg;have hsz2:=HD.out.size;clear hp hg;simp only[tokV];obtain⟨t,hnx⟩:∃ t,t=St.nx s:=⟨_,rfl⟩
 rw[<-hnx];have HNt:=h_ hnx;clear hnx;go_upto_region 2 with fail
 obtain⟨w3,kt,hw,hkk,hb,-,HBt⟩:=newb w2 #[.int .i64 (t.kind:Nat),.string ⟨t.text.toArray⟩,.int .i64 (t.line:Nat),.int .i64 (t.col:Nat)] 97;have hgt:g<kt:=by rw[hkk];exact HP.out.lt
 have het:w.heap.size<=kt:=by omega
 have hr_t:=lk_ hkk HBr;rw[hw,<-hkk];replace HBr:=kB hb HBr;replace HP:=h_ (HP.out.below hb);replace HOP:=h_ (HOP.out.below hb);replace HD:=dB HD hb;clear hw hb hkk;go_wp2_with fail
 refine (name_p g s.tk w3 HP.out).mono ?_;rintro e w4 ⟨rfl,hp,hg⟩;replace HBr:=kG hg HBr;replace HBt:=kG hg HBt;replace HOP:=h_ (HOP.out.grown hg (by omega));replace HP:=h_ hp;replace HD:=dG HD hg;have hsz4:=HD.out.size;clear hp hg;simp only[tokV];obtain⟨nm,hnx⟩:∃ t,t=St.nx s.tk:=⟨_,rfl⟩
 rw[<-hnx];have HNnm:=h_ hnx;clear hnx;go_upto_region 3 with fail
 obtain⟨w5,knm,hw,hkk,hb,-,HBnm⟩:=newb w4 #[.int .i64 (nm.kind:Nat),.string ⟨nm.text.toArray⟩,.int .i64 (nm.line:Nat),.int .i64 (nm.col:Nat)] 97;have hgnm:g<knm:=by rw[hkk];exact HP.out.lt
 have henm:w.heap.size<=knm:=by omega
 have hr_nm:=lk_ hkk HBr;have ht_nm:=lk_ hkk HBt;rw[hw,<-hkk];replace HBr:=kB hb HBr;replace HBt:=kB hb HBt;replace HP:=h_ (HP.out.below hb);replace HOP:=h_ (HOP.out.below hb);replace HD:=dB HD hb;have hsz5:=HD.out.size;clear hw hb hkk;go_wp2_with fail
 obtain⟨w6,kq1,hw,hkk,hb,-,HBq1⟩:=newb w5 #[.string ⟨#[61]⟩] 9;have hgq1:g<kq1:=by rw[hkk];exact HP.out.lt
 have heq1:w.heap.size<=kq1:=by omega
 have hr_q1:=lk_ hkk HBr;have ht_q1:=lk_ hkk HBt;have hnm_q1:=lk_ hkk HBnm;rw[hw,<-hkk];replace HBr:=kB hb HBr;replace HBt:=kB hb HBt;replace HBnm:=kB hb HBnm;replace HP:=h_ (HP.out.below hb);replace HOP:=h_ (HOP.out.below hb);replace HD:=dB HD hb;have hsz6:=HD.out.size;clear hw hb hkk;refine (expect_p g s.tk.name [[61]] kq1 w6 HP.out HBq1.out (by omega) (by decide)).mono ?_;rintro e w7 ⟨⟨v,rfl⟩,hp,hg⟩;replace HBr:=kG hg HBr;replace HBt:=kG hg HBt;replace HBnm:=kG hg HBnm;replace HBq1:=kG hg HBq1;replace HOP:=h_ (HOP.out.grown hg (by omega));replace HP:=h_ hp;replace HD:=dG HD hg;have hsz7:=HD.out.size;clear hp hg;go_wp2_with fail
 obtain⟨Na,hN⟩:∃ k,k=w7.heap.size:=⟨_,rfl⟩
 have hr_Na:kr<Na:=by rw[hN];exact lt_of_block HBr.out
 have ht_Na:kt<Na:=by rw[hN];exact lt_of_block HBt.out
 have hnm_Na:knm<Na:=by rw[hN];exact lt_of_block HBnm.out
 have hg_Na:g<Na:=by rw[hN];exact HP.out.lt
 have he_Na:w.heap.size<=Na:=by omega
 refine (E.out g _ _ w7 HP.out HOP.out h1.out).mono ?_;rintro e w8 ⟨xa,rfl,hu,hp,hg⟩;replace HBr:=kG hg HBr;replace HBt:=kG hg HBt;replace HBnm:=kG hg HBnm;replace HOP:=h_ (HOP.out.grown hg (by omega));replace HP:=h_ hp;replace HD:=dG HD hg;have hsz8:=HD.out.size;rw[<-hN] at hu;have HUa:=h_ (hu.mono (S':=fun b=>Na<=b/\True) (fun b h=>⟨h,trivial⟩));clear hN hu;clear hp hg;obtain⟨ak,anm,aot,ab,aao,an,aq,ako,akn,akc,aln,acl⟩:=xa;simp only[xv];go_upto_region 5 with fail
 obtain⟨w9,ka,hw,hkk,hb,-,HBa⟩:=newb w8 #[.int .i64 ak,.string anm,.string aot,.bool ab,.slice aao an aq,.slice ako akn akc,.int .i64 aln,.int .i64 acl] 46;have hga:g<ka:=by rw[hkk];exact HP.out.lt
 have hea:w.heap.size<=ka:=by omega
 have hr_a:=lk_ hkk HBr;have ht_a:=lk_ hkk HBt;have hnm_a:=lk_ hkk HBnm;replace HUa:=h_ (HUa.out.offk hkk);rw[hw,<-hkk];replace HBr:=kB hb HBr;replace HBt:=kB hb HBt;replace HBnm:=kB hb HBnm;replace HP:=h_ (HP.out.below hb);replace HUa:=h_ (HUa.out.below hb);replace HOP:=h_ (HOP.out.below hb);replace HD:=dB HD hb;have hsz9:=HD.out.size;clear hw hb hkk;go_wp2_with fail
 obtain⟨w10,kq2,hw,hkk,hb,-,HBq2⟩:=newb w9 #[.string ⟨#[105,110]⟩] 9;have hgq2:g<kq2:=by rw[hkk];exact HP.out.lt
 have heq2:w.heap.size<=kq2:=by omega
 have hr_q2:=lk_ hkk HBr;have ht_q2:=lk_ hkk HBt;have hnm_q2:=lk_ hkk HBnm;have ha_q2:=lk_ hkk HBa;replace HUa:=h_ (HUa.out.offk hkk);rw[hw,<-hkk];replace HBr:=kB hb HBr;replace HBt:=kB hb HBt;replace HBnm:=kB hb HBnm;replace HBa:=kB hb HBa;replace HP:=h_ (HP.out.below hb);replace HUa:=h_ (HUa.out.below hb);replace HOP:=h_ (HOP.out.below hb);replace HD:=dB HD hb;have hsz10:=HD.out.size;clear hw hb hkk;refine (expect_p g r1.2 [[105,110]] kq2 w10 HP.out HBq2.out (by omega) (by decide)).mono ?_;rintro e w11 ⟨⟨v,rfl⟩,hp,hg⟩;replace HBr:=kG hg HBr;replace HBt:=kG hg HBt;replace HBnm:=kG hg HBnm;replace HBa:=kG hg HBa;replace HBq2:=kG hg HBq2;replace HUa:=h_ (HUa.out.grown hg (fun h=>by omega));replace HOP:=h_ (HOP.out.grown hg (by omega));replace HP:=h_ hp;replace HD:=dG HD hg;have hsz11:=HD.out.size;clear hp hg;go_wp2_with fail
 obtain⟨Nb,hN⟩:∃ k,k=w11.heap.size:=⟨_,rfl⟩
 have hr_Nb:kr<Nb:=by rw[hN];exact lt_of_block HBr.out
 have ht_Nb:kt<Nb:=by rw[hN];exact lt_of_block HBt.out
 have hnm_Nb:knm<Nb:=by rw[hN];exact lt_of_block HBnm.out
 have ha_Nb:ka<Nb:=by rw[hN];exact lt_of_block HBa.out
 have hg_Nb:g<Nb:=by rw[hN];exact HP.out.lt
 have he_Nb:w.heap.size<=Nb:=by omega
 refine (E.out g _ _ w11 HP.out HOP.out h2.out).mono ?_;rintro e w12 ⟨xb,rfl,hu,hp,hg⟩;replace HBr:=kG hg HBr;replace HBt:=kG hg HBt;replace HBnm:=kG hg HBnm;replace HBa:=kG hg HBa;replace HUa:=h_ (HUa.out.grown hg (fun h=>by omega));replace HOP:=h_ (HOP.out.grown hg (by omega));replace HP:=h_ hp;replace HD:=dG HD hg;have hsz12:=HD.out.size;rw[<-hN] at hu;have HUb:=h_ (hu.mono (S':=fun b=>Nb<=b/\True) (fun b h=>⟨h,trivial⟩));clear hN hu;clear hp hg;obtain⟨bk,bnm,bot,bb,bao,bn,bq,bko,bkn,bkc,bln,bcl⟩:=xb;simp only[xv];go_upto_region 7 with fail
 obtain⟨w13,kb,hw,hkk,hb,-,HBb⟩:=newb w12 #[.int .i64 bk,.string bnm,.string bot,.bool bb,.slice bao bn bq,.slice bko bkn bkc,.int .i64 bln,.int .i64 bcl] 46;have hgb:g<kb:=by rw[hkk];exact HP.out.lt
 have heb:w.heap.size<=kb:=by omega
 have hr_b:=lk_ hkk HBr;have ht_b:=lk_ hkk HBt;have hnm_b:=lk_ hkk HBnm;have ha_b:=lk_ hkk HBa;replace HUa:=h_ (HUa.out.offk hkk);replace HUb:=h_ (HUb.out.offk hkk);rw[hw,<-hkk];replace HBr:=kB hb HBr;replace HBt:=kB hb HBt;replace HBnm:=kB hb HBnm;replace HBa:=kB hb HBa;replace HP:=h_ (HP.out.below hb);replace HUa:=h_ (HUa.out.below hb);replace HUb:=h_ (HUb.out.below hb);replace HOP:=h_ (HOP.out.below hb);replace HD:=dB HD hb;have hsz13:=HD.out.size;clear hw hb hkk;obtain⟨ct0,ct1,ct2,ct3⟩:=cl4 HBt.out;obtain⟨ca0,ca1,ca2,ca3,ca4,ca5,ca6,ca7⟩:=cl8 HBa.out;obtain⟨cb0,cb1,cb2,cb3,cb4,cb5,cb6,cb7⟩:=cl8 HBb.out;go_wp2_with fail
 clear ct0 ct1 ct2 ct3 ca0 ca1 ca2 ca3 ca4 ca5 ca6 ca7 cb0 cb1 cb2 cb3 cb4 cb5 cb6 cb7;obtain⟨w14,kkk,hw,hkk,hb,-,HBkk⟩:=newb w13 #[.int .i64 ak,.string anm,.string aot,.bool ab,.slice aao an aq,.slice ako akn akc,.int .i64 aln,.int .i64 acl,.int .i64 bk,.string bnm,.string bot,.bool bb,.slice bao bn bq,.slice bko bkn bkc,.int .i64 bln,.int .i64 bcl] 46;have hgkk:g<kkk:=by rw[hkk];exact HP.out.lt
 have hekk:w.heap.size<=kkk:=by omega
 have hr_kk:=lk_ hkk HBr;have ht_kk:=lk_ hkk HBt;have hnm_kk:=lk_ hkk HBnm;have ha_kk:=lk_ hkk HBa;have hb_kk:=lk_ hkk HBb;replace HUa:=h_ (HUa.out.offk hkk);replace HUb:=h_ (HUb.out.offk hkk);rw[hw,<-hkk];replace HBr:=kB hb HBr;replace HBt:=kB hb HBt;replace HBnm:=kB hb HBnm;replace HBa:=kB hb HBa;replace HBb:=kB hb HBb;replace HP:=h_ (HP.out.below hb);replace HUa:=h_ (HUa.out.below hb);replace HUb:=h_ (HUb.out.below hb);replace HOP:=h_ (HOP.out.below hb);replace HD:=dB HD hb;clear hw hb hkk;refine (part_p 26 t (some ⟨kkk,0,none⟩) 2 2 w14).mono ?_;rintro e w15 ⟨rfl,hb⟩;replace HBr:=kB hb HBr;replace HBt:=kB hb HBt;replace HBnm:=kB hb HBnm;replace HBa:=kB hb HBa;replace HBb:=kB hb HBb;replace HBkk:=kB hb HBkk;replace HP:=h_ (HP.out.below hb);replace HUa:=h_ (HUa.out.below hb);replace HUb:=h_ (HUb.out.below hb)
 replace HOP:=h_ (HOP.out.below hb);replace HD:=dB HD hb;have hsz15:=HD.out.size;clear hb;simp only[xv];go_upto_region 8 with fail
 obtain⟨w16,kv,hw,hkk,hb,-,HBv⟩:=newb w15 #[.int .i64 26,.string ⟨#[]⟩,.string ⟨#[]⟩,.bool false,.slice none 0 0,.slice (some ⟨kkk,0,none⟩) 2 2,.int .i64 (t.line:Nat),.int .i64 (t.col:Nat)] 46;have hgv:g<kv:=by rw[hkk];exact HP.out.lt
 have hev:w.heap.size<=kv:=by omega
 have hr_v:=lk_ hkk HBr;have ht_v:=lk_ hkk HBt;have hnm_v:=lk_ hkk HBnm;have ha_v:=lk_ hkk HBa;have hb_v:=lk_ hkk HBb;have hkk_v:=lk_ hkk HBkk;replace HUa:=h_ (HUa.out.offk hkk);replace HUb:=h_ (HUb.out.offk hkk);rw[hw,<-hkk];replace HBr:=kB hb HBr;replace HBt:=kB hb HBt;replace HBnm:=kB hb HBnm;replace HBa:=kB hb HBa;replace HBb:=kB hb HBb;replace HBkk:=kB hb HBkk;replace HP:=h_ (HP.out.below hb);replace HUa:=h_ (HUa.out.below hb);replace HUb:=h_ (HUb.out.below hb);replace HOP:=h_ (HOP.out.below hb);replace HD:=dB HD hb;clear hw hb hkk;obtain⟨cn0,cn1,cn2,cn3⟩:=cl4 HBnm.out;obtain⟨cv0,cv1,cv2,cv3,cv4,cv5,cv6,cv7⟩:=cl8 HBv.out;obtain⟨fcv0,fcv1,fcv2,fcv3,fcv4,fcv5,fcv6,fcv7⟩:=fr8 HBv.out;go_upto_region 9 with fail
 obtain⟨w17,hw⟩:∃ x,x=w16.setCell ⟨kv,1,none⟩ (.string ⟨nm.text.toArray⟩):=⟨_,rfl⟩
 have hg:w16.grownBy w17 (some kv):=by rw[hw];exact grown_set _ kv 1 _
 have hv:w17.heap[kv]?=some (.cells #[.int .i64 26,.string ⟨nm.text.toArray⟩,.string ⟨#[]⟩,.bool false,.slice none 0 0,.slice (some ⟨kkk,0,none⟩) 2 2,.int .i64 (t.line:Nat),.int .i64 (t.col:Nat)] 46 (0,0)):=by rw[hw,heap_setCell_same _ kv 1 _ _ _ HBv.out];rfl
 rw[<-hw];clear cn0 cn1 cn2 cn3 cv0 fcv0 cv1 fcv1 cv2 fcv2 cv3 fcv3 cv4 fcv4 cv5 fcv5 cv6 fcv6 cv7 fcv7;replace HP:=h_ (HP.out.store HBv.out (by decide) (by omega) hg);replace HBr:=kG hg HBr;replace HBt:=kG hg HBt;replace HBnm:=kG hg HBnm;replace HBa:=kG hg HBa;replace HBb:=kG hg HBb;replace HBkk:=kG hg HBkk;replace HUa:=h_ (HUa.out.grown hg (fun h=>by omega));replace HUb:=h_ (HUb.out.grown hg (fun h=>by omega));replace HOP:=h_ (HOP.out.grown hg (by omega));replace HD:=dN HD hg (by omega);replace HBv:=h_ hv;clear hw hg hv;obtain⟨cv0,cv1,cv2,cv3,cv4,cv5,cv6,cv7⟩:=cl8 HBv.out;obtain⟨z0,z1,z2,z3,z4,z5,z6,z7⟩:=cl8 HBr.out;obtain⟨fz0,fz1,fz2,fz3,fz4,fz5,fz6,fz7⟩:=fr8 HBr.out;go_wp2_with fail
 refine bodyPost_ret (v:=.agg #[.int .i64 26,.string ⟨nm.text.toArray⟩,.string ⟨#[]⟩,.bool false,.slice none 0 0,.slice (some ⟨kkk,0,none⟩) 2 2,.int .i64 (t.line:Nat),.int .i64 (t.col:Nat)]) (by simp[results,Tryz.results91,go_sem,z0,z1,z2,z3,z4,z5,z6,z7]) rfl ?_;obtain⟨wz,hw⟩:∃ x,x=st8 w17 kr (.int .i64 26) (.string ⟨nm.text.toArray⟩) (.string ⟨#[]⟩) (.bool false) (.slice none 0 0) (.slice (some ⟨kkk,0,none⟩) 2 2) (.int .i64 (t.line:Nat)) (.int .i64 (t.col:Nat)):=⟨_,rfl⟩
 have hg:w17.grownBy wz (some kr):=by rw[hw];exact st8_grown _ _ _ _ _ _ _ _ _ _
 change TreePost w g _ _ _ (st8 w17 kr (.int .i64 26) (.string ⟨nm.text.toArray⟩) (.string ⟨#[]⟩) (.bool false) (.slice none 0 0) (.slice (some ⟨kkk,0,none⟩) 2 2) (.int .i64 (t.line:Nat)) (.int .i64 (t.col:Nat)));rw[<-hw];clear cv0 cv1 cv2 cv3 cv4 cv5 cv6 cv7 z0 fz0 z1 fz1 z2 fz2 z3 fz3 z4 fz4 z5 fz5 z6 fz6 z7 fz7;replace HP:=h_ (HP.out.store HBr.out (by decide) (by omega) hg);replace HBt:=kG hg HBt;replace HBnm:=kG hg HBnm;replace HBa:=kG hg HBa;replace HBb:=kG hg HBb;replace HBkk:=kG hg HBkk;replace HBv:=kG hg HBv;replace HUa:=h_ (HUa.out.grown hg (fun h=>by omega));replace HUb:=h_ (HUb.out.grown hg (fun h=>by omega));replace HOP:=h_ (HOP.out.grown hg (by omega));replace HD:=dN HD hg (by omega);have hsz17:=HD.out.size;clear hw hg
 have hu:U.node 26 s.tk.nx.text [] 0 s.nx.line s.nx.col [r1.1,r2.1]=U.node 26 nm.text [] 0 t.line t.col [r1.1,r2.1]:=by rw[HNt.out,HNnm.out]
 rw[hu];exact⟨⟨26,⟨nm.text.toArray⟩,⟨#[]⟩,false,none,0,0,some ⟨kkk,0,none⟩,2,2,(t.line:Nat),(t.col:Nat)⟩,rfl,um_node 26 nm.text [] t.line t.col kkk [⟨ak,anm,aot,ab,aao,an,aq,ako,akn,akc,aln,acl⟩,⟨bk,bnm,bot,bb,bao,bn,bq,bko,bkn,bkc,bln,bcl⟩] [r1.1,r2.1] 2 rfl (by omega) HBkk.out rfl (all2 (HUa.out.mono (fun b h=>by have h:(((((Na<=b/\True)/\b≠ka)/\b≠kq2)/\b≠kb)/\b≠kkk)/\b≠kv:=h;show _<=b;omega)) (HUb.out.mono (fun b h=>by have h:(((Nb<=b/\True)/\b≠kb)/\b≠kkk)/\b≠kv:=h;show _<=b;omega))),HP.out,HD.out⟩
theorem if_p (n:Nat) (E:Hid (ExprAt7 n)):IfAt (n+1):=by
 intro g s r w hps hop hc;have HP:=h_ hps;have HOP:=h_ hop;clear hps hop;rw[cIf] at hc;simp only[Option.bind_eq_some_iff] at hc;obtain⟨r1,h1,r2,h2,r3,h3,hr⟩:=hc;injection hr with hr;subst hr;have h1:=h_ h1;have h2:=h_ h2;have h3:=h_ h3;go_enter Tryz.func92,Tryz.ntmps92
 go_upto_region 1 with fail
 obtain⟨w1,kr,hw,hkk,hb,-,HBr⟩:=newb w #[.int .i64 0,.string ⟨#[]⟩,.string ⟨#[]⟩,.bool false,.slice none 0 0,.slice none 0 0,.int .i64 0,.int .i64 0] 46;have hgr:g<kr:=by rw[hkk];exact HP.out.lt
 have her:w.heap.size<=kr:=by omega
 rw[hw,<-hkk];replace HP:=h_ (HP.out.below hb);replace HOP:=h_ (HOP.out.below hb);have HD:=h_ (below_grown hb (some g));clear hw hb hkk;go_wp2_with fail
 refine (take_p g s w1 HP.out).mono ?_;rintro e w2 ⟨rfl,hp,hg⟩;replace HBr:=kG hg HBr;replace HOP:=h_ (HOP.out.grown hg (by omega));replace HP:=h_ hp;replace HD:=dG HD hg;have hsz2:=HD.out.size;clear hp hg;simp only[tokV];obtain⟨t,hnx⟩:∃ t,t=St.nx s:=⟨_,rfl⟩
 rw[<-hnx];have HNt:=h_ hnx;clear hnx;go_upto_region 2 with fail
 obtain⟨w3,kt,hw,hkk,hb,-,HBt⟩:=newb w2 #[.int .i64 (t.kind:Nat),.string ⟨t.text.toArray⟩,.int .i64 (t.line:Nat),.int .i64 (t.col:Nat)] 97;have hgt:g<kt:=by rw[hkk];exact HP.out.lt
 have het:w.heap.size<=kt:=by omega
 have hr_t:=lk_ hkk HBr;rw[hw,<-hkk];replace HBr:=kB hb HBr;replace HP:=h_ (HP.out.below hb);replace HOP:=h_ (HOP.out.below hb);replace HD:=dB HD hb;have hsz3:=HD.out.size;clear hw hb hkk;go_wp2_with fail
 obtain⟨Na,hN⟩:∃ k,k=w3.heap.size:=⟨_,rfl⟩
 have hr_Na:kr<Na:=by rw[hN];exact lt_of_block HBr.out
 have ht_Na:kt<Na:=by rw[hN];exact lt_of_block HBt.out
 have hg_Na:g<Na:=by rw[hN];exact HP.out.lt
 have he_Na:w.heap.size<=Na:=by omega
 refine (E.out g _ _ w3 HP.out HOP.out h1.out).mono ?_;rintro e w4 ⟨xa,rfl,hu,hp,hg⟩;replace HBr:=kG hg HBr;replace HBt:=kG hg HBt;replace HOP:=h_ (HOP.out.grown hg (by omega));replace HP:=h_ hp;replace HD:=dG HD hg;have hsz4:=HD.out.size;rw[<-hN] at hu;have HUa:=h_ (hu.mono (S':=fun b=>Na<=b/\True) (fun b h=>⟨h,trivial⟩));clear hN hu;clear hp hg;obtain⟨ak,anm,aot,ab,aao,an,aq,ako,akn,akc,aln,acl⟩:=xa;simp only[xv];go_upto_region 3 with fail
 obtain⟨w5,ka,hw,hkk,hb,-,HBa⟩:=newb w4 #[.int .i64 ak,.string anm,.string aot,.bool ab,.slice aao an aq,.slice ako akn akc,.int .i64 aln,.int .i64 acl] 46;have hga:g<ka:=by rw[hkk];exact HP.out.lt
 have hea:w.heap.size<=ka:=by omega
 have hr_a:=lk_ hkk HBr;have ht_a:=lk_ hkk HBt;replace HUa:=h_ (HUa.out.offk hkk);rw[hw,<-hkk];replace HBr:=kB hb HBr;replace HBt:=kB hb HBt;replace HP:=h_ (HP.out.below hb);replace HUa:=h_ (HUa.out.below hb);replace HOP:=h_ (HOP.out.below hb);replace HD:=dB HD hb;have hsz5:=HD.out.size;clear hw hb hkk;go_wp2_with fail
 obtain⟨w6,kq1,hw,hkk,hb,-,HBq1⟩:=newb w5 #[.string ⟨#[116,104,101,110]⟩] 9;have hgq1:g<kq1:=by rw[hkk];exact HP.out.lt
 have heq1:w.heap.size<=kq1:=by omega
 have hr_q1:=lk_ hkk HBr;have ht_q1:=lk_ hkk HBt;have ha_q1:=lk_ hkk HBa;replace HUa:=h_ (HUa.out.offk hkk);rw[hw,<-hkk];replace HBr:=kB hb HBr;replace HBt:=kB hb HBt;replace HBa:=kB hb HBa;replace HP:=h_ (HP.out.below hb);replace HUa:=h_ (HUa.out.below hb);replace HOP:=h_ (HOP.out.below hb);replace HD:=dB HD hb;have hsz6:=HD.out.size;clear hw hb hkk;refine (expect_p g r1.2 [[116,104,101,110]] kq1 w6 HP.out HBq1.out (by omega) (by decide)).mono ?_;rintro e w7 ⟨⟨v,rfl⟩,hp,hg⟩;replace HBr:=kG hg HBr;replace HBt:=kG hg HBt;replace HBa:=kG hg HBa;replace HBq1:=kG hg HBq1;replace HUa:=h_ (HUa.out.grown hg (fun h=>by omega));replace HOP:=h_ (HOP.out.grown hg (by omega));replace HP:=h_ hp;replace HD:=dG HD hg;have hsz7:=HD.out.size;clear hp hg;go_wp2_with fail
 obtain⟨Nb,hN⟩:∃ k,k=w7.heap.size:=⟨_,rfl⟩
 have hr_Nb:kr<Nb:=by rw[hN];exact lt_of_block HBr.out
 have ht_Nb:kt<Nb:=by rw[hN];exact lt_of_block HBt.out
 have ha_Nb:ka<Nb:=by rw[hN];exact lt_of_block HBa.out
 have hg_Nb:g<Nb:=by rw[hN];exact HP.out.lt
 have he_Nb:w.heap.size<=Nb:=by omega
 refine (E.out g _ _ w7 HP.out HOP.out h2.out).mono ?_;rintro e w8 ⟨xb,rfl,hu,hp,hg⟩;replace HBr:=kG hg HBr;replace HBt:=kG hg HBt;replace HBa:=kG hg HBa;replace HUa:=h_ (HUa.out.grown hg (fun h=>by omega));replace HOP:=h_ (HOP.out.grown hg (by omega));replace HP:=h_ hp;replace HD:=dG HD hg;have hsz8:=HD.out.size;rw[<-hN] at hu;have HUb:=h_ (hu.mono (S':=fun b=>Nb<=b/\True) (fun b h=>⟨h,trivial⟩));clear hN hu;clear hp hg;obtain⟨bk,bnm,bot,bb,bao,bn,bq,bko,bkn,bkc,bln,bcl⟩:=xb;simp only[xv];go_upto_region 5 with fail
 obtain⟨w9,kb,hw,hkk,hb,-,HBb⟩:=newb w8 #[.int .i64 bk,.string bnm,.string bot,.bool bb,.slice bao bn bq,.slice bko bkn bkc,.int .i64 bln,.int .i64 bcl] 46;have hgb:g<kb:=by rw[hkk];exact HP.out.lt
 have heb:w.heap.size<=kb:=by omega
 have hr_b:=lk_ hkk HBr;have ht_b:=lk_ hkk HBt;have ha_b:=lk_ hkk HBa;replace HUa:=h_ (HUa.out.offk hkk);replace HUb:=h_ (HUb.out.offk hkk);rw[hw,<-hkk];replace HBr:=kB hb HBr;replace HBt:=kB hb HBt;replace HBa:=kB hb HBa;replace HP:=h_ (HP.out.below hb);replace HUa:=h_ (HUa.out.below hb);replace HUb:=h_ (HUb.out.below hb);replace HOP:=h_ (HOP.out.below hb);replace HD:=dB HD hb;have hsz9:=HD.out.size;clear hw hb hkk;go_wp2_with fail
 obtain⟨w10,kq2,hw,hkk,hb,-,HBq2⟩:=newb w9 #[.string ⟨#[101,108,115,101]⟩] 9;have hgq2:g<kq2:=by rw[hkk];exact HP.out.lt
 have heq2:w.heap.size<=kq2:=by omega
 have hr_q2:=lk_ hkk HBr;have ht_q2:=lk_ hkk HBt;have ha_q2:=lk_ hkk HBa;have hb_q2:=lk_ hkk HBb;replace HUa:=h_ (HUa.out.offk hkk);replace HUb:=h_ (HUb.out.offk hkk);rw[hw,<-hkk];replace HBr:=kB hb HBr;replace HBt:=kB hb HBt;replace HBa:=kB hb HBa;replace HBb:=kB hb HBb;replace HP:=h_ (HP.out.below hb);replace HUa:=h_ (HUa.out.below hb);replace HUb:=h_ (HUb.out.below hb);replace HOP:=h_ (HOP.out.below hb);replace HD:=dB HD hb;have hsz10:=HD.out.size;clear hw hb hkk;refine (expect_p g r2.2 [[101,108,115,101]] kq2 w10 HP.out HBq2.out (by omega) (by decide)).mono ?_;rintro e w11 ⟨⟨v,rfl⟩,hp,hg⟩;replace HBr:=kG hg HBr;replace HBt:=kG hg HBt;replace HBa:=kG hg HBa;replace HBb:=kG hg HBb;replace HBq2:=kG hg HBq2;replace HUa:=h_ (HUa.out.grown hg (fun h=>by omega));replace HUb:=h_ (HUb.out.grown hg (fun h=>by omega))
 replace HOP:=h_ (HOP.out.grown hg (by omega));replace HP:=h_ hp;replace HD:=dG HD hg;have hsz11:=HD.out.size;clear hp hg;go_wp2_with fail
 obtain⟨Nc,hN⟩:∃ k,k=w11.heap.size:=⟨_,rfl⟩
 have hr_Nc:kr<Nc:=by rw[hN];exact lt_of_block HBr.out
 have ht_Nc:kt<Nc:=by rw[hN];exact lt_of_block HBt.out
 have ha_Nc:ka<Nc:=by rw[hN];exact lt_of_block HBa.out
 have hb_Nc:kb<Nc:=by rw[hN];exact lt_of_block HBb.out
 have hg_Nc:g<Nc:=by rw[hN];exact HP.out.lt
 have he_Nc:w.heap.size<=Nc:=by omega
 refine (E.out g _ _ w11 HP.out HOP.out h3.out).mono ?_;rintro e w12 ⟨xc,rfl,hu,hp,hg⟩;replace HBr:=kG hg HBr;replace HBt:=kG hg HBt;replace HBa:=kG hg HBa;replace HBb:=kG hg HBb;replace HUa:=h_ (HUa.out.grown hg (fun h=>by omega));replace HUb:=h_ (HUb.out.grown hg (fun h=>by omega));replace HOP:=h_ (HOP.out.grown hg (by omega));replace HP:=h_ hp;replace HD:=dG HD hg;have hsz12:=HD.out.size;rw[<-hN] at hu;have HUc:=h_ (hu.mono (S':=fun b=>Nc<=b/\True) (fun b h=>⟨h,trivial⟩));clear hN hu;clear hp hg;obtain⟨ck,cnm,cot,cb,cao,cn,cq,cko,ckn,ckc,cln,ccl⟩:=xc;simp only[xv];go_upto_region 7 with fail
 obtain⟨w13,kc,hw,hkk,hb,-,HBc⟩:=newb w12 #[.int .i64 ck,.string cnm,.string cot,.bool cb,.slice cao cn cq,.slice cko ckn ckc,.int .i64 cln,.int .i64 ccl] 46;have hgc:g<kc:=by rw[hkk];exact HP.out.lt
 have hec:w.heap.size<=kc:=by omega
 have hr_c:=lk_ hkk HBr;have ht_c:=lk_ hkk HBt;have ha_c:=lk_ hkk HBa;have hb_c:=lk_ hkk HBb;replace HUa:=h_ (HUa.out.offk hkk);replace HUb:=h_ (HUb.out.offk hkk);replace HUc:=h_ (HUc.out.offk hkk);rw[hw,<-hkk];replace HBr:=kB hb HBr;replace HBt:=kB hb HBt;replace HBa:=kB hb HBa;replace HBb:=kB hb HBb;replace HP:=h_ (HP.out.below hb);replace HUa:=h_ (HUa.out.below hb);replace HUb:=h_ (HUb.out.below hb);replace HUc:=h_ (HUc.out.below hb);replace HOP:=h_ (HOP.out.below hb);replace HD:=dB HD hb;have hsz13:=HD.out.size;clear hw hb hkk;obtain⟨ct0,ct1,ct2,ct3⟩:=cl4 HBt.out;obtain⟨ca0,ca1,ca2,ca3,ca4,ca5,ca6,ca7⟩:=cl8 HBa.out;obtain⟨cb0,cb1,cb2,cb3,cb4,cb5,cb6,cb7⟩:=cl8 HBb.out;obtain⟨cc0,cc1,cc2,cc3,cc4,cc5,cc6,cc7⟩:=cl8 HBc.out;go_wp2_with fail
 clear ct0 ct1 ct2 ct3 ca0 ca1 ca2 ca3 ca4 ca5 ca6 ca7 cb0 cb1 cb2 cb3 cb4 cb5 cb6 cb7 cc0 cc1 cc2 cc3 cc4 cc5 cc6 cc7;obtain⟨w14,kkk,hw,hkk,hb,-,HBkk⟩:=newb w13 #[.int .i64 ak,.string anm,.string aot,.bool ab,.slice aao an aq,.slice ako akn akc,.int .i64 aln,.int .i64 acl,.int .i64 bk,.string bnm,.string bot,.bool bb,.slice bao bn bq,.slice bko bkn bkc,.int .i64 bln,.int .i64 bcl,.int .i64 ck,.string cnm,.string cot,.bool cb,.slice cao cn cq,.slice cko ckn ckc,.int .i64 cln,.int .i64 ccl] 46;have hgkk:g<kkk:=by rw[hkk];exact HP.out.lt
 have hekk:w.heap.size<=kkk:=by omega
 have hr_kk:=lk_ hkk HBr;have ht_kk:=lk_ hkk HBt;have ha_kk:=lk_ hkk HBa;have hb_kk:=lk_ hkk HBb;have hc_kk:=lk_ hkk HBc;replace HUa:=h_ (HUa.out.offk hkk);replace HUb:=h_ (HUb.out.offk hkk);replace HUc:=h_ (HUc.out.offk hkk);rw[hw,<-hkk];replace HBr:=kB hb HBr;replace HBt:=kB hb HBt;replace HBa:=kB hb HBa;replace HBb:=kB hb HBb;replace HBc:=kB hb HBc;replace HP:=h_ (HP.out.below hb);replace HUa:=h_ (HUa.out.below hb);replace HUb:=h_ (HUb.out.below hb);replace HUc:=h_ (HUc.out.below hb);replace HOP:=h_ (HOP.out.below hb);replace HD:=dB HD hb;clear hw hb hkk;refine (part_p 25 t (some ⟨kkk,0,none⟩) 3 3 w14).mono ?_;rintro e w15 ⟨rfl,hb⟩;replace HBr:=kB hb HBr;replace HBt:=kB hb HBt;replace HBa:=kB hb HBa;replace HBb:=kB hb HBb;replace HBc:=kB hb HBc;replace HBkk:=kB hb HBkk;replace HP:=h_ (HP.out.below hb)
 replace HUa:=h_ (HUa.out.below hb);replace HUb:=h_ (HUb.out.below hb);replace HUc:=h_ (HUc.out.below hb);replace HOP:=h_ (HOP.out.below hb);replace HD:=dB HD hb;clear hb;simp only[xv];obtain⟨z0,z1,z2,z3,z4,z5,z6,z7⟩:=cl8 HBr.out;obtain⟨fz0,fz1,fz2,fz3,fz4,fz5,fz6,fz7⟩:=fr8 HBr.out;go_wp2_with fail
 refine bodyPost_ret (v:=.agg #[.int .i64 25,.string ⟨#[]⟩,.string ⟨#[]⟩,.bool false,.slice none 0 0,.slice (some ⟨kkk,0,none⟩) 3 3,.int .i64 (t.line:Nat),.int .i64 (t.col:Nat)]) (by simp[results,Tryz.results92,go_sem,z0,z1,z2,z3,z4,z5,z6,z7]) rfl ?_;obtain⟨wz,hw⟩:∃ x,x=st8 w15 kr (.int .i64 25) (.string ⟨#[]⟩) (.string ⟨#[]⟩) (.bool false) (.slice none 0 0) (.slice (some ⟨kkk,0,none⟩) 3 3) (.int .i64 (t.line:Nat)) (.int .i64 (t.col:Nat)):=⟨_,rfl⟩
 have hg:w15.grownBy wz (some kr):=by rw[hw];exact st8_grown _ _ _ _ _ _ _ _ _ _
 change TreePost w g _ _ _ (st8 w15 kr (.int .i64 25) (.string ⟨#[]⟩) (.string ⟨#[]⟩) (.bool false) (.slice none 0 0) (.slice (some ⟨kkk,0,none⟩) 3 3) (.int .i64 (t.line:Nat)) (.int .i64 (t.col:Nat)));rw[<-hw];clear z0 fz0 z1 fz1 z2 fz2 z3 fz3 z4 fz4 z5 fz5 z6 fz6 z7 fz7;replace HP:=h_ (HP.out.store HBr.out (by decide) (by omega) hg);replace HBt:=kG hg HBt;replace HBa:=kG hg HBa;replace HBb:=kG hg HBb;replace HBc:=kG hg HBc;replace HBkk:=kG hg HBkk;replace HUa:=h_ (HUa.out.grown hg (fun h=>by omega));replace HUb:=h_ (HUb.out.grown hg (fun h=>by omega));replace HUc:=h_ (HUc.out.grown hg (fun h=>by omega));replace HOP:=h_ (HOP.out.grown hg (by omega));replace HD:=dN HD hg (by omega);have hsz15:=HD.out.size;clear hw hg;have hu:U.node 25 [] [] 0 s.nx.line s.nx.col [r1.1,r2.1,r3.1]=U.node 25 [] [] 0 t.line t.col [r1.1,r2.1,r3.1]:=by rw[HNt.out]
 unfold prt;rw[hu];exact⟨⟨25,⟨#[]⟩,⟨#[]⟩,false,none,0,0,some ⟨kkk,0,none⟩,3,3,(t.line:Nat),(t.col:Nat)⟩,rfl,um_node 25 [] [] t.line t.col kkk [⟨ak,anm,aot,ab,aao,an,aq,ako,akn,akc,aln,acl⟩,⟨bk,bnm,bot,bb,bao,bn,bq,bko,bkn,bkc,bln,bcl⟩,⟨ck,cnm,cot,cb,cao,cn,cq,cko,ckn,ckc,cln,ccl⟩] [r1.1,r2.1,r3.1] 3 rfl (by omega) HBkk.out rfl (all3 (HUa.out.mono (fun b h=>by have h:((((((Na<=b/\True)/\b≠ka)/\b≠kq1)/\b≠kb)/\b≠kq2)/\b≠kc)/\b≠kkk:=h;show _<=b;omega)) (HUb.out.mono (fun b h=>by have h:((((Nb<=b/\True)/\b≠kb)/\b≠kq2)/\b≠kc)/\b≠kkk:=h;show _<=b;omega)) (HUc.out.mono (fun b h=>by have h:((Nc<=b/\True)/\b≠kc)/\b≠kkk:=h;show _<=b;omega))),HP.out,HD.out⟩
theorem assert_p (n:Nat) (E:Hid (ExprAt7 n)):AssertAt (n+1):=by
 intro g s r w hps hop hc;have HP:=h_ hps;have HOP:=h_ hop;clear hps hop;rw[cAssert] at hc;simp only[Option.bind_eq_some_iff] at hc;obtain⟨r1,h1,r2,h2,hr⟩:=hc;injection hr with hr;subst hr;have h1:=h_ h1;have h2:=h_ h2;go_enter Tryz.func94,Tryz.ntmps94
 go_upto_region 1 with fail
 obtain⟨w1,kr,hw,hkk,hb,-,HBr⟩:=newb w #[.int .i64 0,.string ⟨#[]⟩,.string ⟨#[]⟩,.bool false,.slice none 0 0,.slice none 0 0,.int .i64 0,.int .i64 0] 46;have hgr:g<kr:=by rw[hkk];exact HP.out.lt
 have her:w.heap.size<=kr:=by omega
 rw[hw,<-hkk];replace HP:=h_ (HP.out.below hb);replace HOP:=h_ (HOP.out.below hb);have HD:=h_ (below_grown hb (some g));clear hw hb hkk;go_wp2_with fail
 refine (take_p g s w1 HP.out).mono ?_;rintro e w2 ⟨rfl,hp,hg⟩;replace HBr:=kG hg HBr;replace HOP:=h_ (HOP.out.grown hg (by omega));replace HP:=h_ hp;replace HD:=dG HD hg;have hsz2:=HD.out.size;clear hp hg;simp only[tokV];obtain⟨t,hnx⟩:∃ t,t=St.nx s:=⟨_,rfl⟩
 rw[<-hnx];have HNt:=h_ hnx;clear hnx;go_upto_region 2 with fail
 obtain⟨w3,kt,hw,hkk,hb,-,HBt⟩:=newb w2 #[.int .i64 (t.kind:Nat),.string ⟨t.text.toArray⟩,.int .i64 (t.line:Nat),.int .i64 (t.col:Nat)] 97;have hgt:g<kt:=by rw[hkk];exact HP.out.lt
 have het:w.heap.size<=kt:=by omega
 have hr_t:=lk_ hkk HBr;rw[hw,<-hkk];replace HBr:=kB hb HBr;replace HP:=h_ (HP.out.below hb);replace HOP:=h_ (HOP.out.below hb);replace HD:=dB HD hb;have hsz3:=HD.out.size;clear hw hb hkk;go_wp2_with fail
 obtain⟨Na,hN⟩:∃ k,k=w3.heap.size:=⟨_,rfl⟩
 have hr_Na:kr<Na:=by rw[hN];exact lt_of_block HBr.out
 have ht_Na:kt<Na:=by rw[hN];exact lt_of_block HBt.out
 have hg_Na:g<Na:=by rw[hN];exact HP.out.lt
 have he_Na:w.heap.size<=Na:=by omega
 refine (E.out g _ _ w3 HP.out HOP.out h1.out).mono ?_;rintro e w4 ⟨xa,rfl,hu,hp,hg⟩;replace HBr:=kG hg HBr;replace HBt:=kG hg HBt;replace HOP:=h_ (HOP.out.grown hg (by omega));replace HP:=h_ hp;replace HD:=dG HD hg;have hsz4:=HD.out.size;rw[<-hN] at hu;have HUa:=h_ (hu.mono (S':=fun b=>Na<=b/\True) (fun b h=>⟨h,trivial⟩));clear hN hu;clear hp hg;obtain⟨ak,anm,aot,ab,aao,an,aq,ako,akn,akc,aln,acl⟩:=xa;simp only[xv];go_upto_region 3 with fail
 obtain⟨w5,ka,hw,hkk,hb,-,HBa⟩:=newb w4 #[.int .i64 ak,.string anm,.string aot,.bool ab,.slice aao an aq,.slice ako akn akc,.int .i64 aln,.int .i64 acl] 46;have hga:g<ka:=by rw[hkk];exact HP.out.lt
 have hea:w.heap.size<=ka:=by omega
 have hr_a:=lk_ hkk HBr;have ht_a:=lk_ hkk HBt;replace HUa:=h_ (HUa.out.offk hkk);rw[hw,<-hkk];replace HBr:=kB hb HBr;replace HBt:=kB hb HBt;replace HP:=h_ (HP.out.below hb);replace HUa:=h_ (HUa.out.below hb);replace HOP:=h_ (HOP.out.below hb);replace HD:=dB HD hb;have hsz5:=HD.out.size;clear hw hb hkk;go_wp2_with fail
 obtain⟨w6,kq1,hw,hkk,hb,-,HBq1⟩:=newb w5 #[.string ⟨#[59]⟩] 9;have hgq1:g<kq1:=by rw[hkk];exact HP.out.lt
 have heq1:w.heap.size<=kq1:=by omega
 have hr_q1:=lk_ hkk HBr;have ht_q1:=lk_ hkk HBt;have ha_q1:=lk_ hkk HBa;replace HUa:=h_ (HUa.out.offk hkk);rw[hw,<-hkk];replace HBr:=kB hb HBr;replace HBt:=kB hb HBt;replace HBa:=kB hb HBa;replace HP:=h_ (HP.out.below hb);replace HUa:=h_ (HUa.out.below hb);replace HOP:=h_ (HOP.out.below hb);replace HD:=dB HD hb;have hsz6:=HD.out.size;clear hw hb hkk;refine (expect_p g r1.2 [[59]] kq1 w6 HP.out HBq1.out (by omega) (by decide)).mono ?_;rintro e w7 ⟨⟨v,rfl⟩,hp,hg⟩;replace HBr:=kG hg HBr;replace HBt:=kG hg HBt;replace HBa:=kG hg HBa;replace HBq1:=kG hg HBq1;replace HUa:=h_ (HUa.out.grown hg (fun h=>by omega));replace HOP:=h_ (HOP.out.grown hg (by omega));replace HP:=h_ hp;replace HD:=dG HD hg;have hsz7:=HD.out.size;clear hp hg;go_wp2_with fail
 obtain⟨Nb,hN⟩:∃ k,k=w7.heap.size:=⟨_,rfl⟩
 have hr_Nb:kr<Nb:=by rw[hN];exact lt_of_block HBr.out
 have ht_Nb:kt<Nb:=by rw[hN];exact lt_of_block HBt.out
 have ha_Nb:ka<Nb:=by rw[hN];exact lt_of_block HBa.out
 have hg_Nb:g<Nb:=by rw[hN];exact HP.out.lt
 have he_Nb:w.heap.size<=Nb:=by omega
 refine (E.out g _ _ w7 HP.out HOP.out h2.out).mono ?_;rintro e w8 ⟨xb,rfl,hu,hp,hg⟩;replace HBr:=kG hg HBr;replace HBt:=kG hg HBt;replace HBa:=kG hg HBa;replace HUa:=h_ (HUa.out.grown hg (fun h=>by omega));replace HOP:=h_ (HOP.out.grown hg (by omega));replace HP:=h_ hp;replace HD:=dG HD hg;have hsz8:=HD.out.size;rw[<-hN] at hu;have HUb:=h_ (hu.mono (S':=fun b=>Nb<=b/\True) (fun b h=>⟨h,trivial⟩));clear hN hu;clear hp hg;obtain⟨bk,bnm,bot,bb,bao,bn,bq,bko,bkn,bkc,bln,bcl⟩:=xb;simp only[xv];go_upto_region 5 with fail
 obtain⟨w9,kb,hw,hkk,hb,-,HBb⟩:=newb w8 #[.int .i64 bk,.string bnm,.string bot,.bool bb,.slice bao bn bq,.slice bko bkn bkc,.int .i64 bln,.int .i64 bcl] 46;have hgb:g<kb:=by rw[hkk];exact HP.out.lt
 have heb:w.heap.size<=kb:=by omega
 have hr_b:=lk_ hkk HBr;have ht_b:=lk_ hkk HBt;have ha_b:=lk_ hkk HBa;replace HUa:=h_ (HUa.out.offk hkk);replace HUb:=h_ (HUb.out.offk hkk);rw[hw,<-hkk];replace HBr:=kB hb HBr;replace HBt:=kB hb HBt;replace HBa:=kB hb HBa;replace HP:=h_ (HP.out.below hb);replace HUa:=h_ (HUa.out.below hb);replace HUb:=h_ (HUb.out.below hb);replace HOP:=h_ (HOP.out.below hb);replace HD:=dB HD hb;have hsz9:=HD.out.size;clear hw hb hkk;obtain⟨ct0,ct1,ct2,ct3⟩:=cl4 HBt.out;obtain⟨ca0,ca1,ca2,ca3,ca4,ca5,ca6,ca7⟩:=cl8 HBa.out;obtain⟨cb0,cb1,cb2,cb3,cb4,cb5,cb6,cb7⟩:=cl8 HBb.out;go_wp2_with fail
 clear ct0 ct1 ct2 ct3 ca0 ca1 ca2 ca3 ca4 ca5 ca6 ca7 cb0 cb1 cb2 cb3 cb4 cb5 cb6 cb7;obtain⟨w10,kkk,hw,hkk,hb,-,HBkk⟩:=newb w9 #[.int .i64 ak,.string anm,.string aot,.bool ab,.slice aao an aq,.slice ako akn akc,.int .i64 aln,.int .i64 acl,.int .i64 bk,.string bnm,.string bot,.bool bb,.slice bao bn bq,.slice bko bkn bkc,.int .i64 bln,.int .i64 bcl] 46;have hgkk:g<kkk:=by rw[hkk];exact HP.out.lt
 have hekk:w.heap.size<=kkk:=by omega
 have hr_kk:=lk_ hkk HBr;have ht_kk:=lk_ hkk HBt;have ha_kk:=lk_ hkk HBa;have hb_kk:=lk_ hkk HBb;replace HUa:=h_ (HUa.out.offk hkk);replace HUb:=h_ (HUb.out.offk hkk);rw[hw,<-hkk];replace HBr:=kB hb HBr;replace HBt:=kB hb HBt;replace HBa:=kB hb HBa;replace HBb:=kB hb HBb;replace HP:=h_ (HP.out.below hb);replace HUa:=h_ (HUa.out.below hb);replace HUb:=h_ (HUb.out.below hb);replace HOP:=h_ (HOP.out.below hb);replace HD:=dB HD hb;clear hw hb hkk;refine (part_p 28 t (some ⟨kkk,0,none⟩) 2 2 w10).mono ?_;rintro e w11 ⟨rfl,hb⟩;replace HBr:=kB hb HBr;replace HBt:=kB hb HBt;replace HBa:=kB hb HBa;replace HBb:=kB hb HBb;replace HBkk:=kB hb HBkk;replace HP:=h_ (HP.out.below hb);replace HUa:=h_ (HUa.out.below hb);replace HUb:=h_ (HUb.out.below hb);replace HOP:=h_ (HOP.out.below hb);replace HD:=dB HD hb;clear hb;simp only[xv]
 obtain⟨z0,z1,z2,z3,z4,z5,z6,z7⟩:=cl8 HBr.out;obtain⟨fz0,fz1,fz2,fz3,fz4,fz5,fz6,fz7⟩:=fr8 HBr.out;go_wp2_with fail
 refine bodyPost_ret (v:=.agg #[.int .i64 28,.string ⟨#[]⟩,.string ⟨#[]⟩,.bool false,.slice none 0 0,.slice (some ⟨kkk,0,none⟩) 2 2,.int .i64 (t.line:Nat),.int .i64 (t.col:Nat)]) (by simp[results,Tryz.results94,go_sem,z0,z1,z2,z3,z4,z5,z6,z7]) rfl ?_;obtain⟨wz,hw⟩:∃ x,x=st8 w11 kr (.int .i64 28) (.string ⟨#[]⟩) (.string ⟨#[]⟩) (.bool false) (.slice none 0 0) (.slice (some ⟨kkk,0,none⟩) 2 2) (.int .i64 (t.line:Nat)) (.int .i64 (t.col:Nat)):=⟨_,rfl⟩
 have hg:w11.grownBy wz (some kr):=by rw[hw];exact st8_grown _ _ _ _ _ _ _ _ _ _
 change TreePost w g _ _ _ (st8 w11 kr (.int .i64 28) (.string ⟨#[]⟩) (.string ⟨#[]⟩) (.bool false) (.slice none 0 0) (.slice (some ⟨kkk,0,none⟩) 2 2) (.int .i64 (t.line:Nat)) (.int .i64 (t.col:Nat)));rw[<-hw];clear z0 fz0 z1 fz1 z2 fz2 z3 fz3 z4 fz4 z5 fz5 z6 fz6 z7 fz7;replace HP:=h_ (HP.out.store HBr.out (by decide) (by omega) hg);replace HBt:=kG hg HBt;replace HBa:=kG hg HBa;replace HBb:=kG hg HBb;replace HBkk:=kG hg HBkk;replace HUa:=h_ (HUa.out.grown hg (fun h=>by omega));replace HUb:=h_ (HUb.out.grown hg (fun h=>by omega));replace HOP:=h_ (HOP.out.grown hg (by omega));replace HD:=dN HD hg (by omega);have hsz11:=HD.out.size;clear hw hg;have hu:U.node 28 [] [] 0 s.nx.line s.nx.col [r1.1,r2.1]=U.node 28 [] [] 0 t.line t.col [r1.1,r2.1]:=by rw[HNt.out]
 unfold prt;rw[hu];exact⟨⟨28,⟨#[]⟩,⟨#[]⟩,false,none,0,0,some ⟨kkk,0,none⟩,2,2,(t.line:Nat),(t.col:Nat)⟩,rfl,um_node 28 [] [] t.line t.col kkk [⟨ak,anm,aot,ab,aao,an,aq,ako,akn,akc,aln,acl⟩,⟨bk,bnm,bot,bb,bao,bn,bq,bko,bkn,bkc,bln,bcl⟩] [r1.1,r2.1] 2 rfl (by omega) HBkk.out rfl (all2 (HUa.out.mono (fun b h=>by have h:((((Na<=b/\True)/\b≠ka)/\b≠kq1)/\b≠kb)/\b≠kkk:=h;show _<=b;omega)) (HUb.out.mono (fun b h=>by have h:((Nb<=b/\True)/\b≠kb)/\b≠kkk:=h;show _<=b;omega))),HP.out,HD.out⟩
theorem match_p (n:Nat) (E:Hid (ExprAt7 n)):MatchAt (n+1):=by
 intro g s r w hps hop hc;have HP:=h_ hps;have HOP:=h_ hop;clear hps hop;rw[cMatch] at hc;simp only[Option.bind_eq_some_iff] at hc;obtain⟨r1,h1,r2,h2,r3,h3,hr⟩:=hc;injection hr with hr;subst hr;have h1:=h_ h1;have h2:=h_ h2;have h3:=h_ h3;go_enter Tryz.func93,Tryz.ntmps93
 go_upto_region 1 with fail
 obtain⟨w1,kr,hw,hkk,hb,-,HBr⟩:=newb w #[.int .i64 0,.string ⟨#[]⟩,.string ⟨#[]⟩,.bool false,.slice none 0 0,.slice none 0 0,.int .i64 0,.int .i64 0] 46;have hgr:g<kr:=by rw[hkk];exact HP.out.lt
 have her:w.heap.size<=kr:=by omega
 rw[hw,<-hkk];replace HP:=h_ (HP.out.below hb);replace HOP:=h_ (HOP.out.below hb);have HD:=h_ (below_grown hb (some g));clear hw hb hkk;go_wp2_with fail
 refine (take_p g s w1 HP.out).mono ?_;rintro e w2 ⟨rfl,hp,hg⟩;replace HBr:=kG hg HBr;replace HOP:=h_ (HOP.out.grown hg (by omega));replace HP:=h_ hp;replace HD:=dG HD hg;have hsz2:=HD.out.size;clear hp hg;simp only[tokV];obtain⟨t,hnx⟩:∃ t,t=St.nx s:=⟨_,rfl⟩
 rw[<-hnx];have HNt:=h_ hnx;clear hnx;go_upto_region 2 with fail
 obtain⟨w3,kt,hw,hkk,hb,-,HBt⟩:=newb w2 #[.int .i64 (t.kind:Nat),.string ⟨t.text.toArray⟩,.int .i64 (t.line:Nat),.int .i64 (t.col:Nat)] 97;have hgt:g<kt:=by rw[hkk];exact HP.out.lt
 have het:w.heap.size<=kt:=by omega
 have hr_t:=lk_ hkk HBr;rw[hw,<-hkk];replace HBr:=kB hb HBr;replace HP:=h_ (HP.out.below hb);replace HOP:=h_ (HOP.out.below hb);replace HD:=dB HD hb;have hsz3:=HD.out.size;clear hw hb hkk;go_wp2_with fail
 obtain⟨Na,hN⟩:∃ k,k=w3.heap.size:=⟨_,rfl⟩
 have hr_Na:kr<Na:=by rw[hN];exact lt_of_block HBr.out
 have ht_Na:kt<Na:=by rw[hN];exact lt_of_block HBt.out
 have hg_Na:g<Na:=by rw[hN];exact HP.out.lt
 have he_Na:w.heap.size<=Na:=by omega
 refine (E.out g _ _ w3 HP.out HOP.out h1.out).mono ?_;rintro e w4 ⟨xa,rfl,hu,hp,hg⟩;replace HBr:=kG hg HBr;replace HBt:=kG hg HBt;replace HOP:=h_ (HOP.out.grown hg (by omega));replace HP:=h_ hp;replace HD:=dG HD hg;have hsz4:=HD.out.size;rw[<-hN] at hu;have HUa:=h_ (hu.mono (S':=fun b=>Na<=b/\True) (fun b h=>⟨h,trivial⟩));clear hN hu;clear hp hg;obtain⟨ak,anm,aot,ab,aao,an,aq,ako,akn,akc,aln,acl⟩:=xa;simp only[xv];go_upto_region 3 with fail
 obtain⟨w5,ka,hw,hkk,hb,-,HBa⟩:=newb w4 #[.int .i64 ak,.string anm,.string aot,.bool ab,.slice aao an aq,.slice ako akn akc,.int .i64 aln,.int .i64 acl] 46;have hga:g<ka:=by rw[hkk];exact HP.out.lt
 have hea:w.heap.size<=ka:=by omega
 have hr_a:=lk_ hkk HBr;have ht_a:=lk_ hkk HBt;replace HUa:=h_ (HUa.out.offk hkk);rw[hw,<-hkk];replace HBr:=kB hb HBr;replace HBt:=kB hb HBt;replace HP:=h_ (HP.out.below hb);replace HUa:=h_ (HUa.out.below hb);replace HOP:=h_ (HOP.out.below hb);replace HD:=dB HD hb;have hsz5:=HD.out.size;clear hw hb hkk;go_wp2_with fail
 obtain⟨w6,kq1,hw,hkk,hb,-,HBq1⟩:=newb w5 #[.string ⟨#[119,105,116,104]⟩,.string ⟨#[91,93]⟩,.string ⟨#[45,62]⟩] 9;have hgq1:g<kq1:=by rw[hkk];exact HP.out.lt
 have heq1:w.heap.size<=kq1:=by omega
 have hr_q1:=lk_ hkk HBr;have ht_q1:=lk_ hkk HBt;have ha_q1:=lk_ hkk HBa;replace HUa:=h_ (HUa.out.offk hkk);rw[hw,<-hkk];replace HBr:=kB hb HBr;replace HBt:=kB hb HBt;replace HBa:=kB hb HBa;replace HP:=h_ (HP.out.below hb);replace HUa:=h_ (HUa.out.below hb);replace HOP:=h_ (HOP.out.below hb);replace HD:=dB HD hb;have hsz6:=HD.out.size;clear hw hb hkk;refine (expect_p g r1.2 [[119,105,116,104],[91,93],[45,62]] kq1 w6 HP.out HBq1.out (by omega) (by decide)).mono ?_;rintro e w7 ⟨⟨v,rfl⟩,hp,hg⟩;replace HBr:=kG hg HBr;replace HBt:=kG hg HBt;replace HBa:=kG hg HBa;replace HBq1:=kG hg HBq1;replace HUa:=h_ (HUa.out.grown hg (fun h=>by omega));replace HOP:=h_ (HOP.out.grown hg (by omega));replace HP:=h_ hp;replace HD:=dG HD hg;have hsz7:=HD.out.size;clear hp hg;go_wp2_with fail
 obtain⟨Nb,hN⟩:∃ k,k=w7.heap.size:=⟨_,rfl⟩
 have hr_Nb:kr<Nb:=by rw[hN];exact lt_of_block HBr.out
 have ht_Nb:kt<Nb:=by rw[hN];exact lt_of_block HBt.out
 have ha_Nb:ka<Nb:=by rw[hN];exact lt_of_block HBa.out
 have hg_Nb:g<Nb:=by rw[hN];exact HP.out.lt
 have he_Nb:w.heap.size<=Nb:=by omega
 refine (E.out g _ _ w7 HP.out HOP.out h2.out).mono ?_;rintro e w8 ⟨xb,rfl,hu,hp,hg⟩;replace HBr:=kG hg HBr;replace HBt:=kG hg HBt;replace HBa:=kG hg HBa;replace HUa:=h_ (HUa.out.grown hg (fun h=>by omega));replace HOP:=h_ (HOP.out.grown hg (by omega));replace HP:=h_ hp;replace HD:=dG HD hg;have hsz8:=HD.out.size;rw[<-hN] at hu;have HUb:=h_ (hu.mono (S':=fun b=>Nb<=b/\True) (fun b h=>⟨h,trivial⟩));clear hN hu;clear hp hg;obtain⟨bk,bnm,bot,bb,bao,bn,bq,bko,bkn,bkc,bln,bcl⟩:=xb;simp only[xv];go_upto_region 5 with fail
 obtain⟨w9,kb,hw,hkk,hb,-,HBb⟩:=newb w8 #[.int .i64 bk,.string bnm,.string bot,.bool bb,.slice bao bn bq,.slice bko bkn bkc,.int .i64 bln,.int .i64 bcl] 46;have hgb:g<kb:=by rw[hkk];exact HP.out.lt
 have heb:w.heap.size<=kb:=by omega
 have hr_b:=lk_ hkk HBr;have ht_b:=lk_ hkk HBt;have ha_b:=lk_ hkk HBa;replace HUa:=h_ (HUa.out.offk hkk);replace HUb:=h_ (HUb.out.offk hkk);rw[hw,<-hkk];replace HBr:=kB hb HBr;replace HBt:=kB hb HBt;replace HBa:=kB hb HBa;replace HP:=h_ (HP.out.below hb);replace HUa:=h_ (HUa.out.below hb);replace HUb:=h_ (HUb.out.below hb);replace HOP:=h_ (HOP.out.below hb);replace HD:=dB HD hb;have hsz9:=HD.out.size;clear hw hb hkk;go_wp2_with fail
 obtain⟨w10,kq2,hw,hkk,hb,-,HBq2⟩:=newb w9 #[.string ⟨#[124]⟩] 9;have hgq2:g<kq2:=by rw[hkk];exact HP.out.lt
 have heq2:w.heap.size<=kq2:=by omega
 have hr_q2:=lk_ hkk HBr;have ht_q2:=lk_ hkk HBt;have ha_q2:=lk_ hkk HBa;have hb_q2:=lk_ hkk HBb;replace HUa:=h_ (HUa.out.offk hkk);replace HUb:=h_ (HUb.out.offk hkk);rw[hw,<-hkk];replace HBr:=kB hb HBr;replace HBt:=kB hb HBt;replace HBa:=kB hb HBa;replace HBb:=kB hb HBb;replace HP:=h_ (HP.out.below hb);replace HUa:=h_ (HUa.out.below hb);replace HUb:=h_ (HUb.out.below hb);replace HOP:=h_ (HOP.out.below hb);replace HD:=dB HD hb;have hsz10:=HD.out.size;clear hw hb hkk;refine (expect_p g r2.2 [[124]] kq2 w10 HP.out HBq2.out (by omega) (by decide)).mono ?_;rintro e w11 ⟨⟨v,rfl⟩,hp,hg⟩;replace HBr:=kG hg HBr;replace HBt:=kG hg HBt;replace HBa:=kG hg HBa;replace HBb:=kG hg HBb;replace HBq2:=kG hg HBq2;replace HUa:=h_ (HUa.out.grown hg (fun h=>by omega));replace HUb:=h_ (HUb.out.grown hg (fun h=>by omega))
 replace HOP:=h_ (HOP.out.grown hg (by omega));replace HP:=h_ hp;replace HD:=dG HD hg;clear hp hg;go_wp2_with fail
 refine (name_p g (r2.2.exp wBar) w11 HP.out).mono ?_;rintro e w12 ⟨rfl,hp,hg⟩;replace HBr:=kG hg HBr;replace HBt:=kG hg HBt;replace HBa:=kG hg HBa;replace HBb:=kG hg HBb;replace HUa:=h_ (HUa.out.grown hg (fun h=>by omega));replace HUb:=h_ (HUb.out.grown hg (fun h=>by omega));replace HOP:=h_ (HOP.out.grown hg (by omega));replace HP:=h_ hp;replace HD:=dG HD hg;have hsz12:=HD.out.size;clear hp hg;simp only[tokV];obtain⟨nh,hnx⟩:∃ t,t=St.nx (r2.2.exp wBar):=⟨_,rfl⟩
 rw[<-hnx];have HNnh:=h_ hnx;clear hnx;go_upto_region 7 with fail
 obtain⟨w13,knh,hw,hkk,hb,-,HBnh⟩:=newb w12 #[.int .i64 (nh.kind:Nat),.string ⟨nh.text.toArray⟩,.int .i64 (nh.line:Nat),.int .i64 (nh.col:Nat)] 97;have hgnh:g<knh:=by rw[hkk];exact HP.out.lt
 have henh:w.heap.size<=knh:=by omega
 have hr_nh:=lk_ hkk HBr;have ht_nh:=lk_ hkk HBt;have ha_nh:=lk_ hkk HBa;have hb_nh:=lk_ hkk HBb;replace HUa:=h_ (HUa.out.offk hkk);replace HUb:=h_ (HUb.out.offk hkk);rw[hw,<-hkk];replace HBr:=kB hb HBr;replace HBt:=kB hb HBt;replace HBa:=kB hb HBa;replace HBb:=kB hb HBb;replace HP:=h_ (HP.out.below hb);replace HUa:=h_ (HUa.out.below hb);replace HUb:=h_ (HUb.out.below hb);replace HOP:=h_ (HOP.out.below hb);replace HD:=dB HD hb;have hsz13:=HD.out.size;clear hw hb hkk;go_wp2_with fail
 obtain⟨w14,kq3,hw,hkk,hb,-,HBq3⟩:=newb w13 #[.string ⟨#[58,58]⟩] 9;have hgq3:g<kq3:=by rw[hkk];exact HP.out.lt
 have heq3:w.heap.size<=kq3:=by omega
 have hr_q3:=lk_ hkk HBr;have ht_q3:=lk_ hkk HBt;have ha_q3:=lk_ hkk HBa;have hb_q3:=lk_ hkk HBb;have hnh_q3:=lk_ hkk HBnh;replace HUa:=h_ (HUa.out.offk hkk);replace HUb:=h_ (HUb.out.offk hkk);rw[hw,<-hkk];replace HBr:=kB hb HBr;replace HBt:=kB hb HBt;replace HBa:=kB hb HBa;replace HBb:=kB hb HBb;replace HBnh:=kB hb HBnh;replace HP:=h_ (HP.out.below hb);replace HUa:=h_ (HUa.out.below hb);replace HUb:=h_ (HUb.out.below hb);replace HOP:=h_ (HOP.out.below hb);replace HD:=dB HD hb;have hsz14:=HD.out.size;clear hw hb hkk;refine (expect_p g (r2.2.exp wBar).name [[58,58]] kq3 w14 HP.out HBq3.out (by omega) (by decide)).mono ?_;rintro e w15 ⟨⟨v,rfl⟩,hp,hg⟩;replace HBr:=kG hg HBr;replace HBt:=kG hg HBt;replace HBa:=kG hg HBa;replace HBb:=kG hg HBb;replace HBnh:=kG hg HBnh;replace HBq3:=kG hg HBq3
 replace HUa:=h_ (HUa.out.grown hg (fun h=>by omega));replace HUb:=h_ (HUb.out.grown hg (fun h=>by omega));replace HOP:=h_ (HOP.out.grown hg (by omega));replace HP:=h_ hp;replace HD:=dG HD hg;clear hp hg;go_wp2_with fail
 refine (name_p g (((r2.2.exp wBar).name).exp wCons) w15 HP.out).mono ?_;rintro e w16 ⟨rfl,hp,hg⟩;replace HBr:=kG hg HBr;replace HBt:=kG hg HBt;replace HBa:=kG hg HBa;replace HBb:=kG hg HBb;replace HBnh:=kG hg HBnh;replace HUa:=h_ (HUa.out.grown hg (fun h=>by omega));replace HUb:=h_ (HUb.out.grown hg (fun h=>by omega));replace HOP:=h_ (HOP.out.grown hg (by omega));replace HP:=h_ hp;replace HD:=dG HD hg;have hsz16:=HD.out.size;clear hp hg;simp only[tokV];obtain⟨nt,hnx⟩:∃ t,t=St.nx (((r2.2.exp wBar).name).exp wCons):=⟨_,rfl⟩
 rw[<-hnx];have HNnt:=h_ hnx;clear hnx;go_upto_region 9 with fail
 obtain⟨w17,knt,hw,hkk,hb,-,HBnt⟩:=newb w16 #[.int .i64 (nt.kind:Nat),.string ⟨nt.text.toArray⟩,.int .i64 (nt.line:Nat),.int .i64 (nt.col:Nat)] 97;have hgnt:g<knt:=by rw[hkk];exact HP.out.lt
 have hent:w.heap.size<=knt:=by omega
 have hr_nt:=lk_ hkk HBr;have ht_nt:=lk_ hkk HBt;have ha_nt:=lk_ hkk HBa;have hb_nt:=lk_ hkk HBb;have hnh_nt:=lk_ hkk HBnh;replace HUa:=h_ (HUa.out.offk hkk);replace HUb:=h_ (HUb.out.offk hkk);rw[hw,<-hkk];replace HBr:=kB hb HBr;replace HBt:=kB hb HBt;replace HBa:=kB hb HBa;replace HBb:=kB hb HBb;replace HBnh:=kB hb HBnh;replace HP:=h_ (HP.out.below hb);replace HUa:=h_ (HUa.out.below hb);replace HUb:=h_ (HUb.out.below hb);replace HOP:=h_ (HOP.out.below hb);replace HD:=dB HD hb;have hsz17:=HD.out.size;clear hw hb hkk;go_wp2_with fail
 obtain⟨w18,kq4,hw,hkk,hb,-,HBq4⟩:=newb w17 #[.string ⟨#[45,62]⟩] 9;have hgq4:g<kq4:=by rw[hkk];exact HP.out.lt
 have heq4:w.heap.size<=kq4:=by omega
 have hr_q4:=lk_ hkk HBr;have ht_q4:=lk_ hkk HBt;have ha_q4:=lk_ hkk HBa;have hb_q4:=lk_ hkk HBb;have hnh_q4:=lk_ hkk HBnh;have hnt_q4:=lk_ hkk HBnt;replace HUa:=h_ (HUa.out.offk hkk);replace HUb:=h_ (HUb.out.offk hkk);rw[hw,<-hkk];replace HBr:=kB hb HBr;replace HBt:=kB hb HBt;replace HBa:=kB hb HBa;replace HBb:=kB hb HBb;replace HBnh:=kB hb HBnh;replace HBnt:=kB hb HBnt;replace HP:=h_ (HP.out.below hb);replace HUa:=h_ (HUa.out.below hb);replace HUb:=h_ (HUb.out.below hb);replace HOP:=h_ (HOP.out.below hb);replace HD:=dB HD hb;have hsz18:=HD.out.size;clear hw hb hkk;refine (expect_p g (((r2.2.exp wBar).name).exp wCons).name [[45,62]] kq4 w18 HP.out HBq4.out (by omega) (by decide)).mono ?_;rintro e w19 ⟨⟨v,rfl⟩,hp,hg⟩;replace HBr:=kG hg HBr;replace HBt:=kG hg HBt;replace HBa:=kG hg HBa;replace HBb:=kG hg HBb;replace HBnh:=kG hg HBnh
 replace HBnt:=kG hg HBnt;replace HBq4:=kG hg HBq4;replace HUa:=h_ (HUa.out.grown hg (fun h=>by omega));replace HUb:=h_ (HUb.out.grown hg (fun h=>by omega));replace HOP:=h_ (HOP.out.grown hg (by omega));replace HP:=h_ hp;replace HD:=dG HD hg;have hsz19:=HD.out.size;clear hp hg;go_wp2_with fail
 obtain⟨Nc,hN⟩:∃ k,k=w19.heap.size:=⟨_,rfl⟩
 have hr_Nc:kr<Nc:=by rw[hN];exact lt_of_block HBr.out
 have ht_Nc:kt<Nc:=by rw[hN];exact lt_of_block HBt.out
 have ha_Nc:ka<Nc:=by rw[hN];exact lt_of_block HBa.out
 have hb_Nc:kb<Nc:=by rw[hN];exact lt_of_block HBb.out
 have hnh_Nc:knh<Nc:=by rw[hN];exact lt_of_block HBnh.out
 have hnt_Nc:knt<Nc:=by rw[hN];exact lt_of_block HBnt.out
 have hg_Nc:g<Nc:=by rw[hN];exact HP.out.lt
 have he_Nc:w.heap.size<=Nc:=by omega
 refine (E.out g _ _ w19 HP.out HOP.out h3.out).mono ?_;rintro e w20 ⟨xc,rfl,hu,hp,hg⟩;replace HBr:=kG hg HBr;replace HBt:=kG hg HBt;replace HBa:=kG hg HBa;replace HBb:=kG hg HBb;replace HBnh:=kG hg HBnh;replace HBnt:=kG hg HBnt;replace HUa:=h_ (HUa.out.grown hg (fun h=>by omega));replace HUb:=h_ (HUb.out.grown hg (fun h=>by omega));replace HOP:=h_ (HOP.out.grown hg (by omega));replace HP:=h_ hp;replace HD:=dG HD hg;have hsz20:=HD.out.size;rw[<-hN] at hu;have HUc:=h_ (hu.mono (S':=fun b=>Nc<=b/\True) (fun b h=>⟨h,trivial⟩));clear hN hu;clear hp hg;obtain⟨ck,cnm,cot,cb,cao,cn,cq,cko,ckn,ckc,cln,ccl⟩:=xc;simp only[xv];go_upto_region 11 with fail
 obtain⟨w21,kc,hw,hkk,hb,-,HBc⟩:=newb w20 #[.int .i64 ck,.string cnm,.string cot,.bool cb,.slice cao cn cq,.slice cko ckn ckc,.int .i64 cln,.int .i64 ccl] 46;have hgc:g<kc:=by rw[hkk];exact HP.out.lt
 have hec:w.heap.size<=kc:=by omega
 have hr_c:=lk_ hkk HBr;have ht_c:=lk_ hkk HBt;have ha_c:=lk_ hkk HBa;have hb_c:=lk_ hkk HBb;have hnh_c:=lk_ hkk HBnh;have hnt_c:=lk_ hkk HBnt;replace HUa:=h_ (HUa.out.offk hkk);replace HUb:=h_ (HUb.out.offk hkk);replace HUc:=h_ (HUc.out.offk hkk);rw[hw,<-hkk];replace HBr:=kB hb HBr;replace HBt:=kB hb HBt;replace HBa:=kB hb HBa;replace HBb:=kB hb HBb;replace HBnh:=kB hb HBnh;replace HBnt:=kB hb HBnt;replace HP:=h_ (HP.out.below hb);replace HUa:=h_ (HUa.out.below hb);replace HUb:=h_ (HUb.out.below hb);replace HUc:=h_ (HUc.out.below hb);replace HOP:=h_ (HOP.out.below hb);replace HD:=dB HD hb;have hsz21:=HD.out.size;clear hw hb hkk;obtain⟨ct0,ct1,ct2,ct3⟩:=cl4 HBt.out;obtain⟨ca0,ca1,ca2,ca3,ca4,ca5,ca6,ca7⟩:=cl8 HBa.out;obtain⟨cb0,cb1,cb2,cb3,cb4,cb5,cb6,cb7⟩:=cl8 HBb.out
 obtain⟨cc0,cc1,cc2,cc3,cc4,cc5,cc6,cc7⟩:=cl8 HBc.out;go_wp2_with fail
 clear ct0 ct1 ct2 ct3 ca0 ca1 ca2 ca3 ca4 ca5 ca6 ca7 cb0 cb1 cb2 cb3 cb4 cb5 cb6 cb7 cc0 cc1 cc2 cc3 cc4 cc5 cc6 cc7;obtain⟨w22,kkk,hw,hkk,hb,-,HBkk⟩:=newb w21 #[.int .i64 ak,.string anm,.string aot,.bool ab,.slice aao an aq,.slice ako akn akc,.int .i64 aln,.int .i64 acl,.int .i64 bk,.string bnm,.string bot,.bool bb,.slice bao bn bq,.slice bko bkn bkc,.int .i64 bln,.int .i64 bcl,.int .i64 ck,.string cnm,.string cot,.bool cb,.slice cao cn cq,.slice cko ckn ckc,.int .i64 cln,.int .i64 ccl] 46;have hgkk:g<kkk:=by rw[hkk];exact HP.out.lt
 have hekk:w.heap.size<=kkk:=by omega
 have hr_kk:=lk_ hkk HBr;have ht_kk:=lk_ hkk HBt;have ha_kk:=lk_ hkk HBa;have hb_kk:=lk_ hkk HBb;have hnh_kk:=lk_ hkk HBnh;have hnt_kk:=lk_ hkk HBnt;have hc_kk:=lk_ hkk HBc;replace HUa:=h_ (HUa.out.offk hkk);replace HUb:=h_ (HUb.out.offk hkk);replace HUc:=h_ (HUc.out.offk hkk);rw[hw,<-hkk];replace HBr:=kB hb HBr;replace HBt:=kB hb HBt;replace HBa:=kB hb HBa;replace HBb:=kB hb HBb;replace HBnh:=kB hb HBnh;replace HBnt:=kB hb HBnt;replace HBc:=kB hb HBc;replace HP:=h_ (HP.out.below hb);replace HUa:=h_ (HUa.out.below hb);replace HUb:=h_ (HUb.out.below hb);replace HUc:=h_ (HUc.out.below hb);replace HOP:=h_ (HOP.out.below hb);replace HD:=dB HD hb;clear hw hb hkk;refine (part_p 27 t (some ⟨kkk,0,none⟩) 3 3 w22).mono ?_;rintro e w23 ⟨rfl,hb⟩;replace HBr:=kB hb HBr;replace HBt:=kB hb HBt;replace HBa:=kB hb HBa;replace HBb:=kB hb HBb
 replace HBnh:=kB hb HBnh;replace HBnt:=kB hb HBnt;replace HBc:=kB hb HBc;replace HBkk:=kB hb HBkk;replace HP:=h_ (HP.out.below hb);replace HUa:=h_ (HUa.out.below hb);replace HUb:=h_ (HUb.out.below hb);replace HUc:=h_ (HUc.out.below hb);replace HOP:=h_ (HOP.out.below hb);replace HD:=dB HD hb;have hsz23:=HD.out.size;clear hb;simp only[xv];go_upto_region 12 with fail
 obtain⟨w24,kv,hw,hkk,hb,-,HBv⟩:=newb w23 #[.int .i64 27,.string ⟨#[]⟩,.string ⟨#[]⟩,.bool false,.slice none 0 0,.slice (some ⟨kkk,0,none⟩) 3 3,.int .i64 (t.line:Nat),.int .i64 (t.col:Nat)] 46;have hgv:g<kv:=by rw[hkk];exact HP.out.lt
 have hev:w.heap.size<=kv:=by omega
 have hr_v:=lk_ hkk HBr;have ht_v:=lk_ hkk HBt;have ha_v:=lk_ hkk HBa;have hb_v:=lk_ hkk HBb;have hnh_v:=lk_ hkk HBnh;have hnt_v:=lk_ hkk HBnt;have hc_v:=lk_ hkk HBc;have hkk_v:=lk_ hkk HBkk;replace HUa:=h_ (HUa.out.offk hkk);replace HUb:=h_ (HUb.out.offk hkk);replace HUc:=h_ (HUc.out.offk hkk);rw[hw,<-hkk];replace HBr:=kB hb HBr;replace HBt:=kB hb HBt;replace HBa:=kB hb HBa;replace HBb:=kB hb HBb;replace HBnh:=kB hb HBnh;replace HBnt:=kB hb HBnt;replace HBc:=kB hb HBc;replace HBkk:=kB hb HBkk;replace HP:=h_ (HP.out.below hb);replace HUa:=h_ (HUa.out.below hb);replace HUb:=h_ (HUb.out.below hb);replace HUc:=h_ (HUc.out.below hb);replace HOP:=h_ (HOP.out.below hb);replace HD:=dB HD hb;clear hw hb hkk;obtain⟨cnh0,cnh1,cnh2,cnh3⟩:=cl4 HBnh.out;obtain⟨cnt0,cnt1,cnt2,cnt3⟩:=cl4 HBnt.out
 obtain⟨cv0,cv1,cv2,cv3,cv4,cv5,cv6,cv7⟩:=cl8 HBv.out;obtain⟨fcv0,fcv1,fcv2,fcv3,fcv4,fcv5,fcv6,fcv7⟩:=fr8 HBv.out
 go_region
 obtain⟨w25,hw⟩:∃ x,x=((w24.setCell ⟨kv,1,none⟩ (.string ⟨nh.text.toArray⟩)).setCell ⟨kv,2,none⟩ (.string ⟨nt.text.toArray⟩)).drew:=⟨_,rfl⟩
 have hg:w24.grownBy w25 (some kv):=by rw[hw];exact grown_drew (grown_tr (grown_set _ kv 1 _) (grown_set _ kv 2 _))
 have hv:w25.heap[kv]?=some (.cells #[.int .i64 27,.string ⟨nh.text.toArray⟩,.string ⟨nt.text.toArray⟩,.bool false,.slice none 0 0,.slice (some ⟨kkk,0,none⟩) 3 3,.int .i64 (t.line:Nat),.int .i64 (t.col:Nat)] 46 (0,0)):=by rw[hw];show ((w24.setCell ⟨kv,1,none⟩ (.string ⟨nh.text.toArray⟩)).setCell ⟨kv,2,none⟩ (.string ⟨nt.text.toArray⟩)).heap[kv]?=_;rw[heap_setCell_same _ kv 2 _ _ _ (heap_setCell_same _ kv 1 _ _ _ HBv.out)];rfl
 rw[<-hw];clear cnh0 cnh1 cnh2 cnh3 cnt0 cnt1 cnt2 cnt3 cv0 fcv0 cv1 fcv1 cv2 fcv2 cv3 fcv3 cv4 fcv4 cv5 fcv5 cv6 fcv6 cv7 fcv7;replace HP:=h_ (HP.out.store HBv.out (by decide) (by omega) hg);replace HBr:=kG hg HBr;replace HBt:=kG hg HBt;replace HBa:=kG hg HBa;replace HBb:=kG hg HBb;replace HBnh:=kG hg HBnh;replace HBnt:=kG hg HBnt;replace HBc:=kG hg HBc;replace HBkk:=kG hg HBkk;replace HUa:=h_ (HUa.out.grown hg (fun h=>by omega));replace HUb:=h_ (HUb.out.grown hg (fun h=>by omega));replace HUc:=h_ (HUc.out.grown hg (fun h=>by omega));replace HOP:=h_ (HOP.out.grown hg (by omega));replace HD:=dN HD hg (by omega);replace HBv:=h_ hv;clear hw hg hv;obtain⟨cv0,cv1,cv2,cv3,cv4,cv5,cv6,cv7⟩:=cl8 HBv.out;obtain⟨z0,z1,z2,z3,z4,z5,z6,z7⟩:=cl8 HBr.out;obtain⟨fz0,fz1,fz2,fz3,fz4,fz5,fz6,fz7⟩:=fr8 HBr.out;go_wp2_with fail
 refine bodyPost_ret (v:=.agg #[.int .i64 27,.string ⟨nh.text.toArray⟩,.string ⟨nt.text.toArray⟩,.bool false,.slice none 0 0,.slice (some ⟨kkk,0,none⟩) 3 3,.int .i64 (t.line:Nat),.int .i64 (t.col:Nat)]) (by simp[results,Tryz.results93,go_sem,z0,z1,z2,z3,z4,z5,z6,z7]) rfl ?_;obtain⟨wz,hw⟩:∃ x,x=st8 w25 kr (.int .i64 27) (.string ⟨nh.text.toArray⟩) (.string ⟨nt.text.toArray⟩) (.bool false) (.slice none 0 0) (.slice (some ⟨kkk,0,none⟩) 3 3) (.int .i64 (t.line:Nat)) (.int .i64 (t.col:Nat)):=⟨_,rfl⟩
 have hg:w25.grownBy wz (some kr):=by rw[hw];exact st8_grown _ _ _ _ _ _ _ _ _ _
 change TreePost w g _ _ _ (st8 w25 kr (.int .i64 27) (.string ⟨nh.text.toArray⟩) (.string ⟨nt.text.toArray⟩) (.bool false) (.slice none 0 0) (.slice (some ⟨kkk,0,none⟩) 3 3) (.int .i64 (t.line:Nat)) (.int .i64 (t.col:Nat)));rw[<-hw];clear cv0 cv1 cv2 cv3 cv4 cv5 cv6 cv7 z0 fz0 z1 fz1 z2 fz2 z3 fz3 z4 fz4 z5 fz5 z6 fz6 z7 fz7;replace HP:=h_ (HP.out.store HBr.out (by decide) (by omega) hg);replace HBt:=kG hg HBt;replace HBa:=kG hg HBa;replace HBb:=kG hg HBb;replace HBnh:=kG hg HBnh;replace HBnt:=kG hg HBnt;replace HBc:=kG hg HBc;replace HBkk:=kG hg HBkk;replace HBv:=kG hg HBv;replace HUa:=h_ (HUa.out.grown hg (fun h=>by omega));replace HUb:=h_ (HUb.out.grown hg (fun h=>by omega));replace HUc:=h_ (HUc.out.grown hg (fun h=>by omega));replace HOP:=h_ (HOP.out.grown hg (by omega));replace HD:=dN HD hg (by omega);have hsz25:=HD.out.size;clear hw hg
 have hu:U.node 27 (r2.2.exp wBar).nx.text (((r2.2.exp wBar).name).exp wCons).nx.text 0 s.nx.line s.nx.col [r1.1,r2.1,r3.1]=U.node 27 nh.text nt.text 0 t.line t.col [r1.1,r2.1,r3.1]:=by rw[HNt.out,HNnh.out,HNnt.out]
 rw[hu]
 exact⟨⟨27,⟨nh.text.toArray⟩,⟨nt.text.toArray⟩,false,none,0,0,some ⟨kkk,0,none⟩,3,3,(t.line:Nat),(t.col:Nat)⟩,rfl,um_node 27 nh.text nt.text t.line t.col kkk [⟨ak,anm,aot,ab,aao,an,aq,ako,akn,akc,aln,acl⟩,⟨bk,bnm,bot,bb,bao,bn,bq,bko,bkn,bkc,bln,bcl⟩,⟨ck,cnm,cot,cb,cao,cn,cq,cko,ckn,ckc,cln,ccl⟩] [r1.1,r2.1,r3.1] 3 rfl (by omega) HBkk.out rfl (all3 (HUa.out.mono (fun b h=>by have h:(((((((((((Na<=b/\True)/\b≠ka)/\b≠kq1)/\b≠kb)/\b≠kq2)/\b≠knh)/\b≠kq3)/\b≠knt)/\b≠kq4)/\b≠kc)/\b≠kkk)/\b≠kv:=h;show _<=b;omega)) (HUb.out.mono (fun b h=>by have h:(((((((((Nb<=b/\True)/\b≠kb)/\b≠kq2)/\b≠knh)/\b≠kq3)/\b≠knt)/\b≠kq4)/\b≠kc)/\b≠kkk)/\b≠kv:=h;show _<=b;omega)) (HUc.out.mono (fun b h=>by have h:(((Nc<=b/\True)/\b≠kc)/\b≠kkk)/\b≠kv:=h;show _<=b;omega))),HP.out,HD.out⟩
theorem one_p (n:Nat) (O:Hid (OneAt n)) (A:Hid (AtomAt n)):OneAt (n+1):=by
 intro g s r w hps hop hc;have HP:=h_ hps;have HOP:=h_ hop;clear hps hop;rw[cOne] at hc
 cases hu:unOf s.nx.text with
 | none =>
  rw[hu] at hc;have HU:=h_ hu;have h1:=h_ hc;clear hu hc;go_enter Tryz.func115,Tryz.ntmps115
  go_upto_region 1 with fail
  obtain⟨w1,kr,hw,hkk,hb,-,HBr⟩:=newb w #[.int .i64 0,.string ⟨#[]⟩,.string ⟨#[]⟩,.bool false,.slice none 0 0,.slice none 0 0,.int .i64 0,.int .i64 0] 46;have hgr:g<kr:=by rw[hkk];exact HP.out.lt
  have her:w.heap.size<=kr:=by omega
  rw[hw,<-hkk];replace HP:=h_ (HP.out.below hb);replace HOP:=h_ (HOP.out.below hb);have HD:=h_ (below_grown hb (some g));clear hw hb hkk;go_wp2_with fail
  refine (next_p g s w1 HP.out).mono ?_;rintro e w2 ⟨rfl,hb⟩;replace HBr:=kB hb HBr;replace HP:=h_ (HP.out.below hb);replace HOP:=h_ (HOP.out.below hb);replace HD:=dB HD hb;have hsz2:=HD.out.size;clear hb;simp only[tokV];have hf:=field_text (s.nx.kind:Nat) (s.nx.line:Nat) (s.nx.col:Nat) ⟨s.nx.text.toArray⟩ w2;go_wp2_with fail
  refine (unary_p s.nx.text _).mono ?_;rintro e wx ⟨rfl,hx⟩;obtain rfl:=hx.symm;clear hx;rw[HU.out];clear hf;simp only[Option.getD_none,Option.isSome_none];go_wp2_with fail
  obtain⟨Na,hN⟩:∃ k,k=w2.heap.size:=⟨_,rfl⟩
  have hr_Na:kr<Na:=by rw[hN];exact lt_of_block HBr.out
  have hg_Na:g<Na:=by rw[hN];exact HP.out.lt
  have he_Na:w.heap.size<=Na:=by omega
  refine (A.out g  _ _ w2 HP.out HOP.out h1.out).mono ?_;rintro e w3 ⟨xa,rfl,hu,hp,hg⟩;replace HBr:=kG hg HBr;replace HOP:=h_ (HOP.out.grown hg (by omega));replace HP:=h_ hp;replace HD:=dG HD hg;rw[<-hN] at hu;have HUa:=h_ (hu.mono (S':=fun b=>Na<=b/\True) (fun b h=>⟨h,trivial⟩));clear hN hu;clear hp hg;obtain⟨ak,anm,aot,ab,aao,an,aq,ako,akn,akc,aln,acl⟩:=xa;simp only[xv];obtain⟨z0,z1,z2,z3,z4,z5,z6,z7⟩:=cl8 HBr.out;obtain⟨fz0,fz1,fz2,fz3,fz4,fz5,fz6,fz7⟩:=fr8 HBr.out;go_wp2_with fail
  refine bodyPost_ret (v:=.agg #[.int .i64 ak,.string anm,.string aot,.bool ab,.slice aao an aq,.slice ako akn akc,.int .i64 aln,.int .i64 acl]) (by simp[results,Tryz.results115,go_sem,z0,z1,z2,z3,z4,z5,z6,z7]) rfl ?_;obtain⟨wz,hw⟩:∃ x,x=st8 w3 kr (.int .i64 ak) (.string anm) (.string aot) (.bool ab) (.slice aao an aq) (.slice ako akn akc) (.int .i64 aln) (.int .i64 acl):=⟨_,rfl⟩
  have hg:w3.grownBy wz (some kr):=by rw[hw];exact st8_grown _ _ _ _ _ _ _ _ _ _
  change TreePost w g _ _ _ (st8 w3 kr (.int .i64 ak) (.string anm) (.string aot) (.bool ab) (.slice aao an aq) (.slice ako akn akc) (.int .i64 aln) (.int .i64 acl));rw[<-hw];clear z0 fz0 z1 fz1 z2 fz2 z3 fz3 z4 fz4 z5 fz5 z6 fz6 z7 fz7;replace HP:=h_ (HP.out.store HBr.out (by decide) (by omega) hg);replace HUa:=h_ (HUa.out.grown hg (fun h=>by omega));replace HOP:=h_ (HOP.out.grown hg (by omega));replace HD:=dN HD hg (by omega);have hsz3:=HD.out.size;clear hw hg;exact⟨⟨ak,anm,aot,ab,aao,an,aq,ako,akn,akc,aln,acl⟩,rfl,(HUa.out.mono (fun b h=>by have h:Na<=b/\True:=h;show _<=b;omega)),HP.out,HD.out⟩
 | some kd =>
  rw[hu] at hc;simp only[Option.bind_eq_some_iff] at hc;obtain⟨r1,h1,hr⟩:=hc;injection hr with hr;subst hr;have HU:=h_ hu;have h1:=h_ h1;clear hu;go_enter Tryz.func115,Tryz.ntmps115
  go_upto_region 1 with fail
  obtain⟨w1,kr,hw,hkk,hb,-,HBr⟩:=newb w #[.int .i64 0,.string ⟨#[]⟩,.string ⟨#[]⟩,.bool false,.slice none 0 0,.slice none 0 0,.int .i64 0,.int .i64 0] 46;have hgr:g<kr:=by rw[hkk];exact HP.out.lt
  have her:w.heap.size<=kr:=by omega
  rw[hw,<-hkk];replace HP:=h_ (HP.out.below hb);replace HOP:=h_ (HOP.out.below hb);have HD:=h_ (below_grown hb (some g));clear hw hb hkk;go_wp2_with fail
  refine (next_p g s w1 HP.out).mono ?_;rintro e w2 ⟨rfl,hb⟩;replace HBr:=kB hb HBr;replace HP:=h_ (HP.out.below hb);replace HOP:=h_ (HOP.out.below hb);replace HD:=dB HD hb;clear hb;simp only[tokV];have hf:=field_text (s.nx.kind:Nat) (s.nx.line:Nat) (s.nx.col:Nat) ⟨s.nx.text.toArray⟩ w2;go_wp2_with fail
  refine (unary_p s.nx.text _).mono ?_;rintro e wx ⟨rfl,hx⟩;obtain rfl:=hx.symm;clear hx;rw[HU.out];clear hf;simp only[Option.getD_some,Option.isSome_some];go_wp2_with fail
  refine (take_p g s w2 HP.out).mono ?_;rintro e w3 ⟨rfl,hp,hg⟩;replace HBr:=kG hg HBr;replace HOP:=h_ (HOP.out.grown hg (by omega));replace HP:=h_ hp;replace HD:=dG HD hg;have hsz3:=HD.out.size;clear hp hg;simp only[tokV];obtain⟨t,hnx⟩:∃ t,t=St.nx s:=⟨_,rfl⟩
  rw[<-hnx];have HNt:=h_ hnx;clear hnx;go_upto_region 5 with fail
  obtain⟨w4,kt,hw,hkk,hb,-,HBt⟩:=newb w3 #[.int .i64 (t.kind:Nat),.string ⟨t.text.toArray⟩,.int .i64 (t.line:Nat),.int .i64 (t.col:Nat)] 97;have hgt:g<kt:=by rw[hkk];exact HP.out.lt
  have het:w.heap.size<=kt:=by omega
  have hr_t:=lk_ hkk HBr;rw[hw,<-hkk];replace HBr:=kB hb HBr;replace HP:=h_ (HP.out.below hb);replace HOP:=h_ (HOP.out.below hb);replace HD:=dB HD hb;have hsz4:=HD.out.size;clear hw hb hkk;go_wp2_with fail
  obtain⟨Na,hN⟩:∃ k,k=w4.heap.size:=⟨_,rfl⟩
  have hr_Na:kr<Na:=by rw[hN];exact lt_of_block HBr.out
  have ht_Na:kt<Na:=by rw[hN];exact lt_of_block HBt.out
  have hg_Na:g<Na:=by rw[hN];exact HP.out.lt
  have he_Na:w.heap.size<=Na:=by omega
  refine (O.out g _ _ w4 HP.out HOP.out h1.out).mono ?_;rintro e w5 ⟨xa,rfl,hu,hp,hg⟩;replace HBr:=kG hg HBr;replace HBt:=kG hg HBt;replace HOP:=h_ (HOP.out.grown hg (by omega));replace HP:=h_ hp;replace HD:=dG HD hg;have hsz5:=HD.out.size;rw[<-hN] at hu;have HUa:=h_ (hu.mono (S':=fun b=>Na<=b/\True) (fun b h=>⟨h,trivial⟩));clear hN hu;clear hp hg;obtain⟨ak,anm,aot,ab,aao,an,aq,ako,akn,akc,aln,acl⟩:=xa;simp only[xv];go_upto_region 6 with fail
  obtain⟨w6,ka,hw,hkk,hb,-,HBa⟩:=newb w5 #[.int .i64 ak,.string anm,.string aot,.bool ab,.slice aao an aq,.slice ako akn akc,.int .i64 aln,.int .i64 acl] 46;have hga:g<ka:=by rw[hkk];exact HP.out.lt
  have hea:w.heap.size<=ka:=by omega
  have hr_a:=lk_ hkk HBr;have ht_a:=lk_ hkk HBt;replace HUa:=h_ (HUa.out.offk hkk);rw[hw,<-hkk];replace HBr:=kB hb HBr;replace HBt:=kB hb HBt;replace HP:=h_ (HP.out.below hb);replace HUa:=h_ (HUa.out.below hb);replace HOP:=h_ (HOP.out.below hb);replace HD:=dB HD hb;have hsz6:=HD.out.size;clear hw hb hkk;obtain⟨ct0,ct1,ct2,ct3⟩:=cl4 HBt.out;obtain⟨ca0,ca1,ca2,ca3,ca4,ca5,ca6,ca7⟩:=cl8 HBa.out;go_wp2_with fail
  clear ct0 ct1 ct2 ct3 ca0 ca1 ca2 ca3 ca4 ca5 ca6 ca7;obtain⟨w7,kkk,hw,hkk,hb,-,HBkk⟩:=newb w6 #[.int .i64 ak,.string anm,.string aot,.bool ab,.slice aao an aq,.slice ako akn akc,.int .i64 aln,.int .i64 acl] 46;have hgkk:g<kkk:=by rw[hkk];exact HP.out.lt
  have hekk:w.heap.size<=kkk:=by omega
  have hr_kk:=lk_ hkk HBr;have ht_kk:=lk_ hkk HBt;have ha_kk:=lk_ hkk HBa;replace HUa:=h_ (HUa.out.offk hkk);rw[hw,<-hkk];replace HBr:=kB hb HBr;replace HBt:=kB hb HBt;replace HBa:=kB hb HBa;replace HP:=h_ (HP.out.below hb);replace HUa:=h_ (HUa.out.below hb);replace HOP:=h_ (HOP.out.below hb);replace HD:=dB HD hb;clear hw hb hkk;refine (part_p kd t (some ⟨kkk,0,none⟩) 1 1 w7).mono ?_;rintro e w8 ⟨rfl,hb⟩;replace HBr:=kB hb HBr;replace HBt:=kB hb HBt;replace HBa:=kB hb HBa;replace HBkk:=kB hb HBkk;replace HP:=h_ (HP.out.below hb);replace HUa:=h_ (HUa.out.below hb);replace HOP:=h_ (HOP.out.below hb);replace HD:=dB HD hb;clear hb;simp only[xv];obtain⟨z0,z1,z2,z3,z4,z5,z6,z7⟩:=cl8 HBr.out;obtain⟨fz0,fz1,fz2,fz3,fz4,fz5,fz6,fz7⟩:=fr8 HBr.out;go_wp2_with fail
  refine bodyPost_ret (v:=.agg #[.int .i64 (kd:Nat),.string ⟨#[]⟩,.string ⟨#[]⟩,.bool false,.slice none 0 0,.slice (some ⟨kkk,0,none⟩) 1 1,.int .i64 (t.line:Nat),.int .i64 (t.col:Nat)]) (by simp[results,Tryz.results115,go_sem,z0,z1,z2,z3,z4,z5,z6,z7]) rfl ?_;obtain⟨wz,hw⟩:∃ x,x=st8 w8 kr (.int .i64 (kd:Nat)) (.string ⟨#[]⟩) (.string ⟨#[]⟩) (.bool false) (.slice none 0 0) (.slice (some ⟨kkk,0,none⟩) 1 1) (.int .i64 (t.line:Nat)) (.int .i64 (t.col:Nat)):=⟨_,rfl⟩
  have hg:w8.grownBy wz (some kr):=by rw[hw];exact st8_grown _ _ _ _ _ _ _ _ _ _
  change TreePost w g _ _ _ (st8 w8 kr (.int .i64 (kd:Nat)) (.string ⟨#[]⟩) (.string ⟨#[]⟩) (.bool false) (.slice none 0 0) (.slice (some ⟨kkk,0,none⟩) 1 1) (.int .i64 (t.line:Nat)) (.int .i64 (t.col:Nat)));rw[<-hw];clear z0 fz0 z1 fz1 z2 fz2 z3 fz3 z4 fz4 z5 fz5 z6 fz6 z7 fz7;replace HP:=h_ (HP.out.store HBr.out (by decide) (by omega) hg);replace HBt:=kG hg HBt;replace HBa:=kG hg HBa;replace HBkk:=kG hg HBkk;replace HUa:=h_ (HUa.out.grown hg (fun h=>by omega));replace HOP:=h_ (HOP.out.grown hg (by omega));replace HD:=dN HD hg (by omega);have hsz8:=HD.out.size;clear hw hg;have hu:U.node kd [] [] 0 s.nx.line s.nx.col [r1.1]=U.node kd [] [] 0 t.line t.col [r1.1]:=by rw[HNt.out]
  unfold prt;rw[hu];exact⟨⟨(kd:Nat),⟨#[]⟩,⟨#[]⟩,false,none,0,0,some ⟨kkk,0,none⟩,1,1,(t.line:Nat),(t.col:Nat)⟩,rfl,um_node kd [] [] t.line t.col kkk [⟨ak,anm,aot,ab,aao,an,aq,ako,akn,akc,aln,acl⟩] [r1.1] 1 rfl (by omega) HBkk.out rfl (all1 (HUa.out.mono (fun b h=>by have h:((Na<=b/\True)/\b≠ka)/\b≠kkk:=h;show _<=b;omega))),HP.out,HD.out⟩
theorem expr_p (n:Nat) (LE:Hid (LetAt n)) (IE:Hid (IfAt n)) (ME:Hid (MatchAt n)) (AE:Hid (AssertAt n)) (BE:Hid (BinAt n)):ExprAt7 (n+1):=by
 intro g s r w hps hop hc;have HP:=h_ hps;have HOP:=h_ hop;clear hps hop;rw[cExpr] at hc
 by_cases q0:s.is wLet=true
 ·rw[if_pos q0] at hc;have h1:=h_ hc;have e0:(s.nx.text==[108,101,116])=true:=q0;clear hc q0;go_enter Tryz.func58,Tryz.ntmps58
  go_upto_region 1 with fail
  obtain⟨w1,kr,hw,hkk,hb,-,HBr⟩:=newb w #[.int .i64 0,.string ⟨#[]⟩,.string ⟨#[]⟩,.bool false,.slice none 0 0,.slice none 0 0,.int .i64 0,.int .i64 0] 46;have hgr:g<kr:=by rw[hkk];exact HP.out.lt
  have her:w.heap.size<=kr:=by omega
  rw[hw,<-hkk];replace HP:=h_ (HP.out.below hb);replace HOP:=h_ (HOP.out.below hb);have HD:=h_ (below_grown hb (some g));clear hw hb hkk;go_wp2_with fail
  refine (next_p g s w1 HP.out).mono ?_;rintro e w2 ⟨rfl,hb⟩;replace HBr:=kB hb HBr;replace HP:=h_ (HP.out.below hb);replace HOP:=h_ (HOP.out.below hb);replace HD:=dB HD hb;have hsz2:=HD.out.size;clear hb;simp only[tokV];have hf:=field_text (s.nx.kind:Nat) (s.nx.line:Nat) (s.nx.col:Nat) ⟨s.nx.text.toArray⟩ w2;go_wp2_with fail
  clear hf;obtain⟨Na,hN⟩:∃ k,k=w2.heap.size:=⟨_,rfl⟩
  have hr_Na:kr<Na:=by rw[hN];exact lt_of_block HBr.out
  have hg_Na:g<Na:=by rw[hN];exact HP.out.lt
  have he_Na:w.heap.size<=Na:=by omega
  refine (LE.out g  _ _ w2 HP.out HOP.out h1.out).mono ?_;rintro e w3 ⟨xa,rfl,hu,hp,hg⟩;replace HBr:=kG hg HBr;replace HOP:=h_ (HOP.out.grown hg (by omega));replace HP:=h_ hp;replace HD:=dG HD hg;rw[<-hN] at hu;have HUa:=h_ (hu.mono (S':=fun b=>Na<=b/\True) (fun b h=>⟨h,trivial⟩));clear hN hu;clear hp hg;obtain⟨ak,anm,aot,ab,aao,an,aq,ako,akn,akc,aln,acl⟩:=xa;simp only[xv];obtain⟨z0,z1,z2,z3,z4,z5,z6,z7⟩:=cl8 HBr.out;obtain⟨fz0,fz1,fz2,fz3,fz4,fz5,fz6,fz7⟩:=fr8 HBr.out;go_wp2_with fail
  refine bodyPost_ret (v:=.agg #[.int .i64 ak,.string anm,.string aot,.bool ab,.slice aao an aq,.slice ako akn akc,.int .i64 aln,.int .i64 acl]) (by simp[results,Tryz.results58,go_sem,z0,z1,z2,z3,z4,z5,z6,z7]) rfl ?_;obtain⟨wz,hw⟩:∃ x,x=st8 w3 kr (.int .i64 ak) (.string anm) (.string aot) (.bool ab) (.slice aao an aq) (.slice ako akn akc) (.int .i64 aln) (.int .i64 acl):=⟨_,rfl⟩
  have hg:w3.grownBy wz (some kr):=by rw[hw];exact st8_grown _ _ _ _ _ _ _ _ _ _
  change TreePost w g _ _ _ (st8 w3 kr (.int .i64 ak) (.string anm) (.string aot) (.bool ab) (.slice aao an aq) (.slice ako akn akc) (.int .i64 aln) (.int .i64 acl));rw[<-hw];clear z0 fz0 z1 fz1 z2 fz2 z3 fz3 z4 fz4 z5 fz5 z6 fz6 z7 fz7;replace HP:=h_ (HP.out.store HBr.out (by decide) (by omega) hg);replace HUa:=h_ (HUa.out.grown hg (fun h=>by omega));replace HOP:=h_ (HOP.out.grown hg (by omega));replace HD:=dN HD hg (by omega);have hsz3:=HD.out.size;clear hw hg;exact⟨⟨ak,anm,aot,ab,aao,an,aq,ako,akn,akc,aln,acl⟩,rfl,(HUa.out.mono (fun b h=>by have h:Na<=b/\True:=h;show _<=b;omega)),HP.out,HD.out⟩
 rw[if_neg q0] at hc;have e0:(s.nx.text==[108,101,116])=false:=by simpa [St.is] using q0
 by_cases q1:s.is wIf=true
 ·rw[if_pos q1] at hc;have h1:=h_ hc;have e1:(s.nx.text==[105,102])=true:=q1;clear hc q0 q1;go_enter Tryz.func58,Tryz.ntmps58
  go_upto_region 1 with fail
  obtain⟨w1,kr,hw,hkk,hb,-,HBr⟩:=newb w #[.int .i64 0,.string ⟨#[]⟩,.string ⟨#[]⟩,.bool false,.slice none 0 0,.slice none 0 0,.int .i64 0,.int .i64 0] 46;have hgr:g<kr:=by rw[hkk];exact HP.out.lt
  have her:w.heap.size<=kr:=by omega
  rw[hw,<-hkk];replace HP:=h_ (HP.out.below hb);replace HOP:=h_ (HOP.out.below hb);have HD:=h_ (below_grown hb (some g));clear hw hb hkk;go_wp2_with fail
  refine (next_p g s w1 HP.out).mono ?_;rintro e w2 ⟨rfl,hb⟩;replace HBr:=kB hb HBr;replace HP:=h_ (HP.out.below hb);replace HOP:=h_ (HOP.out.below hb);replace HD:=dB HD hb;have hsz2:=HD.out.size;clear hb;simp only[tokV];have hf:=field_text (s.nx.kind:Nat) (s.nx.line:Nat) (s.nx.col:Nat) ⟨s.nx.text.toArray⟩ w2;go_wp2_with fail
  clear hf;obtain⟨Na,hN⟩:∃ k,k=w2.heap.size:=⟨_,rfl⟩
  have hr_Na:kr<Na:=by rw[hN];exact lt_of_block HBr.out
  have hg_Na:g<Na:=by rw[hN];exact HP.out.lt
  have he_Na:w.heap.size<=Na:=by omega
  refine (IE.out g  _ _ w2 HP.out HOP.out h1.out).mono ?_;rintro e w3 ⟨xa,rfl,hu,hp,hg⟩;replace HBr:=kG hg HBr;replace HOP:=h_ (HOP.out.grown hg (by omega));replace HP:=h_ hp;replace HD:=dG HD hg;rw[<-hN] at hu;have HUa:=h_ (hu.mono (S':=fun b=>Na<=b/\True) (fun b h=>⟨h,trivial⟩));clear hN hu;clear hp hg;obtain⟨ak,anm,aot,ab,aao,an,aq,ako,akn,akc,aln,acl⟩:=xa;simp only[xv];obtain⟨z0,z1,z2,z3,z4,z5,z6,z7⟩:=cl8 HBr.out;obtain⟨fz0,fz1,fz2,fz3,fz4,fz5,fz6,fz7⟩:=fr8 HBr.out;go_wp2_with fail
  refine bodyPost_ret (v:=.agg #[.int .i64 ak,.string anm,.string aot,.bool ab,.slice aao an aq,.slice ako akn akc,.int .i64 aln,.int .i64 acl]) (by simp[results,Tryz.results58,go_sem,z0,z1,z2,z3,z4,z5,z6,z7]) rfl ?_;obtain⟨wz,hw⟩:∃ x,x=st8 w3 kr (.int .i64 ak) (.string anm) (.string aot) (.bool ab) (.slice aao an aq) (.slice ako akn akc) (.int .i64 aln) (.int .i64 acl):=⟨_,rfl⟩
  have hg:w3.grownBy wz (some kr):=by rw[hw];exact st8_grown _ _ _ _ _ _ _ _ _ _
  change TreePost w g _ _ _ (st8 w3 kr (.int .i64 ak) (.string anm) (.string aot) (.bool ab) (.slice aao an aq) (.slice ako akn akc) (.int .i64 aln) (.int .i64 acl));rw[<-hw];clear z0 fz0 z1 fz1 z2 fz2 z3 fz3 z4 fz4 z5 fz5 z6 fz6 z7 fz7;replace HP:=h_ (HP.out.store HBr.out (by decide) (by omega) hg);replace HUa:=h_ (HUa.out.grown hg (fun h=>by omega));replace HOP:=h_ (HOP.out.grown hg (by omega));replace HD:=dN HD hg (by omega);have hsz3:=HD.out.size;clear hw hg;exact⟨⟨ak,anm,aot,ab,aao,an,aq,ako,akn,akc,aln,acl⟩,rfl,(HUa.out.mono (fun b h=>by have h:Na<=b/\True:=h;show _<=b;omega)),HP.out,HD.out⟩
 rw[if_neg q1] at hc;have e1:(s.nx.text==[105,102])=false:=by simpa [St.is] using q1
 by_cases q2:s.is wMatch=true
 ·rw[if_pos q2] at hc;have h1:=h_ hc;have e2:(s.nx.text==[109,97,116,99,104])=true:=q2;clear hc q0 q1 q2;go_enter Tryz.func58,Tryz.ntmps58
  go_upto_region 1 with fail
  obtain⟨w1,kr,hw,hkk,hb,-,HBr⟩:=newb w #[.int .i64 0,.string ⟨#[]⟩,.string ⟨#[]⟩,.bool false,.slice none 0 0,.slice none 0 0,.int .i64 0,.int .i64 0] 46;have hgr:g<kr:=by rw[hkk];exact HP.out.lt
  have her:w.heap.size<=kr:=by omega
  rw[hw,<-hkk];replace HP:=h_ (HP.out.below hb);replace HOP:=h_ (HOP.out.below hb);have HD:=h_ (below_grown hb (some g));clear hw hb hkk;go_wp2_with fail
  refine (next_p g s w1 HP.out).mono ?_;rintro e w2 ⟨rfl,hb⟩;replace HBr:=kB hb HBr;replace HP:=h_ (HP.out.below hb);replace HOP:=h_ (HOP.out.below hb);replace HD:=dB HD hb;have hsz2:=HD.out.size;clear hb;simp only[tokV];have hf:=field_text (s.nx.kind:Nat) (s.nx.line:Nat) (s.nx.col:Nat) ⟨s.nx.text.toArray⟩ w2;go_wp2_with fail
  clear hf;obtain⟨Na,hN⟩:∃ k,k=w2.heap.size:=⟨_,rfl⟩
  have hr_Na:kr<Na:=by rw[hN];exact lt_of_block HBr.out
  have hg_Na:g<Na:=by rw[hN];exact HP.out.lt
  have he_Na:w.heap.size<=Na:=by omega
  refine (ME.out g  _ _ w2 HP.out HOP.out h1.out).mono ?_;rintro e w3 ⟨xa,rfl,hu,hp,hg⟩;replace HBr:=kG hg HBr;replace HOP:=h_ (HOP.out.grown hg (by omega));replace HP:=h_ hp;replace HD:=dG HD hg;rw[<-hN] at hu;have HUa:=h_ (hu.mono (S':=fun b=>Na<=b/\True) (fun b h=>⟨h,trivial⟩));clear hN hu;clear hp hg;obtain⟨ak,anm,aot,ab,aao,an,aq,ako,akn,akc,aln,acl⟩:=xa;simp only[xv];obtain⟨z0,z1,z2,z3,z4,z5,z6,z7⟩:=cl8 HBr.out;obtain⟨fz0,fz1,fz2,fz3,fz4,fz5,fz6,fz7⟩:=fr8 HBr.out;go_wp2_with fail
  refine bodyPost_ret (v:=.agg #[.int .i64 ak,.string anm,.string aot,.bool ab,.slice aao an aq,.slice ako akn akc,.int .i64 aln,.int .i64 acl]) (by simp[results,Tryz.results58,go_sem,z0,z1,z2,z3,z4,z5,z6,z7]) rfl ?_;obtain⟨wz,hw⟩:∃ x,x=st8 w3 kr (.int .i64 ak) (.string anm) (.string aot) (.bool ab) (.slice aao an aq) (.slice ako akn akc) (.int .i64 aln) (.int .i64 acl):=⟨_,rfl⟩
  have hg:w3.grownBy wz (some kr):=by rw[hw];exact st8_grown _ _ _ _ _ _ _ _ _ _
  change TreePost w g _ _ _ (st8 w3 kr (.int .i64 ak) (.string anm) (.string aot) (.bool ab) (.slice aao an aq) (.slice ako akn akc) (.int .i64 aln) (.int .i64 acl));rw[<-hw];clear z0 fz0 z1 fz1 z2 fz2 z3 fz3 z4 fz4 z5 fz5 z6 fz6 z7 fz7;replace HP:=h_ (HP.out.store HBr.out (by decide) (by omega) hg);replace HUa:=h_ (HUa.out.grown hg (fun h=>by omega));replace HOP:=h_ (HOP.out.grown hg (by omega));replace HD:=dN HD hg (by omega);have hsz3:=HD.out.size;clear hw hg;exact⟨⟨ak,anm,aot,ab,aao,an,aq,ako,akn,akc,aln,acl⟩,rfl,(HUa.out.mono (fun b h=>by have h:Na<=b/\True:=h;show _<=b;omega)),HP.out,HD.out⟩
 rw[if_neg q2] at hc;have e2:(s.nx.text==[109,97,116,99,104])=false:=by simpa [St.is] using q2
 by_cases q3:s.is wAssert=true
 ·rw[if_pos q3] at hc;have h1:=h_ hc;have e3:(s.nx.text==[97,115,115,101,114,116])=true:=q3;clear hc q0 q1 q2 q3;go_enter Tryz.func58,Tryz.ntmps58
  go_upto_region 1 with fail
  obtain⟨w1,kr,hw,hkk,hb,-,HBr⟩:=newb w #[.int .i64 0,.string ⟨#[]⟩,.string ⟨#[]⟩,.bool false,.slice none 0 0,.slice none 0 0,.int .i64 0,.int .i64 0] 46;have hgr:g<kr:=by rw[hkk];exact HP.out.lt
  have her:w.heap.size<=kr:=by omega
  rw[hw,<-hkk];replace HP:=h_ (HP.out.below hb);replace HOP:=h_ (HOP.out.below hb);have HD:=h_ (below_grown hb (some g));clear hw hb hkk;go_wp2_with fail
  refine (next_p g s w1 HP.out).mono ?_;rintro e w2 ⟨rfl,hb⟩;replace HBr:=kB hb HBr;replace HP:=h_ (HP.out.below hb);replace HOP:=h_ (HOP.out.below hb);replace HD:=dB HD hb;have hsz2:=HD.out.size;clear hb;simp only[tokV];have hf:=field_text (s.nx.kind:Nat) (s.nx.line:Nat) (s.nx.col:Nat) ⟨s.nx.text.toArray⟩ w2;go_wp2_with fail
  clear hf;obtain⟨Na,hN⟩:∃ k,k=w2.heap.size:=⟨_,rfl⟩
  have hr_Na:kr<Na:=by rw[hN];exact lt_of_block HBr.out
  have hg_Na:g<Na:=by rw[hN];exact HP.out.lt
  have he_Na:w.heap.size<=Na:=by omega
  refine (AE.out g  _ _ w2 HP.out HOP.out h1.out).mono ?_;rintro e w3 ⟨xa,rfl,hu,hp,hg⟩;replace HBr:=kG hg HBr;replace HOP:=h_ (HOP.out.grown hg (by omega));replace HP:=h_ hp;replace HD:=dG HD hg;rw[<-hN] at hu;have HUa:=h_ (hu.mono (S':=fun b=>Na<=b/\True) (fun b h=>⟨h,trivial⟩));clear hN hu;clear hp hg;obtain⟨ak,anm,aot,ab,aao,an,aq,ako,akn,akc,aln,acl⟩:=xa;simp only[xv];obtain⟨z0,z1,z2,z3,z4,z5,z6,z7⟩:=cl8 HBr.out;obtain⟨fz0,fz1,fz2,fz3,fz4,fz5,fz6,fz7⟩:=fr8 HBr.out;go_wp2_with fail
  refine bodyPost_ret (v:=.agg #[.int .i64 ak,.string anm,.string aot,.bool ab,.slice aao an aq,.slice ako akn akc,.int .i64 aln,.int .i64 acl]) (by simp[results,Tryz.results58,go_sem,z0,z1,z2,z3,z4,z5,z6,z7]) rfl ?_;obtain⟨wz,hw⟩:∃ x,x=st8 w3 kr (.int .i64 ak) (.string anm) (.string aot) (.bool ab) (.slice aao an aq) (.slice ako akn akc) (.int .i64 aln) (.int .i64 acl):=⟨_,rfl⟩
  have hg:w3.grownBy wz (some kr):=by rw[hw];exact st8_grown _ _ _ _ _ _ _ _ _ _
  change TreePost w g _ _ _ (st8 w3 kr (.int .i64 ak) (.string anm) (.string aot) (.bool ab) (.slice aao an aq) (.slice ako akn akc) (.int .i64 aln) (.int .i64 acl));rw[<-hw];clear z0 fz0 z1 fz1 z2 fz2 z3 fz3 z4 fz4 z5 fz5 z6 fz6 z7 fz7;replace HP:=h_ (HP.out.store HBr.out (by decide) (by omega) hg);replace HUa:=h_ (HUa.out.grown hg (fun h=>by omega));replace HOP:=h_ (HOP.out.grown hg (by omega));replace HD:=dN HD hg (by omega);have hsz3:=HD.out.size;clear hw hg;exact⟨⟨ak,anm,aot,ab,aao,an,aq,ako,akn,akc,aln,acl⟩,rfl,(HUa.out.mono (fun b h=>by have h:Na<=b/\True:=h;show _<=b;omega)),HP.out,HD.out⟩
 rw[if_neg q3] at hc;have e3:(s.nx.text==[97,115,115,101,114,116])=false:=by simpa [St.is] using q3
 have h1:=h_ hc;clear hc q0 q1 q2 q3;go_enter Tryz.func58,Tryz.ntmps58
 go_upto_region 1 with fail
 obtain⟨w1,kr,hw,hkk,hb,-,HBr⟩:=newb w #[.int .i64 0,.string ⟨#[]⟩,.string ⟨#[]⟩,.bool false,.slice none 0 0,.slice none 0 0,.int .i64 0,.int .i64 0] 46;have hgr:g<kr:=by rw[hkk];exact HP.out.lt
 have her:w.heap.size<=kr:=by omega
 rw[hw,<-hkk];replace HP:=h_ (HP.out.below hb);replace HOP:=h_ (HOP.out.below hb);have HD:=h_ (below_grown hb (some g));clear hw hb hkk;go_wp2_with fail
 refine (next_p g s w1 HP.out).mono ?_;rintro e w2 ⟨rfl,hb⟩;replace HBr:=kB hb HBr;replace HP:=h_ (HP.out.below hb);replace HOP:=h_ (HOP.out.below hb);replace HD:=dB HD hb;have hsz2:=HD.out.size;clear hb;simp only[tokV];have hf:=field_text (s.nx.kind:Nat) (s.nx.line:Nat) (s.nx.col:Nat) ⟨s.nx.text.toArray⟩ w2;go_wp2_with fail
 clear hf;obtain⟨Na,hN⟩:∃ k,k=w2.heap.size:=⟨_,rfl⟩
 have hr_Na:kr<Na:=by rw[hN];exact lt_of_block HBr.out
 have hg_Na:g<Na:=by rw[hN];exact HP.out.lt
 have he_Na:w.heap.size<=Na:=by omega
 refine (BE.out g 1 _ _ w2 HP.out HOP.out h1.out).mono ?_;rintro e w3 ⟨xa,rfl,hu,hp,hg⟩;replace HBr:=kG hg HBr;replace HOP:=h_ (HOP.out.grown hg (by omega));replace HP:=h_ hp;replace HD:=dG HD hg;rw[<-hN] at hu;have HUa:=h_ (hu.mono (S':=fun b=>Na<=b/\True) (fun b h=>⟨h,trivial⟩));clear hN hu;clear hp hg;obtain⟨ak,anm,aot,ab,aao,an,aq,ako,akn,akc,aln,acl⟩:=xa;simp only[xv];obtain⟨z0,z1,z2,z3,z4,z5,z6,z7⟩:=cl8 HBr.out;obtain⟨fz0,fz1,fz2,fz3,fz4,fz5,fz6,fz7⟩:=fr8 HBr.out;go_wp2_with fail
 refine bodyPost_ret (v:=.agg #[.int .i64 ak,.string anm,.string aot,.bool ab,.slice aao an aq,.slice ako akn akc,.int .i64 aln,.int .i64 acl]) (by simp[results,Tryz.results58,go_sem,z0,z1,z2,z3,z4,z5,z6,z7]) rfl ?_;obtain⟨wz,hw⟩:∃ x,x=st8 w3 kr (.int .i64 ak) (.string anm) (.string aot) (.bool ab) (.slice aao an aq) (.slice ako akn akc) (.int .i64 aln) (.int .i64 acl):=⟨_,rfl⟩
 have hg:w3.grownBy wz (some kr):=by rw[hw];exact st8_grown _ _ _ _ _ _ _ _ _ _
 change TreePost w g _ _ _ (st8 w3 kr (.int .i64 ak) (.string anm) (.string aot) (.bool ab) (.slice aao an aq) (.slice ako akn akc) (.int .i64 aln) (.int .i64 acl));rw[<-hw];clear z0 fz0 z1 fz1 z2 fz2 z3 fz3 z4 fz4 z5 fz5 z6 fz6 z7 fz7;replace HP:=h_ (HP.out.store HBr.out (by decide) (by omega) hg);replace HUa:=h_ (HUa.out.grown hg (fun h=>by omega));replace HOP:=h_ (HOP.out.grown hg (by omega));replace HD:=dN HD hg (by omega);have hsz3:=HD.out.size;clear hw hg;exact⟨⟨ak,anm,aot,ab,aao,an,aq,ako,akn,akc,aln,acl⟩,rfl,(HUa.out.mono (fun b h=>by have h:Na<=b/\True:=h;show _<=b;omega)),HP.out,HD.out⟩
def pLen (w:World) (g:Nat):Nat:=match w.cell? ⟨g,0,none⟩ with | some (.slice _ n _)=>n | _=>0
theorem PS.len {w:World} {g:Nat} {s:St} (h:PS w g s):pLen w g=s.rest.length:=by
 obtain⟨b,o,c,ev,h1,-⟩:=h.1;unfold pLen;rw[cell_at (v:=.slice (some ⟨b,o,none⟩) s.rest.length c) h1 0 rfl]
theorem len_exp (s:St) (w:Bs):(s.exp w).rest.length<=s.rest.length:=by unfold St.exp;split;exact len_tk s;exact len_fail s _ _
theorem len_name (s:St):s.name.rest.length<=s.rest.length:=by unfold St.name;split;exact len_tk s;exact Nat.le_trans (len_fail _ _ _) (len_tk s)
theorem c_len (n:Nat):(∀ s x,cExpr n s=some x->x.2.rest.length<=s.rest.length)/\(∀ s x,cLet n s=some x->x.2.rest.length<=s.rest.length)/\(∀ s x,cIf n s=some x->x.2.rest.length<=s.rest.length)/\(∀ s x,cMatch n s=some x->x.2.rest.length<=s.rest.length)/\(∀ s x,cAssert n s=some x->x.2.rest.length<=s.rest.length) /\
  (∀ l s x,cBin n l s=some x->x.2.rest.length<=s.rest.length)/\(∀ l e v s x,cLoop n l e v s=some x->x.2.rest.length<=s.rest.length)/\(∀ s x,cOne n s=some x->x.2.rest.length<=s.rest.length)/\(∀ s x,cAtom n s=some x->x.2.rest.length<=s.rest.length)/\(∀ s x,cArgs n s=some x->x.2.rest.length<=s.rest.length)/\(∀ l s x,cMore n l s=some x->x.2.rest.length<=s.rest.length):=by
 induction n with
 | zero=>refine⟨?_,?_,?_,?_,?_,?_,?_,?_,?_,?_,?_⟩<;>intros<;>simp_all [cExpr,cLet,cIf,cMatch,cAssert,cBin,cLoop,cOne,cAtom,cArgs,cMore]
 | succ n ih =>
  obtain⟨i1,i2,i3,i4,i5,i6,i7,i8,i9,i10,i11⟩:=ih;refine⟨?_,?_,?_,?_,?_,?_,?_,?_,?_,?_,?_⟩
  ·intro s x h;rw[cExpr] at h
   split at h;exact i2 _ _ h
   split at h;exact i3 _ _ h
   split at h;exact i4 _ _ h
   split at h;exact i5 _ _ h
   exact i6 _ _ _ h
  ·intro s x h;rw[cLet] at h;simp only[Option.bind_eq_some_iff] at h;obtain⟨r1,h1,r2,h2,h3⟩:=h;injection h3 with h3;subst h3
   show r2.2.rest.length<=_
   exact Nat.le_trans (i1 _ _ h2) (Nat.le_trans (len_exp _ _) (Nat.le_trans (i1 _ _ h1) (Nat.le_trans (len_exp _ _) (Nat.le_trans (len_name _) (len_tk _)))))
  ·intro s x h;rw[cIf] at h;simp only[Option.bind_eq_some_iff] at h;obtain⟨r1,h1,r2,h2,r3,h3,h4⟩:=h;injection h4 with h4;subst h4
   show r3.2.rest.length<=_
   exact Nat.le_trans (i1 _ _ h3) (Nat.le_trans (len_exp _ _) (Nat.le_trans (i1 _ _ h2) (Nat.le_trans (len_exp _ _) (Nat.le_trans (i1 _ _ h1) (len_tk _)))))
  ·intro s x h;rw[cMatch] at h;simp only[Option.bind_eq_some_iff] at h;obtain⟨r1,h1,r2,h2,r3,h3,h4⟩:=h;injection h4 with h4;subst h4
   show r3.2.rest.length<=_
   refine Nat.le_trans (i1 _ _ h3) (Nat.le_trans (len_exp _ _) (Nat.le_trans (len_name _) (Nat.le_trans (len_exp _ _) (Nat.le_trans (len_name _) (Nat.le_trans (len_exp _ _) (Nat.le_trans (i1 _ _ h2) ?_))))));exact Nat.le_trans (len_exp _ _) (Nat.le_trans (len_exp _ _) (Nat.le_trans (len_exp _ _) (Nat.le_trans (i1 _ _ h1) (len_tk _))))
  ·intro s x h;rw[cAssert] at h;simp only[Option.bind_eq_some_iff] at h;obtain⟨r1,h1,r2,h2,h3⟩:=h;injection h3 with h3;subst h3
   show r2.2.rest.length<=_
   exact Nat.le_trans (i1 _ _ h2) (Nat.le_trans (len_exp _ _) (Nat.le_trans (i1 _ _ h1) (len_tk _)))
  ·intro l s x h;rw[cBin,Option.bind_eq_some_iff] at h;obtain⟨r1,h1,h2⟩:=h;exact Nat.le_trans (i7 _ _ _ _ _ h2) (i8 _ _ h1)
  ·intro l e v s x h;rw[cLoop] at h
   split at h
   ·injection h with h;subst h;exact Nat.le_refl _
   split at h
   ·injection h with h;subst h;exact Nat.le_refl _
   rw[Option.bind_eq_some_iff] at h;obtain⟨r1,h1,h2⟩:=h;exact Nat.le_trans (i7 _ _ _ _ _ h2) (Nat.le_trans (i6 _ _ _ h1) (len_tk _))
  ·intro s x h;rw[cOne] at h
   split at h
   ·exact i9 _ _ h
   rw[Option.bind_eq_some_iff] at h;obtain⟨r1,h1,h2⟩:=h;injection h2 with h2;subst h2
   show r1.2.rest.length<=_
   exact Nat.le_trans (i8 _ _ h1) (len_tk _)
  ·intro s x h;rw[cAtom] at h
   split at h
   ·injection h with h;subst h;exact len_tk _
   split at h
   ·split at h
    ·rw[Option.bind_eq_some_iff] at h;obtain⟨r1,h1,h2⟩:=h;injection h2 with h2;subst h2;exact Nat.le_trans (i10 _ _ h1) (Nat.le_trans (len_tk _) (len_tk _))
    injection h with h;subst h;exact len_tk _
   split at h
   ·injection h with h;subst h;exact len_tk _
   split at h
   ·injection h with h;subst h;exact len_tk _
   split at h
   ·injection h with h;subst h;exact len_tk _
   split at h
   ·injection h with h;subst h;exact len_tk _
   split at h
   ·rw[Option.bind_eq_some_iff] at h;obtain⟨r1,h1,h2⟩:=h;injection h2 with h2;subst h2;exact Nat.le_trans (len_exp _ _) (Nat.le_trans (i1 _ _ h1) (len_tk _))
   injection h with h;subst h;exact Nat.le_trans (len_fail _ _ _) (len_tk _)
  ·intro s x h;rw[cArgs] at h
   split at h
   ·injection h with h;subst h;exact len_tk _
   rw[Option.bind_eq_some_iff] at h;obtain⟨r1,h1,h2⟩:=h;exact Nat.le_trans (i11 _ _ _ h2) (i1 _ _ h1)
  intro l s x h;rw[cMore] at h
  split at h
  ·rw[Option.bind_eq_some_iff] at h;obtain⟨r1,h1,h2⟩:=h;exact Nat.le_trans (i11 _ _ _ h2) (Nat.le_trans (i1 _ _ h1) (len_tk _))
  injection h with h;subst h;exact len_exp _ _
def BinRel (n g:Nat) (w:World) (ke kr l:Nat) (r:U × St) (lv:Value) (wr:World):Prop:=
 ∃ (m:Nat) (x:X) (u:U) (lev:Nat) (sj:St),lv=.int .i64 (lev:Nat)/\m<=n/\Hid (cLoop m l u lev sj=some r)/\Hid (wr.heap[ke]?=some (.cells #[.int .i64 x.k,.string x.nm,.string x.ot,.bool x.b,.slice x.ao x.n x.c,.slice x.ko x.kn x.kc,.int .i64 x.ln,.int .i64 x.cl] 46 (0,0)))/\Hid (Um wr (fun b=>w.heap.size<=b/\b≠ke/\b≠kr) x u)/\Hid (PS wr g sj)/\Hid (GOps wr g)/\Hid (w.grownBy wr (some g))/\Hid (wr.heap[kr]?=some (.cells #[.int .i64 0,.string ⟨#[]⟩,.string ⟨#[]⟩,.bool false,.slice none 0 0,.slice none 0 0,.int .i64 0,.int .i64 0] 46 (0,0)))
theorem bin_p (n:Nat) (O:Hid (OneAt n)) (B:Hid (∀ m,m<n->BinAt m)):BinAt (n+1):=by
 intro g l s r w hps hop hc;have hgw:g<w.heap.size:=hps.lt;have HP:=h_ hps;have HOP:=h_ hop;clear hps hop;rw[cBin,Option.bind_eq_some_iff] at hc;obtain⟨r1,h1,h2⟩:=hc;have h1:=h_ h1;have h2:=h_ h2;go_enter Tryz.func95,Tryz.ntmps95
 go_upto_region 1 with fail
 obtain⟨w1,kr,hw,hkk,hb,-,HBr⟩:=newb w #[.int .i64 0,.string ⟨#[]⟩,.string ⟨#[]⟩,.bool false,.slice none 0 0,.slice none 0 0,.int .i64 0,.int .i64 0] 46;have hgr:g<kr:=by rw[hkk];exact HP.out.lt
 have her:w.heap.size<=kr:=by omega
 rw[hw,<-hkk];replace HP:=h_ (HP.out.below hb);replace HOP:=h_ (HOP.out.below hb);have HD:=h_ (below_grown hb (some g));have hsz1:=HD.out.size;clear hw hb hkk;go_wp2_with fail
 obtain⟨Na,hN⟩:∃ k,k=w1.heap.size:=⟨_,rfl⟩
 have hr_Na:kr<Na:=by rw[hN];exact lt_of_block HBr.out
 have hg_Na:g<Na:=by rw[hN];exact HP.out.lt
 have he_Na:w.heap.size<=Na:=by omega
 refine (O.out g _ _ w1 HP.out HOP.out h1.out).mono ?_;rintro e w2 ⟨xa,rfl,hu,hp,hg⟩;replace HBr:=kG hg HBr;replace HOP:=h_ (HOP.out.grown hg (by omega));replace HP:=h_ hp;replace HD:=dG HD hg;have hsz2:=HD.out.size;rw[<-hN] at hu;have HUa:=h_ (hu.mono (S':=fun b=>Na<=b/\True) (fun b h=>⟨h,trivial⟩));clear hN hu;clear hp hg;obtain⟨ak,anm,aot,ab,aao,an,aq,ako,akn,akc,aln,acl⟩:=xa;simp only[xv];go_wp2_with fail
 obtain⟨w3,ke,hw,hkk,hb,-,HBe⟩:=newb w2 #[.int .i64 ak,.string anm,.string aot,.bool ab,.slice aao an aq,.slice ako akn akc,.int .i64 aln,.int .i64 acl] 46;have hge:g<ke:=by rw[hkk];exact HP.out.lt
 have hee:w.heap.size<=ke:=by omega
 have hr_e:=lk_ hkk HBr;replace HUa:=h_ (HUa.out.offk hkk);rw[hw,<-hkk];replace HBr:=kB hb HBr;replace HP:=h_ (HP.out.below hb);replace HUa:=h_ (HUa.out.below hb);replace HOP:=h_ (HOP.out.below hb);replace HD:=dB HD hb;have hsz3:=HD.out.size;clear hw hb hkk
 go_loopw [6] (fun lv wr=>BinRel n g w ke kr l r lv wr) (fun _ wr=>pLen wr g)
 case atStart=>exact⟨n,⟨ak,anm,aot,ab,aao,an,aq,ako,akn,akc,aln,acl⟩,r1.1,7,r1.2,rfl,Nat.le_refl _,h_ h2.out,HBe,h_ (HUa.out.mono (fun b h=>by have h:(Na<=b/\True)/\b≠ke:=h;exact⟨by omega,by omega,by omega⟩)),HP,HOP,HD,HBr⟩
 case round =>
  obtain⟨m,x,u,lev,sj,rfl,hm,HC,HBe,HUe,HP,HOP,HD,HBr⟩:=hrel;obtain⟨xk,xnm,xot,xb,xao,xn,xq,xko,xkn,xkc,xln,xcl⟩:=x;simp only at HBe HUe;have hsz100:=HD.out.size;have HLN:=h_ HP.out.len;have HGD:=h_ HP.out.good
  cases m with
  | zero=>exact absurd HC.out (by simp[cLoop])
  | succ m =>
   have hcl:=HC.out;rw[cLoop] at hcl;go_wp2_with fail
   refine (next_p g sj wr HP.out).mono ?_;rintro e w101 ⟨rfl,hb⟩;replace HBr:=kB hb HBr;replace HBe:=kB hb HBe;replace HP:=h_ (HP.out.below hb);replace HUe:=h_ (HUe.out.below hb);replace HOP:=h_ (HOP.out.below hb);replace HD:=dB HD hb;clear hb;simp only[tokV];have hf:=field_text (sj.nx.kind:Nat) (sj.nx.line:Nat) (sj.nx.col:Nat) ⟨sj.nx.text.toArray⟩ w101;go_wp2_with fail
   refine (binop_p sj.nx.text w101 HOP.out.1).mono ?_;rintro e w102 ⟨rfl,hb⟩;replace HBr:=kB hb HBr;replace HBe:=kB hb HBe;replace HP:=h_ (HP.out.below hb);replace HUe:=h_ (HUe.out.below hb);replace HOP:=h_ (HOP.out.below hb);replace HD:=dB HD hb;have hsz102:=HD.out.size;clear hb;clear hf
   cases ho:bopOf sj.nx.text with
   | none =>
    rw[ho] at hcl;injection hcl with hcl;subst hcl;clear ho;simp only[opV,Option.isSome_none];go_upto_region 3 with fail
    obtain⟨w103,kop,hw,hkk,hb,-,HBop⟩:=newb w102 #[.string ⟨#[]⟩,.int .i64 0,.int .i64 0,.int .i64 0,.int .i64 0] 200;have hgop:g<kop:=by rw[hkk];exact HP.out.lt
    have heop:w.heap.size<=kop:=by omega
    have hr_op:=lk_ hkk HBr;have he_op:=lk_ hkk HBe;replace HUe:=h_ (HUe.out.offk hkk);rw[hw,<-hkk];replace HBr:=kB hb HBr;replace HBe:=kB hb HBe;replace HP:=h_ (HP.out.below hb);replace HUe:=h_ (HUe.out.below hb);replace HOP:=h_ (HOP.out.below hb);replace HD:=dB HD hb;clear hw hb hkk;obtain⟨o0,o1,o2,o3,o4⟩:=cl5 HBop.out;obtain⟨ce0,ce1,ce2,ce3,ce4,ce5,ce6,ce7⟩:=cl8 HBe.out;obtain⟨z0,z1,z2,z3,z4,z5,z6,z7⟩:=cl8 HBr.out;obtain⟨fz0,fz1,fz2,fz3,fz4,fz5,fz6,fz7⟩:=fr8 HBr.out;go_wp2_with fail
    refine bodyPost_ret (v:=.agg #[.int .i64 xk,.string xnm,.string xot,.bool xb,.slice xao xn xq,.slice xko xkn xkc,.int .i64 xln,.int .i64 xcl]) (by simp[results,Tryz.results95,go_sem,z0,z1,z2,z3,z4,z5,z6,z7]) rfl ?_;obtain⟨wz,hw⟩:∃ x,x=st8 w103 kr (.int .i64 xk) (.string xnm) (.string xot) (.bool xb) (.slice xao xn xq) (.slice xko xkn xkc) (.int .i64 xln) (.int .i64 xcl):=⟨_,rfl⟩
    have hg:w103.grownBy wz (some kr):=by rw[hw];exact st8_grown _ _ _ _ _ _ _ _ _ _
    change TreePost w g _ _ _ (st8 w103 kr (.int .i64 xk) (.string xnm) (.string xot) (.bool xb) (.slice xao xn xq) (.slice xko xkn xkc) (.int .i64 xln) (.int .i64 xcl));rw[<-hw];clear o0 o1 o2 o3 o4 ce0 ce1 ce2 ce3 ce4 ce5 ce6 ce7 z0 fz0 z1 fz1 z2 fz2 z3 fz3 z4 fz4 z5 fz5 z6 fz6 z7 fz7;replace HP:=h_ (HP.out.store HBr.out (by decide) (by omega) hg);replace HBe:=kG hg HBe;replace HBop:=kG hg HBop;replace HUe:=h_ (HUe.out.grown hg (fun h=>by omega));replace HOP:=h_ (HOP.out.grown hg (by omega));replace HD:=dN HD hg (by omega);have hsz103:=HD.out.size;clear hw hg;exact⟨⟨xk,xnm,xot,xb,xao,xn,xq,xko,xkn,xkc,xln,xcl⟩,rfl,(HUe.out.mono (fun b h=>by have h:(w.heap.size<=b/\b≠ke/\b≠kr)/\b≠kop:=h;show _<=b;omega)),HP.out,HD.out⟩
   | some op =>
    rw[ho] at hcl;simp only at hcl;have HOPP:=h_ ho;clear ho;simp only[opV,Option.isSome_some]
    by_cases hst:op.level<l\/lev<op.left
    ·rw[if_pos hst] at hcl;injection hcl with hcl;subst hcl
     by_cases hs1:op.level<l
     ·have hs3:decide (op.level<l)=true:=by simpa using hs1
      clear hst;go_upto_region 3 with fail
      obtain⟨w103,kop,hw,hkk,hb,-,HBop⟩:=newb w102 #[.string ⟨op.sign.toArray⟩,.int .i64 (op.kind:Nat),.int .i64 (op.level:Nat),.int .i64 (op.left:Nat),.int .i64 (op.right:Nat)] 200;have hgop:g<kop:=by rw[hkk];exact HP.out.lt
      have heop:w.heap.size<=kop:=by omega
      have hr_op:=lk_ hkk HBr;have he_op:=lk_ hkk HBe;replace HUe:=h_ (HUe.out.offk hkk);rw[hw,<-hkk];replace HBr:=kB hb HBr;replace HBe:=kB hb HBe;replace HP:=h_ (HP.out.below hb);replace HUe:=h_ (HUe.out.below hb);replace HOP:=h_ (HOP.out.below hb);replace HD:=dB HD hb;clear hw hb hkk;obtain⟨o0,o1,o2,o3,o4⟩:=cl5 HBop.out;obtain⟨ce0,ce1,ce2,ce3,ce4,ce5,ce6,ce7⟩:=cl8 HBe.out;obtain⟨z0,z1,z2,z3,z4,z5,z6,z7⟩:=cl8 HBr.out;obtain⟨fz0,fz1,fz2,fz3,fz4,fz5,fz6,fz7⟩:=fr8 HBr.out;go_wp2_with fail
      refine bodyPost_ret (v:=.agg #[.int .i64 xk,.string xnm,.string xot,.bool xb,.slice xao xn xq,.slice xko xkn xkc,.int .i64 xln,.int .i64 xcl]) (by simp[results,Tryz.results95,go_sem,z0,z1,z2,z3,z4,z5,z6,z7]) rfl ?_;obtain⟨wz,hw⟩:∃ x,x=st8 w103 kr (.int .i64 xk) (.string xnm) (.string xot) (.bool xb) (.slice xao xn xq) (.slice xko xkn xkc) (.int .i64 xln) (.int .i64 xcl):=⟨_,rfl⟩
      have hg:w103.grownBy wz (some kr):=by rw[hw];exact st8_grown _ _ _ _ _ _ _ _ _ _
      change TreePost w g _ _ _ (st8 w103 kr (.int .i64 xk) (.string xnm) (.string xot) (.bool xb) (.slice xao xn xq) (.slice xko xkn xkc) (.int .i64 xln) (.int .i64 xcl));rw[<-hw];clear o0 o1 o2 o3 o4 ce0 ce1 ce2 ce3 ce4 ce5 ce6 ce7 z0 fz0 z1 fz1 z2 fz2 z3 fz3 z4 fz4 z5 fz5 z6 fz6 z7 fz7;replace HP:=h_ (HP.out.store HBr.out (by decide) (by omega) hg);replace HBe:=kG hg HBe;replace HBop:=kG hg HBop;replace HUe:=h_ (HUe.out.grown hg (fun h=>by omega));replace HOP:=h_ (HOP.out.grown hg (by omega));replace HD:=dN HD hg (by omega);have hsz103:=HD.out.size;clear hw hg;exact⟨⟨xk,xnm,xot,xb,xao,xn,xq,xko,xkn,xkc,xln,xcl⟩,rfl,(HUe.out.mono (fun b h=>by have h:(w.heap.size<=b/\b≠ke/\b≠kr)/\b≠kop:=h;show _<=b;omega)),HP.out,HD.out⟩
     have hs3:decide (op.level<l)=false:=by simpa using hs1
     have hs4:decide (lev<op.left)=true:=by have:=hst.resolve_left hs1;simpa using this
     clear hst;go_upto_region 3 with fail
     obtain⟨w103,kop,hw,hkk,hb,-,HBop⟩:=newb w102 #[.string ⟨op.sign.toArray⟩,.int .i64 (op.kind:Nat),.int .i64 (op.level:Nat),.int .i64 (op.left:Nat),.int .i64 (op.right:Nat)] 200;have hgop:g<kop:=by rw[hkk];exact HP.out.lt
     have heop:w.heap.size<=kop:=by omega
     have hr_op:=lk_ hkk HBr;have he_op:=lk_ hkk HBe;replace HUe:=h_ (HUe.out.offk hkk);rw[hw,<-hkk];replace HBr:=kB hb HBr;replace HBe:=kB hb HBe;replace HP:=h_ (HP.out.below hb);replace HUe:=h_ (HUe.out.below hb);replace HOP:=h_ (HOP.out.below hb);replace HD:=dB HD hb;clear hw hb hkk;obtain⟨o0,o1,o2,o3,o4⟩:=cl5 HBop.out;obtain⟨ce0,ce1,ce2,ce3,ce4,ce5,ce6,ce7⟩:=cl8 HBe.out;obtain⟨z0,z1,z2,z3,z4,z5,z6,z7⟩:=cl8 HBr.out;obtain⟨fz0,fz1,fz2,fz3,fz4,fz5,fz6,fz7⟩:=fr8 HBr.out;go_wp2_with fail
     refine bodyPost_ret (v:=.agg #[.int .i64 xk,.string xnm,.string xot,.bool xb,.slice xao xn xq,.slice xko xkn xkc,.int .i64 xln,.int .i64 xcl]) (by simp[results,Tryz.results95,go_sem,z0,z1,z2,z3,z4,z5,z6,z7]) rfl ?_;obtain⟨wz,hw⟩:∃ x,x=st8 w103 kr (.int .i64 xk) (.string xnm) (.string xot) (.bool xb) (.slice xao xn xq) (.slice xko xkn xkc) (.int .i64 xln) (.int .i64 xcl):=⟨_,rfl⟩
     have hg:w103.grownBy wz (some kr):=by rw[hw];exact st8_grown _ _ _ _ _ _ _ _ _ _
     change TreePost w g _ _ _ (st8 w103 kr (.int .i64 xk) (.string xnm) (.string xot) (.bool xb) (.slice xao xn xq) (.slice xko xkn xkc) (.int .i64 xln) (.int .i64 xcl));rw[<-hw];clear o0 o1 o2 o3 o4 ce0 ce1 ce2 ce3 ce4 ce5 ce6 ce7 z0 fz0 z1 fz1 z2 fz2 z3 fz3 z4 fz4 z5 fz5 z6 fz6 z7 fz7;replace HP:=h_ (HP.out.store HBr.out (by decide) (by omega) hg);replace HBe:=kG hg HBe;replace HBop:=kG hg HBop;replace HUe:=h_ (HUe.out.grown hg (fun h=>by omega));replace HOP:=h_ (HOP.out.grown hg (by omega));replace HD:=dN HD hg (by omega);have hsz103:=HD.out.size;clear hw hg;exact⟨⟨xk,xnm,xot,xb,xao,xn,xq,xko,xkn,xkc,xln,xcl⟩,rfl,(HUe.out.mono (fun b h=>by have h:(w.heap.size<=b/\b≠ke/\b≠kr)/\b≠kop:=h;show _<=b;omega)),HP.out,HD.out⟩
    rw[if_neg hst,Option.bind_eq_some_iff] at hcl;obtain⟨r2,hc2,hc3⟩:=hcl;have hs3:decide (op.level<l)=false:=by simp;omega
    have hs4:decide (lev<op.left)=false:=by simp;omega
    have HC2:=h_ hc2;have HC3:=h_ hc3;clear hst hc2 hc3;go_upto_region 3 with fail
    obtain⟨w103,kop,hw,hkk,hb,-,HBop⟩:=newb w102 #[.string ⟨op.sign.toArray⟩,.int .i64 (op.kind:Nat),.int .i64 (op.level:Nat),.int .i64 (op.left:Nat),.int .i64 (op.right:Nat)] 200;have hgop:g<kop:=by rw[hkk];exact HP.out.lt
    have heop:w.heap.size<=kop:=by omega
    have hr_op:=lk_ hkk HBr;have he_op:=lk_ hkk HBe;replace HUe:=h_ (HUe.out.offk hkk);rw[hw,<-hkk];replace HBr:=kB hb HBr;replace HBe:=kB hb HBe;replace HP:=h_ (HP.out.below hb);replace HUe:=h_ (HUe.out.below hb);replace HOP:=h_ (HOP.out.below hb);replace HD:=dB HD hb;clear hw hb hkk;obtain⟨o0,o1,o2,o3,o4⟩:=cl5 HBop.out;go_wp2_with fail
    refine (take_p g sj w103 HP.out).mono ?_;rintro e w104 ⟨rfl,hp,hg⟩;clear o0 o1 o2 o3 o4;replace HBr:=kG hg HBr;replace HBe:=kG hg HBe;replace HBop:=kG hg HBop;replace HUe:=h_ (HUe.out.grown hg (fun h=>by omega));replace HOP:=h_ (HOP.out.grown hg (by omega));replace HP:=h_ hp;replace HD:=dG HD hg;have hsz104:=HD.out.size;clear hp hg;simp only[tokV];obtain⟨t,hnx⟩:∃ t,t=St.nx sj:=⟨_,rfl⟩
    rw[<-hnx];have HNt:=h_ hnx;clear hnx;go_upto_region 6 with fail
    obtain⟨w105,kt,hw,hkk,hb,-,HBt⟩:=newb w104 #[.int .i64 (t.kind:Nat),.string ⟨t.text.toArray⟩,.int .i64 (t.line:Nat),.int .i64 (t.col:Nat)] 97;have hgt:g<kt:=by rw[hkk];exact HP.out.lt
    have het:w.heap.size<=kt:=by omega
    have hr_t:=lk_ hkk HBr;have he_t:=lk_ hkk HBe;have hop_t:=lk_ hkk HBop;replace HUe:=h_ (HUe.out.offk hkk);rw[hw,<-hkk];replace HBr:=kB hb HBr;replace HBe:=kB hb HBe;replace HBop:=kB hb HBop;replace HP:=h_ (HP.out.below hb);replace HUe:=h_ (HUe.out.below hb);replace HOP:=h_ (HOP.out.below hb);replace HD:=dB HD hb;have hsz105:=HD.out.size;clear hw hb hkk;obtain⟨o0,o1,o2,o3,o4⟩:=cl5 HBop.out;go_wp2_with fail
    obtain⟨Nb,hN⟩:∃ k,k=w105.heap.size:=⟨_,rfl⟩
    have hr_Nb:kr<Nb:=by rw[hN];exact lt_of_block HBr.out
    have he_Nb:ke<Nb:=by rw[hN];exact lt_of_block HBe.out
    have hop_Nb:kop<Nb:=by rw[hN];exact lt_of_block HBop.out
    have ht_Nb:kt<Nb:=by rw[hN];exact lt_of_block HBt.out
    have hg_Nb:g<Nb:=by rw[hN];exact HP.out.lt
    have he_Nb:w.heap.size<=Nb:=by omega
    refine (B.out m (by omega) g op.right _ _ w105 HP.out HOP.out HC2.out).mono ?_;rintro e w106 ⟨xb,rfl,hu,hp,hg⟩;clear o0 o1 o2 o3 o4;replace HBr:=kG hg HBr;replace HBe:=kG hg HBe;replace HBop:=kG hg HBop;replace HBt:=kG hg HBt;replace HUe:=h_ (HUe.out.grown hg (fun h=>by omega));replace HOP:=h_ (HOP.out.grown hg (by omega));replace HP:=h_ hp;replace HD:=dG HD hg;have hsz106:=HD.out.size;rw[<-hN] at hu;have HUb:=h_ (hu.mono (S':=fun b=>Nb<=b/\True) (fun b h=>⟨h,trivial⟩));clear hN hu;clear hp hg;obtain⟨bk,bnm,bot,bb,bao,bn,bq,bko,bkn,bkc,bln,bcl⟩:=xb;simp only[xv];go_upto_region 7 with fail
    obtain⟨w107,kb,hw,hkk,hb,-,HBb⟩:=newb w106 #[.int .i64 bk,.string bnm,.string bot,.bool bb,.slice bao bn bq,.slice bko bkn bkc,.int .i64 bln,.int .i64 bcl] 46;have hgb:g<kb:=by rw[hkk];exact HP.out.lt
    have heb:w.heap.size<=kb:=by omega
    have hr_b:=lk_ hkk HBr;have he_b:=lk_ hkk HBe;have hop_b:=lk_ hkk HBop;have ht_b:=lk_ hkk HBt;replace HUe:=h_ (HUe.out.offk hkk);replace HUb:=h_ (HUb.out.offk hkk);rw[hw,<-hkk];replace HBr:=kB hb HBr;replace HBe:=kB hb HBe;replace HBop:=kB hb HBop;replace HBt:=kB hb HBt;replace HP:=h_ (HP.out.below hb);replace HUe:=h_ (HUe.out.below hb);replace HUb:=h_ (HUb.out.below hb);replace HOP:=h_ (HOP.out.below hb);replace HD:=dB HD hb;have hsz107:=HD.out.size;clear hw hb hkk;have hlt_op:=lt_of_block HBop.out;have hlt_t:=lt_of_block HBt.out;have hlt_b:=lt_of_block HBb.out;have hlt_e:=lt_of_block HBe.out;have hog:∀ q,q<1->(fun q=>ke) q<w107.heap.size:=fun q _=>by show ke<_;exact lt_of_block HBe.out
    refine R7.region (by kernel_rfl) [[],[0],[],[],[],[3,4],[0,1,2,3,4,5],[],[7],[0,1,2,3,4,5,6],[0,1,2,3,4,5,6,7,8,9]] [] [(9,1000)] (fun q=>ke) 1 11 (by kernel_rfl) (by kernel_rfl) (by rfl) hog (fun q q' h h' hn=>absurd hn (by omega)) ?_;refine R7.cd ?_ (fun T xs wr hA=>?_) ?_
    rotate_left
    ·have e7:=hA.pq 7;simp only[gsa,gsc,gsz] at e7;clear hA;go_simp<;>(try with_reducible rfl)
    refine R7.cd ?_ (fun T xs wr hA=>?_) ?_
    rotate_left
    ·have e41:=tr_ (hA.tq 0 41) (hA.fq 0)
     (try simp (disch:=decide) only [R7.mi] at e41)
     have hBq:wr.heap[kop]?=_:=(hA.bl _ hlt_op (fun q _=>by show ke≠kop;omega)).trans HBop.out;obtain⟨q0,q1,q2,q3,q4⟩:=cl5 hBq;clear hBq;clear hA;go_simp<;>(try with_reducible rfl)
    refine R7.cd ?_ (fun T xs wr hA=>?_) ?_
    rotate_left
    ·have e9:=hA.pq 9;simp only[gsa,gsc,gsz] at e9;have hBq:wr.heap[kt]?=_:=(hA.bl _ hlt_t (fun q _=>by show ke≠kt;omega)).trans HBt.out;obtain⟨q0,q1,q2,q3⟩:=cl4 hBq;clear hBq;clear hA;go_simp<;>(try with_reducible rfl)
    refine R7.cd ?_ (fun T xs wr hA=>?_) ?_
    rotate_left
    ·have e5:=hA.pq 5;simp only[gsa,gsc,gsz] at e5;have hBq:wr.heap[ke]?=_:=(hA.od 0 (by decide) (fun k' h=>by rw[R7.own_one (k:=9) (by rfl) k' h];first | exact .inr (by decide) | exact .inl rfl)).trans HBe.out;obtain⟨q0,q1,q2,q3,q4,q5,q6,q7⟩:=cl8 hBq;clear hBq;clear hA;go_simp<;>(try with_reducible rfl)
    refine R7.cd ?_ (fun T xs wr hA=>?_) ?_
    rotate_left
    ·have e10:=hA.pq 10;simp only[gsa,gsc,gsz] at e10;have hBq:wr.heap[kb]?=_:=(hA.bl _ hlt_b (fun q _=>by show ke≠kb;omega)).trans HBb.out;obtain⟨q0,q1,q2,q3,q4,q5,q6,q7⟩:=cl8 hBq;clear hBq;clear hA;go_simp<;>(try with_reducible rfl)
    refine R7.Chain.call (fun xs v w=>∃ g,v=.slice (some ⟨g,0,none⟩) 2 2/\w107.heap.size<=g/\w.heap[g]?=some (.cells #[.int .i64 xk,.string xnm,.string xot,.bool xb,.slice xao xn xq,.slice xko xkn xkc,.int .i64 xln,.int .i64 xcl,.int .i64 bk,.string bnm,.string bot,.bool bb,.slice bao bn bq,.slice bko bkn bkc,.int .i64 bln,.int .i64 bcl] 46 (0,0))) (fun _ _ _ _ ⟨g,hv,hl,hg⟩ hb=>⟨g,hv,hl,by rw[hb.block g (Array.getElem?_eq_some_iff.1 hg).1];exact hg⟩) (fun _ _ _ _ _ ⟨g,hv,hl,hg⟩ ⟨q,hq,e⟩ hp=>⟨g,hv,hl,by rw[hp.block g (Array.getElem?_eq_some_iff.1 hg).1 (fun h=>by have:=hog q hq;omega)];exact hg⟩) (by rfl) (fun T xs wr hA=>?_) ?_
    ·have hsw:=(hA.be 0 (Nat.zero_le _) (fun _ _=>Nat.zero_le _)).size;have e44:=tr_ (hA.tq 3 44) (hA.fq 3);have e45:=tr_ (hA.tq 4 45) (hA.fq 4)
     (try simp (disch:=decide) only [R7.mi] at e44 e45)
     clear hA;refine⟨(by rfl),fun K hK=>?_⟩;go_simp
     exact hK.out _ _ ⟨_,rfl,hsw,by simpa using made_at wr _ _ rfl⟩ ((Below.refl _ _).alloc (Nat.le_refl _) _)
    refine R7.Chain.call (fun xs v w=>∃ g5,(xs 5)=.slice (some ⟨g5,0,none⟩) 2 2/\v=.agg #[.int .i64 (op.kind:Nat),.string ⟨#[]⟩,.string ⟨#[]⟩,.bool false,.slice none 0 0,.slice (some ⟨g5,0,none⟩) 2 2,.int .i64 (t.line:Nat),.int .i64 (t.col:Nat)]) (fun _ _ _ _ h _=>h) (fun _ _ _ _ _ h _ _=>h) (by rfl) (fun T xs wr hA=>?_) ?_
    ·have hsw:=(hA.be 0 (Nat.zero_le _) (fun _ _=>Nat.zero_le _)).size;have e42:=tr_ (hA.tq 1 42) (hA.fq 1);have e43:=tr_ (hA.tq 2 43) (hA.fq 2)
     (try simp (disch:=decide) only [R7.mi] at e42 e43)
     have e46:=hA.tm 5 46 (by rfl) (by rfl);have hF5:∃ g,(xs 5)=.slice (some ⟨g,0,none⟩) 2 2/\w107.heap.size<=g/\wr.heap[g]?=some (.cells #[.int .i64 xk,.string xnm,.string xot,.bool xb,.slice xao xn xq,.slice xko xkn xkc,.int .i64 xln,.int .i64 xcl,.int .i64 bk,.string bnm,.string bot,.bool bb,.slice bao bn bq,.slice bko bkn bkc,.int .i64 bln,.int .i64 bcl] 46 (0,0)):=hA.fa 5 (by rfl);obtain⟨g5,hv5,-,-⟩:=hF5;rw[hv5] at e46;clear hA;refine⟨(by rfl),fun K hK=>?_⟩;go_simp
     refine (part_p op.kind t (some ⟨g5,0,none⟩) 2 2 _).mono ?_;rintro e w' ⟨rfl,hb⟩;exact hK.out _ _ ⟨g5,hv5,rfl⟩ hb
    refine R7.cd ?_ (fun T xs wr hA=>?_) ?_
    rotate_left
    ·have e7:=hA.pq 7;simp only[gsa,gsc,gsz] at e7;clear hA;go_simp<;>(try with_reducible rfl)
    refine R7.cd ?_ (fun T xs wr hA=>?_) ?_
    rotate_left
    ·have e48:=tr_ (hA.tq 7 48) (hA.fq 7)
     (try simp (disch:=decide) only [R7.mi] at e48)
     have hBq:wr.heap[kop]?=_:=(hA.bl _ hlt_op (fun q _=>by show ke≠kop;omega)).trans HBop.out;obtain⟨q0,q1,q2,q3,q4⟩:=cl5 hBq;clear hBq;clear hA;go_simp<;>(try with_reducible rfl)
    refine R7.Chain.storeOld 0 6 46 (by rfl) (by rfl) (by decide) (R7.own_one (by rfl)) (fun T xs wr hA hold=>?_) ?_
    ·have e5:=hA.pq 5;simp only[gsa,gsc,gsz] at e5;have e47:=hA.tm 6 47 (by rfl) (by rfl);have hF6:∃ g5,(xs 5)=.slice (some ⟨g5,0,none⟩) 2 2/\(xs 6)=.agg #[.int .i64 (op.kind:Nat),.string ⟨#[]⟩,.string ⟨#[]⟩,.bool false,.slice none 0 0,.slice (some ⟨g5,0,none⟩) 2 2,.int .i64 (t.line:Nat),.int .i64 (t.col:Nat)]:=hA.fa 6 (by rfl);obtain⟨g5,hv5,hv6⟩:=hF6;rw[hv6] at e47;have hBq:wr.heap[ke]?=some (.cells #[.int .i64 xk,.string xnm,.string xot,.bool xb,.slice xao xn xq,.slice xko xkn xkc,.int .i64 xln,.int .i64 xcl] 46 (0,0)):=hold.trans HBe.out;obtain⟨q0,q1,q2,q3,q4,q5,q6,q7⟩:=cl8 hBq;obtain⟨fq0,fq1,fq2,fq3,fq4,fq5,fq6,fq7⟩:=fr8 hBq;have HBq:=h_ hBq;clear hA hBq;refine⟨(by rfl),fun K hK=>?_⟩;go_simp
     exact hK.out _ _ hv6 (st8_same HBq.out _ _ _ _ _ _ _ _) (R7.Priv.of (st8_grown _ _ _ _ _ _ _ _ _ _))
    refine R7.cd ?_ (fun T xs wr hA=>?_) ?_
    rotate_left
    ·have e49:=tr_ (hA.tq 8 49) (hA.fq 8)
     (try simp (disch:=decide) only [R7.mi] at e49)
     clear hA;go_simp<;>(try with_reducible rfl)
    refine R7.Chain.done (fun xs w108 hL=>?_);obtain⟨⟨hbe,hbl⟩,hf,-,-⟩:=hL;have f0:xs 0=_:=hf 0 (by decide);have f1:xs 1=_:=hf 1 (by decide);have f2:xs 2=_:=hf 2 (by decide);have f3:xs 3=_:=hf 3 (by decide);have f4:xs 4=_:=hf 4 (by decide);have F5:∃ g,(xs 5)=.slice (some ⟨g,0,none⟩) 2 2/\w107.heap.size<=g/\w108.heap[g]?=some (.cells #[.int .i64 xk,.string xnm,.string xot,.bool xb,.slice xao xn xq,.slice xko xkn xkc,.int .i64 xln,.int .i64 xcl,.int .i64 bk,.string bnm,.string bot,.bool bb,.slice bao bn bq,.slice bko bkn bkc,.int .i64 bln,.int .i64 bcl] 46 (0,0)):=hf 5 (by decide)
    have F6:∃ g5,(xs 5)=.slice (some ⟨g5,0,none⟩) 2 2/\(xs 6)=.agg #[.int .i64 (op.kind:Nat),.string ⟨#[]⟩,.string ⟨#[]⟩,.bool false,.slice none 0 0,.slice (some ⟨g5,0,none⟩) 2 2,.int .i64 (t.line:Nat),.int .i64 (t.col:Nat)]:=hf 6 (by decide);have f7:xs 7=_:=hf 7 (by decide);have f8:xs 8=_:=hf 8 (by decide);have F9:=hf 9 (by decide);have f10:xs 10=_:=hf 10 (by decide)
    (try simp (disch:=decide) only [R7.mi] at f0 f1 f2 f3 f4 f7 f8 f10)
    have hb0:Below 0 w107 w108:=undrew (hbe 0 (Nat.zero_le _) (fun _ _=>Nat.zero_le _));have hgr:∀ j,j<w107.heap.size->(∀ q,q<1->(fun q=>ke) q≠j)->w108.heap[j]?=w107.heap[j]?:=hbl;clear hbe hbl hf;obtain⟨g5,hv5,hl5,hg5⟩:=F5;obtain⟨g6,hv6,hv7⟩:=F6;rw[hv5] at hv6;injection hv6 with hv6;injection hv6 with hv6;injection hv6 with hv6;subst hv6;obtain⟨c9,hc9,hb9⟩:=F9;replace hc9:xs 6=.agg c9:=hc9;rw[hv7] at hc9;injection hc9 with hc9;subst hc9;have hne5:ke<g5:=Nat.lt_of_lt_of_le (lt_of_block HBe.out) hl5;have hnr5:kr<g5:=by omega
    have hg:w107.grownBy w108 (some ke):=⟨hb0.os,hb0.tape,hb0.output,hb0.size,fun k hk hn=>hgr k hk (fun q _ e=>hn (by rw[<-e]))⟩
    refine R7.rest_done ?_;simp only[R7.fill,t5_,t6_,t7_,f0,f1,f2,f3,f4,f7,f8,f10];simp only[hv5,hv7];clear hv5 hv7 hb0 hgr f0 f1 f2 f3 f4 f7 f8 f10;replace HP:=h_ (HP.out.store HBe.out (by decide) (by omega) hg);replace HBr:=kG hg HBr;replace HBop:=kG hg HBop;replace HBt:=kG hg HBt;replace HBb:=kG hg HBb;replace HUe:=h_ (HUe.out.grown hg (fun h=>by omega));replace HUb:=h_ (HUb.out.grown hg (fun h=>by omega));replace HOP:=h_ (HOP.out.grown hg (by omega));replace HD:=dN HD hg (by omega);have hsz108:=HD.out.size;replace HBe:=h_ hb9;have HG5:=h_ hg5;have HLE:=h_ (c_len m).2.2.2.2.2.1;clear hb9 hg5 hg hog hlt_op hlt_t hlt_b hlt_e;go_wp2_with fail
    go_roundw
    case rel =>
     refine⟨m,⟨(op.kind:Nat),⟨#[]⟩,⟨#[]⟩,false,none,0,0,some ⟨g5,0,none⟩,2,2,(t.line:Nat),(t.col:Nat)⟩,prt op.kind sj.nx [u,r2.1],op.level,r2.2,rfl,by omega,HC3,HBe,h_ ?_,HP,HOP,HD,HBr⟩;have hu:prt op.kind sj.nx [u,r2.1]=U.node op.kind [] [] 0 t.line t.col [u,r2.1]:=by unfold prt;rw[HNt.out]
     rw[hu];exact um_node op.kind [] [] t.line t.col g5 [⟨xk,xnm,xot,xb,xao,xn,xq,xko,xkn,xkc,xln,xcl⟩,⟨bk,bnm,bot,bb,bao,bn,bq,bko,bkn,bkc,bln,bcl⟩] [u,r2.1] 2 rfl ⟨by omega,by omega,by omega⟩ HG5.out rfl (all2 (HUe.out.mono (fun b h=>by have h:(((w.heap.size<=b/\b≠ke/\b≠kr)/\b≠kop)/\b≠kt)/\b≠kb:=h;exact⟨by omega,by omega,by omega⟩)) (HUb.out.mono (fun b h=>by have h:(Nb<=b/\True)/\b≠kb:=h;exact⟨by omega,by omega,by omega⟩)))
    case measure =>
     rw[HP.out.len,HLN.out];have h1:r2.2.rest.length<=sj.tk.rest.length:=HLE.out _ _ _ HC2.out;have h2:=HGD.out
     have hk:sj.nx.kind≠4:=fun h=>by
      have h5:sj.nx.text=[]:=(h2.head).ke h;have h6:=HOPP.out;rw[h5] at h6;have h7:bopOf []=none:=by decide
      rw[h7] at h6;cases h6
     have h3:sj.tk.rest.length=sj.rest.length - 1:=by unfold St.tk;rw[if_neg hk];simp
     have h4:=List.length_pos_iff.2 h2.ne
     omega
end Go.Proofs.YtkocdbgmckdcpaaGreatDoor
