/-
 Joined texts: PsG,R7.
-/
import Derived.Test.YtkocdbgmckdcpaaGreatDoorJParsePrints1
import Derived.Test.YtkocdbgmckdcpaaGreatDoorJParsePrints2
set_option maxHeartbeats 32000000
namespace Go.Proofs.YtkocdbgmckdcpaaGreatDoor
open Go.RowKit
set_option maxRecDepth 100000
set_option linter.unusedVariables false
theorem let_p (n:Nat) (E:Hid (ExprAt7 n)):LetAt (n+1):=by
 intro g s r w hps hop hc;have HP:=h_ hps;have HOP:=h_ hop;clear hps hop;rw[cLet] at hc;simp only[Option.bind_eq_some_iff] at hc;obtain⟨r1,h1,r2,h2,hr⟩:=hc;injection hr with hr;subst hr;have h1:=h_ h1;have h2:=h_ h2;go_enter Tryz.func91,Tryz.ntmps91
 go_upto_region 1 with fail
 obtain⟨w1,kr,hw,hkk,hb,-,HBr⟩:=newb w #[.int .i64 0,.string ⟨#[]⟩,.string ⟨#[]⟩,.bool false,.slice none 0 0,.slice none 0 0,.int .i64 0,.int .i64 0] 46;have hgr:g<kr:=by rw[hkk];exact HP.out.lt
 have her:w.heap.size<=kr:=by omega
 rw[hw,<-hkk];replace HP:=h_ (HP.out.below hb);replace HOP:=h_ (HOP.out.below hb);have HD:=h_ (below_grown hb (some g));clear hw hb hkk;go_wp2_with fail
 refine (take_p g s w1 HP.out).mono ?_;rintro e w2 ⟨rfl,hp,hg⟩;replace HBr:=kG hg HBr;replace HOP:=h_ (HOP.out.grown hg (by omega));replace HP:=h_ hp;replace HD:=dG HD hg;have hsz2:=HD.out.size;clear hp hg;simp only[tokV];obtain⟨t,hnx⟩:∃ t,t=St.nx s:=⟨_,rfl⟩
 rw[<-hnx];have HNt:=h_ hnx;clear hnx;go_upto_region 2 with fail
 obtain⟨w3,kt,hw,hkk,hb,-,HBt⟩:=newb w2 #[.int .i64 (t.kind:Nat),.string ⟨t.text.toArray⟩,.int .i64 (t.line:Nat),.int .i64 (t.col:Nat)] 97;have hgt:g<kt:=by rw[hkk];exact HP.out.lt
 have het:w.heap.size<=kt:=by omega
 have hr_t:=lk_ hkk HBr;rw[hw,<-hkk];replace HBr:=kB hb HBr;replace HP:=h_ (HP.out.below hb);replace HOP:=h_ (HOP.out.below hb);replace HD:=dB HD hb;clear hw hb hkk;go_wp2_with fail
 refine (name_p g s.tk w3 HP.out).mono ?_;rintro e w4 ⟨rfl,hp,hg⟩;replace HBr:=kG hg HBr;replace HBt:=kG hg HBt;replace HOP:=h_ (HOP.out.grown hg (by omega));replace HP:=h_ hp;replace HD:=dG HD hg;have hsz4:=HD.out.size;clear hp hg;simp only[tokV];obtain⟨nm,hnx⟩:∃ t,t=St.nx s.tk:=⟨_,rfl⟩
 rw[<-hnx];have HNnm:=h_ hnx;clear hnx;go_upto_region 3 with fail
 obtain⟨w5,knm,hw,hkk,hb,-,HBnm⟩:=newb w4 #[.int .i64 (nm.kind:Nat),.string ⟨nm.text.toArray⟩,.int .i64 (nm.line:Nat),.int .i64 (nm.col:Nat)] 97;have hgnm:g<knm:=by rw[hkk];exact HP.out.lt
 have henm:w.heap.size<=knm:=by omega
 have hr_nm:=lk_ hkk HBr;have ht_nm:=lk_ hkk HBt;rw[hw,<-hkk];replace HBr:=kB hb HBr;replace HBt:=kB hb HBt;replace HP:=h_ (HP.out.below hb);replace HOP:=h_ (HOP.out.below hb);replace HD:=dB HD hb;have hsz5:=HD.out.size;clear hw hb hkk;go_wp2_with fail
 obtain⟨w6,kq1,hw,hkk,hb,-,HBq1⟩:=newb w5 #[.string ⟨#[61]⟩] 9;have hgq1:g<kq1:=by rw[hkk];exact HP.out.lt
 have heq1:w.heap.size<=kq1:=by omega
 have hr_q1:=lk_ hkk HBr;have ht_q1:=lk_ hkk HBt;have hnm_q1:=lk_ hkk HBnm;rw[hw,<-hkk];replace HBr:=kB hb HBr;replace HBt:=kB hb HBt;replace HBnm:=kB hb HBnm;replace HP:=h_ (HP.out.below hb);replace HOP:=h_ (HOP.out.below hb);replace HD:=dB HD hb;have hsz6:=HD.out.size;clear hw hb hkk;refine (expect_p g s.tk.name [[61]] kq1 w6 HP.out HBq1.out (by omega) (by decide)).mono ?_;rintro e w7 ⟨⟨v,rfl⟩,hp,hg⟩;replace HBr:=kG hg HBr;replace HBt:=kG hg HBt;replace HBnm:=kG hg HBnm;replace HBq1:=kG hg HBq1;replace HOP:=h_ (HOP.out.grown hg (by omega));replace HP:=h_ hp;replace HD:=dG HD hg;have hsz7:=HD.out.size;clear hp hg;go_wp2_with fail
 obtain⟨Na,hN⟩:∃ k,k=w7.heap.size:=⟨_,rfl⟩
 have hr_Na:kr<Na:=by rw[hN];exact lt_of_block HBr.out
 have ht_Na:kt<Na:=by rw[hN];exact lt_of_block HBt.out
 have hnm_Na:knm<Na:=by rw[hN];exact lt_of_block HBnm.out
 have hg_Na:g<Na:=by rw[hN];exact HP.out.lt
 have he_Na:w.heap.size<=Na:=by omega
 refine (E.out g _ _ w7 HP.out HOP.out h1.out).mono ?_;rintro e w8 ⟨xa,rfl,hu,hp,hg⟩;replace HBr:=kG hg HBr;replace HBt:=kG hg HBt;replace HBnm:=kG hg HBnm;replace HOP:=h_ (HOP.out.grown hg (by omega));replace HP:=h_ hp;replace HD:=dG HD hg;have hsz8:=HD.out.size;rw[<-hN] at hu;have HUa:=h_ (hu.mono (S':=fun b=>Na<=b/\True) (fun b h=>⟨h,trivial⟩));clear hN hu;clear hp hg;obtain⟨ak,anm,aot,ab,aao,an,aq,ako,akn,akc,aln,acl⟩:=xa;simp only[xv];go_upto_region 5 with fail
 obtain⟨w9,ka,hw,hkk,hb,-,HBa⟩:=newb w8 #[.int .i64 ak,.string anm,.string aot,.bool ab,.slice aao an aq,.slice ako akn akc,.int .i64 aln,.int .i64 acl] 46;have hga:g<ka:=by rw[hkk];exact HP.out.lt
 have hea:w.heap.size<=ka:=by omega
 have hr_a:=lk_ hkk HBr;have ht_a:=lk_ hkk HBt;have hnm_a:=lk_ hkk HBnm;replace HUa:=h_ (HUa.out.offk hkk);rw[hw,<-hkk];replace HBr:=kB hb HBr;replace HBt:=kB hb HBt;replace HBnm:=kB hb HBnm;replace HP:=h_ (HP.out.below hb);replace HUa:=h_ (HUa.out.below hb);replace HOP:=h_ (HOP.out.below hb);replace HD:=dB HD hb;have hsz9:=HD.out.size;clear hw hb hkk;go_wp2_with fail
 obtain⟨w10,kq2,hw,hkk,hb,-,HBq2⟩:=newb w9 #[.string ⟨#[105,110]⟩] 9;have hgq2:g<kq2:=by rw[hkk];exact HP.out.lt
 have heq2:w.heap.size<=kq2:=by omega
 have hr_q2:=lk_ hkk HBr;have ht_q2:=lk_ hkk HBt;have hnm_q2:=lk_ hkk HBnm;have ha_q2:=lk_ hkk HBa;replace HUa:=h_ (HUa.out.offk hkk);rw[hw,<-hkk];replace HBr:=kB hb HBr;replace HBt:=kB hb HBt;replace HBnm:=kB hb HBnm;replace HBa:=kB hb HBa;replace HP:=h_ (HP.out.below hb);replace HUa:=h_ (HUa.out.below hb);replace HOP:=h_ (HOP.out.below hb);replace HD:=dB HD hb;have hsz10:=HD.out.size;clear hw hb hkk;refine (expect_p g r1.2 [[105,110]] kq2 w10 HP.out HBq2.out (by omega) (by decide)).mono ?_;rintro e w11 ⟨⟨v,rfl⟩,hp,hg⟩;replace HBr:=kG hg HBr;replace HBt:=kG hg HBt;replace HBnm:=kG hg HBnm;replace HBa:=kG hg HBa;replace HBq2:=kG hg HBq2;replace HUa:=h_ (HUa.out.grown hg (fun h=>by omega));replace HOP:=h_ (HOP.out.grown hg (by omega));replace HP:=h_ hp;replace HD:=dG HD hg;have hsz11:=HD.out.size;clear hp hg;go_wp2_with fail
 obtain⟨Nb,hN⟩:∃ k,k=w11.heap.size:=⟨_,rfl⟩
 have hr_Nb:kr<Nb:=by rw[hN];exact lt_of_block HBr.out
 have ht_Nb:kt<Nb:=by rw[hN];exact lt_of_block HBt.out
 have hnm_Nb:knm<Nb:=by rw[hN];exact lt_of_block HBnm.out
 have ha_Nb:ka<Nb:=by rw[hN];exact lt_of_block HBa.out
 have hg_Nb:g<Nb:=by rw[hN];exact HP.out.lt
 have he_Nb:w.heap.size<=Nb:=by omega
 refine (E.out g _ _ w11 HP.out HOP.out h2.out).mono ?_;rintro e w12 ⟨xb,rfl,hu,hp,hg⟩;replace HBr:=kG hg HBr;replace HBt:=kG hg HBt;replace HBnm:=kG hg HBnm;replace HBa:=kG hg HBa;replace HUa:=h_ (HUa.out.grown hg (fun h=>by omega));replace HOP:=h_ (HOP.out.grown hg (by omega));replace HP:=h_ hp;replace HD:=dG HD hg;have hsz12:=HD.out.size;rw[<-hN] at hu;have HUb:=h_ (hu.mono (S':=fun b=>Nb<=b/\True) (fun b h=>⟨h,trivial⟩));clear hN hu;clear hp hg;obtain⟨bk,bnm,bot,bb,bao,bn,bq,bko,bkn,bkc,bln,bcl⟩:=xb;simp only[xv];go_upto_region 7 with fail
 obtain⟨w13,kb,hw,hkk,hb,-,HBb⟩:=newb w12 #[.int .i64 bk,.string bnm,.string bot,.bool bb,.slice bao bn bq,.slice bko bkn bkc,.int .i64 bln,.int .i64 bcl] 46;have hgb:g<kb:=by rw[hkk];exact HP.out.lt
 have heb:w.heap.size<=kb:=by omega
 have hr_b:=lk_ hkk HBr;have ht_b:=lk_ hkk HBt;have hnm_b:=lk_ hkk HBnm;have ha_b:=lk_ hkk HBa;replace HUa:=h_ (HUa.out.offk hkk);replace HUb:=h_ (HUb.out.offk hkk);rw[hw,<-hkk];replace HBr:=kB hb HBr;replace HBt:=kB hb HBt;replace HBnm:=kB hb HBnm;replace HBa:=kB hb HBa;replace HP:=h_ (HP.out.below hb);replace HUa:=h_ (HUa.out.below hb);replace HUb:=h_ (HUb.out.below hb);replace HOP:=h_ (HOP.out.below hb);replace HD:=dB HD hb;have hsz13:=HD.out.size;clear hw hb hkk;obtain⟨ct0,ct1,ct2,ct3⟩:=cl4 HBt.out;obtain⟨ca0,ca1,ca2,ca3,ca4,ca5,ca6,ca7⟩:=cl8 HBa.out;obtain⟨cb0,cb1,cb2,cb3,cb4,cb5,cb6,cb7⟩:=cl8 HBb.out;go_wp2_with fail
 clear ct0 ct1 ct2 ct3 ca0 ca1 ca2 ca3 ca4 ca5 ca6 ca7 cb0 cb1 cb2 cb3 cb4 cb5 cb6 cb7;obtain⟨w14,kkk,hw,hkk,hb,-,HBkk⟩:=newb w13 #[.int .i64 ak,.string anm,.string aot,.bool ab,.slice aao an aq,.slice ako akn akc,.int .i64 aln,.int .i64 acl,.int .i64 bk,.string bnm,.string bot,.bool bb,.slice bao bn bq,.slice bko bkn bkc,.int .i64 bln,.int .i64 bcl] 46;have hgkk:g<kkk:=by rw[hkk];exact HP.out.lt
 have hekk:w.heap.size<=kkk:=by omega
 have hr_kk:=lk_ hkk HBr;have ht_kk:=lk_ hkk HBt;have hnm_kk:=lk_ hkk HBnm;have ha_kk:=lk_ hkk HBa;have hb_kk:=lk_ hkk HBb;replace HUa:=h_ (HUa.out.offk hkk);replace HUb:=h_ (HUb.out.offk hkk);rw[hw,<-hkk];replace HBr:=kB hb HBr;replace HBt:=kB hb HBt;replace HBnm:=kB hb HBnm;replace HBa:=kB hb HBa;replace HBb:=kB hb HBb;replace HP:=h_ (HP.out.below hb);replace HUa:=h_ (HUa.out.below hb);replace HUb:=h_ (HUb.out.below hb);replace HOP:=h_ (HOP.out.below hb);replace HD:=dB HD hb;clear hw hb hkk;refine (part_p 26 t (some ⟨kkk,0,none⟩) 2 2 w14).mono ?_;rintro e w15 ⟨rfl,hb⟩;replace HBr:=kB hb HBr;replace HBt:=kB hb HBt;replace HBnm:=kB hb HBnm;replace HBa:=kB hb HBa;replace HBb:=kB hb HBb;replace HBkk:=kB hb HBkk;replace HP:=h_ (HP.out.below hb);replace HUa:=h_ (HUa.out.below hb);replace HUb:=h_ (HUb.out.below hb)
 replace HOP:=h_ (HOP.out.below hb);replace HD:=dB HD hb;have hsz15:=HD.out.size;clear hb;simp only[xv];go_upto_region 8 with fail
 obtain⟨w16,kv,hw,hkk,hb,-,HBv⟩:=newb w15 #[.int .i64 26,.string ⟨#[]⟩,.string ⟨#[]⟩,.bool false,.slice none 0 0,.slice (some ⟨kkk,0,none⟩) 2 2,.int .i64 (t.line:Nat),.int .i64 (t.col:Nat)] 46;have hgv:g<kv:=by rw[hkk];exact HP.out.lt
 have hev:w.heap.size<=kv:=by omega
 have hr_v:=lk_ hkk HBr;have ht_v:=lk_ hkk HBt;have hnm_v:=lk_ hkk HBnm;have ha_v:=lk_ hkk HBa;have hb_v:=lk_ hkk HBb;have hkk_v:=lk_ hkk HBkk;replace HUa:=h_ (HUa.out.offk hkk);replace HUb:=h_ (HUb.out.offk hkk);rw[hw,<-hkk];replace HBr:=kB hb HBr;replace HBt:=kB hb HBt;replace HBnm:=kB hb HBnm;replace HBa:=kB hb HBa;replace HBb:=kB hb HBb;replace HBkk:=kB hb HBkk;replace HP:=h_ (HP.out.below hb);replace HUa:=h_ (HUa.out.below hb);replace HUb:=h_ (HUb.out.below hb);replace HOP:=h_ (HOP.out.below hb);replace HD:=dB HD hb;clear hw hb hkk;obtain⟨cn0,cn1,cn2,cn3⟩:=cl4 HBnm.out;obtain⟨cv0,cv1,cv2,cv3,cv4,cv5,cv6,cv7⟩:=cl8 HBv.out;obtain⟨fcv0,fcv1,fcv2,fcv3,fcv4,fcv5,fcv6,fcv7⟩:=fr8 HBv.out;go_upto_region 9 with fail
 obtain⟨w17,hw⟩:∃ x,x=w16.setCell ⟨kv,1,none⟩ (.string ⟨nm.text.toArray⟩):=⟨_,rfl⟩
 have hg:w16.grownBy w17 (some kv):=by rw[hw];exact grown_set _ kv 1 _
 have hv:w17.heap[kv]?=some (.cells #[.int .i64 26,.string ⟨nm.text.toArray⟩,.string ⟨#[]⟩,.bool false,.slice none 0 0,.slice (some ⟨kkk,0,none⟩) 2 2,.int .i64 (t.line:Nat),.int .i64 (t.col:Nat)] 46 (0,0)):=by rw[hw,heap_setCell_same _ kv 1 _ _ _ HBv.out];rfl
 rw[<-hw];clear cn0 cn1 cn2 cn3 cv0 fcv0 cv1 fcv1 cv2 fcv2 cv3 fcv3 cv4 fcv4 cv5 fcv5 cv6 fcv6 cv7 fcv7;replace HP:=h_ (HP.out.store HBv.out (by decide) (by omega) hg);replace HBr:=kG hg HBr;replace HBt:=kG hg HBt;replace HBnm:=kG hg HBnm;replace HBa:=kG hg HBa;replace HBb:=kG hg HBb;replace HBkk:=kG hg HBkk;replace HUa:=h_ (HUa.out.grown hg (fun h=>by omega));replace HUb:=h_ (HUb.out.grown hg (fun h=>by omega));replace HOP:=h_ (HOP.out.grown hg (by omega));replace HD:=dN HD hg (by omega);replace HBv:=h_ hv;clear hw hg hv;obtain⟨cv0,cv1,cv2,cv3,cv4,cv5,cv6,cv7⟩:=cl8 HBv.out;obtain⟨z0,z1,z2,z3,z4,z5,z6,z7⟩:=cl8 HBr.out;obtain⟨fz0,fz1,fz2,fz3,fz4,fz5,fz6,fz7⟩:=fr8 HBr.out;go_wp2_with fail
 refine bodyPost_ret (v:=.agg #[.int .i64 26,.string ⟨nm.text.toArray⟩,.string ⟨#[]⟩,.bool false,.slice none 0 0,.slice (some ⟨kkk,0,none⟩) 2 2,.int .i64 (t.line:Nat),.int .i64 (t.col:Nat)]) (by simp[results,Tryz.results91,go_sem,z0,z1,z2,z3,z4,z5,z6,z7]) rfl ?_;obtain⟨wz,hw⟩:∃ x,x=st8 w17 kr (.int .i64 26) (.string ⟨nm.text.toArray⟩) (.string ⟨#[]⟩) (.bool false) (.slice none 0 0) (.slice (some ⟨kkk,0,none⟩) 2 2) (.int .i64 (t.line:Nat)) (.int .i64 (t.col:Nat)):=⟨_,rfl⟩
 have hg:w17.grownBy wz (some kr):=by rw[hw];exact st8_grown _ _ _ _ _ _ _ _ _ _
 change TreePost w g _ _ _ (st8 w17 kr (.int .i64 26) (.string ⟨nm.text.toArray⟩) (.string ⟨#[]⟩) (.bool false) (.slice none 0 0) (.slice (some ⟨kkk,0,none⟩) 2 2) (.int .i64 (t.line:Nat)) (.int .i64 (t.col:Nat)));rw[<-hw];clear cv0 cv1 cv2 cv3 cv4 cv5 cv6 cv7 z0 fz0 z1 fz1 z2 fz2 z3 fz3 z4 fz4 z5 fz5 z6 fz6 z7 fz7;replace HP:=h_ (HP.out.store HBr.out (by decide) (by omega) hg);replace HBt:=kG hg HBt;replace HBnm:=kG hg HBnm;replace HBa:=kG hg HBa;replace HBb:=kG hg HBb;replace HBkk:=kG hg HBkk;replace HBv:=kG hg HBv;replace HUa:=h_ (HUa.out.grown hg (fun h=>by omega));replace HUb:=h_ (HUb.out.grown hg (fun h=>by omega));replace HOP:=h_ (HOP.out.grown hg (by omega));replace HD:=dN HD hg (by omega);have hsz17:=HD.out.size;clear hw hg
 have hu:U.node 26 s.tk.nx.text [] 0 s.nx.line s.nx.col [r1.1,r2.1]=U.node 26 nm.text [] 0 t.line t.col [r1.1,r2.1]:=by rw[HNt.out,HNnm.out]
 rw[hu];exact⟨⟨26,⟨nm.text.toArray⟩,⟨#[]⟩,false,none,0,0,some ⟨kkk,0,none⟩,2,2,(t.line:Nat),(t.col:Nat)⟩,rfl,um_node 26 nm.text [] t.line t.col kkk [⟨ak,anm,aot,ab,aao,an,aq,ako,akn,akc,aln,acl⟩,⟨bk,bnm,bot,bb,bao,bn,bq,bko,bkn,bkc,bln,bcl⟩] [r1.1,r2.1] 2 rfl (by omega) HBkk.out rfl (all2 (HUa.out.mono (fun b h=>by have h:(((((Na<=b/\True)/\b≠ka)/\b≠kq2)/\b≠kb)/\b≠kkk)/\b≠kv:=h;show _<=b;omega)) (HUb.out.mono (fun b h=>by have h:(((Nb<=b/\True)/\b≠kb)/\b≠kkk)/\b≠kv:=h;show _<=b;omega))),HP.out,HD.out⟩
theorem if_p (n:Nat) (E:Hid (ExprAt7 n)):IfAt (n+1):=by
 intro g s r w hps hop hc;have HP:=h_ hps;have HOP:=h_ hop;clear hps hop;rw[cIf] at hc;simp only[Option.bind_eq_some_iff] at hc;obtain⟨r1,h1,r2,h2,r3,h3,hr⟩:=hc;injection hr with hr;subst hr;have h1:=h_ h1;have h2:=h_ h2;have h3:=h_ h3;go_enter Tryz.func92,Tryz.ntmps92
 go_upto_region 1 with fail
 obtain⟨w1,kr,hw,hkk,hb,-,HBr⟩:=newb w #[.int .i64 0,.string ⟨#[]⟩,.string ⟨#[]⟩,.bool false,.slice none 0 0,.slice none 0 0,.int .i64 0,.int .i64 0] 46;have hgr:g<kr:=by rw[hkk];exact HP.out.lt
 have her:w.heap.size<=kr:=by omega
 rw[hw,<-hkk];replace HP:=h_ (HP.out.below hb);replace HOP:=h_ (HOP.out.below hb);have HD:=h_ (below_grown hb (some g));clear hw hb hkk;go_wp2_with fail
 refine (take_p g s w1 HP.out).mono ?_;rintro e w2 ⟨rfl,hp,hg⟩;replace HBr:=kG hg HBr;replace HOP:=h_ (HOP.out.grown hg (by omega));replace HP:=h_ hp;replace HD:=dG HD hg;have hsz2:=HD.out.size;clear hp hg;simp only[tokV];obtain⟨t,hnx⟩:∃ t,t=St.nx s:=⟨_,rfl⟩
 rw[<-hnx];have HNt:=h_ hnx;clear hnx;go_upto_region 2 with fail
 obtain⟨w3,kt,hw,hkk,hb,-,HBt⟩:=newb w2 #[.int .i64 (t.kind:Nat),.string ⟨t.text.toArray⟩,.int .i64 (t.line:Nat),.int .i64 (t.col:Nat)] 97;have hgt:g<kt:=by rw[hkk];exact HP.out.lt
 have het:w.heap.size<=kt:=by omega
 have hr_t:=lk_ hkk HBr;rw[hw,<-hkk];replace HBr:=kB hb HBr;replace HP:=h_ (HP.out.below hb);replace HOP:=h_ (HOP.out.below hb);replace HD:=dB HD hb;have hsz3:=HD.out.size;clear hw hb hkk;go_wp2_with fail
 obtain⟨Na,hN⟩:∃ k,k=w3.heap.size:=⟨_,rfl⟩
 have hr_Na:kr<Na:=by rw[hN];exact lt_of_block HBr.out
 have ht_Na:kt<Na:=by rw[hN];exact lt_of_block HBt.out
 have hg_Na:g<Na:=by rw[hN];exact HP.out.lt
 have he_Na:w.heap.size<=Na:=by omega
 refine (E.out g _ _ w3 HP.out HOP.out h1.out).mono ?_;rintro e w4 ⟨xa,rfl,hu,hp,hg⟩;replace HBr:=kG hg HBr;replace HBt:=kG hg HBt;replace HOP:=h_ (HOP.out.grown hg (by omega));replace HP:=h_ hp;replace HD:=dG HD hg;have hsz4:=HD.out.size;rw[<-hN] at hu;have HUa:=h_ (hu.mono (S':=fun b=>Na<=b/\True) (fun b h=>⟨h,trivial⟩));clear hN hu;clear hp hg;obtain⟨ak,anm,aot,ab,aao,an,aq,ako,akn,akc,aln,acl⟩:=xa;simp only[xv];go_upto_region 3 with fail
 obtain⟨w5,ka,hw,hkk,hb,-,HBa⟩:=newb w4 #[.int .i64 ak,.string anm,.string aot,.bool ab,.slice aao an aq,.slice ako akn akc,.int .i64 aln,.int .i64 acl] 46;have hga:g<ka:=by rw[hkk];exact HP.out.lt
 have hea:w.heap.size<=ka:=by omega
 have hr_a:=lk_ hkk HBr;have ht_a:=lk_ hkk HBt;replace HUa:=h_ (HUa.out.offk hkk);rw[hw,<-hkk];replace HBr:=kB hb HBr;replace HBt:=kB hb HBt;replace HP:=h_ (HP.out.below hb);replace HUa:=h_ (HUa.out.below hb);replace HOP:=h_ (HOP.out.below hb);replace HD:=dB HD hb;have hsz5:=HD.out.size;clear hw hb hkk;go_wp2_with fail
 obtain⟨w6,kq1,hw,hkk,hb,-,HBq1⟩:=newb w5 #[.string ⟨#[116,104,101,110]⟩] 9;have hgq1:g<kq1:=by rw[hkk];exact HP.out.lt
 have heq1:w.heap.size<=kq1:=by omega
 have hr_q1:=lk_ hkk HBr;have ht_q1:=lk_ hkk HBt;have ha_q1:=lk_ hkk HBa;replace HUa:=h_ (HUa.out.offk hkk);rw[hw,<-hkk];replace HBr:=kB hb HBr;replace HBt:=kB hb HBt;replace HBa:=kB hb HBa;replace HP:=h_ (HP.out.below hb);replace HUa:=h_ (HUa.out.below hb);replace HOP:=h_ (HOP.out.below hb);replace HD:=dB HD hb;have hsz6:=HD.out.size;clear hw hb hkk;refine (expect_p g r1.2 [[116,104,101,110]] kq1 w6 HP.out HBq1.out (by omega) (by decide)).mono ?_;rintro e w7 ⟨⟨v,rfl⟩,hp,hg⟩;replace HBr:=kG hg HBr;replace HBt:=kG hg HBt;replace HBa:=kG hg HBa;replace HBq1:=kG hg HBq1;replace HUa:=h_ (HUa.out.grown hg (fun h=>by omega));replace HOP:=h_ (HOP.out.grown hg (by omega));replace HP:=h_ hp;replace HD:=dG HD hg;have hsz7:=HD.out.size;clear hp hg;go_wp2_with fail
 obtain⟨Nb,hN⟩:∃ k,k=w7.heap.size:=⟨_,rfl⟩
 have hr_Nb:kr<Nb:=by rw[hN];exact lt_of_block HBr.out
 have ht_Nb:kt<Nb:=by rw[hN];exact lt_of_block HBt.out
 have ha_Nb:ka<Nb:=by rw[hN];exact lt_of_block HBa.out
 have hg_Nb:g<Nb:=by rw[hN];exact HP.out.lt
 have he_Nb:w.heap.size<=Nb:=by omega
 refine (E.out g _ _ w7 HP.out HOP.out h2.out).mono ?_;rintro e w8 ⟨xb,rfl,hu,hp,hg⟩;replace HBr:=kG hg HBr;replace HBt:=kG hg HBt;replace HBa:=kG hg HBa;replace HUa:=h_ (HUa.out.grown hg (fun h=>by omega));replace HOP:=h_ (HOP.out.grown hg (by omega));replace HP:=h_ hp;replace HD:=dG HD hg;have hsz8:=HD.out.size;rw[<-hN] at hu;have HUb:=h_ (hu.mono (S':=fun b=>Nb<=b/\True) (fun b h=>⟨h,trivial⟩));clear hN hu;clear hp hg;obtain⟨bk,bnm,bot,bb,bao,bn,bq,bko,bkn,bkc,bln,bcl⟩:=xb;simp only[xv];go_upto_region 5 with fail
 obtain⟨w9,kb,hw,hkk,hb,-,HBb⟩:=newb w8 #[.int .i64 bk,.string bnm,.string bot,.bool bb,.slice bao bn bq,.slice bko bkn bkc,.int .i64 bln,.int .i64 bcl] 46;have hgb:g<kb:=by rw[hkk];exact HP.out.lt
 have heb:w.heap.size<=kb:=by omega
 have hr_b:=lk_ hkk HBr;have ht_b:=lk_ hkk HBt;have ha_b:=lk_ hkk HBa;replace HUa:=h_ (HUa.out.offk hkk);replace HUb:=h_ (HUb.out.offk hkk);rw[hw,<-hkk];replace HBr:=kB hb HBr;replace HBt:=kB hb HBt;replace HBa:=kB hb HBa;replace HP:=h_ (HP.out.below hb);replace HUa:=h_ (HUa.out.below hb);replace HUb:=h_ (HUb.out.below hb);replace HOP:=h_ (HOP.out.below hb);replace HD:=dB HD hb;have hsz9:=HD.out.size;clear hw hb hkk;go_wp2_with fail
 obtain⟨w10,kq2,hw,hkk,hb,-,HBq2⟩:=newb w9 #[.string ⟨#[101,108,115,101]⟩] 9;have hgq2:g<kq2:=by rw[hkk];exact HP.out.lt
 have heq2:w.heap.size<=kq2:=by omega
 have hr_q2:=lk_ hkk HBr;have ht_q2:=lk_ hkk HBt;have ha_q2:=lk_ hkk HBa;have hb_q2:=lk_ hkk HBb;replace HUa:=h_ (HUa.out.offk hkk);replace HUb:=h_ (HUb.out.offk hkk);rw[hw,<-hkk];replace HBr:=kB hb HBr;replace HBt:=kB hb HBt;replace HBa:=kB hb HBa;replace HBb:=kB hb HBb;replace HP:=h_ (HP.out.below hb);replace HUa:=h_ (HUa.out.below hb);replace HUb:=h_ (HUb.out.below hb);replace HOP:=h_ (HOP.out.below hb);replace HD:=dB HD hb;have hsz10:=HD.out.size;clear hw hb hkk;refine (expect_p g r2.2 [[101,108,115,101]] kq2 w10 HP.out HBq2.out (by omega) (by decide)).mono ?_;rintro e w11 ⟨⟨v,rfl⟩,hp,hg⟩;replace HBr:=kG hg HBr;replace HBt:=kG hg HBt;replace HBa:=kG hg HBa;replace HBb:=kG hg HBb;replace HBq2:=kG hg HBq2;replace HUa:=h_ (HUa.out.grown hg (fun h=>by omega));replace HUb:=h_ (HUb.out.grown hg (fun h=>by omega))
 replace HOP:=h_ (HOP.out.grown hg (by omega));replace HP:=h_ hp;replace HD:=dG HD hg;have hsz11:=HD.out.size;clear hp hg;go_wp2_with fail
 obtain⟨Nc,hN⟩:∃ k,k=w11.heap.size:=⟨_,rfl⟩
 have hr_Nc:kr<Nc:=by rw[hN];exact lt_of_block HBr.out
 have ht_Nc:kt<Nc:=by rw[hN];exact lt_of_block HBt.out
 have ha_Nc:ka<Nc:=by rw[hN];exact lt_of_block HBa.out
 have hb_Nc:kb<Nc:=by rw[hN];exact lt_of_block HBb.out
 have hg_Nc:g<Nc:=by rw[hN];exact HP.out.lt
 have he_Nc:w.heap.size<=Nc:=by omega
 refine (E.out g _ _ w11 HP.out HOP.out h3.out).mono ?_;rintro e w12 ⟨xc,rfl,hu,hp,hg⟩;replace HBr:=kG hg HBr;replace HBt:=kG hg HBt;replace HBa:=kG hg HBa;replace HBb:=kG hg HBb;replace HUa:=h_ (HUa.out.grown hg (fun h=>by omega));replace HUb:=h_ (HUb.out.grown hg (fun h=>by omega));replace HOP:=h_ (HOP.out.grown hg (by omega));replace HP:=h_ hp;replace HD:=dG HD hg;have hsz12:=HD.out.size;rw[<-hN] at hu;have HUc:=h_ (hu.mono (S':=fun b=>Nc<=b/\True) (fun b h=>⟨h,trivial⟩));clear hN hu;clear hp hg;obtain⟨ck,cnm,cot,cb,cao,cn,cq,cko,ckn,ckc,cln,ccl⟩:=xc;simp only[xv];go_upto_region 7 with fail
 obtain⟨w13,kc,hw,hkk,hb,-,HBc⟩:=newb w12 #[.int .i64 ck,.string cnm,.string cot,.bool cb,.slice cao cn cq,.slice cko ckn ckc,.int .i64 cln,.int .i64 ccl] 46;have hgc:g<kc:=by rw[hkk];exact HP.out.lt
 have hec:w.heap.size<=kc:=by omega
 have hr_c:=lk_ hkk HBr;have ht_c:=lk_ hkk HBt;have ha_c:=lk_ hkk HBa;have hb_c:=lk_ hkk HBb;replace HUa:=h_ (HUa.out.offk hkk);replace HUb:=h_ (HUb.out.offk hkk);replace HUc:=h_ (HUc.out.offk hkk);rw[hw,<-hkk];replace HBr:=kB hb HBr;replace HBt:=kB hb HBt;replace HBa:=kB hb HBa;replace HBb:=kB hb HBb;replace HP:=h_ (HP.out.below hb);replace HUa:=h_ (HUa.out.below hb);replace HUb:=h_ (HUb.out.below hb);replace HUc:=h_ (HUc.out.below hb);replace HOP:=h_ (HOP.out.below hb);replace HD:=dB HD hb;have hsz13:=HD.out.size;clear hw hb hkk;obtain⟨ct0,ct1,ct2,ct3⟩:=cl4 HBt.out;obtain⟨ca0,ca1,ca2,ca3,ca4,ca5,ca6,ca7⟩:=cl8 HBa.out;obtain⟨cb0,cb1,cb2,cb3,cb4,cb5,cb6,cb7⟩:=cl8 HBb.out;obtain⟨cc0,cc1,cc2,cc3,cc4,cc5,cc6,cc7⟩:=cl8 HBc.out;go_wp2_with fail
 clear ct0 ct1 ct2 ct3 ca0 ca1 ca2 ca3 ca4 ca5 ca6 ca7 cb0 cb1 cb2 cb3 cb4 cb5 cb6 cb7 cc0 cc1 cc2 cc3 cc4 cc5 cc6 cc7;obtain⟨w14,kkk,hw,hkk,hb,-,HBkk⟩:=newb w13 #[.int .i64 ak,.string anm,.string aot,.bool ab,.slice aao an aq,.slice ako akn akc,.int .i64 aln,.int .i64 acl,.int .i64 bk,.string bnm,.string bot,.bool bb,.slice bao bn bq,.slice bko bkn bkc,.int .i64 bln,.int .i64 bcl,.int .i64 ck,.string cnm,.string cot,.bool cb,.slice cao cn cq,.slice cko ckn ckc,.int .i64 cln,.int .i64 ccl] 46;have hgkk:g<kkk:=by rw[hkk];exact HP.out.lt
 have hekk:w.heap.size<=kkk:=by omega
 have hr_kk:=lk_ hkk HBr;have ht_kk:=lk_ hkk HBt;have ha_kk:=lk_ hkk HBa;have hb_kk:=lk_ hkk HBb;have hc_kk:=lk_ hkk HBc;replace HUa:=h_ (HUa.out.offk hkk);replace HUb:=h_ (HUb.out.offk hkk);replace HUc:=h_ (HUc.out.offk hkk);rw[hw,<-hkk];replace HBr:=kB hb HBr;replace HBt:=kB hb HBt;replace HBa:=kB hb HBa;replace HBb:=kB hb HBb;replace HBc:=kB hb HBc;replace HP:=h_ (HP.out.below hb);replace HUa:=h_ (HUa.out.below hb);replace HUb:=h_ (HUb.out.below hb);replace HUc:=h_ (HUc.out.below hb);replace HOP:=h_ (HOP.out.below hb);replace HD:=dB HD hb;clear hw hb hkk;refine (part_p 25 t (some ⟨kkk,0,none⟩) 3 3 w14).mono ?_;rintro e w15 ⟨rfl,hb⟩;replace HBr:=kB hb HBr;replace HBt:=kB hb HBt;replace HBa:=kB hb HBa;replace HBb:=kB hb HBb;replace HBc:=kB hb HBc;replace HBkk:=kB hb HBkk;replace HP:=h_ (HP.out.below hb)
 replace HUa:=h_ (HUa.out.below hb);replace HUb:=h_ (HUb.out.below hb);replace HUc:=h_ (HUc.out.below hb);replace HOP:=h_ (HOP.out.below hb);replace HD:=dB HD hb;clear hb;simp only[xv];obtain⟨z0,z1,z2,z3,z4,z5,z6,z7⟩:=cl8 HBr.out;obtain⟨fz0,fz1,fz2,fz3,fz4,fz5,fz6,fz7⟩:=fr8 HBr.out;go_wp2_with fail
 refine bodyPost_ret (v:=.agg #[.int .i64 25,.string ⟨#[]⟩,.string ⟨#[]⟩,.bool false,.slice none 0 0,.slice (some ⟨kkk,0,none⟩) 3 3,.int .i64 (t.line:Nat),.int .i64 (t.col:Nat)]) (by simp[results,Tryz.results92,go_sem,z0,z1,z2,z3,z4,z5,z6,z7]) rfl ?_;obtain⟨wz,hw⟩:∃ x,x=st8 w15 kr (.int .i64 25) (.string ⟨#[]⟩) (.string ⟨#[]⟩) (.bool false) (.slice none 0 0) (.slice (some ⟨kkk,0,none⟩) 3 3) (.int .i64 (t.line:Nat)) (.int .i64 (t.col:Nat)):=⟨_,rfl⟩
 have hg:w15.grownBy wz (some kr):=by rw[hw];exact st8_grown _ _ _ _ _ _ _ _ _ _
 change TreePost w g _ _ _ (st8 w15 kr (.int .i64 25) (.string ⟨#[]⟩) (.string ⟨#[]⟩) (.bool false) (.slice none 0 0) (.slice (some ⟨kkk,0,none⟩) 3 3) (.int .i64 (t.line:Nat)) (.int .i64 (t.col:Nat)));rw[<-hw];clear z0 fz0 z1 fz1 z2 fz2 z3 fz3 z4 fz4 z5 fz5 z6 fz6 z7 fz7;replace HP:=h_ (HP.out.store HBr.out (by decide) (by omega) hg);replace HBt:=kG hg HBt;replace HBa:=kG hg HBa;replace HBb:=kG hg HBb;replace HBc:=kG hg HBc;replace HBkk:=kG hg HBkk;replace HUa:=h_ (HUa.out.grown hg (fun h=>by omega));replace HUb:=h_ (HUb.out.grown hg (fun h=>by omega));replace HUc:=h_ (HUc.out.grown hg (fun h=>by omega));replace HOP:=h_ (HOP.out.grown hg (by omega));replace HD:=dN HD hg (by omega);have hsz15:=HD.out.size;clear hw hg;have hu:U.node 25 [] [] 0 s.nx.line s.nx.col [r1.1,r2.1,r3.1]=U.node 25 [] [] 0 t.line t.col [r1.1,r2.1,r3.1]:=by rw[HNt.out]
 unfold prt;rw[hu];exact⟨⟨25,⟨#[]⟩,⟨#[]⟩,false,none,0,0,some ⟨kkk,0,none⟩,3,3,(t.line:Nat),(t.col:Nat)⟩,rfl,um_node 25 [] [] t.line t.col kkk [⟨ak,anm,aot,ab,aao,an,aq,ako,akn,akc,aln,acl⟩,⟨bk,bnm,bot,bb,bao,bn,bq,bko,bkn,bkc,bln,bcl⟩,⟨ck,cnm,cot,cb,cao,cn,cq,cko,ckn,ckc,cln,ccl⟩] [r1.1,r2.1,r3.1] 3 rfl (by omega) HBkk.out rfl (all3 (HUa.out.mono (fun b h=>by have h:((((((Na<=b/\True)/\b≠ka)/\b≠kq1)/\b≠kb)/\b≠kq2)/\b≠kc)/\b≠kkk:=h;show _<=b;omega)) (HUb.out.mono (fun b h=>by have h:((((Nb<=b/\True)/\b≠kb)/\b≠kq2)/\b≠kc)/\b≠kkk:=h;show _<=b;omega)) (HUc.out.mono (fun b h=>by have h:((Nc<=b/\True)/\b≠kc)/\b≠kkk:=h;show _<=b;omega))),HP.out,HD.out⟩
theorem assert_p (n:Nat) (E:Hid (ExprAt7 n)):AssertAt (n+1):=by
 intro g s r w hps hop hc;have HP:=h_ hps;have HOP:=h_ hop;clear hps hop;rw[cAssert] at hc;simp only[Option.bind_eq_some_iff] at hc;obtain⟨r1,h1,r2,h2,hr⟩:=hc;injection hr with hr;subst hr;have h1:=h_ h1;have h2:=h_ h2;go_enter Tryz.func94,Tryz.ntmps94
 go_upto_region 1 with fail
 obtain⟨w1,kr,hw,hkk,hb,-,HBr⟩:=newb w #[.int .i64 0,.string ⟨#[]⟩,.string ⟨#[]⟩,.bool false,.slice none 0 0,.slice none 0 0,.int .i64 0,.int .i64 0] 46;have hgr:g<kr:=by rw[hkk];exact HP.out.lt
 have her:w.heap.size<=kr:=by omega
 rw[hw,<-hkk];replace HP:=h_ (HP.out.below hb);replace HOP:=h_ (HOP.out.below hb);have HD:=h_ (below_grown hb (some g));clear hw hb hkk;go_wp2_with fail
 refine (take_p g s w1 HP.out).mono ?_;rintro e w2 ⟨rfl,hp,hg⟩;replace HBr:=kG hg HBr;replace HOP:=h_ (HOP.out.grown hg (by omega));replace HP:=h_ hp;replace HD:=dG HD hg;have hsz2:=HD.out.size;clear hp hg;simp only[tokV];obtain⟨t,hnx⟩:∃ t,t=St.nx s:=⟨_,rfl⟩
 rw[<-hnx];have HNt:=h_ hnx;clear hnx;go_upto_region 2 with fail
 obtain⟨w3,kt,hw,hkk,hb,-,HBt⟩:=newb w2 #[.int .i64 (t.kind:Nat),.string ⟨t.text.toArray⟩,.int .i64 (t.line:Nat),.int .i64 (t.col:Nat)] 97;have hgt:g<kt:=by rw[hkk];exact HP.out.lt
 have het:w.heap.size<=kt:=by omega
 have hr_t:=lk_ hkk HBr;rw[hw,<-hkk];replace HBr:=kB hb HBr;replace HP:=h_ (HP.out.below hb);replace HOP:=h_ (HOP.out.below hb);replace HD:=dB HD hb;have hsz3:=HD.out.size;clear hw hb hkk;go_wp2_with fail
 obtain⟨Na,hN⟩:∃ k,k=w3.heap.size:=⟨_,rfl⟩
 have hr_Na:kr<Na:=by rw[hN];exact lt_of_block HBr.out
 have ht_Na:kt<Na:=by rw[hN];exact lt_of_block HBt.out
 have hg_Na:g<Na:=by rw[hN];exact HP.out.lt
 have he_Na:w.heap.size<=Na:=by omega
 refine (E.out g _ _ w3 HP.out HOP.out h1.out).mono ?_;rintro e w4 ⟨xa,rfl,hu,hp,hg⟩;replace HBr:=kG hg HBr;replace HBt:=kG hg HBt;replace HOP:=h_ (HOP.out.grown hg (by omega));replace HP:=h_ hp;replace HD:=dG HD hg;have hsz4:=HD.out.size;rw[<-hN] at hu;have HUa:=h_ (hu.mono (S':=fun b=>Na<=b/\True) (fun b h=>⟨h,trivial⟩));clear hN hu;clear hp hg;obtain⟨ak,anm,aot,ab,aao,an,aq,ako,akn,akc,aln,acl⟩:=xa;simp only[xv];go_upto_region 3 with fail
 obtain⟨w5,ka,hw,hkk,hb,-,HBa⟩:=newb w4 #[.int .i64 ak,.string anm,.string aot,.bool ab,.slice aao an aq,.slice ako akn akc,.int .i64 aln,.int .i64 acl] 46;have hga:g<ka:=by rw[hkk];exact HP.out.lt
 have hea:w.heap.size<=ka:=by omega
 have hr_a:=lk_ hkk HBr;have ht_a:=lk_ hkk HBt;replace HUa:=h_ (HUa.out.offk hkk);rw[hw,<-hkk];replace HBr:=kB hb HBr;replace HBt:=kB hb HBt;replace HP:=h_ (HP.out.below hb);replace HUa:=h_ (HUa.out.below hb);replace HOP:=h_ (HOP.out.below hb);replace HD:=dB HD hb;have hsz5:=HD.out.size;clear hw hb hkk;go_wp2_with fail
 obtain⟨w6,kq1,hw,hkk,hb,-,HBq1⟩:=newb w5 #[.string ⟨#[59]⟩] 9;have hgq1:g<kq1:=by rw[hkk];exact HP.out.lt
 have heq1:w.heap.size<=kq1:=by omega
 have hr_q1:=lk_ hkk HBr;have ht_q1:=lk_ hkk HBt;have ha_q1:=lk_ hkk HBa;replace HUa:=h_ (HUa.out.offk hkk);rw[hw,<-hkk];replace HBr:=kB hb HBr;replace HBt:=kB hb HBt;replace HBa:=kB hb HBa;replace HP:=h_ (HP.out.below hb);replace HUa:=h_ (HUa.out.below hb);replace HOP:=h_ (HOP.out.below hb);replace HD:=dB HD hb;have hsz6:=HD.out.size;clear hw hb hkk;refine (expect_p g r1.2 [[59]] kq1 w6 HP.out HBq1.out (by omega) (by decide)).mono ?_;rintro e w7 ⟨⟨v,rfl⟩,hp,hg⟩;replace HBr:=kG hg HBr;replace HBt:=kG hg HBt;replace HBa:=kG hg HBa;replace HBq1:=kG hg HBq1;replace HUa:=h_ (HUa.out.grown hg (fun h=>by omega));replace HOP:=h_ (HOP.out.grown hg (by omega));replace HP:=h_ hp;replace HD:=dG HD hg;have hsz7:=HD.out.size;clear hp hg;go_wp2_with fail
 obtain⟨Nb,hN⟩:∃ k,k=w7.heap.size:=⟨_,rfl⟩
 have hr_Nb:kr<Nb:=by rw[hN];exact lt_of_block HBr.out
 have ht_Nb:kt<Nb:=by rw[hN];exact lt_of_block HBt.out
 have ha_Nb:ka<Nb:=by rw[hN];exact lt_of_block HBa.out
 have hg_Nb:g<Nb:=by rw[hN];exact HP.out.lt
 have he_Nb:w.heap.size<=Nb:=by omega
 refine (E.out g _ _ w7 HP.out HOP.out h2.out).mono ?_;rintro e w8 ⟨xb,rfl,hu,hp,hg⟩;replace HBr:=kG hg HBr;replace HBt:=kG hg HBt;replace HBa:=kG hg HBa;replace HUa:=h_ (HUa.out.grown hg (fun h=>by omega));replace HOP:=h_ (HOP.out.grown hg (by omega));replace HP:=h_ hp;replace HD:=dG HD hg;have hsz8:=HD.out.size;rw[<-hN] at hu;have HUb:=h_ (hu.mono (S':=fun b=>Nb<=b/\True) (fun b h=>⟨h,trivial⟩));clear hN hu;clear hp hg;obtain⟨bk,bnm,bot,bb,bao,bn,bq,bko,bkn,bkc,bln,bcl⟩:=xb;simp only[xv];go_upto_region 5 with fail
 obtain⟨w9,kb,hw,hkk,hb,-,HBb⟩:=newb w8 #[.int .i64 bk,.string bnm,.string bot,.bool bb,.slice bao bn bq,.slice bko bkn bkc,.int .i64 bln,.int .i64 bcl] 46;have hgb:g<kb:=by rw[hkk];exact HP.out.lt
 have heb:w.heap.size<=kb:=by omega
 have hr_b:=lk_ hkk HBr;have ht_b:=lk_ hkk HBt;have ha_b:=lk_ hkk HBa;replace HUa:=h_ (HUa.out.offk hkk);replace HUb:=h_ (HUb.out.offk hkk);rw[hw,<-hkk];replace HBr:=kB hb HBr;replace HBt:=kB hb HBt;replace HBa:=kB hb HBa;replace HP:=h_ (HP.out.below hb);replace HUa:=h_ (HUa.out.below hb);replace HUb:=h_ (HUb.out.below hb);replace HOP:=h_ (HOP.out.below hb);replace HD:=dB HD hb;have hsz9:=HD.out.size;clear hw hb hkk;obtain⟨ct0,ct1,ct2,ct3⟩:=cl4 HBt.out;obtain⟨ca0,ca1,ca2,ca3,ca4,ca5,ca6,ca7⟩:=cl8 HBa.out;obtain⟨cb0,cb1,cb2,cb3,cb4,cb5,cb6,cb7⟩:=cl8 HBb.out;go_wp2_with fail
 clear ct0 ct1 ct2 ct3 ca0 ca1 ca2 ca3 ca4 ca5 ca6 ca7 cb0 cb1 cb2 cb3 cb4 cb5 cb6 cb7;obtain⟨w10,kkk,hw,hkk,hb,-,HBkk⟩:=newb w9 #[.int .i64 ak,.string anm,.string aot,.bool ab,.slice aao an aq,.slice ako akn akc,.int .i64 aln,.int .i64 acl,.int .i64 bk,.string bnm,.string bot,.bool bb,.slice bao bn bq,.slice bko bkn bkc,.int .i64 bln,.int .i64 bcl] 46;have hgkk:g<kkk:=by rw[hkk];exact HP.out.lt
 have hekk:w.heap.size<=kkk:=by omega
 have hr_kk:=lk_ hkk HBr;have ht_kk:=lk_ hkk HBt;have ha_kk:=lk_ hkk HBa;have hb_kk:=lk_ hkk HBb;replace HUa:=h_ (HUa.out.offk hkk);replace HUb:=h_ (HUb.out.offk hkk);rw[hw,<-hkk];replace HBr:=kB hb HBr;replace HBt:=kB hb HBt;replace HBa:=kB hb HBa;replace HBb:=kB hb HBb;replace HP:=h_ (HP.out.below hb);replace HUa:=h_ (HUa.out.below hb);replace HUb:=h_ (HUb.out.below hb);replace HOP:=h_ (HOP.out.below hb);replace HD:=dB HD hb;clear hw hb hkk;refine (part_p 28 t (some ⟨kkk,0,none⟩) 2 2 w10).mono ?_;rintro e w11 ⟨rfl,hb⟩;replace HBr:=kB hb HBr;replace HBt:=kB hb HBt;replace HBa:=kB hb HBa;replace HBb:=kB hb HBb;replace HBkk:=kB hb HBkk;replace HP:=h_ (HP.out.below hb);replace HUa:=h_ (HUa.out.below hb);replace HUb:=h_ (HUb.out.below hb);replace HOP:=h_ (HOP.out.below hb);replace HD:=dB HD hb;clear hb;simp only[xv]
 obtain⟨z0,z1,z2,z3,z4,z5,z6,z7⟩:=cl8 HBr.out;obtain⟨fz0,fz1,fz2,fz3,fz4,fz5,fz6,fz7⟩:=fr8 HBr.out;go_wp2_with fail
 refine bodyPost_ret (v:=.agg #[.int .i64 28,.string ⟨#[]⟩,.string ⟨#[]⟩,.bool false,.slice none 0 0,.slice (some ⟨kkk,0,none⟩) 2 2,.int .i64 (t.line:Nat),.int .i64 (t.col:Nat)]) (by simp[results,Tryz.results94,go_sem,z0,z1,z2,z3,z4,z5,z6,z7]) rfl ?_;obtain⟨wz,hw⟩:∃ x,x=st8 w11 kr (.int .i64 28) (.string ⟨#[]⟩) (.string ⟨#[]⟩) (.bool false) (.slice none 0 0) (.slice (some ⟨kkk,0,none⟩) 2 2) (.int .i64 (t.line:Nat)) (.int .i64 (t.col:Nat)):=⟨_,rfl⟩
 have hg:w11.grownBy wz (some kr):=by rw[hw];exact st8_grown _ _ _ _ _ _ _ _ _ _
 change TreePost w g _ _ _ (st8 w11 kr (.int .i64 28) (.string ⟨#[]⟩) (.string ⟨#[]⟩) (.bool false) (.slice none 0 0) (.slice (some ⟨kkk,0,none⟩) 2 2) (.int .i64 (t.line:Nat)) (.int .i64 (t.col:Nat)));rw[<-hw];clear z0 fz0 z1 fz1 z2 fz2 z3 fz3 z4 fz4 z5 fz5 z6 fz6 z7 fz7;replace HP:=h_ (HP.out.store HBr.out (by decide) (by omega) hg);replace HBt:=kG hg HBt;replace HBa:=kG hg HBa;replace HBb:=kG hg HBb;replace HBkk:=kG hg HBkk;replace HUa:=h_ (HUa.out.grown hg (fun h=>by omega));replace HUb:=h_ (HUb.out.grown hg (fun h=>by omega));replace HOP:=h_ (HOP.out.grown hg (by omega));replace HD:=dN HD hg (by omega);have hsz11:=HD.out.size;clear hw hg;have hu:U.node 28 [] [] 0 s.nx.line s.nx.col [r1.1,r2.1]=U.node 28 [] [] 0 t.line t.col [r1.1,r2.1]:=by rw[HNt.out]
 unfold prt;rw[hu];exact⟨⟨28,⟨#[]⟩,⟨#[]⟩,false,none,0,0,some ⟨kkk,0,none⟩,2,2,(t.line:Nat),(t.col:Nat)⟩,rfl,um_node 28 [] [] t.line t.col kkk [⟨ak,anm,aot,ab,aao,an,aq,ako,akn,akc,aln,acl⟩,⟨bk,bnm,bot,bb,bao,bn,bq,bko,bkn,bkc,bln,bcl⟩] [r1.1,r2.1] 2 rfl (by omega) HBkk.out rfl (all2 (HUa.out.mono (fun b h=>by have h:((((Na<=b/\True)/\b≠ka)/\b≠kq1)/\b≠kb)/\b≠kkk:=h;show _<=b;omega)) (HUb.out.mono (fun b h=>by have h:((Nb<=b/\True)/\b≠kb)/\b≠kkk:=h;show _<=b;omega))),HP.out,HD.out⟩
theorem match_p (n:Nat) (E:Hid (ExprAt7 n)):MatchAt (n+1):=by
 intro g s r w hps hop hc;have HP:=h_ hps;have HOP:=h_ hop;clear hps hop;rw[cMatch] at hc;simp only[Option.bind_eq_some_iff] at hc;obtain⟨r1,h1,r2,h2,r3,h3,hr⟩:=hc;injection hr with hr;subst hr;have h1:=h_ h1;have h2:=h_ h2;have h3:=h_ h3;go_enter Tryz.func93,Tryz.ntmps93
 go_upto_region 1 with fail
 obtain⟨w1,kr,hw,hkk,hb,-,HBr⟩:=newb w #[.int .i64 0,.string ⟨#[]⟩,.string ⟨#[]⟩,.bool false,.slice none 0 0,.slice none 0 0,.int .i64 0,.int .i64 0] 46;have hgr:g<kr:=by rw[hkk];exact HP.out.lt
 have her:w.heap.size<=kr:=by omega
 rw[hw,<-hkk];replace HP:=h_ (HP.out.below hb);replace HOP:=h_ (HOP.out.below hb);have HD:=h_ (below_grown hb (some g));clear hw hb hkk;go_wp2_with fail
 refine (take_p g s w1 HP.out).mono ?_;rintro e w2 ⟨rfl,hp,hg⟩;replace HBr:=kG hg HBr;replace HOP:=h_ (HOP.out.grown hg (by omega));replace HP:=h_ hp;replace HD:=dG HD hg;have hsz2:=HD.out.size;clear hp hg;simp only[tokV];obtain⟨t,hnx⟩:∃ t,t=St.nx s:=⟨_,rfl⟩
 rw[<-hnx];have HNt:=h_ hnx;clear hnx;go_upto_region 2 with fail
 obtain⟨w3,kt,hw,hkk,hb,-,HBt⟩:=newb w2 #[.int .i64 (t.kind:Nat),.string ⟨t.text.toArray⟩,.int .i64 (t.line:Nat),.int .i64 (t.col:Nat)] 97;have hgt:g<kt:=by rw[hkk];exact HP.out.lt
 have het:w.heap.size<=kt:=by omega
 have hr_t:=lk_ hkk HBr;rw[hw,<-hkk];replace HBr:=kB hb HBr;replace HP:=h_ (HP.out.below hb);replace HOP:=h_ (HOP.out.below hb);replace HD:=dB HD hb;have hsz3:=HD.out.size;clear hw hb hkk;go_wp2_with fail
 obtain⟨Na,hN⟩:∃ k,k=w3.heap.size:=⟨_,rfl⟩
 have hr_Na:kr<Na:=by rw[hN];exact lt_of_block HBr.out
 have ht_Na:kt<Na:=by rw[hN];exact lt_of_block HBt.out
 have hg_Na:g<Na:=by rw[hN];exact HP.out.lt
 have he_Na:w.heap.size<=Na:=by omega
 refine (E.out g _ _ w3 HP.out HOP.out h1.out).mono ?_;rintro e w4 ⟨xa,rfl,hu,hp,hg⟩;replace HBr:=kG hg HBr;replace HBt:=kG hg HBt;replace HOP:=h_ (HOP.out.grown hg (by omega));replace HP:=h_ hp;replace HD:=dG HD hg;have hsz4:=HD.out.size;rw[<-hN] at hu;have HUa:=h_ (hu.mono (S':=fun b=>Na<=b/\True) (fun b h=>⟨h,trivial⟩));clear hN hu;clear hp hg;obtain⟨ak,anm,aot,ab,aao,an,aq,ako,akn,akc,aln,acl⟩:=xa;simp only[xv];go_upto_region 3 with fail
 obtain⟨w5,ka,hw,hkk,hb,-,HBa⟩:=newb w4 #[.int .i64 ak,.string anm,.string aot,.bool ab,.slice aao an aq,.slice ako akn akc,.int .i64 aln,.int .i64 acl] 46;have hga:g<ka:=by rw[hkk];exact HP.out.lt
 have hea:w.heap.size<=ka:=by omega
 have hr_a:=lk_ hkk HBr;have ht_a:=lk_ hkk HBt;replace HUa:=h_ (HUa.out.offk hkk);rw[hw,<-hkk];replace HBr:=kB hb HBr;replace HBt:=kB hb HBt;replace HP:=h_ (HP.out.below hb);replace HUa:=h_ (HUa.out.below hb);replace HOP:=h_ (HOP.out.below hb);replace HD:=dB HD hb;have hsz5:=HD.out.size;clear hw hb hkk;go_wp2_with fail
 obtain⟨w6,kq1,hw,hkk,hb,-,HBq1⟩:=newb w5 #[.string ⟨#[119,105,116,104]⟩,.string ⟨#[91,93]⟩,.string ⟨#[45,62]⟩] 9;have hgq1:g<kq1:=by rw[hkk];exact HP.out.lt
 have heq1:w.heap.size<=kq1:=by omega
 have hr_q1:=lk_ hkk HBr;have ht_q1:=lk_ hkk HBt;have ha_q1:=lk_ hkk HBa;replace HUa:=h_ (HUa.out.offk hkk);rw[hw,<-hkk];replace HBr:=kB hb HBr;replace HBt:=kB hb HBt;replace HBa:=kB hb HBa;replace HP:=h_ (HP.out.below hb);replace HUa:=h_ (HUa.out.below hb);replace HOP:=h_ (HOP.out.below hb);replace HD:=dB HD hb;have hsz6:=HD.out.size;clear hw hb hkk;refine (expect_p g r1.2 [[119,105,116,104],[91,93],[45,62]] kq1 w6 HP.out HBq1.out (by omega) (by decide)).mono ?_;rintro e w7 ⟨⟨v,rfl⟩,hp,hg⟩;replace HBr:=kG hg HBr;replace HBt:=kG hg HBt;replace HBa:=kG hg HBa;replace HBq1:=kG hg HBq1;replace HUa:=h_ (HUa.out.grown hg (fun h=>by omega));replace HOP:=h_ (HOP.out.grown hg (by omega));replace HP:=h_ hp;replace HD:=dG HD hg;have hsz7:=HD.out.size;clear hp hg;go_wp2_with fail
 obtain⟨Nb,hN⟩:∃ k,k=w7.heap.size:=⟨_,rfl⟩
 have hr_Nb:kr<Nb:=by rw[hN];exact lt_of_block HBr.out
 have ht_Nb:kt<Nb:=by rw[hN];exact lt_of_block HBt.out
 have ha_Nb:ka<Nb:=by rw[hN];exact lt_of_block HBa.out
 have hg_Nb:g<Nb:=by rw[hN];exact HP.out.lt
 have he_Nb:w.heap.size<=Nb:=by omega
 refine (E.out g _ _ w7 HP.out HOP.out h2.out).mono ?_;rintro e w8 ⟨xb,rfl,hu,hp,hg⟩;replace HBr:=kG hg HBr;replace HBt:=kG hg HBt;replace HBa:=kG hg HBa;replace HUa:=h_ (HUa.out.grown hg (fun h=>by omega));replace HOP:=h_ (HOP.out.grown hg (by omega));replace HP:=h_ hp;replace HD:=dG HD hg;have hsz8:=HD.out.size;rw[<-hN] at hu;have HUb:=h_ (hu.mono (S':=fun b=>Nb<=b/\True) (fun b h=>⟨h,trivial⟩));clear hN hu;clear hp hg;obtain⟨bk,bnm,bot,bb,bao,bn,bq,bko,bkn,bkc,bln,bcl⟩:=xb;simp only[xv];go_upto_region 5 with fail
 obtain⟨w9,kb,hw,hkk,hb,-,HBb⟩:=newb w8 #[.int .i64 bk,.string bnm,.string bot,.bool bb,.slice bao bn bq,.slice bko bkn bkc,.int .i64 bln,.int .i64 bcl] 46;have hgb:g<kb:=by rw[hkk];exact HP.out.lt
 have heb:w.heap.size<=kb:=by omega
 have hr_b:=lk_ hkk HBr;have ht_b:=lk_ hkk HBt;have ha_b:=lk_ hkk HBa;replace HUa:=h_ (HUa.out.offk hkk);replace HUb:=h_ (HUb.out.offk hkk);rw[hw,<-hkk];replace HBr:=kB hb HBr;replace HBt:=kB hb HBt;replace HBa:=kB hb HBa;replace HP:=h_ (HP.out.below hb);replace HUa:=h_ (HUa.out.below hb);replace HUb:=h_ (HUb.out.below hb);replace HOP:=h_ (HOP.out.below hb);replace HD:=dB HD hb;have hsz9:=HD.out.size;clear hw hb hkk;go_wp2_with fail
 obtain⟨w10,kq2,hw,hkk,hb,-,HBq2⟩:=newb w9 #[.string ⟨#[124]⟩] 9;have hgq2:g<kq2:=by rw[hkk];exact HP.out.lt
 have heq2:w.heap.size<=kq2:=by omega
 have hr_q2:=lk_ hkk HBr;have ht_q2:=lk_ hkk HBt;have ha_q2:=lk_ hkk HBa;have hb_q2:=lk_ hkk HBb;replace HUa:=h_ (HUa.out.offk hkk);replace HUb:=h_ (HUb.out.offk hkk);rw[hw,<-hkk];replace HBr:=kB hb HBr;replace HBt:=kB hb HBt;replace HBa:=kB hb HBa;replace HBb:=kB hb HBb;replace HP:=h_ (HP.out.below hb);replace HUa:=h_ (HUa.out.below hb);replace HUb:=h_ (HUb.out.below hb);replace HOP:=h_ (HOP.out.below hb);replace HD:=dB HD hb;have hsz10:=HD.out.size;clear hw hb hkk;refine (expect_p g r2.2 [[124]] kq2 w10 HP.out HBq2.out (by omega) (by decide)).mono ?_;rintro e w11 ⟨⟨v,rfl⟩,hp,hg⟩;replace HBr:=kG hg HBr;replace HBt:=kG hg HBt;replace HBa:=kG hg HBa;replace HBb:=kG hg HBb;replace HBq2:=kG hg HBq2;replace HUa:=h_ (HUa.out.grown hg (fun h=>by omega));replace HUb:=h_ (HUb.out.grown hg (fun h=>by omega))
 replace HOP:=h_ (HOP.out.grown hg (by omega));replace HP:=h_ hp;replace HD:=dG HD hg;clear hp hg;go_wp2_with fail
 refine (name_p g (r2.2.exp wBar) w11 HP.out).mono ?_;rintro e w12 ⟨rfl,hp,hg⟩;replace HBr:=kG hg HBr;replace HBt:=kG hg HBt;replace HBa:=kG hg HBa;replace HBb:=kG hg HBb;replace HUa:=h_ (HUa.out.grown hg (fun h=>by omega));replace HUb:=h_ (HUb.out.grown hg (fun h=>by omega));replace HOP:=h_ (HOP.out.grown hg (by omega));replace HP:=h_ hp;replace HD:=dG HD hg;have hsz12:=HD.out.size;clear hp hg;simp only[tokV];obtain⟨nh,hnx⟩:∃ t,t=St.nx (r2.2.exp wBar):=⟨_,rfl⟩
 rw[<-hnx];have HNnh:=h_ hnx;clear hnx;go_upto_region 7 with fail
 obtain⟨w13,knh,hw,hkk,hb,-,HBnh⟩:=newb w12 #[.int .i64 (nh.kind:Nat),.string ⟨nh.text.toArray⟩,.int .i64 (nh.line:Nat),.int .i64 (nh.col:Nat)] 97;have hgnh:g<knh:=by rw[hkk];exact HP.out.lt
 have henh:w.heap.size<=knh:=by omega
 have hr_nh:=lk_ hkk HBr;have ht_nh:=lk_ hkk HBt;have ha_nh:=lk_ hkk HBa;have hb_nh:=lk_ hkk HBb;replace HUa:=h_ (HUa.out.offk hkk);replace HUb:=h_ (HUb.out.offk hkk);rw[hw,<-hkk];replace HBr:=kB hb HBr;replace HBt:=kB hb HBt;replace HBa:=kB hb HBa;replace HBb:=kB hb HBb;replace HP:=h_ (HP.out.below hb);replace HUa:=h_ (HUa.out.below hb);replace HUb:=h_ (HUb.out.below hb);replace HOP:=h_ (HOP.out.below hb);replace HD:=dB HD hb;have hsz13:=HD.out.size;clear hw hb hkk;go_wp2_with fail
 obtain⟨w14,kq3,hw,hkk,hb,-,HBq3⟩:=newb w13 #[.string ⟨#[58,58]⟩] 9;have hgq3:g<kq3:=by rw[hkk];exact HP.out.lt
 have heq3:w.heap.size<=kq3:=by omega
 have hr_q3:=lk_ hkk HBr;have ht_q3:=lk_ hkk HBt;have ha_q3:=lk_ hkk HBa;have hb_q3:=lk_ hkk HBb;have hnh_q3:=lk_ hkk HBnh;replace HUa:=h_ (HUa.out.offk hkk);replace HUb:=h_ (HUb.out.offk hkk);rw[hw,<-hkk];replace HBr:=kB hb HBr;replace HBt:=kB hb HBt;replace HBa:=kB hb HBa;replace HBb:=kB hb HBb;replace HBnh:=kB hb HBnh;replace HP:=h_ (HP.out.below hb);replace HUa:=h_ (HUa.out.below hb);replace HUb:=h_ (HUb.out.below hb);replace HOP:=h_ (HOP.out.below hb);replace HD:=dB HD hb;have hsz14:=HD.out.size;clear hw hb hkk;refine (expect_p g (r2.2.exp wBar).name [[58,58]] kq3 w14 HP.out HBq3.out (by omega) (by decide)).mono ?_;rintro e w15 ⟨⟨v,rfl⟩,hp,hg⟩;replace HBr:=kG hg HBr;replace HBt:=kG hg HBt;replace HBa:=kG hg HBa;replace HBb:=kG hg HBb;replace HBnh:=kG hg HBnh;replace HBq3:=kG hg HBq3
 replace HUa:=h_ (HUa.out.grown hg (fun h=>by omega));replace HUb:=h_ (HUb.out.grown hg (fun h=>by omega));replace HOP:=h_ (HOP.out.grown hg (by omega));replace HP:=h_ hp;replace HD:=dG HD hg;clear hp hg;go_wp2_with fail
 refine (name_p g (((r2.2.exp wBar).name).exp wCons) w15 HP.out).mono ?_;rintro e w16 ⟨rfl,hp,hg⟩;replace HBr:=kG hg HBr;replace HBt:=kG hg HBt;replace HBa:=kG hg HBa;replace HBb:=kG hg HBb;replace HBnh:=kG hg HBnh;replace HUa:=h_ (HUa.out.grown hg (fun h=>by omega));replace HUb:=h_ (HUb.out.grown hg (fun h=>by omega));replace HOP:=h_ (HOP.out.grown hg (by omega));replace HP:=h_ hp;replace HD:=dG HD hg;have hsz16:=HD.out.size;clear hp hg;simp only[tokV];obtain⟨nt,hnx⟩:∃ t,t=St.nx (((r2.2.exp wBar).name).exp wCons):=⟨_,rfl⟩
 rw[<-hnx];have HNnt:=h_ hnx;clear hnx;go_upto_region 9 with fail
 obtain⟨w17,knt,hw,hkk,hb,-,HBnt⟩:=newb w16 #[.int .i64 (nt.kind:Nat),.string ⟨nt.text.toArray⟩,.int .i64 (nt.line:Nat),.int .i64 (nt.col:Nat)] 97;have hgnt:g<knt:=by rw[hkk];exact HP.out.lt
 have hent:w.heap.size<=knt:=by omega
 have hr_nt:=lk_ hkk HBr;have ht_nt:=lk_ hkk HBt;have ha_nt:=lk_ hkk HBa;have hb_nt:=lk_ hkk HBb;have hnh_nt:=lk_ hkk HBnh;replace HUa:=h_ (HUa.out.offk hkk);replace HUb:=h_ (HUb.out.offk hkk);rw[hw,<-hkk];replace HBr:=kB hb HBr;replace HBt:=kB hb HBt;replace HBa:=kB hb HBa;replace HBb:=kB hb HBb;replace HBnh:=kB hb HBnh;replace HP:=h_ (HP.out.below hb);replace HUa:=h_ (HUa.out.below hb);replace HUb:=h_ (HUb.out.below hb);replace HOP:=h_ (HOP.out.below hb);replace HD:=dB HD hb;have hsz17:=HD.out.size;clear hw hb hkk;go_wp2_with fail
 obtain⟨w18,kq4,hw,hkk,hb,-,HBq4⟩:=newb w17 #[.string ⟨#[45,62]⟩] 9;have hgq4:g<kq4:=by rw[hkk];exact HP.out.lt
 have heq4:w.heap.size<=kq4:=by omega
 have hr_q4:=lk_ hkk HBr;have ht_q4:=lk_ hkk HBt;have ha_q4:=lk_ hkk HBa;have hb_q4:=lk_ hkk HBb;have hnh_q4:=lk_ hkk HBnh;have hnt_q4:=lk_ hkk HBnt;replace HUa:=h_ (HUa.out.offk hkk);replace HUb:=h_ (HUb.out.offk hkk);rw[hw,<-hkk];replace HBr:=kB hb HBr;replace HBt:=kB hb HBt;replace HBa:=kB hb HBa;replace HBb:=kB hb HBb;replace HBnh:=kB hb HBnh;replace HBnt:=kB hb HBnt;replace HP:=h_ (HP.out.below hb);replace HUa:=h_ (HUa.out.below hb);replace HUb:=h_ (HUb.out.below hb);replace HOP:=h_ (HOP.out.below hb);replace HD:=dB HD hb;have hsz18:=HD.out.size;clear hw hb hkk;refine (expect_p g (((r2.2.exp wBar).name).exp wCons).name [[45,62]] kq4 w18 HP.out HBq4.out (by omega) (by decide)).mono ?_;rintro e w19 ⟨⟨v,rfl⟩,hp,hg⟩;replace HBr:=kG hg HBr;replace HBt:=kG hg HBt;replace HBa:=kG hg HBa;replace HBb:=kG hg HBb;replace HBnh:=kG hg HBnh
 replace HBnt:=kG hg HBnt;replace HBq4:=kG hg HBq4;replace HUa:=h_ (HUa.out.grown hg (fun h=>by omega));replace HUb:=h_ (HUb.out.grown hg (fun h=>by omega));replace HOP:=h_ (HOP.out.grown hg (by omega));replace HP:=h_ hp;replace HD:=dG HD hg;have hsz19:=HD.out.size;clear hp hg;go_wp2_with fail
 obtain⟨Nc,hN⟩:∃ k,k=w19.heap.size:=⟨_,rfl⟩
 have hr_Nc:kr<Nc:=by rw[hN];exact lt_of_block HBr.out
 have ht_Nc:kt<Nc:=by rw[hN];exact lt_of_block HBt.out
 have ha_Nc:ka<Nc:=by rw[hN];exact lt_of_block HBa.out
 have hb_Nc:kb<Nc:=by rw[hN];exact lt_of_block HBb.out
 have hnh_Nc:knh<Nc:=by rw[hN];exact lt_of_block HBnh.out
 have hnt_Nc:knt<Nc:=by rw[hN];exact lt_of_block HBnt.out
 have hg_Nc:g<Nc:=by rw[hN];exact HP.out.lt
 have he_Nc:w.heap.size<=Nc:=by omega
 refine (E.out g _ _ w19 HP.out HOP.out h3.out).mono ?_;rintro e w20 ⟨xc,rfl,hu,hp,hg⟩;replace HBr:=kG hg HBr;replace HBt:=kG hg HBt;replace HBa:=kG hg HBa;replace HBb:=kG hg HBb;replace HBnh:=kG hg HBnh;replace HBnt:=kG hg HBnt;replace HUa:=h_ (HUa.out.grown hg (fun h=>by omega));replace HUb:=h_ (HUb.out.grown hg (fun h=>by omega));replace HOP:=h_ (HOP.out.grown hg (by omega));replace HP:=h_ hp;replace HD:=dG HD hg;have hsz20:=HD.out.size;rw[<-hN] at hu;have HUc:=h_ (hu.mono (S':=fun b=>Nc<=b/\True) (fun b h=>⟨h,trivial⟩));clear hN hu;clear hp hg;obtain⟨ck,cnm,cot,cb,cao,cn,cq,cko,ckn,ckc,cln,ccl⟩:=xc;simp only[xv];go_upto_region 11 with fail
 obtain⟨w21,kc,hw,hkk,hb,-,HBc⟩:=newb w20 #[.int .i64 ck,.string cnm,.string cot,.bool cb,.slice cao cn cq,.slice cko ckn ckc,.int .i64 cln,.int .i64 ccl] 46;have hgc:g<kc:=by rw[hkk];exact HP.out.lt
 have hec:w.heap.size<=kc:=by omega
 have hr_c:=lk_ hkk HBr;have ht_c:=lk_ hkk HBt;have ha_c:=lk_ hkk HBa;have hb_c:=lk_ hkk HBb;have hnh_c:=lk_ hkk HBnh;have hnt_c:=lk_ hkk HBnt;replace HUa:=h_ (HUa.out.offk hkk);replace HUb:=h_ (HUb.out.offk hkk);replace HUc:=h_ (HUc.out.offk hkk);rw[hw,<-hkk];replace HBr:=kB hb HBr;replace HBt:=kB hb HBt;replace HBa:=kB hb HBa;replace HBb:=kB hb HBb;replace HBnh:=kB hb HBnh;replace HBnt:=kB hb HBnt;replace HP:=h_ (HP.out.below hb);replace HUa:=h_ (HUa.out.below hb);replace HUb:=h_ (HUb.out.below hb);replace HUc:=h_ (HUc.out.below hb);replace HOP:=h_ (HOP.out.below hb);replace HD:=dB HD hb;have hsz21:=HD.out.size;clear hw hb hkk;obtain⟨ct0,ct1,ct2,ct3⟩:=cl4 HBt.out;obtain⟨ca0,ca1,ca2,ca3,ca4,ca5,ca6,ca7⟩:=cl8 HBa.out;obtain⟨cb0,cb1,cb2,cb3,cb4,cb5,cb6,cb7⟩:=cl8 HBb.out
 obtain⟨cc0,cc1,cc2,cc3,cc4,cc5,cc6,cc7⟩:=cl8 HBc.out;go_wp2_with fail
 clear ct0 ct1 ct2 ct3 ca0 ca1 ca2 ca3 ca4 ca5 ca6 ca7 cb0 cb1 cb2 cb3 cb4 cb5 cb6 cb7 cc0 cc1 cc2 cc3 cc4 cc5 cc6 cc7;obtain⟨w22,kkk,hw,hkk,hb,-,HBkk⟩:=newb w21 #[.int .i64 ak,.string anm,.string aot,.bool ab,.slice aao an aq,.slice ako akn akc,.int .i64 aln,.int .i64 acl,.int .i64 bk,.string bnm,.string bot,.bool bb,.slice bao bn bq,.slice bko bkn bkc,.int .i64 bln,.int .i64 bcl,.int .i64 ck,.string cnm,.string cot,.bool cb,.slice cao cn cq,.slice cko ckn ckc,.int .i64 cln,.int .i64 ccl] 46;have hgkk:g<kkk:=by rw[hkk];exact HP.out.lt
 have hekk:w.heap.size<=kkk:=by omega
 have hr_kk:=lk_ hkk HBr;have ht_kk:=lk_ hkk HBt;have ha_kk:=lk_ hkk HBa;have hb_kk:=lk_ hkk HBb;have hnh_kk:=lk_ hkk HBnh;have hnt_kk:=lk_ hkk HBnt;have hc_kk:=lk_ hkk HBc;replace HUa:=h_ (HUa.out.offk hkk);replace HUb:=h_ (HUb.out.offk hkk);replace HUc:=h_ (HUc.out.offk hkk);rw[hw,<-hkk];replace HBr:=kB hb HBr;replace HBt:=kB hb HBt;replace HBa:=kB hb HBa;replace HBb:=kB hb HBb;replace HBnh:=kB hb HBnh;replace HBnt:=kB hb HBnt;replace HBc:=kB hb HBc;replace HP:=h_ (HP.out.below hb);replace HUa:=h_ (HUa.out.below hb);replace HUb:=h_ (HUb.out.below hb);replace HUc:=h_ (HUc.out.below hb);replace HOP:=h_ (HOP.out.below hb);replace HD:=dB HD hb;clear hw hb hkk;refine (part_p 27 t (some ⟨kkk,0,none⟩) 3 3 w22).mono ?_;rintro e w23 ⟨rfl,hb⟩;replace HBr:=kB hb HBr;replace HBt:=kB hb HBt;replace HBa:=kB hb HBa;replace HBb:=kB hb HBb
 replace HBnh:=kB hb HBnh;replace HBnt:=kB hb HBnt;replace HBc:=kB hb HBc;replace HBkk:=kB hb HBkk;replace HP:=h_ (HP.out.below hb);replace HUa:=h_ (HUa.out.below hb);replace HUb:=h_ (HUb.out.below hb);replace HUc:=h_ (HUc.out.below hb);replace HOP:=h_ (HOP.out.below hb);replace HD:=dB HD hb;have hsz23:=HD.out.size;clear hb;simp only[xv];go_upto_region 12 with fail
 obtain⟨w24,kv,hw,hkk,hb,-,HBv⟩:=newb w23 #[.int .i64 27,.string ⟨#[]⟩,.string ⟨#[]⟩,.bool false,.slice none 0 0,.slice (some ⟨kkk,0,none⟩) 3 3,.int .i64 (t.line:Nat),.int .i64 (t.col:Nat)] 46;have hgv:g<kv:=by rw[hkk];exact HP.out.lt
 have hev:w.heap.size<=kv:=by omega
 have hr_v:=lk_ hkk HBr;have ht_v:=lk_ hkk HBt;have ha_v:=lk_ hkk HBa;have hb_v:=lk_ hkk HBb;have hnh_v:=lk_ hkk HBnh;have hnt_v:=lk_ hkk HBnt;have hc_v:=lk_ hkk HBc;have hkk_v:=lk_ hkk HBkk;replace HUa:=h_ (HUa.out.offk hkk);replace HUb:=h_ (HUb.out.offk hkk);replace HUc:=h_ (HUc.out.offk hkk);rw[hw,<-hkk];replace HBr:=kB hb HBr;replace HBt:=kB hb HBt;replace HBa:=kB hb HBa;replace HBb:=kB hb HBb;replace HBnh:=kB hb HBnh;replace HBnt:=kB hb HBnt;replace HBc:=kB hb HBc;replace HBkk:=kB hb HBkk;replace HP:=h_ (HP.out.below hb);replace HUa:=h_ (HUa.out.below hb);replace HUb:=h_ (HUb.out.below hb);replace HUc:=h_ (HUc.out.below hb);replace HOP:=h_ (HOP.out.below hb);replace HD:=dB HD hb;clear hw hb hkk;obtain⟨cnh0,cnh1,cnh2,cnh3⟩:=cl4 HBnh.out;obtain⟨cnt0,cnt1,cnt2,cnt3⟩:=cl4 HBnt.out
 obtain⟨cv0,cv1,cv2,cv3,cv4,cv5,cv6,cv7⟩:=cl8 HBv.out;obtain⟨fcv0,fcv1,fcv2,fcv3,fcv4,fcv5,fcv6,fcv7⟩:=fr8 HBv.out
 go_region
 obtain⟨w25,hw⟩:∃ x,x=((w24.setCell ⟨kv,1,none⟩ (.string ⟨nh.text.toArray⟩)).setCell ⟨kv,2,none⟩ (.string ⟨nt.text.toArray⟩)).drew:=⟨_,rfl⟩
 have hg:w24.grownBy w25 (some kv):=by rw[hw];exact grown_drew (grown_tr (grown_set _ kv 1 _) (grown_set _ kv 2 _))
 have hv:w25.heap[kv]?=some (.cells #[.int .i64 27,.string ⟨nh.text.toArray⟩,.string ⟨nt.text.toArray⟩,.bool false,.slice none 0 0,.slice (some ⟨kkk,0,none⟩) 3 3,.int .i64 (t.line:Nat),.int .i64 (t.col:Nat)] 46 (0,0)):=by rw[hw];show ((w24.setCell ⟨kv,1,none⟩ (.string ⟨nh.text.toArray⟩)).setCell ⟨kv,2,none⟩ (.string ⟨nt.text.toArray⟩)).heap[kv]?=_;rw[heap_setCell_same _ kv 2 _ _ _ (heap_setCell_same _ kv 1 _ _ _ HBv.out)];rfl
 rw[<-hw];clear cnh0 cnh1 cnh2 cnh3 cnt0 cnt1 cnt2 cnt3 cv0 fcv0 cv1 fcv1 cv2 fcv2 cv3 fcv3 cv4 fcv4 cv5 fcv5 cv6 fcv6 cv7 fcv7;replace HP:=h_ (HP.out.store HBv.out (by decide) (by omega) hg);replace HBr:=kG hg HBr;replace HBt:=kG hg HBt;replace HBa:=kG hg HBa;replace HBb:=kG hg HBb;replace HBnh:=kG hg HBnh;replace HBnt:=kG hg HBnt;replace HBc:=kG hg HBc;replace HBkk:=kG hg HBkk;replace HUa:=h_ (HUa.out.grown hg (fun h=>by omega));replace HUb:=h_ (HUb.out.grown hg (fun h=>by omega));replace HUc:=h_ (HUc.out.grown hg (fun h=>by omega));replace HOP:=h_ (HOP.out.grown hg (by omega));replace HD:=dN HD hg (by omega);replace HBv:=h_ hv;clear hw hg hv;obtain⟨cv0,cv1,cv2,cv3,cv4,cv5,cv6,cv7⟩:=cl8 HBv.out;obtain⟨z0,z1,z2,z3,z4,z5,z6,z7⟩:=cl8 HBr.out;obtain⟨fz0,fz1,fz2,fz3,fz4,fz5,fz6,fz7⟩:=fr8 HBr.out;go_wp2_with fail
 refine bodyPost_ret (v:=.agg #[.int .i64 27,.string ⟨nh.text.toArray⟩,.string ⟨nt.text.toArray⟩,.bool false,.slice none 0 0,.slice (some ⟨kkk,0,none⟩) 3 3,.int .i64 (t.line:Nat),.int .i64 (t.col:Nat)]) (by simp[results,Tryz.results93,go_sem,z0,z1,z2,z3,z4,z5,z6,z7]) rfl ?_;obtain⟨wz,hw⟩:∃ x,x=st8 w25 kr (.int .i64 27) (.string ⟨nh.text.toArray⟩) (.string ⟨nt.text.toArray⟩) (.bool false) (.slice none 0 0) (.slice (some ⟨kkk,0,none⟩) 3 3) (.int .i64 (t.line:Nat)) (.int .i64 (t.col:Nat)):=⟨_,rfl⟩
 have hg:w25.grownBy wz (some kr):=by rw[hw];exact st8_grown _ _ _ _ _ _ _ _ _ _
 change TreePost w g _ _ _ (st8 w25 kr (.int .i64 27) (.string ⟨nh.text.toArray⟩) (.string ⟨nt.text.toArray⟩) (.bool false) (.slice none 0 0) (.slice (some ⟨kkk,0,none⟩) 3 3) (.int .i64 (t.line:Nat)) (.int .i64 (t.col:Nat)));rw[<-hw];clear cv0 cv1 cv2 cv3 cv4 cv5 cv6 cv7 z0 fz0 z1 fz1 z2 fz2 z3 fz3 z4 fz4 z5 fz5 z6 fz6 z7 fz7;replace HP:=h_ (HP.out.store HBr.out (by decide) (by omega) hg);replace HBt:=kG hg HBt;replace HBa:=kG hg HBa;replace HBb:=kG hg HBb;replace HBnh:=kG hg HBnh;replace HBnt:=kG hg HBnt;replace HBc:=kG hg HBc;replace HBkk:=kG hg HBkk;replace HBv:=kG hg HBv;replace HUa:=h_ (HUa.out.grown hg (fun h=>by omega));replace HUb:=h_ (HUb.out.grown hg (fun h=>by omega));replace HUc:=h_ (HUc.out.grown hg (fun h=>by omega));replace HOP:=h_ (HOP.out.grown hg (by omega));replace HD:=dN HD hg (by omega);have hsz25:=HD.out.size;clear hw hg
 have hu:U.node 27 (r2.2.exp wBar).nx.text (((r2.2.exp wBar).name).exp wCons).nx.text 0 s.nx.line s.nx.col [r1.1,r2.1,r3.1]=U.node 27 nh.text nt.text 0 t.line t.col [r1.1,r2.1,r3.1]:=by rw[HNt.out,HNnh.out,HNnt.out]
 rw[hu]
 exact⟨⟨27,⟨nh.text.toArray⟩,⟨nt.text.toArray⟩,false,none,0,0,some ⟨kkk,0,none⟩,3,3,(t.line:Nat),(t.col:Nat)⟩,rfl,um_node 27 nh.text nt.text t.line t.col kkk [⟨ak,anm,aot,ab,aao,an,aq,ako,akn,akc,aln,acl⟩,⟨bk,bnm,bot,bb,bao,bn,bq,bko,bkn,bkc,bln,bcl⟩,⟨ck,cnm,cot,cb,cao,cn,cq,cko,ckn,ckc,cln,ccl⟩] [r1.1,r2.1,r3.1] 3 rfl (by omega) HBkk.out rfl (all3 (HUa.out.mono (fun b h=>by have h:(((((((((((Na<=b/\True)/\b≠ka)/\b≠kq1)/\b≠kb)/\b≠kq2)/\b≠knh)/\b≠kq3)/\b≠knt)/\b≠kq4)/\b≠kc)/\b≠kkk)/\b≠kv:=h;show _<=b;omega)) (HUb.out.mono (fun b h=>by have h:(((((((((Nb<=b/\True)/\b≠kb)/\b≠kq2)/\b≠knh)/\b≠kq3)/\b≠knt)/\b≠kq4)/\b≠kc)/\b≠kkk)/\b≠kv:=h;show _<=b;omega)) (HUc.out.mono (fun b h=>by have h:(((Nc<=b/\True)/\b≠kc)/\b≠kkk)/\b≠kv:=h;show _<=b;omega))),HP.out,HD.out⟩
theorem one_p (n:Nat) (O:Hid (OneAt n)) (A:Hid (AtomAt n)):OneAt (n+1):=by
 intro g s r w hps hop hc;have HP:=h_ hps;have HOP:=h_ hop;clear hps hop;rw[cOne] at hc
 cases hu:unOf s.nx.text with
 | none =>
  rw[hu] at hc;have HU:=h_ hu;have h1:=h_ hc;clear hu hc;go_enter Tryz.func115,Tryz.ntmps115
  go_upto_region 1 with fail
  obtain⟨w1,kr,hw,hkk,hb,-,HBr⟩:=newb w #[.int .i64 0,.string ⟨#[]⟩,.string ⟨#[]⟩,.bool false,.slice none 0 0,.slice none 0 0,.int .i64 0,.int .i64 0] 46;have hgr:g<kr:=by rw[hkk];exact HP.out.lt
  have her:w.heap.size<=kr:=by omega
  rw[hw,<-hkk];replace HP:=h_ (HP.out.below hb);replace HOP:=h_ (HOP.out.below hb);have HD:=h_ (below_grown hb (some g));clear hw hb hkk;go_wp2_with fail
  refine (next_p g s w1 HP.out).mono ?_;rintro e w2 ⟨rfl,hb⟩;replace HBr:=kB hb HBr;replace HP:=h_ (HP.out.below hb);replace HOP:=h_ (HOP.out.below hb);replace HD:=dB HD hb;have hsz2:=HD.out.size;clear hb;simp only[tokV];have hf:=field_text (s.nx.kind:Nat) (s.nx.line:Nat) (s.nx.col:Nat) ⟨s.nx.text.toArray⟩ w2;go_wp2_with fail
  refine (unary_p s.nx.text _).mono ?_;rintro e wx ⟨rfl,hx⟩;obtain rfl:=hx.symm;clear hx;rw[HU.out];clear hf;simp only[Option.getD_none,Option.isSome_none];go_wp2_with fail
  obtain⟨Na,hN⟩:∃ k,k=w2.heap.size:=⟨_,rfl⟩
  have hr_Na:kr<Na:=by rw[hN];exact lt_of_block HBr.out
  have hg_Na:g<Na:=by rw[hN];exact HP.out.lt
  have he_Na:w.heap.size<=Na:=by omega
  refine (A.out g  _ _ w2 HP.out HOP.out h1.out).mono ?_;rintro e w3 ⟨xa,rfl,hu,hp,hg⟩;replace HBr:=kG hg HBr;replace HOP:=h_ (HOP.out.grown hg (by omega));replace HP:=h_ hp;replace HD:=dG HD hg;rw[<-hN] at hu;have HUa:=h_ (hu.mono (S':=fun b=>Na<=b/\True) (fun b h=>⟨h,trivial⟩));clear hN hu;clear hp hg;obtain⟨ak,anm,aot,ab,aao,an,aq,ako,akn,akc,aln,acl⟩:=xa;simp only[xv];obtain⟨z0,z1,z2,z3,z4,z5,z6,z7⟩:=cl8 HBr.out;obtain⟨fz0,fz1,fz2,fz3,fz4,fz5,fz6,fz7⟩:=fr8 HBr.out;go_wp2_with fail
  refine bodyPost_ret (v:=.agg #[.int .i64 ak,.string anm,.string aot,.bool ab,.slice aao an aq,.slice ako akn akc,.int .i64 aln,.int .i64 acl]) (by simp[results,Tryz.results115,go_sem,z0,z1,z2,z3,z4,z5,z6,z7]) rfl ?_;obtain⟨wz,hw⟩:∃ x,x=st8 w3 kr (.int .i64 ak) (.string anm) (.string aot) (.bool ab) (.slice aao an aq) (.slice ako akn akc) (.int .i64 aln) (.int .i64 acl):=⟨_,rfl⟩
  have hg:w3.grownBy wz (some kr):=by rw[hw];exact st8_grown _ _ _ _ _ _ _ _ _ _
  change TreePost w g _ _ _ (st8 w3 kr (.int .i64 ak) (.string anm) (.string aot) (.bool ab) (.slice aao an aq) (.slice ako akn akc) (.int .i64 aln) (.int .i64 acl));rw[<-hw];clear z0 fz0 z1 fz1 z2 fz2 z3 fz3 z4 fz4 z5 fz5 z6 fz6 z7 fz7;replace HP:=h_ (HP.out.store HBr.out (by decide) (by omega) hg);replace HUa:=h_ (HUa.out.grown hg (fun h=>by omega));replace HOP:=h_ (HOP.out.grown hg (by omega));replace HD:=dN HD hg (by omega);have hsz3:=HD.out.size;clear hw hg;exact⟨⟨ak,anm,aot,ab,aao,an,aq,ako,akn,akc,aln,acl⟩,rfl,(HUa.out.mono (fun b h=>by have h:Na<=b/\True:=h;show _<=b;omega)),HP.out,HD.out⟩
 | some kd =>
  rw[hu] at hc;simp only[Option.bind_eq_some_iff] at hc;obtain⟨r1,h1,hr⟩:=hc;injection hr with hr;subst hr;have HU:=h_ hu;have h1:=h_ h1;clear hu;go_enter Tryz.func115,Tryz.ntmps115
  go_upto_region 1 with fail
  obtain⟨w1,kr,hw,hkk,hb,-,HBr⟩:=newb w #[.int .i64 0,.string ⟨#[]⟩,.string ⟨#[]⟩,.bool false,.slice none 0 0,.slice none 0 0,.int .i64 0,.int .i64 0] 46;have hgr:g<kr:=by rw[hkk];exact HP.out.lt
  have her:w.heap.size<=kr:=by omega
  rw[hw,<-hkk];replace HP:=h_ (HP.out.below hb);replace HOP:=h_ (HOP.out.below hb);have HD:=h_ (below_grown hb (some g));clear hw hb hkk;go_wp2_with fail
  refine (next_p g s w1 HP.out).mono ?_;rintro e w2 ⟨rfl,hb⟩;replace HBr:=kB hb HBr;replace HP:=h_ (HP.out.below hb);replace HOP:=h_ (HOP.out.below hb);replace HD:=dB HD hb;clear hb;simp only[tokV];have hf:=field_text (s.nx.kind:Nat) (s.nx.line:Nat) (s.nx.col:Nat) ⟨s.nx.text.toArray⟩ w2;go_wp2_with fail
  refine (unary_p s.nx.text _).mono ?_;rintro e wx ⟨rfl,hx⟩;obtain rfl:=hx.symm;clear hx;rw[HU.out];clear hf;simp only[Option.getD_some,Option.isSome_some];go_wp2_with fail
  refine (take_p g s w2 HP.out).mono ?_;rintro e w3 ⟨rfl,hp,hg⟩;replace HBr:=kG hg HBr;replace HOP:=h_ (HOP.out.grown hg (by omega));replace HP:=h_ hp;replace HD:=dG HD hg;have hsz3:=HD.out.size;clear hp hg;simp only[tokV];obtain⟨t,hnx⟩:∃ t,t=St.nx s:=⟨_,rfl⟩
  rw[<-hnx];have HNt:=h_ hnx;clear hnx;go_upto_region 5 with fail
  obtain⟨w4,kt,hw,hkk,hb,-,HBt⟩:=newb w3 #[.int .i64 (t.kind:Nat),.string ⟨t.text.toArray⟩,.int .i64 (t.line:Nat),.int .i64 (t.col:Nat)] 97;have hgt:g<kt:=by rw[hkk];exact HP.out.lt
  have het:w.heap.size<=kt:=by omega
  have hr_t:=lk_ hkk HBr;rw[hw,<-hkk];replace HBr:=kB hb HBr;replace HP:=h_ (HP.out.below hb);replace HOP:=h_ (HOP.out.below hb);replace HD:=dB HD hb;have hsz4:=HD.out.size;clear hw hb hkk;go_wp2_with fail
  obtain⟨Na,hN⟩:∃ k,k=w4.heap.size:=⟨_,rfl⟩
  have hr_Na:kr<Na:=by rw[hN];exact lt_of_block HBr.out
  have ht_Na:kt<Na:=by rw[hN];exact lt_of_block HBt.out
  have hg_Na:g<Na:=by rw[hN];exact HP.out.lt
  have he_Na:w.heap.size<=Na:=by omega
  refine (O.out g _ _ w4 HP.out HOP.out h1.out).mono ?_;rintro e w5 ⟨xa,rfl,hu,hp,hg⟩;replace HBr:=kG hg HBr;replace HBt:=kG hg HBt;replace HOP:=h_ (HOP.out.grown hg (by omega));replace HP:=h_ hp;replace HD:=dG HD hg;have hsz5:=HD.out.size;rw[<-hN] at hu;have HUa:=h_ (hu.mono (S':=fun b=>Na<=b/\True) (fun b h=>⟨h,trivial⟩));clear hN hu;clear hp hg;obtain⟨ak,anm,aot,ab,aao,an,aq,ako,akn,akc,aln,acl⟩:=xa;simp only[xv];go_upto_region 6 with fail
  obtain⟨w6,ka,hw,hkk,hb,-,HBa⟩:=newb w5 #[.int .i64 ak,.string anm,.string aot,.bool ab,.slice aao an aq,.slice ako akn akc,.int .i64 aln,.int .i64 acl] 46;have hga:g<ka:=by rw[hkk];exact HP.out.lt
  have hea:w.heap.size<=ka:=by omega
  have hr_a:=lk_ hkk HBr;have ht_a:=lk_ hkk HBt;replace HUa:=h_ (HUa.out.offk hkk);rw[hw,<-hkk];replace HBr:=kB hb HBr;replace HBt:=kB hb HBt;replace HP:=h_ (HP.out.below hb);replace HUa:=h_ (HUa.out.below hb);replace HOP:=h_ (HOP.out.below hb);replace HD:=dB HD hb;have hsz6:=HD.out.size;clear hw hb hkk;obtain⟨ct0,ct1,ct2,ct3⟩:=cl4 HBt.out;obtain⟨ca0,ca1,ca2,ca3,ca4,ca5,ca6,ca7⟩:=cl8 HBa.out;go_wp2_with fail
  clear ct0 ct1 ct2 ct3 ca0 ca1 ca2 ca3 ca4 ca5 ca6 ca7;obtain⟨w7,kkk,hw,hkk,hb,-,HBkk⟩:=newb w6 #[.int .i64 ak,.string anm,.string aot,.bool ab,.slice aao an aq,.slice ako akn akc,.int .i64 aln,.int .i64 acl] 46;have hgkk:g<kkk:=by rw[hkk];exact HP.out.lt
  have hekk:w.heap.size<=kkk:=by omega
  have hr_kk:=lk_ hkk HBr;have ht_kk:=lk_ hkk HBt;have ha_kk:=lk_ hkk HBa;replace HUa:=h_ (HUa.out.offk hkk);rw[hw,<-hkk];replace HBr:=kB hb HBr;replace HBt:=kB hb HBt;replace HBa:=kB hb HBa;replace HP:=h_ (HP.out.below hb);replace HUa:=h_ (HUa.out.below hb);replace HOP:=h_ (HOP.out.below hb);replace HD:=dB HD hb;clear hw hb hkk;refine (part_p kd t (some ⟨kkk,0,none⟩) 1 1 w7).mono ?_;rintro e w8 ⟨rfl,hb⟩;replace HBr:=kB hb HBr;replace HBt:=kB hb HBt;replace HBa:=kB hb HBa;replace HBkk:=kB hb HBkk;replace HP:=h_ (HP.out.below hb);replace HUa:=h_ (HUa.out.below hb);replace HOP:=h_ (HOP.out.below hb);replace HD:=dB HD hb;clear hb;simp only[xv];obtain⟨z0,z1,z2,z3,z4,z5,z6,z7⟩:=cl8 HBr.out;obtain⟨fz0,fz1,fz2,fz3,fz4,fz5,fz6,fz7⟩:=fr8 HBr.out;go_wp2_with fail
  refine bodyPost_ret (v:=.agg #[.int .i64 (kd:Nat),.string ⟨#[]⟩,.string ⟨#[]⟩,.bool false,.slice none 0 0,.slice (some ⟨kkk,0,none⟩) 1 1,.int .i64 (t.line:Nat),.int .i64 (t.col:Nat)]) (by simp[results,Tryz.results115,go_sem,z0,z1,z2,z3,z4,z5,z6,z7]) rfl ?_;obtain⟨wz,hw⟩:∃ x,x=st8 w8 kr (.int .i64 (kd:Nat)) (.string ⟨#[]⟩) (.string ⟨#[]⟩) (.bool false) (.slice none 0 0) (.slice (some ⟨kkk,0,none⟩) 1 1) (.int .i64 (t.line:Nat)) (.int .i64 (t.col:Nat)):=⟨_,rfl⟩
  have hg:w8.grownBy wz (some kr):=by rw[hw];exact st8_grown _ _ _ _ _ _ _ _ _ _
  change TreePost w g _ _ _ (st8 w8 kr (.int .i64 (kd:Nat)) (.string ⟨#[]⟩) (.string ⟨#[]⟩) (.bool false) (.slice none 0 0) (.slice (some ⟨kkk,0,none⟩) 1 1) (.int .i64 (t.line:Nat)) (.int .i64 (t.col:Nat)));rw[<-hw];clear z0 fz0 z1 fz1 z2 fz2 z3 fz3 z4 fz4 z5 fz5 z6 fz6 z7 fz7;replace HP:=h_ (HP.out.store HBr.out (by decide) (by omega) hg);replace HBt:=kG hg HBt;replace HBa:=kG hg HBa;replace HBkk:=kG hg HBkk;replace HUa:=h_ (HUa.out.grown hg (fun h=>by omega));replace HOP:=h_ (HOP.out.grown hg (by omega));replace HD:=dN HD hg (by omega);have hsz8:=HD.out.size;clear hw hg;have hu:U.node kd [] [] 0 s.nx.line s.nx.col [r1.1]=U.node kd [] [] 0 t.line t.col [r1.1]:=by rw[HNt.out]
  unfold prt;rw[hu];exact⟨⟨(kd:Nat),⟨#[]⟩,⟨#[]⟩,false,none,0,0,some ⟨kkk,0,none⟩,1,1,(t.line:Nat),(t.col:Nat)⟩,rfl,um_node kd [] [] t.line t.col kkk [⟨ak,anm,aot,ab,aao,an,aq,ako,akn,akc,aln,acl⟩] [r1.1] 1 rfl (by omega) HBkk.out rfl (all1 (HUa.out.mono (fun b h=>by have h:((Na<=b/\True)/\b≠ka)/\b≠kkk:=h;show _<=b;omega))),HP.out,HD.out⟩
theorem expr_p (n:Nat) (LE:Hid (LetAt n)) (IE:Hid (IfAt n)) (ME:Hid (MatchAt n)) (AE:Hid (AssertAt n)) (BE:Hid (BinAt n)):ExprAt7 (n+1):=by
 intro g s r w hps hop hc;have HP:=h_ hps;have HOP:=h_ hop;clear hps hop;rw[cExpr] at hc
 by_cases q0:s.is wLet=true
 ·rw[if_pos q0] at hc;have h1:=h_ hc;have e0:(s.nx.text==[108,101,116])=true:=q0;clear hc q0;go_enter Tryz.func58,Tryz.ntmps58
  go_upto_region 1 with fail
  obtain⟨w1,kr,hw,hkk,hb,-,HBr⟩:=newb w #[.int .i64 0,.string ⟨#[]⟩,.string ⟨#[]⟩,.bool false,.slice none 0 0,.slice none 0 0,.int .i64 0,.int .i64 0] 46;have hgr:g<kr:=by rw[hkk];exact HP.out.lt
  have her:w.heap.size<=kr:=by omega
  rw[hw,<-hkk];replace HP:=h_ (HP.out.below hb);replace HOP:=h_ (HOP.out.below hb);have HD:=h_ (below_grown hb (some g));clear hw hb hkk;go_wp2_with fail
  refine (next_p g s w1 HP.out).mono ?_;rintro e w2 ⟨rfl,hb⟩;replace HBr:=kB hb HBr;replace HP:=h_ (HP.out.below hb);replace HOP:=h_ (HOP.out.below hb);replace HD:=dB HD hb;have hsz2:=HD.out.size;clear hb;simp only[tokV];have hf:=field_text (s.nx.kind:Nat) (s.nx.line:Nat) (s.nx.col:Nat) ⟨s.nx.text.toArray⟩ w2;go_wp2_with fail
  clear hf;obtain⟨Na,hN⟩:∃ k,k=w2.heap.size:=⟨_,rfl⟩
  have hr_Na:kr<Na:=by rw[hN];exact lt_of_block HBr.out
  have hg_Na:g<Na:=by rw[hN];exact HP.out.lt
  have he_Na:w.heap.size<=Na:=by omega
  refine (LE.out g  _ _ w2 HP.out HOP.out h1.out).mono ?_;rintro e w3 ⟨xa,rfl,hu,hp,hg⟩;replace HBr:=kG hg HBr;replace HOP:=h_ (HOP.out.grown hg (by omega));replace HP:=h_ hp;replace HD:=dG HD hg;rw[<-hN] at hu;have HUa:=h_ (hu.mono (S':=fun b=>Na<=b/\True) (fun b h=>⟨h,trivial⟩));clear hN hu;clear hp hg;obtain⟨ak,anm,aot,ab,aao,an,aq,ako,akn,akc,aln,acl⟩:=xa;simp only[xv];obtain⟨z0,z1,z2,z3,z4,z5,z6,z7⟩:=cl8 HBr.out;obtain⟨fz0,fz1,fz2,fz3,fz4,fz5,fz6,fz7⟩:=fr8 HBr.out;go_wp2_with fail
  refine bodyPost_ret (v:=.agg #[.int .i64 ak,.string anm,.string aot,.bool ab,.slice aao an aq,.slice ako akn akc,.int .i64 aln,.int .i64 acl]) (by simp[results,Tryz.results58,go_sem,z0,z1,z2,z3,z4,z5,z6,z7]) rfl ?_;obtain⟨wz,hw⟩:∃ x,x=st8 w3 kr (.int .i64 ak) (.string anm) (.string aot) (.bool ab) (.slice aao an aq) (.slice ako akn akc) (.int .i64 aln) (.int .i64 acl):=⟨_,rfl⟩
  have hg:w3.grownBy wz (some kr):=by rw[hw];exact st8_grown _ _ _ _ _ _ _ _ _ _
  change TreePost w g _ _ _ (st8 w3 kr (.int .i64 ak) (.string anm) (.string aot) (.bool ab) (.slice aao an aq) (.slice ako akn akc) (.int .i64 aln) (.int .i64 acl));rw[<-hw];clear z0 fz0 z1 fz1 z2 fz2 z3 fz3 z4 fz4 z5 fz5 z6 fz6 z7 fz7;replace HP:=h_ (HP.out.store HBr.out (by decide) (by omega) hg);replace HUa:=h_ (HUa.out.grown hg (fun h=>by omega));replace HOP:=h_ (HOP.out.grown hg (by omega));replace HD:=dN HD hg (by omega);have hsz3:=HD.out.size;clear hw hg;exact⟨⟨ak,anm,aot,ab,aao,an,aq,ako,akn,akc,aln,acl⟩,rfl,(HUa.out.mono (fun b h=>by have h:Na<=b/\True:=h;show _<=b;omega)),HP.out,HD.out⟩
 rw[if_neg q0] at hc;have e0:(s.nx.text==[108,101,116])=false:=by simpa [St.is] using q0
 by_cases q1:s.is wIf=true
 ·rw[if_pos q1] at hc;have h1:=h_ hc;have e1:(s.nx.text==[105,102])=true:=q1;clear hc q0 q1;go_enter Tryz.func58,Tryz.ntmps58
  go_upto_region 1 with fail
  obtain⟨w1,kr,hw,hkk,hb,-,HBr⟩:=newb w #[.int .i64 0,.string ⟨#[]⟩,.string ⟨#[]⟩,.bool false,.slice none 0 0,.slice none 0 0,.int .i64 0,.int .i64 0] 46;have hgr:g<kr:=by rw[hkk];exact HP.out.lt
  have her:w.heap.size<=kr:=by omega
  rw[hw,<-hkk];replace HP:=h_ (HP.out.below hb);replace HOP:=h_ (HOP.out.below hb);have HD:=h_ (below_grown hb (some g));clear hw hb hkk;go_wp2_with fail
  refine (next_p g s w1 HP.out).mono ?_;rintro e w2 ⟨rfl,hb⟩;replace HBr:=kB hb HBr;replace HP:=h_ (HP.out.below hb);replace HOP:=h_ (HOP.out.below hb);replace HD:=dB HD hb;have hsz2:=HD.out.size;clear hb;simp only[tokV];have hf:=field_text (s.nx.kind:Nat) (s.nx.line:Nat) (s.nx.col:Nat) ⟨s.nx.text.toArray⟩ w2;go_wp2_with fail
  clear hf;obtain⟨Na,hN⟩:∃ k,k=w2.heap.size:=⟨_,rfl⟩
  have hr_Na:kr<Na:=by rw[hN];exact lt_of_block HBr.out
  have hg_Na:g<Na:=by rw[hN];exact HP.out.lt
  have he_Na:w.heap.size<=Na:=by omega
  refine (IE.out g  _ _ w2 HP.out HOP.out h1.out).mono ?_;rintro e w3 ⟨xa,rfl,hu,hp,hg⟩;replace HBr:=kG hg HBr;replace HOP:=h_ (HOP.out.grown hg (by omega));replace HP:=h_ hp;replace HD:=dG HD hg;rw[<-hN] at hu;have HUa:=h_ (hu.mono (S':=fun b=>Na<=b/\True) (fun b h=>⟨h,trivial⟩));clear hN hu;clear hp hg;obtain⟨ak,anm,aot,ab,aao,an,aq,ako,akn,akc,aln,acl⟩:=xa;simp only[xv];obtain⟨z0,z1,z2,z3,z4,z5,z6,z7⟩:=cl8 HBr.out;obtain⟨fz0,fz1,fz2,fz3,fz4,fz5,fz6,fz7⟩:=fr8 HBr.out;go_wp2_with fail
  refine bodyPost_ret (v:=.agg #[.int .i64 ak,.string anm,.string aot,.bool ab,.slice aao an aq,.slice ako akn akc,.int .i64 aln,.int .i64 acl]) (by simp[results,Tryz.results58,go_sem,z0,z1,z2,z3,z4,z5,z6,z7]) rfl ?_;obtain⟨wz,hw⟩:∃ x,x=st8 w3 kr (.int .i64 ak) (.string anm) (.string aot) (.bool ab) (.slice aao an aq) (.slice ako akn akc) (.int .i64 aln) (.int .i64 acl):=⟨_,rfl⟩
  have hg:w3.grownBy wz (some kr):=by rw[hw];exact st8_grown _ _ _ _ _ _ _ _ _ _
  change TreePost w g _ _ _ (st8 w3 kr (.int .i64 ak) (.string anm) (.string aot) (.bool ab) (.slice aao an aq) (.slice ako akn akc) (.int .i64 aln) (.int .i64 acl));rw[<-hw];clear z0 fz0 z1 fz1 z2 fz2 z3 fz3 z4 fz4 z5 fz5 z6 fz6 z7 fz7;replace HP:=h_ (HP.out.store HBr.out (by decide) (by omega) hg);replace HUa:=h_ (HUa.out.grown hg (fun h=>by omega));replace HOP:=h_ (HOP.out.grown hg (by omega));replace HD:=dN HD hg (by omega);have hsz3:=HD.out.size;clear hw hg;exact⟨⟨ak,anm,aot,ab,aao,an,aq,ako,akn,akc,aln,acl⟩,rfl,(HUa.out.mono (fun b h=>by have h:Na<=b/\True:=h;show _<=b;omega)),HP.out,HD.out⟩
 rw[if_neg q1] at hc;have e1:(s.nx.text==[105,102])=false:=by simpa [St.is] using q1
 by_cases q2:s.is wMatch=true
 ·rw[if_pos q2] at hc;have h1:=h_ hc;have e2:(s.nx.text==[109,97,116,99,104])=true:=q2;clear hc q0 q1 q2;go_enter Tryz.func58,Tryz.ntmps58
  go_upto_region 1 with fail
  obtain⟨w1,kr,hw,hkk,hb,-,HBr⟩:=newb w #[.int .i64 0,.string ⟨#[]⟩,.string ⟨#[]⟩,.bool false,.slice none 0 0,.slice none 0 0,.int .i64 0,.int .i64 0] 46;have hgr:g<kr:=by rw[hkk];exact HP.out.lt
  have her:w.heap.size<=kr:=by omega
  rw[hw,<-hkk];replace HP:=h_ (HP.out.below hb);replace HOP:=h_ (HOP.out.below hb);have HD:=h_ (below_grown hb (some g));clear hw hb hkk;go_wp2_with fail
  refine (next_p g s w1 HP.out).mono ?_;rintro e w2 ⟨rfl,hb⟩;replace HBr:=kB hb HBr;replace HP:=h_ (HP.out.below hb);replace HOP:=h_ (HOP.out.below hb);replace HD:=dB HD hb;have hsz2:=HD.out.size;clear hb;simp only[tokV];have hf:=field_text (s.nx.kind:Nat) (s.nx.line:Nat) (s.nx.col:Nat) ⟨s.nx.text.toArray⟩ w2;go_wp2_with fail
  clear hf;obtain⟨Na,hN⟩:∃ k,k=w2.heap.size:=⟨_,rfl⟩
  have hr_Na:kr<Na:=by rw[hN];exact lt_of_block HBr.out
  have hg_Na:g<Na:=by rw[hN];exact HP.out.lt
  have he_Na:w.heap.size<=Na:=by omega
  refine (ME.out g  _ _ w2 HP.out HOP.out h1.out).mono ?_;rintro e w3 ⟨xa,rfl,hu,hp,hg⟩;replace HBr:=kG hg HBr;replace HOP:=h_ (HOP.out.grown hg (by omega));replace HP:=h_ hp;replace HD:=dG HD hg;rw[<-hN] at hu;have HUa:=h_ (hu.mono (S':=fun b=>Na<=b/\True) (fun b h=>⟨h,trivial⟩));clear hN hu;clear hp hg;obtain⟨ak,anm,aot,ab,aao,an,aq,ako,akn,akc,aln,acl⟩:=xa;simp only[xv];obtain⟨z0,z1,z2,z3,z4,z5,z6,z7⟩:=cl8 HBr.out;obtain⟨fz0,fz1,fz2,fz3,fz4,fz5,fz6,fz7⟩:=fr8 HBr.out;go_wp2_with fail
  refine bodyPost_ret (v:=.agg #[.int .i64 ak,.string anm,.string aot,.bool ab,.slice aao an aq,.slice ako akn akc,.int .i64 aln,.int .i64 acl]) (by simp[results,Tryz.results58,go_sem,z0,z1,z2,z3,z4,z5,z6,z7]) rfl ?_;obtain⟨wz,hw⟩:∃ x,x=st8 w3 kr (.int .i64 ak) (.string anm) (.string aot) (.bool ab) (.slice aao an aq) (.slice ako akn akc) (.int .i64 aln) (.int .i64 acl):=⟨_,rfl⟩
  have hg:w3.grownBy wz (some kr):=by rw[hw];exact st8_grown _ _ _ _ _ _ _ _ _ _
  change TreePost w g _ _ _ (st8 w3 kr (.int .i64 ak) (.string anm) (.string aot) (.bool ab) (.slice aao an aq) (.slice ako akn akc) (.int .i64 aln) (.int .i64 acl));rw[<-hw];clear z0 fz0 z1 fz1 z2 fz2 z3 fz3 z4 fz4 z5 fz5 z6 fz6 z7 fz7;replace HP:=h_ (HP.out.store HBr.out (by decide) (by omega) hg);replace HUa:=h_ (HUa.out.grown hg (fun h=>by omega));replace HOP:=h_ (HOP.out.grown hg (by omega));replace HD:=dN HD hg (by omega);have hsz3:=HD.out.size;clear hw hg;exact⟨⟨ak,anm,aot,ab,aao,an,aq,ako,akn,akc,aln,acl⟩,rfl,(HUa.out.mono (fun b h=>by have h:Na<=b/\True:=h;show _<=b;omega)),HP.out,HD.out⟩
 rw[if_neg q2] at hc;have e2:(s.nx.text==[109,97,116,99,104])=false:=by simpa [St.is] using q2
 by_cases q3:s.is wAssert=true
 ·rw[if_pos q3] at hc;have h1:=h_ hc;have e3:(s.nx.text==[97,115,115,101,114,116])=true:=q3;clear hc q0 q1 q2 q3;go_enter Tryz.func58,Tryz.ntmps58
  go_upto_region 1 with fail
  obtain⟨w1,kr,hw,hkk,hb,-,HBr⟩:=newb w #[.int .i64 0,.string ⟨#[]⟩,.string ⟨#[]⟩,.bool false,.slice none 0 0,.slice none 0 0,.int .i64 0,.int .i64 0] 46;have hgr:g<kr:=by rw[hkk];exact HP.out.lt
  have her:w.heap.size<=kr:=by omega
  rw[hw,<-hkk];replace HP:=h_ (HP.out.below hb);replace HOP:=h_ (HOP.out.below hb);have HD:=h_ (below_grown hb (some g));clear hw hb hkk;go_wp2_with fail
  refine (next_p g s w1 HP.out).mono ?_;rintro e w2 ⟨rfl,hb⟩;replace HBr:=kB hb HBr;replace HP:=h_ (HP.out.below hb);replace HOP:=h_ (HOP.out.below hb);replace HD:=dB HD hb;have hsz2:=HD.out.size;clear hb;simp only[tokV];have hf:=field_text (s.nx.kind:Nat) (s.nx.line:Nat) (s.nx.col:Nat) ⟨s.nx.text.toArray⟩ w2;go_wp2_with fail
  clear hf;obtain⟨Na,hN⟩:∃ k,k=w2.heap.size:=⟨_,rfl⟩
  have hr_Na:kr<Na:=by rw[hN];exact lt_of_block HBr.out
  have hg_Na:g<Na:=by rw[hN];exact HP.out.lt
  have he_Na:w.heap.size<=Na:=by omega
  refine (AE.out g  _ _ w2 HP.out HOP.out h1.out).mono ?_;rintro e w3 ⟨xa,rfl,hu,hp,hg⟩;replace HBr:=kG hg HBr;replace HOP:=h_ (HOP.out.grown hg (by omega));replace HP:=h_ hp;replace HD:=dG HD hg;rw[<-hN] at hu;have HUa:=h_ (hu.mono (S':=fun b=>Na<=b/\True) (fun b h=>⟨h,trivial⟩));clear hN hu;clear hp hg;obtain⟨ak,anm,aot,ab,aao,an,aq,ako,akn,akc,aln,acl⟩:=xa;simp only[xv];obtain⟨z0,z1,z2,z3,z4,z5,z6,z7⟩:=cl8 HBr.out;obtain⟨fz0,fz1,fz2,fz3,fz4,fz5,fz6,fz7⟩:=fr8 HBr.out;go_wp2_with fail
  refine bodyPost_ret (v:=.agg #[.int .i64 ak,.string anm,.string aot,.bool ab,.slice aao an aq,.slice ako akn akc,.int .i64 aln,.int .i64 acl]) (by simp[results,Tryz.results58,go_sem,z0,z1,z2,z3,z4,z5,z6,z7]) rfl ?_;obtain⟨wz,hw⟩:∃ x,x=st8 w3 kr (.int .i64 ak) (.string anm) (.string aot) (.bool ab) (.slice aao an aq) (.slice ako akn akc) (.int .i64 aln) (.int .i64 acl):=⟨_,rfl⟩
  have hg:w3.grownBy wz (some kr):=by rw[hw];exact st8_grown _ _ _ _ _ _ _ _ _ _
  change TreePost w g _ _ _ (st8 w3 kr (.int .i64 ak) (.string anm) (.string aot) (.bool ab) (.slice aao an aq) (.slice ako akn akc) (.int .i64 aln) (.int .i64 acl));rw[<-hw];clear z0 fz0 z1 fz1 z2 fz2 z3 fz3 z4 fz4 z5 fz5 z6 fz6 z7 fz7;replace HP:=h_ (HP.out.store HBr.out (by decide) (by omega) hg);replace HUa:=h_ (HUa.out.grown hg (fun h=>by omega));replace HOP:=h_ (HOP.out.grown hg (by omega));replace HD:=dN HD hg (by omega);have hsz3:=HD.out.size;clear hw hg;exact⟨⟨ak,anm,aot,ab,aao,an,aq,ako,akn,akc,aln,acl⟩,rfl,(HUa.out.mono (fun b h=>by have h:Na<=b/\True:=h;show _<=b;omega)),HP.out,HD.out⟩
 rw[if_neg q3] at hc;have e3:(s.nx.text==[97,115,115,101,114,116])=false:=by simpa [St.is] using q3
 have h1:=h_ hc;clear hc q0 q1 q2 q3;go_enter Tryz.func58,Tryz.ntmps58
 go_upto_region 1 with fail
 obtain⟨w1,kr,hw,hkk,hb,-,HBr⟩:=newb w #[.int .i64 0,.string ⟨#[]⟩,.string ⟨#[]⟩,.bool false,.slice none 0 0,.slice none 0 0,.int .i64 0,.int .i64 0] 46;have hgr:g<kr:=by rw[hkk];exact HP.out.lt
 have her:w.heap.size<=kr:=by omega
 rw[hw,<-hkk];replace HP:=h_ (HP.out.below hb);replace HOP:=h_ (HOP.out.below hb);have HD:=h_ (below_grown hb (some g));clear hw hb hkk;go_wp2_with fail
 refine (next_p g s w1 HP.out).mono ?_;rintro e w2 ⟨rfl,hb⟩;replace HBr:=kB hb HBr;replace HP:=h_ (HP.out.below hb);replace HOP:=h_ (HOP.out.below hb);replace HD:=dB HD hb;have hsz2:=HD.out.size;clear hb;simp only[tokV];have hf:=field_text (s.nx.kind:Nat) (s.nx.line:Nat) (s.nx.col:Nat) ⟨s.nx.text.toArray⟩ w2;go_wp2_with fail
 clear hf;obtain⟨Na,hN⟩:∃ k,k=w2.heap.size:=⟨_,rfl⟩
 have hr_Na:kr<Na:=by rw[hN];exact lt_of_block HBr.out
 have hg_Na:g<Na:=by rw[hN];exact HP.out.lt
 have he_Na:w.heap.size<=Na:=by omega
 refine (BE.out g 1 _ _ w2 HP.out HOP.out h1.out).mono ?_;rintro e w3 ⟨xa,rfl,hu,hp,hg⟩;replace HBr:=kG hg HBr;replace HOP:=h_ (HOP.out.grown hg (by omega));replace HP:=h_ hp;replace HD:=dG HD hg;rw[<-hN] at hu;have HUa:=h_ (hu.mono (S':=fun b=>Na<=b/\True) (fun b h=>⟨h,trivial⟩));clear hN hu;clear hp hg;obtain⟨ak,anm,aot,ab,aao,an,aq,ako,akn,akc,aln,acl⟩:=xa;simp only[xv];obtain⟨z0,z1,z2,z3,z4,z5,z6,z7⟩:=cl8 HBr.out;obtain⟨fz0,fz1,fz2,fz3,fz4,fz5,fz6,fz7⟩:=fr8 HBr.out;go_wp2_with fail
 refine bodyPost_ret (v:=.agg #[.int .i64 ak,.string anm,.string aot,.bool ab,.slice aao an aq,.slice ako akn akc,.int .i64 aln,.int .i64 acl]) (by simp[results,Tryz.results58,go_sem,z0,z1,z2,z3,z4,z5,z6,z7]) rfl ?_;obtain⟨wz,hw⟩:∃ x,x=st8 w3 kr (.int .i64 ak) (.string anm) (.string aot) (.bool ab) (.slice aao an aq) (.slice ako akn akc) (.int .i64 aln) (.int .i64 acl):=⟨_,rfl⟩
 have hg:w3.grownBy wz (some kr):=by rw[hw];exact st8_grown _ _ _ _ _ _ _ _ _ _
 change TreePost w g _ _ _ (st8 w3 kr (.int .i64 ak) (.string anm) (.string aot) (.bool ab) (.slice aao an aq) (.slice ako akn akc) (.int .i64 aln) (.int .i64 acl));rw[<-hw];clear z0 fz0 z1 fz1 z2 fz2 z3 fz3 z4 fz4 z5 fz5 z6 fz6 z7 fz7;replace HP:=h_ (HP.out.store HBr.out (by decide) (by omega) hg);replace HUa:=h_ (HUa.out.grown hg (fun h=>by omega));replace HOP:=h_ (HOP.out.grown hg (by omega));replace HD:=dN HD hg (by omega);have hsz3:=HD.out.size;clear hw hg;exact⟨⟨ak,anm,aot,ab,aao,an,aq,ako,akn,akc,aln,acl⟩,rfl,(HUa.out.mono (fun b h=>by have h:Na<=b/\True:=h;show _<=b;omega)),HP.out,HD.out⟩
namespace R7
structure Priv (g:Nat) (w w':World):Prop where
 os:w'.os=w.os
 tape:w'.tape=w.tape
 output:w'.output=w.output
 size:w.heap.size<=w'.heap.size
 block:∀ k,k<w.heap.size->k≠g->w'.heap[k]?=w.heap[k]?
theorem Priv.of {g:Nat} {w w':World} (h:w.grownBy w' (some g)):Priv g w w':=⟨h.os,h.tape,h.output,h.size,fun k hk hn=>h.block k hk (fun e=>hn (by injection e))⟩
abbrev Fact:=(Nat->Value)->Value->World->Prop
def mask (L:List Nat) (x:Nat->Value):Nat->Value:=fun j=>if L.contains j then x j else undef
theorem mask_in {L:List Nat} {x:Nat->Value} {j:Nat} (h:L.contains j=true):mask L x j=x j:=by
 unfold mask;rw[if_pos h]
def upd (x:Nat->Value) (k:Nat) (v:Value):Nat->Value:=fun j=>if j=k then v else x j
theorem upd_same (x:Nat->Value) (k:Nat) (v:Value):upd x k v k=v:=if_pos rfl
theorem upd_ne (x:Nat->Value) {k j:Nat} (v:Value) (h:j≠k):upd x k v j=x j:=if_neg h
theorem mask_upd {L:List Nat} {x:Nat->Value} {k:Nat} (v:Value) (h:L.contains k=false):mask L (upd x k v)=mask L x:=by
 funext j
 unfold mask
 by_cases hj:L.contains j=true
 ·rw[if_pos hj,if_pos hj,upd_ne];intro e;subst e;rw[h] at hj;cases hj
 rw[if_neg hj,if_neg hj]
def dstOf (ops:List Oper) (j:Nat):Option Tmp:=(ops[j]?).bind (·.dst)
def dep (D:List (List Nat)) (k:Nat):List Nat:=D.getD k []
def ok (ops:List Oper) (D:List (List Nat)) (m size:Nat):Bool:=
 decide (m<=ops.length) && (List.range ops.length).all fun k =>
  match ops[k]? with
  | none=>false
  | some o =>
   (o.after.all fun e=>!Region.binds .any e || decide (e.on<k)) &&
   ((dep D k).all fun j=>(o.after.any fun e=>Region.binds .any e && (e.on==j || (dep D e.on).contains j)) && ((dep D j).all fun i=>(dep D k).contains i) && decide (j<k)) &&
   (decide (k<m) || (List.range m).all fun j=>(dep D k).contains j) &&
   (match o.dst with | none=>true | some d=>decide (d<size) && (List.range k).all fun j=>dstOf ops j != some d)
def okSt (ops:List Oper) (D:List (List Nat)) (al:List Nat) (st:List (Nat × Nat)) (nq:Nat):Bool:=
 (List.range ops.length).all fun k=>match st.lookup k with
  | none=>true
  | some i=>(if i<1000 then (dep D k).contains i && al.contains i else decide (i - 1000<nq)) && (List.range ops.length).all fun j=>j==k || st.lookup j != some i
def pre (ops:List Oper) (D:List (List Nat)) (k t:Nat):Bool:=
 (List.range ops.length).all fun j=>dstOf ops j != some t || j==k || (dep D j).contains k
def fill:List Oper->(Nat->Value)->Nat->Array Value->Array Value
 | [],_,_,t=>t
 | o::l,x,k,t=>fill l x (k+1) (match o.dst with | some d=>t.setIfInBounds d (x k) | none=>t)
theorem fill_eq:∀ (l:List Oper) (x:Nat->Value) (k:Nat) (t T:Array Value),T.size=t.size ->
  (∀ j d,dstOf l j=some d->T[d]?=some (x (k+j)))->(∀ s,(∀ j,dstOf l j≠some s)->T[s]?=t[s]?)->fill l x k t=T
 | [],x,k,t,T,hs,_,hp=>by
  refine Array.ext_getElem? (fun i=>?_);rw[hp i (fun j=>by simp[dstOf])]
  rfl
 | o::l,x,k,t,T,hs,hd,hp=>by
  have hd':∀ j d,dstOf l j=some d->T[d]?=some (x (k+1+j)):=fun j d h=>by
   rw[hd (j+1) d (by simpa [dstOf] using h),Nat.add_right_comm,Nat.add_assoc]
  unfold fill
  cases ho:o.dst with
  | none =>
   refine fill_eq l x (k+1) t T hs hd' (fun s h=>hp s (fun j=>?_))
   cases j with
   | zero=>simp[dstOf,ho]
   | succ j=>simpa [dstOf] using h j
  | some d =>
   have h0:T[d]?=some (x k):=hd 0 d (by simp[dstOf,ho]);have hlt:d<t.size:=by rw[<-hs];exact (Array.getElem?_eq_some_iff.1 h0).1
   refine fill_eq l x (k+1) _ T (by simpa using hs) hd' (fun s h=>?_)
   by_cases e:d=s
   ·subst e;rw[h0]
    simp[hlt]
   rw[Array.getElem?_setIfInBounds_ne e];refine hp s (fun j=>?_)
   cases j with
   | zero=>simp[dstOf,ho,e]
   | succ j=>simpa [dstOf] using h j
def noQ:Exit->Act->World->Prop:=fun _ _ _=>False
def fact (F:List Fact) (j:Nat):Fact:=(F.reverse[j]?).getD fun _ _ _=>True
section
variable (P:Program) (ops:List Oper) (D:List (List Nat)) (al:List Nat) (st:List (Nat × Nat)) (og:Nat->Nat) (nq:Nat) (t0:Array Value) (ds:List Deferred) (w0:World)
def own (k:Nat):Option Nat:=st.lookup k
def tv (x:Nat->Value) (i:Nat):Value:=if i<1000 then x i else .pointer (some ⟨og (i - 1000),0,none⟩)
structure At (F:Nat->Fact) (k:Nat) (T:Array Value) (x:Nat->Value) (w:World):Prop where
 be:∀ B,B<=w0.heap.size->(∀ q,q<nq->B<=og q)->Below B w0 w
 bl:∀ b,b<w0.heap.size->(∀ q,q<nq->og q≠b)->w.heap[b]?=w0.heap[b]?
 od:∀ q,q<nq->(∀ k',own st k'=some (1000+q)->k'=k\/(dep D k').contains k=true)->w.heap[og q]?=w0.heap[og q]?
 tm:∀ j d,(dep D k).contains j=true->dstOf ops j=some d->T[d]?=some (x j)
 fa:∀ j,(dep D k).contains j=true->F j (mask (dep D j) x) (x j) w
 pre:∀ t,R7.pre ops D k t=true->T[t]?=t0[t]?
structure Next (V:Fact) (k:Nat) (x:Nat->Value) (w:World) (v:Value) (w':World):Prop where
 is:V x v w'
 bw:own st k=none->Below w.heap.size w w'
 pv:∀ i,own st k=some i->∃ g,tv og x i=.pointer (some ⟨g,0,none⟩)/\Priv g w w'
 al:al.contains k=true->∃ g,v=.pointer (some ⟨g,0,none⟩)/\w.heap.size<=g/\g<w'.heap.size
def Runs (F:Nat->Fact) (k:Nat) (o:Oper) (V:Fact):Prop:=
 ∀ (T:Array Value) (x:Nat->Value) (w:World),At ops D st og nq t0 w0 F k T x w ->
  ∀ K:Act->World->Prop,Hid (∀ v w',Next al st og V k x w v w'->K ((⟨T,ds⟩:Act).put o.dst v) w') ->
   if Region.wanted o (yielded ops.toArray T)=true then o.wp P ⟨T,ds⟩ w K noQ else K ((⟨T,ds⟩:Act).put o.dst undef) w
def Stays (k:Nat) (V:Fact):Prop:=(∀ x v w w',V x v w->Below w.heap.size w w'->V x v w')/\(st ≠ []->∀ x v w w' g,V x v w->(∀ i,own st k=some i->tv og x i ≠ .pointer (some ⟨g,0,none⟩))->(∃ q,q<nq/\g=og q)->Priv g w w'->V x v w')
def Left (F:Nat->Fact) (m:Nat) (x:Nat->Value) (w:World):Prop:=
 ((∀ B,B<=w0.heap.size->(∀ q,q<nq->B<=og q)->Below B w0 w)/\(∀ b,b<w0.heap.size->(∀ q,q<nq->og q≠b)->w.heap[b]?=w0.heap[b]?) )/\(∀ j,j<m->F j (mask (dep D j) x) (x j) w) /\
 (∀ i,al.contains i=true->i<m->∃ g,x i=.pointer (some ⟨g,0,none⟩)/\w0.heap.size<=g/\g<w.heap.size) /\
 (∀ i j,al.contains i=true->al.contains j=true->i<m->j<m->i≠j->x i≠x j)
def Chain (m:Nat) (G:(Nat->Value)->World->Prop):List Oper->Nat->List Fact->Prop
 | [],k,F=>k=m/\∀ x w,Left D al og nq w0 (fact F) m x w->G x w
 | o::rest,k,F=>(k=m/\∀ x w,Left D al og nq w0 (fact F) m x w->G x w) \/
  ∃ V,Stays st og nq k V/\Runs P ops D al st og nq t0 ds w0 (fact F) k o V/\Chain m G rest (k+1) (V::F)
variable {P ops D al st og nq t0 ds w0}
theorem Chain.done {m:Nat} {G:(Nat->Value)->World->Prop} {l:List Oper} {F:List Fact} (h:∀ x w,Left D al og nq w0 (fact F) m x w->G x w):Chain P ops D al st og nq t0 ds w0 m G l m F:=by
 cases l with
 | nil=>exact⟨rfl,h⟩
 | cons o l=>exact Or.inl ⟨rfl,h⟩
theorem Chain.step {m k:Nat} {G:(Nat->Value)->World->Prop} {o:Oper} {l:List Oper} {F:List Fact} (V:Fact) (hs:Stays st og nq k V) (hr:Runs P ops D al st og nq t0 ds w0 (fact F) k o V)
  (h:Chain P ops D al st og nq t0 ds w0 m G l (k+1) (V::F)):Chain P ops D al st og nq t0 ds w0 m G (o::l) k F:=Or.inr ⟨V,hs,hr,h⟩
def plain (al:List Nat) (st:List (Nat × Nat)) (k:Nat):Bool:=!al.contains k && (own st k).isNone
theorem Next.plain {V:Fact} {k:Nat} {x:Nat->Value} {w:World} {v:Value} {w':World} (hp:plain al st k=true) (h:V x v w') (hb:Below w.heap.size w w'):Next al st og V k x w v w':=by
 unfold R7.plain at hp;simp only[Bool.and_eq_true,Bool.not_eq_true',Option.isNone_iff_eq_none] at hp;exact⟨h,fun _=>hb,fun i hi=>(by rw[hp.2] at hi;cases hi),fun e=>(by rw[hp.1] at e;cases e)⟩
theorem Chain.det {m k:Nat} {G:(Nat->Value)->World->Prop} {o:Oper} {l:List Oper} {F:List Fact} (f:(Nat->Value)->Value) (hp:plain al st k=true)
  (hr:∀ (T:Array Value) (x:Nat->Value) (w:World),At ops D st og nq t0 w0 (fact F) k T x w->Region.wanted o (yielded ops.toArray T)=true/\(execOp (Act.eval ⟨T,ds⟩) o).run P w=.ok (.value (f x)) w)
  (h:Chain P ops D al st og nq t0 ds w0 m G l (k+1) ((fun x v _=>v=f x)::F)):Chain P ops D al st og nq t0 ds w0 m G (o::l) k F:=by
 refine Chain.step (fun x v _=>v=f x) ⟨fun _ _ _ _ e _=>e,fun _ _ _ _ _ _ e _ _ _=>e⟩ (fun T x w hA K hK=>?_) h;obtain⟨hw,he⟩:=hr T x w hA;rw[if_pos hw];unfold Oper.wp;rw[he];exact hK.out _ _ (Next.plain hp rfl (Below.refl _ _))
theorem Chain.call {m k:Nat} {G:(Nat->Value)->World->Prop} {o:Oper} {l:List Oper} {F:List Fact} (V:Fact) (hs:∀ x v w w',V x v w->Below w.heap.size w w'->V x v w') (hs2:∀ x v w w' g,V x v w->(∃ q,q<nq/\g=og q)->Priv g w w'->V x v w') (hp:plain al st k=true)
  (hr:∀ (T:Array Value) (x:Nat->Value) (w:World),At ops D st og nq t0 w0 (fact F) k T x w->Region.wanted o (yielded ops.toArray T)=true /\
   ∀ K:Act->World->Prop,Hid (∀ v w',V x v w'->Below w.heap.size w w'->K ((⟨T,ds⟩:Act).put o.dst v) w')->o.wp P ⟨T,ds⟩ w K noQ)
  (h:Chain P ops D al st og nq t0 ds w0 m G l (k+1) (V::F)):Chain P ops D al st og nq t0 ds w0 m G (o::l) k F:=by
 refine Chain.step V ⟨hs,fun _ x v w w' g h _ hq hp=>hs2 x v w w' g h hq hp⟩ (fun T x w hA K hK=>?_) h;obtain⟨hw,he⟩:=hr T x w hA;rw[if_pos hw];exact he K fun v w' hv hb=>hK.out v w' (Next.plain hp hv hb)
theorem own_one {st:List (Nat × Nat)} {i k:Nat} (h:(st.all fun p=>p.2 != i || p.1==k)=true):∀ k',own st k'=some i->k'=k:=by
 intro k' hk;unfold own at hk;rw[List.all_eq_true] at h
 have:∀ (l:List (Nat × Nat)),(∀ p ∈ l,(p.2 != i || p.1==k)=true)->l.lookup k'=some i->k'=k:=by
  intro l
  induction l with
  | nil=>intro _ h;cases h
  | cons p l ih =>
   intro hp hl;obtain⟨a,b⟩:=p;rw[List.lookup_cons] at hl
   split at hl
   ·rename_i he
    injection hl with hl;have h1:=hp (a,b) (List.mem_cons_self ..);simp only[Bool.or_eq_true,bne_iff_ne,ne_eq,beq_iff_eq] at h1;rw[beq_iff_eq] at he;rcases h1 with h1 | h1
    ·exact absurd hl h1
    exact he.trans h1
   exact ih (fun p hp'=>hp p (List.mem_cons_of_mem _ hp')) hl
 exact this st h hk
theorem Chain.storeOld {m k:Nat} {G:(Nat->Value)->World->Prop} {o:Oper} {l:List Oper} {F:List Fact} (q j:Nat) (T:TypeId) (ho:own st k=some (1000+q)) (hal:al.contains k=false) (hq:q<nq)
  (hone:∀ k',own st k'=some (1000+q)->k'=k)
  (hr:∀ (Ts:Array Value) (x:Nat->Value) (w:World),At ops D st og nq t0 w0 (fact F) k Ts x w->w.heap[og q]?=w0.heap[og q]? -> Region.wanted o (yielded ops.toArray Ts)=true /\
   ∀ K:Act->World->Prop,Hid (∀ w' c',x j=.agg c'->w'.heap[og q]?=some (.cells c' T (0,0))->Priv (og q) w w'->K ((⟨Ts,ds⟩:Act).put o.dst undef) w')->o.wp P ⟨Ts,ds⟩ w K noQ)
  (h:Chain P ops D al st og nq t0 ds w0 m G l (k+1) ((fun x _ w=>∃ c,x j=.agg c/\w.heap[og q]?=some (.cells c T (0,0)))::F)):Chain P ops D al st og nq t0 ds w0 m G (o::l) k F:=by
 have htv:∀ x,tv og x (1000+q)=.pointer (some ⟨og q,0,none⟩):=fun x=>by unfold tv;rw[if_neg (by omega),Nat.add_sub_cancel_left]
 refine Chain.step _ ⟨fun x v w w' hv hb=>?_,fun _ x v w w' g' hv hne _ hp=>?_⟩ (fun Ts x w hA K hK=>?_) h
 ·obtain⟨c,h2,hg⟩:=hv;exact⟨c,h2,by rw[hb.block _ (Array.getElem?_eq_some_iff.1 hg).1];exact hg⟩
 ·obtain⟨c,h2,hg⟩:=hv;refine⟨c,h2,?_⟩;rw[hp.block _ (Array.getElem?_eq_some_iff.1 hg).1 (fun e=>hne _ ho (by rw[htv,e]))];exact hg
 obtain⟨hw,he⟩:=hr Ts x w hA (hA.od q hq fun k' hk'=>Or.inl (hone k' hk'));rw[if_pos hw];exact he K fun w' c' hj hB hP=>hK.out _ _ ⟨⟨c',hj,hB⟩,fun e=>(by rw[ho] at e;cases e),fun i' hi'=>(by rw[ho] at hi';injection hi' with e;subst e;exact⟨_,htv x,hP⟩),fun e=>(by rw[hal] at e;cases e)⟩
theorem Chain.callOld {m k:Nat} {G:(Nat->Value)->World->Prop} {o:Oper} {l:List Oper} {F:List Fact} (q:Nat) (V:Fact) (hs:∀ x v w w',V x v w->Below w.heap.size w w'->V x v w') (hs2:∀ x v w w' q',V x v w->q'<nq->og q'≠og q->Priv (og q') w w'->V x v w') (ho:own st k=some (1000+q)) (hal:al.contains k=false) (hq:q<nq)
  (hone:∀ k',own st k'=some (1000+q)->k'=k)
  (hr:∀ (Ts:Array Value) (x:Nat->Value) (w:World),At ops D st og nq t0 w0 (fact F) k Ts x w->w.heap[og q]?=w0.heap[og q]? -> Region.wanted o (yielded ops.toArray Ts)=true /\
   ∀ K:Act->World->Prop,Hid (∀ v w',V x v w'->Priv (og q) w w'->K ((⟨Ts,ds⟩:Act).put o.dst v) w')->o.wp P ⟨Ts,ds⟩ w K noQ)
  (h:Chain P ops D al st og nq t0 ds w0 m G l (k+1) (V::F)):Chain P ops D al st og nq t0 ds w0 m G (o::l) k F:=by
 have htv:∀ x,tv og x (1000+q)=.pointer (some ⟨og q,0,none⟩):=fun x=>by unfold tv;rw[if_neg (by omega),Nat.add_sub_cancel_left]
 refine Chain.step V ⟨hs,fun _ x v w w' g' hv hne hq' hp=>?_⟩ (fun Ts x w hA K hK=>?_) h
 ·obtain⟨q',h1,rfl⟩:=hq';exact hs2 x v w w' q' hv h1 (fun e=>hne _ ho (by rw[htv,e])) hp
 obtain⟨hw,he⟩:=hr Ts x w hA (hA.od q hq fun k' hk'=>Or.inl (hone k' hk'));rw[if_pos hw];exact he K fun v w' hV hP=>hK.out _ _ ⟨hV,fun e=>(by rw[ho] at e;cases e),fun i' hi'=>(by rw[ho] at hi';injection hi' with e;subst e;exact⟨_,htv x,hP⟩),fun e=>(by rw[hal] at e;cases e)⟩
theorem fact_lt {V:Fact} {F:List Fact} {j:Nat} (h:j<F.length):fact (V::F) j=fact F j:=by
 unfold fact;rw[List.reverse_cons,List.getElem?_append_left (by simpa using h)]
theorem fact_len {V:Fact} {F:List Fact}:fact (V::F) F.length=V:=by
 unfold fact;rw[List.reverse_cons,List.getElem?_append_right (by simp)]
 simp
theorem At.congr {F F':Nat->Fact} {k:Nat} {T:Array Value} {x:Nat->Value} {w:World} (h:At ops D st og nq t0 w0 F k T x w) (e:∀ j,(dep D k).contains j=true->F j=F' j):At ops D st og nq t0 w0 F' k T x w:=
 ⟨h.be,h.bl,h.od,h.tm,fun j hj=>by rw[<-e j hj];exact h.fa j hj,h.pre⟩
theorem Chain.all {m:Nat} {G:(Nat->Value)->World->Prop} (hlt:∀ k j,k<m->(dep D k).contains j=true->j<k):∀ (l:List Oper) (k:Nat) (F:List Fact),F.length=k->k<=m->(∀ j,l[j]?=ops[k+j]?) ->
  Chain P ops D al st og nq t0 ds w0 m G l k F->∃ H:Nat->Fact,(∀ j,j<k->H j=fact F j) /\
   (∀ j,k<=j->j<m->Stays st og nq j (H j)/\∃ o,ops[j]?=some o/\Runs P ops D al st og nq t0 ds w0 H j o (H j))/\∀ x w,Left D al og nq w0 H m x w->G x w:=by
 intro l
 induction l with
 | nil=>intro k F hF hk hl h;exact⟨fact F,fun _ _=>rfl,fun j h1 h2=>by have:=h.1;omega,h.2⟩
 | cons o l ih =>
  intro k F hF hk hl h;rcases h with ⟨rfl,h⟩ | ⟨V,hs,hr,h⟩
  ·exact⟨fact F,fun _ _=>rfl,fun j h1 h2=>by omega,h⟩
  by_cases hkm:k<m
  ·obtain⟨H,h1,h2,h3⟩:=ih (k+1) (V::F) (by simp[hF]) hkm (fun j=>by have:=hl (j+1);simp at this;rw[this,Nat.add_right_comm,Nat.add_assoc]) h;refine⟨H,fun j hj=>by rw[h1 j (by omega),fact_lt (by omega)],fun j hj hjm=>?_,h3⟩;rcases Nat.lt_or_ge k j with hkj | hkj
   ·exact h2 j hkj hjm
   obtain rfl:j=k:=by omega
   have hH:H j=V:=by rw[h1 j (by omega),<-hF,fact_len]
   refine⟨by rw[hH];exact hs,o,by have:=hl 0;simpa using this.symm,?_⟩;rw[hH];intro T x w hA;exact hr T x w (hA.congr (fun i hi=>by have:=hlt j i hkm hi;rw[h1 i (by omega),fact_lt (by omega)]))
  obtain rfl:k=m:=by omega
  have hl0:∀ (l:List Oper) (k':Nat) (F:List Fact),k<k'->¬ Chain P ops D al st og nq t0 ds w0 k G l k' F:=by
   intro l
   induction l with
   | nil=>intro k' F hk' h;have:=h.1;omega
   | cons o l ih=>intro k' F hk' h;rcases h with ⟨e,_⟩ | ⟨_,_,_,h⟩;(omega);exact ih _ _ (by omega) h
  exact absurd h (hl0 _ _ _ (by omega))
theorem Oper.wp_noQ {o:Oper} {a:Act} {w:World} {K:Act->World->Prop} {Q:Exit->Act->World->Prop} (h:o.wp P a w K noQ):o.wp P a w K Q:=by
 unfold Oper.wp at *;generalize (execOp a.eval o).run P w=r at *
 cases r with
 | ok n w' =>
  cases n<;>simp only[Oper.upon] at h ⊢ <;>
   first
    | exact h
    | exact Calls.mono h (fun e w'' he=>by
      cases e with
      | returned v=>exact he
      | panicked c=>exact False.elim he
      | outgrown=>obtain⟨_,_,hh⟩:=he;exact False.elim hh)
 | halt x w'=>cases x<;>simp only[Oper.upon] at h ⊢<;>exact False.elim h
structure Inv (H:Nat->Fact) (m:Nat) (listed:Array Bool) (a:Act) (w:World) (x:Nat->Value):Prop where
 tm:∀ j d,listed.getD j false=true->dstOf ops j=some d->a.tmps[d]?=some (x j)
 pre:∀ t,(∀ j,listed.getD j false=true->dstOf ops j≠some t)->a.tmps[t]?=t0[t]?
 sz:a.tmps.size=t0.size
 df:a.defers=ds
 be:∀ B,B<=w0.heap.size->(∀ q,q<nq->B<=og q)->Below B w0 w
 bl:∀ b,b<w0.heap.size->(∀ q,q<nq->og q≠b)->w.heap[b]?=w0.heap[b]?
 od:∀ q,q<nq->(∀ k',listed.getD k' false=true->own st k'≠some (1000+q))->w.heap[og q]?=w0.heap[og q]?
 sw:w0.heap.size<=w.heap.size
 ls:listed.size=ops.length
 dn:∀ j,listed.getD j false=true->∀ i,(dep D j).contains i=true->listed.getD i false=true
 lt:∀ j,listed.getD j false=true->j<m
 fa:∀ j,listed.getD j false=true->H j (mask (dep D j) x) (x j) w
 pt:∀ i,al.contains i=true->listed.getD i false=true->∃ g,x i=.pointer (some ⟨g,0,none⟩)/\w0.heap.size<=g/\g<w.heap.size
 ne:∀ i j,al.contains i=true->al.contains j=true->listed.getD i false=true->listed.getD j false=true->i≠j->x i≠x j
section
variable {m size:Nat} (hok:ok ops D m size=true)
include hok
theorem ok_len:m<=ops.length:=by
 unfold ok at hok;simp only[Bool.and_eq_true,decide_eq_true_eq] at hok;exact hok.1
theorem ok_at {k:Nat} {o:Oper} (ho:ops[k]?=some o) :
  (∀ e ∈ o.after,Region.binds .any e=true->e.on<k) /\
  (∀ j,(dep D k).contains j=true->(∃ e ∈ o.after,Region.binds .any e=true/\(e.on=j\/(dep D e.on).contains j=true))/\(∀ i,(dep D j).contains i=true->(dep D k).contains i=true)/\j<k) /\
  (k<m\/∀ j,j<m->(dep D k).contains j=true) /\
  (∀ d,o.dst=some d->d<size/\∀ j,j<k->dstOf ops j≠some d):=by
 unfold ok at hok;simp only[Bool.and_eq_true,decide_eq_true_eq,List.all_eq_true,List.mem_range] at hok;have h:=hok.2 k (List.getElem?_eq_some_iff.1 ho).1;rw[ho] at h;simp only[Bool.and_eq_true,Bool.or_eq_true,Bool.not_eq_true',decide_eq_true_eq,List.all_eq_true,List.mem_range,Array.all_eq_true_iff_forall_mem] at h;obtain⟨⟨⟨h1,h2⟩,h3⟩,h4⟩:=h;refine⟨fun e he hb=>(h1 e he).resolve_left (by rw[hb];exact Bool.noConfusion),fun j hj=>?_,h3,fun d hd=>?_⟩
 ·obtain⟨⟨h5,h6⟩,h7⟩:=h2 j (by simpa using hj);obtain⟨e,he,hb⟩:=Array.any_eq_true'.1 h5;simp only[Bool.and_eq_true,Bool.or_eq_true,beq_iff_eq] at hb;exact⟨⟨e,he,hb.1,hb.2⟩,fun i hi=>h6 i (by simpa using hi),h7⟩
 rw[hd] at h4;simp only[Bool.and_eq_true,decide_eq_true_eq,List.all_eq_true,List.mem_range,bne_iff_ne,ne_eq] at h4;exact h4
theorem ok_lt {k j:Nat} (h:(dep D k).contains j=true) (hk:k<ops.length):j<k:=((ok_at hok (List.getElem?_eq_getElem hk)).2.1 j h).2.2
end
theorem okSt_at (h:okSt ops D al st nq=true) {k:Nat} (hk:k<ops.length):∀ i,own st k=some i->(i<1000->(dep D k).contains i=true/\al.contains i=true)/\(¬ i<1000->i - 1000<nq)/\∀ j,j<ops.length->j≠k->own st j≠some i:=by
 intro i hi;unfold okSt at h;rw[List.all_eq_true] at h;have h1:=h k (List.mem_range.2 hk);unfold own at hi;rw[hi] at h1;simp only[Bool.and_eq_true,List.all_eq_true,List.mem_range,Bool.or_eq_true,beq_iff_eq,bne_iff_ne,ne_eq] at h1;refine⟨fun h2=>?_,fun h2=>?_,fun j hj hjk=>(h1.2 j hj).resolve_left hjk⟩
 ·have h3:=h1.1;rw[if_pos h2] at h3
  simpa using h3
 have h3:=h1.1;rw[if_neg h2] at h3
 simpa using h3
theorem tv_mask {L:List Nat} {x:Nat->Value} {i:Nat} (h:i<1000->L.contains i=true):tv og (mask L x) i=tv og x i:=by
 unfold tv
 split
 ·rename_i hi;exact mask_in (h hi)
 rfl
theorem getD_set {l:Array Bool} {i j:Nat} (h:i<l.size):(l.setIfInBounds i true).getD j false=(decide (j=i) || l.getD j false):=by
 by_cases e:i=j
 ·subst e;simp[h]
 rw[getD_set_ne false e]
 simp[show ¬ j=i from fun x=>e x.symm]
theorem count_false {l:List Bool} {i:Nat} (h:l[i]?=some false):(l.set i true).count false+1=l.count false:=by
 obtain⟨hi,hv⟩:=List.getElem?_eq_some_iff.1 h;rw[List.count_set hi,hv];have:0<l.count false:=List.count_pos_iff.2 (hv ▸ List.getElem_mem hi)
 simp
 omega
section
variable {m:Nat} {Q:Exit->Act->World->Prop} {H:Nat->Fact}
theorem Inv.step (hok:ok ops D m t0.size=true) (hoks:okSt ops D al st nq=true) (h1000:∀ k i,own st k=some i->¬ i<1000) (hog:∀ q,q<nq->og q<w0.heap.size) (hod:∀ q q',q<nq->q'<nq->q≠q'->og q≠og q') (hst:∀ j,j<m->Stays st og nq j (H j)) {listed:Array Bool} {a:Act} {w:World} {x:Nat->Value} (I:Inv (ops:=ops) (D:=D) (al:=al) (st:=st) (og:=og) (nq:=nq) (t0:=t0) (ds:=ds) (w0:=w0) H m listed a w x)
  {k:Nat} {o:Oper} (ho:ops[k]?=some o) (hkm:k<m) (hun:listed.getD k false=false) (hdep:∀ j,(dep D k).contains j=true->listed.getD j false=true) {v:Value} {w':World}
  (hN:Next al st og (H k) k (mask (dep D k) x) w v w'):Inv (ops:=ops) (D:=D) (al:=al) (st:=st) (og:=og) (nq:=nq) (t0:=t0) (ds:=ds) (w0:=w0) H m (listed.setIfInBounds k true) (a.put o.dst v) w' (upd x k v):=by
 have hkl:k<ops.length:=(List.getElem?_eq_some_iff.1 ho).1;have hks:k<listed.size:=by rw[I.ls];exact hkl
 obtain⟨c1,c2,c3,c4⟩:=ok_at hok ho;have hdk:dstOf ops k=o.dst:=by simp[dstOf,ho]
 have hsp:=okSt_at hoks hkl
 -- where operation k stores
 have hpv:∀ i,own st k=some i->∃ g,tv og x i=.pointer (some ⟨g,0,none⟩)/\Priv g w w'/\((i<1000/\w0.heap.size<=g)\/(¬ i<1000/\i - 1000<nq/\g=og (i - 1000))):=by
  intro i ho';obtain⟨g,hg,hp⟩:=hN.pv i ho';obtain⟨h1,h2,h3⟩:=hsp i ho';rw[tv_mask (fun h=>(h1 h).1)] at hg;refine⟨g,hg,hp,?_⟩
  by_cases hi:i<1000
  ·obtain⟨g',e,h4,h5⟩:=I.pt i (h1 hi).2 (hdep i (h1 hi).1);unfold tv at hg;rw[if_pos hi] at hg;rw[hg] at e;injection e with e;injection e with e;injection e with e;subst e;exact Or.inl ⟨hi,h4⟩
  unfold tv at hg;rw[if_neg hi] at hg;injection hg with e;injection e with e;injection e with e;exact Or.inr ⟨hi,h2 hi,e.symm⟩
 have hsw:w.heap.size<=w'.heap.size:=by
  cases ho':own st k with
  | none=>exact (hN.bw ho').size
  | some i=>obtain⟨g,hg,hp,_⟩:=hpv i ho';exact hp.size
 have hbe:∀ B,B<=w0.heap.size->(∀ q,q<nq->B<=og q)->Below B w0 w':=fun B hB hq=>by
  refine (I.be B hB hq).trans ?_
  cases ho':own st k with
  | none=>exact (hN.bw ho').mono (by have:=I.sw;omega)
  | some i =>
   obtain⟨g,hg,hp,hc⟩:=hpv i ho';refine⟨hp.os,hp.tape,hp.output,hsw,fun q hqB=>hp.block q (by have:=I.sw;omega) ?_⟩;rcases hc with ⟨_,hc⟩ | ⟨_,h1,hc⟩
   ·omega
   have:=hq _ h1;omega
 have hbl:∀ b,b<w0.heap.size->(∀ q,q<nq->og q≠b)->w'.heap[b]?=w0.heap[b]?:=fun b hb hq=>by
  rw[<-I.bl b hb hq]
  cases ho':own st k with
  | none=>exact (hN.bw ho').block b (by have:=I.sw;omega)
  | some i =>
   obtain⟨g,hg,hp,hc⟩:=hpv i ho';refine hp.block b (by have:=I.sw;omega) ?_;rcases hc with ⟨_,hc⟩ | ⟨_,h1,hc⟩
   ·omega
   rw[hc];exact fun e=>hq _ h1 e.symm
 have hne:∀ j,listed.getD j false=true->j≠k:=fun j hj e=>by subst e;rw[hun] at hj;cases hj
 have hset:∀ j,(listed.setIfInBounds k true).getD j false=true->j=k\/listed.getD j false=true:=fun j hj=>by
  rw[getD_set hks] at hj;simpa using hj
 have hput:(a.put o.dst v).tmps=match o.dst with | some d=>a.tmps.setIfInBounds d v | none=>a.tmps:=by cases o.dst<;>rfl
 have hself:(dep D k).contains k=false:=by
  cases h:(dep D k).contains k with
  | false=>rfl
  | true=>have:=(c2 k h).2.2;omega
 -- two operations write two slots
 have hds:∀ j d,dstOf ops j=some d->o.dst=some d->j=k:=fun j d h1 h2=>by
  rcases Nat.lt_trichotomy j k with h | h | h
  ·exact absurd h1 ((c4 d h2).2 j h)
  ·exact h
  cases hoj:ops[j]? with
  | none=>simp[dstOf,hoj] at h1
  | some oj=>exact absurd (hdk.trans h2) (((ok_at hok hoj).2.2.2 d (by simpa [dstOf,hoj] using h1)).2 k h)
 refine⟨fun j d hj hd=>?_,fun t ht=>?_,?_,?_,hbe,hbl,fun q hq hl=>?_,Nat.le_trans I.sw hsw,by simpa using I.ls,fun j hj i hi=>?_,fun j hj=>?_,fun j hj=>?_,fun i hi hl=>?_,fun i j hi hj hli hlj hij=>?_⟩
 ·rw[hput];rcases hset j hj with rfl | hj'
  ·rw[hdk] at hd;rw[hd,upd_same];have:=(c4 d hd).1;rw[<-I.sz] at this
   simp[this]
  rw[upd_ne _ _ (hne j hj')]
  cases hod:o.dst with
  | none=>exact I.tm j d hj' hd
  | some e =>
   by_cases hde:e=d
   ·subst hde;exact absurd (hds j e hd hod) (hne j hj')
   simp only[];rw[Array.getElem?_setIfInBounds_ne hde];exact I.tm j d hj' hd
 ·rw[hput];have h1:a.tmps[t]?=t0[t]?:=I.pre t fun j hj=>ht j (by rw[getD_set hks];simp only[hj,Bool.or_true])
  cases hod:o.dst with
  | none=>exact h1
  | some e =>
   have:=ht k (by rw[getD_set hks];simp);rw[hdk,hod] at this;simp only[];rw[Array.getElem?_setIfInBounds_ne (fun h=>this (by rw[h]))];exact h1
 ·rw[hput,<-I.sz];cases o.dst<;>simp
 ·rw[<-I.df];cases o.dst<;>rfl
 ·rw[<-I.od q hq fun k' hk'=>hl k' (by rw[getD_set hks];simp only[hk',Bool.or_true])];have hlt:=hog q hq
  cases ho':own st k with
  | none=>exact (hN.bw ho').block _ (by have:=I.sw;omega)
  | some i =>
   obtain⟨g,hg,hp,hc⟩:=hpv i ho';refine hp.block _ (by have:=I.sw;omega) ?_;rcases hc with ⟨_,hc⟩ | ⟨hi,h1,hc⟩
   ·omega
   rw[hc];refine hod q _ hq h1 (fun e=>hl k (by rw[getD_set hks];simp) ?_);rw[ho',e];congr 1;omega
 ·rw[getD_set hks];rcases hset j hj with rfl | hj'
  ·simp only[hdep i hi,Bool.or_true]
  simp only[I.dn j hj' i hi,Bool.or_true]
 ·rcases hset j hj with rfl | hj'
  ·exact hkm
  exact I.lt j hj'
 ·rcases hset j hj with rfl | hj'
  ·rw[mask_upd _ hself,upd_same];exact hN.is
  rw[upd_ne _ _ (hne j hj'),mask_upd]
  ·cases ho':own st k with
   | none=>exact (hst j (I.lt j hj')).1 _ _ _ _ (I.fa j hj') (hN.bw ho')
   | some i =>
    obtain⟨g,hg,hp,hc⟩:=hpv i ho';obtain⟨h1,h2,h3⟩:=hsp i ho';refine (hst j (I.lt j hj')).2 (fun e=>by subst e;cases ho') _ _ _ _ g (I.fa j hj') (fun i' hi'=>?_) (by rcases hc with ⟨hx,_⟩ | ⟨_,hx,hy⟩;exact absurd hx (h1000 k i ho');exact⟨_,hx,hy⟩) hp;have hjl:j<ops.length:=by have:=I.lt j hj';have:=ok_len hok;omega
    obtain⟨h4,h5,h6⟩:=okSt_at hoks hjl i' hi';have hii:i'≠i:=fun e=>by subst e;exact h3 j hjl (hne j hj') hi'
    rw[tv_mask (fun h=>(h4 h).1)]
    by_cases hi1:i'<1000
    ·obtain⟨g',e',q1,q2⟩:=I.pt i' (h4 hi1).2 (I.dn j hj' i' (h4 hi1).1);have ht:tv og x i'=x i':=if_pos hi1;rw[ht];rcases hc with ⟨hi2,hc⟩ | ⟨hi2,hq2,hc⟩
     ·have ht2:tv og x i=x i:=if_pos hi2;rw[ht2] at hg;exact fun e=>I.ne i' i (h4 hi1).2 (h1 hi2).2 (I.dn j hj' i' (h4 hi1).1) (hdep i (h1 hi2).1) hii (e.trans hg.symm)
     intro e;rw[e'] at e;injection e with e;injection e with e;injection e with e;have:=hog _ hq2;omega
    have ht:tv og x i'=.pointer (some ⟨og (i' - 1000),0,none⟩):=if_neg hi1;rw[ht];intro e;injection e with e;injection e with e;injection e with e;have hl':=hog _ (h5 hi1);rcases hc with ⟨hi2,hc⟩ | ⟨hi2,hq2,hc⟩
    ·omega
    exact hod _ _ (h5 hi1) hq2 (by omega) (e.trans hc)
  cases h:(dep D j).contains k with
  | false=>rfl
  | true=>have:=I.dn j hj' k h;rw[hun] at this;cases this
 ·rcases hset i hl with rfl | hl'
  ·obtain⟨g,h1,h2,h3⟩:=hN.al hi;exact⟨g,by rw[upd_same];exact h1,by have:=I.sw;omega,h3⟩
  obtain⟨g,h1,h2,h3⟩:=I.pt i hi hl';exact⟨g,by rw[upd_ne _ _ (hne i hl')];exact h1,h2,by omega⟩
 rcases hset i hli with rfl | hli'<;>rcases hset j hlj with rfl | hlj'
 ·exact absurd rfl hij
 ·obtain⟨g,h1,h2,h3⟩:=hN.al hi;obtain⟨g',h1',h2',h3'⟩:=I.pt j hj hlj';rw[upd_same,upd_ne _ _ (hne j hlj'),h1,h1'];intro e;injection e with e;injection e with e;injection e with e;omega
 ·obtain⟨g,h1,h2,h3⟩:=hN.al hj;obtain⟨g',h1',h2',h3'⟩:=I.pt i hi hli';rw[upd_same,upd_ne _ _ (hne i hli'),h1,h1'];intro e;injection e with e;injection e with e;injection e with e;omega
 rw[upd_ne _ _ (hne i hli'),upd_ne _ _ (hne j hlj')];exact I.ne i j hi hj hli' hlj' hij
def Rest (P:Program) (ops:List Oper) (Q:Exit->Act->World->Prop) (t0:Array Value) (ds:List Deferred) (m:Nat) (x:Nat->Value) (w:World):Prop:=
 wpAny P .any ops.toArray Q (ops.length - m) (List.replicate m true++List.replicate (ops.length - m) false).toArray ⟨fill (ops.take m) x 0 t0,ds⟩ w
theorem dstOf_take {m j:Nat} (h:j<m):dstOf (ops.take m) j=dstOf ops j:=by
 unfold dstOf;rw[List.getElem?_take_of_lt h]
theorem dstOf_take_ge {m j:Nat} (h:m<=j):dstOf (ops.take m) j=none:=by
 unfold dstOf;rw[List.getElem?_eq_none (by simp;omega)];rfl
theorem finish (hml:m<=ops.length) {listed:Array Bool} {a:Act} {w:World} {x:Nat->Value}
  (I:Inv (ops:=ops) (D:=D) (al:=al) (st:=st) (og:=og) (nq:=nq) (t0:=t0) (ds:=ds) (w0:=w0) H m listed a w x) (hall:∀ j,j<m->listed.getD j false=true)
  (hG:∀ x w,Left D al og nq w0 H m x w->Rest P ops Q t0 ds m x w):wpAny P .any ops.toArray Q (listed.toList.count false) listed a w:=by
 have h:=hG x w ⟨⟨I.be,I.bl⟩,fun j hj=>I.fa j (hall j hj),fun i hi him=>I.pt i hi (hall i him),fun i j hi hj him hjm hij=>I.ne i j hi hj (hall i him) (hall j hjm) hij⟩
 have hl:listed=(List.replicate m true++List.replicate (ops.length - m) false).toArray:=by
  apply Array.ext
  ·rw[I.ls];simp;omega
  intro i h1 h2;rw[I.ls] at h1
  by_cases hi:i<m
  ·have:=hall i hi;rw[Array.getD_eq_getD_getElem?,Array.getElem?_eq_getElem (by rw[I.ls];exact h1)] at this;simp only[Option.getD_some] at this;rw[this]
   simp[List.getElem_append_left,hi]
  have h3:listed.getD i false=false:=by
   cases h:listed.getD i false with
   | false=>rfl
   | true=>exact absurd (I.lt i h) hi
  rw[Array.getD_eq_getD_getElem?,Array.getElem?_eq_getElem (by rw[I.ls];exact h1)] at h3;simp only[Option.getD_some] at h3;rw[h3]
  simp[List.getElem_append,hi]
 have ha:a=⟨fill (ops.take m) x 0 t0,ds⟩:=by
  have e:fill (ops.take m) x 0 t0=a.tmps:=by
   refine fill_eq _ x 0 t0 a.tmps I.sz (fun j d hd=>?_) (fun t ht=>?_)
   ·rcases Nat.lt_or_ge j m with hj | hj
    ·rw[dstOf_take hj] at hd;rw[Nat.zero_add];exact I.tm j d (hall j hj) hd
    rw[dstOf_take_ge hj] at hd;cases hd
   refine I.pre t fun j hj=>?_
   have:=ht j
   rwa [dstOf_take (I.lt j hj)] at this
  rw[e,<-I.df]
 have hc:listed.toList.count false=ops.length - m:=by rw[hl];simp[List.count_replicate]
 rw[hc,hl,ha];exact h
theorem main (hok:ok ops D m t0.size=true) (hoks:okSt ops D al st nq=true) (h1000:∀ k i,own st k=some i->¬ i<1000) (hog:∀ q,q<nq->og q<w0.heap.size) (hod:∀ q q',q<nq->q'<nq->q≠q'->og q≠og q') (hst:∀ j,j<m->Stays st og nq j (H j)) (hrun:∀ j,j<m->∃ o,ops[j]?=some o/\Runs P ops D al st og nq t0 ds w0 H j o (H j))
  (hG:∀ x w,Left D al og nq w0 H m x w->Rest P ops Q t0 ds m x w) :
  ∀ (fuel:Nat) (listed:Array Bool) (a:Act) (w:World) (x:Nat->Value),listed.toList.count false=fuel->Inv (ops:=ops) (D:=D) (al:=al) (st:=st) (og:=og) (nq:=nq) (t0:=t0) (ds:=ds) (w0:=w0) H m listed a w x->wpAny P .any ops.toArray Q fuel listed a w:=by
 have hml:=ok_len hok;intro fuel
 induction fuel with
 | zero =>
  intro listed a w x hc I;rw[<-hc];refine finish hml I (fun j hj=>?_) hG;rw[Array.getD_eq_getD_getElem?,Array.getElem?_eq_getElem (by rw[I.ls];omega)];simp only[Option.getD_some];have h0:=List.count_eq_zero.1 hc
  cases h:listed[j]'(by rw[I.ls];omega) with
  | true=>rfl
  | false=>exact absurd (by rw[<-h];simp) h0
 | succ fuel ih =>
  intro listed a w x hc I
  by_cases hall:∀ j,j<m->listed.getD j false=true
  ·rw[<-hc];exact finish hml I hall hG
  -- what may come up is one of the first m
  have hready:∀ i,i ∈ Region.ready .any ops.toArray listed->listed.getD i false=false/\∃ o,ops[i]?=some o/\(∀ j,(dep D i).contains j=true->listed.getD j false=true)/\i<m:=by
   intro i hi;obtain⟨h1,o,ho,h2⟩:=mem_ready.1 hi;have ho':ops[i]?=some o:=by simpa using ho
   have hlt:i<ops.length:=(List.getElem?_eq_some_iff.1 ho').1;obtain⟨c1,c2,c3,c4⟩:=ok_at hok ho'
   have hd:∀ j,(dep D i).contains j=true->listed.getD j false=true:=fun j hj=>by
    obtain⟨⟨e,he,hb,h3⟩,_⟩:=c2 j hj;rcases h3 with rfl | h3
    ·exact h2 e he hb
    exact I.dn _ (h2 e he hb) j h3
   refine⟨?_,o,ho',hd,c3.resolve_right fun h=>hall fun j hj=>hd j (h j hj)⟩;rw[Array.getD_eq_getD_getElem?,Array.getElem?_eq_getElem (by rw[I.ls];exact hlt)] at h1 ⊢;exact h1
  refine⟨fun hr=>?_,fun i hi=>?_⟩
  ·-- the least that has not come up may come up
   exfalso
   have hex:∃ j,listed.getD j false=false/\j<m:=by
    refine Classical.byContradiction fun h=>hall fun j hj=>?_
    cases h2:listed.getD j false with
    | true=>rfl
    | false=>exact absurd ⟨j,h2,hj⟩ h
   have hmin:∃ j,(listed.getD j false=false/\j<m)/\∀ i,i<j->listed.getD i false=true:=by
    obtain⟨j,h1,h2⟩:=hex
    induction j using Nat.strongRecOn with
    | ind j ihj =>
     by_cases hlow:∃ i,i<j/\listed.getD i false=false
     ·obtain⟨i,h3,h4⟩:=hlow;exact ihj i h3 h4 (by omega)
     refine⟨j,⟨h1,h2⟩,fun i hi=>?_⟩
     cases h5:listed.getD i false with
     | true=>rfl
     | false=>exact absurd ⟨i,hi,h5⟩ hlow
   obtain⟨j,⟨h1,h2⟩,h3⟩:=hmin;have hjo:ops[j]?=some (ops[j]'(by omega)):=List.getElem?_eq_getElem (by omega)
   have:j ∈ Region.ready .any ops.toArray listed:=mem_ready.2 ⟨by
    rw[Array.getD_eq_getD_getElem?,Array.getElem?_eq_getElem (by rw[I.ls];omega)] at h1 ⊢
    exact h1,_,by rw[gsa];exact hjo,fun e he hb=>h3 _ ((ok_at hok hjo).1 e he hb)⟩
   rw[hr] at this;cases this
  obtain⟨hun,o,ho,hd,him⟩:=hready i hi;obtain⟨o',ho',hR⟩:=hrun i him;obtain rfl:o=o':=by rw[ho] at ho';exact Option.some.inj ho'
  have hil:i<ops.length:=(List.getElem?_eq_some_iff.1 ho).1
  have hA:At ops D st og nq t0 w0 H i a.tmps (mask (dep D i) x) w:=by
   obtain⟨c1,c2,c3,c4⟩:=ok_at hok ho;refine⟨I.be,I.bl,fun q hq hk'=>I.od q hq fun k' hlk hok'=>?_,fun j d hj hd'=>?_,fun j hj=>?_,fun t ht=>I.pre t fun j hj hjt=>?_⟩
   ·rcases hk' k' hok' with e | e
    ·subst e;rw[hun] at hlk;cases hlk
    have:=I.dn k' hlk i e;rw[hun] at this;cases this
   ·rw[mask_in hj];exact I.tm j d (hd j hj) hd'
   ·have e:mask (dep D j) (mask (dep D i) x)=mask (dep D j) x:=by
     funext q
     unfold mask
     by_cases hq:(dep D j).contains q=true
     ·rw[if_pos hq,if_pos hq,if_pos ((c2 j hj).2.1 q hq)]
     rw[if_neg hq,if_neg hq]
    rw[e,mask_in hj];exact I.fa j (hd j hj)
   have hjl:j<ops.length:=by have:=I.lt j hj;omega
   unfold R7.pre at ht;rw[List.all_eq_true] at ht;have h1:=ht j (List.mem_range.2 hjl);simp only[Bool.or_eq_true,bne_iff_ne,ne_eq,beq_iff_eq] at h1;rcases h1 with (h1 | h1) | h1
   ·exact h1 hjt
   ·subst h1;rw[hun] at hj;cases hj
   have:=I.dn j hj i h1;rw[hun] at this;cases this
  have hrun1:=hR a.tmps (mask (dep D i) x) w hA (fun a' w'=>∃ v,a'=(a.put o.dst v)/\Next al st og (H i) i (mask (dep D i) x) w v w') (fun v w' hN=>⟨v,by rw[<-I.df],hN⟩);have hil':i<listed.size:=by rw[I.ls];exact hil
  have hcount:(listed.setIfInBounds i true).toList.count false=fuel:=by
   have h1:listed.toList[i]?=some false:=by
    rw[Array.getD_eq_getD_getElem?,Array.getElem?_eq_getElem (by rw[I.ls];exact hil)] at hun;rw[List.getElem?_eq_getElem (by simpa using hil')]
    simpa using hun
   have:=count_false h1;rw[hc] at this;rw[Array.toList_setIfInBounds]
   omega
  have hgo:∀ a' w',(∃ v,a'=(a.put o.dst v)/\Next al st og (H i) i (mask (dep D i) x) w v w')->wpAny P .any ops.toArray Q fuel (listed.setIfInBounds i true) a' w':=by
   rintro a' w' ⟨v,rfl,hN⟩;exact ih _ _ _ _ hcount (I.step hok hoks h1000 hog hod hst ho him hun hd hN)
  unfold wpOp;rw[show ops.toArray[i]?=some o by simpa using ho];simp only[];have hae:(⟨a.tmps,ds⟩:Act)=a:=by rw[<-I.df]
  rw[hae] at hrun1
  split
  ·rename_i hw
   rw[if_pos hw] at hrun1;exact Or.inl (Oper.wp_noQ (Go.Oper.wp_mono hgo hrun1))
  rename_i hw
  rw[if_neg hw] at hrun1;exact hgo _ _ hrun1
theorem own_big {st:List (Nat × Nat)} (h:(st.all fun p=>decide (1000<=p.2))=true):∀ k i,own st k=some i->¬ i<1000:=by
 intro k i hi;unfold own at hi
 induction st with
 | nil=>cases hi
 | cons p l ih =>
  obtain⟨a,b⟩:=p;rw[List.all_cons,Bool.and_eq_true,decide_eq_true_eq] at h;rw[List.lookup_cons] at hi
  split at hi
  ·injection hi with hi;subst hi;have:=h.1;omega
  exact ih h.2 hi
theorem region {id:Nat} {w:World} (hm:P.follows .mixedOrders=true) (D:List (List Nat)) (al:List Nat) (st:List (Nat × Nat)) (og:Nat->Nat) (nq:Nat) (m:Nat) (hok:ok ops D m t0.size=true) (hoks:okSt ops D al st nq=true) (h1000:(st.all fun p=>decide (1000<=p.2))=true) (hog:∀ q,q<nq->og q<w.heap.size) (hod:∀ q q',q<nq->q'<nq->q≠q'->og q≠og q')
  (h:Chain P ops D al st og nq t0 ds w.drew m (Rest P ops Q t0 ds m) ops 0 []):(Code.region id ops.toArray true).wp P Q ⟨t0,ds⟩ w:=by
 refine wp_region_any hm ?_;have hml:=ok_len hok;obtain⟨H,_,h2,h3⟩:=Chain.all (fun k j hk hj=>ok_lt hok hj (by omega)) ops 0 [] rfl (Nat.zero_le _) (fun j=>by rw[Nat.zero_add]) h;have hc:(Array.replicate ops.toArray.size false).toList.count false=ops.toArray.size:=by simp
 refine main (w0:=w.drew) hok hoks (own_big h1000) hog hod (fun j hj=>(h2 j (Nat.zero_le _) hj).1) (fun j hj=>(h2 j (Nat.zero_le _) hj).2) h3 _ _ _ _ (fun _=>undef) hc ?_
 have hno:∀ j,(Array.replicate ops.toArray.size false).getD j false=true->False:=fun j hj=>by
  rw[Array.getD_eq_getD_getElem?] at hj
  by_cases h:j<ops.length<;>simp[h] at hj
 exact⟨fun j _ hj=>(hno j hj).elim,fun _ _=>rfl,rfl,rfl,fun B _ _=>Below.refl _ _,fun _ _ _=>rfl,fun _ _ _=>rfl,Nat.le_refl _,by simp,fun j hj=>(hno j hj).elim,fun j hj=>(hno j hj).elim,fun j hj=>(hno j hj).elim,fun j _ hj=>(hno j hj).elim,fun i j _ _ hj=>(hno i hj).elim⟩
theorem rest_done {x:Nat->Value} {w:World} (h:Q .normal ⟨fill ops x 0 t0,ds⟩ w):Rest P ops Q t0 ds ops.length x w:=by
 unfold Rest;rw[Nat.sub_self,List.take_length];refine⟨?_,h⟩;simp only[List.replicate_zero,List.append_nil];refine List.eq_nil_iff_forall_not_mem.2 (fun i hi=>?_);obtain⟨h1,o,ho,_⟩:=mem_ready.1 hi;have hlt:i<ops.length:=by have:=(Array.getElem?_eq_some_iff.1 ho).1;simpa using this
 simp[Array.getD_eq_getD_getElem?,hlt] at h1
end
end
def lst (n m:Nat):Array Bool:=(List.replicate m true++List.replicate (n - m) false).toArray
def inOrder (ops:List Oper) (m:Nat):Bool:=(List.range ops.length).all fun i=>decide (i<m) || Region.ready .any ops.toArray (lst ops.length i)==[i]
theorem lst_set {n m:Nat} (h:m<n):(lst n m).setIfInBounds m true=lst n (m+1):=by
 unfold lst
 apply Array.ext'
 rw[Array.toList_setIfInBounds]
 show (List.replicate m true++List.replicate (n - m) false).set m true=List.replicate (m+1) true++List.replicate (n - (m+1)) false
 rw[List.set_append_right _ _ (by simp)];simp only[List.length_replicate,Nat.sub_self];obtain⟨r,hr⟩:∃ r,n - m=r+1:=⟨n - m - 1,by omega⟩
 rw[hr,show n - (m+1)=r by omega,List.replicate_succ,List.set_cons_zero,List.replicate_succ',List.append_assoc]
 rfl
theorem ready_full (ops:List Oper):Region.ready .any ops.toArray (lst ops.length ops.length)=[]:=by
 refine List.eq_nil_iff_forall_not_mem.2 (fun i hi=>?_);obtain⟨h1,o,ho,_⟩:=mem_ready.1 hi;have hlt:i<ops.length:=by have:=(Array.getElem?_eq_some_iff.1 ho).1;simpa using this
 simp[lst,Array.getD_eq_getD_getElem?,hlt] at h1
theorem rest_any {P:Program} {ops:List Oper} {Q:Exit->Act->World->Prop}:∀ (r m:Nat),m+r=ops.length->(∀ i,m<=i->i<ops.length->Region.ready .any ops.toArray (lst ops.length i)=[i])->∀ a w,wpList P ops.toArray Q (ops.drop m) a w->wpAny P .any ops.toArray Q r (lst ops.length m) a w
 | 0,m,hm,_,a,w,h=>by
  have e:m=ops.length:=by omega
  subst e;rw[List.drop_length] at h;exact⟨ready_full ops,h⟩
 | r+1,m,hm,hr,a,w,h=>by
  have hlt:m<ops.length:=by omega
  have h0:=hr m (Nat.le_refl _) hlt;refine⟨(fun hn=>by rw[h0] at hn;cases hn),fun i hi=>?_⟩;rw[h0,List.mem_singleton] at hi;subst hi;rw[List.drop_eq_getElem_cons hlt] at h;have ho:ops.toArray[i]?=some ops[i]:=by simp[hlt]
  have ih:=rest_any (P:=P) (Q:=Q) r (i+1) (by omega) (fun j hj hj'=>hr j (by omega) hj');unfold wpOp;rw[ho,lst_set hlt];simp only[wpList] at h ⊢
  split
  ·rename_i hw
   rw[if_pos hw] at h;rcases h with h | h
   ·exact .inl (Go.Oper.wp_mono (fun a' w' h'=>ih a' w' h') h)
   exact .inr h
  rename_i hw
  rw[if_neg hw] at h;exact ih _ _ h
theorem rest_list {P:Program} {ops:List Oper} {Q:Exit->Act->World->Prop} {t0:Array Value} {ds:List Deferred} {m:Nat} {x:Nat->Value} {w:World} (hm:m<=ops.length) (hi:inOrder ops m=true)
  (h:wpList P ops.toArray Q (ops.drop m) ⟨fill (ops.take m) x 0 t0,ds⟩ w):Rest P ops Q t0 ds m x w:=by
 unfold Rest;refine rest_any (ops.length - m) m (by omega) (fun i h1 h2=>?_) _ _ h;unfold inOrder at hi;have:=List.all_eq_true.1 hi i (List.mem_range.2 h2);simp only[Bool.or_eq_true,decide_eq_true_eq,beq_iff_eq] at this;exact this.resolve_left (by omega)
section
variable {P:Program} {ops:List Oper} {D:List (List Nat)} {al:List Nat} {st:List (Nat × Nat)} {og:Nat → Nat} {nq:Nat} {t0:Array Value} {ds:List Deferred} {w0:World}
theorem mi {L:List Nat} {x:Nat → Value} {j:Nat} (h:L.contains j=true):mask L x j=x j:=mask_in h
theorem cd {m k:Nat} {G:(Nat → Value) → World → Prop} {o:Oper} {l:List Oper} {F:List Fact} (f:(Nat → Value) → Value) (hr:∀ (T:Array Value) (x:Nat → Value) (w:World),At ops D st og nq t0 w0 (fact F) k T x w → (execOp (Act.eval ⟨T,ds⟩) o).run P w=.ok (.value (f x)) w)
    (h:Chain P ops D al st og nq t0 ds w0 m G l (k+1) ((fun x v _=>v=f x)::F)) (hp:plain al st k=true:=by rfl) (hw:∀ T:Array Value,Region.wanted o (yielded ops.toArray T)=true:=by (intro T;rfl)):Chain P ops D al st og nq t0 ds w0 m G (o::l) k F:=Chain.det f hp (fun T x w hA=>⟨hw T,hr T x w hA⟩) h
theorem At.tq {F:Nat → Fact} {k:Nat} {T:Array Value} {x:Nat → Value} {w:World} (h:At ops D st og nq t0 w0 F k T x w) (j d:Nat) (h1:(dep D k).contains j=true:=by rfl) (h2:dstOf ops j=some d:=by rfl):T[d]?=some (x j):=h.tm j d h1 h2
theorem At.fq {F:Nat → Fact} {k:Nat} {T:Array Value} {x:Nat → Value} {w:World} (h:At ops D st og nq t0 w0 F k T x w) (j:Nat) (h1:(dep D k).contains j=true:=by rfl):F j (mask (dep D j) x) (x j) w:=h.fa j h1
theorem At.pq {F:Nat → Fact} {k:Nat} {T:Array Value} {x:Nat → Value} {w:World} (h:At ops D st og nq t0 w0 F k T x w) (t:Nat) (h1:R7.pre ops D k t=true:=by kernel_rfl):T[t]?=t0[t]?:=h.pre t h1
theorem b0_ {cur new:World} (h:∀ B,B ≤ cur.drew.heap.size → (∀ q,q<0 → B ≤ og q) → Below B cur.drew new):Below cur.heap.size cur new:=undrew (h cur.heap.size (Nat.le_refl _) (fun q h=>absurd h (Nat.not_lt_zero _)))
theorem r0 {id:Nat} {w:World} {Q:Exit → Act → World → Prop} (D:List (List Nat)) (m:Nat) (h:Chain P ops D [] [] (fun _=>0) 0 t0 ds w.drew m (Rest P ops Q t0 ds m) ops 0 []) (hm:P.follows .mixedOrders=true:=by kernel_rfl) (hok:ok ops D m t0.size=true:=by kernel_rfl) (hoks:okSt ops D [] [] 0=true:=by kernel_rfl):(Code.region id ops.toArray true).wp P Q ⟨t0,ds⟩ w:=
  region hm D [] [] (fun _=>0) 0 m hok hoks rfl (fun q h=>absurd h (Nat.not_lt_zero _)) (fun q q' h=>absurd h (Nat.not_lt_zero _)) h
end
end R7
end Go.Proofs.YtkocdbgmckdcpaaGreatDoor
