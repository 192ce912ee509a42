/-
 Joined texts: PsK,PpFit,PpM,PpW,PpQ,PpR,PpN,PpO,PpS,ScB.
-/
import Derived.Test.YtkocdbgmckdcpaaGreatDoorJParsePrints1
import Derived.Test.YtkocdbgmckdcpaaGreatDoorJParsePrints2
import Derived.Test.YtkocdbgmckdcpaaGreatDoorJParsePrints4
set_option maxHeartbeats 32000000
namespace Go.Proofs.YtkocdbgmckdcpaaGreatDoor
open Go.RowKit
set_option maxRecDepth 100000
set_option linter.unusedVariables false
theorem max_val7 (a b:Nat):Value.int .i64 (max (a:Int) b)=.int .i64 ((max a b:Nat):Int):=by congr 1;omega
theorem depth_p (d:Nat) (hd:d<=4000000000000000000) (x:X) (u:U) (w:World) (S:Nat->Prop) (h:Um w S x u) (ho:ud u<=d) :
  Calls Tryz.prog 59 #[xv x] w fun e w'=>e=.returned (.int .i64 (ud u:Nat))/\Below w.heap.size w w':=by
 induction d generalizing x u w with
 | zero=>obtain⟨k,nm,ot,z,ln,cl,ks⟩:=u;rw[ud] at ho;omega
 | succ d ih =>
  obtain⟨k,nm,ot,z,ln,cl,ks⟩:=u;rw[Um] at h;obtain⟨⟨e1,e2,e3,e4,e5,e6⟩,⟨h2,h3⟩,⟨h4,h5,h6⟩,h7⟩:=h;obtain⟨xk,xnm,xot,xb,xao,xn,xc,xko,xkn,xkc,xln,xcl⟩:=x;simp only at e1 e2 e3 e4 e5 e6 h2 h3 h4 h5 h6 h7;have HK:=h_ (fun j (hj:j<ks.length)=>ums_get 0 j h7 hj);clear h7;subst e1 e2 e3 e4 e5 e6;subst h4;rw[ud] at ho;have hkl:ks.length<=9223372036854775807:=Nat.le_trans h5.1 h5.2;clear h5;have IH:=h_ ih;have hdd:uds ks<=d:=by omega
  clear h2 h3 h6 ih ho;simp only[xv];go_enter Tryz.func59,Tryz.ntmps59
  go_wp2_with fail
  go_loopw [3,9] (fun n i wr=>∃ j:Nat,n=.int .i64 ((uds (ks.take j):Nat):Int)/\i=.int .i64 (j:Nat)/\j<=ks.length/\Below w.heap.size w wr) (fun _ i _=>ks.length - (intOf i).toNat)
  case atStart=>exact⟨0,rfl,rfl,Nat.zero_le _,(Below.refl _ _).alloc (Nat.le_refl _) _⟩
  case round =>
   obtain⟨j,rfl,rfl,hj,hb⟩:=hrel
   by_cases hlt:j<ks.length
   ·obtain⟨y,hA,hT⟩:=HK.out j hlt;rw[Nat.zero_add] at hA;have hT':=hT.below hb;obtain⟨a,rfl,hc⟩:=hA.keep fun a ha=>hb.block _ (hA.lt a ha)
    obtain⟨c0,c1,c2,c3,c4,c5,c6,c7⟩:=cells8 hc;have hbd:=uds_take_le ks j;have hbe:=uds_mem (List.getElem_mem hlt);have HB:=h_ hb;have HT:=h_ hT';clear hc hA hT hT' hb;go_wp2_with fail
    refine (IH.out (by omega) y _ _ (HT.out.below ((Below.refl _ _).alloc (Nat.le_refl _) _)) (by omega)).mono ?_;rintro e w2 ⟨rfl,hb2⟩;have HB2:=h_ hb2;clear hb2 c0 c1 c2 c3 c4 c5 c6 c7;go_wp2_with fail
    go_roundw
    case rel=>exact⟨j+1,by rw[uds_take ks j hlt];exact max_val7 _ _,by go_num,by omega,(HB.out.alloc HB.out.size _).trans (HB2.out.mono (by have:=HB.out.size;simp;omega))⟩
    case measure=>simp[intOf];omega
   have e:j=ks.length:=by omega
   subst e;have hbd:=uds_take_le ks ks.length;have HB:=h_ hb;clear hb;go_wp2_with fail
   go_ret
   refine⟨?_,HB.out⟩;rw[List.take_length,ud,Nat.add_comm];rfl

theorem complete_p (n:Nat) (hn:n<=1000000) (g:Nat) (s:St) (r:U × St) (w:World) (hps:PS w g s) (hop:GOps w g) (hc:cAll n s=some r) :
  Calls Tryz.prog 31 #[.pointer (some ⟨g,0,none⟩)] w (TreePost w g r.1 r.2):=by
 have E:=h_ (all_p n).ex;have HP:=h_ hps;have HOP:=h_ hop;clear hps hop;unfold cAll at hc;rw[Option.bind_eq_some_iff] at hc;obtain⟨r1,h1,hr⟩:=hc;injection hr with hr;subst hr;have hdp:=(c_deep n).1 _ _ h1;have hBn:Bd n<=4000000000000000000:=by unfold Bd;have:=Nat.mul_le_mul (show n+1<=1000001 by omega) (show n+1<=1000001 by omega);omega
 have h1:=h_ h1
 by_cases hdeep:60<ud r1.1
 ·have HIF:Hid ((if 60<ud r1.1 then r1.2.fail s.nx 2 else r1.2)=r1.2.fail s.nx 2):=h_ (if_pos hdeep);have hgt:decide (60<ud r1.1)=true:=by simpa using hdeep
  rw[HIF.out];go_enter Tryz.func31,Tryz.ntmps31
  go_upto_region 1 with fail
  obtain⟨w1,kr,hw,hkk,hb,-,HBr⟩:=newb w #[.int .i64 0,.string ⟨#[]⟩,.string ⟨#[]⟩,.bool false,.slice none 0 0,.slice none 0 0,.int .i64 0,.int .i64 0] 46;have hgr:g<kr:=by rw[hkk];exact HP.out.lt
  have her:w.heap.size<=kr:=by omega
  rw[hw,<-hkk];replace HP:=h_ (HP.out.below hb);replace HOP:=h_ (HOP.out.below hb);have HD:=h_ (below_grown hb (some g));clear hw hb hkk;go_wp2_with fail
  refine (next_p g s w1 HP.out).mono ?_;rintro e w2 ⟨rfl,hb⟩;replace HBr:=kB hb HBr;replace HP:=h_ (HP.out.below hb);replace HOP:=h_ (HOP.out.below hb);replace HD:=dB HD hb;have hsz2:=HD.out.size;clear hb;simp only[tokV];obtain⟨t,hnx⟩:∃ t,t=St.nx s:=⟨_,rfl⟩
  rw[<-hnx];have HNt:=h_ hnx;clear hnx;go_upto_region 2 with fail
  obtain⟨w3,kt,hw,hkk,hb,-,HBt⟩:=newb w2 #[.int .i64 (t.kind:Nat),.string ⟨t.text.toArray⟩,.int .i64 (t.line:Nat),.int .i64 (t.col:Nat)] 97;have hgt:g<kt:=by rw[hkk];exact HP.out.lt
  have het:w.heap.size<=kt:=by omega
  have hr_t:=lk_ hkk HBr;rw[hw,<-hkk];replace HBr:=kB hb HBr;replace HP:=h_ (HP.out.below hb);replace HOP:=h_ (HOP.out.below hb);replace HD:=dB HD hb;have hsz3:=HD.out.size;clear hw hb hkk;go_wp2_with fail
  obtain⟨Na,hN⟩:∃ k,k=w3.heap.size:=⟨_,rfl⟩
  have hr_Na:kr<Na:=by rw[hN];exact lt_of_block HBr.out
  have ht_Na:kt<Na:=by rw[hN];exact lt_of_block HBt.out
  have hg_Na:g<Na:=by rw[hN];exact HP.out.lt
  have he_Na:w.heap.size<=Na:=by omega
  refine (E.out g _ _ w3 HP.out HOP.out h1.out).mono ?_;rintro e w4 ⟨xa,rfl,hu,hp,hg⟩;replace HBr:=kG hg HBr;replace HBt:=kG hg HBt;replace HOP:=h_ (HOP.out.grown hg (by omega));replace HP:=h_ hp;replace HD:=dG HD hg;have hsz4:=HD.out.size;rw[<-hN] at hu;have HUa:=h_ (hu.mono (S':=fun b=>Na<=b/\True) (fun b h=>⟨h,trivial⟩));clear hN hu;clear hp hg;obtain⟨ak,anm,aot,ab,aao,an,aq,ako,akn,akc,aln,acl⟩:=xa;simp only[xv];go_upto_region 3 with fail
  obtain⟨w5,ka,hw,hkk,hb,-,HBa⟩:=newb w4 #[.int .i64 ak,.string anm,.string aot,.bool ab,.slice aao an aq,.slice ako akn akc,.int .i64 aln,.int .i64 acl] 46;have hga:g<ka:=by rw[hkk];exact HP.out.lt
  have hea:w.heap.size<=ka:=by omega
  have hr_a:=lk_ hkk HBr;have ht_a:=lk_ hkk HBt;replace HUa:=h_ (HUa.out.offk hkk);rw[hw,<-hkk];replace HBr:=kB hb HBr;replace HBt:=kB hb HBt;replace HP:=h_ (HP.out.below hb);replace HUa:=h_ (HUa.out.below hb);replace HOP:=h_ (HOP.out.below hb);replace HD:=dB HD hb;clear hw hb hkk;obtain⟨ca0,ca1,ca2,ca3,ca4,ca5,ca6,ca7⟩:=cl8 HBa.out;obtain⟨ct0,ct1,ct2,ct3⟩:=cl4 HBt.out;go_wp2_with fail
  refine (depth_p (Bd n) hBn ⟨ak,anm,aot,ab,aao,an,aq,ako,akn,akc,aln,acl⟩ r1.1 w5 _ HUa.out hdp).mono ?_;rintro e w6 ⟨rfl,hb⟩;clear ca0 ca1 ca2 ca3 ca4 ca5 ca6 ca7 ct0 ct1 ct2 ct3;replace HBr:=kB hb HBr;replace HBt:=kB hb HBt;replace HBa:=kB hb HBa;replace HP:=h_ (HP.out.below hb);replace HUa:=h_ (HUa.out.below hb);replace HOP:=h_ (HOP.out.below hb);replace HD:=dB HD hb;clear hb;obtain⟨ct0,ct1,ct2,ct3⟩:=cl4 HBt.out;go_wp2_with fail
  have hp0:=fail_p g r1.2 t 2 w6 HP.out;simp only[tokV] at hp0;refine (hp0).mono ?_;rintro e w7 ⟨⟨v,rfl⟩,hp,hg⟩;clear ct0 ct1 ct2 ct3;replace HBr:=kG hg HBr;replace HBt:=kG hg HBt;replace HBa:=kG hg HBa;replace HUa:=h_ (HUa.out.grown hg (fun h=>by omega));replace HOP:=h_ (HOP.out.grown hg (by omega));replace HP:=h_ hp;replace HD:=dG HD hg;clear hp hg;clear hp0;obtain⟨ca0,ca1,ca2,ca3,ca4,ca5,ca6,ca7⟩:=cl8 HBa.out;obtain⟨z0,z1,z2,z3,z4,z5,z6,z7⟩:=cl8 HBr.out;obtain⟨fz0,fz1,fz2,fz3,fz4,fz5,fz6,fz7⟩:=fr8 HBr.out;go_wp2_with fail
  refine bodyPost_ret (v:=.agg #[.int .i64 ak,.string anm,.string aot,.bool ab,.slice aao an aq,.slice ako akn akc,.int .i64 aln,.int .i64 acl]) (by simp[results,Tryz.results31,go_sem,z0,z1,z2,z3,z4,z5,z6,z7]) rfl ?_;obtain⟨wz,hw⟩:∃ x,x=st8 w7 kr (.int .i64 ak) (.string anm) (.string aot) (.bool ab) (.slice aao an aq) (.slice ako akn akc) (.int .i64 aln) (.int .i64 acl):=⟨_,rfl⟩
  have hg:w7.grownBy wz (some kr):=by rw[hw];exact st8_grown _ _ _ _ _ _ _ _ _ _
  change TreePost w g _ _ _ (st8 w7 kr (.int .i64 ak) (.string anm) (.string aot) (.bool ab) (.slice aao an aq) (.slice ako akn akc) (.int .i64 aln) (.int .i64 acl));rw[<-hw];clear ca0 ca1 ca2 ca3 ca4 ca5 ca6 ca7 z0 fz0 z1 fz1 z2 fz2 z3 fz3 z4 fz4 z5 fz5 z6 fz6 z7 fz7;replace HP:=h_ (HP.out.store HBr.out (by decide) (by omega) hg);replace HBt:=kG hg HBt;replace HBa:=kG hg HBa;replace HUa:=h_ (HUa.out.grown hg (fun h=>by omega));replace HOP:=h_ (HOP.out.grown hg (by omega));replace HD:=dN HD hg (by omega);have hsz7:=HD.out.size;clear hw hg;exact⟨⟨ak,anm,aot,ab,aao,an,aq,ako,akn,akc,aln,acl⟩,rfl,(HUa.out.mono (fun b h=>by have h:(Na<=b/\True)/\b≠ka:=h;show _<=b;omega)),by rw[<-HNt.out];exact HP.out,HD.out⟩
 have HIF:Hid ((if 60<ud r1.1 then r1.2.fail s.nx 2 else r1.2)=r1.2):=h_ (if_neg hdeep);have hgt:decide (60<ud r1.1)=false:=by simpa using hdeep
 rw[HIF.out];go_enter Tryz.func31,Tryz.ntmps31
 go_upto_region 1 with fail
 obtain⟨w1,kr,hw,hkk,hb,-,HBr⟩:=newb w #[.int .i64 0,.string ⟨#[]⟩,.string ⟨#[]⟩,.bool false,.slice none 0 0,.slice none 0 0,.int .i64 0,.int .i64 0] 46;have hgr:g<kr:=by rw[hkk];exact HP.out.lt
 have her:w.heap.size<=kr:=by omega
 rw[hw,<-hkk];replace HP:=h_ (HP.out.below hb);replace HOP:=h_ (HOP.out.below hb);have HD:=h_ (below_grown hb (some g));clear hw hb hkk;go_wp2_with fail
 refine (next_p g s w1 HP.out).mono ?_;rintro e w2 ⟨rfl,hb⟩;replace HBr:=kB hb HBr;replace HP:=h_ (HP.out.below hb);replace HOP:=h_ (HOP.out.below hb);replace HD:=dB HD hb;have hsz2:=HD.out.size;clear hb;simp only[tokV];obtain⟨t,hnx⟩:∃ t,t=St.nx s:=⟨_,rfl⟩
 rw[<-hnx];have HNt:=h_ hnx;clear hnx;go_upto_region 2 with fail
 obtain⟨w3,kt,hw,hkk,hb,-,HBt⟩:=newb w2 #[.int .i64 (t.kind:Nat),.string ⟨t.text.toArray⟩,.int .i64 (t.line:Nat),.int .i64 (t.col:Nat)] 97;have hgt:g<kt:=by rw[hkk];exact HP.out.lt
 have het:w.heap.size<=kt:=by omega
 have hr_t:=lk_ hkk HBr;rw[hw,<-hkk];replace HBr:=kB hb HBr;replace HP:=h_ (HP.out.below hb);replace HOP:=h_ (HOP.out.below hb);replace HD:=dB HD hb;have hsz3:=HD.out.size;clear hw hb hkk;go_wp2_with fail
 obtain⟨Na,hN⟩:∃ k,k=w3.heap.size:=⟨_,rfl⟩
 have hr_Na:kr<Na:=by rw[hN];exact lt_of_block HBr.out
 have ht_Na:kt<Na:=by rw[hN];exact lt_of_block HBt.out
 have hg_Na:g<Na:=by rw[hN];exact HP.out.lt
 have he_Na:w.heap.size<=Na:=by omega
 refine (E.out g _ _ w3 HP.out HOP.out h1.out).mono ?_;rintro e w4 ⟨xa,rfl,hu,hp,hg⟩;replace HBr:=kG hg HBr;replace HBt:=kG hg HBt;replace HOP:=h_ (HOP.out.grown hg (by omega));replace HP:=h_ hp;replace HD:=dG HD hg;have hsz4:=HD.out.size;rw[<-hN] at hu;have HUa:=h_ (hu.mono (S':=fun b=>Na<=b/\True) (fun b h=>⟨h,trivial⟩));clear hN hu;clear hp hg;obtain⟨ak,anm,aot,ab,aao,an,aq,ako,akn,akc,aln,acl⟩:=xa;simp only[xv];go_upto_region 3 with fail
 obtain⟨w5,ka,hw,hkk,hb,-,HBa⟩:=newb w4 #[.int .i64 ak,.string anm,.string aot,.bool ab,.slice aao an aq,.slice ako akn akc,.int .i64 aln,.int .i64 acl] 46;have hga:g<ka:=by rw[hkk];exact HP.out.lt
 have hea:w.heap.size<=ka:=by omega
 have hr_a:=lk_ hkk HBr;have ht_a:=lk_ hkk HBt;replace HUa:=h_ (HUa.out.offk hkk);rw[hw,<-hkk];replace HBr:=kB hb HBr;replace HBt:=kB hb HBt;replace HP:=h_ (HP.out.below hb);replace HUa:=h_ (HUa.out.below hb);replace HOP:=h_ (HOP.out.below hb);replace HD:=dB HD hb;clear hw hb hkk;obtain⟨ca0,ca1,ca2,ca3,ca4,ca5,ca6,ca7⟩:=cl8 HBa.out;obtain⟨ct0,ct1,ct2,ct3⟩:=cl4 HBt.out;go_wp2_with fail
 refine (depth_p (Bd n) hBn ⟨ak,anm,aot,ab,aao,an,aq,ako,akn,akc,aln,acl⟩ r1.1 w5 _ HUa.out hdp).mono ?_;rintro e w6 ⟨rfl,hb⟩;clear ca0 ca1 ca2 ca3 ca4 ca5 ca6 ca7 ct0 ct1 ct2 ct3;replace HBr:=kB hb HBr;replace HBt:=kB hb HBt;replace HBa:=kB hb HBa;replace HP:=h_ (HP.out.below hb);replace HUa:=h_ (HUa.out.below hb);replace HOP:=h_ (HOP.out.below hb);replace HD:=dB HD hb;clear hb;obtain⟨ca0,ca1,ca2,ca3,ca4,ca5,ca6,ca7⟩:=cl8 HBa.out;obtain⟨z0,z1,z2,z3,z4,z5,z6,z7⟩:=cl8 HBr.out;obtain⟨fz0,fz1,fz2,fz3,fz4,fz5,fz6,fz7⟩:=fr8 HBr.out;go_wp2_with fail
 refine bodyPost_ret (v:=.agg #[.int .i64 ak,.string anm,.string aot,.bool ab,.slice aao an aq,.slice ako akn akc,.int .i64 aln,.int .i64 acl]) (by simp[results,Tryz.results31,go_sem,z0,z1,z2,z3,z4,z5,z6,z7]) rfl ?_;obtain⟨wz,hw⟩:∃ x,x=st8 w6 kr (.int .i64 ak) (.string anm) (.string aot) (.bool ab) (.slice aao an aq) (.slice ako akn akc) (.int .i64 aln) (.int .i64 acl):=⟨_,rfl⟩
 have hg:w6.grownBy wz (some kr):=by rw[hw];exact st8_grown _ _ _ _ _ _ _ _ _ _
 change TreePost w g _ _ _ (st8 w6 kr (.int .i64 ak) (.string anm) (.string aot) (.bool ab) (.slice aao an aq) (.slice ako akn akc) (.int .i64 aln) (.int .i64 acl));rw[<-hw];clear ca0 ca1 ca2 ca3 ca4 ca5 ca6 ca7 z0 fz0 z1 fz1 z2 fz2 z3 fz3 z4 fz4 z5 fz5 z6 fz6 z7 fz7;replace HP:=h_ (HP.out.store HBr.out (by decide) (by omega) hg);replace HBt:=kG hg HBt;replace HBa:=kG hg HBa;replace HUa:=h_ (HUa.out.grown hg (fun h=>by omega));replace HOP:=h_ (HOP.out.grown hg (by omega));replace HD:=dN HD hg (by omega);have hsz6:=HD.out.size;clear hw hg;exact⟨⟨ak,anm,aot,ab,aao,an,aq,ako,akn,akc,aln,acl⟩,rfl,(HUa.out.mono (fun b h=>by have h:(Na<=b/\True)/\b≠ka:=h;show _<=b;omega)),HP.out,HD.out⟩
theorem toks_of {w:World} {b:Nat}:∀ {ts:List Tok} {o:Nat},(∀ k (hk:k<ts.length),w.cell? ⟨b,o+k*4,none⟩=some (.int .i64 (ts[k].kind:Nat))/\w.cell? ⟨b,o+(k*4+1),none⟩=some (.string ⟨ts[k].text.toArray⟩)/\w.cell? ⟨b,o+(k*4+2),none⟩=some (.int .i64 (ts[k].line:Nat))/\w.cell? ⟨b,o+(k*4+3),none⟩=some (.int .i64 (ts[k].col:Nat)))->Toks w b o ts
 | [],_,_=>trivial
 | t::ts,o,h=>by
  refine⟨by have:=h 0 (by simp);simp only[List.getElem_cons_zero,Nat.zero_mul,Nat.zero_add,Nat.add_zero] at this;exact this,toks_of fun k hk=>?_⟩;have:=h (k+1) (by simpa using hk);simp only[List.getElem_cons_succ] at this;rw[show o+(k+1)*4=o+4+k*4 by omega,show o+((k+1)*4+1)=o+4+(k*4+1) by omega,show o+((k+1)*4+2)=o+4+(k*4+2) by omega,show o+((k+1)*4+3)=o+4+(k*4+3) by omega] at this;exact this
def st0 (l:Bs):St:=⟨(lexS l (1,1)).1,none⟩
def lexF (l:Bs):Option (Nat × Nat × Nat):=if (lexS l (1,1)).2=0 then none else ((lexS l (1,1)).1.getLast?).map fun t=>((lexS l (1,1)).2,t.line,t.col)
def AtF (w:World) (v:Value) (f:Nat × Nat × Nat):Prop:=∃ q,v=.iface 111 (.pointer (some ⟨q,0,none⟩))/\AtB w q (f.2.1,f.2.2) (.iface 77 (.int .i64 (f.1:Nat)))
theorem newp_p (l:Bs) (w:World) (hl:l.length<=20000) :
  Calls Tryz.prog 17 #[.string ⟨l.toArray⟩] w fun e w'=>Below w.heap.size w w'/\((∃ f ev,lexF l=some f/\e=.returned (.tuple #[.pointer none,ev])/\AtF w' ev f)\/(lexF l=none/\∃ g,e=.returned (.tuple #[.pointer (some ⟨g,0,none⟩),.nilIface])/\w.heap.size<=g/\PS w' g (st0 l))):=by
 have HX:=h_ (lex_any l w hl);have HGL:=h_ (lex_good l (1,1));have HSM:=h_ (lex_sum l (1,1)).1;go_enter Tryz.func17,Tryz.ntmps17
 go_wp2_with fail
 refine HX.out.mono ?_;rintro e w1 ⟨hb,hp⟩;rcases hp with ⟨h0,v,rfl,hT⟩ | ⟨h0,q,t,hlast,rfl,hA,-⟩
 ·obtain⟨tb,cap,rfl,h1,h2,-,h4,h5⟩:∃ g cap,v=.slice (some ⟨g,0,none⟩) (lexS l (1,1)).1.length cap/\(lexS l (1,1)).1.length<=cap/\cap<=maxLen/\w.heap.size+1<=g/\g<w1.heap.size/\∀ k (hk:k<(lexS l (1,1)).1.length),w1.cell? ⟨g,k*4,none⟩=some (.int .i64 ((lexS l (1,1)).1[k].kind:Nat))/\w1.cell? ⟨g,k*4+1,none⟩=some (.string ⟨(lexS l (1,1)).1[k].text.toArray⟩)/\w1.cell? ⟨g,k*4+2,none⟩=some (.int .i64 ((lexS l (1,1)).1[k].line:Nat))/\w1.cell? ⟨g,k*4+3,none⟩=some (.int .i64 ((lexS l (1,1)).1[k].col:Nat)):=by
   obtain⟨a,cap,rfl,h1,h2,h3⟩:=hT.form;obtain⟨g,rfl,h4,h5,h6⟩:=h3 (lex_ne l (1,1));exact⟨g,cap,rfl,h1,h2,h4,h5,h6⟩
  have HT:=h_ (toks_of (o:=0) fun k hk=>by rw[Nat.zero_add,Nat.zero_add,Nat.zero_add,Nat.zero_add];exact h5 k hk);have H0:=h_ h0;have HB:=h_ hb;have HC:=h_ (And.intro h1 h2);clear h5 hT hb h0 h1 h2;generalize hn:(lexS l (1,1)).1.length=nl at *;have HN:=h_ hn;clear hn;go_wp2_with fail
  go_ret2
  refine⟨HB.out.alloc HB.out.size _,.inr ⟨by unfold lexF;rw[if_pos H0.out],w1.heap.size,rfl,HB.out.size,⟨tb,0,cap,.nilIface,?_,HGL.out H0.out,?_,HC.out.2,h4,?_,?_,rfl⟩,?_⟩⟩
  ·rw[made_at w1 _ _ rfl];unfold st0;simp only;rw[HN.out]
  ·unfold st0;simp only;rw[HN.out];exact HC.out.1
  ·simp;omega
  ·exact HT.out.below h4 ((Below.refl _ _).alloc (Nat.le_refl _) _)
  unfold st0;simp only;rw[HN.out];have:=HSM.out;omega
 have H0:=h_ h0;have HB:=h_ hb;have HA:=h_ hA;have HL:=h_ hlast;clear hb hA h0 hlast;go_wp2_with fail
 go_ret2
 exact⟨HB.out,.inl ⟨((lexS l (1,1)).2,t.line,t.col),_,by unfold lexF;rw[if_neg H0.out,HL.out];rfl,rfl,q,rfl,HA.out⟩⟩
def exF (l:Bs) (r:U × St):Option (Nat × Nat × Nat):=(lexF l).or r.2.fin.err
def ExPost (l:Bs) (r:U × St) (w:World) (e:Ending) (w':World):Prop:=Below w.heap.size w w'/\((∃ f ev,exF l r=some f/\e=.returned (.tuple #[.agg #[.int .i64 0,.string ⟨#[]⟩,.string ⟨#[]⟩,.bool false,.slice none 0 0,.slice none 0 0,.int .i64 0,.int .i64 0],ev])/\AtF w' ev f)\/(exF l r=none/\∃ x,e=.returned (.tuple #[xv x,.nilIface])/\Um w' (fun b=>w.heap.size<=b) x r.1))
theorem exprs_p (n:Nat) (hn:n<=1000000) (l:Bs) (r:U × St) (w:World) (hl:l.length<=20000) (hop:OpsAt w) (hc:lexF l=none->cAll n (st0 l)=some r) :
  Calls Tryz.prog 16 #[.string ⟨l.toArray⟩] w (ExPost l r w):=by
 obtain⟨w1,hw1⟩:∃ x,x=w.alloc (.cells #[.int .i64 0,.string ⟨#[]⟩,.string ⟨#[]⟩,.bool false,.slice none 0 0,.slice none 0 0,.int .i64 0,.int .i64 0] 46):=⟨_,rfl⟩
 have hb1:Below w.heap.size w w1:=by rw[hw1];exact (Below.refl _ _).alloc (Nat.le_refl _) _
 obtain⟨kr,hkr⟩:∃ k,k=w.heap.size:=⟨_,rfl⟩
 have hk1:w1.heap[kr]?=some (.cells #[.int .i64 0,.string ⟨#[]⟩,.string ⟨#[]⟩,.bool false,.slice none 0 0,.slice none 0 0,.int .i64 0,.int .i64 0] 46 (0,0)):=by rw[hw1,hkr];exact made_at w _ _ rfl
 have HW1:=h_ hw1;have HKR:=h_ hkr;have HB1:=h_ hb1;have HR1:=h_ hk1;have HO1:=h_ (hop.below hb1);have hNr:w.heap.size<=kr:=by omega
 have hs1:=hb1.size;clear hw1 hb1 hkr hk1 hop;have HC:=h_ hc;clear hc;go_enter Tryz.func16,Tryz.ntmps16
 go_upto_region 1 with fail
 rw[<-HW1.out,<-HKR.out];go_wp2_with fail
 refine (newp_p l w1 hl).mono ?_;rintro e w2 ⟨hb2,hcase⟩;have HB2:=h_ (HB1.out.trans (hb2.mono HB1.out.size));have HR2:=kB hb2 HR1;have HO2:=h_ (HO1.out.below hb2);have hs2:=hb2.size;clear hb2;rcases hcase with ⟨f,ev,hf,rfl,hA⟩ | ⟨hf,g,rfl,hg,hps⟩
 ·obtain⟨q,rfl,hq⟩:=hA;have HA:=h_ hq;have HF:=h_ hf;have hqk:q≠kr:=fun e=>by subst e;have:=HR2.out;unfold AtB at hq;rw[hq] at this;injection this with this;injection this with _ this;exact absurd this (by decide)
  clear hq hf;obtain⟨z0,z1,z2,z3,z4,z5,z6,z7⟩:=cl8 HR2.out;obtain⟨fz0,fz1,fz2,fz3,fz4,fz5,fz6,fz7⟩:=fr8 HR2.out;go_wp2_with fail
  refine bodyPost_ret (v:=.tuple #[.agg #[.int .i64 0,.string ⟨#[]⟩,.string ⟨#[]⟩,.bool false,.slice none 0 0,.slice none 0 0,.int .i64 0,.int .i64 0],.iface 111 (.pointer (some ⟨q,0,none⟩))]) (by simp[results,Tryz.results16,go_sem,z0,z1,z2,z3,z4,z5,z6,z7]) rfl ⟨st8_below HB2.out hNr _ _ _ _ _ _ _ _,.inl ⟨f,_,by unfold exF;rw[HF.out];rfl,rfl,q,rfl,?_⟩⟩;have:=HA.out;unfold AtB at this ⊢;exact (st8_other w2 kr _ _ _ _ _ _ _ _ hqk).trans this
 have HF:=h_ hf;have HPS:=h_ hps;have HC2:=h_ (HC.out hf);have hgr:kr<g:=Nat.lt_of_lt_of_le (lt_of_block HR1.out) hg;have HGO:Hid (GOps w2 g):=h_ ⟨HO2.out,Nat.lt_of_lt_of_le (cell_lt (HO1.out 0 _ rfl)) hg⟩;clear hf hps hg;go_wp2_with fail
 obtain⟨N,hN⟩:∃ k,k=w2.heap.size:=⟨_,rfl⟩
 have hrN:kr<N:=by rw[hN];exact lt_of_block HR2.out
 have hwN:w.heap.size<=N:=by omega
 have hgN:g<N:=by rw[hN];exact HPS.out.lt
 have hgw:w.heap.size<=g:=by omega
 refine (complete_p n hn g (st0 l) r w2 HPS.out HGO.out HC2.out).mono ?_;rintro e w3 ⟨x,rfl,hu,hp,hg⟩;rw[<-hN] at hu;have HR3:=kG hg HR2;have HB3:=h_ (HB2.out.trans (grown_below hg HB2.out.size hgw));have HU3:=h_ hu;have HP3:=h_ hp;have hs3:=hg.size;clear hu hp hg hN;obtain⟨xk,xnm,xot,xb,xao,xn,xq,xko,xkn,xkc,xln,xcl⟩:=x;simp only[xv];go_upto_region 5 with fail
 obtain⟨w4,hw4⟩:∃ y,y=w3.alloc (.cells #[.int .i64 xk,.string xnm,.string xot,.bool xb,.slice xao xn xq,.slice xko xkn xkc,.int .i64 xln,.int .i64 xcl] 46):=⟨_,rfl⟩
 have hb4:Below w3.heap.size w3 w4:=by rw[hw4];exact (Below.refl _ _).alloc (Nat.le_refl _) _
 have he4:w4.heap[w3.heap.size]?=some (.cells #[.int .i64 xk,.string xnm,.string xot,.bool xb,.slice xao xn xq,.slice xko xkn xkc,.int .i64 xln,.int .i64 xcl] 46 (0,0)):=by rw[hw4];exact made_at w3 _ _ rfl
 rw[<-hw4];obtain⟨ke,hke⟩:∃ k,k=w3.heap.size:=⟨_,rfl⟩
 have hre:kr<ke:=by rw[hke];exact lt_of_block HR3.out
 have hge:g<ke:=by rw[hke];exact HP3.out.lt
 rw[<-hke] at he4 ⊢;have HE4:=h_ he4;have HR4:=kB hb4 HR3;have HB4:=h_ (HB3.out.trans (hb4.mono HB3.out.size));have HU4:=h_ (HU3.out.below hb4);have HP4:=h_ (HP3.out.below hb4);clear hw4 hb4 he4 hke;go_wp2_with fail
 refine (finish_p g r.2 w4 HP4.out).mono ?_;rintro e w5 ⟨ev,rfl,hev,hp,hg⟩;have HR5:=kG hg HR4;have HE5:=kG hg HE4;have HB5:=h_ (HB4.out.trans (grown_below hg HB4.out.size hgw));have HU5:=h_ (HU4.out.grown hg (Nat.not_le.2 hgN));clear hp hg
 cases hfe:r.2.fin.err with
 | none =>
  rw[hfe] at hev;have hev2:ev=.nilIface:=hev;subst hev2;have HX:Hid (exF l r=none):=h_ (by unfold exF;rw[HF.out,hfe];rfl);clear hev hfe;obtain⟨x0,x1,x2,x3,x4,x5,x6,x7⟩:=cl8 HE5.out;obtain⟨z0,z1,z2,z3,z4,z5,z6,z7⟩:=cl8 HR5.out;obtain⟨fz0,fz1,fz2,fz3,fz4,fz5,fz6,fz7⟩:=fr8 HR5.out;go_wp2_with fail
  refine bodyPost_ret (v:=.tuple #[.agg #[.int .i64 xk,.string xnm,.string xot,.bool xb,.slice xao xn xq,.slice xko xkn xkc,.int .i64 xln,.int .i64 xcl],.nilIface]) (by simp[results,Tryz.results16,go_sem,z0,z1,z2,z3,z4,z5,z6,z7]) rfl ⟨st8_below HB5.out hNr _ _ _ _ _ _ _ _,.inr ⟨HX.out,⟨xk,xnm,xot,xb,xao,xn,xq,xko,xkn,xkc,xln,xcl⟩,rfl,?_⟩⟩;exact (HU5.out.grown (st8_grown _ _ _ _ _ _ _ _ _ _) (Nat.not_le.2 hrN)).mono fun b h=>Nat.le_trans hwN h
 | some f =>
  rw[hfe] at hev;obtain⟨fc,fl,fk⟩:=f;obtain⟨q,rfl,hq,hqg⟩:=hev;have HX:Hid (exF l r=some (fc,fl,fk)):=h_ (by unfold exF;rw[HF.out,hfe];rfl);have hqk:q≠kr:=fun e=>by subst e;have:=HR5.out;unfold AtB at hq;rw[hq] at this;injection this with this;injection this with _ this;exact absurd this (by decide)
  have HA:=h_ hq;clear hq hfe;obtain⟨z0,z1,z2,z3,z4,z5,z6,z7⟩:=cl8 HR5.out;obtain⟨fz0,fz1,fz2,fz3,fz4,fz5,fz6,fz7⟩:=fr8 HR5.out;go_wp2_with fail
  refine bodyPost_ret (v:=.tuple #[.agg #[.int .i64 0,.string ⟨#[]⟩,.string ⟨#[]⟩,.bool false,.slice none 0 0,.slice none 0 0,.int .i64 0,.int .i64 0],.iface 111 (.pointer (some ⟨q,0,none⟩))]) (by simp[results,Tryz.results16,go_sem,z0,z1,z2,z3,z4,z5,z6,z7]) rfl ⟨st8_below HB5.out hNr _ _ _ _ _ _ _ _,.inl ⟨(fc,fl,fk),_,HX.out,rfl,q,rfl,?_⟩⟩;have:=HA.out;unfold AtB at this ⊢;exact (st8_other w5 kr _ _ _ _ _ _ _ _ hqk).trans this
set_option maxRecDepth 1000000
def lexN:Nat->Bs->Nat × Nat->List Tok × Nat
 | 0,_,_=>([],9)
 | f+1,s,p =>
  match s.drop (gapL false s) with
  | []=>([⟨4,[],(adv p (s.take (gapL false s))).1,(adv p (s.take (gapL false s))).2⟩],0)
  | c::t =>
   match meas (c::t) with
   | .bad e=>([⟨4,[],(adv p (s.take (gapL false s))).1,(adv p (s.take (gapL false s))).2⟩],e)
   | .ok k n =>
    let q:=adv p (s.take (gapL false s))
    let r:=lexN f ((c::t).drop (n - 1+1)) (adv q ((c::t).take (n - 1+1)))
    (⟨k,(c::t).take n,q.1,q.2⟩::r.1,r.2)
theorem lexN_eq (f:Nat) (s:Bs) (p:Nat × Nat) (h:s.length<f):lexN f s p=lexS s p:=by
 induction f generalizing s p with
 | zero=>omega
 | succ f ih =>
  rw[lexS,lexN]
  cases hd:s.drop (gapL false s) with
  | nil=>simp
  | cons c t =>
   simp only[dif_neg (List.cons_ne_nil c t)]
   cases meas (c::t) with
   | bad e=>rfl
   | ok k n =>
    have hl:(c::t).length<=s.length:=by rw[<-hd,List.length_drop];omega
    simp only;rw[ih _ _ (by rw[List.length_drop];simp only[lsc] at hl ⊢;omega)]
theorem add0 (a:Addr):a.add 0=a:=by unfold Addr.add;split<;>simp_all
def fitT:Bs:=[49,32,45,32,50,32,45,32,51]
def fitR:U × St:=(.node 11 [] [] 0 1 7 [.node 11 [] [] 0 1 3 [.node 0 [] [] 1 1 1 [],.node 0 [] [] 2 1 5 []],.node 0 [] [] 3 1 9 []],⟨[⟨4,[],1,10⟩],none⟩)
theorem fit_lx:lexN 20 fitT (1,1)=([⟨1,[49],1,1⟩,⟨2,[45],1,3⟩,⟨1,[50],1,5⟩,⟨2,[45],1,7⟩,⟨1,[51],1,9⟩,⟨4,[],1,10⟩],0):=by kernel_rfl
theorem fit_c:cAll 600 ⟨[⟨1,[49],1,1⟩,⟨2,[45],1,3⟩,⟨1,[50],1,5⟩,⟨2,[45],1,7⟩,⟨1,[51],1,9⟩,⟨4,[],1,10⟩],none⟩=some fitR:=by kernel_rfl
theorem fit_st:st0 fitT=⟨[⟨1,[49],1,1⟩,⟨2,[45],1,3⟩,⟨1,[50],1,5⟩,⟨2,[45],1,7⟩,⟨1,[51],1,9⟩,⟨4,[],1,10⟩],none⟩:=by
 unfold st0;rw[<-lexN_eq 20 _ _ (by decide),fit_lx]
theorem fit_ex:exF fitT fitR=none:=by
 unfold exF lexF;rw[<-lexN_eq 20 _ _ (by decide),fit_lx];decide
theorem fit_p (w:World) (hop:OpsAt w):Calls Tryz.prog 6 #[] w fun e w'=>e=.returned (.bool true)/\Below w.heap.size w w':=by
 have HX:=h_ (exprs_p 600 (by decide) fitT fitR w (by decide) hop (fun _=>by rw[fit_st];exact fit_c));clear hop;go_enter Tryz.func6,Tryz.ntmps6
 go_wp2_with fail
 refine HX.out.mono ?_;rintro e w1 ⟨hb,hcase⟩;rcases hcase with ⟨f,ev,hf,-,-⟩ | ⟨-,x,rfl,hu⟩
 ·rw[fit_ex] at hf;cases hf
 have HB:=h_ hb;clear hb HX;obtain⟨xk,xnm,xot,xb,xao,xn,xq,xko,xkn,xkc,xln,xcl⟩:=x;rw[fitR,Um] at hu;obtain⟨⟨e1,e2,e3,e4,e5,e6⟩,-,⟨h4,h5,h6⟩,h7⟩:=hu;obtain⟨y,⟨a,ha,hc⟩,hy⟩:=ums_get 0 0 h7 (show 0<2 by decide);clear h7;simp only at e1 e2 e3 e4 e5 e6 h4 h5 h6 ha;obtain⟨yk,ynm,yot,yb,yao,yn,yq,yko,ykn,ykc,yln,ycl⟩:=y;simp only[List.getElem_cons_zero] at hy;rw[Um] at hy;obtain⟨⟨y1,-,-,-,-,-⟩,-,⟨y4,-,-⟩,-⟩:=hy;obtain⟨c0,c1,c2,c3,c4,c5,c6,c7⟩:=cells8 hc;simp only[lsc,lsn] at e1 e6 h4 y1 y4;subst e1 e2 e3 e4 e5 e6 h4 y1 y4 ha;clear hc c1 c2 c3 c4 c6 c7;simp only[Nat.zero_add,Nat.zero_mul,add0] at c0 c5;have ha1:a.block<w1.heap.size:=cell_lt c0;simp only[xv];go_upto_region 2 with fail
 obtain⟨w2,hw⟩:∃ z,z=w1.alloc (.cells #[.int .i64 11,.string ⟨#[]⟩,.string ⟨#[]⟩,.bool false,.slice xao xn xq,.slice (some a) 2 xkc,.int .i64 1,.int .i64 7] 46):=⟨_,rfl⟩
 have hb:Below w1.heap.size w1 w2:=by rw[hw];exact (Below.refl _ _).alloc (Nat.le_refl _) _
 have hk:w2.heap[w1.heap.size]?=some (.cells #[.int .i64 11,.string ⟨#[]⟩,.string ⟨#[]⟩,.bool false,.slice xao xn xq,.slice (some a) 2 xkc,.int .i64 1,.int .i64 7] 46 (0,0)):=by rw[hw];exact made_at w1 _ _ rfl
 rw[<-hw];replace c0:=(hb.cell ha1).trans c0;replace c5:=(hb.cell (show (a.add 5).block<w1.heap.size by rw[add_block];exact ha1)).trans c5;rw[show a.add 5=⟨a.block,a.off+5,none⟩ from rfl] at c5;have x0:=cell_at hk 0 rfl;have x5:=cell_at hk 5 rfl;have x7:=cell_at hk 7 rfl;have HB2:=bw_ HB hb;clear hw hk hb ha1
 go_wp2
 go_ret
 exact⟨rfl,HB2.out⟩
end Go.Proofs.YtkocdbgmckdcpaaGreatDoor
namespace Go.Proofs.YtkocdbgmckdcpaaGreatDoor
set_option maxRecDepth 100000
set_option linter.unusedVariables false
def EvP {α:Type} (f:Nat->Option α) (r:α):Prop:=∃ n,∀ m,n<=m->f m=some r
theorem EvP.succ {α:Type} {f g:Nat->Option α} {r:α} (h:∀ m,f (m+1)=g m) (hg:EvP g r):EvP f r:=by
 obtain⟨n,hn⟩:=hg;refine⟨n+1,fun m hm=>?_⟩;obtain⟨k,rfl⟩:∃ k,m=k+1:=⟨m - 1,by omega⟩
 rw[h];exact hn k (by omega)
theorem EvP.pure {α:Type} (r:α):EvP (fun _=>some r) r:=⟨0,fun _ _=>rfl⟩
theorem EvP.bind {α β:Type} {f:Nat->Option α} {g:Nat->α->Option β} {a:α} {b:β} (hf:EvP f a) (hg:EvP (fun m=>g m a) b):EvP (fun m=>(f m).bind (g m)) b:=by
 obtain⟨n1,h1⟩:=hf;obtain⟨n2,h2⟩:=hg;refine⟨max n1 n2,fun m hm=>?_⟩
 show (f m).bind (g m)=some b
 rw[h1 m (by omega)];exact h2 m (by omega)
abbrev Ab:=Nat × Bs
def abT (t:Tok):Ab:=(t.kind,t.text)
mutual
def stU:U->T
 | .node k nm ot z _ _ ks=>.node k nm ot z (stUs ks)
def stUs:List U->List T
 | []=>[]
 | u::us=>stU u::stUs us
end
def sgA (k:Nat):Ab:=[(2,[]),(3,wTrue),(3,wFalse),(2,[]),(2,wNil),(2,[45]),(3,[110,111,116]),(3,[108,101,110]),(3,[104,100]),(3,[116,108]),(2,[43]),(2,[45]),(2,[42]),(2,[47]),(2,[37]),(2,[61]),(2,[60,62]),(2,[60]),(2,[60,61]),(2,[62]),(2,[62,61]),(2,[38,38]),(2,[124,124]),(2,[58,58])].getD k (2,[])
def brA (want have':Nat) (l:List Ab):List Ab:=if want<=have' then l else (2,wOpen)::(l++[(2,wClose)])
def comA:List (List Ab)->List Ab
 | []=>[]
 | [p]=>p
 | p::q::ps=>p++(2,wComma)::comA (q::ps)
def shA (k:Nat) (nm ot:Bs) (z:Nat) (l:List (List Ab)):List Ab:=
 if k=0 then [(1,Lib.decDigits z)]
 else if k=3 then [(if nm=wV then 3 else 0,nm)]
 else if k<5 then [sgA k]
 else if k<10 then sgA k::l.getD 0 []
 else if k<24 then l.getD 0 []++sgA k::l.getD 1 []
 else if k=24 then (0,nm)::(2,wOpen)::(comA l++[(2,wClose)])
 else if k=25 then (3,wIf)::(l.getD 0 []++(3,wThen)::(l.getD 1 []++(3,wElse)::l.getD 2 []))
 else if k=26 then (3,wLet)::(0,nm)::(2,wEq)::(l.getD 0 []++(3,wIn)::l.getD 1 [])
 else if k=27 then (3,wMatch)::(l.getD 0 []++(3,wWith)::(2,wNil)::(2,wArrow)::(l.getD 1 []++(2,wBar)::(0,nm)::(2,wCons)::(0,ot)::(2,wArrow)::l.getD 2 []))
 else (3,wAssert)::(l.getD 0 []++(2,wSemi)::l.getD 1 [])
mutual
def tb:U->List Ab
 | .node k nm ot z _ _ ks=>shA k nm ot z (tes k 0 ks)
def tes:Nat->Nat->List U->List (List Ab)
 | _,_,[]=>[]
 | k,i,u::us=>brA (rq k i) (lv u.k) (tb u)::tes k (i+1) us
end
def NmP (nm:Bs):Prop:=isW nm=false/\(∃ c r,nm=c::r/\isL c=true)/\(∀ c ∈ nm,isLD c=true)/\nm.length<=40
def Wf:Nat->U->Prop
 | 0,_=>False
 | d+1,.node k nm ot z _ _ ks=>k<29/\((k≠0->z=0)/\(Lib.decDigits z).length<=300)/\(k=3->nm=wV\/NmP nm)/\(k=24\/k=26\/k=27->NmP nm)/\(k=27->NmP ot)/\(k≠3->k<24\/k=25\/k=28->nm=[])/\(k≠27->ot=[])/\(k=24\/ks.length=ar k)/\∀ u ∈ ks,Wf d u
def hd (R:List Tok):Tok:=R.headD tk0
def NoC (R:List Tok):Prop:=(hd R).text≠wOpen
def Stop (R:List Tok):Prop:=NoC R/\bopOf (hd R).text=none
def Req (l least:Nat) (R:List Tok):Prop:=∀ op,bopOf (hd R).text=some op->op.left<=l\/op.level<least
structure PU (u:U):Prop where
 o:∀ ts R e,ts.map abT=brA 7 (lv u.k) (tb u)->NoC R->∃ u',stU u'=stU u/\EvP (fun m=>cOne m ⟨ts++R,e⟩) (u',⟨R,e⟩)
 b:∀ want least ts R e,1<=want->want<=7->least<=want->ts.map abT=brA want (lv u.k) (tb u)->NoC R->(want<=lv u.k->Req (lv u.k) least R)->∃ u' l,stU u'=stU u/\(l=7\/want<=l/\l=lv u.k)/\∀ r,EvP (fun m=>cLoop m least u' l ⟨R,e⟩) r->EvP (fun m=>cBin m least ⟨ts++R,e⟩) r
 x:∀ ts R e,ts.map abT=tb u->Stop R->∃ u',stU u'=stU u/\EvP (fun m=>cExpr m ⟨ts++R,e⟩) (u',⟨R,e⟩)
theorem op_tab (k:Nat) (h1:k<24) (h2:10<=k):(bopOf (sgA k).2).map (fun op=>(op.kind,op.level,op.left,op.right))=some (k,lv k,lft (lv k),rgt (lv k)):=by
 have h:∀ i,i<14->((bopOf (sgA (i+10)).2).map (fun op=>[op.kind,op.level,op.left,op.right])=some [i+10,lv (i+10),lft (lv (i+10)),rgt (lv (i+10))]):=by decide
 have h3:=h (k - 10) (by omega);rw[show k - 10+10=k by omega] at h3;obtain⟨op,ho,he⟩:=Option.map_eq_some_iff.1 h3;rw[ho];simp only[List.cons.injEq,and_true] at he;obtain⟨e1,e2,e3,e4⟩:=he;simp only[Option.map_some,e1,e2,e3,e4]
theorem op_of {k:Nat} (h1:k<24) (h2:10<=k):∃ op,bopOf (sgA k).2=some op/\op.kind=k/\op.level=lv k/\op.left=lft (lv k)/\op.right=rgt (lv k):=by
 have h:=op_tab k h1 h2;obtain⟨op,ho,he⟩:=Option.map_eq_some_iff.1 h;injection he with e1 he;injection he with e2 he;injection he with e3 e4;exact⟨op,ho,e1,e2,e3,e4⟩
theorem op_right:∀ k,k<24->10<=k->∀ op ∈ bops,op.left<=lv k->op.level<rgt (lv k):=by decide
theorem lv_bin:∀ k,k<24->10<=k->1<=lv k/\lv k<=6/\lv k<=rgt (lv k)/\1<=lft (lv k)/\lft (lv k)<=7/\1<=rgt (lv k)/\rgt (lv k)<=7:=by decide
theorem bop_memP {w:Bs} {op:Bop} (h:bopOf w=some op):op ∈ bops:=List.mem_of_find?_eq_some h
theorem loop_end {least l:Nat} {u:U} {R:List Tok} {e:Option (Nat × Nat × Nat)} (h:∀ op,bopOf (hd R).text=some op->op.level<least\/l<op.left):EvP (fun m=>cLoop m least u l ⟨R,e⟩) (u,⟨R,e⟩):=by
 refine EvP.succ (g:=fun _=>some (u,⟨R,e⟩)) (fun m=>?_) (EvP.pure _);rw[cLoop]
 show (match bopOf (hd R).text with | none=>_ | some op=>_)=_
 cases hb:bopOf (hd R).text with
 | none=>rfl
 | some op=>simp only;rw[if_pos (h op hb)]
theorem nx_cons (t:Tok) (ts:List Tok) (e:Option (Nat × Nat × Nat)):(St.mk (t::ts) e).nx=t:=rfl
theorem tk_cons {t:Tok} {ts:List Tok} {e:Option (Nat × Nat × Nat)} (h:t.kind≠4):(St.mk (t::ts) e).tk=⟨ts,e⟩:=by
 unfold St.tk;rw[nx_cons,if_neg h];rfl
theorem is_cons (t:Tok) (ts:List Tok) (e:Option (Nat × Nat × Nat)) (w:Bs):(St.mk (t::ts) e).is w=(t.text==w):=rfl
theorem isn_P {t:Tok} {ts:List Tok} {e:Option (Nat × Nat × Nat)} {w:Bs} (h:t.text≠w):¬ (St.mk (t::ts) e).is w=true:=by rw[is_cons,beq_iff_eq];exact h
theorem isy_P {t:Tok} {ts:List Tok} {e:Option (Nat × Nat × Nat)} {w:Bs} (h:t.text=w):(St.mk (t::ts) e).is w=true:=by rw[is_cons,beq_iff_eq];exact h
theorem exp_cons {t:Tok} {ts:List Tok} {e:Option (Nat × Nat × Nat)} {w:Bs} (h:t.kind≠4) (hw:t.text=w):(St.mk (t::ts) e).exp w=⟨ts,e⟩:=by
 unfold St.exp;rw[is_cons,hw,beq_self_eq_true,if_pos rfl,tk_cons h]
theorem name_cons {t:Tok} {ts:List Tok} {e:Option (Nat × Nat × Nat)} (h:t.kind=0):(St.mk (t::ts) e).name=⟨ts,e⟩:=by
 unfold St.name;rw[nx_cons,if_pos h,tk_cons (by omega)]
theorem map_cons {ts:List Tok} {a:Ab} {l:List Ab} (h:ts.map abT=a::l):∃ t ts',ts=t::ts'/\t.kind=a.1/\t.text=a.2/\ts'.map abT=l:=by
 cases ts with
 | nil=>cases h
 | cons t ts' =>
  rw[List.map_cons] at h;injection h with h1 h2;subst h1;exact⟨t,ts',rfl,rfl,rfl,h2⟩
theorem map_app {ts:List Tok} {l1 l2:List Ab} (h:ts.map abT=l1++l2):∃ t1 t2,ts=t1++t2/\t1.map abT=l1/\t2.map abT=l2:=by
 obtain⟨t1,t2,h1,h2,h3⟩:=List.map_eq_append_iff.1 h;exact⟨t1,t2,h1,h2,h3⟩
theorem map_nil {ts:List Tok} (h:ts.map abT=[]):ts=[]:=List.map_eq_nil_iff.1 h
theorem tes_at (k:Nat):∀ (ks:List U) (i j:Nat) (h:j<ks.length),(tes k i ks).getD j []=brA (rq k (i+j)) (lv ks[j].k) (tb ks[j])
 | [],_,_,h=>by cases h
 | u::us,i,0,_=>by rw[tes];rfl
 | u::us,i,j+1,h=>by
  rw[tes]
  show (tes k (i+1) us).getD j []=_
  rw[tes_at k us (i+1) j (by simpa using h)];rw[show i+1+j=i+(j+1) by omega];rfl
theorem un_tab:∀ k,k<10->5<=k->unOf (sgA k).2=some k/\(sgA k).1≠4/\(sgA k).2≠wOpen:=by decide
theorem sg_kind:∀ k,k<24->(sgA k).1≠4/\(sgA k).1≠0/\(sgA k).1≠1/\(sgA k).2≠wOpen:=by decide
theorem nm_ne {nm w:Bs} (h:NmP nm) (hw:isW w=true\/w.head?.map isL≠some true):nm≠w:=by
 obtain⟨h1,⟨c,r,rfl,h2⟩,-⟩:=h;rintro rfl;rcases hw with hw | hw
 ·rw[h1] at hw;cases hw
 exact hw (by simp[h2])
theorem dig_ne {z:Nat} {w:Bs} (hw:w.head?.map isD≠some true):Lib.decDigits z≠w:=by
 obtain⟨h1,-,h3,-⟩:=dn_dec z;rintro rfl
 cases hd:Lib.decDigits z with
 | nil=>exact h3 hd
 | cons c r =>
  rw[hd] at hw h1;refine hw ?_;have:=h1 c (by simp);simp only[List.head?_cons,Option.map_some,isD,Option.some.injEq,Bool.and_eq_true,decide_eq_true_eq];exact⟨UInt8.le_iff_toNat_le.2 this.1,UInt8.le_iff_toNat_le.2 this.2⟩
theorem is_mk (R:List Tok) (e:Option (Nat × Nat × Nat)) (w:Bs):(St.mk R e).is w=((hd R).text==w):=rfl
theorem one_atom {t:Tok} {ts:List Tok} {e:Option (Nat × Nat × Nat)} {r:U × St} (hu:unOf t.text=none) (h:EvP (fun m=>cAtom m ⟨t::ts,e⟩) r):EvP (fun m=>cOne m ⟨t::ts,e⟩) r:=by
 refine EvP.succ (fun m=>?_) h;rw[cOne]
 show (match unOf t.text with | none=>_ | some k=>_)=_
 rw[hu]
theorem atom_sgn:∀ k,k<5->(k=1\/k=2\/k=4)->unOf (sgA k).2=none/\(sgA k).2≠wV:=by decide
theorem unOf_nm {nm:Bs} (h:NmP nm):unOf nm=none:=by
 unfold unOf;rw[if_neg (nm_ne h (.inr (by decide))),if_neg (nm_ne h (.inl (by decide))),if_neg (nm_ne h (.inl (by decide))),if_neg (nm_ne h (.inl (by decide))),if_neg (nm_ne h (.inl (by decide)))]
theorem unOf_dig (z:Nat):unOf (Lib.decDigits z)=none:=by
 unfold unOf;rw[if_neg (dig_ne (by decide)),if_neg (dig_ne (by decide)),if_neg (dig_ne (by decide)),if_neg (dig_ne (by decide)),if_neg (dig_ne (by decide))]
theorem atom_num {t:Tok} {R:List Tok} {e:Option (Nat × Nat × Nat)} {z:Nat} (hk:t.kind=1) (ht:t.text=Lib.decDigits z):EvP (fun m=>cOne m ⟨t::R,e⟩) (.node 0 [] [] z t.line t.col [],⟨R,e⟩):=by
 refine one_atom (by rw[ht];exact unOf_dig z) (EvP.succ (g:=fun _=>some (.node 0 [] [] z t.line t.col [],⟨R,e⟩)) (fun m=>?_) (EvP.pure _));rw[cAtom,nx_cons,if_pos hk,tk_cons (by omega),ht,(dn_dec z).2.1]
theorem atom_var {t:Tok} {R:List Tok} {e:Option (Nat × Nat × Nat)} {nm:Bs} (hn:nm=wV\/NmP nm) (hk:t.kind=if nm=wV then 3 else 0) (ht:t.text=nm) (hR:NoC R):EvP (fun m=>cOne m ⟨t::R,e⟩) (.node 3 nm [] 0 t.line t.col [],⟨R,e⟩):=by
 have hu:unOf t.text=none:=by
  rw[ht];rcases hn with h | h
  ·rw[h];decide
  exact unOf_nm h
 refine one_atom hu (EvP.succ (g:=fun _=>some (.node 3 nm [] 0 t.line t.col [],⟨R,e⟩)) (fun m=>?_) (EvP.pure _));rw[cAtom,nx_cons]
 by_cases hv:nm=wV
 ·rw[if_pos hv] at hk;rw[if_neg (by omega),if_neg (by omega),is_cons,if_pos (by rw[ht,hv];rfl),tk_cons (by omega)];unfold nmd;rw[ht]
 rw[if_neg hv] at hk;rw[if_neg (by omega),if_pos hk,tk_cons (by omega),is_mk,if_neg (by rw[beq_iff_eq];exact hR)];unfold nmd;rw[ht]
theorem atom_sg {k:Nat} (h1:k=1\/k=2\/k=4) {t:Tok} {R:List Tok} {e:Option (Nat × Nat × Nat)} (ha:t.kind=(sgA k).1) (ht:t.text=(sgA k).2):EvP (fun m=>cOne m ⟨t::R,e⟩) (.node k [] [] 0 t.line t.col [],⟨R,e⟩):=by
 have h5:k<5:=by omega
 obtain⟨hu,hv⟩:=atom_sgn k h5 h1;obtain⟨s1,s2,s3,-⟩:=sg_kind k (by omega);refine one_atom (by rw[ht];exact hu) (EvP.succ (g:=fun _=>some (.node k [] [] 0 t.line t.col [],⟨R,e⟩)) (fun m=>?_) (EvP.pure _));rw[cAtom,nx_cons,if_neg (by rw[ha];exact s3),if_neg (by rw[ha];exact s2),tk_cons (by rw[ha];exact s1)];rw[if_neg (isn_P (by rw[ht];exact hv))];unfold prt;rcases h1 with rfl | rfl | rfl
 ·rw[if_pos (isy_P (by rw[ht];rfl))]
 ·rw[if_neg (isn_P (by rw[ht];decide)),if_pos (isy_P (by rw[ht];rfl))]
 rw[if_neg (isn_P (by rw[ht];decide)),if_neg (isn_P (by rw[ht];decide)),if_pos (isy_P (by rw[ht];rfl))]
theorem tes24 {k:Nat} (hk:24<=k):∀ (us:List U) (i:Nat),tes k i us=us.map tb
 | [],_=>by rw[tes];rfl
 | u::us,i=>by
  rw[tes,tes24 hk us (i+1),List.map_cons];have:rq k i=0:=by unfold rq;rw[if_neg (by omega),if_neg (by omega)]
  rw[this];unfold brA;rw[if_pos (Nat.zero_le _)]
theorem com_cons (p:List Ab):∀ ps:List (List Ab),comA (p::ps)=p++ps.flatMap (fun q=>(2,wComma)::q)
 | []=>by rw[comA];simp
 | q::ps=>by rw[comA,com_cons q ps,List.flatMap_cons];simp
theorem stop_of {t:Tok} {R:List Tok} (h1:t.text≠wOpen) (h2:bopOf t.text=none):Stop (t::R):=⟨h1,h2⟩
theorem more_ok:∀ (us:List U),(∀ u ∈ us,PU u)->∀ (ts R:List Tok) (e:Option (Nat × Nat × Nat)) (acc:List U),ts.map abT=(us.map tb).flatMap (fun q=>(2,wComma)::q)++[(2,wClose)]->∃ us',stUs us'=stUs us/\EvP (fun m=>cMore m acc ⟨ts++R,e⟩) (acc++us',⟨R,e⟩)
 | [],_,ts,R,e,acc,h=>by
  obtain⟨t,ts',rfl,h1,h2,h3⟩:=map_cons h;obtain rfl:=map_nil h3;refine⟨[],rfl,EvP.succ (g:=fun _=>some (acc++[],⟨R,e⟩)) (fun m=>?_) (EvP.pure _)⟩;rw[cMore,List.cons_append,is_cons,if_neg (by rw[beq_iff_eq,h2];decide),exp_cons (by rw[h1];decide) h2,List.append_nil];rfl
 | u::us,hu,ts,R,e,acc,h=>by
  rw[List.map_cons,List.flatMap_cons,List.cons_append,List.cons_append,List.append_assoc] at h;obtain⟨t,ts1,rfl,h1,h2,h3⟩:=map_cons h;obtain⟨t1,t2,rfl,h4,h5⟩:=map_app h3
  have hS:Stop (t2++R):=by
   cases us with
   | nil=>obtain⟨q,qs,rfl,q1,q2,q3⟩:=map_cons h5;exact stop_of (by rw[q2];decide) (by rw[q2];decide)
   | cons v vs=>rw[List.map_cons,List.flatMap_cons,List.cons_append,List.cons_append] at h5;obtain⟨q,qs,rfl,q1,q2,q3⟩:=map_cons h5;exact stop_of (by rw[q2];decide) (by rw[q2];decide)
  obtain⟨u',hs,hx⟩:=(hu u (by simp)).x t1 (t2++R) e h4 hS;obtain⟨us',hs2,hm⟩:=more_ok us (fun v hv=>hu v (by simp[hv])) t2 R e (acc++[u']) h5;refine⟨u'::us',by rw[stUs,stUs,hs,hs2],EvP.succ (g:=fun m=>(cExpr m ⟨t1++(t2++R),e⟩).bind fun r=>cMore m (acc++[r.1]) r.2) (fun m=>?_) ?_⟩
  ·rw[cMore,List.cons_append,is_cons,if_pos (by rw[beq_iff_eq,h2]),tk_cons (by rw[h1];decide),List.append_assoc]
  refine EvP.bind hx ?_;rw[show acc++u'::us'=acc++[u']++us' by simp];exact hm
theorem args_ok (us:List U) (hu:∀ u ∈ us,PU u) (ts R:List Tok) (e:Option (Nat × Nat × Nat)) (h:ts.map abT=comA (us.map tb)++[(2,wClose)]) (hf:∀ u ∈ us,∃ a l,tb u=a::l/\a.2≠wClose):∃ us',stUs us'=stUs us/\EvP (fun m=>cArgs m ⟨ts++R,e⟩) (us',⟨R,e⟩):=by
 cases us with
 | nil =>
  obtain⟨t,ts',rfl,h1,h2,h3⟩:=map_cons (show ts.map abT=(2,wClose)::[] from h);obtain rfl:=map_nil h3;refine⟨[],rfl,EvP.succ (g:=fun _=>some ([],⟨R,e⟩)) (fun m=>?_) (EvP.pure _)⟩;rw[cArgs,List.cons_append,if_pos (isy_P h2),tk_cons (by rw[h1];decide)];rfl
 | cons u us =>
  rw[List.map_cons,com_cons,List.append_assoc] at h;obtain⟨t1,t2,rfl,h4,h5⟩:=map_app h
  have hS:Stop (t2++R):=by
   cases us with
   | nil=>obtain⟨q,qs,rfl,q1,q2,q3⟩:=map_cons h5;exact stop_of (by rw[q2];decide) (by rw[q2];decide)
   | cons v vs=>rw[List.map_cons,List.flatMap_cons,List.cons_append,List.cons_append] at h5;obtain⟨q,qs,rfl,q1,q2,q3⟩:=map_cons h5;exact stop_of (by rw[q2];decide) (by rw[q2];decide)
  obtain⟨u',hs,hx⟩:=(hu u (by simp)).x t1 (t2++R) e h4 hS;obtain⟨us',hs2,hm⟩:=more_ok us (fun v hv=>hu v (by simp[hv])) t2 R e [u'] h5;refine⟨u'::us',by rw[stUs,stUs,hs,hs2],EvP.succ (g:=fun m=>(cExpr m ⟨t1++(t2++R),e⟩).bind fun r=>cMore m [r.1] r.2) (fun m=>?_) (EvP.bind hx hm)⟩;obtain⟨a,l,ha,hc⟩:=hf u (by simp);rw[ha] at h4;obtain⟨t,ts1,rfl,q1,q2,q3⟩:=map_cons h4;rw[cArgs,List.append_assoc,List.cons_append,if_neg (isn_P (by rw[q2];exact hc))]
theorem lv_7:∀ k,k<29->(7<=lv k ↔ k<10\/k=24)/\(1<=lv k ↔ k<25)/\(lv k<7->lv k<=6):=by decide
theorem ar_tab:∀ k,k<29->(k<5->ar k=0)/\(5<=k->k<10->ar k=1)/\(10<=k->k<24->ar k=2)/\(k=25\/k=27->ar k=3)/\(k=26\/k=28->ar k=2):=by decide
theorem len1 {ks:List U} (h:ks.length=1):∃ a,ks=[a]:=by match ks,h with | [a],_=>exact⟨a,rfl⟩
theorem len2 {ks:List U} (h:ks.length=2):∃ a b,ks=[a,b]:=by match ks,h with | [a,b],_=>exact⟨a,b,rfl⟩
theorem len3 {ks:List U} (h:ks.length=3):∃ a b c,ks=[a,b,c]:=by match ks,h with | [a,b,c],_=>exact⟨a,b,c,rfl⟩
theorem st1P {a a':U} (h:stU a'=stU a):stUs [a']=stUs [a]:=by simp only[stUs,h]
theorem st2P {a a' b b':U} (h:stU a'=stU a) (h2:stU b'=stU b):stUs [a',b']=stUs [a,b]:=by simp only[stUs,h,h2]
theorem st3P {a a' b b' c c':U} (h:stU a'=stU a) (h2:stU b'=stU b) (h3:stU c'=stU c):stUs [a',b',c']=stUs [a,b,c]:=by simp only[stUs,h,h2,h3]
theorem st_node (k:Nat) (nm ot:Bs) (z ln cl ln' cl':Nat) {ks ks':List U} (h:stUs ks'=stUs ks):stU (.node k nm ot z ln' cl' ks')=stU (.node k nm ot z ln cl ks):=by rw[stU,stU,h]
theorem one_bare {d:Nat} {k:Nat} {nm ot:Bs} {z ln cl:Nat} {ks:List U} (hw:Wf (d+1) (.node k nm ot z ln cl ks)) (hP:∀ v ∈ ks,PU v) (hC:∀ v ∈ ks,∃ a l,tb v=a::l/\a.2≠wClose) (h7:7<=lv k) (ts R:List Tok) (e:Option (Nat × Nat × Nat)) (h:ts.map abT=tb (.node k nm ot z ln cl ks)) (hR:NoC R):∃ u',stU u'=stU (.node k nm ot z ln cl ks)/\EvP (fun m=>cOne m ⟨ts++R,e⟩) (u',⟨R,e⟩):=by
 rw[Wf] at hw;obtain⟨hk,w1,w2,w3,w4,w5,w6,w7,w8⟩:=hw;obtain⟨a1,a2,a3,a4,a5⟩:=ar_tab k hk;rw[tb] at h;unfold shA at h;have hk7:=(lv_7 k hk).1.1 h7
 by_cases h0:k=0
 ·rw[if_pos h0] at h;subst h0;have hks:ks=[]:=List.length_eq_zero_iff.1 (by rcases w7 with h | h;cases h;rw[h];rfl);subst hks;have hnm:nm=[]:=w5 (by decide) (.inl (by decide));have hot:ot=[]:=w6 (by decide);subst hnm;subst hot;obtain⟨t,ts',rfl,q1,q2,q3⟩:=map_cons h;obtain rfl:=map_nil q3;exact⟨_,st_node 0 [] [] z ln cl t.line t.col rfl,atom_num q1 q2⟩
 rw[if_neg h0] at h;have hz:z=0:=w1.1 h0;subst hz
 by_cases h3:k=3
 ·rw[if_pos h3] at h;subst h3;have hks:ks=[]:=List.length_eq_zero_iff.1 (by rcases w7 with h | h;cases h;rw[h];rfl);subst hks;have hot:ot=[]:=w6 (by decide);subst hot;obtain⟨t,ts',rfl,q1,q2,q3⟩:=map_cons h;obtain rfl:=map_nil q3;exact⟨_,st_node 3 nm [] 0 ln cl t.line t.col rfl,atom_var (w2 rfl) q1 q2 hR⟩
 rw[if_neg h3] at h;have hot:ot=[]:=w6 (by omega);subst hot
 by_cases h5:k<5
 ·rw[if_pos h5] at h;have hks:ks=[]:=List.length_eq_zero_iff.1 (by rcases w7 with h | h;omega;rw[h];exact a1 h5);subst hks;have hnm:nm=[]:=w5 h3 (.inl (by omega));subst hnm;obtain⟨t,ts',rfl,q1,q2,q3⟩:=map_cons h;obtain rfl:=map_nil q3;exact⟨_,st_node k [] [] 0 ln cl t.line t.col rfl,atom_sg (by omega) q1 q2⟩
 rw[if_neg h5] at h
 by_cases h10:k<10
 ·rw[if_pos h10] at h;obtain⟨a,rfl⟩:=len1 (ks:=ks) (by rcases w7 with h | h;omega;rw[h];exact a2 (by omega) h10);have hnm:nm=[]:=w5 h3 (.inl (by omega));subst hnm;obtain⟨hu,hu4,huo⟩:=un_tab k h10 (by omega);obtain⟨t,ts1,rfl,q1,q2,q3⟩:=map_cons h;rw[tes_at k [a] 0 0 (by simp)] at q3
  have hrq:rq k (0+0)=7:=by
   unfold rq;rw[if_pos h10];have h9:∀ i,i<10->5<=i->lv i=7:=by decide
   exact h9 k h10 (by omega)
  rw[hrq] at q3;obtain⟨a',hs,hx⟩:=(hP a (by simp)).o ts1 R e q3 hR;refine⟨.node k [] [] 0 t.line t.col [a'],st_node k [] [] 0 ln cl _ _ (st1P hs),EvP.succ (g:=fun m=>(cOne m ⟨ts1++R,e⟩).bind fun r=>some (prt k t [r.1],r.2)) (fun m=>?_) (EvP.bind hx (EvP.pure _))⟩;rw[cOne,List.cons_append]
  show (match unOf t.text with | none=>_ | some k=>_)=_
  rw[q2,hu];simp only;rw[tk_cons (by rw[q1];exact hu4)];rfl
 have h24:k=24:=by omega
 subst h24;rw[if_neg h10,if_neg (by decide),if_pos rfl] at h;obtain⟨t,ts1,rfl,q1,q2,q3⟩:=map_cons h;obtain⟨t2,ts2,rfl,p1,p2,p3⟩:=map_cons q3;rw[tes24 (by decide) ks 0] at p3;have hN:NmP nm:=w3 (.inl rfl);obtain⟨us',hs,hx⟩:=args_ok ks hP ts2 R e p3 hC;refine⟨.node 24 nm [] 0 t.line t.col us',st_node 24 nm [] 0 ln cl _ _ hs,?_⟩;refine one_atom (by rw[q2];exact unOf_nm hN) (EvP.succ (g:=fun m=>(cArgs m ⟨ts2++R,e⟩).bind fun r=>some (nmd 24 t r.1,r.2)) (fun m=>?_) ?_)
 ·have q0:t.kind=0:=q1;rw[cAtom]
  show (if t.kind=1 then _ else if t.kind=0 then (if (St.mk (t::(t2::(ts2++R))) e).tk.is wOpen=true then (cArgs m (St.mk (t::(t2::(ts2++R))) e).tk.tk).bind (fun r=>some (nmd 24 t r.1,r.2)) else _) else _)=_
  rw[if_neg (by rw[q0];decide),if_pos q0,tk_cons (by rw[q0];decide),if_pos (isy_P p2),tk_cons (by rw[p1];decide)]
 refine EvP.bind hx ?_;have:nmd 24 t us'=.node 24 nm [] 0 t.line t.col us':=by unfold nmd;rw[q2]
 simp only[this];exact EvP.pure _
def FO (u:U):Prop:=∃ a l,tb u=a::l/\a.2≠wClose/\(1<=lv u.k->a.2≠wLet/\a.2≠wIf/\a.2≠wMatch/\a.2≠wAssert)
theorem FO.br {u:U} (h:FO u) {want:Nat} (hw:1<=want):∃ a l,brA want (lv u.k) (tb u)=a::l/\a.2≠wClose/\a.2≠wLet/\a.2≠wIf/\a.2≠wMatch/\a.2≠wAssert:=by
 obtain⟨a,l,h1,h2,h3⟩:=h;unfold brA
 by_cases hl:want<=lv u.k
 ·rw[if_pos hl];exact⟨a,l,h1,h2,h3 (by omega)⟩
 rw[if_neg hl];exact⟨_,_,rfl,by show wOpen≠wClose;decide,by show wOpen≠wLet;decide,by show wOpen≠wIf;decide,by show wOpen≠wMatch;decide,by show wOpen≠wAssert;decide⟩
theorem sg_first:∀ k,k<24->(sgA k).2≠wClose/\(sgA k).2≠wLet/\(sgA k).2≠wIf/\(sgA k).2≠wMatch/\(sgA k).2≠wAssert:=by decide
theorem rq_bin:∀ k,k<24->10<=k->rq k 0=lft (lv k)/\rq k 1=rgt (lv k)/\lv k<=lft (lv k):=by decide
theorem first_ok:∀ (d:Nat) (u:U),Wf d u->FO u
 | 0,_,h=>by rw[Wf] at h;exact h.elim
 | d+1,.node k nm ot z ln cl ks,h=>by
  rw[Wf] at h;obtain⟨hk,w1,w2,w3,w4,w5,w6,w7,w8⟩:=h;unfold FO;rw[tb];unfold shA;have hN:NmP nm->nm≠wClose/\nm≠wLet/\nm≠wIf/\nm≠wMatch/\nm≠wAssert:=fun h=>⟨nm_ne h (.inr (by decide)),nm_ne h (.inl (by decide)),nm_ne h (.inl (by decide)),nm_ne h (.inl (by decide)),nm_ne h (.inl (by decide))⟩
  by_cases h0:k=0
  ·rw[if_pos h0];exact⟨_,_,rfl,dig_ne (by decide),fun _=>⟨dig_ne (by decide),dig_ne (by decide),dig_ne (by decide),dig_ne (by decide)⟩⟩
  rw[if_neg h0]
  by_cases h3:k=3
  ·rw[if_pos h3];rcases w2 h3 with rfl | hn
   ·exact⟨_,_,rfl,by show wV≠wClose;decide,fun _=>⟨by show wV≠wLet;decide,by show wV≠wIf;decide,by show wV≠wMatch;decide,by show wV≠wAssert;decide⟩⟩
   exact⟨_,_,rfl,(hN hn).1,fun _=>(hN hn).2⟩
  rw[if_neg h3]
  by_cases h5:k<5
  ·rw[if_pos h5];obtain⟨s0,s1⟩:=sg_first k (by omega);exact⟨_,_,rfl,s0,fun _=>s1⟩
  rw[if_neg h5]
  by_cases h10:k<10
  ·rw[if_pos h10];obtain⟨s0,s1⟩:=sg_first k (by omega);exact⟨_,_,rfl,s0,fun _=>s1⟩
  rw[if_neg h10]
  by_cases h24:k<24
  ·rw[if_pos h24];obtain⟨a,b,rfl⟩:=len2 (ks:=ks) (by rcases w7 with h | h;omega;rw[h];exact (ar_tab k hk).2.2.1 (by omega) h24);rw[tes_at k [a,b] 0 0 (by simp)];obtain⟨q1,q2,q3⟩:=rq_bin k h24 (by omega);rw[show 0+0=0 from rfl,q1];obtain⟨x,l,e1,e2,e3⟩:=(first_ok d a (w8 a (by simp))).br (want:=lft (lv k)) (by have:=(lv_bin k h24 (by omega)).1;omega);refine⟨x,l++sgA k::(tes k 0 [a,b]).getD 1 [],?_,e2,fun _=>e3⟩
   show brA (lft (lv k)) (lv a.k) (tb a)++_=_
   rw[e1];rfl
  rw[if_neg h24]
  by_cases hc:k=24
  ·rw[if_pos hc];exact⟨_,_,rfl,(hN (w3 (.inl hc))).1,fun _=>(hN (w3 (.inl hc))).2⟩
  have hlv:lv k=0:=by
   have h:∀ i,i<29->25<=i->lv i=0:=by decide
   exact h k hk (by omega)
  rw[if_neg hc]
  by_cases h25:k=25
  ·rw[if_pos h25];exact⟨_,_,rfl,by show wIf≠wClose;decide,fun h=>by rw[show lv (U.node k nm ot z ln cl ks).k=lv k from rfl] at h;omega⟩
  rw[if_neg h25]
  by_cases h26:k=26
  ·rw[if_pos h26];exact⟨_,_,rfl,by show wLet≠wClose;decide,fun h=>by rw[show lv (U.node k nm ot z ln cl ks).k=lv k from rfl] at h;omega⟩
  rw[if_neg h26]
  by_cases h27:k=27
  ·rw[if_pos h27];exact⟨_,_,rfl,by show wMatch≠wClose;decide,fun h=>by rw[show lv (U.node k nm ot z ln cl ks).k=lv k from rfl] at h;omega⟩
  rw[if_neg h27];exact⟨_,_,rfl,by show wAssert≠wClose;decide,fun h=>by rw[show lv (U.node k nm ot z ln cl ks).k=lv k from rfl] at h;omega⟩
theorem bin_bare {d:Nat} {k:Nat} {nm ot:Bs} {z ln cl:Nat} {ks:List U} (hw:Wf (d+1) (.node k nm ot z ln cl ks)) (hP:∀ v ∈ ks,PU v) (h10:10<=k) (h24:k<24) (least:Nat) (hl:least<=lv k) (ts R:List Tok) (e:Option (Nat × Nat × Nat)) (h:ts.map abT=tb (.node k nm ot z ln cl ks)) (hR:NoC R) (hq:Req (lv k) least R) :
  ∃ u',stU u'=stU (.node k nm ot z ln cl ks)/\∀ r,EvP (fun m=>cLoop m least u' (lv k) ⟨R,e⟩) r->EvP (fun m=>cBin m least ⟨ts++R,e⟩) r:=by
 rw[Wf] at hw;obtain⟨hk,w1,w2,w3,w4,w5,w6,w7,w8⟩:=hw;obtain⟨a,b,rfl⟩:=len2 (ks:=ks) (by rcases w7 with h | h;omega;rw[h];exact (ar_tab k hk).2.2.1 h10 h24);have hz:z=0:=w1.1 (by omega);have hnm:nm=[]:=w5 (by omega) (.inl h24);have hot:ot=[]:=w6 (by omega);subst hz;subst hnm;subst hot;obtain⟨q1,q2,q3⟩:=rq_bin k h24 h10;obtain⟨v1,v2,v3,v4,v5,v6,v7⟩:=lv_bin k h24 h10;rw[tb] at h;unfold shA at h;rw[if_neg (by omega),if_neg (by omega),if_neg (by omega),if_neg (by omega),if_pos h24,tes_at k [a,b] 0 0 (by simp),tes_at k [a,b] 0 1 (by simp),show 0+0=0 from rfl,show 0+1=1 from rfl,q1,q2] at h;obtain⟨t1,ts1,rfl,h1,h2⟩:=map_app h;obtain⟨t,t2,rfl,p1,p2,p3⟩:=map_cons h2;obtain⟨op,o1,o2,o3,o4,o5⟩:=op_of h24 h10;have o1':bopOf t.text=some op:=by rw[p2];exact o1
 have hs24:=sg_kind k h24
 obtain⟨a',la,ha1,ha2,ha3⟩:=(hP a (by simp)).b (lft (lv k)) least t1 (t::(t2++R)) e v4 v5 (by omega) h1 (by show t.text≠wOpen;rw[p2];exact hs24.2.2.2) (fun hle op2 h2=>by
  rw[show bopOf (hd (t::(t2++R))).text=bopOf t.text from rfl,o1'] at h2
  injection h2 with h2;subst h2;exact .inl (by rw[o4];exact hle))
 have hstop:∀ op2,bopOf (hd R).text=some op2->op2.level<rgt (lv k):=fun op2 h2=>by
  rcases hq op2 h2 with h3 | h3
  ·exact op_right k h24 h10 op2 (bop_memP h2) h3
  omega
 obtain⟨b',lb,hb1,hb2,hb3⟩:=(hP b (by simp)).b (rgt (lv k)) (rgt (lv k)) t2 R e v6 v7 (Nat.le_refl _) p3 hR (fun _ op2 h2=>.inr (hstop op2 h2));have hb:=hb3 _ (loop_end (e:=e) (fun op2 h2=>.inl (hstop op2 h2)));refine⟨.node k [] [] 0 t.line t.col [a',b'],st_node k [] [] 0 ln cl _ _ (st2P ha1 hb1),fun r hr=>?_⟩;rw[List.append_assoc];refine ha3 r (EvP.succ (g:=fun m=>(cBin m (rgt (lv k)) ⟨t2++R,e⟩).bind fun r=>cLoop m least (prt k t [a',r.1]) (lv k) r.2) (fun m=>?_) (EvP.bind hb hr));rw[cLoop]
 show (match bopOf t.text with | none=>_ | some op=>_)=_
 rw[o1'];simp only;rw[if_neg (by rw[o3,o4];omega),tk_cons (by rw[p1];exact hs24.1),o2,o3,o5];rfl
theorem phr_bare {d:Nat} {k:Nat} {nm ot:Bs} {z ln cl:Nat} {ks:List U} (hw:Wf (d+1) (.node k nm ot z ln cl ks)) (hP:∀ v ∈ ks,PU v) (h25:25<=k) (ts R:List Tok) (e:Option (Nat × Nat × Nat)) (h:ts.map abT=tb (.node k nm ot z ln cl ks)) (hR:Stop R) :
  ∃ u',stU u'=stU (.node k nm ot z ln cl ks)/\EvP (fun m=>cExpr m ⟨ts++R,e⟩) (u',⟨R,e⟩):=by
 rw[Wf] at hw;obtain⟨hk,w1,w2,w3,w4,w5,w6,w7,w8⟩:=hw;have hz:z=0:=w1.1 (by omega);subst hz;have ht:=ar_tab k hk;rw[tb,tes24 (by omega) ks 0] at h;unfold shA at h;rw[if_neg (by omega),if_neg (by omega),if_neg (by omega),if_neg (by omega),if_neg (by omega),if_neg (by omega)] at h
 by_cases k25:k=25
 ·subst k25;obtain⟨a,b,c,rfl⟩:=len3 (ks:=ks) (by rcases w7 with h | h;omega;rw[h];exact ht.2.2.2.1 (.inl rfl));have hnm:nm=[]:=w5 (by decide) (.inr (.inl rfl));have hot:ot=[]:=w6 (by decide);subst hnm;subst hot;rw[if_pos rfl] at h;obtain⟨t,ts1,rfl,q1,q2,q3⟩:=map_cons h;obtain⟨xa,ts2,rfl,ha,q4⟩:=map_app (l1:=tb a) q3;obtain⟨t2,ts3,rfl,r1,r2,r3⟩:=map_cons q4;obtain⟨xb,ts4,rfl,hb,r4⟩:=map_app (l1:=tb b) r3;obtain⟨t3,xc,rfl,s1,s2,hc⟩:=map_cons r4;have n1:t.kind≠4:=by rw[show t.kind=3 from q1];decide
  have n2:t2.kind≠4:=by rw[show t2.kind=3 from r1];decide
  have n3:t3.kind≠4:=by rw[show t3.kind=3 from s1];decide
  have q2':t.text=wIf:=q2;have r2':t2.text=wThen:=r2;have s2':t3.text=wElse:=s2;obtain⟨a',ha1,ha2⟩:=(hP a (by simp)).x xa (t2::(xb++t3::(xc++R))) e ha (stop_of (by rw[r2'];decide) (by rw[r2'];decide));obtain⟨b',hb1,hb2⟩:=(hP b (by simp)).x xb (t3::(xc++R)) e hb (stop_of (by rw[s2'];decide) (by rw[s2'];decide));obtain⟨c',hc1,hc2⟩:=(hP c (by simp)).x xc R e hc hR;refine⟨.node 25 [] [] 0 t.line t.col [a',b',c'],st_node 25 [] [] 0 ln cl _ _ (st3P ha1 hb1 hc1),?_⟩;have es:t::(xa++t2::(xb++t3::xc))++R=t::(xa++t2::(xb++t3::(xc++R))):=by simp
  rw[es];refine EvP.succ (g:=fun m=>cIf m ⟨t::(xa++t2::(xb++t3::(xc++R))),e⟩) (fun m=>by rw[cExpr,if_neg (isn_P (by rw[q2'];decide)),if_pos (isy_P q2')]) ?_;refine EvP.succ (g:=fun m=>(cExpr m ⟨xa++t2::(xb++t3::(xc++R)),e⟩).bind fun r1=>(cExpr m (r1.2.exp wThen)).bind fun r2=>(cExpr m (r2.2.exp wElse)).bind fun r3=>some (prt 25 t [r1.1,r2.1,r3.1],r3.2)) (fun m=>by rw[cIf,tk_cons n1];rfl) ?_;refine EvP.bind ha2 ?_;simp only[exp_cons n2 r2'];refine EvP.bind hb2 ?_;simp only[exp_cons n3 s2'];exact EvP.bind hc2 (EvP.pure _)
 rw[if_neg k25] at h
 by_cases k26:k=26
 ·subst k26;obtain⟨a,b,rfl⟩:=len2 (ks:=ks) (by rcases w7 with h | h;omega;rw[h];exact ht.2.2.2.2 (.inl rfl));have hot:ot=[]:=w6 (by decide);subst hot;rw[if_pos rfl] at h;obtain⟨t,ts1,rfl,q1,q2,q3⟩:=map_cons h;obtain⟨t1,ts2,rfl,p1,p2,p3⟩:=map_cons q3;obtain⟨t0,ts3,rfl,o1,o2,o3⟩:=map_cons p3;obtain⟨xa,ts4,rfl,ha,q4⟩:=map_app (l1:=tb a) o3;obtain⟨t2,xb,rfl,r1,r2,hb⟩:=map_cons q4;have n1:t.kind≠4:=by rw[show t.kind=3 from q1];decide
  have n0:t0.kind≠4:=by rw[show t0.kind=2 from o1];decide
  have n2:t2.kind≠4:=by rw[show t2.kind=3 from r1];decide
  have q2':t.text=wLet:=q2;have p2':t1.text=nm:=p2;have o2':t0.text=wEq:=o2;have r2':t2.text=wIn:=r2;obtain⟨a',ha1,ha2⟩:=(hP a (by simp)).x xa (t2::(xb++R)) e ha (stop_of (by rw[r2'];decide) (by rw[r2'];decide));obtain⟨b',hb1,hb2⟩:=(hP b (by simp)).x xb R e hb hR;refine⟨.node 26 nm [] 0 t.line t.col [a',b'],st_node 26 nm [] 0 ln cl _ _ (st2P ha1 hb1),?_⟩;have es:t::t1::t0::(xa++t2::xb)++R=t::t1::t0::(xa++t2::(xb++R)):=by simp
  rw[es];refine EvP.succ (g:=fun m=>cLet m ⟨t::t1::t0::(xa++t2::(xb++R)),e⟩) (fun m=>by rw[cExpr,if_pos (isy_P q2')]) ?_;refine EvP.succ (g:=fun m=>(cExpr m ⟨xa++t2::(xb++R),e⟩).bind fun r1=>(cExpr m (r1.2.exp wIn)).bind fun r2=>some (.node 26 nm [] 0 t.line t.col [r1.1,r2.1],r2.2)) (fun m=>by rw[cLet,tk_cons n1,name_cons p1,exp_cons n0 o2',nx_cons,nx_cons,p2']) ?_;refine EvP.bind ha2 ?_;simp only[exp_cons n2 r2'];exact EvP.bind hb2 (EvP.pure _)
 rw[if_neg k26] at h
 by_cases k27:k=27
 ·subst k27;obtain⟨a,b,c,rfl⟩:=len3 (ks:=ks) (by rcases w7 with h | h;omega;rw[h];exact ht.2.2.2.1 (.inr rfl));rw[if_pos rfl] at h;obtain⟨t,ts1,rfl,q1,q2,q3⟩:=map_cons h;obtain⟨xa,ts2,rfl,ha,q4⟩:=map_app (l1:=tb a) q3;obtain⟨t2,ts3,rfl,a1,a2,a3⟩:=map_cons q4;obtain⟨t3,ts4,rfl,b1,b2,b3⟩:=map_cons a3;obtain⟨t4,ts5,rfl,c1,c2,c3⟩:=map_cons b3;obtain⟨xb,ts6,rfl,hb,q5⟩:=map_app (l1:=tb b) c3;obtain⟨t5,ts7,rfl,d1,d2,d3⟩:=map_cons q5;obtain⟨t6,ts8,rfl,e1,e2,e3⟩:=map_cons d3;obtain⟨t7,ts9,rfl,f1,f2,f3⟩:=map_cons e3;obtain⟨t8,ts10,rfl,g1,g2,g3⟩:=map_cons f3;obtain⟨t9,xc,rfl,i1,i2,hc⟩:=map_cons g3;have n1:t.kind≠4:=by rw[show t.kind=3 from q1];decide
  have n2:t2.kind≠4:=by rw[show t2.kind=3 from a1];decide
  have n3:t3.kind≠4:=by rw[show t3.kind=2 from b1];decide
  have n4:t4.kind≠4:=by rw[show t4.kind=2 from c1];decide
  have n5:t5.kind≠4:=by rw[show t5.kind=2 from d1];decide
  have n7:t7.kind≠4:=by rw[show t7.kind=2 from f1];decide
  have n9:t9.kind≠4:=by rw[show t9.kind=2 from i1];decide
  have q2':t.text=wMatch:=q2;have a2':t2.text=wWith:=a2;have d2':t5.text=wBar:=d2;obtain⟨a',ha1,ha2⟩:=(hP a (by simp)).x xa (t2::t3::t4::(xb++t5::t6::t7::t8::t9::(xc++R))) e ha (stop_of (by rw[a2'];decide) (by rw[a2'];decide));obtain⟨b',hb1,hb2⟩:=(hP b (by simp)).x xb (t5::t6::t7::t8::t9::(xc++R)) e hb (stop_of (by rw[d2'];decide) (by rw[d2'];decide));obtain⟨c',hc1,hc2⟩:=(hP c (by simp)).x xc R e hc hR;refine⟨.node 27 nm ot 0 t.line t.col [a',b',c'],st_node 27 nm ot 0 ln cl _ _ (st3P ha1 hb1 hc1),?_⟩;have es:t::(xa++t2::t3::t4::(xb++t5::t6::t7::t8::t9::xc))++R=t::(xa++t2::t3::t4::(xb++t5::t6::t7::t8::t9::(xc++R))):=by simp
  rw[es];refine EvP.succ (g:=fun m=>cMatch m ⟨t::(xa++t2::t3::t4::(xb++t5::t6::t7::t8::t9::(xc++R))),e⟩) (fun m=>by rw[cExpr,if_neg (isn_P (by rw[q2'];decide)),if_neg (isn_P (by rw[q2'];decide)),if_pos (isy_P q2')]) ?_;refine EvP.succ (g:=fun m=>(cExpr m ⟨xa++t2::t3::t4::(xb++t5::t6::t7::t8::t9::(xc++R)),e⟩).bind fun r1=>(cExpr m (((r1.2.exp wWith).exp wNil).exp wArrow)).bind fun r2=>(cExpr m (((((r2.2.exp wBar).name).exp wCons).name).exp wArrow)).bind fun r3=>some (.node 27 (r2.2.exp wBar).nx.text (((r2.2.exp wBar).name).exp wCons).nx.text 0 t.line t.col [r1.1,r2.1,r3.1],r3.2)) (fun m=>by rw[cMatch,tk_cons n1];rfl) ?_;refine EvP.bind ha2 ?_;simp only[exp_cons n2 a2',exp_cons n3 b2,exp_cons n4 c2];refine EvP.bind hb2 ?_
  simp only[exp_cons n5 d2',name_cons e1,exp_cons n7 f2,name_cons g1,exp_cons n9 i2,nx_cons,show t6.text=nm from e2,show t8.text=ot from g2];exact EvP.bind hc2 (EvP.pure _)
 rw[if_neg k27] at h;have k28:k=28:=by omega
 subst k28;obtain⟨a,b,rfl⟩:=len2 (ks:=ks) (by rcases w7 with h | h;omega;rw[h];exact ht.2.2.2.2 (.inr rfl));have hnm:nm=[]:=w5 (by decide) (.inr (.inr rfl));have hot:ot=[]:=w6 (by decide);subst hnm;subst hot;obtain⟨t,ts1,rfl,q1,q2,q3⟩:=map_cons h;obtain⟨xa,ts4,rfl,ha,q4⟩:=map_app (l1:=tb a) q3;obtain⟨t2,xb,rfl,r1,r2,hb⟩:=map_cons q4;have n1:t.kind≠4:=by rw[show t.kind=3 from q1];decide
 have n2:t2.kind≠4:=by rw[show t2.kind=2 from r1];decide
 have q2':t.text=wAssert:=q2;have r2':t2.text=wSemi:=r2;obtain⟨a',ha1,ha2⟩:=(hP a (by simp)).x xa (t2::(xb++R)) e ha (stop_of (by rw[r2'];decide) (by rw[r2'];decide));obtain⟨b',hb1,hb2⟩:=(hP b (by simp)).x xb R e hb hR;refine⟨.node 28 [] [] 0 t.line t.col [a',b'],st_node 28 [] [] 0 ln cl _ _ (st2P ha1 hb1),?_⟩;have es:t::(xa++t2::xb)++R=t::(xa++t2::(xb++R)):=by simp
 rw[es];refine EvP.succ (g:=fun m=>cAssert m ⟨t::(xa++t2::(xb++R)),e⟩) (fun m=>by rw[cExpr,if_neg (isn_P (by rw[q2'];decide)),if_neg (isn_P (by rw[q2'];decide)),if_neg (isn_P (by rw[q2'];decide)),if_pos (isy_P q2')]) ?_;refine EvP.succ (g:=fun m=>(cExpr m ⟨xa++t2::(xb++R),e⟩).bind fun r1=>(cExpr m (r1.2.exp wSemi)).bind fun r2=>some (prt 28 t [r1.1,r2.1],r2.2)) (fun m=>by rw[cAssert,tk_cons n1];rfl) ?_;refine EvP.bind ha2 ?_;simp only[exp_cons n2 r2'];exact EvP.bind hb2 (EvP.pure _)
theorem par_ok {u:U} (hx:∀ ts R e,ts.map abT=tb u->Stop R->∃ u',stU u'=stU u/\EvP (fun m=>cExpr m ⟨ts++R,e⟩) (u',⟨R,e⟩)) (ts R:List Tok) (e:Option (Nat × Nat × Nat)) (h:ts.map abT=(2,wOpen)::(tb u++[(2,wClose)])):∃ u',stU u'=stU u/\EvP (fun m=>cOne m ⟨ts++R,e⟩) (u',⟨R,e⟩):=by
 obtain⟨t,ts1,rfl,q1,q2,q3⟩:=map_cons h;obtain⟨xa,ts2,rfl,ha,q4⟩:=map_app q3;obtain⟨t2,ts3,rfl,r1,r2,r3⟩:=map_cons q4;obtain rfl:=map_nil r3;have n1:t.kind≠4:=by rw[show t.kind=2 from q1];decide
 have n2:t2.kind≠4:=by rw[show t2.kind=2 from r1];decide
 have q2':t.text=wOpen:=q2;have r2':t2.text=wClose:=r2;obtain⟨u',hs,hv⟩:=hx xa (t2::R) e ha (stop_of (by rw[r2'];decide) (by rw[r2'];decide));refine⟨u',hs,?_⟩;have es:t::(xa++[t2])++R=t::(xa++t2::R):=by simp
 rw[es];refine one_atom (by rw[q2'];decide) (EvP.succ (g:=fun m=>(cExpr m ⟨xa++t2::R,e⟩).bind fun r=>some (r.1,r.2.exp wClose)) (fun m=>?_) ?_)
 ·rw[cAtom,nx_cons,if_neg (by rw[show t.kind=2 from q1];decide),if_neg (by rw[show t.kind=2 from q1];decide),if_neg (isn_P (by rw[q2'];decide)),if_neg (isn_P (by rw[q2'];decide)),if_neg (isn_P (by rw[q2'];decide)),if_neg (isn_P (by rw[q2'];decide)),if_pos (isy_P q2'),tk_cons n1]
 refine EvP.bind hv ?_;simp only[exp_cons n2 r2'];exact EvP.pure _
theorem pu_all:∀ (d:Nat) (u:U),Wf d u->PU u
 | 0,_,h=>by rw[Wf] at h;exact h.elim
 | d+1,.node k nm ot z ln cl ks,hw=>by
  have hw2:=hw;rw[Wf] at hw2;obtain⟨hk,-,-,-,-,-,-,-,w8⟩:=hw2;have hP:∀ v ∈ ks,PU v:=fun v hv=>pu_all d v (w8 v hv)
  have hC:∀ v ∈ ks,∃ a l,tb v=a::l/\a.2≠wClose:=fun v hv=>by
   obtain⟨a,l,h1,h2,-⟩:=first_ok d v (w8 v hv);exact⟨a,l,h1,h2⟩
  have hF:=first_ok (d+1) _ hw;have hlv:=lv_7 k hk
  -- a chain of operators, bare
  have hbin:∀ (want least:Nat) (ts R:List Tok) (e:Option (Nat × Nat × Nat)),1<=want->least<=want->want<=lv k->ts.map abT=tb (.node k nm ot z ln cl ks)->NoC R->Req (lv k) least R->∃ u' l,stU u'=stU (.node k nm ot z ln cl ks)/\(l=7\/want<=l/\l=lv k)/\∀ r,EvP (fun m=>cLoop m least u' l ⟨R,e⟩) r->EvP (fun m=>cBin m least ⟨ts++R,e⟩) r:=by
   intro want least ts R e h1 h2 h3 h4 h5 h6
   by_cases h7:7<=lv k
   ·obtain⟨u',hs,ho⟩:=one_bare hw hP hC h7 ts R e h4 h5;exact⟨u',7,hs,.inl rfl,fun r hr=>EvP.succ (g:=fun m=>(cOne m ⟨ts++R,e⟩).bind fun r=>cLoop m least r.1 7 r.2) (fun m=>by rw[cBin]) (EvP.bind ho hr)⟩
   have k10:¬ (k<10\/k=24):=fun h=>h7 (hlv.1.2 h)
   have k25:k<25:=hlv.2.1.1 (by omega);obtain⟨u',hs,hb⟩:=bin_bare hw hP (by omega) (by omega) least (by omega) ts R e h4 h5 h6;exact⟨u',lv k,hs,.inr ⟨h3,rfl⟩,hb⟩
  have hx:∀ ts R e,ts.map abT=tb (.node k nm ot z ln cl ks)->Stop R->∃ u',stU u'=stU (.node k nm ot z ln cl ks)/\EvP (fun m=>cExpr m ⟨ts++R,e⟩) (u',⟨R,e⟩):=by
   intro ts R e h hS
   by_cases h25:25<=k
   ·exact phr_bare hw hP h25 ts R e h hS
   have h1:1<=lv k:=hlv.2.1.2 (by omega);obtain⟨u',l,hs,-,hb⟩:=hbin 1 1 ts R e (Nat.le_refl _) (Nat.le_refl _) h1 h hS.1 (fun op ho=>by rw[hS.2] at ho;cases ho);refine⟨u',hs,?_⟩;have hb2:=hb _ (loop_end (e:=e) (fun op ho=>by rw[hS.2] at ho;cases ho));obtain⟨a,l2,f1,f2,f3⟩:=hF;obtain⟨g1,g2,g3,g4⟩:=f3 h1;rw[f1] at h;obtain⟨t,ts1,rfl,q1,q2,q3⟩:=map_cons h;refine EvP.succ (fun m=>?_) hb2;rw[List.cons_append,cExpr,if_neg (isn_P (by rw[q2];exact g1)),if_neg (isn_P (by rw[q2];exact g2)),if_neg (isn_P (by rw[q2];exact g3)),if_neg (isn_P (by rw[q2];exact g4))]
  refine⟨?_,?_,hx⟩
  ·intro ts R e h hR;unfold brA at h;rw[show lv (U.node k nm ot z ln cl ks).k=lv k from rfl] at h
   by_cases h7:7<=lv k
   ·rw[if_pos h7] at h;exact one_bare hw hP hC h7 ts R e h hR
   rw[if_neg h7] at h;exact par_ok hx ts R e h
  intro want least ts R e h1 h2 h3 h hR hq;unfold brA at h;rw[show lv (U.node k nm ot z ln cl ks).k=lv k from rfl] at h hq ⊢
  by_cases hl:want<=lv k
  ·rw[if_pos hl] at h;exact hbin want least ts R e h1 h3 hl h hR (hq hl)
  rw[if_neg hl] at h;obtain⟨u',hs,ho⟩:=par_ok hx ts R e h;exact⟨u',7,hs,.inl rfl,fun r hr=>EvP.succ (g:=fun m=>(cOne m ⟨ts++R,e⟩).bind fun r=>cLoop m least r.1 7 r.2) (fun m=>by rw[cBin]) (EvP.bind ho hr)⟩
def wS (l:List Tok):Nat:=(l.map fun t=>t.text.length+2).sum
def wA (l:List Ab):Nat:=(l.map fun a=>a.2.length+2).sum
theorem wA_app (a b:List Ab):wA (a++b)=wA a+wA b:=by unfold wA;rw[List.map_append,List.sum_append]
theorem wA_cons (a:Ab) (l:List Ab):wA (a::l)=a.2.length+2+wA l:=by unfold wA;rw[List.map_cons,List.sum_cons]
theorem wA_nil:wA []=0:=rfl
def GW (s:St):Prop:=GoodL s.rest/\∀ t ∈ s.rest,t.kind=0->NmP t.text
theorem GW.tk {s:St} (h:GW s):GW s.tk:=⟨good_tk h.1,by unfold St.tk;split;exact h.2;exact fun t ht=>h.2 t (List.mem_of_mem_drop ht)⟩
theorem GW.fail {s:St} (h:GW s) (t:Tok) (c:Nat):GW (s.fail t c):=⟨good_fail h.1 t c,fun t ht=>h.2 t (List.mem_of_mem_drop ht)⟩
theorem GW.exp {s:St} (h:GW s) (w:Bs):GW (s.exp w):=by unfold St.exp;split;exact h.tk;exact h.fail _ _
theorem GW.name {s:St} (h:GW s):GW s.name:=by unfold St.name;split;exact h.tk;exact h.tk.fail _ _
theorem GW.nx {s:St} (h:GW s):TokOk s.nx:=h.1.head
theorem GW.nm {s:St} (h:GW s) (hk:s.nx.kind=0):NmP s.nx.text:=by
 obtain⟨rest,err⟩:=s
 match rest,h,hk with
 | t::ts,h,hk=>exact h.2 t (by simp) hk
 | [],h,hk=>exact absurd h.1 id
theorem tk_err (s:St):s.tk.err=s.err:=by unfold St.tk;split<;>rfl
theorem fail_err (s:St) (t:Tok) (c:Nat):(s.fail t c).err≠none:=by unfold St.fail;simp only;cases s.err<;>simp
theorem w_tk {s:St} (h:s.nx.kind≠4):wS s.tk.rest+(s.nx.text.length+2)=wS s.rest:=by
 obtain⟨rest,err⟩:=s
 match rest,h with
 | t::ts,h =>
  rw[tk_cons (t:=t) (ts:=ts) (e:=err) h]
  show wS ts+(t.text.length+2)=wS (t::ts)
  unfold wS;rw[List.map_cons,List.sum_cons];omega
 | [],h=>exact absurd rfl h
theorem text_kind {s:St} (g:GW s) {w:Bs} (hw:w ≠ []) (h:s.nx.text=w):s.nx.kind≠4:=fun hk=>hw (by rw[<-h];exact g.nx.ke hk)
theorem is_text {s:St} {w:Bs} (h:s.is w=true):s.nx.text=w:=by unfold St.is at h;exact beq_iff_eq.1 h
theorem exp_ok {s:St} {w:Bs} (g:GW s) (hw:w ≠ []) (he:(s.exp w).err=none):s.err=none/\wS (s.exp w).rest+(w.length+2)=wS s.rest:=by
 unfold St.exp at he ⊢
 by_cases h:s.is w=true
 ·rw[if_pos h] at he ⊢;rw[tk_err] at he;have ht:=is_text h;have:=w_tk (text_kind g hw ht);rw[ht] at this;exact⟨he,this⟩
 rw[if_neg h] at he;exact absurd he (fail_err _ _ _)
theorem name_ok {s:St} (g:GW s) (he:s.name.err=none):s.err=none/\NmP s.nx.text/\wS s.name.rest+(s.nx.text.length+2)=wS s.rest:=by
 unfold St.name at he ⊢
 by_cases h:s.nx.kind=0
 ·rw[if_pos h] at he ⊢;rw[tk_err] at he;exact⟨he,g.nm h,w_tk (by omega)⟩
 rw[if_neg h] at he;exact absurd he (fail_err _ _ _)
def W (u:U):Prop:=∃ d,Wf d u
theorem Wf.mono:∀ {d e:Nat} {u:U},d<=e->Wf d u->Wf e u
 | 0,_,_,_,h=>by rw[Wf] at h;exact h.elim
 | d+1,0,_,h,_=>by omega
 | d+1,e+1,.node k nm ot z ln cl ks,h,hw=>by
  rw[Wf] at hw ⊢;obtain⟨a,b,c,f,g,i,j,l,m⟩:=hw;exact⟨a,b,c,f,g,i,j,l,fun u hu=>Wf.mono (by omega) (m u hu)⟩
theorem ws_all {us:List U} (h:∀ u ∈ us,W u):∃ d,∀ u ∈ us,Wf d u:=by
 induction us with
 | nil=>exact⟨0,fun u hu=>by cases hu⟩
 | cons u us ih =>
  obtain⟨d1,h1⟩:=h u (by simp);obtain⟨d2,h2⟩:=ih (fun v hv=>h v (by simp[hv]));refine⟨max d1 d2,fun v hv=>?_⟩;rcases List.mem_cons.1 hv with rfl | hv
  ·exact h1.mono (by omega)
  exact (h2 v hv).mono (by omega)
theorem zp0 {k:Nat}:(k≠0->0=0)/\(Lib.decDigits 0).length<=300:=⟨fun _=>rfl,Nat.le_trans (decDigits_len (k:=1) (by decide) (by decide)) (by decide)⟩
theorem w_node {k:Nat} {nm ot:Bs} {z ln cl:Nat} {ks:List U} (a:k<29) (b:(k≠0->z=0)/\(Lib.decDigits z).length<=300) (c:k=3->nm=wV\/NmP nm) (f:k=24\/k=26\/k=27->NmP nm) (g:k=27->NmP ot) (i:k≠3->k<24\/k=25\/k=28->nm=[]) (j:k≠27->ot=[]) (l:k=24\/ks.length=ar k) (m:∀ u ∈ ks,W u):W (.node k nm ot z ln cl ks):=by
 obtain⟨d,hd⟩:=ws_all m;exact⟨d+1,by rw[Wf];exact⟨a,b,c,f,g,i,j,l,hd⟩⟩
theorem brA_le {a b h:Nat} {l:List Ab} (hab:a<=b):wA (brA a h l)<=wA (brA b h l):=by
 unfold brA
 by_cases h1:a<=h
 ·rw[if_pos h1]
  split
  ·exact Nat.le_refl _
  rw[wA_cons,wA_app];omega
 rw[if_neg h1,if_neg (by omega)];exact Nat.le_refl _
def RW (lev:Nat) (s:St) (x:U × St):Prop:=GW x.2/\(x.2.err=none->s.err=none/\W x.1/\wA (brA lev (lv x.1.k) (tb x.1))+wS x.2.rest<=wS s.rest)
theorem br0 (h:Nat) (l:List Ab):brA 0 h l=l:=if_pos (Nat.zero_le _)
theorem com_snoc (l:List (List Ab)) (p:List Ab) (h:l ≠ []):comA (l++[p])=comA l++(2,wComma)::p:=by
 cases l with
 | nil=>exact absurd rfl h
 | cons q l=>rw[List.cons_append,com_cons,com_cons,List.flatMap_append];simp
theorem is_w {s:St} {w:Bs} (g:GW s) (hw:w ≠ []) (h:s.is w=true):wS s.tk.rest+(w.length+2)=wS s.rest:=by
 have ht:=is_text h;have:=w_tk (text_kind g hw ht);rw[ht] at this;exact this
theorem RW.z {s:St} {x:U × St} (h:RW 0 s x) (he:x.2.err=none):s.err=none/\W x.1/\wA (tb x.1)+wS x.2.rest<=wS s.rest:=by
 obtain⟨a,b,c⟩:=h.2 he;rw[br0] at c;exact⟨a,b,c⟩
theorem wt25 (ln cl:Nat) (a b c:U):wA (tb (.node 25 [] [] 0 ln cl [a,b,c]))=16+wA (tb a)+wA (tb b)+wA (tb c):=by
 rw[tb,tes24 (by decide)]
 show wA ((3,wIf)::(tb a++(3,wThen)::(tb b++(3,wElse)::tb c)))=_
 simp only[wA_cons,wA_app,lsc,lsn];omega
theorem wt26 (nm:Bs) (ln cl:Nat) (a b:U):wA (tb (.node 26 nm [] 0 ln cl [a,b]))=14+nm.length+wA (tb a)+wA (tb b):=by
 rw[tb,tes24 (by decide)]
 show wA ((3,wLet)::(0,nm)::(2,wEq)::(tb a++(3,wIn)::tb b))=_
 simp only[wA_cons,wA_app,lsc,lsn];omega
theorem wt27 (nm ot:Bs) (ln cl:Nat) (a b c:U):wA (tb (.node 27 nm ot 0 ln cl [a,b,c]))=36+nm.length+ot.length+wA (tb a)+wA (tb b)+wA (tb c):=by
 rw[tb,tes24 (by decide)]
 show wA ((3,wMatch)::(tb a++(3,wWith)::(2,wNil)::(2,wArrow)::(tb b++(2,wBar)::(0,nm)::(2,wCons)::(0,ot)::(2,wArrow)::tb c)))=_
 simp only[wA_cons,wA_app,lsc,lsn];omega
theorem wt28 (ln cl:Nat) (a b:U):wA (tb (.node 28 [] [] 0 ln cl [a,b]))=11+wA (tb a)+wA (tb b):=by
 rw[tb,tes24 (by decide)]
 show wA ((3,wAssert)::(tb a++(2,wSemi)::tb b))=_
 simp only[wA_cons,wA_app,lsc,lsn];omega
theorem wt24 (nm:Bs) (ln cl:Nat) (ks:List U):wA (tb (.node 24 nm [] 0 ln cl ks))=8+nm.length+wA (comA (ks.map tb)):=by
 rw[tb,tes24 (by decide)]
 show wA ((0,nm)::(2,wOpen)::(comA (ks.map tb)++[(2,wClose)]))=_
 simp only[wA_cons,wA_app,wA_nil,lsc,lsn];omega
theorem wt5 (k ln cl:Nat) (a:U) (h1:5<=k) (h2:k<10):wA (tb (.node k [] [] 0 ln cl [a]))=(sgA k).2.length+2+wA (brA 7 (lv a.k) (tb a)):=by
 have h9:∀ i,i<10->5<=i->lv i=7:=by decide
 have hrq:rq k 0=7:=by unfold rq;rw[if_pos h2];exact h9 k h2 h1
 rw[tb,tes,hrq];unfold shA;rw[if_neg (by omega),if_neg (by omega),if_neg (by omega),if_pos h2,wA_cons];rfl
theorem wt10 (k ln cl:Nat) (a b:U) (h1:10<=k) (h2:k<24):wA (tb (.node k [] [] 0 ln cl [a,b]))=wA (brA (lft (lv k)) (lv a.k) (tb a))+((sgA k).2.length+2)+wA (brA (rgt (lv k)) (lv b.k) (tb b)):=by
 obtain⟨q1,q2,-⟩:=rq_bin k h2 h1;rw[tb,tes,tes,q1,q2];unfold shA;rw[if_neg (by omega),if_neg (by omega),if_neg (by omega),if_neg (by omega),if_pos h2]
 show wA (brA _ _ _++sgA k::brA _ _ _)=_
 rw[wA_app,wA_cons];omega
theorem w_bin {k:Nat} (h1:10<=k) (h2:k<24) (ln cl:Nat) {a b:U} (ha:W a) (hb:W b):W (.node k [] [] 0 ln cl [a,b]):=
 w_node (by omega) zp0 (fun h=>by omega) (fun h=>by omega) (fun h=>by omega) (fun _ _=>rfl) (fun _=>rfl) (.inr (by rw[(ar_tab k (by omega)).2.2.1 h1 h2];rfl)) (fun u hu=>by
  rcases List.mem_cons.1 hu with rfl | hu
  ·exact ha
  rw[List.mem_singleton.1 hu];exact hb)
theorem w_un {k:Nat} (h1:5<=k) (h2:k<10) (ln cl:Nat) {a:U} (ha:W a):W (.node k [] [] 0 ln cl [a]):=
 w_node (by omega) zp0 (fun h=>by omega) (fun h=>by omega) (fun h=>by omega) (fun _ _=>rfl) (fun _=>rfl) (.inr (by rw[(ar_tab k (by omega)).2.1 h1 h2];rfl)) (fun u hu=>by rw[List.mem_singleton.1 hu];exact ha)
theorem w_lf {k:Nat} (h2:k<5) (z:Nat) (hz:(k≠0->z=0)/\(Lib.decDigits z).length<=300) (nm:Bs) (hn:k=3->nm=wV\/NmP nm) (hm:k≠3->nm=[]) (ln cl:Nat):W (.node k nm [] z ln cl []):=
 w_node (by omega) hz hn (fun h=>by omega) (fun h=>by omega) (fun h _=>hm h) (fun _=>rfl) (.inr (by rw[(ar_tab k (by omega)).1 h2];rfl)) (fun u hu=>by cases hu)
theorem op_is {w:Bs} {op:Bop} (h:bopOf w=some op):w=(sgA op.kind).2/\op.level=lv op.kind/\op.left=lft (lv op.kind)/\op.right=rgt (lv op.kind)/\10<=op.kind/\op.kind<24:=by
 have hm:=bop_memP h
 have hs:op.sign=w:=by
  have:=List.find?_some h;exact beq_iff_eq.1 this
 have ht:∀ o ∈ bops,o.sign=(sgA o.kind).2/\o.level=lv o.kind/\o.left=lft (lv o.kind)/\o.right=rgt (lv o.kind)/\10<=o.kind/\o.kind<24:=by decide
 rw[<-hs];exact ht op hm
theorem un_is {w:Bs} {k:Nat} (h:unOf w=some k):w=(sgA k).2/\5<=k/\k<10/\w ≠ []:=by
 unfold unOf at h
 split at h;· rename_i e;injection h with h;subst h;subst e;decide
 split at h;· rename_i e;injection h with h;subst h;subst e;decide
 split at h;· rename_i e;injection h with h;subst h;subst e;decide
 split at h;· rename_i e;injection h with h;subst h;subst e;decide
 split at h;· rename_i e;injection h with h;subst h;subst e;decide
 cases h
theorem bop_nil:bopOf []=none:=by decide
def AllW (n:Nat):Prop:=(∀ s x,GW s->cExpr n s=some x->RW 0 s x)/\(∀ s x,GW s->s.is wLet=true->cLet n s=some x->RW 0 s x)/\(∀ s x,GW s->s.is wIf=true->cIf n s=some x->RW 0 s x)/\(∀ s x,GW s->s.is wMatch=true->cMatch n s=some x->RW 0 s x)/\(∀ s x,GW s->s.is wAssert=true->cAssert n s=some x->RW 0 s x) /\
  (∀ l s x,l<=7->GW s->cBin n l s=some x->RW l s x) /\
  (∀ l e v s x,l<=v->GW s->cLoop n l e v s=some x->GW x.2/\(x.2.err=none->s.err=none/\(W e->W x.1/\wA (brA l (lv x.1.k) (tb x.1))+wS x.2.rest<=wA (brA v (lv e.k) (tb e))+wS s.rest))) /\
  (∀ s x,GW s->cOne n s=some x->RW 7 s x)/\(∀ s x,GW s->cAtom n s=some x->RW 7 s x) /\
  (∀ s x,GW s->cArgs n s=some x->GW x.2/\(x.2.err=none->s.err=none/\(∀ u ∈ x.1,W u)/\wA (comA (x.1.map tb))+3+wS x.2.rest<=wS s.rest)) /\
  (∀ l s x,GW s->l ≠ []->cMore n l s=some x->GW x.2/\(x.2.err=none->s.err=none/\((∀ u ∈ l,W u)->(∀ u ∈ x.1,W u)/\wA (comA (x.1.map tb))+3+wS x.2.rest<=wA (comA (l.map tb))+wS s.rest)))
theorem bare7 {k:Nat} (h:7<=lv k) (l:List Ab):brA 7 (lv k) l=l:=if_pos h
theorem br_max (want h:Nat) (l:List Ab):wA (brA want h l)<=wA l+6:=by
 unfold brA;split
 ·omega
 rw[wA_cons,wA_app,wA_cons,wA_nil];show (1:Nat)+2+(wA l+(1+2+0))<=_;omega
theorem c_wf (n:Nat):AllW n:=by
 induction n with
 | zero=>refine⟨?_,?_,?_,?_,?_,?_,?_,?_,?_,?_,?_⟩<;>intros<;>simp_all [cExpr,cLet,cIf,cMatch,cAssert,cBin,cLoop,cOne,cAtom,cArgs,cMore]
 | succ n ih =>
  obtain⟨i1,i2,i3,i4,i5,i6,i7,i8,i9,i10,i11⟩:=ih;refine⟨?_,?_,?_,?_,?_,?_,?_,?_,?_,?_,?_⟩
  ·intro s x g h;rw[cExpr] at h
   split at h;· rename_i hw;exact i2 _ _ g hw h
   split at h;· rename_i hw;exact i3 _ _ g hw h
   split at h;· rename_i hw;exact i4 _ _ g hw h
   split at h;· rename_i hw;exact i5 _ _ g hw h
   obtain⟨a,b⟩:=i6 _ _ _ (by decide) g h;refine⟨a,fun he=>?_⟩;obtain⟨c,d,e⟩:=b he;exact⟨c,d,Nat.le_trans (Nat.add_le_add_right (brA_le (by decide)) _) e⟩
  ·intro s x g hw h;rw[cLet] at h;simp only[Option.bind_eq_some_iff] at h;obtain⟨r1,h1,r2,h2,h3⟩:=h;injection h3 with h3;subst h3;have g1:=i1 _ _ (g.tk.name.exp wEq) h1;have g2:=i1 _ _ (g1.1.exp wIn) h2;refine⟨g2.1,fun he=>?_⟩;obtain⟨e2,w2,l2⟩:=g2.z he;obtain⟨e1,m1⟩:=exp_ok g1.1 (by decide) e2;obtain⟨e0,w1,l1⟩:=g1.z e1;obtain⟨e00,m0⟩:=exp_ok g.tk.name (by decide) e0;obtain⟨e000,hn,m00⟩:=name_ok g.tk e00;have m:=is_w g (by decide) hw;rw[tk_err] at e000
   refine⟨e000,w_node (by decide) zp0 (fun h=>(nomatch h)) (fun _=>hn) (fun h=>(nomatch h)) (fun _ h=>by omega) (fun _=>rfl) (.inr rfl) (fun u hu=>by
    rcases List.mem_cons.1 hu with rfl | hu
    ·exact w1
    rw[List.mem_singleton.1 hu];exact w2),?_⟩
   rw[br0,wt26];simp only[lsc,lsn] at *
   omega
  ·intro s x g hw h;rw[cIf] at h;simp only[Option.bind_eq_some_iff] at h;obtain⟨r1,h1,r2,h2,r3,h3,h4⟩:=h;injection h4 with h4;subst h4;have g1:=i1 _ _ g.tk h1;have g2:=i1 _ _ (g1.1.exp wThen) h2;have g3:=i1 _ _ (g2.1.exp wElse) h3;refine⟨g3.1,fun he=>?_⟩;obtain⟨e3,w3,l3⟩:=g3.z he;obtain⟨e2',m2⟩:=exp_ok g2.1 (by decide) e3;obtain⟨e2,w2,l2⟩:=g2.z e2';obtain⟨e1',m1⟩:=exp_ok g1.1 (by decide) e2;obtain⟨e1,w1,l1⟩:=g1.z e1';have m:=is_w g (by decide) hw;rw[tk_err] at e1
   refine⟨e1,w_node (by decide) zp0 (fun h=>(nomatch h)) (fun h=>by omega) (fun h=>(nomatch h)) (fun _ _=>rfl) (fun _=>rfl) (.inr rfl) (fun u hu=>by
    rcases List.mem_cons.1 hu with rfl | hu
    ·exact w1
    rcases List.mem_cons.1 hu with rfl | hu
    ·exact w2
    rw[List.mem_singleton.1 hu];exact w3),?_⟩
   show wA (brA 0 _ (tb (.node 25 [] [] 0 s.nx.line s.nx.col [r1.1,r2.1,r3.1])))+_<=_
   rw[br0,wt25];simp only[lsc,lsn] at *
   omega
  ·intro s x g hw h;rw[cMatch] at h;simp only[Option.bind_eq_some_iff] at h;obtain⟨r1,h1,r2,h2,r3,h3,h4⟩:=h;injection h4 with h4;subst h4;have g1:=i1 _ _ g.tk h1;have g2:=i1 _ _ (((g1.1.exp wWith).exp wNil).exp wArrow) h2;have g3:=i1 _ _ (((((g2.1.exp wBar).name).exp wCons).name).exp wArrow) h3;refine⟨g3.1,fun he=>?_⟩;obtain⟨e3,w3,l3⟩:=g3.z he;obtain⟨f1,k1⟩:=exp_ok ((((g2.1.exp wBar).name).exp wCons).name) (by decide) e3;obtain⟨f2,n2,k2⟩:=name_ok (((g2.1.exp wBar).name).exp wCons) f1;obtain⟨f3,k3⟩:=exp_ok ((g2.1.exp wBar).name) (by decide) f2;obtain⟨f4,n4,k4⟩:=name_ok (g2.1.exp wBar) f3;obtain⟨f5,k5⟩:=exp_ok g2.1 (by decide) f4;obtain⟨e2,w2,l2⟩:=g2.z f5;obtain⟨d1,j1⟩:=exp_ok ((g1.1.exp wWith).exp wNil) (by decide) e2;obtain⟨d2,j2⟩:=exp_ok (g1.1.exp wWith) (by decide) d1;obtain⟨d3,j3⟩:=exp_ok g1.1 (by decide) d2
   obtain⟨e1,w1,l1⟩:=g1.z d3;have m:=is_w g (by decide) hw;rw[tk_err] at e1
   refine⟨e1,w_node (by decide) zp0 (fun h=>(nomatch h)) (fun _=>n4) (fun _=>n2) (fun _ h=>by omega) (fun h=>absurd rfl h) (.inr rfl) (fun u hu=>by
    rcases List.mem_cons.1 hu with rfl | hu
    ·exact w1
    rcases List.mem_cons.1 hu with rfl | hu
    ·exact w2
    rw[List.mem_singleton.1 hu];exact w3),?_⟩
   rw[br0,wt27];simp only[lsc,lsn] at *
   omega
  ·intro s x g hw h;rw[cAssert] at h;simp only[Option.bind_eq_some_iff] at h;obtain⟨r1,h1,r2,h2,h3⟩:=h;injection h3 with h3;subst h3;have g1:=i1 _ _ g.tk h1;have g2:=i1 _ _ (g1.1.exp wSemi) h2;refine⟨g2.1,fun he=>?_⟩;obtain⟨e2,w2,l2⟩:=g2.z he;obtain⟨e1',m1⟩:=exp_ok g1.1 (by decide) e2;obtain⟨e1,w1,l1⟩:=g1.z e1';have m:=is_w g (by decide) hw;rw[tk_err] at e1
   refine⟨e1,w_node (by decide) zp0 (fun h=>(nomatch h)) (fun h=>by omega) (fun h=>(nomatch h)) (fun _ _=>rfl) (fun _=>rfl) (.inr rfl) (fun u hu=>by
    rcases List.mem_cons.1 hu with rfl | hu
    ·exact w1
    rw[List.mem_singleton.1 hu];exact w2),?_⟩
   show wA (brA 0 _ (tb (.node 28 [] [] 0 s.nx.line s.nx.col [r1.1,r2.1])))+_<=_
   rw[br0,wt28];simp only[lsc,lsn] at *
   omega
  ·intro l s x hl g h;rw[cBin,Option.bind_eq_some_iff] at h;obtain⟨r1,h1,h2⟩:=h;have g1:=i8 _ _ g h1;have g2:=i7 _ _ _ _ _ hl g1.1 h2;refine⟨g2.1,fun he=>?_⟩;obtain⟨e2,k2⟩:=g2.2 he;obtain⟨e1,w1,l1⟩:=g1.2 e2;obtain⟨w2,l2⟩:=k2 w1;exact⟨e1,w2,by omega⟩
  ·intro l e v s x hv g h;rw[cLoop] at h
   split at h
   ·injection h with h;subst h;exact⟨g,fun he=>⟨he,fun hw=>⟨hw,Nat.add_le_add_right (brA_le hv) _⟩⟩⟩
   rename_i op ho
   split at h
   ·injection h with h;subst h;exact⟨g,fun he=>⟨he,fun hw=>⟨hw,Nat.add_le_add_right (brA_le hv) _⟩⟩⟩
   rename_i hc
   rw[Option.bind_eq_some_iff] at h;obtain⟨r1,h1,h2⟩:=h;obtain⟨o1,o2,o3,o4,o5,o6⟩:=op_is ho;obtain⟨v1,v2,v3,v4,v5,v6,v7⟩:=lv_bin op.kind o6 o5;have g1:=i6 _ _ _ (by omega) g.tk h1;have g2:=i7 _ _ _ _ _ (by omega) g1.1 h2;refine⟨g2.1,fun he=>?_⟩;obtain⟨e2,k2⟩:=g2.2 he;obtain⟨e1,w1,l1⟩:=g1.2 e2;rw[tk_err] at e1;refine⟨e1,fun hw=>?_⟩;obtain⟨w2,l2⟩:=k2 (w_bin o5 o6 _ _ hw w1);refine⟨w2,Nat.le_trans l2 ?_⟩
   have hb:wA (brA op.level (lv (prt op.kind s.nx [e,r1.1]).k) (tb (prt op.kind s.nx [e,r1.1])))=wA (tb (.node op.kind [] [] 0 s.nx.line s.nx.col [e,r1.1])):=by
    show wA (brA op.level (lv op.kind) _)=_
    unfold brA;rw[if_pos (by omega)];rfl
   rw[hb,wt10 _ _ _ _ _ o5 o6,<-o3,<-o4];have hm:s.nx.kind≠4:=text_kind g (w:=s.nx.text) (fun h=>by rw[h,bop_nil] at ho;cases ho) rfl;have hm2:=w_tk hm;rw[o1] at hm2;have hb2:=brA_le (h:=lv e.k) (l:=tb e) (show op.left<=v by omega)
   omega
  ·intro s x g h;rw[cOne] at h
   split at h
   ·exact i9 _ _ g h
   rename_i k hk
   rw[Option.bind_eq_some_iff] at h;obtain⟨r1,h1,h2⟩:=h;injection h2 with h2;subst h2;obtain⟨u1,u2,u3,u4⟩:=un_is hk;have g1:=i8 _ _ g.tk h1;refine⟨g1.1,fun he=>?_⟩;obtain⟨e1,w1,l1⟩:=g1.2 he;rw[tk_err] at e1;refine⟨e1,w_un u2 u3 _ _ w1,?_⟩;have h9:∀ i,i<10->5<=i->7<=lv i:=by decide
   show wA (brA 7 (lv k) (tb (.node k [] [] 0 s.nx.line s.nx.col [r1.1])))+_<=_
   rw[bare7 (h9 k u3 u2),wt5 _ _ _ _ u2 u3];have:=w_tk (text_kind g u4 rfl);rw[u1] at this
   dsimp only
   omega
  ·intro s x g h;rw[cAtom] at h
   split at h
   ·rename_i hk
    injection h with h;subst h;refine⟨g.tk,fun he=>?_⟩;rw[tk_err] at he;have hn:=(g.nx.k1 hk).2;refine⟨he,w_lf (by decide) _ ⟨fun h=>absurd rfl h,by rw[hn.text];exact hn.2.1⟩ [] (fun h=>(nomatch h)) (fun _=>rfl) _ _,?_⟩;have:=w_tk (s:=s) (by omega)
    show wA ((1,Lib.decDigits (dn s.nx.text))::[])+_<=_
    rw[wA_cons,wA_nil]
    have hd:(Lib.decDigits (dn s.nx.text)).length<=s.nx.text.length:=by
     rw[hn.text];exact Nat.le_refl _
    dsimp only at *
    omega
   split at h
   ·rename_i hk1 hk
    split at h
    ·rename_i ho
     rw[Option.bind_eq_some_iff] at h;obtain⟨r1,h1,h2⟩:=h;injection h2 with h2;subst h2;have g1:=i10 _ _ g.tk.tk h1;refine⟨g1.1,fun he=>?_⟩;obtain⟨e1,w1,l1⟩:=g1.2 he;rw[tk_err,tk_err] at e1;have hn:=g.nm hk;refine⟨e1,w_node (by decide) zp0 (fun h=>(nomatch h)) (fun _=>hn) (fun h=>(nomatch h)) (fun _ h=>by omega) (fun _=>rfl) (.inl rfl) w1,?_⟩
     show wA (brA 7 (lv 24) (tb (.node 24 s.nx.text [] 0 s.nx.line s.nx.col r1.1)))+_<=_
     rw[bare7 (by decide),wt24];have m1:=w_tk (s:=s) (by omega);have m2:=is_w g.tk (by decide) ho;simp only[lsc,lsn] at *
     omega
    injection h with h;subst h;refine⟨g.tk,fun he=>?_⟩;rw[tk_err] at he;have hn:=g.nm hk;refine⟨he,w_lf (by decide) 0 zp0 _ (fun _=>.inr hn) (fun h=>absurd rfl h) _ _,?_⟩;have m1:=w_tk (s:=s) (by omega)
    show wA (((if s.nx.text=wV then 3 else 0),s.nx.text)::[])+_<=_
    rw[wA_cons,wA_nil];simp only;omega
   rename_i hk1 hk0
   split at h
   ·rename_i ho
    injection h with h;subst h;refine⟨g.tk,fun he=>?_⟩;rw[tk_err] at he;refine⟨he,w_lf (by decide) 0 zp0 _ (fun _=>.inl (is_text ho)) (fun h=>absurd rfl h) _ _,?_⟩;have m1:=w_tk (text_kind g (by decide) (is_text ho))
    show wA (((if s.nx.text=wV then 3 else 0),s.nx.text)::[])+_<=_
    rw[wA_cons,wA_nil];simp only;omega
   split at h
   ·rename_i ho
    injection h with h;subst h;refine⟨g.tk,fun he=>?_⟩;rw[tk_err] at he;refine⟨he,w_lf (k:=1) (by decide) 0 zp0 _ (fun h=>by cases h) (fun h=>rfl) _ _,?_⟩;have m1:=is_w g (by decide) ho
    show wA ((3,wTrue)::[])+_<=_
    rw[wA_cons,wA_nil];simp only;omega
   split at h
   ·rename_i ho
    injection h with h;subst h;refine⟨g.tk,fun he=>?_⟩;rw[tk_err] at he;refine⟨he,w_lf (k:=2) (by decide) 0 zp0 _ (fun h=>by cases h) (fun h=>rfl) _ _,?_⟩;have m1:=is_w g (by decide) ho
    show wA ((3,wFalse)::[])+_<=_
    rw[wA_cons,wA_nil];simp only;omega
   split at h
   ·rename_i ho
    injection h with h;subst h;refine⟨g.tk,fun he=>?_⟩;rw[tk_err] at he;refine⟨he,w_lf (k:=4) (by decide) 0 zp0 _ (fun h=>by cases h) (fun h=>rfl) _ _,?_⟩;have m1:=is_w g (by decide) ho
    show wA ((2,wNil)::[])+_<=_
    rw[wA_cons,wA_nil];simp only;omega
   split at h
   ·rename_i ho
    rw[Option.bind_eq_some_iff] at h;obtain⟨r1,h1,h2⟩:=h;injection h2 with h2;subst h2;have g1:=i1 _ _ g.tk h1;refine⟨g1.1.exp _,fun he=>?_⟩;obtain⟨e2,m2⟩:=exp_ok g1.1 (by decide) he;obtain⟨e1,w1,l1⟩:=g1.z e2;rw[tk_err] at e1;have m1:=is_w g (by decide) ho;refine⟨e1,w1,?_⟩;have:=br_max 7 (lv r1.1.k) (tb r1.1);simp only[lsc,lsn] at *
    omega
   injection h with h;subst h;exact⟨g.tk.fail _ _,fun he=>absurd he (fail_err _ _ _)⟩
  ·intro s x g h;rw[cArgs] at h
   split at h
   ·rename_i ho
    injection h with h;subst h;refine⟨g.tk,fun he=>?_⟩;rw[tk_err] at he;have m1:=is_w g (by decide) ho;refine⟨he,fun u hu=>(by cases hu),?_⟩
    show wA []+3+_<=_
    rw[wA_nil];simp only[lsc,lsn] at *
    omega
   rw[Option.bind_eq_some_iff] at h;obtain⟨r1,h1,h2⟩:=h;have g1:=i1 _ _ g h1;have g2:=i11 _ _ _ g1.1 (by simp) h2;refine⟨g2.1,fun he=>?_⟩;obtain⟨e2,k2⟩:=g2.2 he;obtain⟨e1,w1,l1⟩:=g1.z e2;obtain⟨w2,l2⟩:=k2 (fun u hu=>by rw[List.mem_singleton.1 hu];exact w1);refine⟨e1,w2,?_⟩;have:wA (comA ([r1.1].map tb))=wA (tb r1.1):=rfl
   omega
  intro l s x g hl h;rw[cMore] at h
  split at h
  ·rename_i ho
   rw[Option.bind_eq_some_iff] at h;obtain⟨r1,h1,h2⟩:=h;have g1:=i1 _ _ g.tk h1;have g2:=i11 _ _ _ g1.1 (by simp) h2;refine⟨g2.1,fun he=>?_⟩;obtain⟨e2,k2⟩:=g2.2 he;obtain⟨e1,w1,l1⟩:=g1.z e2;rw[tk_err] at e1;refine⟨e1,fun hw=>?_⟩
   obtain⟨w2,l2⟩:=k2 (fun u hu=>by
    rcases List.mem_append.1 hu with hu | hu
    ·exact hw u hu
    rw[List.mem_singleton.1 hu];exact w1)
   refine⟨w2,Nat.le_trans l2 ?_⟩;have m1:=is_w g (by decide) ho;rw[List.map_append,List.map_cons,List.map_nil,com_snoc _ _ (by simp[hl]),wA_app,wA_cons];simp only[lsc,lsn] at *
   omega
  injection h with h;subst h;refine⟨g.exp _,fun he=>?_⟩;obtain⟨e2,m2⟩:=exp_ok g (by decide) he;refine⟨e2,fun hw=>⟨hw,?_⟩⟩;simp only[lsc,lsn] at *
  omega
def bA (b:Nat):Ab:=(3,if b=0 then wInt else if b=1 then wBool else wList)
def rfA (p:PmU):List Ab:=if p.kn=true then (2,wBraceO)::(tb p.ref++[(2,wBraceC)]) else []
def baA (p:PmU):List Ab:=bA p.b::rfA p
def pmA (p:PmU):List Ab:=((if p.nm=wV then 3 else 0),p.nm)::(2,wColon)::baA p
def hdA (nm:Bs) (ps:List PmU):List Ab:=(0,nm)::(2,wOpen)::(comA (ps.map pmA)++[(2,wClose),(2,wColon)])
def qlA (q:QlU):List Ab:=(3,wQualif)::(hdA q.nm q.ps++tb q.body)
def fnA (f:FnU):List Ab:=(3,wFun)::(hdA f.nm f.ps++(baA f.res++(2,wEq)::tb f.body))
def pgA (p:PgU):List Ab:=p.qs.flatMap qlA++p.fs.flatMap fnA
def WD (u:U):Prop:=W u/\ud u<=60
def RfW (p:PmU):Prop:=p.b<=2/\(p.kn=true->WD p.ref)/\(p.kn=false->p.ref=u0)
def PmW (p:PmU):Prop:=NmP p.nm/\RfW p
def QpW (p:PmU):Prop:=p.b<=2/\p.kn=false/\p.ref=u0
def QlW (q:QlU):Prop:=NmP q.nm/\(∃ p ps,q.ps=p::ps/\(p.nm=wV/\QpW p)/\∀ r ∈ ps,NmP r.nm/\QpW r)/\q.ps.length<=6/\WD q.body
def FnW (f:FnU):Prop:=NmP f.nm/\(∀ p ∈ f.ps,PmW p)/\f.ps.length<=6/\f.res.nm=wV/\RfW f.res/\WD f.body
def PgW (p:PgU):Prop:=((∀ q ∈ p.qs,QlW q)/\p.qs.length<=20)/\(∀ f ∈ p.fs,FnW f)/\p.fs.length<=20
theorem all_w {n:Nat} {s:St} {x:U × St} (g:GW s) (h:cAll n s=some x):GW x.2/\(x.2.err=none->s.err=none/\WD x.1/\wA (tb x.1)+wS x.2.rest<=wS s.rest):=by
 unfold cAll at h;rw[Option.bind_eq_some_iff] at h;obtain⟨r,h1,h2⟩:=h;injection h2 with h2;subst h2;have g1:=(c_wf n).1 _ _ g h1
 by_cases hd:60<ud r.1
 ·simp only[if_pos hd];exact⟨g1.1.fail _ _,fun he=>absurd he (fail_err _ _ _)⟩
 simp only[if_neg hd];refine⟨g1.1,fun he=>?_⟩;obtain⟨a,b,c⟩:=g1.z he;exact⟨a,⟨b,by omega⟩,c⟩
theorem base_w {s:St} (g:GW s):GW (cBase s).2/\((cBase s).2.err=none->s.err=none/\(cBase s).1<=2/\wA [bA (cBase s).1]+wS (cBase s).2.rest<=wS s.rest):=by
 unfold cBase
 split
 ·rename_i h
  refine⟨g.tk,fun he=>?_⟩;rw[tk_err] at he;have:=is_w g (by decide) h;refine⟨he,by simp,?_⟩
  show wA [(3,wInt)]+_<=_
  rw[wA_cons,wA_nil];simp only at this ⊢;omega
 split
 ·rename_i h
  refine⟨g.tk,fun he=>?_⟩;rw[tk_err] at he;have:=is_w g (by decide) h;refine⟨he,by simp,?_⟩
  show wA [(3,wBool)]+_<=_
  rw[wA_cons,wA_nil];simp only at this ⊢;omega
 split
 ·rename_i h
  refine⟨g.tk,fun he=>?_⟩;rw[tk_err] at he;have:=is_w g (by decide) h;refine⟨he,by simp,?_⟩
  show wA [(3,wList)]+_<=_
  rw[wA_cons,wA_nil];simp only at this ⊢;omega
 exact⟨g.tk.fail _ _,fun he=>absurd he (fail_err _ _ _)⟩
theorem ref_w {n:Nat} {p:PmU} {s:St} {x:PmU × St} (hp:QpW p) (g:GW s) (h:cRef n p s=some x):GW x.2/\x.1.nm=p.nm/\(x.2.err=none->s.err=none/\RfW x.1/\x.1.b=p.b/\wA (rfA x.1)+wS x.2.rest<=wS s.rest):=by
 obtain⟨p1,p2,p3⟩:=hp;unfold cRef at h
 split at h
 ·rename_i ho
  rw[Option.bind_eq_some_iff] at h;obtain⟨r,h1,h2⟩:=h;injection h2 with h2;subst h2;have g1:=all_w g.tk h1;refine⟨g1.1.exp _,rfl,fun he=>?_⟩;obtain⟨e1,m1⟩:=exp_ok g1.1 (by decide) he;obtain⟨e2,w2,l2⟩:=g1.2 e1;rw[tk_err] at e2;have m:=is_w g (by decide) ho;refine⟨e2,⟨p1,fun _=>w2,fun h=>(nomatch h)⟩,rfl,?_⟩
  show wA ((2,wBraceO)::(tb r.1++[(2,wBraceC)]))+_<=_
  rw[wA_cons,wA_app,wA_cons,wA_nil];simp only[lsc,lsn] at *
  omega
 injection h with h;subst h;refine⟨g,rfl,fun he=>⟨he,⟨p1,fun h=>(by rw[p2] at h;cases h),fun _=>p3⟩,rfl,?_⟩⟩;unfold rfA;rw[p2,if_neg (by decide),wA_nil];simp only;omega
theorem typ_q (nm:Bs) (t:Tok) {b:Nat} (h:b<=2):QpW (typ nm t b):=⟨h,rfl,rfl⟩
theorem rf_q {p:PmU} (h:p.kn=false):rfA p=[]:=by unfold rfA;rw[h];rfl
theorem counted_ok {s:St} (g:GW s) {c l:Nat} (he:(s.counted c l).err=none):c<l/\s.err=none/\NmP s.nx.text/\wS (s.counted c l).rest+(s.nx.text.length+2)=wS s.rest:=by
 unfold St.counted at he ⊢
 by_cases h:l<=c
 ·rw[if_pos h] at he;exact absurd he (fail_err _ _ _)
 rw[if_neg h] at he ⊢;exact⟨by omega,name_ok g he⟩
theorem GW.counted {s:St} (g:GW s) (c l:Nat):GW (s.counted c l):=by
 unfold St.counted;split;exact g.name.fail _ _;exact g.name
theorem var_w {s:St} (g:GW s):GW (cVar s).2/\((cVar s).2.err=none->s.err=none/\((cVar s).1.nm=wV/\QpW (cVar s).1)/\wA (pmA (cVar s).1)+wS (cVar s).2.rest<=wS s.rest):=by
 unfold cVar;have gb:=base_w ((g.exp wV).exp wColon);refine⟨gb.1,fun he=>?_⟩;obtain⟨e1,b1,l1⟩:=gb.2 he;obtain⟨e2,m2⟩:=exp_ok (g.exp wV) (by decide) e1;obtain⟨e3,m3⟩:=exp_ok g (by decide) e2
 have ht:s.nx.text=wV:=by
  unfold St.exp at e2
  by_cases h:s.is wV=true
  ·exact is_text h
  rw[if_neg h] at e2;exact absurd e2 (fail_err _ _ _)
 refine⟨e3,⟨ht,typ_q _ _ b1⟩,?_⟩;unfold pmA baA;rw[rf_q rfl];rw[wA_cons,wA_nil] at l1;rw[wA_cons,wA_cons,wA_cons,wA_nil]
 show s.nx.text.length+2+(1+2+((bA (cBase ((s.exp wV).exp wColon)).1).2.length+2+0))+_<=_
 rw[ht];simp only[lsc,lsn] at *
 omega
theorem param_w {s:St} (g:GW s) (c:Nat):GW (cParam c s).2/\((cParam c s).2.err=none->s.err=none/\c<6/\(NmP (cParam c s).1.nm/\QpW (cParam c s).1)/\wA (pmA (cParam c s).1)+wS (cParam c s).2.rest<=wS s.rest):=by
 unfold cParam;have gb:=base_w ((g.counted c 6).exp wColon);refine⟨gb.1,fun he=>?_⟩;obtain⟨e1,b1,l1⟩:=gb.2 he;obtain⟨e2,m2⟩:=exp_ok (g.counted c 6) (by decide) e1;obtain⟨hc,e3,hn,m3⟩:=counted_ok g e2;refine⟨e3,hc,⟨hn,typ_q _ _ b1⟩,?_⟩;unfold pmA baA;rw[rf_q rfl];rw[wA_cons,wA_nil] at l1;rw[wA_cons,wA_cons,wA_cons,wA_nil]
 show s.nx.text.length+2+(1+2+((bA (cBase ((s.counted c 6).exp wColon)).1).2.length+2+0))+_<=_
 simp only[lsc,lsn] at *
 omega
theorem qmore_w:∀ {n:Nat} {l:List PmU} {s:St} {x:List PmU × St},GW s->l ≠ []->cQMore n l s=some x->GW x.2/\(x.2.err=none->s.err=none/\(∃ ps,x.1=l++ps/\∀ r ∈ ps,NmP r.nm/\QpW r)/\(l.length<=6->x.1.length<=6)/\wA (comA (x.1.map pmA))+wS x.2.rest<=wA (comA (l.map pmA))+wS s.rest)
 | 0,_,_,_,_,_,h=>by rw[cQMore] at h;cases h
 | n+1,l,s,x,g,hl,h=>by
  rw[cQMore] at h
  split at h
  ·rename_i ho
   have gp:=param_w g.tk l.length;have gr:=qmore_w gp.1 (by simp) h;refine⟨gr.1,fun he=>?_⟩;obtain⟨e1,⟨ps,hx,hps⟩,hc,l1⟩:=gr.2 he;obtain⟨e2,c2,w2,l2⟩:=gp.2 e1;rw[tk_err] at e2;have m:=is_w g (by decide) ho;refine⟨e2,⟨(cParam l.length s.tk).1::ps,by rw[hx];simp,fun r hr=>?_⟩,fun _=>hc (by simp;omega),?_⟩
   ·rcases List.mem_cons.1 hr with rfl | hr
    ·exact w2
    exact hps r hr
   rw[List.map_append,List.map_cons,List.map_nil,com_snoc _ _ (by simp[hl]),wA_app,wA_cons] at l1;simp only[lsc,lsn] at *
   omega
  injection h with h;subst h;exact⟨g,fun he=>⟨he,⟨[],by simp,fun r hr=>by cases hr⟩,fun h=>h,Nat.le_refl _⟩⟩
theorem fpar_w {n:Nat} {l:List PmU} {s:St} {x:List PmU × St} (g:GW s) (h:cFPar n l s=some x):GW x.2/\(x.2.err=none->s.err=none/\l.length<6/\∃ p,x.1=l++[p]/\PmW p/\wA (pmA p)+wS x.2.rest<=wS s.rest):=by
 unfold cFPar at h;rw[Option.bind_eq_some_iff] at h;obtain⟨r,h1,h2⟩:=h;injection h2 with h2;subst h2;have gp:=param_w g l.length
 by_cases he0:(cParam l.length s).2.err=none
 ·obtain⟨e2,c2,w2,l2⟩:=gp.2 he0;obtain⟨g1,n1,k1⟩:=ref_w w2.2 gp.1 h1;refine⟨g1,fun he=>?_⟩;obtain⟨e1,r1,b1,l1⟩:=k1 he;refine⟨e2,c2,r.1,rfl,⟨by rw[n1];exact w2.1,r1⟩,?_⟩;unfold pmA baA at l2 ⊢;rw[rf_q w2.2.2.1,wA_cons,wA_cons,wA_cons,wA_nil] at l2;rw[wA_cons,wA_cons,wA_cons,n1,b1];simp only at *
  omega
 refine⟨?_,fun he=>?_⟩
 ·unfold cRef at h1
  split at h1
  ·rw[Option.bind_eq_some_iff] at h1;obtain⟨q,h3,h4⟩:=h1;injection h4 with h4;subst h4;exact (all_w gp.1.tk h3).1.exp _
  injection h1 with h1;subst h1;exact gp.1
 exfalso
 unfold cRef at h1
 split at h1
 ·rw[Option.bind_eq_some_iff] at h1;obtain⟨q,h3,h4⟩:=h1;injection h4 with h4;subst h4;have ga:=all_w gp.1.tk h3;obtain⟨e1,-⟩:=exp_ok ga.1 (by decide) he;obtain⟨e2,-⟩:=ga.2 e1;rw[tk_err] at e2;exact he0 e2
 injection h1 with h1;subst h1;exact he0 he
theorem fmore_w:∀ {m n:Nat} {l:List PmU} {s:St} {x:List PmU × St},GW s->l ≠ []->cFMore m n l s=some x->GW x.2/\(x.2.err=none->s.err=none/\((∀ p ∈ l,PmW p)->∀ p ∈ x.1,PmW p)/\(l.length<=6->x.1.length<=6)/\wA (comA (x.1.map pmA))+3+wS x.2.rest<=wA (comA (l.map pmA))+wS s.rest)
 | 0,_,_,_,_,_,_,h=>by rw[cFMore] at h;cases h
 | m+1,n,l,s,x,g,hl,h=>by
  rw[cFMore] at h
  split at h
  ·rename_i ho
   rw[Option.bind_eq_some_iff] at h;obtain⟨r,h1,h2⟩:=h;have gp:=fpar_w g.tk h1
   have hr0:r.1 ≠ []:=by
    unfold cFPar at h1;rw[Option.bind_eq_some_iff] at h1;obtain⟨q,-,h4⟩:=h1;injection h4 with h4;subst h4;simp
   have gr:=fmore_w gp.1 hr0 h2;refine⟨gr.1,fun he=>?_⟩;obtain⟨e1,a1,c1,l1⟩:=gr.2 he;obtain⟨e2,c2,p,hp,w2,l2⟩:=gp.2 e1;rw[tk_err] at e2;have m':=is_w g (by decide) ho;rw[hp] at a1 c1 l1;refine⟨e2,fun hA=>a1 fun q hq=>?_,fun _=>c1 (by simp;omega),?_⟩
   ·rcases List.mem_append.1 hq with hq | hq
    ·exact hA q hq
    rw[List.mem_singleton.1 hq];exact w2
   rw[List.map_append,List.map_cons,List.map_nil,com_snoc _ _ (by simp[hl]),wA_app,wA_cons] at l1;simp only[lsc,lsn] at *
   omega
  injection h with h;subst h;refine⟨g.exp _,fun he=>?_⟩;obtain⟨e2,m2⟩:=exp_ok g (by decide) he;refine⟨e2,fun hA=>hA,fun h=>h,?_⟩;simp only[lsc,lsn] at *
  omega
theorem fpars_w {m n:Nat} {s:St} {x:List PmU × St} (g:GW s) (h:cFPars m n s=some x):GW x.2/\(x.2.err=none->s.err=none/\(∀ p ∈ x.1,PmW p)/\x.1.length<=6/\wA (comA (x.1.map pmA))+3+wS x.2.rest<=wS s.rest):=by
 unfold cFPars at h
 split at h
 ·rename_i ho
  injection h with h;subst h;refine⟨g.tk,fun he=>?_⟩;rw[tk_err] at he;have m:=is_w g (by decide) ho;refine⟨he,fun p hp=>(by cases hp),by simp,?_⟩
  show wA []+3+_<=_
  rw[wA_nil];simp only[lsc,lsn] at *
  omega
 rw[Option.bind_eq_some_iff] at h;obtain⟨r,h1,h2⟩:=h;have gp:=fpar_w g h1
 have hr0:r.1 ≠ []:=by
  unfold cFPar at h1;rw[Option.bind_eq_some_iff] at h1;obtain⟨q,-,h4⟩:=h1;injection h4 with h4;subst h4;simp
 have gr:=fmore_w gp.1 hr0 h2;refine⟨gr.1,fun he=>?_⟩;obtain⟨e1,a1,c1,l1⟩:=gr.2 he;obtain⟨e2,c2,p,hp,w2,l2⟩:=gp.2 e1;rw[hp] at a1 c1 l1;refine⟨e2,a1 fun q hq=>by rw[List.nil_append] at hq;rw[List.mem_singleton.1 hq];exact w2,c1 (by simp),?_⟩;have:wA (comA (([]++[p]).map pmA))=wA (pmA p):=rfl
 omega
theorem res_w {n:Nat} {s:St} {x:PmU × St} (g:GW s) (h:cRes n s=some x):GW x.2/\(x.2.err=none->s.err=none/\x.1.nm=wV/\RfW x.1/\wA (baA x.1)+wS x.2.rest<=wS s.rest):=by
 unfold cRes at h;have gb:=base_w g
 by_cases he0:(cBase s).2.err=none
 ·obtain⟨e1,b1,l1⟩:=gb.2 he0;obtain⟨g1,n1,k1⟩:=ref_w (typ_q wV s.nx b1) gb.1 h;refine⟨g1,fun he=>?_⟩;obtain⟨e2,r2,b2,l2⟩:=k1 he;refine⟨e1,n1,r2,?_⟩;unfold baA;rw[wA_cons,b2];rw[wA_cons,wA_nil] at l1;have:(typ wV s.nx (cBase s).1).b=(cBase s).1:=rfl;rw[this]
  omega
 refine⟨?_,fun he=>?_⟩
 ·unfold cRef at h
  split at h
  ·rw[Option.bind_eq_some_iff] at h;obtain⟨q,h3,h4⟩:=h;injection h4 with h4;subst h4;exact (all_w gb.1.tk h3).1.exp _
  injection h with h;subst h;exact gb.1
 exfalso
 unfold cRef at h
 split at h
 ·rw[Option.bind_eq_some_iff] at h;obtain⟨q,h3,h4⟩:=h;injection h4 with h4;subst h4;have ga:=all_w gb.1.tk h3;obtain⟨e1,-⟩:=exp_ok ga.1 (by decide) he;obtain⟨e2,-⟩:=ga.2 e1;rw[tk_err] at e2;exact he0 e2
 injection h with h;subst h;exact he0 he
theorem qual_w {m n c:Nat} {s:St} {x:QlU × St} (g:GW s) (h:cQual m n c s=some x):GW x.2/\(x.2.err=none->s.err=none/\c<20/\QlW x.1/\wA (qlA x.1)+wS x.2.rest<=wS s.rest+8):=by
 unfold cQual at h;simp only[Option.bind_eq_some_iff] at h;obtain⟨r,h1,q,h2,h3⟩:=h;injection h3 with h3;subst h3;have gc:=g.counted c 20;have gv:=var_w (gc.exp wOpen);have gm:=qmore_w gv.1 (by simp) h1;have ga:=all_w ((gm.1.exp wClose).exp wColon) h2;refine⟨ga.1,fun he=>?_⟩;obtain⟨e1,w1,l1⟩:=ga.2 he;obtain⟨e2,m2⟩:=exp_ok (gm.1.exp wClose) (by decide) e1;obtain⟨e3,m3⟩:=exp_ok gm.1 (by decide) e2;obtain⟨e4,⟨ps,hx,hps⟩,c4,l4⟩:=gm.2 e3;obtain⟨e5,w5,l5⟩:=gv.2 e4;obtain⟨e6,m6⟩:=exp_ok gc (by decide) e5;obtain⟨c7,e7,n7,m7⟩:=counted_ok g e6;refine⟨e7,c7,⟨n7,⟨_,ps,hx,w5,hps⟩,c4 (by simp),w1⟩,?_⟩;unfold qlA hdA;rw[wA_cons,wA_app,wA_cons,wA_cons,wA_app,wA_cons,wA_cons,wA_nil];have:wA (comA ([(cVar ((s.counted c 20).exp wOpen)).1].map pmA))=wA (pmA (cVar ((s.counted c 20).exp wOpen)).1):=rfl;rw[this] at l4
 simp only[lsc,lsn] at *
 omega
theorem fun_w {m n c:Nat} {s:St} {x:FnU × St} (g:GW s) (h:cFun m n c s=some x):GW x.2/\(x.2.err=none->s.err=none/\c<20/\FnW x.1/\wA (fnA x.1)+wS x.2.rest<=wS s.rest+5):=by
 unfold cFun at h;simp only[Option.bind_eq_some_iff] at h;obtain⟨r,h1,t,h2,q,h3,h4⟩:=h;injection h4 with h4;subst h4;have gc:=g.counted c 20;have gm:=fpars_w (gc.exp wOpen) h1;have gt:=res_w (gm.1.exp wColon) h2;have ga:=all_w (gt.1.exp wEq) h3;refine⟨ga.1,fun he=>?_⟩;obtain⟨e1,w1,l1⟩:=ga.2 he;obtain⟨e2,m2⟩:=exp_ok gt.1 (by decide) e1;obtain⟨e3,n3,w3,l3⟩:=gt.2 e2;obtain⟨e4,m4⟩:=exp_ok gm.1 (by decide) e3;obtain⟨e5,w5,c5,l5⟩:=gm.2 e4;obtain⟨e6,m6⟩:=exp_ok gc (by decide) e5;obtain⟨c7,e7,n7,m7⟩:=counted_ok g e6;refine⟨e7,c7,⟨n7,w5,c5,n3,w3,w1⟩,?_⟩;unfold fnA hdA;rw[wA_cons,wA_app,wA_cons,wA_cons,wA_app,wA_cons,wA_cons,wA_nil,wA_app,wA_cons];simp only[lsc,lsn] at *
 omega
theorem pg_qs (p:PgU) (q:QlU):wA (pgA ⟨p.qs++[q],p.fs⟩)=wA (pgA p)+wA (qlA q):=by
 show wA ((p.qs++[q]).flatMap qlA++p.fs.flatMap fnA)=wA (p.qs.flatMap qlA++p.fs.flatMap fnA)+_
 rw[List.flatMap_append,wA_app,wA_app,wA_app,List.flatMap_cons,List.flatMap_nil,List.append_nil];omega
theorem pg_fs (p:PgU) (f:FnU):wA (pgA ⟨p.qs,p.fs++[f]⟩)=wA (pgA p)+wA (fnA f):=by
 show wA (p.qs.flatMap qlA++(p.fs++[f]).flatMap fnA)=wA (p.qs.flatMap qlA++p.fs.flatMap fnA)+_
 rw[List.flatMap_append,wA_app,wA_app,wA_app,List.flatMap_cons,List.flatMap_nil,List.append_nil];omega
theorem prog_w:∀ {m n:Nat} {p:PgU} {s:St} {x:PgU × St},GW s->cProg m n p s=some x->GW x.2/\(x.2.err=none->s.err=none/\(PgW p->PgW x.1)/\wA (pgA x.1)+wS x.2.rest<=wA (pgA p)+wS s.rest)
 | 0,_,_,_,_,_,h=>by rw[cProg] at h;cases h
 | m+1,n,p,s,x,g,h=>by
  rw[cProg] at h
  split at h
  ·rename_i ho
   rw[Option.bind_eq_some_iff] at h;obtain⟨r,h1,h2⟩:=h;have gq:=qual_w g.tk h1;have gr:=prog_w gq.1 h2;refine⟨gr.1,fun he=>?_⟩;obtain⟨e1,w1,l1⟩:=gr.2 he;obtain⟨e2,c2,w2,l2⟩:=gq.2 e1;rw[tk_err] at e2;have m':=is_w g (by decide) ho;refine⟨e2,fun hp=>w1 ⟨⟨fun q hq=>?_,by simp;omega⟩,hp.2⟩,?_⟩
   ·rcases List.mem_append.1 hq with hq | hq
    ·exact hp.1.1 q hq
    rw[List.mem_singleton.1 hq];exact w2
   rw[pg_qs] at l1;simp only[lsc,lsn] at *
   omega
  split at h
  ·rename_i ho
   rw[Option.bind_eq_some_iff] at h;obtain⟨r,h1,h2⟩:=h;have gq:=fun_w g.tk h1;have gr:=prog_w gq.1 h2;refine⟨gr.1,fun he=>?_⟩;obtain⟨e1,w1,l1⟩:=gr.2 he;obtain⟨e2,c2,w2,l2⟩:=gq.2 e1;rw[tk_err] at e2;have m':=is_w g (by decide) ho;refine⟨e2,fun hp=>w1 ⟨hp.1,fun q hq=>?_,by simp;omega⟩,?_⟩
   ·rcases List.mem_append.1 hq with hq | hq
    ·exact hp.2.1 q hq
    rw[List.mem_singleton.1 hq];exact w2
   rw[pg_fs] at l1;simp only[lsc,lsn] at *
   omega
  injection h with h;subst h;exact⟨g,fun he=>⟨he,fun hp=>hp,Nat.le_refl _⟩⟩
def EvQ {α:Type} (f:Nat->Nat->Option α) (r:α):Prop:=∃ k,∀ m n,k<=m->k<=n->f m n=some r
theorem EvQ.succ {α:Type} {f g:Nat->Nat->Option α} {r:α} (h:∀ m n,f (m+1) n=g m n) (hg:EvQ g r):EvQ f r:=by
 obtain⟨k,hk⟩:=hg;refine⟨k+1,fun m n hm hn=>?_⟩;obtain⟨q,rfl⟩:∃ q,m=q+1:=⟨m - 1,by omega⟩
 rw[h];exact hk q n (by omega) (by omega)
theorem EvQ.same {α:Type} {f g:Nat->Nat->Option α} {r:α} (h:∀ m n,f m n=g m n) (hg:EvQ g r):EvQ f r:=by
 obtain⟨k,hk⟩:=hg;exact⟨k,fun m n hm hn=>by rw[h];exact hk m n hm hn⟩
theorem EvQ.pure {α:Type} (r:α):EvQ (fun _ _=>some r) r:=⟨0,fun _ _ _ _=>rfl⟩
theorem EvQ.bind {α β:Type} {f:Nat->Nat->Option α} {g:Nat->Nat->α->Option β} {a:α} {b:β} (hf:EvQ f a) (hg:EvQ (fun m n=>g m n a) b):EvQ (fun m n=>(f m n).bind (g m n)) b:=by
 obtain⟨n1,h1⟩:=hf;obtain⟨n2,h2⟩:=hg;refine⟨max n1 n2,fun m n hm hn=>?_⟩
 show (f m n).bind (g m n)=some b
 rw[h1 m n (by omega) (by omega)];exact h2 m n (by omega) (by omega)
theorem EvQ.of {α:Type} {f:Nat->Option α} {r:α} (h:EvP f r):EvQ (fun _ n=>f n) r:=by
 obtain⟨k,hk⟩:=h;exact⟨k,fun m n hm hn=>hk n hn⟩
def stPm (p:PmU):Bs × Nat × Bool × T:=(p.nm,p.b,p.kn,stU p.ref)
def stQl (q:QlU):Bs × List (Bs × Nat × Bool × T) × T:=(q.nm,q.ps.map stPm,stU q.body)
def stFn (f:FnU):Bs × List (Bs × Nat × Bool × T) × (Bs × Nat × Bool × T) × T:=(f.nm,f.ps.map stPm,stPm f.res,stU f.body)
mutual
theorem dp_st:∀ u:U,dp (stU u)=ud u
 | .node k nm ot z ln cl ks=>by rw[stU,dp,ud,dps_st ks]
theorem dps_st:∀ us:List U,dps (stUs us)=uds us
 | []=>by rw[stUs,dps,uds]
 | u::us=>by rw[stUs,dps,uds,dp_st u,dps_st us]
end
theorem all_r {u:U} (h:WD u) (ts R:List Tok) (e:Option (Nat × Nat × Nat)) (ht:ts.map abT=tb u) (hS:Stop R):∃ u',stU u'=stU u/\EvQ (fun _ n=>cAll n ⟨ts++R,e⟩) (u',⟨R,e⟩):=by
 obtain⟨⟨d,hw⟩,hd⟩:=h;obtain⟨u',hs,hx⟩:=(pu_all d u hw).x ts R e ht hS;refine⟨u',hs,EvQ.of (EvP.bind hx ?_)⟩;have:ud u'=ud u:=by rw[<-dp_st,hs,dp_st]
 simp only[this];rw[if_neg (by omega)];exact EvP.pure _
theorem base_r {b:Nat} (hb:b<=2) (ts R:List Tok) (e:Option (Nat × Nat × Nat)) (ht:ts.map abT=[bA b]):cBase ⟨ts++R,e⟩=(b,⟨R,e⟩):=by
 obtain⟨t,ts',rfl,q1,q2,q3⟩:=map_cons ht;obtain rfl:=map_nil q3;have n1:t.kind≠4:=by rw[q1];show (3:Nat)≠4;decide
 unfold cBase;rw[List.cons_append,List.nil_append];have hb3:b=0\/b=1\/b=2:=by omega
 rcases hb3 with rfl | rfl | rfl
 ·rw[if_pos (isy_P (show t.text=wInt from q2)),tk_cons n1]
 ·have q4:t.text=wBool:=q2;rw[if_neg (isn_P (by rw[q4];decide)),if_pos (isy_P q4),tk_cons n1]
 have q4:t.text=wList:=q2;rw[if_neg (isn_P (by rw[q4];decide)),if_neg (isn_P (by rw[q4];decide)),if_pos (isy_P q4),tk_cons n1]
theorem stop_close (R:List Tok) (t:Tok) (h:t.text=wBraceC):Stop (t::R):=stop_of (by rw[h];decide) (by rw[h];decide)
theorem ref_r {p p0:PmU} (hp:RfW p) (h0:p0.nm=p.nm/\p0.b=p.b/\p0.kn=false/\p0.ref=u0) (ts R:List Tok) (e:Option (Nat × Nat × Nat)) (ht:ts.map abT=rfA p) (hR:(hd R).text≠wBraceO):∃ p',stPm p'=stPm p/\EvQ (fun _ n=>cRef n p0 ⟨ts++R,e⟩) (p',⟨R,e⟩):=by
 obtain⟨p1,p2,p3⟩:=hp;obtain⟨z1,z2,z3,z4⟩:=h0;unfold rfA at ht
 by_cases hk:p.kn=true
 ·rw[if_pos hk] at ht;obtain⟨t,ts1,rfl,q1,q2,q3⟩:=map_cons ht;obtain⟨xa,ts2,rfl,ha,q4⟩:=map_app q3;obtain⟨t2,ts3,rfl,r1,r2,r3⟩:=map_cons q4;obtain rfl:=map_nil r3;have n1:t.kind≠4:=by rw[q1];show (2:Nat)≠4;decide
  have n2:t2.kind≠4:=by rw[r1];show (2:Nat)≠4;decide
  obtain⟨u',hs,hx⟩:=all_r (p2 hk) xa (t2::R) e ha (stop_close R t2 r2);refine⟨{ p0 with kn:=true,ref:=u' },?_,?_⟩
  ·show (p0.nm,p0.b,true,stU u')=(p.nm,p.b,p.kn,stU p.ref)
   rw[z1,z2,hs,hk]
  have es:t::(xa++[t2])++R=t::(xa++t2::R):=by simp
  rw[es];refine EvQ.same (g:=fun _ n=>(cAll n ⟨xa++t2::R,e⟩).bind fun r=>some ({ p0 with kn:=true,ref:=r.1 },r.2.exp wBraceC)) (fun m n=>?_) (EvQ.bind hx ?_)
  ·unfold cRef;rw[if_pos (isy_P q2),tk_cons n1]
  simp only[exp_cons n2 r2];exact EvQ.pure _
 rw[if_neg hk] at ht;obtain rfl:=map_nil ht;have hk2:p.kn=false:=by simpa using hk
 refine⟨p0,?_,EvQ.same (g:=fun _ _=>some (p0,⟨R,e⟩)) (fun m n=>?_) (EvQ.pure _)⟩
 ·show (p0.nm,p0.b,p0.kn,stU p0.ref)=(p.nm,p.b,p.kn,stU p.ref)
  rw[z1,z2,z3,z4,hk2,p3 hk2]
 unfold cRef;rw[List.nil_append,is_mk,if_neg (by rw[beq_iff_eq];exact hR)]
theorem counted_cons {t:Tok} {ts:List Tok} {e:Option (Nat × Nat × Nat)} (h:t.kind=0) {c l:Nat} (hc:c<l):(St.mk (t::ts) e).counted c l=⟨ts,e⟩:=by
 unfold St.counted;rw[if_neg (by omega),name_cons h]
theorem name_kind {nm:Bs} (h:NmP nm):nm≠wV:=nm_ne h (.inl (by decide))
theorem param_r {p:PmU} (hn:NmP p.nm) (hb:p.b<=2) {c:Nat} (hc:c<6) (ts R:List Tok) (e:Option (Nat × Nat × Nat)) (ht:ts.map abT=(((if p.nm=wV then 3 else 0),p.nm):Ab)::(2,wColon)::[bA p.b]):∃ p',(p'.nm=p.nm/\p'.b=p.b/\p'.kn=false/\p'.ref=u0)/\cParam c ⟨ts++R,e⟩=(p',⟨R,e⟩):=by
 obtain⟨t,ts1,rfl,q1,q2,q3⟩:=map_cons ht;obtain⟨t2,ts2,rfl,r1,r2,r3⟩:=map_cons q3;rw[if_neg (name_kind hn)] at q1;have n2:t2.kind≠4:=by rw[r1];show (2:Nat)≠4;decide
 refine⟨typ t.text t p.b,⟨q2,rfl,rfl,rfl⟩,?_⟩;unfold cParam;simp only[List.cons_append];rw[counted_cons q1 hc,exp_cons n2 r2,base_r hb ts2 R e r3];rfl
theorem var_r {p:PmU} (hn:p.nm=wV) (hp:QpW p) (ts R:List Tok) (e:Option (Nat × Nat × Nat)) (ht:ts.map abT=pmA p):∃ p',stPm p'=stPm p/\cVar ⟨ts++R,e⟩=(p',⟨R,e⟩):=by
 unfold pmA baA at ht;rw[rf_q hp.2.1] at ht;obtain⟨t,ts1,rfl,q1,q2,q3⟩:=map_cons ht;obtain⟨t2,ts2,rfl,r1,r2,r3⟩:=map_cons q3;rw[if_pos hn] at q1;have n1:t.kind≠4:=by rw[q1];show (3:Nat)≠4;decide
 have n2:t2.kind≠4:=by rw[r1];show (2:Nat)≠4;decide
 refine⟨typ t.text t p.b,?_,?_⟩
 ·show (t.text,p.b,false,stU u0)=(p.nm,p.b,p.kn,stU p.ref)
  rw[q2,hp.2.1,hp.2.2]
 unfold cVar;simp only[List.cons_append];rw[exp_cons n1 (by rw[q2];exact hn),exp_cons n2 r2,base_r hp.1 ts2 R e r3];rfl
theorem qmore_r:∀ (ps:List PmU),(∀ r ∈ ps,NmP r.nm/\QpW r)->∀ (l:List PmU),l.length+ps.length<=6->∀ (ts R:List Tok) (e:Option (Nat × Nat × Nat)),ts.map abT=(ps.map pmA).flatMap (fun q=>(2,wComma)::q)->(hd R).text≠wComma->∃ ps',ps'.map stPm=ps.map stPm/\EvQ (fun m _=>cQMore m l ⟨ts++R,e⟩) (l++ps',⟨R,e⟩)
 | [],_,l,_,ts,R,e,ht,hR=>by
  obtain rfl:=map_nil ht;refine⟨[],rfl,EvQ.succ (g:=fun _ _=>some (l++[],⟨R,e⟩)) (fun m n=>?_) (EvQ.pure _)⟩;rw[cQMore,List.nil_append,is_mk,if_neg (by rw[beq_iff_eq];exact hR),List.append_nil]
 | p::ps,hA,l,hl,ts,R,e,ht,hR=>by
  rw[List.map_cons,List.flatMap_cons,List.cons_append] at ht;obtain⟨t,ts1,rfl,q1,q2,q3⟩:=map_cons ht;obtain⟨xa,ts2,rfl,ha,q4⟩:=map_app q3;have n1:t.kind≠4:=by rw[q1];show (2:Nat)≠4;decide
  obtain⟨hn,hq⟩:=hA p (by simp);unfold pmA baA at ha;rw[rf_q hq.2.1] at ha;rw[lsc] at hl;obtain⟨p',hs,hx⟩:=param_r hn hq.1 (c:=l.length) (by omega) xa (ts2++R) e ha;obtain⟨ps',hs2,hx2⟩:=qmore_r ps (fun r hr=>hA r (by simp[hr])) (l++[p']) (by simp;omega) ts2 R e q4 hR;refine⟨p'::ps',?_,?_⟩
  ·rw[List.map_cons,List.map_cons,hs2]
   congr 1
   obtain⟨s1,s2,s3,s4⟩:=hs
   show (p'.nm,p'.b,p'.kn,stU p'.ref)=(p.nm,p.b,p.kn,stU p.ref)
   rw[s1,s2,s3,s4,hq.2.1,hq.2.2]
  rw[show l++p'::ps'=l++[p']++ps' by simp];refine EvQ.succ (fun m n=>?_) hx2;rw[cQMore,List.cons_append,if_pos (isy_P q2),tk_cons n1,List.append_assoc,hx]
theorem fpar_r {p:PmU} (hp:PmW p) {l:List PmU} (hl:l.length<6) (ts R:List Tok) (e:Option (Nat × Nat × Nat)) (ht:ts.map abT=pmA p) (hR:(hd R).text≠wBraceO):∃ p',stPm p'=stPm p/\EvQ (fun _ n=>cFPar n l ⟨ts++R,e⟩) (l++[p'],⟨R,e⟩):=by
 unfold pmA baA at ht;rw[show ((((if p.nm=wV then 3 else 0),p.nm):Ab)::(2,wColon)::bA p.b::rfA p)=((((if p.nm=wV then 3 else 0),p.nm):Ab)::(2,wColon)::[bA p.b])++rfA p from rfl] at ht;obtain⟨xa,xb,rfl,ha,hb⟩:=map_app ht;obtain⟨p0,hs,hx⟩:=param_r hp.1 hp.2.1 hl xa (xb++R) e ha;obtain⟨p',hs2,hx2⟩:=ref_r hp.2 hs xb R e hb hR;refine⟨p',hs2,EvQ.same (g:=fun _ n=>(cRef n p0 ⟨xb++R,e⟩).bind fun r=>some (l++[r.1],r.2)) (fun m n=>?_) (EvQ.bind hx2 (EvQ.pure _))⟩;unfold cFPar;rw[List.append_assoc,hx]
theorem fmore_r:∀ (ps:List PmU),(∀ r ∈ ps,PmW r)->∀ (l:List PmU),l.length+ps.length<=6->∀ (ts R:List Tok) (e:Option (Nat × Nat × Nat)),ts.map abT=(ps.map pmA).flatMap (fun q=>(2,wComma)::q)++[(2,wClose)]->∃ ps',ps'.map stPm=ps.map stPm/\EvQ (fun m n=>cFMore m n l ⟨ts++R,e⟩) (l++ps',⟨R,e⟩)
 | [],_,l,_,ts,R,e,ht=>by
  obtain⟨t,ts',rfl,h1,h2,h3⟩:=map_cons (show ts.map abT=(2,wClose)::[] from ht);obtain rfl:=map_nil h3;refine⟨[],rfl,EvQ.succ (g:=fun _ _=>some (l++[],⟨R,e⟩)) (fun m n=>?_) (EvQ.pure _)⟩;rw[cFMore,List.cons_append,if_neg (isn_P (by rw[h2];decide)),exp_cons (by rw[h1];decide) h2,List.append_nil];rfl
 | p::ps,hA,l,hl,ts,R,e,ht=>by
  rw[List.map_cons,List.flatMap_cons,List.cons_append,List.cons_append,List.append_assoc] at ht;obtain⟨t,ts1,rfl,q1,q2,q3⟩:=map_cons ht;obtain⟨xa,ts2,rfl,ha,q4⟩:=map_app q3;have n1:t.kind≠4:=by rw[q1];show (2:Nat)≠4;decide
  rw[lsc] at hl
  have hB:(hd (ts2++R)).text≠wBraceO:=by
   cases ps with
   | nil=>obtain⟨q,qs,rfl,a1,a2,a3⟩:=map_cons (show ts2.map abT=(2,wClose)::[] from q4);show q.text≠_;rw[a2];decide
   | cons v vs=>rw[List.map_cons,List.flatMap_cons,List.cons_append,List.cons_append] at q4;obtain⟨q,qs,rfl,a1,a2,a3⟩:=map_cons q4;show q.text≠_;rw[a2];decide
  obtain⟨p',hs,hx⟩:=fpar_r (hA p (by simp)) (l:=l) (by omega) xa (ts2++R) e ha hB;obtain⟨ps',hs2,hx2⟩:=fmore_r ps (fun r hr=>hA r (by simp[hr])) (l++[p']) (by simp;omega) ts2 R e q4;refine⟨p'::ps',by rw[List.map_cons,List.map_cons,hs2,hs],?_⟩;rw[show l++p'::ps'=l++[p']++ps' by simp];refine EvQ.succ (g:=fun m n=>(cFPar n l ⟨xa++(ts2++R),e⟩).bind fun r=>cFMore m n r.1 r.2) (fun m n=>?_) (EvQ.bind hx hx2);rw[cFMore,List.cons_append,if_pos (isy_P q2),tk_cons n1,List.append_assoc]
theorem fpars_r {ps:List PmU} (hA:∀ r ∈ ps,PmW r) (hl:ps.length<=6) (ts R:List Tok) (e:Option (Nat × Nat × Nat)) (ht:ts.map abT=comA (ps.map pmA)++[(2,wClose)]):∃ ps',ps'.map stPm=ps.map stPm/\EvQ (fun m n=>cFPars m n ⟨ts++R,e⟩) (ps',⟨R,e⟩):=by
 cases ps with
 | nil =>
  obtain⟨t,ts',rfl,h1,h2,h3⟩:=map_cons (show ts.map abT=(2,wClose)::[] from ht);obtain rfl:=map_nil h3;refine⟨[],rfl,EvQ.same (g:=fun _ _=>some ([],⟨R,e⟩)) (fun m n=>?_) (EvQ.pure _)⟩;unfold cFPars;rw[List.cons_append,if_pos (isy_P h2),tk_cons (by rw[h1];decide)];rfl
 | cons p ps =>
  rw[List.map_cons,com_cons,List.append_assoc] at ht;obtain⟨xa,ts2,rfl,ha,q4⟩:=map_app ht;rw[lsc] at hl
  have hB:(hd (ts2++R)).text≠wBraceO:=by
   cases ps with
   | nil=>obtain⟨q,qs,rfl,a1,a2,a3⟩:=map_cons (show ts2.map abT=(2,wClose)::[] from q4);show q.text≠_;rw[a2];decide
   | cons v vs=>rw[List.map_cons,List.flatMap_cons,List.cons_append,List.cons_append] at q4;obtain⟨q,qs,rfl,a1,a2,a3⟩:=map_cons q4;show q.text≠_;rw[a2];decide
  obtain⟨p',hs,hx⟩:=fpar_r (hA p (by simp)) (l:=[]) (by decide) xa (ts2++R) e ha hB;obtain⟨ps',hs2,hx2⟩:=fmore_r ps (fun r hr=>hA r (by simp[hr])) [p'] (by simp;omega) ts2 R e q4;refine⟨p'::ps',by rw[List.map_cons,List.map_cons,hs2,hs],?_⟩;refine EvQ.same (g:=fun m n=>(cFPar n [] ⟨xa++(ts2++R),e⟩).bind fun r=>cFMore m n r.1 r.2) (fun m n=>?_) (EvQ.bind hx hx2);unfold cFPars;unfold pmA at ha;obtain⟨t,ts1,rfl,b1,b2,b3⟩:=map_cons ha;rw[List.append_assoc,List.cons_append,if_neg (isn_P (by rw[b2];exact nm_ne (hA p (by simp)).1 (.inr (by decide))))]
theorem res_r {p:PmU} (hn:p.nm=wV) (hp:RfW p) (ts R:List Tok) (e:Option (Nat × Nat × Nat)) (ht:ts.map abT=baA p) (hR:(hd R).text≠wBraceO):∃ p',stPm p'=stPm p/\EvQ (fun _ n=>cRes n ⟨ts++R,e⟩) (p',⟨R,e⟩):=by
 unfold baA at ht;rw[show bA p.b::rfA p=[bA p.b]++rfA p from rfl] at ht;obtain⟨xa,xb,rfl,ha,hb⟩:=map_app ht;have hx:=base_r hp.1 xa (xb++R) e ha;obtain⟨p',hs2,hx2⟩:=ref_r (p0:=typ wV (St.mk (xa++(xb++R)) e).nx p.b) hp ⟨hn.symm,rfl,rfl,rfl⟩ xb R e hb hR;refine⟨p',hs2,EvQ.same (fun m n=>?_) hx2⟩;unfold cRes;rw[List.append_assoc,hx]
theorem qual_r {q:QlU} (hq:QlW q) {c:Nat} (hc:c<20) (ts R:List Tok) (e:Option (Nat × Nat × Nat)) (ht:ts.map abT=hdA q.nm q.ps++tb q.body) (hS:Stop R):∃ q',stQl q'=stQl q/\EvQ (fun m n=>cQual m n c ⟨ts++R,e⟩) (q',⟨R,e⟩):=by
 obtain⟨hn,⟨p,ps,hps,⟨hv,hp⟩,hA⟩,hl,hw⟩:=hq;unfold hdA at ht;rw[hps,List.map_cons,com_cons] at ht;simp only[List.cons_append,List.append_assoc,List.nil_append] at ht;rw[hps,lsc] at hl;obtain⟨t,ts1,rfl,q1,q2,q3⟩:=map_cons ht;obtain⟨t2,ts2,rfl,r1,r2,r3⟩:=map_cons q3;obtain⟨xa,ts3,rfl,ha,q4⟩:=map_app r3;obtain⟨xb,ts4,rfl,hb,q5⟩:=map_app q4;obtain⟨t5,ts6,rfl,s1,s2,s3⟩:=map_cons q5;obtain⟨t6,xc,rfl,u1,u2,hc2⟩:=map_cons s3;have n2:t2.kind≠4:=by rw[r1];show (2:Nat)≠4;decide
 have n5:t5.kind≠4:=by rw[s1];show (2:Nat)≠4;decide
 have n6:t6.kind≠4:=by rw[u1];show (2:Nat)≠4;decide
 obtain⟨p',hs1,hx1⟩:=var_r hv hp xa (xb++t5::t6::(xc++R)) e ha;obtain⟨ps',hs2,hx2⟩:=qmore_r ps hA [p'] (by simp;omega) xb (t5::t6::(xc++R)) e hb (by show t5.text≠_;rw[s2];decide);obtain⟨u',hs3,hx3⟩:=all_r hw xc R e hc2 hS;refine⟨⟨t.text,[p']++ps',u',t.line,t.col⟩,?_,?_⟩
 ·show (t.text,(p'::ps').map stPm,stU u')=(q.nm,q.ps.map stPm,stU q.body)
  rw[hps,List.map_cons,List.map_cons,hs1,hs2,hs3,show t.text=q.nm from q2]
 have es:t::t2::(xa++(xb++t5::t6::xc))++R=t::t2::(xa++(xb++t5::t6::(xc++R))):=by simp
 rw[es];refine EvQ.same (g:=fun m n=>(cQMore m [p'] ⟨xb++t5::t6::(xc++R),e⟩).bind fun r=>(cAll n ((r.2.exp wClose).exp wColon)).bind fun z=>some (⟨t.text,r.1,z.1,t.line,t.col⟩,z.2)) (fun m n=>?_) ?_
 ·unfold cQual;simp only[counted_cons (t:=t) q1 hc,exp_cons n2 r2,hx1,nx_cons]
 refine EvQ.bind hx2 ?_;simp only[exp_cons n5 s2,exp_cons n6 u2];exact EvQ.bind hx3 (EvQ.pure _)
theorem fun_r {f:FnU} (hf:FnW f) {c:Nat} (hc:c<20) (ts R:List Tok) (e:Option (Nat × Nat × Nat)) (ht:ts.map abT=hdA f.nm f.ps++(baA f.res++(2,wEq)::tb f.body)) (hS:Stop R):∃ f',stFn f'=stFn f/\EvQ (fun m n=>cFun m n c ⟨ts++R,e⟩) (f',⟨R,e⟩):=by
 obtain⟨hn,hA,hl,hv,hr,hw⟩:=hf;unfold hdA at ht;simp only[List.cons_append,List.append_assoc,List.nil_append] at ht;obtain⟨t,ts1,rfl,q1,q2,q3⟩:=map_cons ht;obtain⟨t2,ts2,rfl,r1,r2,r3⟩:=map_cons q3;rw[show comA (f.ps.map pmA)++((2,wClose)::(2,wColon)::(baA f.res++(2,wEq)::tb f.body))=(comA (f.ps.map pmA)++[(2,wClose)])++((2,wColon):Ab)::(baA f.res++(2,wEq)::tb f.body) by simp] at r3;obtain⟨xa,ts3,rfl,ha,q4⟩:=map_app r3;obtain⟨t5,ts4,rfl,s1,s2,s3⟩:=map_cons q4;obtain⟨xb,ts5,rfl,hb,q5⟩:=map_app (show ts4.map abT=baA f.res++(2,wEq)::tb f.body from s3);obtain⟨t6,xc,rfl,u1,u2,hc2⟩:=map_cons q5;have n2:t2.kind≠4:=by rw[r1];show (2:Nat)≠4;decide
 have n5:t5.kind≠4:=by rw[s1];show (2:Nat)≠4;decide
 have n6:t6.kind≠4:=by rw[u1];show (2:Nat)≠4;decide
 obtain⟨ps',hs1,hx1⟩:=fpars_r hA hl xa (t5::(xb++t6::(xc++R))) e ha;obtain⟨p',hs2,hx2⟩:=res_r hv hr xb (t6::(xc++R)) e hb (by show t6.text≠_;rw[u2];decide);obtain⟨u',hs3,hx3⟩:=all_r hw xc R e hc2 hS;refine⟨⟨t.text,ps',p',u',t.line,t.col⟩,?_,?_⟩
 ·show (t.text,ps'.map stPm,stPm p',stU u')=(f.nm,f.ps.map stPm,stPm f.res,stU f.body)
  rw[hs1,hs2,hs3,show t.text=f.nm from q2]
 have es:t::t2::(xa++t5::(xb++t6::xc))++R=t::t2::(xa++t5::(xb++t6::(xc++R))):=by simp
 rw[es];refine EvQ.same (g:=fun m n=>(cFPars m n ⟨xa++t5::(xb++t6::(xc++R)),e⟩).bind fun r=>(cRes n (r.2.exp wColon)).bind fun y=>(cAll n (y.2.exp wEq)).bind fun z=>some (⟨t.text,r.1,y.1,z.1,t.line,t.col⟩,z.2)) (fun m n=>?_) ?_
 ·unfold cFun;simp only[counted_cons (t:=t) q1 hc,exp_cons n2 r2,nx_cons]
 refine EvQ.bind hx1 ?_;simp only[exp_cons n5 s2];refine EvQ.bind hx2 ?_;simp only[exp_cons n6 u2];exact EvQ.bind hx3 (EvQ.pure _)
def Nxt (R:List Tok):Prop:=(hd R).text=wQualif\/(hd R).text=wFun\/(hd R).text=[]
theorem Nxt.stop {R:List Tok} (h:Nxt R):Stop R:=by
 rcases h with h | h | h<;>exact⟨by show (hd R).text≠_;rw[h];decide,by rw[h];decide⟩
theorem quals_r:∀ (qs:List QlU),(∀ q ∈ qs,QlW q)->∀ (p:PgU),p.qs.length+qs.length<=20->∀ (ts R:List Tok) (e:Option (Nat × Nat × Nat)),ts.map abT=qs.flatMap qlA->Nxt R->∃ qs',qs'.map stQl=qs.map stQl/\∀ r,EvQ (fun m n=>cProg m n ⟨p.qs++qs',p.fs⟩ ⟨R,e⟩) r->EvQ (fun m n=>cProg m n p ⟨ts++R,e⟩) r
 | [],_,p,_,ts,R,e,ht,hR=>by
  obtain rfl:=map_nil ht;exact⟨[],rfl,fun r hr=>by rw[List.append_nil] at hr;exact hr⟩
 | q::qs,hA,p,hl,ts,R,e,ht,hR=>by
  rw[List.flatMap_cons,show qlA q=(3,wQualif)::(hdA q.nm q.ps++tb q.body) from rfl,List.cons_append] at ht;obtain⟨t,ts1,rfl,q1,q2,q3⟩:=map_cons ht;obtain⟨xa,ts2,rfl,ha,q4⟩:=map_app q3;rw[lsc] at hl;have n1:t.kind≠4:=by rw[q1];show (3:Nat)≠4;decide
  have hN:Nxt (ts2++R):=by
   cases qs with
   | nil=>obtain rfl:=map_nil q4;exact hR
   | cons v vs=>rw[List.flatMap_cons,show qlA v=(3,wQualif)::(hdA v.nm v.ps++tb v.body) from rfl,List.cons_append] at q4;obtain⟨y,ys,rfl,a1,a2,a3⟩:=map_cons q4;exact .inl a2
  obtain⟨q',hs,hx⟩:=qual_r (hA q (by simp)) (c:=p.qs.length) (by omega) xa (ts2++R) e ha hN.stop;obtain⟨qs',hs2,hx2⟩:=quals_r qs (fun r hr=>hA r (by simp[hr])) ⟨p.qs++[q'],p.fs⟩ (by simp;omega) ts2 R e q4 hR;refine⟨q'::qs',by rw[List.map_cons,List.map_cons,hs,hs2],fun r hr=>?_⟩;have hr2:=hx2 r (by rw[show p.qs++q'::qs'=p.qs++[q']++qs' by simp] at hr;exact hr);refine EvQ.succ (g:=fun m n=>(cQual m n p.qs.length ⟨xa++(ts2++R),e⟩).bind fun r=>cProg m n ⟨p.qs++[r.1],p.fs⟩ r.2) (fun m n=>?_) (EvQ.bind hx hr2);rw[cProg,List.cons_append,if_pos (isy_P q2),tk_cons n1,List.append_assoc]
theorem funs_r:∀ (fs:List FnU),(∀ f ∈ fs,FnW f)->∀ (p:PgU),p.fs.length+fs.length<=20->∀ (ts R:List Tok) (e:Option (Nat × Nat × Nat)),ts.map abT=fs.flatMap fnA->Nxt R->∃ fs',fs'.map stFn=fs.map stFn/\∀ r,EvQ (fun m n=>cProg m n ⟨p.qs,p.fs++fs'⟩ ⟨R,e⟩) r->EvQ (fun m n=>cProg m n p ⟨ts++R,e⟩) r
 | [],_,p,_,ts,R,e,ht,hR=>by
  obtain rfl:=map_nil ht;exact⟨[],rfl,fun r hr=>by rw[List.append_nil] at hr;exact hr⟩
 | f::fs,hA,p,hl,ts,R,e,ht,hR=>by
  rw[List.flatMap_cons,show fnA f=(3,wFun)::(hdA f.nm f.ps++(baA f.res++(2,wEq)::tb f.body)) from rfl,List.cons_append] at ht;obtain⟨t,ts1,rfl,q1,q2,q3⟩:=map_cons ht;obtain⟨xa,ts2,rfl,ha,q4⟩:=map_app q3;rw[lsc] at hl;have n1:t.kind≠4:=by rw[q1];show (3:Nat)≠4;decide
  have hN:Nxt (ts2++R):=by
   cases fs with
   | nil=>obtain rfl:=map_nil q4;exact hR
   | cons v vs=>rw[List.flatMap_cons,show fnA v=(3,wFun)::(hdA v.nm v.ps++(baA v.res++(2,wEq)::tb v.body)) from rfl,List.cons_append] at q4;obtain⟨y,ys,rfl,a1,a2,a3⟩:=map_cons q4;exact .inr (.inl a2)
  obtain⟨f',hs,hx⟩:=fun_r (hA f (by simp)) (c:=p.fs.length) (by omega) xa (ts2++R) e ha hN.stop;obtain⟨fs',hs2,hx2⟩:=funs_r fs (fun r hr=>hA r (by simp[hr])) ⟨p.qs,p.fs++[f']⟩ (by simp;omega) ts2 R e q4 hR;refine⟨f'::fs',by rw[List.map_cons,List.map_cons,hs,hs2],fun r hr=>?_⟩;have hr2:=hx2 r (by rw[show p.fs++f'::fs'=p.fs++[f']++fs' by simp] at hr;exact hr);refine EvQ.succ (g:=fun m n=>(cFun m n p.fs.length ⟨xa++(ts2++R),e⟩).bind fun r=>cProg m n ⟨p.qs,p.fs++[r.1]⟩ r.2) (fun m n=>?_) (EvQ.bind hx hr2);rw[cProg,List.cons_append,if_neg (isn_P (by rw[q2];decide)),if_pos (isy_P q2),tk_cons n1,List.append_assoc]
theorem prog_r {p:PgU} (hp:PgW p) (ts:List Tok) (t:Tok) (ht:ts.map abT=pgA p) (hk:t.text=[]):∃ p',p'.qs.map stQl=p.qs.map stQl/\p'.fs.map stFn=p.fs.map stFn/\EvQ (fun m n=>cProg m n ⟨[],[]⟩ ⟨ts++[t],none⟩) (p',⟨[t],none⟩):=by
 obtain⟨⟨h1,h2⟩,h3,h4⟩:=hp;unfold pgA at ht;obtain⟨xa,xb,rfl,ha,hb⟩:=map_app ht;have hN:Nxt [t]:=.inr (.inr hk)
 have hN2:Nxt (xb++[t]):=by
  cases hf:p.fs with
  | nil=>rw[hf] at hb;obtain rfl:=map_nil hb;exact hN
  | cons v vs=>rw[hf,List.flatMap_cons,show fnA v=(3,wFun)::(hdA v.nm v.ps++(baA v.res++(2,wEq)::tb v.body)) from rfl,List.cons_append] at hb;obtain⟨y,ys,rfl,a1,a2,a3⟩:=map_cons hb;exact .inr (.inl a2)
 obtain⟨qs',s1,x1⟩:=quals_r p.qs h1 ⟨[],[]⟩ (by simp;omega) xa (xb++[t]) none ha hN2;obtain⟨fs',s2,x2⟩:=funs_r p.fs h3 ⟨qs',[]⟩ (by simp;omega) xb [t] none hb hN;refine⟨⟨qs',fs'⟩,s1,s2,?_⟩;rw[List.append_assoc];refine x1 _ (x2 _ (EvQ.succ (g:=fun _ _=>some (⟨qs',fs'⟩,⟨[t],none⟩)) (fun m n=>?_) (EvQ.pure _)));rw[cProg,if_neg (isn_P (by rw[hk];decide)),if_neg (isn_P (by rw[hk];decide))];rfl
def Fo (r:Bs):Prop:=∀ c,r.head?=some c->isLD c=false
def LQ (Q:Bs->Prop) (t:Bs) (av:List Ab):Prop:=∀ r p,Q r->∃ ts q,ts.map abT=av/\lexS (t++r) p=(ts++(lexS r q).1,(lexS r q).2)
def Aq (_:Bs):Prop:=True
theorem LQ.app {Q1 Q2:Bs->Prop} {t1 t2:Bs} {a1 a2:List Ab} (h1:LQ Q1 t1 a1) (h2:LQ Q2 t2 a2) (hq:∀ r,Q2 r->Q1 (t2++r)):LQ Q2 (t1++t2) (a1++a2):=by
 intro r p hr;obtain⟨ts,q,e1,e2⟩:=h1 (t2++r) p (hq r hr);obtain⟨us,q2,e3,e4⟩:=h2 r q hr;refine⟨ts++us,q2,by rw[List.map_append,e1,e3],?_⟩;rw[List.append_assoc,e2,e4,List.append_assoc]
theorem LQ.mono {Q Q':Bs->Prop} {t:Bs} {a:List Ab} (h:LQ Q t a) (hq:∀ r,Q' r->Q r):LQ Q' t a:=fun r p hr=>h r p (hq r hr)
theorem LQ.any {Q:Bs->Prop} {t:Bs} {a:List Ab} (h:LQ Aq t a):LQ Q t a:=h.mono fun _ _=>trivial
theorem LQ.nil {Q:Bs->Prop}:LQ Q [] []:=fun r p _=>⟨[],p,rfl,rfl⟩
theorem LQ.one {Q:Bs->Prop} {t:Bs} {k:Nat} (hb:∃ c r,t=c::r/\blk c=false/\c≠35) (hm:∀ r,Q r->meas (t++r)=.ok k t.length):LQ Q t [(k,t)]:=by
 intro r p hr;have h:=hm r hr;obtain⟨c,m,rfl,b1,b2⟩:=hb;have g0:gapL false ((c::m)++r)=0:=by rw[List.cons_append,gapL,if_neg b2,b1];rfl
 have hd:((c::m)++r).drop (gapL false ((c::m)++r))=(c::m)++r:=by rw[g0,List.drop_zero]
 have hl:=lex_tok (s:=(c::m)++r) (p:=p) (k:=k) (n:=(c::m).length) (by rw[hd];simp) (by rw[hd];exact h);rw[hd,List.take_left,List.drop_left] at hl;exact⟨[⟨k,c::m,_,_⟩],_,rfl,hl⟩
theorem LQ.gap {Q:Bs->Prop} {b:Bs} (hb:Gap b):LQ Q b []:=fun r p _=>⟨[],_,rfl,lex_gap hb r p⟩
theorem gap32:Gap [32]:=fun s=>by
 rw[List.cons_append,gapL,if_neg (by decide),if_pos (by decide)];simp;omega
theorem gap10:Gap [10]:=fun s=>by
 rw[List.cons_append,gapL,if_neg (by decide),if_pos (by decide)];simp;omega
theorem fo_cons {c:UInt8} (h:isLD c=false) (r:Bs):Fo (c::r):=fun d hd=>by
 simp only[List.head?_cons,Option.some.injEq] at hd;subst hd;exact h
theorem LQ.bl {k:Nat} {w:Bs} (hw:∃ c r,w=c::r/\blk c=false/\c≠35) (hm:meas w=.ok k w.length):LQ Aq (w++[32]) [(k,w)]:=by
 have h1:LQ (fun r=>∃ s,r=32::s) w [(k,w)]:=LQ.one hw fun r hr=>by
  obtain⟨s,rfl⟩:=hr;obtain⟨c,m,rfl,-⟩:=hw;have:=meas_app (l:=c::m) (by simp) hm 32 (.inl rfl) s
  rwa [List.take_length] at this
 have:=h1.app (LQ.gap (Q:=Aq) gap32) (fun r _=>⟨r,rfl⟩)
 simpa using this
theorem LQ.bb {k:Nat} {w:Bs} (hw:∃ c r,w=c::r/\blk c=false/\c≠35) (hm:meas w=.ok k w.length):LQ Aq ([32]++(w++[32])) [(k,w)]:=by
 have:=(LQ.gap (Q:=Aq) gap32).app (LQ.bl hw hm) (fun r _=>trivial)
 simpa using this
theorem spn_fo {p:UInt8->Bool}:∀ (l r:Bs),(∀ c ∈ l,p c=true)->(∀ c,r.head?=some c->p c=false)->spn p (l++r)=l.length
 | [],[],_,_=>rfl
 | [],c::r,_,h=>by rw[List.nil_append,spn,h c rfl];rfl
 | a::l,r,h1,h2=>by
  rw[List.cons_append,spn,if_pos (h1 a (by simp)),spn_fo l r (fun c hc=>h1 c (by simp[hc])) h2];rfl
theorem lx_name {nm:Bs} (h:NmP nm):LQ Fo nm [(0,nm)]:=by
 obtain⟨h1,⟨c,r,rfl,h2⟩,h3,h4⟩:=h;have hn:=isLD_ne (isL_LD h2);refine LQ.one ⟨c,r,rfl,hn.2.1,hn.2.2⟩ fun s hs=>?_
 have hsp:=spn_fo (p:=isLD) (c::r) s h3 hs;rw[List.cons_append] at hsp ⊢;rw[meas_cons,if_pos h2,hsp,if_neg (by omega),<-List.cons_append,List.take_left,h1];rfl
theorem lx_word {w:Bs} (h1:isW w=true) (h2:∃ c r,w=c::r/\isL c=true) (h3:∀ c ∈ w,isLD c=true) (h4:w.length<=40):LQ Fo w [(3,w)]:=by
 obtain⟨c,r,rfl,h2⟩:=h2;have hn:=isLD_ne (isL_LD h2);refine LQ.one ⟨c,r,rfl,hn.2.1,hn.2.2⟩ fun s hs=>?_
 have hsp:=spn_fo (p:=isLD) (c::r) s h3 hs;rw[List.cons_append] at hsp ⊢;rw[meas_cons,if_pos h2,hsp,if_neg (by omega),<-List.cons_append,List.take_left,h1];rfl
theorem isD_notL {c:UInt8} (h:isD c=true):isL c=false:=by
 unfold isD at h;unfold isL;simp only[Bool.and_eq_true,decide_eq_true_eq,UInt8.le_iff_toNat_le] at h;simp only[Bool.or_eq_false_iff,Bool.and_eq_false_iff,decide_eq_false_iff_not,beq_eq_false_iff_ne,UInt8.le_iff_toNat_le,ne_eq];have h1:(57:UInt8).toNat=57:=rfl;have h2:(48:UInt8).toNat=48:=rfl;have h3:(97:UInt8).toNat=97:=rfl;have h4:(65:UInt8).toNat=65:=rfl;refine⟨⟨.inl (by omega),.inl (by omega)⟩,fun e=>?_⟩;rw[e] at h;have h5:(95:UInt8).toNat=95:=rfl
 omega
theorem lx_num {z:Nat} (hl:(Lib.decDigits z).length<=300):LQ Fo (Lib.decDigits z) [(1,Lib.decDigits z)]:=by
 have hN:=numeral_dec hl;obtain⟨n1,n2,n3,n4⟩:=hN
 cases hd:Lib.decDigits z with
 | nil=>exact absurd hd n1
 | cons c r =>
  rw[hd] at n2 n3 n4
  have hD:∀ x ∈ c::r,isD x=true:=fun x hx=>by
   have:=n4 x hx;simp only[isD,Bool.and_eq_true,decide_eq_true_eq];exact⟨UInt8.le_iff_toNat_le.2 this.1,UInt8.le_iff_toNat_le.2 this.2⟩
  have hc:=hD c (by simp);have hn:=isLD_ne (isD_LD hc);refine LQ.one ⟨c,r,rfl,hn.2.1,hn.2.2⟩ fun s hs=>?_
  have hsp:=spn_fo (p:=isD) (c::r) s hD (fun x hx=>by
   have:=hs x hx;unfold isLD at this
   rw[Bool.or_eq_false_iff] at this;exact this.2)
  rw[List.cons_append] at hsp ⊢
  rw[meas_cons,if_neg (by rw[isD_notL hc];decide),if_pos hc,hsp,if_neg (by
   rintro⟨a,b⟩
   exact n3 a b),if_neg (by omega)]
def sgl1 (c:UInt8):Bool:=c==40 || c==41 || c==123 || c==125 || c==44 || c==59
theorem lx_sgl {c:UInt8} (h:sgl1 c=true):LQ Aq [c] [(2,[c])]:=by
 have h2:c=40\/c=41\/c=123\/c=125\/c=44\/c=59:=by simpa [sgl1,or_assoc] using h
 have hb:blk c=false/\c≠35/\isL c=false/\isD c=false/\sglB c=true:=by
  rcases h2 with rfl | rfl | rfl | rfl | rfl | rfl<;>decide
 have hp:∀ b,pairB c b=false:=by
  intro b;rcases h2 with rfl | rfl | rfl | rfl | rfl | rfl<;>simp[pairB]
 obtain⟨b1,b2,b3,b4,b5⟩:=hb;refine LQ.one ⟨c,[],rfl,b1,b2⟩ fun s _=>?_
 have hs:sgn (c::s)=1:=by
  cases s with
  | nil=>rw[sgn,if_pos b5]
  | cons d s=>rw[sgn,hp d,if_neg (by decide),if_pos b5]
 show meas (c::s)=_
 rw[meas_cons,b3,b4,hs];rfl
theorem lx_minus:LQ (fun r=>∃ c s,r=c::s/\c≠62) [45] [(2,[45])]:=by
 refine LQ.one ⟨45,[],rfl,by decide,by decide⟩ fun s hs=>?_
 obtain⟨c,m,rfl,hc⟩:=hs
 show meas (45::c::m)=_
 have hp:pairB 45 c=false:=by simp[pairB,hc]
 have h1:sgn (45::c::m)=1:=by rw[sgn,hp,if_neg (by decide),if_pos (by decide)]
 rw[meas_cons,if_neg (by decide),if_neg (by decide),h1];rfl
theorem lx_nil:LQ Aq [91,93] [(2,[91,93])]:=LQ.one ⟨91,[93],rfl,by decide,by decide⟩ fun s _=>rfl
structure TX (t:Bs) (av:List Ab):Prop where
 l:LQ Fo t av
 h:∃ c r,t=c::r/\c≠62
 n:t.length<=wA av
theorem LQ.paren {t:Bs} {a:List Ab} (h:LQ Fo t a):LQ Aq ([40]++t++[41]) ((2,wOpen)::(a++[(2,wClose)])):=by
 have h1:=((lx_sgl (c:=40) (by decide)).app h (fun _ _=>trivial)).app (lx_sgl (c:=41) (by decide)) (fun r _=>fo_cons (by decide) r)
 simpa using h1
theorem TX.br {t:Bs} {a:List Ab} (h:TX t a) (w v:Nat):TX (br w v t) (brA w v a):=by
 unfold YtkocdbgmckdcpaaGreatDoor.br brA
 by_cases hw:w<=v
 ·rw[if_pos hw,if_pos hw];exact h
 rw[if_neg hw,if_neg hw];refine⟨h.l.paren.any,⟨40,_,rfl,by decide⟩,?_⟩;have:=h.n;rw[wA_cons,wA_app,wA_cons,wA_nil];simp only[lsa,lsc,lsn]
 omega
theorem com_tx {α:Type} (f:α->Bs) (g:α->List Ab):∀ (l:List α),(∀ x ∈ l,TX (f x) (g x))->LQ Fo (com (l.map f)) (comA (l.map g))/\(com (l.map f)).length<=wA (comA (l.map g))
 | [],_=>⟨LQ.nil,Nat.le_refl _⟩
 | [x],h=>⟨(h x (by simp)).l,(h x (by simp)).n⟩
 | x::y::l,h=>by
  obtain⟨i1,i2⟩:=com_tx f g (y::l) (fun z hz=>h z (List.mem_cons_of_mem _ hz));have hx:=h x (by simp);have h2:=(hx.l.app (LQ.bl (k:=2) (w:=wComma) ⟨44,[],rfl,by decide,by decide⟩ rfl) (fun r _=>fo_cons (by decide) _)).app i1 (fun _ _=>trivial);have hn:=hx.n;simp only[List.map_cons] at i1 i2 h2 ⊢;rw[com,comA];refine⟨by simpa using h2,?_⟩;rw[wA_app,wA_cons];simp only[lsa,lsc,lsn] at *
  omega
theorem exs_get (k:Nat):∀ (ks:List U) (i j:Nat) (h:j<ks.length),(exs k i (stUs ks)).getD j []=br (rq k (i+j)) (lv ks[j].k) (tx (stU ks[j]))
 | [],_,_,h=>by cases h
 | u::us,i,0,_=>by
  obtain⟨k2,nm,ot,z,ln,cl,ks⟩:=u;rw[stUs,exs];rw[stU];rfl
 | u::us,i,j+1,h=>by
  rw[stUs,exs]
  show (exs k (i+1) (stUs us)).getD j []=_
  rw[exs_get k us (i+1) j (by simpa using h)];rw[show i+1+j=i+(j+1) by omega];rfl
theorem br_0 (h:Nat) (s:Bs):br 0 h s=s:=if_pos (Nat.zero_le _)
theorem exs24 {k:Nat} (hk:24<=k):∀ (us:List U) (i:Nat),exs k i (stUs us)=us.map fun u=>tx (stU u)
 | [],_=>by rw[stUs,exs];rfl
 | u::us,i=>by
  rw[stUs,exs,exs24 hk us (i+1),List.map_cons];have:rq k i=0:=by unfold rq;rw[if_neg (by omega),if_neg (by omega)]
  rw[this,br_0]
theorem TX.name {nm:Bs} (h:NmP nm):TX nm [(0,nm)]:=by
 refine⟨lx_name h,?_,by rw[wA_cons,wA_nil];show nm.length<=nm.length+2+0;omega⟩;obtain⟨-,⟨c,r,rfl,h2⟩,-⟩:=h;exact⟨c,r,rfl,fun e=>by rw[e] at h2;exact absurd h2 (by decide)⟩
theorem TX.word {w:Bs} (h1:isW w=true) (h2:∃ c r,w=c::r/\isL c=true) (h3:∀ c ∈ w,isLD c=true) (h4:w.length<=40):TX w [(3,w)]:=by
 refine⟨lx_word h1 h2 h3 h4,?_,by rw[wA_cons,wA_nil];show w.length<=w.length+2+0;omega⟩;obtain⟨c,r,rfl,h2⟩:=h2;exact⟨c,r,rfl,fun e=>by rw[e] at h2;exact absurd h2 (by decide)⟩
theorem dec_head (z:Nat):∃ c r,Lib.decDigits z=c::r/\c≠62:=by
 obtain⟨h1,-,h3,-⟩:=dn_dec z
 cases hd:Lib.decDigits z with
 | nil=>exact absurd hd h3
 | cons c r =>
  rw[hd] at h1;refine⟨c,r,rfl,fun e=>?_⟩;have:=h1 c (by simp);rw[e] at this;exact absurd this.2 (by decide)
theorem TX.num {z:Nat} (hl:(Lib.decDigits z).length<=300):TX (Lib.decDigits z) [(1,Lib.decDigits z)]:=
 ⟨lx_num hl,dec_head z,by rw[wA_cons,wA_nil];show (Lib.decDigits z).length<=(Lib.decDigits z).length+2+0;omega⟩
theorem cb {k:Nat} {w:Bs} {c:UInt8} {r:Bs} (e:w=c::r) (h1:blk c=false) (h2:c≠35) (hm:meas w=.ok k w.length):LQ Aq (w++[32]) [(k,w)]:=LQ.bl ⟨c,r,e,h1,h2⟩ hm
theorem bcb {k:Nat} {w:Bs} {c:UInt8} {r:Bs} (e:w=c::r) (h1:blk c=false) (h2:c≠35) (hm:meas w=.ok k w.length):LQ Aq ([32]++(w++[32])) [(k,w)]:=LQ.bb ⟨c,r,e,h1,h2⟩ hm
theorem fo32 (r:Bs):Fo (32::r):=fo_cons (by decide) r
theorem op_lex:∀ k,k<24->10<=k->∃ c r,(sgA k)=(2,c::r)/\sg5 k=c::r/\blk c=false/\c≠35/\meas (c::r)=.ok 2 (c::r).length:=by
 intro k h1 h2
 have h:∀ i,i<14->∃ c r,(sgA (i+10))=(2,c::r)/\sg5 (i+10)=c::r/\blk c=false/\c≠35/\meas (c::r)=.ok 2 (c::r).length:=by
  intro i hi
  match i,hi with
  | 0,_=>exact⟨_,_,rfl,rfl,by decide,by decide,rfl⟩
  | 1,_=>exact⟨_,_,rfl,rfl,by decide,by decide,rfl⟩
  | 2,_=>exact⟨_,_,rfl,rfl,by decide,by decide,rfl⟩
  | 3,_=>exact⟨_,_,rfl,rfl,by decide,by decide,rfl⟩
  | 4,_=>exact⟨_,_,rfl,rfl,by decide,by decide,rfl⟩
  | 5,_=>exact⟨_,_,rfl,rfl,by decide,by decide,rfl⟩
  | 6,_=>exact⟨_,_,rfl,rfl,by decide,by decide,rfl⟩
  | 7,_=>exact⟨_,_,rfl,rfl,by decide,by decide,rfl⟩
  | 8,_=>exact⟨_,_,rfl,rfl,by decide,by decide,rfl⟩
  | 9,_=>exact⟨_,_,rfl,rfl,by decide,by decide,rfl⟩
  | 10,_=>exact⟨_,_,rfl,rfl,by decide,by decide,rfl⟩
  | 11,_=>exact⟨_,_,rfl,rfl,by decide,by decide,rfl⟩
  | 12,_=>exact⟨_,_,rfl,rfl,by decide,by decide,rfl⟩
  | 13,_=>exact⟨_,_,rfl,rfl,by decide,by decide,rfl⟩
 have:=h (k - 10) (by omega)
 rwa [show k - 10+10=k by omega] at this
theorem hd_app {t s:Bs} (h:∃ c r,t=c::r/\c≠62):∃ c r,t++s=c::r/\c≠62:=by
 obtain⟨c,r,rfl,h⟩:=h;exact⟨c,r++s,rfl,h⟩
theorem tx_lex:∀ (d:Nat) (u:U),Wf d u->TX (tx (stU u)) (tb u)
 | 0,_,h=>by rw[Wf] at h;exact h.elim
 | d+1,.node k nm ot z ln cl ks,h=>by
  rw[Wf] at h;obtain⟨hk,w1,w2,w3,w4,w5,w6,w7,w8⟩:=h;have hT:∀ v ∈ ks,TX (tx (stU v)) (tb v):=fun v hv=>tx_lex d v (w8 v hv)
  have ht:=ar_tab k hk;rw[stU,tx,tb];unfold shp shA
  by_cases h0:k=0
  ·rw[if_pos h0,if_pos h0];unfold zText;rw[if_neg (by omega),Int.natAbs_natCast];exact TX.num w1.2
  rw[if_neg h0,if_neg h0]
  by_cases h3:k=3
  ·rw[if_pos h3,if_pos h3];rcases w2 h3 with rfl | hn
   ·rw[if_pos rfl];exact TX.word (by decide) ⟨118,[],rfl,by decide⟩ (by decide) (by decide)
   rw[if_neg (nm_ne hn (.inl (by decide)))];exact TX.name hn
  rw[if_neg h3,if_neg h3]
  by_cases h5:k<5
  ·rw[if_pos h5,if_pos h5];have:k=1\/k=2\/k=4:=by omega
   rcases this with rfl | rfl | rfl
   ·exact TX.word (by decide) ⟨116,_,rfl,by decide⟩ (by decide) (by decide)
   ·exact TX.word (by decide) ⟨102,_,rfl,by decide⟩ (by decide) (by decide)
   exact⟨lx_nil.any,⟨91,[93],rfl,by decide⟩,by decide⟩
  rw[if_neg h5,if_neg h5]
  by_cases h10:k<10
  ·rw[if_pos h10,if_pos h10];obtain⟨a,rfl⟩:=len1 (ks:=ks) (by rcases w7 with h | h;omega;rw[h];exact ht.2.1 (by omega) h10);rw[exs_get k [a] 0 0 (by simp),tes_at k [a] 0 0 (by simp)];have hA:=(hT a (by simp)).br (rq k (0+0)) (lv a.k)
   show TX (sg5 k++br (rq k (0+0)) (lv a.k) (tx (stU a))) (sgA k::brA (rq k (0+0)) (lv a.k) (tb a))
   generalize br (rq k (0+0)) (lv a.k) (tx (stU a))=T at hA ⊢;generalize brA (rq k (0+0)) (lv a.k) (tb a)=A at hA ⊢;have h2:k=5\/k=6\/k=7\/k=8\/k=9:=by omega
   obtain⟨l1,l2,l3⟩:=hA;rcases h2 with rfl | rfl | rfl | rfl | rfl
   ·refine⟨lx_minus.app l1 (fun r _=>hd_app l2),⟨45,_,rfl,by decide⟩,?_⟩;rw[wA_cons];show (45::T).length<=1+2+_;rw[lsc];omega
   ·refine⟨(cb (w:=[110,111,116]) rfl (by decide) (by decide) rfl).app l1 (fun r _=>trivial),⟨110,_,rfl,by decide⟩,?_⟩;rw[wA_cons];show ([110,111,116,32]++T).length<=3+2+_;rw[lsa];show 4+T.length<=_;omega
   ·refine⟨(cb (w:=[108,101,110]) rfl (by decide) (by decide) rfl).app l1 (fun r _=>trivial),⟨108,_,rfl,by decide⟩,?_⟩;rw[wA_cons];show ([108,101,110,32]++T).length<=3+2+_;rw[lsa];show 4+T.length<=_;omega
   ·refine⟨(cb (w:=[104,100]) rfl (by decide) (by decide) rfl).app l1 (fun r _=>trivial),⟨104,_,rfl,by decide⟩,?_⟩;rw[wA_cons];show ([104,100,32]++T).length<=2+2+_;rw[lsa];show 3+T.length<=_;omega
   refine⟨(cb (w:=[116,108]) rfl (by decide) (by decide) rfl).app l1 (fun r _=>trivial),⟨116,_,rfl,by decide⟩,?_⟩;rw[wA_cons];show ([116,108,32]++T).length<=2+2+_;rw[lsa];show 3+T.length<=_;omega
  rw[if_neg h10,if_neg h10]
  by_cases h24:k<24
  ·rw[if_pos h24,if_pos h24];obtain⟨a,b,rfl⟩:=len2 (ks:=ks) (by rcases w7 with h | h;omega;rw[h];exact ht.2.2.1 (by omega) h24);rw[exs_get k [a,b] 0 0 (by simp),exs_get k [a,b] 0 1 (by simp),tes_at k [a,b] 0 0 (by simp),tes_at k [a,b] 0 1 (by simp)];have hA:=(hT a (by simp)).br (rq k (0+0)) (lv a.k);have hB:=(hT b (by simp)).br (rq k (0+1)) (lv b.k)
   show TX (br (rq k (0+0)) (lv a.k) (tx (stU a))++[32]++sg5 k++[32]++br (rq k (0+1)) (lv b.k) (tx (stU b))) (brA (rq k (0+0)) (lv a.k) (tb a)++sgA k::brA (rq k (0+1)) (lv b.k) (tb b))
   generalize br (rq k (0+0)) (lv a.k) (tx (stU a))=T at hA ⊢;generalize brA (rq k (0+0)) (lv a.k) (tb a)=A at hA ⊢;generalize br (rq k (0+1)) (lv b.k) (tx (stU b))=T2 at hB ⊢;generalize brA (rq k (0+1)) (lv b.k) (tb b)=B at hB ⊢;obtain⟨c,r,o1,o2,o3,o4,o5⟩:=op_lex k h24 (by omega);rw[o1,o2];obtain⟨l1,l2,l3⟩:=hA;obtain⟨m1,m2,m3⟩:=hB;have hl:=(l1.app (bcb rfl o3 o4 o5) (fun r _=>fo32 _)).app m1 (fun _ _=>trivial);refine⟨by simpa using hl,by simpa using hd_app (s:=32::c::(r++32::T2)) l2,?_⟩;rw[wA_app,wA_cons];simp only[lsa,lsc,lsn] at *
   omega
  rw[if_neg h24,if_neg h24];rw[exs24 (by omega) ks 0,tes24 (by omega) ks 0]
  by_cases hc:k=24
  ·rw[if_pos hc,if_pos hc];have hN:=TX.name (w3 (.inl hc));obtain⟨c1,c2⟩:=com_tx (fun u=>tx (stU u)) tb ks hT;have hl:=((hN.l.app (lx_sgl (c:=40) (by decide)) (fun r _=>fo_cons (by decide) _)).app c1 (fun _ _=>trivial)).app (lx_sgl (c:=41) (by decide)) (fun r _=>fo_cons (by decide) _);refine⟨by have:=hl.any (Q:=Fo);simpa using this,by simpa using hd_app (s:=40::(com (ks.map fun u=>tx (stU u))++[41])) hN.h,?_⟩;rw[wA_cons,wA_cons,wA_app,wA_cons,wA_nil];simp only[lsa,lsc,lsn] at *
   omega
  rw[if_neg hc,if_neg hc];unfold words
  by_cases k25:k=25
  ·obtain⟨a,b,c,rfl⟩:=len3 (ks:=ks) (by rcases w7 with h | h;omega;rw[h];exact ht.2.2.2.1 (.inl k25));rw[if_pos k25,if_pos k25];obtain⟨a1,a2,a3⟩:=hT a (by simp);obtain⟨b1,b2,b3⟩:=hT b (by simp);obtain⟨c1,c2,c3⟩:=hT c (by simp);have hl:=((((cb (k:=3) (w:=wIf) rfl (by decide) (by decide) rfl).app a1 (fun _ _=>trivial)).app (bcb (k:=3) (w:=wThen) rfl (by decide) (by decide) rfl) (fun r _=>fo32 _)).app b1 (fun _ _=>trivial)).app (bcb (k:=3) (w:=wElse) rfl (by decide) (by decide) rfl) (fun r _=>fo32 _) |>.app c1 (fun _ _=>trivial)
   refine⟨by simpa [phr] using hl,⟨105,_,rfl,by decide⟩,?_⟩
   show _<=wA ((3,wIf)::(tb a++(3,wThen)::(tb b++(3,wElse)::tb c)))
   simp only[phr,List.map_cons,List.map_nil,wA_cons,wA_app,lsa,lsc,lsn] at *
   omega
  rw[if_neg k25,if_neg k25]
  by_cases k26:k=26
  ·obtain⟨a,b,rfl⟩:=len2 (ks:=ks) (by rcases w7 with h | h;omega;rw[h];exact ht.2.2.2.2 (.inl k26));rw[if_pos k26,if_pos k26];obtain⟨a1,a2,a3⟩:=hT a (by simp);obtain⟨b1,b2,b3⟩:=hT b (by simp);have hN:=TX.name (w3 (.inr (.inl k26)));have hl:=((((cb (k:=3) (w:=wLet) rfl (by decide) (by decide) rfl).app hN.l (fun _ _=>trivial)).app (bcb (k:=2) (w:=wEq) rfl (by decide) (by decide) rfl) (fun r _=>fo32 _)).app a1 (fun _ _=>trivial)).app (bcb (k:=3) (w:=wIn) rfl (by decide) (by decide) rfl) (fun r _=>fo32 _) |>.app b1 (fun _ _=>trivial)
   refine⟨by simpa [phr] using hl,⟨108,_,rfl,by decide⟩,?_⟩
   show _<=wA ((3,wLet)::(0,nm)::(2,wEq)::(tb a++(3,wIn)::tb b))
   simp only[phr,List.map_cons,List.map_nil,wA_cons,wA_app,lsa,lsc,lsn] at *
   omega
  rw[if_neg k26,if_neg k26]
  by_cases k27:k=27
  ·obtain⟨a,b,c,rfl⟩:=len3 (ks:=ks) (by rcases w7 with h | h;omega;rw[h];exact ht.2.2.2.1 (.inr k27));rw[if_pos k27,if_pos k27];obtain⟨a1,a2,a3⟩:=hT a (by simp);obtain⟨b1,b2,b3⟩:=hT b (by simp);obtain⟨c1,c2,c3⟩:=hT c (by simp);have hN:=TX.name (w3 (.inr (.inr k27)));have hO:=TX.name (w4 k27);have hl1:=((((cb (k:=3) (w:=wMatch) rfl (by decide) (by decide) rfl).app a1 (fun _ _=>trivial)).app (bcb (k:=3) (w:=wWith) rfl (by decide) (by decide) rfl) (fun r _=>fo32 _)).app (cb (k:=2) (w:=wNil) rfl (by decide) (by decide) rfl) (fun _ _=>trivial)).app (cb (k:=2) (w:=wArrow) rfl (by decide) (by decide) rfl) (fun r _=>trivial) |>.app b1 (fun _ _=>trivial)
   have hl2:=(((hl1.app (bcb (k:=2) (w:=wBar) rfl (by decide) (by decide) rfl) (fun r _=>fo32 _)).app hN.l (fun _ _=>trivial)).app (bcb (k:=2) (w:=wCons) rfl (by decide) (by decide) rfl) (fun r _=>fo32 _)).app hO.l (fun r _=>trivial) |>.app (bcb (k:=2) (w:=wArrow) rfl (by decide) (by decide) rfl) (fun _ _=>fo32 _) |>.app c1 (fun _ _=>trivial)
   clear hl1;refine⟨by simpa [phr] using hl2,⟨109,_,rfl,by decide⟩,?_⟩
   show _<=wA ((3,wMatch)::(tb a++(3,wWith)::(2,wNil)::(2,wArrow)::(tb b++(2,wBar)::(0,nm)::(2,wCons)::(0,ot)::(2,wArrow)::tb c)))
   simp only[phr,List.map_cons,List.map_nil,wA_cons,wA_app,lsa,lsc,lsn] at *
   omega
  rw[if_neg k27,if_neg k27];obtain⟨a,b,rfl⟩:=len2 (ks:=ks) (by rcases w7 with h | h;omega;rw[h];exact ht.2.2.2.2 (.inr (by omega)));obtain⟨a1,a2,a3⟩:=hT a (by simp);obtain⟨b1,b2,b3⟩:=hT b (by simp);have hl:=(((cb (k:=3) (w:=wAssert) rfl (by decide) (by decide) rfl).app a1 (fun _ _=>trivial)).app (cb (k:=2) (w:=wSemi) rfl (by decide) (by decide) rfl) (fun r _=>fo_cons (by decide) _)).app b1 (fun _ _=>trivial);refine⟨by simpa [phr] using hl,⟨97,_,rfl,by decide⟩,?_⟩
  show _<=wA ((3,wAssert)::(tb a++(2,wSemi)::tb b))
  simp only[phr,List.map_cons,List.map_nil,wA_cons,wA_app,lsa,lsc,lsn] at *
  omega
theorem c_mono (n:Nat):(∀ s x,cExpr n s=some x->cExpr (n+1) s=some x)/\(∀ s x,cLet n s=some x->cLet (n+1) s=some x)/\(∀ s x,cIf n s=some x->cIf (n+1) s=some x)/\(∀ s x,cMatch n s=some x->cMatch (n+1) s=some x)/\(∀ s x,cAssert n s=some x->cAssert (n+1) s=some x) /\
  (∀ l s x,cBin n l s=some x->cBin (n+1) l s=some x)/\(∀ l e v s x,cLoop n l e v s=some x->cLoop (n+1) l e v s=some x)/\(∀ s x,cOne n s=some x->cOne (n+1) s=some x)/\(∀ s x,cAtom n s=some x->cAtom (n+1) s=some x)/\(∀ s x,cArgs n s=some x->cArgs (n+1) s=some x)/\(∀ l s x,cMore n l s=some x->cMore (n+1) l s=some x):=by
 induction n with
 | zero=>refine⟨?_,?_,?_,?_,?_,?_,?_,?_,?_,?_,?_⟩<;>intros<;>simp_all [cExpr,cLet,cIf,cMatch,cAssert,cBin,cLoop,cOne,cAtom,cArgs,cMore]
 | succ n ih =>
  obtain⟨i1,i2,i3,i4,i5,i6,i7,i8,i9,i10,i11⟩:=ih;refine⟨?_,?_,?_,?_,?_,?_,?_,?_,?_,?_,?_⟩
  ·intro s x h;rw[cExpr] at h ⊢
   split at h
   ·rename_i c;rw[if_pos c];exact i2 _ _ h
   rename_i c0;rw[if_neg c0]
   split at h
   ·rename_i c;rw[if_pos c];exact i3 _ _ h
   rename_i c1;rw[if_neg c1]
   split at h
   ·rename_i c;rw[if_pos c];exact i4 _ _ h
   rename_i c2;rw[if_neg c2]
   split at h
   ·rename_i c;rw[if_pos c];exact i5 _ _ h
   rename_i c3;rw[if_neg c3];exact i6 _ _ _ h
  ·intro s x h;rw[cLet] at h ⊢;simp only[Option.bind_eq_some_iff] at h ⊢;obtain⟨r1,h1,r2,h2,h3⟩:=h;exact⟨r1,i1 _ _ h1,r2,i1 _ _ h2,h3⟩
  ·intro s x h;rw[cIf] at h ⊢;simp only[Option.bind_eq_some_iff] at h ⊢;obtain⟨r1,h1,r2,h2,r3,h3,h4⟩:=h;exact⟨r1,i1 _ _ h1,r2,i1 _ _ h2,r3,i1 _ _ h3,h4⟩
  ·intro s x h;rw[cMatch] at h ⊢;simp only[Option.bind_eq_some_iff] at h ⊢;obtain⟨r1,h1,r2,h2,r3,h3,h4⟩:=h;exact⟨r1,i1 _ _ h1,r2,i1 _ _ h2,r3,i1 _ _ h3,h4⟩
  ·intro s x h;rw[cAssert] at h ⊢;simp only[Option.bind_eq_some_iff] at h ⊢;obtain⟨r1,h1,r2,h2,h3⟩:=h;exact⟨r1,i1 _ _ h1,r2,i1 _ _ h2,h3⟩
  ·intro l s x h;rw[cBin] at h ⊢;simp only[Option.bind_eq_some_iff] at h ⊢;obtain⟨r1,h1,h2⟩:=h;exact⟨r1,i8 _ _ h1,i7 _ _ _ _ _ h2⟩
  ·intro l e v s x h;rw[cLoop] at h ⊢
   split at h
   ·rename_i c;exact h
   rename_i op c
   split at h
   ·rename_i d;rw[if_pos d];exact h
   rename_i d;rw[if_neg d]
   simp only[Option.bind_eq_some_iff] at h ⊢;obtain⟨r1,h1,h2⟩:=h;exact⟨r1,i6 _ _ _ h1,i7 _ _ _ _ _ h2⟩
  ·intro s x h;rw[cOne] at h ⊢
   split at h
   ·rename_i c;exact i9 _ _ h
   rename_i k c
   simp only[Option.bind_eq_some_iff] at h ⊢;obtain⟨r1,h1,h2⟩:=h;exact⟨r1,i8 _ _ h1,h2⟩
  ·intro s x h;rw[cAtom] at h ⊢
   split at h
   ·rename_i c;rw[if_pos c];exact h
   rename_i c0;rw[if_neg c0]
   split at h
   ·rename_i c;rw[if_pos c]
    split at h
    ·rename_i d;rw[if_pos d]
     simp only[Option.bind_eq_some_iff] at h ⊢;obtain⟨r1,h1,h2⟩:=h;exact⟨r1,i10 _ _ h1,h2⟩
    rename_i d;rw[if_neg d];exact h
   rename_i c1;rw[if_neg c1]
   split at h
   ·rename_i c;rw[if_pos c];exact h
   rename_i c2;rw[if_neg c2]
   split at h
   ·rename_i c;rw[if_pos c];exact h
   rename_i c3;rw[if_neg c3]
   split at h
   ·rename_i c;rw[if_pos c];exact h
   rename_i c4;rw[if_neg c4]
   split at h
   ·rename_i c;rw[if_pos c];exact h
   rename_i c5;rw[if_neg c5]
   split at h
   ·rename_i c;rw[if_pos c]
    simp only[Option.bind_eq_some_iff] at h ⊢;obtain⟨r1,h1,h2⟩:=h;exact⟨r1,i1 _ _ h1,h2⟩
   rename_i c;rw[if_neg c];exact h
  ·intro s x h;rw[cArgs] at h ⊢
   split at h
   ·rename_i c;rw[if_pos c];exact h
   rename_i c;rw[if_neg c]
   simp only[Option.bind_eq_some_iff] at h ⊢;obtain⟨r1,h1,h2⟩:=h;exact⟨r1,i1 _ _ h1,i11 _ _ _ h2⟩
  intro l s x h;rw[cMore] at h ⊢
  split at h
  ·rename_i c;rw[if_pos c]
   simp only[Option.bind_eq_some_iff] at h ⊢;obtain⟨r1,h1,h2⟩:=h;exact⟨r1,i1 _ _ h1,i11 _ _ _ h2⟩
  rename_i c;rw[if_neg c];exact h
theorem ex_mono {n m:Nat} {s:St} {x:U × St} (hm:n<=m) (h:cExpr n s=some x):cExpr m s=some x:=by
 induction m with
 | zero=>rw[show n=0 by omega] at h;exact h
 | succ m ih =>
  rcases Nat.lt_or_ge m n with h1 | h1
  ·rw[show m+1=n by omega];exact h
  exact (c_mono m).1 _ _ (ih h1)
theorem al_mono {n m:Nat} {s:St} {x:U × St} (hm:n<=m) (h:cAll n s=some x):cAll m s=some x:=by
 unfold cAll at h ⊢;rw[Option.bind_eq_some_iff] at h ⊢;obtain⟨r,h1,h2⟩:=h;exact⟨r,ex_mono hm h1,h2⟩
theorem rf_mono {n m:Nat} {p:PmU} {s:St} {x:PmU × St} (hm:n<=m) (h:cRef n p s=some x):cRef m p s=some x:=by
 unfold cRef at h ⊢
 split at h
 ·rename_i c;rw[if_pos c]
  rw[Option.bind_eq_some_iff] at h ⊢;obtain⟨r,h1,h2⟩:=h;exact⟨r,al_mono hm h1,h2⟩
 rename_i c;rw[if_neg c];exact h
theorem fp_mono {n m:Nat} {l:List PmU} {s:St} {x:List PmU × St} (hm:n<=m) (h:cFPar n l s=some x):cFPar m l s=some x:=by
 unfold cFPar at h ⊢;rw[Option.bind_eq_some_iff] at h ⊢;obtain⟨r,h1,h2⟩:=h;exact⟨r,rf_mono hm h1,h2⟩
theorem qm_mono:∀ {n m:Nat} {l:List PmU} {s:St} {x:List PmU × St},n<=m->cQMore n l s=some x->cQMore m l s=some x
 | 0,_,_,_,_,_,h=>by rw[cQMore] at h;cases h
 | n+1,0,_,_,_,hm,_=>by omega
 | n+1,m+1,l,s,x,hm,h=>by
  rw[cQMore] at h ⊢
  split at h
  ·rename_i c;rw[if_pos c];exact qm_mono (by omega) h
  rename_i c;rw[if_neg c];exact h
theorem fm_mono:∀ {a b n m:Nat} {l:List PmU} {s:St} {x:List PmU × St},a<=b->n<=m->cFMore a n l s=some x->cFMore b m l s=some x
 | 0,_,_,_,_,_,_,_,_,h=>by rw[cFMore] at h;cases h
 | a+1,0,_,_,_,_,_,hm,_,_=>by omega
 | a+1,b+1,n,m,l,s,x,hm,hn,h=>by
  rw[cFMore] at h ⊢
  split at h
  ·rename_i c;rw[if_pos c]
   rw[Option.bind_eq_some_iff] at h ⊢;obtain⟨r,h1,h2⟩:=h;exact⟨r,fp_mono hn h1,fm_mono (by omega) hn h2⟩
  rename_i c;rw[if_neg c];exact h
theorem fps_mono {a b n m:Nat} {s:St} {x:List PmU × St} (ha:a<=b) (hm:n<=m) (h:cFPars a n s=some x):cFPars b m s=some x:=by
 unfold cFPars at h ⊢
 split at h
 ·rename_i c;rw[if_pos c];exact h
 rename_i c;rw[if_neg c]
 rw[Option.bind_eq_some_iff] at h ⊢;obtain⟨r,h1,h2⟩:=h;exact⟨r,fp_mono hm h1,fm_mono ha hm h2⟩
theorem ql_mono {a b n m c:Nat} {s:St} {x:QlU × St} (ha:a<=b) (hm:n<=m) (h:cQual a n c s=some x):cQual b m c s=some x:=by
 unfold cQual at h ⊢;simp only[Option.bind_eq_some_iff] at h ⊢;obtain⟨r,h1,q,h2,h3⟩:=h;exact⟨r,qm_mono ha h1,q,al_mono hm h2,h3⟩
theorem fn_mono {a b n m c:Nat} {s:St} {x:FnU × St} (ha:a<=b) (hm:n<=m) (h:cFun a n c s=some x):cFun b m c s=some x:=by
 unfold cFun at h ⊢;simp only[Option.bind_eq_some_iff] at h ⊢;obtain⟨r,h1,t,h2,q,h3,h4⟩:=h;exact⟨r,fps_mono ha hm h1,t,rf_mono hm h2,q,al_mono hm h3,h4⟩
theorem pg_mono:∀ {a b n m:Nat} {p:PgU} {s:St} {x:PgU × St},a<=b->n<=m->cProg a n p s=some x->cProg b m p s=some x
 | 0,_,_,_,_,_,_,_,_,h=>by rw[cProg] at h;cases h
 | a+1,0,_,_,_,_,_,hm,_,_=>by omega
 | a+1,b+1,n,m,p,s,x,hm,hn,h=>by
  rw[cProg] at h ⊢
  split at h
  ·rename_i c;rw[if_pos c]
   rw[Option.bind_eq_some_iff] at h ⊢;obtain⟨r,h1,h2⟩:=h;exact⟨r,ql_mono (by omega) hn h1,pg_mono (by omega) hn h2⟩
  rename_i c0;rw[if_neg c0]
  split at h
  ·rename_i c;rw[if_pos c]
   rw[Option.bind_eq_some_iff] at h ⊢;obtain⟨r,h1,h2⟩:=h;exact⟨r,fn_mono (by omega) hn h1,pg_mono (by omega) hn h2⟩
  rename_i c;rw[if_neg c];exact h
theorem lex_names (s:Bs) (p:Nat × Nat) (h0:(lexS s p).2=0):∀ t ∈ (lexS s p).1,t.kind=0->NmP t.text:=by
 refine lex_ind (C:=fun _ _ ts=>∀ t ∈ ts,t.kind=0->NmP t.text) ?_ ?_ s p h0
 ·intro s p h t ht hk;rw[List.mem_singleton.1 ht] at hk;cases hk
 intro s p k n ts h hm ih he t ht hk;rcases List.mem_cons.1 ht with rfl | ht
 ·have hk0:k=0:=hk;subst hk0
  show NmP ((s.drop (gapL false s)).take n)
  generalize s.drop (gapL false s)=l at h hm
  match l,h with
  | a::r,_ =>
   rw[meas_cons] at hm
   by_cases ha:isL a=true
   ·rw[if_pos ha] at hm
    split at hm
    ·cases hm
    rename_i h40
    split at hm
    ·cases hm
    rename_i hw
    injection hm with _ hm;subst hm;have e:spn isLD (a::r)=spn isLD r+1:=by rw[spn,if_pos (isL_LD ha)]
    refine⟨by simpa using hw,⟨a,r.take (spn isLD r),by rw[e];rfl,ha⟩,spn_all (p:=isLD) (a::r),?_⟩;rw[List.length_take];omega
   rw[if_neg ha] at hm
   split at hm
   ·split at hm
    ·cases hm
    split at hm<;>cases hm
   split at hm<;>cases hm
 exact ih t ht hk
theorem lex_len (s:Bs) (p:Nat × Nat) (h0:(lexS s p).2=0):wS (lexS s p).1<=3*s.length+2:=by
 refine lex_ind (C:=fun s _ ts=>wS ts<=3*s.length+2) ?_ ?_ s p h0
 ·intro s p h
  show 0+2+0<=_;omega
 intro s p k n ts h hm ih he;obtain⟨-,h1,h2,-⟩:=meas_ok h hm;have e:wS (⟨k,(s.drop (gapL false s)).take n,(adv p (s.take (gapL false s))).1,(adv p (s.take (gapL false s))).2⟩::ts)=((s.drop (gapL false s)).take n).length+2+wS ts:=by unfold wS;rw[List.map_cons,List.sum_cons]
 rw[e];simp only[List.length_drop,List.length_take] at *
 omega
theorem lex_gw (s:Bs) (h0:(lexS s (1,1)).2=0):GW (st0 s):=⟨lex_good s (1,1) h0,lex_names s (1,1) h0⟩
def bsP (b:Nat):Bs:=if b=0 then [105,110,116] else if b=1 then [98,111,111,108] else [108,105,115,116]
def baT (p:PmU):Bs:=bsP p.b++(if p.kn=true then [123]++tx (stU p.ref)++[125] else [])
def pmT (p:PmU):Bs:=p.nm++[58,32]++baT p
def hdT (nm:Bs) (ps:List PmU):Bs:=nm++[40]++com (ps.map pmT)++[41,58,32]
def qlT (q:QlU):Bs:=[113,117,97,108,105,102,32]++hdT q.nm q.ps++tx (stU q.body)++[10]
def fnT (f:FnU):Bs:=[102,117,110,32]++hdT f.nm f.ps++baT f.res++[32,61,32]++tx (stU f.body)++[10]
def pgT (p:PgU):Bs:=p.qs.flatMap qlT++p.fs.flatMap fnT
theorem wd_tx {u:U} (h:WD u):TX (tx (stU u)) (tb u):=by
 obtain⟨⟨d,hw⟩,-⟩:=h;exact tx_lex d u hw
theorem bs_tx {b:Nat} (h:b<=2):TX (bsP b) [bA b]:=by
 have hb3:b=0\/b=1\/b=2:=by omega
 rcases hb3 with rfl | rfl | rfl
 ·exact TX.word (by decide) ⟨105,_,rfl,by decide⟩ (by decide) (by decide)
 ·exact TX.word (by decide) ⟨98,_,rfl,by decide⟩ (by decide) (by decide)
 exact TX.word (by decide) ⟨108,_,rfl,by decide⟩ (by decide) (by decide)
theorem ba_tx {p:PmU} (h:RfW p):TX (baT p) (baA p):=by
 obtain⟨h1,h2,h3⟩:=h;have hb:=bs_tx h1;unfold baT baA rfA
 by_cases hk:p.kn=true
 ·rw[if_pos hk,if_pos hk];have ht:=wd_tx (h2 hk);have hl:=((hb.l.app (lx_sgl (c:=123) (by decide)) (fun r _=>fo_cons (by decide) _)).app ht.l (fun _ _=>trivial)).app (lx_sgl (c:=125) (by decide)) (fun r _=>fo_cons (by decide) _);refine⟨by have:=hl.any (Q:=Fo);simpa using this,hd_app hb.h,?_⟩;have n1:=hb.n;have n2:=ht.n;rw[wA_cons,wA_nil] at n1;rw[wA_cons,wA_cons,wA_app,wA_cons,wA_nil];simp only[lsa,lsc,lsn] at *
  omega
 rw[if_neg hk,if_neg hk,List.append_nil];exact hb
theorem pm_tx {p:PmU} (hn:p.nm=wV\/NmP p.nm) (h:RfW p):TX (pmT p) (pmA p):=by
 have hN:TX p.nm [(((if p.nm=wV then 3 else 0),p.nm):Ab)]:=by
  rcases hn with e | hn
  ·rw[if_pos e,e];exact TX.word (by decide) ⟨118,_,rfl,by decide⟩ (by decide) (by decide)
  rw[if_neg (name_kind hn)];exact TX.name hn
 have hB:=ba_tx h;have hl:=(hN.l.app (cb (k:=2) (w:=wColon) rfl (by decide) (by decide) rfl) (fun r _=>fo_cons (by decide) _)).app hB.l (fun _ _=>trivial);unfold pmT pmA;refine⟨by simpa using hl,by simpa using hd_app (s:=58::32::baT p) hN.h,?_⟩;have n1:=hB.n;rw[wA_cons,wA_cons];simp only[lsa,lsc,lsn] at *
 omega
theorem hd_tx {nm:Bs} {ps:List PmU} (hn:NmP nm) (h:∀ p ∈ ps,(p.nm=wV\/NmP p.nm)/\RfW p):LQ Aq (hdT nm ps) (hdA nm ps)/\(hdT nm ps).length+4<=wA (hdA nm ps):=by
 have hN:=TX.name hn;obtain⟨c1,c2⟩:=com_tx pmT pmA ps (fun p hp=>pm_tx (h p hp).1 (h p hp).2);have hl:=(((hN.l.app (lx_sgl (c:=40) (by decide)) (fun r _=>fo_cons (by decide) _)).app c1 (fun _ _=>trivial)).app (lx_sgl (c:=41) (by decide)) (fun r _=>fo_cons (by decide) _)).app (cb (k:=2) (w:=wColon) rfl (by decide) (by decide) rfl) (fun _ _=>trivial);unfold hdT hdA;refine⟨by simpa using hl,?_⟩;rw[wA_cons,wA_cons,wA_app,wA_cons,wA_cons,wA_nil];simp only[lsa,lsc,lsn] at *
 omega
theorem QpW.rf {p:PmU} (h:QpW p):RfW p:=⟨h.1,⟨fun hk=>(by rw[h.2.1] at hk;cases hk),fun _=>h.2.2⟩⟩
theorem ql_tx {q:QlU} (h:QlW q):LQ Aq (qlT q) (qlA q)/\(qlT q).length<=wA (qlA q):=by
 obtain⟨hn,⟨p,ps,hps,⟨hv,hp⟩,hA⟩,hl,hw⟩:=h
 obtain⟨h1,h2⟩:=hd_tx (ps:=q.ps) hn (fun r hr=>by
  rw[hps] at hr;rcases List.mem_cons.1 hr with rfl | hr
  ·exact⟨.inl hv,hp.rf⟩
  ·exact⟨.inr (hA r hr).1,(hA r hr).2.rf⟩)
 have ht:=wd_tx hw;have hl:=(((cb (k:=3) (w:=wQualif) rfl (by decide) (by decide) rfl).app h1 (fun _ _=>trivial)).app ht.l (fun _ _=>trivial)).app (LQ.gap (Q:=Aq) gap10) (fun r _=>fo_cons (by decide) _);unfold qlT qlA;refine⟨by simpa using hl,?_⟩;have n1:=ht.n;rw[wA_cons,wA_app];simp only[lsa,lsc,lsn] at *
 omega
theorem fn_tx {f:FnU} (h:FnW f):LQ Aq (fnT f) (fnA f)/\(fnT f).length<=wA (fnA f):=by
 obtain⟨hn,hA,hl,hv,hr,hw⟩:=h;obtain⟨h1,h2⟩:=hd_tx (ps:=f.ps) hn (fun r hr=>⟨.inr (hA r hr).1,(hA r hr).2⟩);have ht:=wd_tx hw;have hB:=ba_tx hr;have hl:=(((((cb (k:=3) (w:=wFun) rfl (by decide) (by decide) rfl).app h1 (fun _ _=>trivial)).app hB.l (fun _ _=>trivial)).app (bcb (k:=2) (w:=wEq) rfl (by decide) (by decide) rfl) (fun r _=>fo32 _)).app ht.l (fun _ _=>trivial)).app (LQ.gap (Q:=Aq) gap10) (fun r _=>fo_cons (by decide) _);unfold fnT fnA;refine⟨by simpa using hl,?_⟩;have n1:=ht.n;have n2:=hB.n;rw[wA_cons,wA_app,wA_app,wA_cons];simp only[lsa,lsc,lsn] at *
 omega
theorem flat_tx {α:Type} (f:α->Bs) (g:α->List Ab):∀ (l:List α),(∀ x ∈ l,LQ Aq (f x) (g x)/\(f x).length<=wA (g x))->LQ Aq (l.flatMap f) (l.flatMap g)/\(l.flatMap f).length<=wA (l.flatMap g)
 | [],_=>⟨LQ.nil,Nat.le_refl _⟩
 | x::l,h=>by
  obtain⟨i1,i2⟩:=flat_tx f g l (fun y hy=>h y (List.mem_cons_of_mem _ hy));obtain⟨h1,h2⟩:=h x (by simp);rw[List.flatMap_cons,List.flatMap_cons];refine⟨h1.app i1 (fun _ _=>trivial),?_⟩;rw[wA_app,lsa];omega
theorem pg_tx {p:PgU} (h:PgW p):LQ Aq (pgT p) (pgA p)/\(pgT p).length<=wA (pgA p):=by
 obtain⟨⟨h1,-⟩,h3,-⟩:=h;obtain⟨a1,a2⟩:=flat_tx qlT qlA p.qs (fun q hq=>ql_tx (h1 q hq));obtain⟨b1,b2⟩:=flat_tx fnT fnA p.fs (fun q hq=>fn_tx (h3 q hq));unfold pgT pgA;refine⟨a1.app b1 (fun _ _=>trivial),?_⟩;rw[wA_app,lsa];omega
theorem lexF_none {l:Bs}:lexF l=none ↔ (lexS l (1,1)).2=0:=by
 unfold lexF
 by_cases h:(lexS l (1,1)).2=0
 ·rw[if_pos h];exact⟨fun _=>h,fun _=>rfl⟩
 rw[if_neg h];refine⟨fun hn=>?_,fun hn=>absurd hn h⟩;rw[Option.map_eq_none_iff,List.getLast?_eq_none_iff] at hn;exact absurd hn (lex_ne _ _)
theorem fin_none {s:St} (h:s.fin.err=none):s.nx.kind=4/\s.err=none:=by
 unfold St.fin at h
 by_cases hk:s.nx.kind=4
 ·rw[if_pos hk] at h;exact⟨hk,h⟩
 rw[if_neg hk] at h;exact absurd h (fail_err _ _ _)
theorem prints_told {l:Bs} (hl:l.length<=3000) {m n:Nat} {p:PgU} {s:St} (h:lexF l=none) (hc:cProg m n ⟨[],[]⟩ (st0 l)=some (p,s)) (hf:s.fin.err=none) :
  PgW p/\(pgT p).length<=20000/\lexF (pgT p)=none/\∀ m' n' r,cProg m' n' ⟨[],[]⟩ (st0 (pgT p))=some r->r.2.fin.err=none/\r.1.qs.map stQl=p.qs.map stQl/\r.1.fs.map stFn=p.fs.map stFn:=by
 have h0:=lexF_none.1 h;have hg:=lex_gw l h0;have hw:=prog_w hg hc;obtain⟨hk,he⟩:=fin_none hf;obtain⟨-,w1,l1⟩:=hw.2 he;have hW:PgW p:=w1 ⟨⟨fun q hq=>(by cases hq),Nat.zero_le _⟩,fun q hq=>(by cases hq),Nat.zero_le _⟩;obtain⟨t1,t2⟩:=pg_tx hW;have hll:=lex_len l (1,1) h0;have hS:wS (st0 l).rest=wS (lexS l (1,1)).1:=rfl;have hA0:wA (pgA ⟨[],[]⟩)=0:=rfl;obtain⟨ts,q,e1,e2⟩:=t1 [] (1,1) trivial;rw[List.append_nil] at e2;have e3:lexS [] q=([⟨4,[],(adv q []).1,(adv q []).2⟩],0):=lex_end (by rfl);rw[e3] at e2;have hF:lexF (pgT p)=none:=lexF_none.2 (by rw[e2]);refine⟨hW,?_,hF,fun m' n' r hr=>?_⟩
 ·simp only at l1;omega
 obtain⟨p',s1,s2,k,hk2⟩:=prog_r hW ts ⟨4,[],(adv q []).1,(adv q []).2⟩ e1 rfl;have hst:st0 (pgT p)=⟨ts++[⟨4,[],(adv q []).1,(adv q []).2⟩],none⟩:=by unfold st0;rw[e2]
 have h1:=hk2 (max k m') (max k n') (by omega) (by omega);rw[<-hst] at h1;simp only at h1;have h2:=pg_mono (b:=max k m') (m:=max k n') (by omega) (by omega) hr;rw[h1] at h2;injection h2 with h2;subst h2;exact⟨by rfl,s1,s2⟩
theorem baT_of {p p':PmU} (h:stPm p'=stPm p):baT p'=baT p:=by
 unfold stPm at h;injection h with h1 h;injection h with h2 h;injection h with h3 h4;unfold baT;rw[h2,h3,h4]
theorem pmT_of {p p':PmU} (h:stPm p'=stPm p):pmT p'=pmT p:=by
 have h5:=baT_of h;unfold stPm at h;injection h with h1 h;unfold pmT;rw[h1,h5]
theorem map_of {α β γ:Type} {f:α->β} {g:α->γ} (h:∀ x y,f x=f y->g x=g y):∀ {l l':List α},l.map f=l'.map f->l.map g=l'.map g
 | [],[],_=>rfl
 | [],y::l',e=>by cases e
 | x::l,[],e=>by cases e
 | x::l,y::l',e=>by
  rw[List.map_cons,List.map_cons] at e ⊢;injection e with e1 e2;rw[h x y e1,map_of h e2]
theorem hdT_of {nm:Bs} {ps ps':List PmU} (h:ps'.map stPm=ps.map stPm):hdT nm ps'=hdT nm ps:=by
 unfold hdT;rw[map_of (g:=pmT) (fun x y e=>pmT_of e) h]
theorem qlT_of {q q':QlU} (h:stQl q'=stQl q):qlT q'=qlT q:=by
 unfold stQl at h;injection h with h1 h;injection h with h2 h3;unfold qlT;rw[h1,hdT_of h2,h3]
theorem fnT_of {q q':FnU} (h:stFn q'=stFn q):fnT q'=fnT q:=by
 unfold stFn at h;injection h with h1 h;injection h with h2 h;injection h with h3 h4;unfold fnT;rw[h1,hdT_of h2,baT_of h3,h4]
theorem pgT_of {p p':PgU} (h1:p'.qs.map stQl=p.qs.map stQl) (h2:p'.fs.map stFn=p.fs.map stFn):pgT p'=pgT p:=by
 unfold pgT;rw[List.flatMap_def,List.flatMap_def,List.flatMap_def,List.flatMap_def,map_of (g:=qlT) (fun x y e=>qlT_of e) h1,map_of (g:=fnT) (fun x y e=>fnT_of e) h2]
theorem placed_bd {s:Bs} {p:Nat × Nat}:∀ {ts:List Tok} {off:Nat},Placed s p off ts->∀ t ∈ ts,t.line<=p.1+s.length/\t.col<=p.2+1+s.length/\t.text.length<=s.length
 | [],_,_,t,ht=>by simp at ht
 | u::us,off,h,t,ht=>by
  obtain⟨o,h1,h2,h3,h4,h5,h6⟩:=h;rcases List.mem_cons.1 ht with rfl | ht
  ·have:=adv_bd p (s.take o);rw[h3] at this;simp only[List.length_take] at this
   omega
  exact placed_bd h6 t ht
def TBs (s:St):Prop:=∀ t ∈ s.rest,t.line<=1000000000/\t.col<=1000000000/\t.text.length<=3000
theorem TBs.nx {s:St} (h:TBs s):s.nx.line<=1000000000/\s.nx.col<=1000000000/\s.nx.text.length<=3000:=by
 unfold St.nx;obtain⟨rest,err⟩:=s
 match rest,h with
 | [],_=>simp[tk0]
 | t::ts,h=>exact h t (by simp)
theorem TBs.tk {s:St} (h:TBs s):TBs s.tk:=by unfold St.tk;split;exact h;exact fun t ht=>h t (List.mem_of_mem_drop ht)
theorem TBs.fail {s:St} (h:TBs s) (t:Tok) (c:Nat):TBs (s.fail t c):=fun t ht=>h t (List.mem_of_mem_drop ht)
theorem TBs.exp {s:St} (h:TBs s) (w:Bs):TBs (s.exp w):=by unfold St.exp;split;exact h.tk;exact h.fail _ _
theorem TBs.name {s:St} (h:TBs s):TBs s.name:=by unfold St.name;split;exact h.tk;exact h.tk.fail _ _
def E12 (s:St):Prop:=∀ x,s.err=some x->x.1=1\/x.1=2
theorem E12.tk {s:St} (h:E12 s):E12 s.tk:=by unfold St.tk;split;exact h;exact h
theorem E12.fail {s:St} (h:E12 s) (t:Tok) {c:Nat} (hc:c=1\/c=2):E12 (s.fail t c):=by
 intro x hx;unfold St.fail at hx;simp only at hx
 cases he:s.err with
 | none=>rw[he,Option.none_or] at hx;injection hx with hx;subst hx;exact hc
 | some y=>rw[he,Option.some_or] at hx;injection hx with hx;subst hx;exact h _ he
theorem E12.exp {s:St} (h:E12 s) (w:Bs):E12 (s.exp w):=by unfold St.exp;split;exact h.tk;exact h.fail _ (.inl rfl)
theorem E12.name {s:St} (h:E12 s):E12 s.name:=by unfold St.name;split;exact h.tk;exact h.tk.fail _ (.inl rfl)
def GT (s:St):Prop:=GoodL s.rest/\TBs s/\E12 s
theorem GT.tk {s:St} (h:GT s):GT s.tk:=⟨good_tk h.1,h.2.1.tk,h.2.2.tk⟩
theorem GT.fail {s:St} (h:GT s) (t:Tok) {c:Nat} (hc:c=1\/c=2):GT (s.fail t c):=⟨good_fail h.1 t c,h.2.1.fail t c,h.2.2.fail t hc⟩
theorem GT.exp {s:St} (h:GT s) (w:Bs):GT (s.exp w):=⟨good_exp h.1 w,h.2.1.exp w,h.2.2.exp w⟩
theorem GT.name {s:St} (h:GT s):GT s.name:=⟨good_name h.1,h.2.1.name,h.2.2.name⟩
theorem GT.l {s:St} (h:GT s):s.nx.line<=1000000000:=h.2.1.nx.1
theorem GT.c {s:St} (h:GT s):s.nx.col<=1000000000:=h.2.1.nx.2.1
theorem GT.t {s:St} (h:GT s):s.nx.text.length<=3000:=h.2.1.nx.2.2
def Zb (z:Nat):Prop:=∃ m,m<=300/\z<L32 ^ m
theorem zb_zero:Zb 0:=⟨0,by decide,by decide⟩
theorem zb_dn {l:Bs} (h:Numeral l):Zb (dn l):=⟨l.length,h.2.1,Nat.lt_of_lt_of_le (dn_lt h.2.2.2) (Nat.pow_le_pow_left (by decide) _)⟩
mutual
def Bnd:U->Prop
 | .node k nm ot z ln cl ks=>(k<29/\(k=24\/ks.length=ar k))/\(nm.length<=3000/\ot.length<=3000/\Zb z)/\(ln<=1000000000/\cl<=1000000000)/\Bnds ks
def Bnds:List U->Prop
 | []=>True
 | u::us=>Bnd u/\Bnds us
end
theorem bnds_mem {us:List U} (h:Bnds us) {u:U} (hu:u ∈ us):Bnd u:=by
 induction us with
 | nil=>simp at hu
 | cons v us ih =>
  rw[Bnds] at h;rcases List.mem_cons.1 hu with rfl | hu
  ·exact h.1
  exact ih h.2 hu
theorem bnds_app {a b:List U} (ha:Bnds a) (hb:Bnds b):Bnds (a++b):=by
 induction a with
 | nil=>exact hb
 | cons u a ih=>rw[Bnds] at ha;rw[List.cons_append,Bnds];exact⟨ha.1,ih ha.2⟩
theorem bnd_u0:Bnd u0:=by unfold u0;rw[Bnd];exact⟨⟨by decide,.inr rfl⟩,⟨by decide,by decide,zb_zero⟩,⟨by decide,by decide⟩,by rw[Bnds];trivial⟩
theorem bnd_prt {k:Nat} {s:St} {ks:List U} (h:GT s) (hk:k<29) (ha:k=24\/ks.length=ar k) (hs:Bnds ks):Bnd (prt k s.nx ks):=by
 unfold prt;rw[Bnd];exact⟨⟨hk,ha⟩,⟨by decide,by decide,zb_zero⟩,⟨h.l,h.c⟩,hs⟩
theorem bnd_nmd {k:Nat} {s:St} {ks:List U} (h:GT s) (hk:k<29) (ha:k=24\/ks.length=ar k) (hs:Bnds ks):Bnd (nmd k s.nx ks):=by
 unfold nmd;rw[Bnd];exact⟨⟨hk,ha⟩,⟨h.t,by decide,zb_zero⟩,⟨h.l,h.c⟩,hs⟩
theorem bnds0:Bnds []:=by rw[Bnds];trivial
theorem bnds1 {a:U} (h:Bnd a):Bnds [a]:=by rw[Bnds];exact⟨h,bnds0⟩
theorem bnds2 {a b:U} (h:Bnd a) (k:Bnd b):Bnds [a,b]:=by rw[Bnds];exact⟨h,bnds1 k⟩
theorem bnds3 {a b c:U} (h:Bnd a) (k:Bnd b) (l:Bnd c):Bnds [a,b,c]:=by rw[Bnds];exact⟨h,bnds2 k l⟩
theorem bop_ar {w:Bs} {op:Bop} (h:bopOf w=some op):op.kind<29/\2=ar op.kind:=
 (show ∀ op ∈ bops,op.kind<29/\2=ar op.kind by decide) op (List.mem_of_find?_eq_some h)
theorem un_ar {w:Bs} {k:Nat} (h:unOf w=some k):k<29/\1=ar k:=by
 unfold unOf at h
 split at h;(injection h with h;subst h;decide)
 split at h;(injection h with h;subst h;decide)
 split at h;(injection h with h;subst h;decide)
 split at h;(injection h with h;subst h;decide)
 split at h;(injection h with h;subst h;decide)
 cases h
abbrev BG (x:U × St):Prop:=Bnd x.1/\GT x.2
theorem c_bnd (n:Nat):(∀ s x,GT s->cExpr n s=some x->BG x)/\(∀ s x,GT s->cLet n s=some x->BG x)/\(∀ s x,GT s->cIf n s=some x->BG x)/\(∀ s x,GT s->cMatch n s=some x->BG x)/\(∀ s x,GT s->cAssert n s=some x->BG x) /\
  (∀ l s x,GT s->cBin n l s=some x->BG x)/\(∀ l e v s x,GT s->Bnd e->cLoop n l e v s=some x->BG x)/\(∀ s x,GT s->cOne n s=some x->BG x)/\(∀ s x,GT s->cAtom n s=some x->BG x)/\(∀ s x,GT s->cArgs n s=some x->Bnds x.1/\GT x.2)/\(∀ l s x,GT s->Bnds l->cMore n l s=some x->Bnds x.1/\GT x.2):=by
 induction n with
 | zero=>refine⟨?_,?_,?_,?_,?_,?_,?_,?_,?_,?_,?_⟩<;>intros<;>simp_all [cExpr,cLet,cIf,cMatch,cAssert,cBin,cLoop,cOne,cAtom,cArgs,cMore]
 | succ n ih =>
  obtain⟨i1,i2,i3,i4,i5,i6,i7,i8,i9,i10,i11⟩:=ih;refine⟨?_,?_,?_,?_,?_,?_,?_,?_,?_,?_,?_⟩
  ·intro s x g h;rw[cExpr] at h
   split at h;exact i2 _ _ g h
   split at h;exact i3 _ _ g h
   split at h;exact i4 _ _ g h
   split at h;exact i5 _ _ g h
   exact i6 _ _ _ g h
  ·intro s x g h;rw[cLet] at h;simp only[Option.bind_eq_some_iff] at h;obtain⟨r1,h1,r2,h2,h3⟩:=h;injection h3 with h3;subst h3;have a1:=i1 _ _ (g.tk.name.exp _) h1;have a2:=i1 _ _ (a1.2.exp _) h2;exact⟨by rw[Bnd];exact⟨⟨by decide,.inr rfl⟩,⟨g.tk.t,by decide,zb_zero⟩,⟨g.l,g.c⟩,bnds2 a1.1 a2.1⟩,a2.2⟩
  ·intro s x g h;rw[cIf] at h;simp only[Option.bind_eq_some_iff] at h;obtain⟨r1,h1,r2,h2,r3,h3,h4⟩:=h;injection h4 with h4;subst h4;have a1:=i1 _ _ g.tk h1;have a2:=i1 _ _ (a1.2.exp _) h2;have a3:=i1 _ _ (a2.2.exp _) h3;exact⟨bnd_prt g (by decide) (.inr rfl) (bnds3 a1.1 a2.1 a3.1),a3.2⟩
  ·intro s x g h;rw[cMatch] at h;simp only[Option.bind_eq_some_iff] at h;obtain⟨r1,h1,r2,h2,r3,h3,h4⟩:=h;injection h4 with h4;subst h4;have a1:=i1 _ _ g.tk h1;have a2:=i1 _ _ (((a1.2.exp _).exp _).exp _) h2;have a3:=i1 _ _ (((((a2.2.exp _).name).exp _).name).exp _) h3;exact⟨by rw[Bnd];exact⟨⟨by decide,.inr rfl⟩,⟨(a2.2.exp _).t,(((a2.2.exp _).name).exp _).t,zb_zero⟩,⟨g.l,g.c⟩,bnds3 a1.1 a2.1 a3.1⟩,a3.2⟩
  ·intro s x g h;rw[cAssert] at h;simp only[Option.bind_eq_some_iff] at h;obtain⟨r1,h1,r2,h2,h3⟩:=h;injection h3 with h3;subst h3;have a1:=i1 _ _ g.tk h1;have a2:=i1 _ _ (a1.2.exp _) h2;exact⟨bnd_prt g (by decide) (.inr rfl) (bnds2 a1.1 a2.1),a2.2⟩
  ·intro l s x g h;rw[cBin,Option.bind_eq_some_iff] at h;obtain⟨r1,h1,h2⟩:=h;have a1:=i8 _ _ g h1;exact i7 _ _ _ _ _ a1.2 a1.1 h2
  ·intro l e v s x g hE h;rw[cLoop] at h
   split at h
   ·injection h with h;subst h;exact⟨hE,g⟩
   rename_i op hop
   split at h
   ·injection h with h;subst h;exact⟨hE,g⟩
   rw[Option.bind_eq_some_iff] at h;obtain⟨r1,h1,h2⟩:=h;have a1:=i6 _ _ _ g.tk h1;have hb:=bop_ar hop;exact i7 _ (prt op.kind s.nx [e,r1.1]) _ _ _ a1.2 (bnd_prt g hb.1 (.inr hb.2) (bnds2 hE a1.1)) h2
  ·intro s x g h;rw[cOne] at h
   split at h
   ·exact i9 _ _ g h
   rename_i k hk
   rw[Option.bind_eq_some_iff] at h;obtain⟨r1,h1,h2⟩:=h;injection h2 with h2;subst h2;have a1:=i8 _ _ g.tk h1;have hb:=un_ar hk;exact⟨bnd_prt g hb.1 (.inr hb.2) (bnds1 a1.1),a1.2⟩
  ·intro s x g h;rw[cAtom] at h
   split at h
   ·rename_i hk
    injection h with h;subst h;exact⟨by rw[Bnd];exact⟨⟨by decide,.inr rfl⟩,⟨by decide,by decide,zb_dn ((g.1.head).k1 hk).2⟩,⟨g.l,g.c⟩,bnds0⟩,g.tk⟩
   split at h
   ·split at h
    ·rw[Option.bind_eq_some_iff] at h;obtain⟨r1,h1,h2⟩:=h;injection h2 with h2;subst h2;have a1:=i10 _ _ g.tk.tk h1;exact⟨bnd_nmd g (by decide) (.inl rfl) a1.1,a1.2⟩
    injection h with h;subst h;exact⟨bnd_nmd g (by decide) (.inr rfl) bnds0,g.tk⟩
   split at h
   ·injection h with h;subst h;exact⟨bnd_nmd g (by decide) (.inr rfl) bnds0,g.tk⟩
   split at h
   ·injection h with h;subst h;exact⟨bnd_prt g (by decide) (.inr rfl) bnds0,g.tk⟩
   split at h
   ·injection h with h;subst h;exact⟨bnd_prt g (by decide) (.inr rfl) bnds0,g.tk⟩
   split at h
   ·injection h with h;subst h;exact⟨bnd_prt g (by decide) (.inr rfl) bnds0,g.tk⟩
   split at h
   ·rw[Option.bind_eq_some_iff] at h;obtain⟨r1,h1,h2⟩:=h;injection h2 with h2;subst h2;have a1:=i1 _ _ g.tk h1;exact⟨a1.1,a1.2.exp _⟩
   injection h with h;subst h;exact⟨bnd_u0,g.tk.fail _ (.inl rfl)⟩
  ·intro s x g h;rw[cArgs] at h
   split at h
   ·injection h with h;subst h;exact⟨bnds0,g.tk⟩
   rw[Option.bind_eq_some_iff] at h;obtain⟨r1,h1,h2⟩:=h;have a1:=i1 _ _ g h1;exact i11 _ _ _ a1.2 (bnds1 a1.1) h2
  intro l s x g hl h;rw[cMore] at h
  split at h
  ·rw[Option.bind_eq_some_iff] at h;obtain⟨r1,h1,h2⟩:=h;have a1:=i1 _ _ g.tk h1;exact i11 _ _ _ a1.2 (bnds_app hl (bnds1 a1.1)) h2
  injection h with h;subst h;exact⟨hl,g.exp _⟩
theorem all_gt {n:Nat} {s:St} {x:U × St} (g:GT s) (h:cAll n s=some x):BG x:=by
 unfold cAll at h;rw[Option.bind_eq_some_iff] at h;obtain⟨r,h1,h2⟩:=h;injection h2 with h2;subst h2;have:=(c_bnd n).1 _ _ g h1;refine⟨this.1,?_⟩;simp only
 split
 ·exact this.2.fail _ (.inr rfl)
 exact this.2
def PmB (p:PmU):Prop:=p.nm.length<=3000/\p.b<=2/\p.ln<=1000000000/\p.cl<=1000000000/\Bnd p.ref
def QlB (q:QlU):Prop:=q.nm.length<=3000/\(∀ p ∈ q.ps,PmB p)/\Bnd q.body/\q.ln<=1000000000/\q.cl<=1000000000
def FnB (f:FnU):Prop:=f.nm.length<=3000/\(∀ p ∈ f.ps,PmB p)/\PmB f.res/\Bnd f.body/\f.ln<=1000000000/\f.cl<=1000000000
def PgB (p:PgU):Prop:=(∀ q ∈ p.qs,QlB q)/\(∀ f ∈ p.fs,FnB f)
abbrev Sh (s s':St):Prop:=GT s'/\s'.rest.length<=s.rest.length
theorem Sh.exp {s t:St} (h:Sh s t) (w:Bs):Sh s (t.exp w):=⟨h.1.exp w,Nat.le_trans (len_exp t w) h.2⟩
theorem Sh.name {s t:St} (h:Sh s t):Sh s t.name:=⟨h.1.name,Nat.le_trans (len_name t) h.2⟩
theorem Sh.counted {s t:St} (h:Sh s t) (k l:Nat):Sh s (t.counted k l):=by
 unfold St.counted
 split
 ·exact⟨h.name.1.fail _ (.inr rfl),Nat.le_trans (len_fail _ _ _) h.name.2⟩
 exact h.name
theorem Sh.tk {s t:St} (h:Sh s t):Sh s t.tk:=⟨h.1.tk,Nat.le_trans (len_tk t) h.2⟩
theorem Sh.tr {s t u:St} (h:Sh s t) (k:Sh t u):Sh s u:=⟨k.1,Nat.le_trans k.2 h.2⟩
theorem Sh.rfl' {s:St} (h:GT s):Sh s s:=⟨h,Nat.le_refl _⟩
theorem Sh.base {s t:St} (h:Sh s t):Sh s (cBase t).2/\(cBase t).1<=2:=by
 unfold cBase
 split
 ·exact⟨h.tk,Nat.le_of_ble_eq_true rfl⟩
 split
 ·exact⟨h.tk,Nat.le_of_ble_eq_true rfl⟩
 split
 ·exact⟨h.tk,Nat.le_of_ble_eq_true rfl⟩
 exact⟨⟨h.tk.1.fail _ (.inl rfl),Nat.le_trans (len_fail _ _ _) h.tk.2⟩,Nat.le_of_ble_eq_true rfl⟩
theorem all_c {n:Nat} {s:St} (g:GT s) (hn:8*s.rest.length+7<=n):∃ x,cAll n s=some x/\Bnd x.1/\Sh s x.2:=by
 obtain⟨y,hy⟩:=Option.isSome_iff_exists.1 ((c_tot n).1 s g.1 hn);have hx:cAll n s=some (y.1,if 60<ud y.1 then y.2.fail s.nx 2 else y.2):=by unfold cAll;rw[hy];rfl
 have hb:=all_gt g hx;refine⟨_,hx,hb.1,hb.2,?_⟩;have:=(c_len n).1 _ _ hy;simp only
 split
 ·exact Nat.le_trans (len_fail _ _ _) this
 exact this
theorem ref_c {n:Nat} {p:PmU} {s:St} (hp:PmB p) (g:GT s) (hn:8*s.rest.length+7<=n):∃ x,cRef n p s=some x/\PmB x.1/\Sh s x.2:=by
 unfold cRef
 split
 ·obtain⟨x,h1,h2,h3⟩:=all_c (n:=n) g.tk (by have:=len_tk s;omega);refine⟨_,by rw[h1];rfl,⟨hp.1,hp.2.1,hp.2.2.1,hp.2.2.2.1,h2⟩,((Sh.rfl' g).tk.tr h3).exp _⟩
 exact⟨_,rfl,hp,Sh.rfl' g⟩
theorem typ_b {s:St} (g:GT s) {nm:Bs} (hn:nm.length<=3000) {b:Nat} (hb:b<=2):PmB (typ nm s.nx b):=⟨hn,hb,g.l,g.c,bnd_u0⟩
theorem var_c {s:St} (g:GT s):PmB (cVar s).1/\Sh s (cVar s).2:=by
 have h:=(((Sh.rfl' g).exp wV).exp wColon).base;exact⟨typ_b g g.t h.2,h.1⟩
theorem param_c {s:St} (g:GT s) (k:Nat):PmB (cParam k s).1/\Sh s (cParam k s).2:=by
 have h:=(((Sh.rfl' g).counted k 6).exp wColon).base;exact⟨typ_b g g.t h.2,h.1⟩
theorem res_c {n:Nat} {s:St} (g:GT s) (hn:8*s.rest.length+7<=n):∃ x,cRes n s=some x/\PmB x.1/\Sh s x.2:=by
 have h:=(Sh.rfl' g).base;obtain⟨x,h1,h2,h3⟩:=ref_c (n:=n) (typ_b g (nm:=wV) (by decide) h.2) h.1.1 (by have:=h.1.2;omega);exact⟨x,h1,h2,h.1.tr h3⟩
theorem all_snoc {α:Type} {P:α->Prop} {l:List α} {a:α} (h:∀ x ∈ l,P x) (ha:P a):∀ x ∈ l++[a],P x:=by
 intro x hx;rcases List.mem_append.1 hx with hx | hx
 ·exact h x hx
 rw[List.mem_singleton.1 hx];exact ha
theorem qmore_c:∀ {m:Nat} {l:List PmU} {s:St},GT s->(∀ p ∈ l,PmB p)->s.rest.length<=m->∃ x,cQMore m l s=some x/\(∀ p ∈ x.1,PmB p)/\Sh s x.2:=by
 intro m
 induction m with
 | zero=>intro l s g hl hm;exact absurd (List.length_pos_iff.2 g.1.ne) (by omega)
 | succ m ih =>
  intro l s g hl hm;rw[cQMore]
  split
  ·rename_i hi
   have h1:=tk_one g.1 (kind_is g.1 (by decide) hi);obtain⟨hp,hs⟩:=param_c g.tk l.length;obtain⟨x,q1,q2,q3⟩:=ih (l:=l++[(cParam l.length s.tk).1]) hs.1 (all_snoc hl hp) (by have:=hs.2;omega);exact⟨x,q1,q2,((Sh.rfl' g).tk.tr hs).tr q3⟩
  exact⟨_,rfl,hl,Sh.rfl' g⟩
theorem fpar_c {n:Nat} {l:List PmU} {s:St} (g:GT s) (hl:∀ p ∈ l,PmB p) (hn:8*s.rest.length+7<=n):∃ x,cFPar n l s=some x/\(∀ p ∈ x.1,PmB p)/\Sh s x.2:=by
 obtain⟨hp,hs⟩:=param_c g l.length;obtain⟨x,q1,q2,q3⟩:=ref_c (n:=n) hp hs.1 (by have:=hs.2;omega);refine⟨(l++[x.1],x.2),by unfold cFPar;rw[q1];rfl,all_snoc hl q2,hs.tr q3⟩
theorem fmore_c:∀ {m n:Nat} {l:List PmU} {s:St},GT s->(∀ p ∈ l,PmB p)->s.rest.length<=m->8*s.rest.length+7<=n->∃ x,cFMore m n l s=some x/\(∀ p ∈ x.1,PmB p)/\Sh s x.2:=by
 intro m
 induction m with
 | zero=>intro n l s g hl hm;exact absurd (List.length_pos_iff.2 g.1.ne) (by omega)
 | succ m ih =>
  intro n l s g hl hm hn;rw[cFMore]
  split
  ·rename_i hi
   have h1:=tk_one g.1 (kind_is g.1 (by decide) hi);obtain⟨y,p1,p2,p3⟩:=fpar_c (n:=n) g.tk hl (by omega);obtain⟨x,q1,q2,q3⟩:=ih (n:=n) p3.1 p2 (by have:=p3.2;omega) (by have:=p3.2;omega);exact⟨x,by rw[p1];exact q1,q2,((Sh.rfl' g).tk.tr p3).tr q3⟩
  exact⟨_,rfl,hl,(Sh.rfl' g).exp _⟩
theorem fpars_c {m n:Nat} {s:St} (g:GT s) (hm:s.rest.length<=m) (hn:8*s.rest.length+7<=n):∃ x,cFPars m n s=some x/\(∀ p ∈ x.1,PmB p)/\Sh s x.2:=by
 unfold cFPars
 split
 ·exact⟨_,rfl,by simp,(Sh.rfl' g).tk⟩
 obtain⟨y,p1,p2,p3⟩:=fpar_c (n:=n) (l:=[]) g (by simp) hn;obtain⟨x,q1,q2,q3⟩:=fmore_c (m:=m) (n:=n) p3.1 p2 (by have:=p3.2;omega) (by have:=p3.2;omega);exact⟨x,by rw[p1];exact q1,q2,p3.tr q3⟩
theorem qual_c {m n k:Nat} {s:St} (g:GT s) (hm:s.rest.length<=m) (hn:8*s.rest.length+7<=n):∃ x,cQual m n k s=some x/\QlB x.1/\Sh s x.2:=by
 have h1:=((Sh.rfl' g).counted k 20).exp wOpen;obtain⟨hv,h2⟩:=var_c h1.1;obtain⟨x,q1,q2,q3⟩:=qmore_c (m:=m) (l:=[(cVar ((s.counted k 20).exp wOpen)).1]) h2.1 (by simpa using hv) (by have:=h2.2;have:=h1.2;omega);have h4:=((((h1.tr h2).tr q3).exp wClose).exp wColon)
 obtain⟨y,p1,p2,p3⟩:=all_c (n:=n) h4.1 (by have:=h4.2;omega);refine⟨(⟨s.nx.text,x.1,y.1,s.nx.line,s.nx.col⟩,y.2),?_,⟨g.t,q2,p2,g.l,g.c⟩,h4.tr p3⟩;unfold cQual;simp only[q1,Option.bind_some,p1]
theorem fun_c {m n k:Nat} {s:St} (g:GT s) (hm:s.rest.length<=m) (hn:8*s.rest.length+7<=n):∃ x,cFun m n k s=some x/\FnB x.1/\Sh s x.2:=by
 have h1:=((Sh.rfl' g).counted k 20).exp wOpen;obtain⟨x,q1,q2,q3⟩:=fpars_c (m:=m) (n:=n) h1.1 (by have:=h1.2;omega) (by have:=h1.2;omega);have h2:=(h1.tr q3).exp wColon;obtain⟨t,t1,t2,t3⟩:=res_c (n:=n) h2.1 (by have:=h2.2;omega);have h4:=(h2.tr t3).exp wEq;obtain⟨y,p1,p2,p3⟩:=all_c (n:=n) h4.1 (by have:=h4.2;omega);refine⟨(⟨s.nx.text,x.1,t.1,y.1,s.nx.line,s.nx.col⟩,y.2),?_,⟨g.t,q2,t2,p2,g.l,g.c⟩,h4.tr p3⟩;unfold cFun;simp only[q1,Option.bind_some,t1,p1]
theorem prog_c:∀ {m n:Nat} {p:PgU} {s:St},GT s->PgB p->s.rest.length<=m->8*s.rest.length+7<=n->∃ x,cProg m n p s=some x/\PgB x.1/\GT x.2:=by
 intro m
 induction m with
 | zero=>intro n p s g hp hm;exact absurd (List.length_pos_iff.2 g.1.ne) (by omega)
 | succ m ih =>
  intro n p s g hp hm hn;rw[cProg]
  split
  ·rename_i hi
   have h1:=tk_one g.1 (kind_is g.1 (by decide) hi);obtain⟨y,p1,p2,p3⟩:=qual_c (m:=m) (n:=n) (k:=p.qs.length) g.tk (by omega) (by omega);obtain⟨x,q1,q2,q3⟩:=ih (n:=n) (p:=⟨p.qs++[y.1],p.fs⟩) p3.1 ⟨all_snoc hp.1 p2,hp.2⟩ (by have:=p3.2;omega) (by have:=p3.2;omega);exact⟨x,by rw[p1];exact q1,q2,q3⟩
  split
  ·rename_i hi
   have h1:=tk_one g.1 (kind_is g.1 (by decide) hi);obtain⟨y,p1,p2,p3⟩:=fun_c (m:=m) (n:=n) (k:=p.fs.length) g.tk (by omega) (by omega);obtain⟨x,q1,q2,q3⟩:=ih (n:=n) (p:=⟨p.qs,p.fs++[y.1]⟩) p3.1 ⟨hp.1,all_snoc hp.2 p2⟩ (by have:=p3.2;omega) (by have:=p3.2;omega);exact⟨x,by rw[p1];exact q1,q2,q3⟩
  exact⟨_,rfl,hp,g⟩
end Go.Proofs.YtkocdbgmckdcpaaGreatDoor
