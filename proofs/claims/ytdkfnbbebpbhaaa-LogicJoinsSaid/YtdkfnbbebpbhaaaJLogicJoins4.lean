/-
 Joined texts: LgJ,LgK,LgL,LgN,LgP,LgQ,LgR,LgS.
-/
import Derived.Test.YtdkfnbbebpbhaaaJLogicJoins3
set_option maxHeartbeats 32000000
namespace Go.Proofs.Ytdkfnbbebpbhaaa
open Go.RowKit
set_option maxRecDepth 100000
set_option linter.unusedVariables false
set_option linter.unusedSimpArgs false
attribute [local go_sem] fieldV0 fieldV1 fieldV2 fieldV3
theorem num_step (d:Nat) (IN:NumC d) (IL:LstC d):NumC (d+1):=by
 intro ve v env t S w h he hr hs hsm;obtain⟨b,ao,l,c,ko,kl,kc,rfl,⟨-,hz,hkl,hkc,hkm⟩,-,hk⟩:=h.open;obtain⟨o,z,nm,ks⟩:=t;simp only[F.op,F.num,F.name,F.kids] at hz hk hkl hs ⊢;rw[show d+1 - 1=d from rfl] at hk;obtain⟨hfit,hrs⟩:=rt_node hr
 have ho:o=0\/o=1\/o=2\/o=3\/o=4\/o=5\/o=6\/o=7:=by
  have:=fit_range hfit;unfold srt at hs
  split at hs
  ·omega
  split at hs
  ·omega
  omega
 obtain⟨eo,en,ec,rfl⟩:=he.shape;have hkm':kc<=9223372036854775807:=hkm;have hval:=hsm.val;clear h hr hs hkm;rcases ho with rfl | rfl | rfl | rfl | rfl | rfl | rfl | rfl
 ·have HX:=Lib.hid hk;have HZ:=Lib.hid hz;have HE:=Lib.hid he;have HSM:=Lib.hid hsm;have HRS:=Lib.hid hrs;have HW:=Lib.hid (Below.refl w.heap.size w);have HKL0:=Lib.hid hkl;clear hkl hkc;clear hz hk he hsm hrs hval hfit;go_enter Try.func62,Try.ntmps62
  obtain⟨x1,kf,ef,ekf,hbf,hkf,HBf⟩:=newV w #[.int .i64 0,.bool b,.slice ao l c,.string nm,.slice ko kl kc] 29;replace HX:=Lib.hid (HX.out.below hbf.out);replace HZ:=Lib.hid (HZ.out.below hbf.out);replace HE:=Lib.hid (HE.out.below hbf.out);replace HW:=Lib.hid (HW.out.trans (hbf.out.mono HW.out.size));have HKf0:=hkf;obtain⟨x2,kr,er,ekr,hbr,hkr,HBr⟩:=newV x1 #[.bool false,.slice none 0 0] 26;replace HBf:=kBV hbr.out HBf;replace HX:=Lib.hid (HX.out.below hbr.out);replace HZ:=Lib.hid (HZ.out.below hbr.out);replace HE:=Lib.hid (HE.out.below hbr.out);replace HW:=Lib.hid (HW.out.trans (hbr.out.mono HW.out.size));have HKr:Hid (w.heap.size<=kr):=Lib.hid (Nat.le_trans hbf.out.size hkr.out);have c0:=cell_at (v:=.int .i64 0) HBf.out 0 rfl;have fc0:=froz_at HBf.out 0;have c1:=cell_at (v:=.bool b) HBf.out 1 rfl;have fc1:=froz_at HBf.out 1
  have c2:=cell_at (v:=.slice ao l c) HBf.out 2 rfl;have fc2:=froz_at HBf.out 2;have c3:=cell_at (v:=.string nm) HBf.out 3 rfl;have fc3:=froz_at HBf.out 3;have c4:=cell_at (v:=.slice ko kl kc) HBf.out 4 rfl;have fc4:=froz_at HBf.out 4;obtain⟨r0,r1',fr0,fr1⟩:=cells2V HBr.out;go_wp2_with fail
  clear c0 fc0 c1 fc1 c2 fc2 c3 fc3 c4 fc4;obtain⟨r1,r2⟩:=res2V HW.out HBr.out n32_2 HKr.out (.bool b) (.slice ao l c)
  (try simp only[Exit.inBlock,Exit.then])
  exact bodyPost_ret (v:=.agg #[.bool b,.slice ao l c]) (by simp[results,Try.results62,go_sem,r0,r1']) rfl ⟨_,rfl,(HZ.out).fr r1,r2⟩
 ·have HX:=Lib.hid hk;have HZ:=Lib.hid hz;have HE:=Lib.hid he;have HSM:=Lib.hid hsm;have HRS:=Lib.hid hrs;have HW:=Lib.hid (Below.refl w.heap.size w);have HKL0:=Lib.hid hkl;clear hkl hkc;clear hz hk he hsm hrs hval hfit;go_enter Try.func62,Try.ntmps62
  obtain⟨x1,kf,ef,ekf,hbf,hkf,HBf⟩:=newV w #[.int .i64 1,.bool b,.slice ao l c,.string nm,.slice ko kl kc] 29;replace HX:=Lib.hid (HX.out.below hbf.out);replace HZ:=Lib.hid (HZ.out.below hbf.out);replace HE:=Lib.hid (HE.out.below hbf.out);replace HW:=Lib.hid (HW.out.trans (hbf.out.mono HW.out.size));have HKf0:=hkf;obtain⟨x2,kr,er,ekr,hbr,hkr,HBr⟩:=newV x1 #[.bool false,.slice none 0 0] 26;replace HBf:=kBV hbr.out HBf;replace HX:=Lib.hid (HX.out.below hbr.out);replace HZ:=Lib.hid (HZ.out.below hbr.out);replace HE:=Lib.hid (HE.out.below hbr.out);replace HW:=Lib.hid (HW.out.trans (hbr.out.mono HW.out.size));have HKr:Hid (w.heap.size<=kr):=Lib.hid (Nat.le_trans hbf.out.size hkr.out);have c0:=cell_at (v:=.int .i64 1) HBf.out 0 rfl;have fc0:=froz_at HBf.out 0;have c1:=cell_at (v:=.bool b) HBf.out 1 rfl;have fc1:=froz_at HBf.out 1
  have c2:=cell_at (v:=.slice ao l c) HBf.out 2 rfl;have fc2:=froz_at HBf.out 2;have c3:=cell_at (v:=.string nm) HBf.out 3 rfl;have fc3:=froz_at HBf.out 3;have c4:=cell_at (v:=.slice ko kl kc) HBf.out 4 rfl;have fc4:=froz_at HBf.out 4;go_wp2_with fail
  refine (lookup_p _ env nm 0 x2 HE.out).mono ?_;rintro e x3 ⟨v,rfl,hv,hb⟩;clear c0 fc0 c1 fc1 c2 fc2 c3 fc3 c4 fc4;replace HBf:=kBV hb HBf;replace HBr:=kBV hb HBr;replace HX:=Lib.hid (HX.out.below hb);replace HZ:=Lib.hid (HZ.out.below hb);replace HE:=Lib.hid (HE.out.below hb);replace HW:=Lib.hid (HW.out.trans (hb.mono HW.out.size));rw[lk0] at hv;obtain⟨o1,l1,c1,rfl,hci⟩:=hv.int;have HV:=Lib.hid hci;clear hv hci;obtain⟨r0,r1',fr0,fr1⟩:=cells2V HBr.out;go_wp2_with fail
  obtain⟨r1,r2⟩:=res2V HW.out HBr.out n32_2 HKr.out (.bool (decide (asI (rho env nm)<0))) (.slice o1 l1 c1)
  (try simp only[Exit.inBlock,Exit.then])
  exact bodyPost_ret (v:=.agg #[.bool (decide (asI (rho env nm)<0)),.slice o1 l1 c1]) (by simp[results,Try.results62,go_sem,r0,r1']) rfl ⟨_,rfl,(HV.out).fr r1,r2⟩
 ·have HX:=Lib.hid hk;have HZ:=Lib.hid hz;have HE:=Lib.hid he;have HSM:=Lib.hid hsm;have HRS:=Lib.hid hrs;have HW:=Lib.hid (Below.refl w.heap.size w);have HKL0:=Lib.hid hkl;clear hkl hkc;obtain⟨p,q,rfl,hp,hq⟩:=srts_two (ks:=ks) (s:=0) (r:=0) (by simpa [fitF,kidsOk] using hfit);have HSP:=Lib.hid (hsm.kid p (by simp));have HRP:=Lib.hid (hrs p (by simp));have HP:=Lib.hid hp;have HSQ:=Lib.hid (hsm.kid q (by simp));have HRQ:=Lib.hid (hrs q (by simp));have HQ:=Lib.hid hq;have HEV:Hid (asI (ev (rho env) (.node 2 z nm [p,q]))=asI (opV (rho env) 2 z nm [ev (rho env) p,ev (rho env) q])):=Lib.hid (by rw[ev,evs,evs,evs]);have HVAL:Hid ((asI (opV (rho env) 2 z nm [ev (rho env) p,ev (rho env) q])).natAbs<L32 ^ 600):=Lib.hid (by rw[ev,evs,evs,evs] at hval;exact hval);have hkl1:kl=2:=HKL0.out;subst hkl1
  clear hz hk he hsm hrs hval hfit hp HKL0 hq;go_enter Try.func62,Try.ntmps62
  obtain⟨x1,kf,ef,ekf,hbf,hkf,HBf⟩:=newV w #[.int .i64 2,.bool b,.slice ao l c,.string nm,.slice ko 2 kc] 29;replace HX:=Lib.hid (HX.out.below hbf.out);replace HZ:=Lib.hid (HZ.out.below hbf.out);replace HE:=Lib.hid (HE.out.below hbf.out);replace HW:=Lib.hid (HW.out.trans (hbf.out.mono HW.out.size));have HKf0:=hkf;obtain⟨x2,kr,er,ekr,hbr,hkr,HBr⟩:=newV x1 #[.bool false,.slice none 0 0] 26;replace HBf:=kBV hbr.out HBf;replace HX:=Lib.hid (HX.out.below hbr.out);replace HZ:=Lib.hid (HZ.out.below hbr.out);replace HE:=Lib.hid (HE.out.below hbr.out);replace HW:=Lib.hid (HW.out.trans (hbr.out.mono HW.out.size));have HKr:Hid (w.heap.size<=kr):=Lib.hid (Nat.le_trans hbf.out.size hkr.out);have c0:=cell_at (v:=.int .i64 2) HBf.out 0 rfl;have fc0:=froz_at HBf.out 0;have c1:=cell_at (v:=.bool b) HBf.out 1 rfl;have fc1:=froz_at HBf.out 1
  have c2:=cell_at (v:=.slice ao l c) HBf.out 2 rfl;have fc2:=froz_at HBf.out 2;have c3:=cell_at (v:=.string nm) HBf.out 3 rfl;have fc3:=froz_at HBf.out 3;have c4:=cell_at (v:=.slice ko 2 kc) HBf.out 4 rfl;have fc4:=froz_at HBf.out 4;obtain⟨a,bp,op,lp,cp,kop,klp,kcp,hkop,⟨p0,p1,p2,p3,p4⟩,hfp⟩:=HX.out.first;have HFP:=Lib.hid hfp;clear hfp;obtain⟨opp,hopp⟩:∃ x,x=p.op:=⟨_,rfl⟩
  obtain⟨nmp,hnmp⟩:∃ x,x=p.name:=⟨_,rfl⟩
  rw[<-hopp] at p0 HFP;rw[<-hnmp] at p3 HFP;clear hopp hnmp;obtain⟨a2,bq,oq,lq,cq,koq,klq,kcq,hkoq,⟨q0,q1,q2,q3,q4⟩,hfq⟩:=HX.out.second;have HFQ:=Lib.hid hfq;clear hfq;obtain⟨opq,hopq⟩:∃ x,x=q.op:=⟨_,rfl⟩
  obtain⟨nmq,hnmq⟩:∃ x,x=q.name:=⟨_,rfl⟩
  rw[<-hopq] at q0 HFQ;rw[<-hnmq] at q3 HFQ;clear hopq hnmq;have HQC:Hid (At5 x2 ⟨a2.block,a2.off+5,none⟩ opq bq oq lq cq nmq koq klq kcq):=Lib.hid ⟨q0,q1,q2,q3,q4⟩;subst hkop;injection hkoq with ha2;subst ha2;go_wp2_with fail
  refine (IN _ _ env p S x2 HFP.out HE.out HRP.out HP.out HSP.out).mono ?_;rintro e x3 ⟨x,rfl,hx,hb⟩;clear c0 fc0 c1 fc1 c2 fc2 c3 fc3 c4 fc4 p0 p1 p2 p3 p4 q0 q1 q2 q3 q4;replace HBf:=kBV hb HBf;replace HBr:=kBV hb HBr;replace HX:=Lib.hid (HX.out.below hb);replace HZ:=Lib.hid (HZ.out.below hb);replace HE:=Lib.hid (HE.out.below hb);replace HW:=Lib.hid (HW.out.trans (hb.mono HW.out.size));replace HFP:=Lib.hid (HFP.out.below hb);replace HFQ:=Lib.hid (HFQ.out.below hb);replace HQC:=Lib.hid (HQC.out.below hb);obtain⟨X,hX⟩:∃ X,X=asI (ev (rho env) p):=⟨_,rfl⟩
  rw[<-hX] at hx;have HX0:=Lib.hid hX;clear hX;obtain⟨bx,ox,lx,cx,rfl⟩:=hx.shape;have HPX:=Lib.hid hx;clear hx HFP;obtain⟨x4,ka,ea,eka,hba,hka,HBa⟩:=newV x3 #[.bool bx,.slice ox lx cx] 26;replace HBf:=kBV hba.out HBf;replace HBr:=kBV hba.out HBr;replace HX:=Lib.hid (HX.out.below hba.out);replace HZ:=Lib.hid (HZ.out.below hba.out);replace HE:=Lib.hid (HE.out.below hba.out);replace HW:=Lib.hid (HW.out.trans (hba.out.mono HW.out.size));replace HFQ:=Lib.hid (HFQ.out.below hba.out);replace HQC:=Lib.hid (HQC.out.below hba.out);replace HPX:=Lib.hid (HPX.out.below hba.out);have c0:=cell_at (v:=.int .i64 2) HBf.out 0 rfl;have fc0:=froz_at HBf.out 0;have c1:=cell_at (v:=.bool b) HBf.out 1 rfl;have fc1:=froz_at HBf.out 1;have c2:=cell_at (v:=.slice ao l c) HBf.out 2 rfl;have fc2:=froz_at HBf.out 2
  have c3:=cell_at (v:=.string nm) HBf.out 3 rfl;have fc3:=froz_at HBf.out 3;have c4:=cell_at (v:=.slice (some a) 2 kc) HBf.out 4 rfl;have fc4:=froz_at HBf.out 4;have d0:=cell_at (v:=.bool bx) HBa.out 0 rfl;have fd0:=froz_at HBa.out 0;have d1:=cell_at (v:=.slice ox lx cx) HBa.out 1 rfl;have fd1:=froz_at HBa.out 1;go_upto_region 22 with fail
  clear c0 fc0 c1 fc1 c2 fc2 c3 fc3 c4 fc4 d0 fd0 d1 fd1;have hlt_f:=lt_of_block HBf.out;have hlt_a:=lt_of_block HBa.out;have hog:Hid (∀ q,q<0->(fun q=>0) q<x4.heap.size):=Lib.hid (fun q h=>absurd h (Nat.not_lt_zero _));refine R7.region (by kernel_rfl) [[],[],[],[2],[2,3],[2,3,4],[1,2,3,4,5],[0,1,2,3,4,5,6],[0,1,2,3,4,5,6,7]] [] [] (fun q=>0) 0 8 (by kernel_rfl) (by kernel_rfl) (by rfl) hog.out (fun q q' h h' hn=>absurd hn (by omega)) ?_;refine R7.Chain.det ?_ (by rfl) (fun T xs wr hA=>?_) ?_
  rotate_left 1
  ·have e6:=hA.pre 6 (by kernel_rfl);simp only[gsa,gsc,gsz] at e6;have hBq:wr.heap[ka]?=_:=(hA.bl _ hlt_a (fun q h=>absurd h (Nat.not_lt_zero _))).trans HBa.out;have q0:=cell_at (v:=.bool bx) hBq 0 rfl;have q1:=cell_at (v:=.slice ox lx cx) hBq 1 rfl;clear hBq;clear hA;refine⟨(by rfl),?_⟩;go_simp<;>(try with_reducible rfl)
  refine R7.Chain.det ?_ (by rfl) (fun T xs wr hA=>?_) ?_
  rotate_left 1
  ·have e0:=hA.pre 0 (by kernel_rfl);simp only[gsa,gsz] at e0;clear hA;refine⟨(by rfl),?_⟩;go_simp<;>(try with_reducible rfl)
  refine R7.Chain.det ?_ (by rfl) (fun T xs wr hA=>?_) ?_
  rotate_left 1
  ·have e3:=hA.pre 3 (by kernel_rfl);simp only[gsa,gsc,gsz] at e3;clear hA;refine⟨(by rfl),?_⟩;go_simp<;>(try with_reducible rfl)
  refine R7.Chain.det ?_ (by rfl) (fun T xs wr hA=>?_) ?_
  rotate_left 1
  ·have e85:=hA.tm 2 85 (by rfl) (by rfl);have f85:xs 2=_:=hA.fa 2 (by rfl)
   (try simp (disch:=first | rfl | decide) only [R7.mask_in] at f85)
   rw[f85] at e85;clear f85;have hBq:wr.heap[kf]?=_:=(hA.bl _ hlt_f (fun q h=>absurd h (Nat.not_lt_zero _))).trans HBf.out;have q0:=cell_at (v:=.int .i64 2) hBq 0 rfl;have q1:=cell_at (v:=.bool b) hBq 1 rfl;have q2:=cell_at (v:=.slice ao l c) hBq 2 rfl;have q3:=cell_at (v:=.string nm) hBq 3 rfl;have q4:=cell_at (v:=.slice (some a) 2 kc) hBq 4 rfl;clear hBq;clear hA;refine⟨(by rfl),?_⟩;go_simp<;>(try with_reducible rfl)
  refine R7.Chain.det ?_ (by rfl) (fun T xs wr hA=>?_) ?_
  rotate_left 1
  ·have e86:=hA.tm 3 86 (by rfl) (by rfl);have f86:xs 3=_:=hA.fa 3 (by rfl)
   (try simp (disch:=first | rfl | decide) only [R7.mask_in] at f86)
   rw[f86] at e86;clear f86;clear hA;refine⟨(by rfl),?_⟩;go_simp<;>(try with_reducible rfl)
  refine R7.Chain.det ?_ (by rfl) (fun T xs wr hA=>?_) ?_
  rotate_left 1
  ·have e87:=hA.tm 4 87 (by rfl) (by rfl);have f87:xs 4=_:=hA.fa 4 (by rfl)
   (try simp (disch:=first | rfl | decide) only [R7.mask_in] at f87)
   rw[f87] at e87;clear f87;have hbw:=undrew (hA.be x4.heap.size (Nat.le_refl _) (fun q h=>absurd h (Nat.not_lt_zero q)));obtain⟨q0,q1,q2,q3,q4⟩:=HQC.out.below hbw;simp only at q0 q1 q2 q3 q4;clear hA;refine⟨(by rfl),?_⟩;go_simp<;>(try with_reducible rfl)
  refine R7.Chain.call (fun xs v w=>∃ y,v=y/\CI w y (asI (ev (rho env) q)) 600) (fun _ _ _ _ h hb=>by obtain⟨y,h1,h2⟩:=h;exact⟨y,h1,h2.below hb⟩) (fun _ _ _ _ _ _ h _=>by obtain⟨q,hq,_⟩:=h;exact absurd hq (Nat.not_lt_zero _)) (by rfl) (fun T xs wr hA=>?_) ?_
  ·have hsw:=(hA.be 0 (Nat.zero_le _) (fun _ _=>Nat.zero_le _)).size;have e84:=hA.tm 1 84 (by rfl) (by rfl);have f84:xs 1=_:=hA.fa 1 (by rfl)
   (try simp (disch:=first | rfl | decide) only [R7.mask_in] at f84)
   rw[f84] at e84;clear f84;have e88:=hA.tm 5 88 (by rfl) (by rfl);have f88:xs 5=_:=hA.fa 5 (by rfl)
   (try simp (disch:=first | rfl | decide) only [R7.mask_in] at f88)
   rw[f88] at e88;clear f88;have hbw:=undrew (hA.be x4.heap.size (Nat.le_refl _) (fun q h=>absurd h (Nat.not_lt_zero q)));have hfq:=HFQ.out.below hbw;clear hA;refine⟨(by rfl),fun K hK=>?_⟩;go_simp
   refine (IN _ _ env q S _ hfq (HE.out.below hbw) HRQ.out HQ.out HSQ.out).mono ?_;rintro e w' ⟨y,rfl,hy,hb'⟩;exact hK.out _ _ ⟨y,rfl,hy⟩ hb'
  refine R7.Chain.call (fun xs v w=>∃ y,v=y/\CI w y (asI (opV (rho env) 2 z nm [ev (rho env) p,ev (rho env) q])) 600) (fun _ _ _ _ h hb=>by obtain⟨y,h1,h2⟩:=h;exact⟨y,h1,h2.below hb⟩) (fun _ _ _ _ _ _ h _=>by obtain⟨q,hq,_⟩:=h;exact absurd hq (Nat.not_lt_zero _)) (by rfl) (fun T xs wr hA=>?_) ?_
  ·have hsw:=(hA.be 0 (Nat.zero_le _) (fun _ _=>Nat.zero_le _)).size;have e83:=hA.tm 0 83 (by rfl) (by rfl);have f83:xs 0=_:=hA.fa 0 (by rfl)
   (try simp (disch:=first | rfl | decide) only [R7.mask_in] at f83)
   rw[f83] at e83;clear f83;have e89:=hA.tm 6 89 (by rfl) (by rfl);have hbw:=undrew (hA.be x4.heap.size (Nat.le_refl _) (fun q h=>absurd h (Nat.not_lt_zero q)));have hF6:∃ y,(xs 6)=y/\CI wr y (asI (ev (rho env) q)) 600:=hA.fa 6 (by rfl);obtain⟨y6,e6,hy6⟩:=hF6;have hpx:=HPX.out.below hbw;clear hA;refine⟨(by rfl),fun K hK=>?_⟩;go_simp
   refine (wadd_any _ _ X (asI (ev (rho env) q)) 600 600 _ hpx.gi (by first | exact hy6.gi | (rw[e6];exact hy6.gi)) (by decide) (by decide)).mono ?_;rintro e w' ⟨y,rfl,hy,hb'⟩;exact hK.out _ _ ⟨y,rfl,CI.tight (by show CI _ _ (asI (ev (rho env) p)+asI (ev (rho env) q)) _;rw[<-HX0.out];exact hy) HVAL.out⟩ hb'
  refine R7.Chain.done (fun xs x5 hL=>?_);obtain⟨⟨hbe,hbl⟩,hf,-,-⟩:=hL;have f0:xs 0=_:=hf 0 (by decide)
  (try simp (disch:=first | rfl | decide) only [R7.mask_in] at f0)
  have f1:xs 1=_:=hf 1 (by decide)
  (try simp (disch:=first | rfl | decide) only [R7.mask_in] at f1)
  have f2:xs 2=_:=hf 2 (by decide)
  (try simp (disch:=first | rfl | decide) only [R7.mask_in] at f2)
  have f3:xs 3=_:=hf 3 (by decide)
  (try simp (disch:=first | rfl | decide) only [R7.mask_in] at f3)
  have f4:xs 4=_:=hf 4 (by decide)
  (try simp (disch:=first | rfl | decide) only [R7.mask_in] at f4)
  have f5:xs 5=_:=hf 5 (by decide)
  (try simp (disch:=first | rfl | decide) only [R7.mask_in] at f5)
  have F6:∃ y,(xs 6)=y/\CI x5 y (asI (ev (rho env) q)) 600:=hf 6 (by decide);have F7:∃ y,(xs 7)=y/\CI x5 y (asI (opV (rho env) 2 z nm [ev (rho env) p,ev (rho env) q])) 600:=hf 7 (by decide);have hb0:Below 0 x4 x5:=undrew (hbe 0 (Nat.zero_le _) (fun _ _=>Nat.zero_le _));have hgr:∀ j,j<x4.heap.size->(∀ q,q<0->(fun q=>0) q≠j)->x5.heap[j]?=x4.heap[j]?:=hbl;clear hbe hbl hf;have hb:Below x4.heap.size x4 x5:=⟨hb0.os,hb0.tape,hb0.output,hb0.size,fun q hq=>hgr q hq (fun q h=>absurd h (Nat.not_lt_zero _))⟩
  refine R7.rest_list (by decide) (by kernel_rfl) ?_;simp only[R7.fill,t1_,t2_,t3_,t4_,t5_,t6_,t7_,f0,f1,f2,f3,f4,f5];clear hb0 hgr hog hlt_f hlt_a f0 f1 f2 f3 f4 f5;replace HBf:=kBV hb HBf;replace HBr:=kBV hb HBr;replace HBa:=kBV hb HBa;replace HX:=Lib.hid (HX.out.below hb);replace HZ:=Lib.hid (HZ.out.below hb);replace HE:=Lib.hid (HE.out.below hb);replace HW:=Lib.hid (HW.out.trans (hb.mono HW.out.size));replace HFQ:=Lib.hid (HFQ.out.below hb);replace HQC:=Lib.hid (HQC.out.below hb);replace HPX:=Lib.hid (HPX.out.below hb);replace hb:=Lib.hid hb;obtain⟨y,hy1,hy2⟩:=F7;obtain⟨b1,o1,l1,c1,hys⟩:=hy2.shape;rw[hys] at hy1 hy2;have HV:=Lib.hid hy2;obtain⟨r0,r1',fr0,fr1⟩:=cells2V HBr.out;go_wp2_with fail
  obtain⟨r1,r2⟩:=res2V HW.out HBr.out n32_2 HKr.out (.bool b1) (.slice o1 l1 c1)
  (try simp only[Exit.inBlock,Exit.then])
  exact bodyPost_ret (v:=.agg #[.bool b1,.slice o1 l1 c1]) (by simp[results,Try.results62,go_sem,r0,r1']) rfl ⟨_,rfl,((show CI _ _ (asI (ev (rho env) (.node 2 z nm [p,q]))) 600 from by rw[HEV.out];exact HV.out)).fr r1,r2⟩
 ·have HX:=Lib.hid hk;have HZ:=Lib.hid hz;have HE:=Lib.hid he;have HSM:=Lib.hid hsm;have HRS:=Lib.hid hrs;have HW:=Lib.hid (Below.refl w.heap.size w);have HKL0:=Lib.hid hkl;clear hkl hkc;obtain⟨p,rfl,hp⟩:=srts_one (ks:=ks) (s:=0) (by simpa [fitF,kidsOk] using hfit);have HSP:=Lib.hid (hsm.kid p (by simp));have HRP:=Lib.hid (hrs p (by simp));have HP:=Lib.hid hp;have HEV:Hid (asI (ev (rho env) (.node 3 z nm [p]))=asI (opV (rho env) 3 z nm [ev (rho env) p])):=Lib.hid (by rw[ev,evs,evs]);have HVAL:Hid ((asI (opV (rho env) 3 z nm [ev (rho env) p])).natAbs<L32 ^ 600):=Lib.hid (by rw[ev,evs,evs] at hval;exact hval);have hkl1:kl=1:=HKL0.out;subst hkl1;clear hz hk he hsm hrs hval hfit hp HKL0;go_enter Try.func62,Try.ntmps62
  obtain⟨x1,kf,ef,ekf,hbf,hkf,HBf⟩:=newV w #[.int .i64 3,.bool b,.slice ao l c,.string nm,.slice ko 1 kc] 29;replace HX:=Lib.hid (HX.out.below hbf.out);replace HZ:=Lib.hid (HZ.out.below hbf.out);replace HE:=Lib.hid (HE.out.below hbf.out);replace HW:=Lib.hid (HW.out.trans (hbf.out.mono HW.out.size));have HKf0:=hkf;obtain⟨x2,kr,er,ekr,hbr,hkr,HBr⟩:=newV x1 #[.bool false,.slice none 0 0] 26;replace HBf:=kBV hbr.out HBf;replace HX:=Lib.hid (HX.out.below hbr.out);replace HZ:=Lib.hid (HZ.out.below hbr.out);replace HE:=Lib.hid (HE.out.below hbr.out);replace HW:=Lib.hid (HW.out.trans (hbr.out.mono HW.out.size));have HKr:Hid (w.heap.size<=kr):=Lib.hid (Nat.le_trans hbf.out.size hkr.out);have c0:=cell_at (v:=.int .i64 3) HBf.out 0 rfl;have fc0:=froz_at HBf.out 0;have c1:=cell_at (v:=.bool b) HBf.out 1 rfl;have fc1:=froz_at HBf.out 1
  have c2:=cell_at (v:=.slice ao l c) HBf.out 2 rfl;have fc2:=froz_at HBf.out 2;have c3:=cell_at (v:=.string nm) HBf.out 3 rfl;have fc3:=froz_at HBf.out 3;have c4:=cell_at (v:=.slice ko 1 kc) HBf.out 4 rfl;have fc4:=froz_at HBf.out 4;obtain⟨a,bp,op,lp,cp,kop,klp,kcp,hkop,⟨p0,p1,p2,p3,p4⟩,hfp⟩:=HX.out.first;have HFP:=Lib.hid hfp;clear hfp;obtain⟨opp,hopp⟩:∃ x,x=p.op:=⟨_,rfl⟩
  obtain⟨nmp,hnmp⟩:∃ x,x=p.name:=⟨_,rfl⟩
  rw[<-hopp] at p0 HFP;rw[<-hnmp] at p3 HFP;clear hopp hnmp;subst hkop;go_wp2_with fail
  refine (IN _ _ env p S x2 HFP.out HE.out HRP.out HP.out HSP.out).mono ?_;rintro e x3 ⟨x,rfl,hx,hb⟩;clear c0 fc0 c1 fc1 c2 fc2 c3 fc3 c4 fc4 p0 p1 p2 p3 p4;replace HBf:=kBV hb HBf;replace HBr:=kBV hb HBr;replace HX:=Lib.hid (HX.out.below hb);replace HZ:=Lib.hid (HZ.out.below hb);replace HE:=Lib.hid (HE.out.below hb);replace HW:=Lib.hid (HW.out.trans (hb.mono HW.out.size));replace HFP:=Lib.hid (HFP.out.below hb);obtain⟨X,hX⟩:∃ X,X=asI (ev (rho env) p):=⟨_,rfl⟩
  rw[<-hX] at hx;have HX0:=Lib.hid hX;clear hX;obtain⟨bx,ox,lx,cx,rfl⟩:=hx.shape;have HPX:=Lib.hid hx;clear hx HFP;obtain⟨x4,ka,ea,eka,hba,hka,HBa⟩:=newV x3 #[.bool bx,.slice ox lx cx] 26;replace HBf:=kBV hba.out HBf;replace HBr:=kBV hba.out HBr;replace HX:=Lib.hid (HX.out.below hba.out);replace HZ:=Lib.hid (HZ.out.below hba.out);replace HE:=Lib.hid (HE.out.below hba.out);replace HW:=Lib.hid (HW.out.trans (hba.out.mono HW.out.size));replace HPX:=Lib.hid (HPX.out.below hba.out);have c0:=cell_at (v:=.int .i64 3) HBf.out 0 rfl;have fc0:=froz_at HBf.out 0;have c1:=cell_at (v:=.bool b) HBf.out 1 rfl;have fc1:=froz_at HBf.out 1;have c2:=cell_at (v:=.slice ao l c) HBf.out 2 rfl;have fc2:=froz_at HBf.out 2;have c3:=cell_at (v:=.string nm) HBf.out 3 rfl;have fc3:=froz_at HBf.out 3
  have c4:=cell_at (v:=.slice (some a) 1 kc) HBf.out 4 rfl;have fc4:=froz_at HBf.out 4;have d0:=cell_at (v:=.bool bx) HBa.out 0 rfl;have fd0:=froz_at HBa.out 0;have d1:=cell_at (v:=.slice ox lx cx) HBa.out 1 rfl;have fd1:=froz_at HBa.out 1;go_wp2_with fail
  refine (wmul_any _ _ z X 600 600 x4 HZ.out.gi HPX.out.gi (by decide) (by decide)).mono ?_;rintro e x5 ⟨y,rfl,hy,hb⟩;clear c0 fc0 c1 fc1 c2 fc2 c3 fc3 c4 fc4 d0 fd0 d1 fd1;replace HBf:=kBV hb HBf;replace HBr:=kBV hb HBr;replace HBa:=kBV hb HBa;replace HX:=Lib.hid (HX.out.below hb);replace HZ:=Lib.hid (HZ.out.below hb);replace HE:=Lib.hid (HE.out.below hb);replace HW:=Lib.hid (HW.out.trans (hb.mono HW.out.size));replace HPX:=Lib.hid (HPX.out.below hb);obtain⟨b1,o1,l1,c1,rfl⟩:=hy.shape;have HV:=Lib.hid (CI.tight (z:=asI (opV (rho env) 3 z nm [ev (rho env) p])) (by show CI _ _ (z*asI (ev (rho env) p)) _;rw[<-HX0.out];exact hy) HVAL.out);clear hy;obtain⟨r0,r1',fr0,fr1⟩:=cells2V HBr.out;go_wp2_with fail
  obtain⟨r1,r2⟩:=res2V HW.out HBr.out n32_2 HKr.out (.bool b1) (.slice o1 l1 c1)
  (try simp only[Exit.inBlock,Exit.then])
  exact bodyPost_ret (v:=.agg #[.bool b1,.slice o1 l1 c1]) (by simp[results,Try.results62,go_sem,r0,r1']) rfl ⟨_,rfl,((show CI _ _ (asI (ev (rho env) (.node 3 z nm [p]))) 600 from by rw[HEV.out];exact HV.out)).fr r1,r2⟩
 ·have HX:=Lib.hid hk;have HZ:=Lib.hid hz;have HE:=Lib.hid he;have HSM:=Lib.hid hsm;have HRS:=Lib.hid hrs;have HW:=Lib.hid (Below.refl w.heap.size w);have HKL0:=Lib.hid hkl;clear hkl hkc;obtain⟨p,q,rfl,hp,hq⟩:=srts_two (ks:=ks) (s:=0) (r:=0) (by simpa [fitF,kidsOk] using hfit);have HSP:=Lib.hid (hsm.kid p (by simp));have HRP:=Lib.hid (hrs p (by simp));have HP:=Lib.hid hp;have HSQ:=Lib.hid (hsm.kid q (by simp));have HRQ:=Lib.hid (hrs q (by simp));have HQ:=Lib.hid hq;have HEV:Hid (asI (ev (rho env) (.node 4 z nm [p,q]))=asI (opV (rho env) 4 z nm [ev (rho env) p,ev (rho env) q])):=Lib.hid (by rw[ev,evs,evs,evs]);have HVAL:Hid ((asI (opV (rho env) 4 z nm [ev (rho env) p,ev (rho env) q])).natAbs<L32 ^ 600):=Lib.hid (by rw[ev,evs,evs,evs] at hval;exact hval);have hkl1:kl=2:=HKL0.out;subst hkl1
  clear hz hk he hsm hrs hval hfit hp HKL0 hq;go_enter Try.func62,Try.ntmps62
  obtain⟨x1,kf,ef,ekf,hbf,hkf,HBf⟩:=newV w #[.int .i64 4,.bool b,.slice ao l c,.string nm,.slice ko 2 kc] 29;replace HX:=Lib.hid (HX.out.below hbf.out);replace HZ:=Lib.hid (HZ.out.below hbf.out);replace HE:=Lib.hid (HE.out.below hbf.out);replace HW:=Lib.hid (HW.out.trans (hbf.out.mono HW.out.size));have HKf0:=hkf;obtain⟨x2,kr,er,ekr,hbr,hkr,HBr⟩:=newV x1 #[.bool false,.slice none 0 0] 26;replace HBf:=kBV hbr.out HBf;replace HX:=Lib.hid (HX.out.below hbr.out);replace HZ:=Lib.hid (HZ.out.below hbr.out);replace HE:=Lib.hid (HE.out.below hbr.out);replace HW:=Lib.hid (HW.out.trans (hbr.out.mono HW.out.size));have HKr:Hid (w.heap.size<=kr):=Lib.hid (Nat.le_trans hbf.out.size hkr.out);have c0:=cell_at (v:=.int .i64 4) HBf.out 0 rfl;have fc0:=froz_at HBf.out 0;have c1:=cell_at (v:=.bool b) HBf.out 1 rfl;have fc1:=froz_at HBf.out 1
  have c2:=cell_at (v:=.slice ao l c) HBf.out 2 rfl;have fc2:=froz_at HBf.out 2;have c3:=cell_at (v:=.string nm) HBf.out 3 rfl;have fc3:=froz_at HBf.out 3;have c4:=cell_at (v:=.slice ko 2 kc) HBf.out 4 rfl;have fc4:=froz_at HBf.out 4;obtain⟨a,bp,op,lp,cp,kop,klp,kcp,hkop,⟨p0,p1,p2,p3,p4⟩,hfp⟩:=HX.out.first;have HFP:=Lib.hid hfp;clear hfp;obtain⟨opp,hopp⟩:∃ x,x=p.op:=⟨_,rfl⟩
  obtain⟨nmp,hnmp⟩:∃ x,x=p.name:=⟨_,rfl⟩
  rw[<-hopp] at p0 HFP;rw[<-hnmp] at p3 HFP;clear hopp hnmp;obtain⟨a2,bq,oq,lq,cq,koq,klq,kcq,hkoq,⟨q0,q1,q2,q3,q4⟩,hfq⟩:=HX.out.second;have HFQ:=Lib.hid hfq;clear hfq;obtain⟨opq,hopq⟩:∃ x,x=q.op:=⟨_,rfl⟩
  obtain⟨nmq,hnmq⟩:∃ x,x=q.name:=⟨_,rfl⟩
  rw[<-hopq] at q0 HFQ;rw[<-hnmq] at q3 HFQ;clear hopq hnmq;have HQC:Hid (At5 x2 ⟨a2.block,a2.off+5,none⟩ opq bq oq lq cq nmq koq klq kcq):=Lib.hid ⟨q0,q1,q2,q3,q4⟩;subst hkop;injection hkoq with ha2;subst ha2;go_wp2_with fail
  refine (IN _ _ env p S x2 HFP.out HE.out HRP.out HP.out HSP.out).mono ?_;rintro e x3 ⟨x,rfl,hx,hb⟩;clear c0 fc0 c1 fc1 c2 fc2 c3 fc3 c4 fc4 p0 p1 p2 p3 p4 q0 q1 q2 q3 q4;replace HBf:=kBV hb HBf;replace HBr:=kBV hb HBr;replace HX:=Lib.hid (HX.out.below hb);replace HZ:=Lib.hid (HZ.out.below hb);replace HE:=Lib.hid (HE.out.below hb);replace HW:=Lib.hid (HW.out.trans (hb.mono HW.out.size));replace HFP:=Lib.hid (HFP.out.below hb);replace HFQ:=Lib.hid (HFQ.out.below hb);replace HQC:=Lib.hid (HQC.out.below hb);obtain⟨X,hX⟩:∃ X,X=asI (ev (rho env) p):=⟨_,rfl⟩
  rw[<-hX] at hx;have HX0:=Lib.hid hX;clear hX;obtain⟨bx,ox,lx,cx,rfl⟩:=hx.shape;have HPX:=Lib.hid hx;clear hx HFP;obtain⟨x4,ka,ea,eka,hba,hka,HBa⟩:=newV x3 #[.bool bx,.slice ox lx cx] 26;replace HBf:=kBV hba.out HBf;replace HBr:=kBV hba.out HBr;replace HX:=Lib.hid (HX.out.below hba.out);replace HZ:=Lib.hid (HZ.out.below hba.out);replace HE:=Lib.hid (HE.out.below hba.out);replace HW:=Lib.hid (HW.out.trans (hba.out.mono HW.out.size));replace HFQ:=Lib.hid (HFQ.out.below hba.out);replace HQC:=Lib.hid (HQC.out.below hba.out);replace HPX:=Lib.hid (HPX.out.below hba.out);have c0:=cell_at (v:=.int .i64 4) HBf.out 0 rfl;have fc0:=froz_at HBf.out 0;have c1:=cell_at (v:=.bool b) HBf.out 1 rfl;have fc1:=froz_at HBf.out 1;have c2:=cell_at (v:=.slice ao l c) HBf.out 2 rfl;have fc2:=froz_at HBf.out 2
  have c3:=cell_at (v:=.string nm) HBf.out 3 rfl;have fc3:=froz_at HBf.out 3;have c4:=cell_at (v:=.slice (some a) 2 kc) HBf.out 4 rfl;have fc4:=froz_at HBf.out 4;have d0:=cell_at (v:=.bool bx) HBa.out 0 rfl;have fd0:=froz_at HBa.out 0;have d1:=cell_at (v:=.slice ox lx cx) HBa.out 1 rfl;have fd1:=froz_at HBa.out 1;go_upto_region 21 with fail
  clear c0 fc0 c1 fc1 c2 fc2 c3 fc3 c4 fc4 d0 fd0 d1 fd1;have hlt_f:=lt_of_block HBf.out;have hlt_a:=lt_of_block HBa.out;have hog:Hid (∀ q,q<0->(fun q=>0) q<x4.heap.size):=Lib.hid (fun q h=>absurd h (Nat.not_lt_zero _));refine R7.region (by kernel_rfl) [[],[],[],[2],[2,3],[2,3,4],[1,2,3,4,5],[0,1,2,3,4,5,6],[0,1,2,3,4,5,6,7]] [] [] (fun q=>0) 0 8 (by kernel_rfl) (by kernel_rfl) (by rfl) hog.out (fun q q' h h' hn=>absurd hn (by omega)) ?_;refine R7.Chain.det ?_ (by rfl) (fun T xs wr hA=>?_) ?_
  rotate_left 1
  ·have e6:=hA.pre 6 (by kernel_rfl);simp only[gsa,gsc,gsz] at e6;have hBq:wr.heap[ka]?=_:=(hA.bl _ hlt_a (fun q h=>absurd h (Nat.not_lt_zero _))).trans HBa.out;have q0:=cell_at (v:=.bool bx) hBq 0 rfl;have q1:=cell_at (v:=.slice ox lx cx) hBq 1 rfl;clear hBq;clear hA;refine⟨(by rfl),?_⟩;go_simp<;>(try with_reducible rfl)
  refine R7.Chain.det ?_ (by rfl) (fun T xs wr hA=>?_) ?_
  rotate_left 1
  ·have e0:=hA.pre 0 (by kernel_rfl);simp only[gsa,gsz] at e0;clear hA;refine⟨(by rfl),?_⟩;go_simp<;>(try with_reducible rfl)
  refine R7.Chain.det ?_ (by rfl) (fun T xs wr hA=>?_) ?_
  rotate_left 1
  ·have e3:=hA.pre 3 (by kernel_rfl);simp only[gsa,gsc,gsz] at e3;clear hA;refine⟨(by rfl),?_⟩;go_simp<;>(try with_reducible rfl)
  refine R7.Chain.det ?_ (by rfl) (fun T xs wr hA=>?_) ?_
  rotate_left 1
  ·have e77:=hA.tm 2 77 (by rfl) (by rfl);have f77:xs 2=_:=hA.fa 2 (by rfl)
   (try simp (disch:=first | rfl | decide) only [R7.mask_in] at f77)
   rw[f77] at e77;clear f77;have hBq:wr.heap[kf]?=_:=(hA.bl _ hlt_f (fun q h=>absurd h (Nat.not_lt_zero _))).trans HBf.out;have q0:=cell_at (v:=.int .i64 4) hBq 0 rfl;have q1:=cell_at (v:=.bool b) hBq 1 rfl;have q2:=cell_at (v:=.slice ao l c) hBq 2 rfl;have q3:=cell_at (v:=.string nm) hBq 3 rfl;have q4:=cell_at (v:=.slice (some a) 2 kc) hBq 4 rfl;clear hBq;clear hA;refine⟨(by rfl),?_⟩;go_simp<;>(try with_reducible rfl)
  refine R7.Chain.det ?_ (by rfl) (fun T xs wr hA=>?_) ?_
  rotate_left 1
  ·have e78:=hA.tm 3 78 (by rfl) (by rfl);have f78:xs 3=_:=hA.fa 3 (by rfl)
   (try simp (disch:=first | rfl | decide) only [R7.mask_in] at f78)
   rw[f78] at e78;clear f78;clear hA;refine⟨(by rfl),?_⟩;go_simp<;>(try with_reducible rfl)
  refine R7.Chain.det ?_ (by rfl) (fun T xs wr hA=>?_) ?_
  rotate_left 1
  ·have e79:=hA.tm 4 79 (by rfl) (by rfl);have f79:xs 4=_:=hA.fa 4 (by rfl)
   (try simp (disch:=first | rfl | decide) only [R7.mask_in] at f79)
   rw[f79] at e79;clear f79;have hbw:=undrew (hA.be x4.heap.size (Nat.le_refl _) (fun q h=>absurd h (Nat.not_lt_zero q)));obtain⟨q0,q1,q2,q3,q4⟩:=HQC.out.below hbw;simp only at q0 q1 q2 q3 q4;clear hA;refine⟨(by rfl),?_⟩;go_simp<;>(try with_reducible rfl)
  refine R7.Chain.call (fun xs v w=>∃ y,v=y/\CI w y (asI (ev (rho env) q)) 600) (fun _ _ _ _ h hb=>by obtain⟨y,h1,h2⟩:=h;exact⟨y,h1,h2.below hb⟩) (fun _ _ _ _ _ _ h _=>by obtain⟨q,hq,_⟩:=h;exact absurd hq (Nat.not_lt_zero _)) (by rfl) (fun T xs wr hA=>?_) ?_
  ·have hsw:=(hA.be 0 (Nat.zero_le _) (fun _ _=>Nat.zero_le _)).size;have e76:=hA.tm 1 76 (by rfl) (by rfl);have f76:xs 1=_:=hA.fa 1 (by rfl)
   (try simp (disch:=first | rfl | decide) only [R7.mask_in] at f76)
   rw[f76] at e76;clear f76;have e80:=hA.tm 5 80 (by rfl) (by rfl);have f80:xs 5=_:=hA.fa 5 (by rfl)
   (try simp (disch:=first | rfl | decide) only [R7.mask_in] at f80)
   rw[f80] at e80;clear f80;have hbw:=undrew (hA.be x4.heap.size (Nat.le_refl _) (fun q h=>absurd h (Nat.not_lt_zero q)));have hfq:=HFQ.out.below hbw;clear hA;refine⟨(by rfl),fun K hK=>?_⟩;go_simp
   refine (IN _ _ env q S _ hfq (HE.out.below hbw) HRQ.out HQ.out HSQ.out).mono ?_;rintro e w' ⟨y,rfl,hy,hb'⟩;exact hK.out _ _ ⟨y,rfl,hy⟩ hb'
  refine R7.Chain.call (fun xs v w=>∃ y,v=y/\CI w y (asI (opV (rho env) 4 z nm [ev (rho env) p,ev (rho env) q])) 600) (fun _ _ _ _ h hb=>by obtain⟨y,h1,h2⟩:=h;exact⟨y,h1,h2.below hb⟩) (fun _ _ _ _ _ _ h _=>by obtain⟨q,hq,_⟩:=h;exact absurd hq (Nat.not_lt_zero _)) (by rfl) (fun T xs wr hA=>?_) ?_
  ·have hsw:=(hA.be 0 (Nat.zero_le _) (fun _ _=>Nat.zero_le _)).size;have e75:=hA.tm 0 75 (by rfl) (by rfl);have f75:xs 0=_:=hA.fa 0 (by rfl)
   (try simp (disch:=first | rfl | decide) only [R7.mask_in] at f75)
   rw[f75] at e75;clear f75;have e81:=hA.tm 6 81 (by rfl) (by rfl);have hbw:=undrew (hA.be x4.heap.size (Nat.le_refl _) (fun q h=>absurd h (Nat.not_lt_zero q)));have hF6:∃ y,(xs 6)=y/\CI wr y (asI (ev (rho env) q)) 600:=hA.fa 6 (by rfl);obtain⟨y6,e6,hy6⟩:=hF6;have hpx:=HPX.out.below hbw;clear hA;refine⟨(by rfl),fun K hK=>?_⟩;go_simp
   refine (wmul_any _ _ X (asI (ev (rho env) q)) 600 600 _ hpx.gi (by first | exact hy6.gi | (rw[e6];exact hy6.gi)) (by decide) (by decide)).mono ?_;rintro e w' ⟨y,rfl,hy,hb'⟩;exact hK.out _ _ ⟨y,rfl,CI.tight (by show CI _ _ (asI (ev (rho env) p)*asI (ev (rho env) q)) _;rw[<-HX0.out];exact hy) HVAL.out⟩ hb'
  refine R7.Chain.done (fun xs x5 hL=>?_);obtain⟨⟨hbe,hbl⟩,hf,-,-⟩:=hL;have f0:xs 0=_:=hf 0 (by decide)
  (try simp (disch:=first | rfl | decide) only [R7.mask_in] at f0)
  have f1:xs 1=_:=hf 1 (by decide)
  (try simp (disch:=first | rfl | decide) only [R7.mask_in] at f1)
  have f2:xs 2=_:=hf 2 (by decide)
  (try simp (disch:=first | rfl | decide) only [R7.mask_in] at f2)
  have f3:xs 3=_:=hf 3 (by decide)
  (try simp (disch:=first | rfl | decide) only [R7.mask_in] at f3)
  have f4:xs 4=_:=hf 4 (by decide)
  (try simp (disch:=first | rfl | decide) only [R7.mask_in] at f4)
  have f5:xs 5=_:=hf 5 (by decide)
  (try simp (disch:=first | rfl | decide) only [R7.mask_in] at f5)
  have F6:∃ y,(xs 6)=y/\CI x5 y (asI (ev (rho env) q)) 600:=hf 6 (by decide);have F7:∃ y,(xs 7)=y/\CI x5 y (asI (opV (rho env) 4 z nm [ev (rho env) p,ev (rho env) q])) 600:=hf 7 (by decide);have hb0:Below 0 x4 x5:=undrew (hbe 0 (Nat.zero_le _) (fun _ _=>Nat.zero_le _));have hgr:∀ j,j<x4.heap.size->(∀ q,q<0->(fun q=>0) q≠j)->x5.heap[j]?=x4.heap[j]?:=hbl;clear hbe hbl hf;have hb:Below x4.heap.size x4 x5:=⟨hb0.os,hb0.tape,hb0.output,hb0.size,fun q hq=>hgr q hq (fun q h=>absurd h (Nat.not_lt_zero _))⟩
  refine R7.rest_list (by decide) (by kernel_rfl) ?_;simp only[R7.fill,t1_,t2_,t3_,t4_,t5_,t6_,t7_,f0,f1,f2,f3,f4,f5];clear hb0 hgr hog hlt_f hlt_a f0 f1 f2 f3 f4 f5;replace HBf:=kBV hb HBf;replace HBr:=kBV hb HBr;replace HBa:=kBV hb HBa;replace HX:=Lib.hid (HX.out.below hb);replace HZ:=Lib.hid (HZ.out.below hb);replace HE:=Lib.hid (HE.out.below hb);replace HW:=Lib.hid (HW.out.trans (hb.mono HW.out.size));replace HFQ:=Lib.hid (HFQ.out.below hb);replace HQC:=Lib.hid (HQC.out.below hb);replace HPX:=Lib.hid (HPX.out.below hb);replace hb:=Lib.hid hb;obtain⟨y,hy1,hy2⟩:=F7;obtain⟨b1,o1,l1,c1,hys⟩:=hy2.shape;rw[hys] at hy1 hy2;have HV:=Lib.hid hy2;obtain⟨r0,r1',fr0,fr1⟩:=cells2V HBr.out;go_wp2_with fail
  obtain⟨r1,r2⟩:=res2V HW.out HBr.out n32_2 HKr.out (.bool b1) (.slice o1 l1 c1)
  (try simp only[Exit.inBlock,Exit.then])
  exact bodyPost_ret (v:=.agg #[.bool b1,.slice o1 l1 c1]) (by simp[results,Try.results62,go_sem,r0,r1']) rfl ⟨_,rfl,((show CI _ _ (asI (ev (rho env) (.node 4 z nm [p,q]))) 600 from by rw[HEV.out];exact HV.out)).fr r1,r2⟩
 ·have HX:=Lib.hid hk;have HZ:=Lib.hid hz;have HE:=Lib.hid he;have HSM:=Lib.hid hsm;have HRS:=Lib.hid hrs;have HW:=Lib.hid (Below.refl w.heap.size w);have HKL0:=Lib.hid hkl;clear hkl hkc;obtain⟨p,rfl,hp⟩:=srts_one (ks:=ks) (s:=0) (by simp[fitF,kidsOk] at hfit;exact hfit.1);have HSP:=Lib.hid (hsm.kid p (by simp));have HRP:=Lib.hid (hrs p (by simp));have HP:=Lib.hid hp;have HEV:Hid (asI (ev (rho env) (.node 5 z nm [p]))=asI (opV (rho env) 5 z nm [ev (rho env) p])):=Lib.hid (by rw[ev,evs,evs]);have HVAL:Hid ((asI (opV (rho env) 5 z nm [ev (rho env) p])).natAbs<L32 ^ 600):=Lib.hid (by rw[ev,evs,evs] at hval;exact hval);have HZ1:Hid (1<=z):=Lib.hid (by simp[fitF,kidsOk] at hfit;exact hfit.2);have hkl1:kl=1:=HKL0.out;subst hkl1;clear hz hk he hsm hrs hval hfit hp HKL0;go_enter Try.func62,Try.ntmps62
  obtain⟨x1,kf,ef,ekf,hbf,hkf,HBf⟩:=newV w #[.int .i64 5,.bool b,.slice ao l c,.string nm,.slice ko 1 kc] 29;replace HX:=Lib.hid (HX.out.below hbf.out);replace HZ:=Lib.hid (HZ.out.below hbf.out);replace HE:=Lib.hid (HE.out.below hbf.out);replace HW:=Lib.hid (HW.out.trans (hbf.out.mono HW.out.size));have HKf0:=hkf;obtain⟨x2,kr,er,ekr,hbr,hkr,HBr⟩:=newV x1 #[.bool false,.slice none 0 0] 26;replace HBf:=kBV hbr.out HBf;replace HX:=Lib.hid (HX.out.below hbr.out);replace HZ:=Lib.hid (HZ.out.below hbr.out);replace HE:=Lib.hid (HE.out.below hbr.out);replace HW:=Lib.hid (HW.out.trans (hbr.out.mono HW.out.size));have HKr:Hid (w.heap.size<=kr):=Lib.hid (Nat.le_trans hbf.out.size hkr.out);have c0:=cell_at (v:=.int .i64 5) HBf.out 0 rfl;have fc0:=froz_at HBf.out 0;have c1:=cell_at (v:=.bool b) HBf.out 1 rfl;have fc1:=froz_at HBf.out 1
  have c2:=cell_at (v:=.slice ao l c) HBf.out 2 rfl;have fc2:=froz_at HBf.out 2;have c3:=cell_at (v:=.string nm) HBf.out 3 rfl;have fc3:=froz_at HBf.out 3;have c4:=cell_at (v:=.slice ko 1 kc) HBf.out 4 rfl;have fc4:=froz_at HBf.out 4;obtain⟨a,bp,op,lp,cp,kop,klp,kcp,hkop,⟨p0,p1,p2,p3,p4⟩,hfp⟩:=HX.out.first;have HFP:=Lib.hid hfp;clear hfp;obtain⟨opp,hopp⟩:∃ x,x=p.op:=⟨_,rfl⟩
  obtain⟨nmp,hnmp⟩:∃ x,x=p.name:=⟨_,rfl⟩
  rw[<-hopp] at p0 HFP;rw[<-hnmp] at p3 HFP;clear hopp hnmp;subst hkop;go_wp2_with fail
  refine (IN _ _ env p S x2 HFP.out HE.out HRP.out HP.out HSP.out).mono ?_;rintro e x3 ⟨x,rfl,hx,hb⟩;clear c0 fc0 c1 fc1 c2 fc2 c3 fc3 c4 fc4 p0 p1 p2 p3 p4;replace HBf:=kBV hb HBf;replace HBr:=kBV hb HBr;replace HX:=Lib.hid (HX.out.below hb);replace HZ:=Lib.hid (HZ.out.below hb);replace HE:=Lib.hid (HE.out.below hb);replace HW:=Lib.hid (HW.out.trans (hb.mono HW.out.size));replace HFP:=Lib.hid (HFP.out.below hb);obtain⟨X,hX⟩:∃ X,X=asI (ev (rho env) p):=⟨_,rfl⟩
  rw[<-hX] at hx;have HX0:=Lib.hid hX;clear hX;obtain⟨bx,ox,lx,cx,rfl⟩:=hx.shape;have HPX:=Lib.hid hx;clear hx HFP;obtain⟨x4,ka,ea,eka,hba,hka,HBa⟩:=newV x3 #[.bool bx,.slice ox lx cx] 26;replace HBf:=kBV hba.out HBf;replace HBr:=kBV hba.out HBr;replace HX:=Lib.hid (HX.out.below hba.out);replace HZ:=Lib.hid (HZ.out.below hba.out);replace HE:=Lib.hid (HE.out.below hba.out);replace HW:=Lib.hid (HW.out.trans (hba.out.mono HW.out.size));replace HPX:=Lib.hid (HPX.out.below hba.out);have c0:=cell_at (v:=.int .i64 5) HBf.out 0 rfl;have fc0:=froz_at HBf.out 0;have c1:=cell_at (v:=.bool b) HBf.out 1 rfl;have fc1:=froz_at HBf.out 1;have c2:=cell_at (v:=.slice ao l c) HBf.out 2 rfl;have fc2:=froz_at HBf.out 2;have c3:=cell_at (v:=.string nm) HBf.out 3 rfl;have fc3:=froz_at HBf.out 3
  have c4:=cell_at (v:=.slice (some a) 1 kc) HBf.out 4 rfl;have fc4:=froz_at HBf.out 4;have d0:=cell_at (v:=.bool bx) HBa.out 0 rfl;have fd0:=froz_at HBa.out 0;have d1:=cell_at (v:=.slice ox lx cx) HBa.out 1 rfl;have fd1:=froz_at HBa.out 1;go_wp2_with fail
  refine (wdiv_any _ _ X z 600 600 x4 HPX.out.gi HZ.out.gi (by decide) (by decide) (by have:=HZ1.out;omega)).mono ?_;rintro e x5 ⟨y,r,rfl,hy,hr,hb⟩;clear c0 fc0 c1 fc1 c2 fc2 c3 fc3 c4 fc4 d0 fd0 d1 fd1;replace HBf:=kBV hb HBf;replace HBr:=kBV hb HBr;replace HBa:=kBV hb HBa;replace HX:=Lib.hid (HX.out.below hb);replace HZ:=Lib.hid (HZ.out.below hb);replace HE:=Lib.hid (HE.out.below hb);replace HW:=Lib.hid (HW.out.trans (hb.mono HW.out.size));replace HPX:=Lib.hid (HPX.out.below hb);obtain⟨b1,o1,l1,c1,rfl⟩:=hy.shape;obtain⟨b2,o2,l2,c2,rfl⟩:=hr.shape;have HV:=Lib.hid (CI.tight (z:=asI (opV (rho env) 5 z nm [ev (rho env) p])) (by show CI _ _ (Int.fdiv (asI (ev (rho env) p)) z) _;rw[<-HX0.out];exact hy) HVAL.out);clear hy hr;have hru:=lt_of_block HBr.out;obtain⟨x6,ku,eu,eku,hbu,hku,HBu⟩:=newV x5 #[.bool false,.slice none 0 0] 26
  replace HBf:=kBV hbu.out HBf;replace HBr:=kBV hbu.out HBr;replace HBa:=kBV hbu.out HBa;replace HX:=Lib.hid (HX.out.below hbu.out);replace HZ:=Lib.hid (HZ.out.below hbu.out);replace HE:=Lib.hid (HE.out.below hbu.out);replace HW:=Lib.hid (HW.out.trans (hbu.out.mono HW.out.size));replace HPX:=Lib.hid (HPX.out.below hbu.out);replace HV:=Lib.hid (HV.out.below hbu.out);rw[eku] at hru;have huv:=lt_of_block HBu.out;have HKu:Hid (w.heap.size<=ku):=Lib.hid (Nat.le_trans HKr.out (Nat.le_of_lt hru));obtain⟨x7,kt,et,ekt,hbt,hkt,HBt⟩:=newV x6 #[.bool false,.slice none 0 0] 26;replace HBf:=kBV hbt.out HBf;replace HBr:=kBV hbt.out HBr;replace HBa:=kBV hbt.out HBa;replace HBu:=kBV hbt.out HBu;replace HX:=Lib.hid (HX.out.below hbt.out);replace HZ:=Lib.hid (HZ.out.below hbt.out);replace HE:=Lib.hid (HE.out.below hbt.out)
  replace HW:=Lib.hid (HW.out.trans (hbt.out.mono HW.out.size));replace HPX:=Lib.hid (HPX.out.below hbt.out);replace HV:=Lib.hid (HV.out.below hbt.out);rw[ekt] at huv;have HKt:Hid (w.heap.size<=kt):=Lib.hid (Nat.le_trans HKu.out (Nat.le_of_lt huv));have hrv:=Nat.lt_trans hru huv;have n1:ku≠kt:=by omega
  have n2:kt≠ku:=by omega
  have n3:kr≠ku:=by omega
  have n4:kr≠kt:=by omega
  have n5:ku≠kr:=by omega
  have n6:kt≠kr:=by omega
  have HRU:=Lib.hid hru;have HRV:=Lib.hid hrv;have HUV:=Lib.hid huv;clear hru hrv huv;obtain⟨u0,u1,fu0,fu1⟩:=cells2V HBu.out;obtain⟨v0,v1,fv0,fv1⟩:=cells2V HBt.out;obtain⟨r0,r1',fr0,fr1⟩:=cells2V HBr.out;go_wp2_with fail
  obtain⟨s1,s2⟩:=res2V HW.out HBu.out n32_2 HKu.out (.bool b1) (.slice o1 l1 c1);obtain⟨W1,hW1⟩:∃ q,q=(x7.setCell ⟨ku,0,none⟩ (.bool b1)).setCell ⟨ku,1,none⟩ (.slice o1 l1 c1):=⟨_,rfl⟩
  have hg1:x7.grownBy W1 (some ku):=by rw[hW1];exact grown2V _ _
  rw[<-hW1] at s1 s2 ⊢;have HBt1:=(hg1.block kt (lt_of_block HBt.out) (fun e=>by injection e with e;exact n2 e)).trans HBt.out;have HBr1:=(hg1.block kr (lt_of_block HBr.out) (fun e=>by injection e with e;exact n3 e)).trans HBr.out;obtain⟨s3,s4⟩:=res2V s2 HBt1 n32_2 HKt.out (.bool b2) (.slice o2 l2 c2);obtain⟨W2,hW2⟩:∃ q,q=(W1.setCell ⟨kt,0,none⟩ (.bool b2)).setCell ⟨kt,1,none⟩ (.slice o2 l2 c2):=⟨_,rfl⟩
  have hg2:W1.grownBy W2 (some kt):=by rw[hW2];exact grown2V _ _
  rw[<-hW2] at s3 s4 ⊢;have HBr2:=(hg2.block kr (lt_of_block HBr1) (fun e=>by injection e with e;exact n4 e)).trans HBr1;obtain⟨q0,q1,-,-⟩:=cells2V HBr2;obtain⟨r1,r2⟩:=res2V s4 HBr2 n32_2 HKr.out (.bool b1) (.slice o1 l1 c1)
  (try simp only[Exit.inBlock,Exit.then])
  exact bodyPost_ret (v:=.agg #[.bool b1,.slice o1 l1 c1]) (by simp[results,Try.results62,go_sem,q0,q1]) rfl ⟨_,rfl,(((show CI _ _ (asI (ev (rho env) (.node 5 z nm [p]))) 600 from by rw[HEV.out];exact HV.out).fr s1).fr s3).fr r1,r2⟩
 ·have HX:=Lib.hid hk;have HZ:=Lib.hid hz;have HE:=Lib.hid he;have HSM:=Lib.hid hsm;have HRS:=Lib.hid hrs;have HW:=Lib.hid (Below.refl w.heap.size w);have HKL0:=Lib.hid hkl;clear hkl hkc;obtain⟨p,rfl,hp⟩:=srts_one (ks:=ks) (s:=2) (by simpa [fitF,kidsOk] using hfit);have HSP:=Lib.hid (hsm.kid p (by simp));have HRP:=Lib.hid (hrs p (by simp));have HP:=Lib.hid hp;have hx2:=ev_list (r:=rho env) hp;have HEV:Hid (asI (ev (rho env) (.node 6 z nm [p]))=asI (opV (rho env) 6 z nm [ev (rho env) p])):=Lib.hid (by rw[ev,evs,evs]);have HVAL:=Lib.hid hval;have HX2:=Lib.hid hx2;have HKL:Hid ((asL (ev (rho env) p)).length<=1000/\∀ z ∈ asL (ev (rho env) p),z.natAbs<L32 ^ 600):=Lib.hid (by have:=(hsm.kid p (by simp)).val;rw[hx2] at this;exact this);have hkl1:kl=1:=HKL0.out;subst hkl1;clear hz hk he hsm hrs hval hfit hp hx2 HKL0
  go_enter Try.func62,Try.ntmps62
  obtain⟨x1,kf,ef,ekf,hbf,hkf,HBf⟩:=newV w #[.int .i64 6,.bool b,.slice ao l c,.string nm,.slice ko 1 kc] 29;replace HX:=Lib.hid (HX.out.below hbf.out);replace HZ:=Lib.hid (HZ.out.below hbf.out);replace HE:=Lib.hid (HE.out.below hbf.out);replace HW:=Lib.hid (HW.out.trans (hbf.out.mono HW.out.size));have HKf0:=hkf;obtain⟨x2,kr,er,ekr,hbr,hkr,HBr⟩:=newV x1 #[.bool false,.slice none 0 0] 26;replace HBf:=kBV hbr.out HBf;replace HX:=Lib.hid (HX.out.below hbr.out);replace HZ:=Lib.hid (HZ.out.below hbr.out);replace HE:=Lib.hid (HE.out.below hbr.out);replace HW:=Lib.hid (HW.out.trans (hbr.out.mono HW.out.size));have HKr:Hid (w.heap.size<=kr):=Lib.hid (Nat.le_trans hbf.out.size hkr.out);have c0:=cell_at (v:=.int .i64 6) HBf.out 0 rfl;have fc0:=froz_at HBf.out 0;have c1:=cell_at (v:=.bool b) HBf.out 1 rfl;have fc1:=froz_at HBf.out 1
  have c2:=cell_at (v:=.slice ao l c) HBf.out 2 rfl;have fc2:=froz_at HBf.out 2;have c3:=cell_at (v:=.string nm) HBf.out 3 rfl;have fc3:=froz_at HBf.out 3;have c4:=cell_at (v:=.slice ko 1 kc) HBf.out 4 rfl;have fc4:=froz_at HBf.out 4;obtain⟨a,bp,op,lp,cp,kop,klp,kcp,hkop,⟨p0,p1,p2,p3,p4⟩,hfp⟩:=HX.out.first;have HFP:=Lib.hid hfp;clear hfp;obtain⟨opp,hopp⟩:∃ x,x=p.op:=⟨_,rfl⟩
  obtain⟨nmp,hnmp⟩:∃ x,x=p.name:=⟨_,rfl⟩
  rw[<-hopp] at p0 HFP;rw[<-hnmp] at p3 HFP;clear hopp hnmp;subst hkop;go_wp2_with fail
  refine (IL _ _ env p S x2 HFP.out HE.out HRP.out HP.out HSP.out).mono ?_;rintro e x3 ⟨x,rfl,hx,hb⟩;clear c0 fc0 c1 fc1 c2 fc2 c3 fc3 c4 fc4 p0 p1 p2 p3 p4;replace HBf:=kBV hb HBf;replace HBr:=kBV hb HBr;replace HX:=Lib.hid (HX.out.below hb);replace HZ:=Lib.hid (HZ.out.below hb);replace HE:=Lib.hid (HE.out.below hb);replace HW:=Lib.hid (HW.out.trans (hb.mono HW.out.size));replace HFP:=Lib.hid (HFP.out.below hb);obtain⟨L,hL⟩:∃ L,L=asL (ev (rho env) p):=⟨_,rfl⟩
  rw[<-hL] at hx;have HL:=Lib.hid hL;have HKL2:=HKL.out;rw[<-hL] at HKL2;clear HFP hL;obtain⟨xo,xc,rfl,⟨hx1,hx2⟩,hxc⟩:=hx.form;have hxm:xc<=9223372036854775807:=hx2;have HLX:=Lib.hid hx;clear hx;clear hxc;go_wp2_with fail
  refine (wof_any (L.length:Nat) x3 (by omega) (by have:=HKL2.1;omega)).mono ?_;rintro e x4 ⟨x,rfl,hx,hb⟩;replace HBf:=kBV hb HBf;replace HBr:=kBV hb HBr;replace HX:=Lib.hid (HX.out.below hb);replace HZ:=Lib.hid (HZ.out.below hb);replace HE:=Lib.hid (HE.out.below hb);replace HW:=Lib.hid (HW.out.trans (hb.mono HW.out.size));replace HLX:=Lib.hid (HLX.out.below hb);obtain⟨b1,o1,l1,c1,rfl⟩:=hx.shape;have HV:=Lib.hid (hx.mono (k':=600) (by decide));clear hx;obtain⟨r0,r1',fr0,fr1⟩:=cells2V HBr.out;go_wp2_with fail
  obtain⟨r1,r2⟩:=res2V HW.out HBr.out n32_2 HKr.out (.bool b1) (.slice o1 l1 c1)
  (try simp only[Exit.inBlock,Exit.then])
  exact bodyPost_ret (v:=.agg #[.bool b1,.slice o1 l1 c1]) (by simp[results,Try.results62,go_sem,r0,r1']) rfl ⟨_,rfl,((show CI _ _ (asI (ev (rho env) (.node 6 z nm [p]))) 600 from by rw[HEV.out];show CI _ _ ((asL (ev (rho env) p)).length:Int) 600;rw[<-HL.out];exact HV.out)).fr r1,r2⟩
 have HX:=Lib.hid hk;have HZ:=Lib.hid hz;have HE:=Lib.hid he;have HSM:=Lib.hid hsm;have HRS:=Lib.hid hrs;have HW:=Lib.hid (Below.refl w.heap.size w);have HKL0:=Lib.hid hkl;clear hkl hkc;obtain⟨p,rfl,hp⟩:=srts_one (ks:=ks) (s:=2) (by simpa [fitF,kidsOk] using hfit);have HSP:=Lib.hid (hsm.kid p (by simp));have HRP:=Lib.hid (hrs p (by simp));have HP:=Lib.hid hp;have hx2:=ev_list (r:=rho env) hp;have HEV:Hid (asI (ev (rho env) (.node 7 z nm [p]))=asI (opV (rho env) 7 z nm [ev (rho env) p])):=Lib.hid (by rw[ev,evs,evs]);have HVAL:=Lib.hid hval;have HX2:=Lib.hid hx2;have HKL:Hid ((asL (ev (rho env) p)).length<=1000/\∀ z ∈ asL (ev (rho env) p),z.natAbs<L32 ^ 600):=Lib.hid (by have:=(hsm.kid p (by simp)).val;rw[hx2] at this;exact this);have hkl1:kl=1:=HKL0.out;subst hkl1;clear hz hk he hsm hrs hval hfit hp hx2 HKL0
 go_enter Try.func62,Try.ntmps62
 obtain⟨x1,kf,ef,ekf,hbf,hkf,HBf⟩:=newV w #[.int .i64 7,.bool b,.slice ao l c,.string nm,.slice ko 1 kc] 29;replace HX:=Lib.hid (HX.out.below hbf.out);replace HZ:=Lib.hid (HZ.out.below hbf.out);replace HE:=Lib.hid (HE.out.below hbf.out);replace HW:=Lib.hid (HW.out.trans (hbf.out.mono HW.out.size));have HKf0:=hkf;obtain⟨x2,kr,er,ekr,hbr,hkr,HBr⟩:=newV x1 #[.bool false,.slice none 0 0] 26;replace HBf:=kBV hbr.out HBf;replace HX:=Lib.hid (HX.out.below hbr.out);replace HZ:=Lib.hid (HZ.out.below hbr.out);replace HE:=Lib.hid (HE.out.below hbr.out);replace HW:=Lib.hid (HW.out.trans (hbr.out.mono HW.out.size));have HKr:Hid (w.heap.size<=kr):=Lib.hid (Nat.le_trans hbf.out.size hkr.out);have c0:=cell_at (v:=.int .i64 7) HBf.out 0 rfl;have fc0:=froz_at HBf.out 0;have c1:=cell_at (v:=.bool b) HBf.out 1 rfl;have fc1:=froz_at HBf.out 1
 have c2:=cell_at (v:=.slice ao l c) HBf.out 2 rfl;have fc2:=froz_at HBf.out 2;have c3:=cell_at (v:=.string nm) HBf.out 3 rfl;have fc3:=froz_at HBf.out 3;have c4:=cell_at (v:=.slice ko 1 kc) HBf.out 4 rfl;have fc4:=froz_at HBf.out 4;obtain⟨a,bp,op,lp,cp,kop,klp,kcp,hkop,⟨p0,p1,p2,p3,p4⟩,hfp⟩:=HX.out.first;have HFP:=Lib.hid hfp;clear hfp;obtain⟨opp,hopp⟩:∃ x,x=p.op:=⟨_,rfl⟩
 obtain⟨nmp,hnmp⟩:∃ x,x=p.name:=⟨_,rfl⟩
 rw[<-hopp] at p0 HFP;rw[<-hnmp] at p3 HFP;clear hopp hnmp;subst hkop;go_wp2_with fail
 refine (IL _ _ env p S x2 HFP.out HE.out HRP.out HP.out HSP.out).mono ?_;rintro e x3 ⟨x,rfl,hx,hb⟩;clear c0 fc0 c1 fc1 c2 fc2 c3 fc3 c4 fc4 p0 p1 p2 p3 p4;replace HBf:=kBV hb HBf;replace HBr:=kBV hb HBr;replace HX:=Lib.hid (HX.out.below hb);replace HZ:=Lib.hid (HZ.out.below hb);replace HE:=Lib.hid (HE.out.below hb);replace HW:=Lib.hid (HW.out.trans (hb.mono HW.out.size));replace HFP:=Lib.hid (HFP.out.below hb);obtain⟨L,hL⟩:∃ L,L=asL (ev (rho env) p):=⟨_,rfl⟩
 rw[<-hL] at hx;have HL:=Lib.hid hL;have HKL2:=HKL.out;rw[<-hL] at HKL2;clear HFP hL;obtain⟨xo,xc,rfl,⟨hx1,hx2⟩,hxc⟩:=hx.form;have hxm:xc<=9223372036854775807:=hx2;have HLX:=Lib.hid hx;clear hx
 cases L with
 | nil =>
  clear hxc;obtain⟨r0,r1',fr0,fr1⟩:=cells2V HBr.out;go_wp2_with fail
  obtain⟨r1,r2⟩:=res2V HW.out HBr.out n32_2 HKr.out (.bool false) (.slice none 0 0)
  (try simp only[Exit.inBlock,Exit.then])
  exact bodyPost_ret (v:=.agg #[.bool false,.slice none 0 0]) (by simp[results,Try.results62,go_sem,r0,r1']) rfl ⟨_,rfl,((show CI _ _ (asI (ev (rho env) (.node 7 z nm [p]))) 600 from by rw[HEV.out];show CI _ _ ((asL (ev (rho env) p)).headD 0) 600;rw[<-HL.out];exact nr0 _)).fr r1,r2⟩
 | cons y L =>
  obtain⟨q,yo,yl,yc,rfl,d0,d1,hy⟩:=hxc 0 (by simp);simp only[List.getElem_cons_zero,Nat.zero_mul,Addr.add,if_true] at d0 d1 hy;have HV:=Lib.hid hy;clear hy hxc;have hgt:decide ((0:Int)<(((y::L).length:Nat):Int))=true:=by simp
  obtain⟨r0,r1',fr0,fr1⟩:=cells2V HBr.out;go_wp2_with fail
  obtain⟨r1,r2⟩:=res2V HW.out HBr.out n32_2 HKr.out (.bool (decide (y<0))) (.slice yo yl yc)
  (try simp only[Exit.inBlock,Exit.then])
  exact bodyPost_ret (v:=.agg #[.bool (decide (y<0)),.slice yo yl yc]) (by simp[results,Try.results62,go_sem,r0,r1']) rfl ⟨_,rfl,((show CI _ _ (asI (ev (rho env) (.node 7 z nm [p]))) 600 from by rw[HEV.out];show CI _ _ ((asL (ev (rho env) p)).headD 0) 600;rw[<-HL.out];exact HV.out)).fr r1,r2⟩
attribute [local go_sem] fieldV0 fieldV1 fieldV2 fieldV3
theorem n32_F {o:Int} {b:Bool} {ao:Option Addr} {l c:Nat} {nm:ByteArray} {ko:Option Addr} {kl kc:Nat}:N32 (#[Value.int .i64 o,.bool b,.slice ao l c,.string nm,.slice ko kl kc]:Array Value).toList:=by
 intro u hu z;simp only[List.mem_cons,List.not_mem_nil,or_false] at hu;rcases hu with rfl | rfl | rfl | rfl | rfl<;>(intro h;cases h)
theorem El.Row.other {α:Type} {E:El α} {w w':World} {B g:Nat} {v:Value} {el:List α} (h:E.Row w B v el) (hg:w.grownBy w' (some g)) (hgB:g<B) {e:TypeId} (hf:Fr e w w') (hok:E.ok e):E.Row w' B v el:=by
 have hne:∀ j,v.ownBlock=some j->j≠g:=fun j hj e=>by have:=(h.ge hj).1;omega
 refine⟨?_,fun j hj=>?_,fun q hq=>E.fr hok hf (h.rd q hq)⟩
 ·rcases hr:v.ownBlock with _ | j
  ·exact World.ownsRow.kept h.own hg (.inl hr)
  exact World.ownsRow.kept h.own hg (.inr (by rw[hr];intro e;injection e with e;exact hne j hr e))
 obtain⟨c,hc,h32⟩:=h.n32 j hj;exact⟨c,(hg.block j (lt_of_block hc) (fun e=>by injection e with e;exact hne j hj e)).trans hc,h32⟩
theorem sm_list {r:ByteArray->V} {t:F} (hs:srt t.op=2) (h:Sm r t):(asL (ev r t)).length<=1000/\∀ z ∈ asL (ev r t),z.natAbs<L32 ^ 600:=by
 have:=h.val;rw[ev_list hs] at this;exact this
theorem NL.tail {w:World} {ko:Option Addr} {n kc:Nat} {zs:List Int} (h:NL w (.slice ko n kc) zs):NL w (sliced ko (min 1 n) n kc 2) zs.tail:=by
 obtain⟨ns,h1,rfl⟩:=h;have hn:n=ns.length:=by obtain⟨_,_,e,_⟩:=h1;injection e
 subst hn;have:=h1.sub (i:=min 1 ns.length) (j:=ns.length) (Nat.min_le_right _ _) (Nat.le_refl _);refine⟨_,this,?_⟩
 cases ns with
 | nil=>rfl
 | cons a l=>simp[Nat.min_eq_left]
theorem lst_step (d:Nat) (IN:NumC d) (IL:LstC d):LstC (d+1):=by
 intro ve v env t S w h he hr hs hsm;obtain⟨eo,en,ec,rfl⟩:=he.shape
 have ho:t.op=8\/t.op=11\/t.op=9\/t.op=10:=by
  unfold srt at hs
  split at hs
  ·omega
  split at hs
  ·omega
  omega
 by_cases hloop:t.op=9\/t.op=10
 ·have h0:=h;obtain⟨b,ao,l,c,ko,kl,kc,rfl,⟨-,-,-,-,hkm⟩,-,-⟩:=h.open;obtain⟨o,hoo⟩:∃ o,o=t.op:=⟨_,rfl⟩
  obtain⟨nm,hnm⟩:∃ o,o=t.name:=⟨_,rfl⟩
  rw[<-hoo] at hloop h0 ho ⊢;rw[<-hnm] at h0 ⊢;have n8:(o==8)=false:=beq_eq_false_iff_ne.2 (by omega);have n11:(o==11)=false:=beq_eq_false_iff_ne.2 (by omega);have HE:=Lib.hid he;have HSM:=Lib.hid hsm;have HT:=Lib.hid h0;have HR:=Lib.hid hr;have HS:=Lib.hid hs;have HOO:=Lib.hid hoo;have HNM:=Lib.hid hnm;have HE0:=Lib.hid he;have HLP:=Lib.hid hloop;have HL0:=Lib.hid (sm_list hs hsm);have HW:=Lib.hid (Below.refl w.heap.size w);clear h h0 he hr hs hsm ho hloop hoo hnm hkm;go_enter Try.func61,Try.ntmps61
  obtain⟨x1,kf,ef,ekf,hbf,hkf,HBf⟩:=newV w #[.int .i64 o,.bool b,.slice ao l c,.string nm,.slice ko kl kc] 29;replace HE:=Lib.hid (HE.out.below hbf.out);replace HW:=Lib.hid (HW.out.trans (hbf.out.mono HW.out.size));have HKf:Hid (w.heap.size<=kf):=hkf;have HB1:Hid (kf<x1.heap.size):=Lib.hid (lt_of_block HBf.out);have c0:=cell_at (v:=.int .i64 o) HBf.out 0 rfl;have fc0:=froz_at HBf.out 0;have c1:=cell_at (v:=.bool b) HBf.out 1 rfl;have fc1:=froz_at HBf.out 1;have c2:=cell_at (v:=.slice ao l c) HBf.out 2 rfl;have fc2:=froz_at HBf.out 2;have c3:=cell_at (v:=.string nm) HBf.out 3 rfl;have fc3:=froz_at HBf.out 3;have c4:=cell_at (v:=.slice ko kl kc) HBf.out 4 rfl;have fc4:=froz_at HBf.out 4;go_wp2_with fail
  clear c0 fc0 c1 fc1 c2 fc2 c3 fc3 c4 fc4;clear n8 n11
  go_loopw [6] (fun v wr=>∃ (els:List NU) (t':F) (dd:Nat) (b:Bool) (ao:Option Addr) (l c:Nat) (ko:Option Addr) (kl kc:Nat),Hid (nE.Row wr x1.heap.size v els)/\Hid (asL (ev (rho env) t)=els.map (·.z)++asL (ev (rho env) t'))/\Hid (dd<=d+1/\(t'.op≠9->t'.op≠10->dd<=d))/\Hid (rt t'=true/\srt t'.op=2/\Sm (rho env) t')/\Hid (FC w S dd (.agg #[.int .i64 t'.op,.bool b,.slice ao l c,.string t'.name,.slice ko kl kc]) t')/\Hid (wr.heap[kf]?=some (.cells #[.int .i64 t'.op,.bool b,.slice ao l c,.string t'.name,.slice ko kl kc] 29 (0,0)))/\Hid (Below w.heap.size w wr)/\Hid (x1.heap.size<=wr.heap.size)) (fun v _=>match v with | .slice _ n _=>2000 - n | _=>0)
  case atStart=>exact⟨[],t,d+1,b,ao,l,c,ko,kl,kc,Lib.hid (El.Row.nil _ _),Lib.hid rfl,Lib.hid ⟨Nat.le_refl _,fun h1 h2=>by have:=HLP.out;rw[HOO.out] at this;omega⟩,Lib.hid ⟨HR.out,HS.out,HSM.out⟩,Lib.hid (by have:=HT.out;rw[HOO.out,HNM.out] at this;exact this),Lib.hid (by have:=HBf.out;rw[HOO.out,HNM.out] at this;exact this),HW,Lib.hid (Nat.le_refl _)⟩
  case round =>
   obtain⟨wl,hwl⟩:∃ q,q=wr:=⟨_,rfl⟩
   subst hwl;clear HW HBf HE;obtain⟨els,t',dd,b',ao',l',c',ko',kl',kc',HROW,HEQ,HDD,HTT,HFT,HBf,HW,HSZ⟩:=hrel;have HE:Hid (EL wl (.slice eo en ec) env):=Lib.hid (HE0.out.below HW.out);obtain⟨vo,vc,rfl,hvc⟩:=HROW.out.form;have hlen:els.length+(asL (ev (rho env) t')).length<=1000:=by have h1:=HL0.out.1;rw[HEQ.out,lsa,List.length_map] at h1;exact h1
   have HLEN:=Lib.hid hlen;clear hlen hvc
   by_cases h10:t'.op=10
   ·have HFO:=HFT.out.open;obtain⟨_,_,_,_,_,_,_,e1,⟨-,-,-,-,hkm⟩,hd1,hkids⟩:=HFO;injection e1 with e1;have e2:=congrArg (fun t:Array Value=>t[4]?) e1;injection e2 with e2;injection e2 with e2 e3 e4;subst e2 e3 e4;obtain⟨o',z',nm',ks'⟩:=t';simp only[F.op,F.name,F.kids] at h10 hkids HFT HBf HTT HEQ HDD HLEN;subst h10;obtain⟨hr1,hs1,hm1⟩:=HTT.out;obtain⟨hfit,hrs⟩:=rt_node hr1;obtain⟨p,q,rfl,hp,hq⟩:=srts_two (ks:=ks') (s:=0) (r:=2) (by simpa [fitF,kidsOk] using hfit);have HSP:=Lib.hid (hm1.kid p (by simp));have HRP:=Lib.hid (hrs p (by simp));have HP:=Lib.hid hp;have HSQ:=Lib.hid (hm1.kid q (by simp));have HRQ:=Lib.hid (hrs q (by simp));have HQ:=Lib.hid hq;have HEV:Hid (asL (ev (rho env) (.node 10 z' nm' [p,q]))=asI (ev (rho env) p)::asL (ev (rho env) q)):=Lib.hid (by rw[ev,evs,evs,evs];rfl)
    have HPZ:Hid ((asI (ev (rho env) p)).natAbs<L32 ^ 600):=Lib.hid (by have:=(hm1.kid p (by simp)).val;rw[ev_int hp] at this;exact this);have hdd:dd - 1<=d:=by have:=HDD.out.1;omega
    have hkl:kl'=2:=by obtain⟨_,_,e,_⟩:=hkids.form;injection e
    subst hkl;have hkm':kc'<=9223372036854775807:=hkm;have HKW:=Lib.hid hkids;have HKL:=Lib.hid (hkids.below HW.out);have HDL:=Lib.hid hdd;clear hr1 hs1 hm1 hfit hrs hp hq hkids hdd hd1 hkm e1 HTT;obtain⟨a,bp,op,lp,cp,kop,klp,kcp,hko,⟨p0,p1,p2,p3,p4⟩,hfp⟩:=HKL.out.first;subst hko;obtain⟨opp,hopp⟩:∃ x,x=p.op:=⟨_,rfl⟩
    obtain⟨nmp,hnmp⟩:∃ x,x=p.name:=⟨_,rfl⟩
    rw[<-hopp] at p0 hfp;rw[<-hnmp] at p3 hfp;have HFP:=Lib.hid (hfp.up HDL.out);clear hfp hopp hnmp;obtain⟨a2,bq,oq,lq,cq,koq,klq,kcq,hko2,⟨q0,q1,q2,q3,q4⟩,hfq⟩:=HKW.out.second;injection hko2 with hko2;subst hko2;obtain⟨opq,hopq⟩:∃ x,x=q.op:=⟨_,rfl⟩
    obtain⟨nmq,hnmq⟩:∃ x,x=q.name:=⟨_,rfl⟩
    rw[<-hopq] at q0 hfq;rw[<-hnmq] at q3 hfq;have HFQ:=Lib.hid hfq;have HOQ:=Lib.hid hopq;have HNQ:=Lib.hid hnmq;have HQC:Hid (At5 w ⟨a.block,a.off+5,none⟩ opq bq oq lq cq nmq koq klq kcq):=Lib.hid ⟨q0,q1,q2,q3,q4⟩;clear hfq hopq hnmq q0 q1 q2 q3 q4 HKW;have c0:=cell_at (v:=.int .i64 10) HBf.out 0 rfl;have fc0:=froz_at HBf.out 0;have c1:=cell_at (v:=.bool b') HBf.out 1 rfl;have fc1:=froz_at HBf.out 1;have c2:=cell_at (v:=.slice ao' l' c') HBf.out 2 rfl;have fc2:=froz_at HBf.out 2;have c3:=cell_at (v:=.string nm') HBf.out 3 rfl;have fc3:=froz_at HBf.out 3;have c4:=cell_at (v:=.slice (some a) 2 kc') HBf.out 4 rfl;have fc4:=froz_at HBf.out 4;go_wp2_with fail
    refine (IN _ _ env p S wl HFP.out HE.out HRP.out HP.out HSP.out).mono ?_;rintro e x2 ⟨x,rfl,hx,hb⟩;clear c0 fc0 c1 fc1 c2 fc2 c3 fc3 c4 fc4 p0 p1 p2 p3 p4;replace HBf:=kBV hb HBf;replace HE:=Lib.hid (HE.out.below hb);replace HW:=Lib.hid (HW.out.trans (hb.mono HW.out.size));replace HROW:=Lib.hid (HROW.out.below hb);replace HKL:=Lib.hid (HKL.out.below hb);obtain⟨nu,bn,on,ln,cn,rfl,hne,hnz,hnr⟩:=hx.unit (by decide);have HNE:=Lib.hid hne;have HNZ:=Lib.hid hnz;have HNR:=Lib.hid hnr;clear hx hne hnz hnr HFP;obtain⟨x3,ky,ey,eky,hby,hky,HBy⟩:=newV x2 #[.bool bn,.slice on ln cn] 26;replace HBf:=kBV hby.out HBf;replace HE:=Lib.hid (HE.out.below hby.out);replace HW:=Lib.hid (HW.out.trans (hby.out.mono HW.out.size));replace HROW:=Lib.hid (HROW.out.below hby.out);replace HKL:=Lib.hid (HKL.out.below hby.out)
    replace HNR:=Lib.hid (nE.below HNR.out hby.out);have HAT:=Lib.hid (one_atN HBy.out HNE.out HNR.out);have c0:=cell_at (v:=.int .i64 10) HBf.out 0 rfl;have fc0:=froz_at HBf.out 0;have c1:=cell_at (v:=.bool b') HBf.out 1 rfl;have fc1:=froz_at HBf.out 1;have c2:=cell_at (v:=.slice ao' l' c') HBf.out 2 rfl;have fc2:=froz_at HBf.out 2;have c3:=cell_at (v:=.string nm') HBf.out 3 rfl;have fc3:=froz_at HBf.out 3;have c4:=cell_at (v:=.slice (some a) 2 kc') HBf.out 4 rfl;have fc4:=froz_at HBf.out 4;have HSZ2:Hid (x1.heap.size<=x3.heap.size):=Lib.hid (Nat.le_trans HSZ.out (Nat.le_trans hb.size hby.out.size))
    go_wp2_with (at_builtin;refine El.Row.append (E:=nE) HROW.out rfl (.tmp 36) (.tmp 43) rfl rfl rfl HAT.out (by have:=HLEN.out;simp;omega) HSZ2.out ?_;intro v9 w9 r1 r2 r3 r4;have HBf9:=Lib.hid ((r3.block kf HB1.out).trans HBf.out);have HW9:=Lib.hid (HW.out.trans (r3.mono (Nat.le_trans hbf.out.size (Nat.le_refl _))));have HR9:=Lib.hid r1;have HS9:=Lib.hid (Nat.le_trans HSZ2.out r3.size);clear r1 r2 r3 r4 c0 c1 c2 c3 c4 fc0 fc1 fc2 fc3 fc4;have c4:=cell_at (v:=.slice (some a) 2 kc') HBf9.out 4 rfl;have c0:=cell_at (v:=.int .i64 10) HBf9.out 0 rfl;have c1:=cell_at (v:=.bool b') HBf9.out 1 rfl;have c2:=cell_at (v:=.slice ao' l' c') HBf9.out 2 rfl;have c3:=cell_at (v:=.string nm') HBf9.out 3 rfl;have fc0:=froz_at HBf9.out 0;have fc1:=froz_at HBf9.out 1;have fc2:=froz_at HBf9.out 2;have fc3:=froz_at HBf9.out 3;have fc4:=froz_at HBf9.out 4;obtain⟨q0,q1,q2,q3,q4⟩:=HQC.out.below HW9.out;simp only at q0 q1 q2 q3 q4)
    have hg:=grown5V (w:=w9) (k:=kf) (.int .i64 opq) (.bool bq) (.slice oq lq cq) (.string nmq) (.slice koq klq kcq);have hfr:Fr 29 w9 _:=.of_grown hg (fun j hj=>by injection hj with hj;subst hj;exact⟨_,HBf9.out,n32_F⟩);go_roundw
    case rel=>exact⟨els++[nu],q,dd - 1,bq,oq,lq,cq,koq,klq,kcq,Lib.hid (HR9.out.other hg HB1.out hfr trivial),Lib.hid (by rw[HEQ.out,HEV.out,List.map_append,List.append_assoc];simp[HNZ.out]),Lib.hid ⟨by have:=HDL.out;omega,fun _ _=>HDL.out⟩,Lib.hid ⟨HRQ.out,HQ.out,HSQ.out⟩,Lib.hid (by rw[<-HOQ.out,<-HNQ.out];exact HFQ.out),Lib.hid (by rw[<-HOQ.out,<-HNQ.out];exact set5_same HBf9.out _ _ _ _ _),Lib.hid (ext_below HW9.out hg HKf.out),Lib.hid (Nat.le_trans HS9.out hg.size)⟩
    case measure =>
     obtain⟨xo,xc,rfl,-⟩:=HR9.out.form;have:=HLEN.out;rw[HEV.out] at this;simp only[lsa,lsc,lsn] at this ⊢
     omega
   have h10b:(t'.op==10)=false:=beq_eq_false_iff_ne.2 h10;obtain⟨o',ho'⟩:∃ o,o=t'.op:=⟨_,rfl⟩
   obtain⟨nm',hnm'⟩:∃ o,o=t'.name:=⟨_,rfl⟩
   have HFT2:=Lib.hid (HFT.out.below HW.out);rw[<-ho'] at HBf h10b h10 HFT2 HDD;rw[<-hnm'] at HBf HFT2;have HO':=Lib.hid ho';clear ho' hnm' HFT
   by_cases h9:o'=9
   ·have h9b:(o'==9)=true:=by rw[h9];rfl
    have HH:Hid (asL (ev (rho env) t')=[]):=Lib.hid (by obtain⟨o2,z2,nm2,ks2⟩:=t';have:=HO'.out;rw[h9] at this;simp only[F.op] at this;subst this;rw[ev];rfl);clear h9 h10;have c0:=cell_at (v:=.int .i64 o') HBf.out 0 rfl;have fc0:=froz_at HBf.out 0;have c1:=cell_at (v:=.bool b') HBf.out 1 rfl;have fc1:=froz_at HBf.out 1;have c2:=cell_at (v:=.slice ao' l' c') HBf.out 2 rfl;have fc2:=froz_at HBf.out 2;have c3:=cell_at (v:=.string nm') HBf.out 3 rfl;have fc3:=froz_at HBf.out 3;have c4:=cell_at (v:=.slice ko' kl' kc') HBf.out 4 rfl;have fc4:=froz_at HBf.out 4;go_wp2_with fail
    go_ret
    exact⟨_,rfl,⟨els,HROW.out.at,by rw[HEQ.out,HH.out,List.append_nil]⟩,HW.out⟩
   have h9b:(o'==9)=false:=beq_eq_false_iff_ne.2 h9;have hdd:dd<=d:=HDD.out.2 h9 h10;have HDL:=Lib.hid hdd;clear h9 h10 hdd;obtain⟨hr1,hs1,hm1⟩:=HTT.out;have HR1:=Lib.hid hr1;have HS1:=Lib.hid hs1;have HM1:=Lib.hid hm1;clear hr1 hs1 hm1;have c0:=cell_at (v:=.int .i64 o') HBf.out 0 rfl;have fc0:=froz_at HBf.out 0;have c1:=cell_at (v:=.bool b') HBf.out 1 rfl;have fc1:=froz_at HBf.out 1;have c2:=cell_at (v:=.slice ao' l' c') HBf.out 2 rfl;have fc2:=froz_at HBf.out 2;have c3:=cell_at (v:=.string nm') HBf.out 3 rfl;have fc3:=froz_at HBf.out 3;have c4:=cell_at (v:=.slice ko' kl' kc') HBf.out 4 rfl;have fc4:=froz_at HBf.out 4;go_wp2_with fail
   refine (IL _ _ env t' S wl (HFT2.out.up HDL.out) HE.out HR1.out HS1.out HM1.out).mono ?_;rintro e x2 ⟨x,rfl,⟨ns,hx,hnz⟩,hb⟩;clear c0 fc0 c1 fc1 c2 fc2 c3 fc3 c4 fc4;replace HBf:=kBV hb HBf;replace HE:=Lib.hid (HE.out.below hb);replace HW:=Lib.hid (HW.out.trans (hb.mono HW.out.size));replace HROW:=Lib.hid (HROW.out.below hb);replace HFT2:=Lib.hid (HFT2.out.below hb);have HAT:=Lib.hid hx;have HNZ:=Lib.hid hnz;clear hx hnz;have HSZ2:Hid (x1.heap.size<=x2.heap.size):=Lib.hid (Nat.le_trans HSZ.out hb.size);obtain⟨xo,xn,xc,rfl⟩:∃ xo xn xc,x=.slice xo xn xc:=by obtain⟨_,_,e,_⟩:=HAT.out;exact⟨_,_,_,e⟩
   go_wp2_with (at_builtin;refine El.Row.append (E:=nE) HROW.out rfl (.tmp 49) (.tmp 52) rfl rfl rfl HAT.out (by have:=HLEN.out;rw[<-HNZ.out,List.length_map] at this;omega) HSZ2.out ?_;intro v9 w9 r1 r2 r3 r4;have HW9:=Lib.hid (HW.out.trans (r3.mono (Nat.le_trans hbf.out.size (Nat.le_refl _))));have HR9:=Lib.hid r1;clear r1 r2 r3 r4)
   go_ret
   exact⟨_,rfl,⟨els++ns,HR9.out.at,by rw[HEQ.out,List.map_append,HNZ.out]⟩,HW9.out⟩
 obtain⟨b,ao,l,c,ko,kl,kc,rfl,⟨-,hz,hkl,hkc,hkm⟩,-,hk⟩:=h.open;obtain⟨o,z,nm,ks⟩:=t;simp only[F.op,F.num,F.name,F.kids] at hz hk hkl hs ho hloop ⊢;rw[show d+1 - 1=d from rfl] at hk;obtain⟨hfit,hrs⟩:=rt_node hr;have hkm':kc<=9223372036854775807:=hkm;have HKL0:=Lib.hid hkl;have ho2:o=8\/o=11:=by omega
 have HX:=Lib.hid hk;have HE:=Lib.hid he;have HW:=Lib.hid (Below.refl w.heap.size w);clear h hkm hkl hkc hz hk he ho hloop hr hs;rcases ho2 with rfl | rfl
 ·clear hsm hrs hfit;go_enter Try.func61,Try.ntmps61
  obtain⟨x1,kf,ef,ekf,hbf,hkf,HBf⟩:=newV w #[.int .i64 8,.bool b,.slice ao l c,.string nm,.slice ko kl kc] 29;replace HX:=Lib.hid (HX.out.below hbf.out);replace HE:=Lib.hid (HE.out.below hbf.out);replace HW:=Lib.hid (HW.out.trans (hbf.out.mono HW.out.size));have c0:=cell_at (v:=.int .i64 8) HBf.out 0 rfl;have fc0:=froz_at HBf.out 0;have c1:=cell_at (v:=.bool b) HBf.out 1 rfl;have fc1:=froz_at HBf.out 1;have c2:=cell_at (v:=.slice ao l c) HBf.out 2 rfl;have fc2:=froz_at HBf.out 2;have c3:=cell_at (v:=.string nm) HBf.out 3 rfl;have fc3:=froz_at HBf.out 3;have c4:=cell_at (v:=.slice ko kl kc) HBf.out 4 rfl;have fc4:=froz_at HBf.out 4;go_wp2_with fail
  refine (lookup_p _ env nm 2 x1 HE.out).mono ?_;rintro e x2 ⟨v,rfl,hv,hb⟩;clear c0 fc0 c1 fc1 c2 fc2 c3 fc3 c4 fc4;replace HBf:=kBV hb HBf;replace HX:=Lib.hid (HX.out.below hb);replace HE:=Lib.hid (HE.out.below hb);replace HW:=Lib.hid (HW.out.trans (hb.mono HW.out.size));obtain⟨k1,b1,o1,l1,c1,d1,p1,m1,q1,rfl,hn⟩:=hv.lk2;have HV:=Lib.hid hn;clear hv hn;go_wp2_with fail
  go_ret
  exact⟨_,rfl,HV.out,HW.out⟩
 obtain⟨p,rfl,hp⟩:=srts_one (ks:=ks) (s:=2) (by simpa [fitF,kidsOk] using hfit);have HSP:=Lib.hid (hsm.kid p (by simp));have HRP:=Lib.hid (hrs p (by simp));have HP:=Lib.hid hp;have HEV:Hid (asL (ev (rho env) (.node 11 z nm [p]))=(asL (ev (rho env) p)).tail):=Lib.hid (by rw[ev,evs,evs];rfl);have hkl1:kl=1:=HKL0.out;subst hkl1;clear hsm hrs hfit hp HKL0;go_enter Try.func61,Try.ntmps61
 obtain⟨x1,kf,ef,ekf,hbf,hkf,HBf⟩:=newV w #[.int .i64 11,.bool b,.slice ao l c,.string nm,.slice ko 1 kc] 29;replace HX:=Lib.hid (HX.out.below hbf.out);replace HE:=Lib.hid (HE.out.below hbf.out);replace HW:=Lib.hid (HW.out.trans (hbf.out.mono HW.out.size));have c0:=cell_at (v:=.int .i64 11) HBf.out 0 rfl;have fc0:=froz_at HBf.out 0;have c1:=cell_at (v:=.bool b) HBf.out 1 rfl;have fc1:=froz_at HBf.out 1;have c2:=cell_at (v:=.slice ao l c) HBf.out 2 rfl;have fc2:=froz_at HBf.out 2;have c3:=cell_at (v:=.string nm) HBf.out 3 rfl;have fc3:=froz_at HBf.out 3;have c4:=cell_at (v:=.slice ko 1 kc) HBf.out 4 rfl;have fc4:=froz_at HBf.out 4;obtain⟨a,bp,op,lp,cp,kop,klp,kcp,hkop,⟨p0,p1,p2,p3,p4⟩,hfp⟩:=HX.out.first;have HFP:=Lib.hid hfp;clear hfp;obtain⟨opp,hopp⟩:∃ x,x=p.op:=⟨_,rfl⟩
 obtain⟨nmp,hnmp⟩:∃ x,x=p.name:=⟨_,rfl⟩
 rw[<-hopp] at p0 HFP;rw[<-hnmp] at p3 HFP;clear hopp hnmp;subst hkop;go_wp2_with fail
 refine (IL _ _ env p S x1 HFP.out HE.out HRP.out HP.out HSP.out).mono ?_;rintro e x2 ⟨x,rfl,hx,hb⟩;clear c0 fc0 c1 fc1 c2 fc2 c3 fc3 c4 fc4 p0 p1 p2 p3 p4;replace HBf:=kBV hb HBf;replace HX:=Lib.hid (HX.out.below hb);replace HE:=Lib.hid (HE.out.below hb);replace HW:=Lib.hid (HW.out.trans (hb.mono HW.out.size));replace HFP:=Lib.hid (HFP.out.below hb);obtain⟨xo,xc,hxe,⟨hx1,hx2⟩,-⟩:=hx.form;have hxm:xc<=9223372036854775807:=hx2;obtain⟨n,hn⟩:∃ n,n=(asL (ev (rho env) p)).length:=⟨_,rfl⟩
 rw[<-hn] at hxe hx1;rw[hxe] at hx ⊢;have hv:=hx.tail;clear hx hxe hx2 hn HFP;unfold sliced at hv;obtain⟨m,hm⟩:∃ m,m=min 1 n:=⟨_,rfl⟩
 have hmi:min (1:Int) ((n:Nat):Int)=((m:Nat):Int):=by omega
 have hmn:m<=n:=by omega
 rw[<-hm] at hv;clear hm
 by_cases hc:xc=m
 ·rw[if_pos hc] at hv;have HV:=Lib.hid hv;subst hc;clear hv;go_wp2_with fail
  go_ret
  exact⟨_,rfl,by rw[HEV.out];have:=HV.out;rw[show n - xc=0 by omega] at this;simpa using this,(by first | exact HW.out | (rw[<-ekf];exact HW.out))⟩
 rw[if_neg hc] at hv;have HV:=Lib.hid hv;clear hv;go_wp2_with fail
 go_ret
 exact⟨_,rfl,by rw[HEV.out];have:=HV.out;simpa using this,(by first | exact HW.out | (rw[<-ekf];exact HW.out))⟩
attribute [local go_sem] fieldV0 fieldV1 fieldV2 fieldV3
theorem truth1_p (d:Nat) (IT:TruC d) (eo:Option Addr) (en ec:Nat) (env:List (ByteArray × V)) (ke:Nat) (v:Value) (t:F) (S:Nat->Prop) (w:World) (hB:w.heap[ke]?=some (.cells #[.slice eo en ec] 72 (0,0))) (h:FC w S d v t) (he:EL w (.slice eo en ec) env) (hr:rt t=true) (hs:srt t.op=1) (hsm:Sm (rho env) t) :
  Calls Try.prog 78 #[v,.pointer (some ⟨ke,0,none⟩)] w fun e w'=>e=.returned (.bool (!asB (ev (rho env) t)))/\Below w.heap.size w w':=by
 have HT:=Lib.hid h;obtain⟨b,ao,l,c,ko,kl,kc,rfl,-,-,-⟩:=h.open;obtain⟨o,hoo⟩:∃ o,o=t.op:=⟨_,rfl⟩
 obtain⟨nm,hnm⟩:∃ o,o=t.name:=⟨_,rfl⟩
 rw[<-hoo] at HT ⊢;rw[<-hnm] at HT ⊢;have HBe:=Lib.hid hB;have HE:=Lib.hid he;have HR:=Lib.hid hr;have HS:=Lib.hid hs;have HSM:=Lib.hid hsm;clear h hB he hr hs hsm hoo hnm;have HW:=Lib.hid (Below.refl w.heap.size w);go_enter Try.func78,Try.ntmps78
 obtain⟨x1,kf,ef,ekf,hbf,hkf,HBf⟩:=newV w #[.int .i64 o,.bool b,.slice ao l c,.string nm,.slice ko kl kc] 29;replace HBe:=kBV hbf.out HBe;replace HT:=Lib.hid (HT.out.below hbf.out);replace HE:=Lib.hid (HE.out.below hbf.out);replace HW:=Lib.hid (HW.out.trans (hbf.out.mono HW.out.size));have c0:=cell_at (v:=.int .i64 o) HBf.out 0 rfl;have fc0:=froz_at HBf.out 0;have c1:=cell_at (v:=.bool b) HBf.out 1 rfl;have fc1:=froz_at HBf.out 1;have c2:=cell_at (v:=.slice ao l c) HBf.out 2 rfl;have fc2:=froz_at HBf.out 2;have c3:=cell_at (v:=.string nm) HBf.out 3 rfl;have fc3:=froz_at HBf.out 3;have c4:=cell_at (v:=.slice ko kl kc) HBf.out 4 rfl;have fc4:=froz_at HBf.out 4;have e0:=cell_at (v:=.slice eo en ec) HBe.out 0 rfl;have fe0:=froz_at HBe.out 0;go_wp2_with fail
 refine (IT _ _ env t S x1 HT.out HE.out HR.out HS.out HSM.out).mono ?_;rintro e x2 ⟨rfl,hb⟩;clear c0 fc0 c1 fc1 c2 fc2 c3 fc3 c4 fc4 e0 fe0;replace HBe:=kBV hb HBe;replace HBf:=kBV hb HBf;replace HT:=Lib.hid (HT.out.below hb);replace HE:=Lib.hid (HE.out.below hb);replace HW:=Lib.hid (HW.out.trans (hb.mono HW.out.size));go_wp2_with fail
 go_ret
 exact⟨rfl,HW.out⟩
theorem tru_step (d:Nat) (IN:NumC d) (IT:TruC d) (IV:ValC d):TruC (d+1):=by
 intro ve v env t S w h he hr hs hsm;obtain⟨b,ao,l,c,ko,kl,kc,rfl,⟨-,hz,hkl,hkc,hkm⟩,-,hk⟩:=h.open;obtain⟨o,z,nm,ks⟩:=t;simp only[F.op,F.num,F.name,F.kids] at hz hk hkl hs ⊢;rw[show d+1 - 1=d from rfl] at hk;obtain⟨hfit,hrs⟩:=rt_node hr
 have ho:o=12\/o=13\/o=14\/o=15\/o=16\/o=17\/o=18\/o=19\/o=20:=by
  have:=fit_range hfit;unfold srt at hs
  split at hs
  ·omega
  split at hs
  ·omega
  omega
 obtain⟨eo,en,ec,rfl⟩:=he.shape;have hkm':kc<=9223372036854775807:=hkm;clear h hr hs hkm hkc hz;rcases ho with rfl | rfl | rfl | rfl | rfl | rfl | rfl | rfl | rfl
 ·have HX:=Lib.hid hk;have HE:=Lib.hid he;have HKL0:=Lib.hid hkl;have HW:=Lib.hid (Below.refl w.heap.size w);clear hk he hsm hrs hfit hkl HKL0;go_enter Try.func60,Try.ntmps60
  obtain⟨x1,ke,ee,eke,hbe,hke,HBe⟩:=newV w #[.slice eo en ec] 72;replace HX:=Lib.hid (HX.out.below hbe.out);replace HE:=Lib.hid (HE.out.below hbe.out);replace HW:=Lib.hid (HW.out.trans (hbe.out.mono HW.out.size));obtain⟨x2,kf,ef,ekf,hbf,hkf,HBf⟩:=newV x1 #[.int .i64 12,.bool b,.slice ao l c,.string nm,.slice ko kl kc] 29;replace HBe:=kBV hbf.out HBe;replace HX:=Lib.hid (HX.out.below hbf.out);replace HE:=Lib.hid (HE.out.below hbf.out);replace HW:=Lib.hid (HW.out.trans (hbf.out.mono HW.out.size));have e0:=cell_at (v:=.slice eo en ec) HBe.out 0 rfl;have fe0:=froz_at HBe.out 0;have c0:=cell_at (v:=.int .i64 12) HBf.out 0 rfl;have fc0:=froz_at HBf.out 0;have c1:=cell_at (v:=.bool b) HBf.out 1 rfl;have fc1:=froz_at HBf.out 1;have c2:=cell_at (v:=.slice ao l c) HBf.out 2 rfl;have fc2:=froz_at HBf.out 2
  have c3:=cell_at (v:=.string nm) HBf.out 3 rfl;have fc3:=froz_at HBf.out 3;have c4:=cell_at (v:=.slice ko kl kc) HBf.out 4 rfl;have fc4:=froz_at HBf.out 4;go_wp2_with fail
  go_ret
  exact⟨rfl,HW.out⟩
 ·have HX:=Lib.hid hk;have HE:=Lib.hid he;have HKL0:=Lib.hid hkl;have HW:=Lib.hid (Below.refl w.heap.size w);clear hk he hsm hrs hfit hkl HKL0;go_enter Try.func60,Try.ntmps60
  obtain⟨x1,ke,ee,eke,hbe,hke,HBe⟩:=newV w #[.slice eo en ec] 72;replace HX:=Lib.hid (HX.out.below hbe.out);replace HE:=Lib.hid (HE.out.below hbe.out);replace HW:=Lib.hid (HW.out.trans (hbe.out.mono HW.out.size));obtain⟨x2,kf,ef,ekf,hbf,hkf,HBf⟩:=newV x1 #[.int .i64 13,.bool b,.slice ao l c,.string nm,.slice ko kl kc] 29;replace HBe:=kBV hbf.out HBe;replace HX:=Lib.hid (HX.out.below hbf.out);replace HE:=Lib.hid (HE.out.below hbf.out);replace HW:=Lib.hid (HW.out.trans (hbf.out.mono HW.out.size));have e0:=cell_at (v:=.slice eo en ec) HBe.out 0 rfl;have fe0:=froz_at HBe.out 0;have c0:=cell_at (v:=.int .i64 13) HBf.out 0 rfl;have fc0:=froz_at HBf.out 0;have c1:=cell_at (v:=.bool b) HBf.out 1 rfl;have fc1:=froz_at HBf.out 1;have c2:=cell_at (v:=.slice ao l c) HBf.out 2 rfl;have fc2:=froz_at HBf.out 2
  have c3:=cell_at (v:=.string nm) HBf.out 3 rfl;have fc3:=froz_at HBf.out 3;have c4:=cell_at (v:=.slice ko kl kc) HBf.out 4 rfl;have fc4:=froz_at HBf.out 4;go_wp2_with fail
  go_ret
  exact⟨rfl,HW.out⟩
 ·have HX:=Lib.hid hk;have HE:=Lib.hid he;have HKL0:=Lib.hid hkl;have HW:=Lib.hid (Below.refl w.heap.size w);clear hk he hsm hrs hfit hkl HKL0;go_enter Try.func60,Try.ntmps60
  obtain⟨x1,ke,ee,eke,hbe,hke,HBe⟩:=newV w #[.slice eo en ec] 72;replace HX:=Lib.hid (HX.out.below hbe.out);replace HE:=Lib.hid (HE.out.below hbe.out);replace HW:=Lib.hid (HW.out.trans (hbe.out.mono HW.out.size));obtain⟨x2,kf,ef,ekf,hbf,hkf,HBf⟩:=newV x1 #[.int .i64 14,.bool b,.slice ao l c,.string nm,.slice ko kl kc] 29;replace HBe:=kBV hbf.out HBe;replace HX:=Lib.hid (HX.out.below hbf.out);replace HE:=Lib.hid (HE.out.below hbf.out);replace HW:=Lib.hid (HW.out.trans (hbf.out.mono HW.out.size));have e0:=cell_at (v:=.slice eo en ec) HBe.out 0 rfl;have fe0:=froz_at HBe.out 0;have c0:=cell_at (v:=.int .i64 14) HBf.out 0 rfl;have fc0:=froz_at HBf.out 0;have c1:=cell_at (v:=.bool b) HBf.out 1 rfl;have fc1:=froz_at HBf.out 1;have c2:=cell_at (v:=.slice ao l c) HBf.out 2 rfl;have fc2:=froz_at HBf.out 2
  have c3:=cell_at (v:=.string nm) HBf.out 3 rfl;have fc3:=froz_at HBf.out 3;have c4:=cell_at (v:=.slice ko kl kc) HBf.out 4 rfl;have fc4:=froz_at HBf.out 4;go_wp2_with fail
  refine (lookup_p _ env nm 1 x2 HE.out).mono ?_;rintro e x3 ⟨v,rfl,hv,hb⟩;clear e0 fe0 c0 fc0 c1 fc1 c2 fc2 c3 fc3 c4 fc4;replace HBe:=kBV hb HBe;replace HBf:=kBV hb HBf;replace HX:=Lib.hid (HX.out.below hb);replace HE:=Lib.hid (HE.out.below hb);replace HW:=Lib.hid (HW.out.trans (hb.mono HW.out.size));obtain⟨k1,b1,o1,l1,c1,p1,m1,q1,rfl⟩:=hv.lk1;clear hv;go_wp2_with fail
  go_ret
  exact⟨rfl,HW.out⟩
 ·have HX:=Lib.hid hk;have HE:=Lib.hid he;have HKL0:=Lib.hid hkl;have HW:=Lib.hid (Below.refl w.heap.size w);obtain⟨p,q,rfl,hp,hq⟩:=srts_two (ks:=ks) (s:=0) (r:=0) (by simpa [fitF,kidsOk] using hfit);have HSP:=Lib.hid (hsm.kid p (by simp));have HRP:=Lib.hid (hrs p (by simp));have HP:=Lib.hid hp;have HSQ:=Lib.hid (hsm.kid q (by simp));have HRQ:=Lib.hid (hrs q (by simp));have HQ:=Lib.hid hq;have HEV:Hid (asB (ev (rho env) (.node 15 z nm [p,q]))=asB (opV (rho env) 15 z nm [ev (rho env) p,ev (rho env) q])):=Lib.hid (by rw[ev,evs,evs,evs]);have hkl1:kl=2:=HKL0.out;subst hkl1;clear hk he hsm hrs hfit hkl HKL0 hp hq;go_enter Try.func60,Try.ntmps60
  obtain⟨x1,ke,ee,eke,hbe,hke,HBe⟩:=newV w #[.slice eo en ec] 72;replace HX:=Lib.hid (HX.out.below hbe.out);replace HE:=Lib.hid (HE.out.below hbe.out);replace HW:=Lib.hid (HW.out.trans (hbe.out.mono HW.out.size));obtain⟨x2,kf,ef,ekf,hbf,hkf,HBf⟩:=newV x1 #[.int .i64 15,.bool b,.slice ao l c,.string nm,.slice ko 2 kc] 29;replace HBe:=kBV hbf.out HBe;replace HX:=Lib.hid (HX.out.below hbf.out);replace HE:=Lib.hid (HE.out.below hbf.out);replace HW:=Lib.hid (HW.out.trans (hbf.out.mono HW.out.size));have e0:=cell_at (v:=.slice eo en ec) HBe.out 0 rfl;have fe0:=froz_at HBe.out 0;have c0:=cell_at (v:=.int .i64 15) HBf.out 0 rfl;have fc0:=froz_at HBf.out 0;have c1:=cell_at (v:=.bool b) HBf.out 1 rfl;have fc1:=froz_at HBf.out 1;have c2:=cell_at (v:=.slice ao l c) HBf.out 2 rfl;have fc2:=froz_at HBf.out 2
  have c3:=cell_at (v:=.string nm) HBf.out 3 rfl;have fc3:=froz_at HBf.out 3;have c4:=cell_at (v:=.slice ko 2 kc) HBf.out 4 rfl;have fc4:=froz_at HBf.out 4;obtain⟨a,bp,op,lp,cp,kop,klp,kcp,hkop,⟨p0,p1,p2,p3,p4⟩,hfp⟩:=HX.out.first;subst hkop;obtain⟨opp,hopp⟩:∃ x,x=p.op:=⟨_,rfl⟩
  obtain⟨nmp,hnmp⟩:∃ x,x=p.name:=⟨_,rfl⟩
  rw[<-hopp] at p0 hfp;rw[<-hnmp] at p3 hfp;have HFP:=Lib.hid hfp;have HPC:Hid (At5 x2 a opp bp op lp cp nmp kop klp kcp):=Lib.hid ⟨p0,p1,p2,p3,p4⟩;clear hopp hnmp hfp p0 p1 p2 p3 p4;obtain⟨a2,bq,oq,lq,cq,koq,klq,kcq,hkoq,⟨q0,q1,q2,q3,q4⟩,hfq⟩:=HX.out.second;injection hkoq with ha2;subst ha2;obtain⟨opq,hopq⟩:∃ x,x=q.op:=⟨_,rfl⟩
  obtain⟨nmq,hnmq⟩:∃ x,x=q.name:=⟨_,rfl⟩
  rw[<-hopq] at q0 hfq;rw[<-hnmq] at q3 hfq;have HFQ:=Lib.hid hfq;have HQC:Hid (At5 x2 ⟨a.block,a.off+5,none⟩ opq bq oq lq cq nmq koq klq kcq):=Lib.hid ⟨q0,q1,q2,q3,q4⟩;clear hopq hnmq hfq q0 q1 q2 q3 q4;go_upto_region 7 with fail
  clear e0 fe0 c0 fc0 c1 fc1 c2 fc2 c3 fc3 c4 fc4;have hlt_e:=lt_of_block HBe.out;have hlt_f:=lt_of_block HBf.out;have hog:Hid (∀ q,q<0->(fun q=>0) q<x2.heap.size):=Lib.hid (fun q h=>absurd h (Nat.not_lt_zero _));refine R7.region (by kernel_rfl) [[],[],[1],[1,2],[1,2,3],[0,1,2,3,4],[],[],[7],[7,8],[7,8,9],[0,1,2,3,4,5,6,7,8,9,10],[0,1,2,3,4,5,6,7,8,9,10,11],[0,1,2,3,4,5,6,7,8,9,10,11,12],[0,1,2,3,4,5,6,7,8,9,10,11,12,13]] [] [] (fun q=>0) 0 15 (by kernel_rfl) (by kernel_rfl) (by rfl) hog.out (fun q q' h h' hn=>absurd hn (by omega)) ?_;refine R7.Chain.det ?_ (by rfl) (fun T xs wr hA=>?_) ?_
  rotate_left 1
  ·have e2:=hA.pre 2 (by kernel_rfl);simp only[gsa,gsc,gsz] at e2;have hBq:wr.heap[ke]?=_:=(hA.bl _ hlt_e (fun q h=>absurd h (Nat.not_lt_zero _))).trans HBe.out;have q0:=cell_at (v:=.slice eo en ec) hBq 0 rfl;clear hBq;clear hA;refine⟨(by rfl),?_⟩;go_simp<;>(try with_reducible rfl)
  refine R7.Chain.det ?_ (by rfl) (fun T xs wr hA=>?_) ?_
  rotate_left 1
  ·have e3:=hA.pre 3 (by kernel_rfl);simp only[gsa,gsc,gsz] at e3;clear hA;refine⟨(by rfl),?_⟩;go_simp<;>(try with_reducible rfl)
  refine R7.Chain.det ?_ (by rfl) (fun T xs wr hA=>?_) ?_
  rotate_left 1
  ·have e19:=hA.tm 1 19 (by rfl) (by rfl);have f19:xs 1=_:=hA.fa 1 (by rfl)
   (try simp (disch:=first | rfl | decide) only [R7.mask_in] at f19)
   rw[f19] at e19;clear f19;have hBq:wr.heap[kf]?=_:=(hA.bl _ hlt_f (fun q h=>absurd h (Nat.not_lt_zero _))).trans HBf.out;have q0:=cell_at (v:=.int .i64 15) hBq 0 rfl;have q1:=cell_at (v:=.bool b) hBq 1 rfl;have q2:=cell_at (v:=.slice ao l c) hBq 2 rfl;have q3:=cell_at (v:=.string nm) hBq 3 rfl;have q4:=cell_at (v:=.slice (some a) 2 kc) hBq 4 rfl;clear hBq;clear hA;refine⟨(by rfl),?_⟩;go_simp<;>(try with_reducible rfl)
  refine R7.Chain.det ?_ (by rfl) (fun T xs wr hA=>?_) ?_
  rotate_left 1
  ·have e20:=hA.tm 2 20 (by rfl) (by rfl);have f20:xs 2=_:=hA.fa 2 (by rfl)
   (try simp (disch:=first | rfl | decide) only [R7.mask_in] at f20)
   rw[f20] at e20;clear f20;clear hA;refine⟨(by rfl),?_⟩;go_simp<;>(try with_reducible rfl)
  refine R7.Chain.det ?_ (by rfl) (fun T xs wr hA=>?_) ?_
  rotate_left 1
  ·have e21:=hA.tm 3 21 (by rfl) (by rfl);have f21:xs 3=_:=hA.fa 3 (by rfl)
   (try simp (disch:=first | rfl | decide) only [R7.mask_in] at f21)
   rw[f21] at e21;clear f21;have hbw:=undrew (hA.be x2.heap.size (Nat.le_refl _) (fun q h=>absurd h (Nat.not_lt_zero q)));obtain⟨q0,q1,q2,q3,q4⟩:=HPC.out.below hbw
   try simp only at q0 q1 q2 q3 q4
   clear hA;refine⟨(by rfl),?_⟩;go_simp<;>(try with_reducible rfl)
  refine R7.Chain.call (fun xs v w=>∃ y,v=y/\CI w y (asI (ev (rho env) p)) 600) (fun _ _ _ _ h hb=>by obtain⟨y,h1,h2⟩:=h;exact⟨y,h1,h2.below hb⟩) (fun _ _ _ _ _ _ h _=>by obtain⟨q,hq,_⟩:=h;exact absurd hq (Nat.not_lt_zero _)) (by rfl) (fun T xs wr hA=>?_) ?_
  ·have hsw:=(hA.be 0 (Nat.zero_le _) (fun _ _=>Nat.zero_le _)).size;have e18:=hA.tm 0 18 (by rfl) (by rfl);have f18:xs 0=_:=hA.fa 0 (by rfl)
   (try simp (disch:=first | rfl | decide) only [R7.mask_in] at f18)
   rw[f18] at e18;clear f18;have e22:=hA.tm 4 22 (by rfl) (by rfl);have f22:xs 4=_:=hA.fa 4 (by rfl)
   (try simp (disch:=first | rfl | decide) only [R7.mask_in] at f22)
   rw[f22] at e22;clear f22;have hbw:=undrew (hA.be x2.heap.size (Nat.le_refl _) (fun q h=>absurd h (Nat.not_lt_zero q)));have hfq:=HFP.out.below hbw;clear hA;refine⟨(by rfl),fun K hK=>?_⟩;go_simp
   refine (IN _ _ env p S _ hfq (HE.out.below hbw) HRP.out HP.out HSP.out).mono ?_;rintro e w' ⟨y,rfl,hy,hb'⟩;exact hK.out _ _ ⟨y,rfl,hy⟩ hb'
  refine R7.Chain.det ?_ (by rfl) (fun T xs wr hA=>?_) ?_
  rotate_left 1
  ·have e2:=hA.pre 2 (by kernel_rfl);simp only[gsa,gsc,gsz] at e2;have hBq:wr.heap[ke]?=_:=(hA.bl _ hlt_e (fun q h=>absurd h (Nat.not_lt_zero _))).trans HBe.out;have q0:=cell_at (v:=.slice eo en ec) hBq 0 rfl;clear hBq;clear hA;refine⟨(by rfl),?_⟩;go_simp<;>(try with_reducible rfl)
  refine R7.Chain.det ?_ (by rfl) (fun T xs wr hA=>?_) ?_
  rotate_left 1
  ·have e3:=hA.pre 3 (by kernel_rfl);simp only[gsa,gsc,gsz] at e3;clear hA;refine⟨(by rfl),?_⟩;go_simp<;>(try with_reducible rfl)
  refine R7.Chain.det ?_ (by rfl) (fun T xs wr hA=>?_) ?_
  rotate_left 1
  ·have e25:=hA.tm 7 25 (by rfl) (by rfl);have f25:xs 7=_:=hA.fa 7 (by rfl)
   (try simp (disch:=first | rfl | decide) only [R7.mask_in] at f25)
   rw[f25] at e25;clear f25;have hBq:wr.heap[kf]?=_:=(hA.bl _ hlt_f (fun q h=>absurd h (Nat.not_lt_zero _))).trans HBf.out;have q0:=cell_at (v:=.int .i64 15) hBq 0 rfl;have q1:=cell_at (v:=.bool b) hBq 1 rfl;have q2:=cell_at (v:=.slice ao l c) hBq 2 rfl;have q3:=cell_at (v:=.string nm) hBq 3 rfl;have q4:=cell_at (v:=.slice (some a) 2 kc) hBq 4 rfl;clear hBq;clear hA;refine⟨(by rfl),?_⟩;go_simp<;>(try with_reducible rfl)
  refine R7.Chain.det ?_ (by rfl) (fun T xs wr hA=>?_) ?_
  rotate_left 1
  ·have e26:=hA.tm 8 26 (by rfl) (by rfl);have f26:xs 8=_:=hA.fa 8 (by rfl)
   (try simp (disch:=first | rfl | decide) only [R7.mask_in] at f26)
   rw[f26] at e26;clear f26;clear hA;refine⟨(by rfl),?_⟩;go_simp<;>(try with_reducible rfl)
  refine R7.Chain.det ?_ (by rfl) (fun T xs wr hA=>?_) ?_
  rotate_left 1
  ·have e27:=hA.tm 9 27 (by rfl) (by rfl);have f27:xs 9=_:=hA.fa 9 (by rfl)
   (try simp (disch:=first | rfl | decide) only [R7.mask_in] at f27)
   rw[f27] at e27;clear f27;have hbw:=undrew (hA.be x2.heap.size (Nat.le_refl _) (fun q h=>absurd h (Nat.not_lt_zero q)));obtain⟨q0,q1,q2,q3,q4⟩:=HQC.out.below hbw
   try simp only at q0 q1 q2 q3 q4
   clear hA;refine⟨(by rfl),?_⟩;go_simp<;>(try with_reducible rfl)
  refine R7.Chain.call (fun xs v w=>∃ y,v=y/\CI w y (asI (ev (rho env) q)) 600) (fun _ _ _ _ h hb=>by obtain⟨y,h1,h2⟩:=h;exact⟨y,h1,h2.below hb⟩) (fun _ _ _ _ _ _ h _=>by obtain⟨q,hq,_⟩:=h;exact absurd hq (Nat.not_lt_zero _)) (by rfl) (fun T xs wr hA=>?_) ?_
  ·have hsw:=(hA.be 0 (Nat.zero_le _) (fun _ _=>Nat.zero_le _)).size;have e24:=hA.tm 6 24 (by rfl) (by rfl);have f24:xs 6=_:=hA.fa 6 (by rfl)
   (try simp (disch:=first | rfl | decide) only [R7.mask_in] at f24)
   rw[f24] at e24;clear f24;have e28:=hA.tm 10 28 (by rfl) (by rfl);have f28:xs 10=_:=hA.fa 10 (by rfl)
   (try simp (disch:=first | rfl | decide) only [R7.mask_in] at f28)
   rw[f28] at e28;clear f28;have hbw:=undrew (hA.be x2.heap.size (Nat.le_refl _) (fun q h=>absurd h (Nat.not_lt_zero q)));have hfq:=HFQ.out.below hbw;clear hA;refine⟨(by rfl),fun K hK=>?_⟩;go_simp
   refine (IN _ _ env q S _ hfq (HE.out.below hbw) HRQ.out HQ.out HSQ.out).mono ?_;rintro e w' ⟨y,rfl,hy,hb'⟩;exact hK.out _ _ ⟨y,rfl,hy⟩ hb'
  refine R7.Chain.call (fun xs v w=>v=.int .i64 (sgnZ (asI (ev (rho env) p) - asI (ev (rho env) q)))) (fun _ _ _ _ h _=>h) (fun _ _ _ _ _ h _ _=>h) (by rfl) (fun T xs wr hA=>?_) ?_
  ·have hsw:=(hA.be 0 (Nat.zero_le _) (fun _ _=>Nat.zero_le _)).size;have e23:=hA.tm 5 23 (by rfl) (by rfl);have e29:=hA.tm 11 29 (by rfl) (by rfl);have hF5:∃ y,(xs 5)=y/\CI wr y (asI (ev (rho env) p)) 600:=hA.fa 5 (by rfl);obtain⟨y5,e5,hy5⟩:=hF5;have hF11:∃ y,(xs 11)=y/\CI wr y (asI (ev (rho env) q)) 600:=hA.fa 11 (by rfl);obtain⟨y11,e11,hy11⟩:=hF11;clear hA;refine⟨(by rfl),fun K hK=>?_⟩;go_simp
   refine (wcmp_any _ _ (asI (ev (rho env) p)) (asI (ev (rho env) q)) 600 600 _ (by first | exact hy5.gi | (rw[e5];exact hy5.gi)) (by first | exact hy11.gi | (rw[e11];exact hy11.gi)) (by decide) (by decide)).mono ?_;rintro e w' ⟨rfl,hb'⟩;exact hK.out _ _ rfl hb'
  refine R7.Chain.det ?_ (by rfl) (fun T xs wr hA=>?_) ?_
  rotate_left 1
  ·have e30:=hA.tm 12 30 (by rfl) (by rfl);have f30:xs 12=(.int .i64 (sgnZ (asI (ev (rho env) p) - asI (ev (rho env) q)))):=hA.fa 12 (by rfl);rw[f30] at e30;clear f30;clear hA;refine⟨(by rfl),?_⟩;go_simp<;>(try with_reducible rfl)
  refine R7.Chain.det ?_ (by rfl) (fun T xs wr hA=>?_) ?_
  rotate_left 1
  ·have e31:=hA.tm 13 31 (by rfl) (by rfl);have f31:xs 13=_:=hA.fa 13 (by rfl)
   (try simp (disch:=first | rfl | decide) only [R7.mask_in] at f31)
   rw[f31] at e31;clear f31;clear hA;refine⟨(by rfl),?_⟩;go_simp<;>(try with_reducible rfl)
  refine R7.Chain.done (fun xs x3 hL=>?_);obtain⟨⟨hbe,hbl⟩,hf,-,-⟩:=hL;have f0:xs 0=_:=hf 0 (by decide)
  (try simp (disch:=first | rfl | decide) only [R7.mask_in] at f0)
  have f1:xs 1=_:=hf 1 (by decide)
  (try simp (disch:=first | rfl | decide) only [R7.mask_in] at f1)
  have f2:xs 2=_:=hf 2 (by decide)
  (try simp (disch:=first | rfl | decide) only [R7.mask_in] at f2)
  have f3:xs 3=_:=hf 3 (by decide)
  (try simp (disch:=first | rfl | decide) only [R7.mask_in] at f3)
  have f4:xs 4=_:=hf 4 (by decide)
  (try simp (disch:=first | rfl | decide) only [R7.mask_in] at f4)
  have F5:∃ y,(xs 5)=y/\CI x3 y (asI (ev (rho env) p)) 600:=hf 5 (by decide);have f6:xs 6=_:=hf 6 (by decide)
  (try simp (disch:=first | rfl | decide) only [R7.mask_in] at f6)
  have f7:xs 7=_:=hf 7 (by decide)
  (try simp (disch:=first | rfl | decide) only [R7.mask_in] at f7)
  have f8:xs 8=_:=hf 8 (by decide)
  (try simp (disch:=first | rfl | decide) only [R7.mask_in] at f8)
  have f9:xs 9=_:=hf 9 (by decide)
  (try simp (disch:=first | rfl | decide) only [R7.mask_in] at f9)
  have f10:xs 10=_:=hf 10 (by decide)
  (try simp (disch:=first | rfl | decide) only [R7.mask_in] at f10)
  have F11:∃ y,(xs 11)=y/\CI x3 y (asI (ev (rho env) q)) 600:=hf 11 (by decide);have f12:xs 12=(.int .i64 (sgnZ (asI (ev (rho env) p) - asI (ev (rho env) q)))):=hf 12 (by decide);have f13:xs 13=_:=hf 13 (by decide)
  (try simp (disch:=first | rfl | decide) only [R7.mask_in] at f13)
  have f14:xs 14=_:=hf 14 (by decide)
  (try simp (disch:=first | rfl | decide) only [R7.mask_in] at f14)
  have hb0:Below 0 x2 x3:=undrew (hbe 0 (Nat.zero_le _) (fun _ _=>Nat.zero_le _));have hgr:∀ j,j<x2.heap.size->(∀ q,q<0->(fun q=>0) q≠j)->x3.heap[j]?=x2.heap[j]?:=hbl;clear hbe hbl hf;have hb:Below x2.heap.size x2 x3:=⟨hb0.os,hb0.tape,hb0.output,hb0.size,fun q hq=>hgr q hq (fun q h=>absurd h (Nat.not_lt_zero _))⟩
  refine R7.rest_done ?_;simp only[R7.fill,t5_,t6_,t7_,f0,f1,f2,f3,f4,f6,f7,f8,f9,f10,f12,f13,f14];clear hb0 hgr hog hlt_e hlt_f f0 f1 f2 f3 f4 f6 f7 f8 f9 f10 f12 f13 f14;replace HBe:=kBV hb HBe;replace HBf:=kBV hb HBf;replace HX:=Lib.hid (HX.out.below hb);replace HE:=Lib.hid (HE.out.below hb);replace HW:=Lib.hid (HW.out.trans (hb.mono HW.out.size));replace HFP:=Lib.hid (HFP.out.below hb);replace HPC:=Lib.hid (HPC.out.below hb);replace HFQ:=Lib.hid (HFQ.out.below hb);replace HQC:=Lib.hid (HQC.out.below hb);replace hb:=Lib.hid hb;go_wp2_with fail
  go_ret
  refine⟨?_,HW.out⟩
  have hle:decide (sgnZ (asI (ev (rho env) p) - asI (ev (rho env) q))<=0)=decide (asI (ev (rho env) p)<=asI (ev (rho env) q)):=by
   unfold sgnZ;congr 1;apply propext;(repeat' split)<;>constructor<;>intro h<;>first | omega | (exfalso;omega)
  rw[HEV.out]
  show Ending.returned _=Ending.returned (.bool (decide (asI (ev (rho env) p)<=asI (ev (rho env) q))))
  rw[<-hle];rfl
 ·have HX:=Lib.hid hk;have HE:=Lib.hid he;have HKL0:=Lib.hid hkl;have HW:=Lib.hid (Below.refl w.heap.size w);have hh:srts ks=[0,0]\/srts ks=[2,2]:=by simpa [fitF,kidsOk] using hfit
  obtain⟨p,q,rfl⟩:∃ p q,ks=[p,q]:=by rcases hh with hh | hh<;>(obtain⟨p,q,rfl,-,-⟩:=srts_two hh;exact⟨p,q,rfl⟩)
  have hp:=trivial;have hq:=trivial;have HSP:=Lib.hid (hsm.kid p (by simp));have HRP:=Lib.hid (hrs p (by simp));have HP:=Lib.hid hp;have HSQ:=Lib.hid (hsm.kid q (by simp));have HRQ:=Lib.hid (hrs q (by simp));have HQ:=Lib.hid hq;have HEV:Hid (asB (ev (rho env) (.node 16 z nm [p,q]))=asB (opV (rho env) 16 z nm [ev (rho env) p,ev (rho env) q])):=Lib.hid (by rw[ev,evs,evs,evs]);have hkl1:kl=2:=HKL0.out;subst hkl1;clear hk he hsm hrs hfit hkl HKL0 hp hq;clear hh;go_enter Try.func60,Try.ntmps60
  obtain⟨x1,ke,ee,eke,hbe,hke,HBe⟩:=newV w #[.slice eo en ec] 72;replace HX:=Lib.hid (HX.out.below hbe.out);replace HE:=Lib.hid (HE.out.below hbe.out);replace HW:=Lib.hid (HW.out.trans (hbe.out.mono HW.out.size));obtain⟨x2,kf,ef,ekf,hbf,hkf,HBf⟩:=newV x1 #[.int .i64 16,.bool b,.slice ao l c,.string nm,.slice ko 2 kc] 29;replace HBe:=kBV hbf.out HBe;replace HX:=Lib.hid (HX.out.below hbf.out);replace HE:=Lib.hid (HE.out.below hbf.out);replace HW:=Lib.hid (HW.out.trans (hbf.out.mono HW.out.size));have e0:=cell_at (v:=.slice eo en ec) HBe.out 0 rfl;have fe0:=froz_at HBe.out 0;have c0:=cell_at (v:=.int .i64 16) HBf.out 0 rfl;have fc0:=froz_at HBf.out 0;have c1:=cell_at (v:=.bool b) HBf.out 1 rfl;have fc1:=froz_at HBf.out 1;have c2:=cell_at (v:=.slice ao l c) HBf.out 2 rfl;have fc2:=froz_at HBf.out 2
  have c3:=cell_at (v:=.string nm) HBf.out 3 rfl;have fc3:=froz_at HBf.out 3;have c4:=cell_at (v:=.slice ko 2 kc) HBf.out 4 rfl;have fc4:=froz_at HBf.out 4;obtain⟨a,bp,op,lp,cp,kop,klp,kcp,hkop,⟨p0,p1,p2,p3,p4⟩,hfp⟩:=HX.out.first;subst hkop;obtain⟨opp,hopp⟩:∃ x,x=p.op:=⟨_,rfl⟩
  obtain⟨nmp,hnmp⟩:∃ x,x=p.name:=⟨_,rfl⟩
  rw[<-hopp] at p0 hfp;rw[<-hnmp] at p3 hfp;have HFP:=Lib.hid hfp;have HPC:Hid (At5 x2 a opp bp op lp cp nmp kop klp kcp):=Lib.hid ⟨p0,p1,p2,p3,p4⟩;clear hopp hnmp hfp p0 p1 p2 p3 p4;obtain⟨a2,bq,oq,lq,cq,koq,klq,kcq,hkoq,⟨q0,q1,q2,q3,q4⟩,hfq⟩:=HX.out.second;injection hkoq with ha2;subst ha2;obtain⟨opq,hopq⟩:∃ x,x=q.op:=⟨_,rfl⟩
  obtain⟨nmq,hnmq⟩:∃ x,x=q.name:=⟨_,rfl⟩
  rw[<-hopq] at q0 hfq;rw[<-hnmq] at q3 hfq;have HFQ:=Lib.hid hfq;have HQC:Hid (At5 x2 ⟨a.block,a.off+5,none⟩ opq bq oq lq cq nmq koq klq kcq):=Lib.hid ⟨q0,q1,q2,q3,q4⟩;clear hopq hnmq hfq q0 q1 q2 q3 q4;go_upto_region 9 with fail
  clear e0 fe0 c0 fc0 c1 fc1 c2 fc2 c3 fc3 c4 fc4;have hlt_e:=lt_of_block HBe.out;have hlt_f:=lt_of_block HBf.out;have hog:Hid (∀ q,q<0->(fun q=>0) q<x2.heap.size):=Lib.hid (fun q h=>absurd h (Nat.not_lt_zero _));refine R7.region (by kernel_rfl) [[],[],[1],[1,2],[1,2,3],[0,1,2,3,4],[],[],[7],[7,8],[7,8,9],[0,1,2,3,4,5,6,7,8,9,10],[0,1,2,3,4,5,6,7,8,9,10,11],[0,1,2,3,4,5,6,7,8,9,10,11,12]] [] [] (fun q=>0) 0 14 (by kernel_rfl) (by kernel_rfl) (by rfl) hog.out (fun q q' h h' hn=>absurd hn (by omega)) ?_;refine R7.Chain.det ?_ (by rfl) (fun T xs wr hA=>?_) ?_
  rotate_left 1
  ·have e2:=hA.pre 2 (by kernel_rfl);simp only[gsa,gsc,gsz] at e2;have hBq:wr.heap[ke]?=_:=(hA.bl _ hlt_e (fun q h=>absurd h (Nat.not_lt_zero _))).trans HBe.out;have q0:=cell_at (v:=.slice eo en ec) hBq 0 rfl;clear hBq;clear hA;refine⟨(by rfl),?_⟩;go_simp<;>(try with_reducible rfl)
  refine R7.Chain.det ?_ (by rfl) (fun T xs wr hA=>?_) ?_
  rotate_left 1
  ·have e3:=hA.pre 3 (by kernel_rfl);simp only[gsa,gsc,gsz] at e3;clear hA;refine⟨(by rfl),?_⟩;go_simp<;>(try with_reducible rfl)
  refine R7.Chain.det ?_ (by rfl) (fun T xs wr hA=>?_) ?_
  rotate_left 1
  ·have e35:=hA.tm 1 35 (by rfl) (by rfl);have f35:xs 1=_:=hA.fa 1 (by rfl)
   (try simp (disch:=first | rfl | decide) only [R7.mask_in] at f35)
   rw[f35] at e35;clear f35;have hBq:wr.heap[kf]?=_:=(hA.bl _ hlt_f (fun q h=>absurd h (Nat.not_lt_zero _))).trans HBf.out;have q0:=cell_at (v:=.int .i64 16) hBq 0 rfl;have q1:=cell_at (v:=.bool b) hBq 1 rfl;have q2:=cell_at (v:=.slice ao l c) hBq 2 rfl;have q3:=cell_at (v:=.string nm) hBq 3 rfl;have q4:=cell_at (v:=.slice (some a) 2 kc) hBq 4 rfl;clear hBq;clear hA;refine⟨(by rfl),?_⟩;go_simp<;>(try with_reducible rfl)
  refine R7.Chain.det ?_ (by rfl) (fun T xs wr hA=>?_) ?_
  rotate_left 1
  ·have e36:=hA.tm 2 36 (by rfl) (by rfl);have f36:xs 2=_:=hA.fa 2 (by rfl)
   (try simp (disch:=first | rfl | decide) only [R7.mask_in] at f36)
   rw[f36] at e36;clear f36;clear hA;refine⟨(by rfl),?_⟩;go_simp<;>(try with_reducible rfl)
  refine R7.Chain.det ?_ (by rfl) (fun T xs wr hA=>?_) ?_
  rotate_left 1
  ·have e37:=hA.tm 3 37 (by rfl) (by rfl);have f37:xs 3=_:=hA.fa 3 (by rfl)
   (try simp (disch:=first | rfl | decide) only [R7.mask_in] at f37)
   rw[f37] at e37;clear f37;have hbw:=undrew (hA.be x2.heap.size (Nat.le_refl _) (fun q h=>absurd h (Nat.not_lt_zero q)));obtain⟨q0,q1,q2,q3,q4⟩:=HPC.out.below hbw
   try simp only at q0 q1 q2 q3 q4
   clear hA;refine⟨(by rfl),?_⟩;go_simp<;>(try with_reducible rfl)
  refine R7.Chain.call (fun xs v w=>∃ y,v=y/\VC w y (ev (rho env) p)) (fun _ _ _ _ h hb=>by obtain⟨y,h1,h2⟩:=h;exact⟨y,h1,h2.below hb⟩) (fun _ _ _ _ _ _ h _=>by obtain⟨q,hq,_⟩:=h;exact absurd hq (Nat.not_lt_zero _)) (by rfl) (fun T xs wr hA=>?_) ?_
  ·have hsw:=(hA.be 0 (Nat.zero_le _) (fun _ _=>Nat.zero_le _)).size;have e34:=hA.tm 0 34 (by rfl) (by rfl);have f34:xs 0=_:=hA.fa 0 (by rfl)
   (try simp (disch:=first | rfl | decide) only [R7.mask_in] at f34)
   rw[f34] at e34;clear f34;have e38:=hA.tm 4 38 (by rfl) (by rfl);have f38:xs 4=_:=hA.fa 4 (by rfl)
   (try simp (disch:=first | rfl | decide) only [R7.mask_in] at f38)
   rw[f38] at e38;clear f38;have hbw:=undrew (hA.be x2.heap.size (Nat.le_refl _) (fun q h=>absurd h (Nat.not_lt_zero q)));have hfq:=HFP.out.below hbw;clear hA;refine⟨(by rfl),fun K hK=>?_⟩;go_simp
   refine (IV _ _ env p S _ hfq (HE.out.below hbw) HRP.out HSP.out).mono ?_;rintro e w' ⟨y,rfl,hy,hb'⟩;exact hK.out _ _ ⟨y,rfl,hy⟩ hb'
  refine R7.Chain.det ?_ (by rfl) (fun T xs wr hA=>?_) ?_
  rotate_left 1
  ·have e2:=hA.pre 2 (by kernel_rfl);simp only[gsa,gsc,gsz] at e2;have hBq:wr.heap[ke]?=_:=(hA.bl _ hlt_e (fun q h=>absurd h (Nat.not_lt_zero _))).trans HBe.out;have q0:=cell_at (v:=.slice eo en ec) hBq 0 rfl;clear hBq;clear hA;refine⟨(by rfl),?_⟩;go_simp<;>(try with_reducible rfl)
  refine R7.Chain.det ?_ (by rfl) (fun T xs wr hA=>?_) ?_
  rotate_left 1
  ·have e3:=hA.pre 3 (by kernel_rfl);simp only[gsa,gsc,gsz] at e3;clear hA;refine⟨(by rfl),?_⟩;go_simp<;>(try with_reducible rfl)
  refine R7.Chain.det ?_ (by rfl) (fun T xs wr hA=>?_) ?_
  rotate_left 1
  ·have e41:=hA.tm 7 41 (by rfl) (by rfl);have f41:xs 7=_:=hA.fa 7 (by rfl)
   (try simp (disch:=first | rfl | decide) only [R7.mask_in] at f41)
   rw[f41] at e41;clear f41;have hBq:wr.heap[kf]?=_:=(hA.bl _ hlt_f (fun q h=>absurd h (Nat.not_lt_zero _))).trans HBf.out;have q0:=cell_at (v:=.int .i64 16) hBq 0 rfl;have q1:=cell_at (v:=.bool b) hBq 1 rfl;have q2:=cell_at (v:=.slice ao l c) hBq 2 rfl;have q3:=cell_at (v:=.string nm) hBq 3 rfl;have q4:=cell_at (v:=.slice (some a) 2 kc) hBq 4 rfl;clear hBq;clear hA;refine⟨(by rfl),?_⟩;go_simp<;>(try with_reducible rfl)
  refine R7.Chain.det ?_ (by rfl) (fun T xs wr hA=>?_) ?_
  rotate_left 1
  ·have e42:=hA.tm 8 42 (by rfl) (by rfl);have f42:xs 8=_:=hA.fa 8 (by rfl)
   (try simp (disch:=first | rfl | decide) only [R7.mask_in] at f42)
   rw[f42] at e42;clear f42;clear hA;refine⟨(by rfl),?_⟩;go_simp<;>(try with_reducible rfl)
  refine R7.Chain.det ?_ (by rfl) (fun T xs wr hA=>?_) ?_
  rotate_left 1
  ·have e43:=hA.tm 9 43 (by rfl) (by rfl);have f43:xs 9=_:=hA.fa 9 (by rfl)
   (try simp (disch:=first | rfl | decide) only [R7.mask_in] at f43)
   rw[f43] at e43;clear f43;have hbw:=undrew (hA.be x2.heap.size (Nat.le_refl _) (fun q h=>absurd h (Nat.not_lt_zero q)));obtain⟨q0,q1,q2,q3,q4⟩:=HQC.out.below hbw
   try simp only at q0 q1 q2 q3 q4
   clear hA;refine⟨(by rfl),?_⟩;go_simp<;>(try with_reducible rfl)
  refine R7.Chain.call (fun xs v w=>∃ y,v=y/\VC w y (ev (rho env) q)) (fun _ _ _ _ h hb=>by obtain⟨y,h1,h2⟩:=h;exact⟨y,h1,h2.below hb⟩) (fun _ _ _ _ _ _ h _=>by obtain⟨q,hq,_⟩:=h;exact absurd hq (Nat.not_lt_zero _)) (by rfl) (fun T xs wr hA=>?_) ?_
  ·have hsw:=(hA.be 0 (Nat.zero_le _) (fun _ _=>Nat.zero_le _)).size;have e40:=hA.tm 6 40 (by rfl) (by rfl);have f40:xs 6=_:=hA.fa 6 (by rfl)
   (try simp (disch:=first | rfl | decide) only [R7.mask_in] at f40)
   rw[f40] at e40;clear f40;have e44:=hA.tm 10 44 (by rfl) (by rfl);have f44:xs 10=_:=hA.fa 10 (by rfl)
   (try simp (disch:=first | rfl | decide) only [R7.mask_in] at f44)
   rw[f44] at e44;clear f44;have hbw:=undrew (hA.be x2.heap.size (Nat.le_refl _) (fun q h=>absurd h (Nat.not_lt_zero q)));have hfq:=HFQ.out.below hbw;clear hA;refine⟨(by rfl),fun K hK=>?_⟩;go_simp
   refine (IV _ _ env q S _ hfq (HE.out.below hbw) HRQ.out HSQ.out).mono ?_;rintro e w' ⟨y,rfl,hy,hb'⟩;exact hK.out _ _ ⟨y,rfl,hy⟩ hb'
  refine R7.Chain.call (fun xs v w=>v=.bool (decide (ev (rho env) p=ev (rho env) q))) (fun _ _ _ _ h _=>h) (fun _ _ _ _ _ h _ _=>h) (by rfl) (fun T xs wr hA=>?_) ?_
  ·have hsw:=(hA.be 0 (Nat.zero_le _) (fun _ _=>Nat.zero_le _)).size;have e39:=hA.tm 5 39 (by rfl) (by rfl);have e45:=hA.tm 11 45 (by rfl) (by rfl);have hF5:∃ y,(xs 5)=y/\VC wr y (ev (rho env) p):=hA.fa 5 (by rfl);obtain⟨y5,e5,hy5⟩:=hF5;have hF11:∃ y,(xs 11)=y/\VC wr y (ev (rho env) q):=hA.fa 11 (by rfl);obtain⟨y11,e11,hy11⟩:=hF11;clear hA;refine⟨(by rfl),fun K hK=>?_⟩;go_simp
   refine (same_p _ _ (ev (rho env) p) (ev (rho env) q) _ (by first | exact hy5 | (rw[e5];exact hy5)) (by first | exact hy11 | (rw[e11];exact hy11))).mono ?_;rintro e w' ⟨rfl,hb'⟩;exact hK.out _ _ rfl hb'
  refine R7.Chain.det ?_ (by rfl) (fun T xs wr hA=>?_) ?_
  rotate_left 1
  ·have e46:=hA.tm 12 46 (by rfl) (by rfl);have f46:xs 12=(.bool (decide (ev (rho env) p=ev (rho env) q))):=hA.fa 12 (by rfl);rw[f46] at e46;clear f46;clear hA;refine⟨(by rfl),?_⟩;go_simp<;>(try with_reducible rfl)
  refine R7.Chain.done (fun xs x3 hL=>?_);obtain⟨⟨hbe,hbl⟩,hf,-,-⟩:=hL;have f0:xs 0=_:=hf 0 (by decide)
  (try simp (disch:=first | rfl | decide) only [R7.mask_in] at f0)
  have f1:xs 1=_:=hf 1 (by decide)
  (try simp (disch:=first | rfl | decide) only [R7.mask_in] at f1)
  have f2:xs 2=_:=hf 2 (by decide)
  (try simp (disch:=first | rfl | decide) only [R7.mask_in] at f2)
  have f3:xs 3=_:=hf 3 (by decide)
  (try simp (disch:=first | rfl | decide) only [R7.mask_in] at f3)
  have f4:xs 4=_:=hf 4 (by decide)
  (try simp (disch:=first | rfl | decide) only [R7.mask_in] at f4)
  have F5:∃ y,(xs 5)=y/\VC x3 y (ev (rho env) p):=hf 5 (by decide);have f6:xs 6=_:=hf 6 (by decide)
  (try simp (disch:=first | rfl | decide) only [R7.mask_in] at f6)
  have f7:xs 7=_:=hf 7 (by decide)
  (try simp (disch:=first | rfl | decide) only [R7.mask_in] at f7)
  have f8:xs 8=_:=hf 8 (by decide)
  (try simp (disch:=first | rfl | decide) only [R7.mask_in] at f8)
  have f9:xs 9=_:=hf 9 (by decide)
  (try simp (disch:=first | rfl | decide) only [R7.mask_in] at f9)
  have f10:xs 10=_:=hf 10 (by decide)
  (try simp (disch:=first | rfl | decide) only [R7.mask_in] at f10)
  have F11:∃ y,(xs 11)=y/\VC x3 y (ev (rho env) q):=hf 11 (by decide);have f12:xs 12=(.bool (decide (ev (rho env) p=ev (rho env) q))):=hf 12 (by decide);have f13:xs 13=_:=hf 13 (by decide)
  (try simp (disch:=first | rfl | decide) only [R7.mask_in] at f13)
  have hb0:Below 0 x2 x3:=undrew (hbe 0 (Nat.zero_le _) (fun _ _=>Nat.zero_le _));have hgr:∀ j,j<x2.heap.size->(∀ q,q<0->(fun q=>0) q≠j)->x3.heap[j]?=x2.heap[j]?:=hbl;clear hbe hbl hf;have hb:Below x2.heap.size x2 x3:=⟨hb0.os,hb0.tape,hb0.output,hb0.size,fun q hq=>hgr q hq (fun q h=>absurd h (Nat.not_lt_zero _))⟩
  refine R7.rest_done ?_;simp only[R7.fill,t5_,t6_,t7_,f0,f1,f2,f3,f4,f6,f7,f8,f9,f10,f12,f13];clear hb0 hgr hog hlt_e hlt_f f0 f1 f2 f3 f4 f6 f7 f8 f9 f10 f12 f13;replace HBe:=kBV hb HBe;replace HBf:=kBV hb HBf;replace HX:=Lib.hid (HX.out.below hb);replace HE:=Lib.hid (HE.out.below hb);replace HW:=Lib.hid (HW.out.trans (hb.mono HW.out.size));replace HFP:=Lib.hid (HFP.out.below hb);replace HPC:=Lib.hid (HPC.out.below hb);replace HFQ:=Lib.hid (HFQ.out.below hb);replace HQC:=Lib.hid (HQC.out.below hb);replace hb:=Lib.hid hb;go_wp2_with fail
  go_ret
  refine⟨?_,HW.out⟩;rw[HEV.out];rfl
 ·have HX:=Lib.hid hk;have HE:=Lib.hid he;have HKL0:=Lib.hid hkl;have HW:=Lib.hid (Below.refl w.heap.size w);obtain⟨p,rfl,hp⟩:=srts_one (ks:=ks) (s:=1) (by simpa [fitF,kidsOk] using hfit);have HSP:=Lib.hid (hsm.kid p (by simp));have HRP:=Lib.hid (hrs p (by simp));have HP:=Lib.hid hp;have HEV:Hid (asB (ev (rho env) (.node 17 z nm [p]))=asB (opV (rho env) 17 z nm [ev (rho env) p])):=Lib.hid (by rw[ev,evs,evs]);have hkl1:kl=1:=HKL0.out;subst hkl1;clear hk he hsm hrs hfit hkl HKL0 hp;go_enter Try.func60,Try.ntmps60
  obtain⟨x1,ke,ee,eke,hbe,hke,HBe⟩:=newV w #[.slice eo en ec] 72;replace HX:=Lib.hid (HX.out.below hbe.out);replace HE:=Lib.hid (HE.out.below hbe.out);replace HW:=Lib.hid (HW.out.trans (hbe.out.mono HW.out.size));obtain⟨x2,kf,ef,ekf,hbf,hkf,HBf⟩:=newV x1 #[.int .i64 17,.bool b,.slice ao l c,.string nm,.slice ko 1 kc] 29;replace HBe:=kBV hbf.out HBe;replace HX:=Lib.hid (HX.out.below hbf.out);replace HE:=Lib.hid (HE.out.below hbf.out);replace HW:=Lib.hid (HW.out.trans (hbf.out.mono HW.out.size));have e0:=cell_at (v:=.slice eo en ec) HBe.out 0 rfl;have fe0:=froz_at HBe.out 0;have c0:=cell_at (v:=.int .i64 17) HBf.out 0 rfl;have fc0:=froz_at HBf.out 0;have c1:=cell_at (v:=.bool b) HBf.out 1 rfl;have fc1:=froz_at HBf.out 1;have c2:=cell_at (v:=.slice ao l c) HBf.out 2 rfl;have fc2:=froz_at HBf.out 2
  have c3:=cell_at (v:=.string nm) HBf.out 3 rfl;have fc3:=froz_at HBf.out 3;have c4:=cell_at (v:=.slice ko 1 kc) HBf.out 4 rfl;have fc4:=froz_at HBf.out 4;obtain⟨a,bp,op,lp,cp,kop,klp,kcp,hkop,⟨p0,p1,p2,p3,p4⟩,hfp⟩:=HX.out.first;subst hkop;obtain⟨opp,hopp⟩:∃ x,x=p.op:=⟨_,rfl⟩
  obtain⟨nmp,hnmp⟩:∃ x,x=p.name:=⟨_,rfl⟩
  rw[<-hopp] at p0 hfp;rw[<-hnmp] at p3 hfp;have HFP:=Lib.hid hfp;have HPC:Hid (At5 x2 a opp bp op lp cp nmp kop klp kcp):=Lib.hid ⟨p0,p1,p2,p3,p4⟩;clear hopp hnmp hfp p0 p1 p2 p3 p4;go_upto_region 13 with fail
  clear e0 fe0 c0 fc0 c1 fc1 c2 fc2 c3 fc3 c4 fc4;have hlt_e:=lt_of_block HBe.out;have hlt_f:=lt_of_block HBf.out;have hog:Hid (∀ q,q<0->(fun q=>0) q<x2.heap.size):=Lib.hid (fun q h=>absurd h (Nat.not_lt_zero _));refine R7.region (by kernel_rfl) [[],[],[1],[1,2],[1,2,3],[0,1,2,3,4],[0,1,2,3,4,5],[0,1,2,3,4,5,6]] [] [] (fun q=>0) 0 8 (by kernel_rfl) (by kernel_rfl) (by rfl) hog.out (fun q q' h h' hn=>absurd hn (by omega)) ?_;refine R7.Chain.det ?_ (by rfl) (fun T xs wr hA=>?_) ?_
  rotate_left 1
  ·have e2:=hA.pre 2 (by kernel_rfl);simp only[gsa,gsc,gsz] at e2;have hBq:wr.heap[ke]?=_:=(hA.bl _ hlt_e (fun q h=>absurd h (Nat.not_lt_zero _))).trans HBe.out;have q0:=cell_at (v:=.slice eo en ec) hBq 0 rfl;clear hBq;clear hA;refine⟨(by rfl),?_⟩;go_simp<;>(try with_reducible rfl)
  refine R7.Chain.det ?_ (by rfl) (fun T xs wr hA=>?_) ?_
  rotate_left 1
  ·have e3:=hA.pre 3 (by kernel_rfl);simp only[gsa,gsc,gsz] at e3;clear hA;refine⟨(by rfl),?_⟩;go_simp<;>(try with_reducible rfl)
  refine R7.Chain.det ?_ (by rfl) (fun T xs wr hA=>?_) ?_
  rotate_left 1
  ·have e65:=hA.tm 1 65 (by rfl) (by rfl);have f65:xs 1=_:=hA.fa 1 (by rfl)
   (try simp (disch:=first | rfl | decide) only [R7.mask_in] at f65)
   rw[f65] at e65;clear f65;have hBq:wr.heap[kf]?=_:=(hA.bl _ hlt_f (fun q h=>absurd h (Nat.not_lt_zero _))).trans HBf.out;have q0:=cell_at (v:=.int .i64 17) hBq 0 rfl;have q1:=cell_at (v:=.bool b) hBq 1 rfl;have q2:=cell_at (v:=.slice ao l c) hBq 2 rfl;have q3:=cell_at (v:=.string nm) hBq 3 rfl;have q4:=cell_at (v:=.slice (some a) 1 kc) hBq 4 rfl;clear hBq;clear hA;refine⟨(by rfl),?_⟩;go_simp<;>(try with_reducible rfl)
  refine R7.Chain.det ?_ (by rfl) (fun T xs wr hA=>?_) ?_
  rotate_left 1
  ·have e66:=hA.tm 2 66 (by rfl) (by rfl);have f66:xs 2=_:=hA.fa 2 (by rfl)
   (try simp (disch:=first | rfl | decide) only [R7.mask_in] at f66)
   rw[f66] at e66;clear f66;clear hA;refine⟨(by rfl),?_⟩;go_simp<;>(try with_reducible rfl)
  refine R7.Chain.det ?_ (by rfl) (fun T xs wr hA=>?_) ?_
  rotate_left 1
  ·have e67:=hA.tm 3 67 (by rfl) (by rfl);have f67:xs 3=_:=hA.fa 3 (by rfl)
   (try simp (disch:=first | rfl | decide) only [R7.mask_in] at f67)
   rw[f67] at e67;clear f67;have hbw:=undrew (hA.be x2.heap.size (Nat.le_refl _) (fun q h=>absurd h (Nat.not_lt_zero q)));obtain⟨q0,q1,q2,q3,q4⟩:=HPC.out.below hbw
   try simp only at q0 q1 q2 q3 q4
   clear hA;refine⟨(by rfl),?_⟩;go_simp<;>(try with_reducible rfl)
  refine R7.Chain.call (fun xs v w=>v=.bool (asB (ev (rho env) p))) (fun _ _ _ _ h _=>h) (fun _ _ _ _ _ h _ _=>h) (by rfl) (fun T xs wr hA=>?_) ?_
  ·have hsw:=(hA.be 0 (Nat.zero_le _) (fun _ _=>Nat.zero_le _)).size;have e64:=hA.tm 0 64 (by rfl) (by rfl);have f64:xs 0=_:=hA.fa 0 (by rfl)
   (try simp (disch:=first | rfl | decide) only [R7.mask_in] at f64)
   rw[f64] at e64;clear f64;have e68:=hA.tm 4 68 (by rfl) (by rfl);have f68:xs 4=_:=hA.fa 4 (by rfl)
   (try simp (disch:=first | rfl | decide) only [R7.mask_in] at f68)
   rw[f68] at e68;clear f68;have hbw:=undrew (hA.be x2.heap.size (Nat.le_refl _) (fun q h=>absurd h (Nat.not_lt_zero q)));have hfq:=HFP.out.below hbw;clear hA;refine⟨(by rfl),fun K hK=>?_⟩;go_simp
   refine (IT _ _ env p S _ hfq (HE.out.below hbw) HRP.out HP.out HSP.out).mono ?_;rintro e w' ⟨rfl,hb'⟩;exact hK.out _ _ rfl hb'
  refine R7.Chain.det ?_ (by rfl) (fun T xs wr hA=>?_) ?_
  rotate_left 1
  ·have e69:=hA.tm 5 69 (by rfl) (by rfl);have f69:xs 5=(.bool (asB (ev (rho env) p))):=hA.fa 5 (by rfl);rw[f69] at e69;clear f69;clear hA;refine⟨(by rfl),?_⟩;go_simp<;>(try with_reducible rfl)
  refine R7.Chain.det ?_ (by rfl) (fun T xs wr hA=>?_) ?_
  rotate_left 1
  ·have e70:=hA.tm 6 70 (by rfl) (by rfl);have f70:xs 6=_:=hA.fa 6 (by rfl)
   (try simp (disch:=first | rfl | decide) only [R7.mask_in] at f70)
   rw[f70] at e70;clear f70;clear hA;refine⟨(by rfl),?_⟩;go_simp<;>(try with_reducible rfl)
  refine R7.Chain.done (fun xs x3 hL=>?_);obtain⟨⟨hbe,hbl⟩,hf,-,-⟩:=hL;have f0:xs 0=_:=hf 0 (by decide)
  (try simp (disch:=first | rfl | decide) only [R7.mask_in] at f0)
  have f1:xs 1=_:=hf 1 (by decide)
  (try simp (disch:=first | rfl | decide) only [R7.mask_in] at f1)
  have f2:xs 2=_:=hf 2 (by decide)
  (try simp (disch:=first | rfl | decide) only [R7.mask_in] at f2)
  have f3:xs 3=_:=hf 3 (by decide)
  (try simp (disch:=first | rfl | decide) only [R7.mask_in] at f3)
  have f4:xs 4=_:=hf 4 (by decide)
  (try simp (disch:=first | rfl | decide) only [R7.mask_in] at f4)
  have f5:xs 5=(.bool (asB (ev (rho env) p))):=hf 5 (by decide);have f6:xs 6=_:=hf 6 (by decide)
  (try simp (disch:=first | rfl | decide) only [R7.mask_in] at f6)
  have f7:xs 7=_:=hf 7 (by decide)
  (try simp (disch:=first | rfl | decide) only [R7.mask_in] at f7)
  have hb0:Below 0 x2 x3:=undrew (hbe 0 (Nat.zero_le _) (fun _ _=>Nat.zero_le _));have hgr:∀ j,j<x2.heap.size->(∀ q,q<0->(fun q=>0) q≠j)->x3.heap[j]?=x2.heap[j]?:=hbl;clear hbe hbl hf;have hb:Below x2.heap.size x2 x3:=⟨hb0.os,hb0.tape,hb0.output,hb0.size,fun q hq=>hgr q hq (fun q h=>absurd h (Nat.not_lt_zero _))⟩
  refine R7.rest_done ?_;simp only[R7.fill,t5_,t6_,t7_,f0,f1,f2,f3,f4,f5,f6,f7];clear hb0 hgr hog hlt_e hlt_f f0 f1 f2 f3 f4 f5 f6 f7;replace HBe:=kBV hb HBe;replace HBf:=kBV hb HBf;replace HX:=Lib.hid (HX.out.below hb);replace HE:=Lib.hid (HE.out.below hb);replace HW:=Lib.hid (HW.out.trans (hb.mono HW.out.size));replace HFP:=Lib.hid (HFP.out.below hb);replace HPC:=Lib.hid (HPC.out.below hb);replace hb:=Lib.hid hb;go_wp2_with fail
  go_ret
  refine⟨?_,HW.out⟩;rw[HEV.out];rfl
 ·have HX:=Lib.hid hk;have HE:=Lib.hid he;have HKL0:=Lib.hid hkl;have HW:=Lib.hid (Below.refl w.heap.size w)
  have hall:∀ f ∈ ks,srt f.op=1:=by
   have h1:(srts ks).all (fun s=>decide (s=1))=true:=by simpa [fitF,kidsOk] using hfit
   intro f hf;have:=List.all_eq_true.1 h1 (srt f.op) (List.mem_map.2 ⟨f,hf,rfl⟩)
   simpa using this
  have HALL:=Lib.hid hall;have HRS:=Lib.hid hrs;have HSM:=Lib.hid hsm;clear hk he hsm hrs hfit hkl HKL0 hall;go_enter Try.func60,Try.ntmps60
  obtain⟨x1,ke,ee,eke,hbe,hke,HBe⟩:=newV w #[.slice eo en ec] 72;replace HX:=Lib.hid (HX.out.below hbe.out);replace HE:=Lib.hid (HE.out.below hbe.out);replace HW:=Lib.hid (HW.out.trans (hbe.out.mono HW.out.size));obtain⟨x2,kf,ef,ekf,hbf,hkf,HBf⟩:=newV x1 #[.int .i64 18,.bool b,.slice ao l c,.string nm,.slice ko kl kc] 29;replace HBe:=kBV hbf.out HBe;replace HX:=Lib.hid (HX.out.below hbf.out);replace HE:=Lib.hid (HE.out.below hbf.out);replace HW:=Lib.hid (HW.out.trans (hbf.out.mono HW.out.size));have e0:=cell_at (v:=.slice eo en ec) HBe.out 0 rfl;have fe0:=froz_at HBe.out 0;have c0:=cell_at (v:=.int .i64 18) HBf.out 0 rfl;have fc0:=froz_at HBf.out 0;have c1:=cell_at (v:=.bool b) HBf.out 1 rfl;have fc1:=froz_at HBf.out 1;have c2:=cell_at (v:=.slice ao l c) HBf.out 2 rfl;have fc2:=froz_at HBf.out 2
  have c3:=cell_at (v:=.string nm) HBf.out 3 rfl;have fc3:=froz_at HBf.out 3;have c4:=cell_at (v:=.slice ko kl kc) HBf.out 4 rfl;have fc4:=froz_at HBf.out 4;go_wp2_with fail
  refine (contains_and _ ks (fun f=>!asB (ev (rho env) f)) d S x2 ke HX.out (fun f hf v w' hb hv=>?_)).mono ?_
  ·exact truth1_p d IT eo en ec env ke v f S w' ((hb.block _ (lt_of_block HBe.out)).trans HBe.out) hv (HE.out.below hb) (HRS.out f hf) (HALL.out f hf) (HSM.out.kid f hf)
  rintro e x3 ⟨rfl,hb⟩;clear e0 fe0 c0 fc0 c1 fc1 c2 fc2 c3 fc3 c4 fc4;replace HBe:=kBV hb HBe;replace HBf:=kBV hb HBf;replace HX:=Lib.hid (HX.out.below hb);replace HE:=Lib.hid (HE.out.below hb);replace HW:=Lib.hid (HW.out.trans (hb.mono HW.out.size));go_wp2_with fail
  go_ret
  refine⟨?_,HW.out⟩;rw[show asB (ev (rho env) (.node 18 z nm ks)) = !(ks.any fun f=>!asB (ev (rho env) f)) by rw[ev,evs_map];show (List.map (ev (rho env)) ks).all asB=_;rw[List.all_map,List.not_any_eq_all_not];congr 1;funext f;simp]
  rfl
 ·have HX:=Lib.hid hk;have HE:=Lib.hid he;have HKL0:=Lib.hid hkl;have HW:=Lib.hid (Below.refl w.heap.size w)
  have hall:∀ f ∈ ks,srt f.op=1:=by
   have h1:(srts ks).all (fun s=>decide (s=1))=true:=by simpa [fitF,kidsOk] using hfit
   intro f hf;have:=List.all_eq_true.1 h1 (srt f.op) (List.mem_map.2 ⟨f,hf,rfl⟩)
   simpa using this
  have HALL:=Lib.hid hall;have HRS:=Lib.hid hrs;have HSM:=Lib.hid hsm;clear hk he hsm hrs hfit hkl HKL0 hall;go_enter Try.func60,Try.ntmps60
  obtain⟨x1,ke,ee,eke,hbe,hke,HBe⟩:=newV w #[.slice eo en ec] 72;replace HX:=Lib.hid (HX.out.below hbe.out);replace HE:=Lib.hid (HE.out.below hbe.out);replace HW:=Lib.hid (HW.out.trans (hbe.out.mono HW.out.size));obtain⟨x2,kf,ef,ekf,hbf,hkf,HBf⟩:=newV x1 #[.int .i64 19,.bool b,.slice ao l c,.string nm,.slice ko kl kc] 29;replace HBe:=kBV hbf.out HBe;replace HX:=Lib.hid (HX.out.below hbf.out);replace HE:=Lib.hid (HE.out.below hbf.out);replace HW:=Lib.hid (HW.out.trans (hbf.out.mono HW.out.size));have e0:=cell_at (v:=.slice eo en ec) HBe.out 0 rfl;have fe0:=froz_at HBe.out 0;have c0:=cell_at (v:=.int .i64 19) HBf.out 0 rfl;have fc0:=froz_at HBf.out 0;have c1:=cell_at (v:=.bool b) HBf.out 1 rfl;have fc1:=froz_at HBf.out 1;have c2:=cell_at (v:=.slice ao l c) HBf.out 2 rfl;have fc2:=froz_at HBf.out 2
  have c3:=cell_at (v:=.string nm) HBf.out 3 rfl;have fc3:=froz_at HBf.out 3;have c4:=cell_at (v:=.slice ko kl kc) HBf.out 4 rfl;have fc4:=froz_at HBf.out 4;go_wp2_with fail
  refine (contains_or _ ks (fun f=>asB (ev (rho env) f)) d S x2 (.slice eo en ec) HX.out (fun f hf v w' hb hv=>?_)).mono ?_
  ·exact IT _ _ env f S w' hv (HE.out.below hb) (HRS.out f hf) (HALL.out f hf) (HSM.out.kid f hf)
  rintro e x3 ⟨rfl,hb⟩;clear e0 fe0 c0 fc0 c1 fc1 c2 fc2 c3 fc3 c4 fc4;replace HBe:=kBV hb HBe;replace HBf:=kBV hb HBf;replace HX:=Lib.hid (HX.out.below hb);replace HE:=Lib.hid (HE.out.below hb);replace HW:=Lib.hid (HW.out.trans (hb.mono HW.out.size));go_wp2_with fail
  go_ret
  refine⟨?_,HW.out⟩;rw[show asB (ev (rho env) (.node 19 z nm ks))=(ks.any fun f=>asB (ev (rho env) f)) by rw[ev,evs_map];show (List.map (ev (rho env)) ks).any asB=_;rw[List.any_map];rfl]
  rfl
 have HX:=Lib.hid hk;have HE:=Lib.hid he;have HKL0:=Lib.hid hkl;have HW:=Lib.hid (Below.refl w.heap.size w);obtain⟨p,q,rfl,hp,hq⟩:=srts_two (ks:=ks) (s:=1) (r:=1) (by simpa [fitF,kidsOk] using hfit);have HSP:=Lib.hid (hsm.kid p (by simp));have HRP:=Lib.hid (hrs p (by simp));have HP:=Lib.hid hp;have HSQ:=Lib.hid (hsm.kid q (by simp));have HRQ:=Lib.hid (hrs q (by simp));have HQ:=Lib.hid hq;have HEV:Hid (asB (ev (rho env) (.node 20 z nm [p,q]))=asB (opV (rho env) 20 z nm [ev (rho env) p,ev (rho env) q])):=Lib.hid (by rw[ev,evs,evs,evs]);have hkl1:kl=2:=HKL0.out;subst hkl1;clear hk he hsm hrs hfit hkl HKL0 hp hq;go_enter Try.func60,Try.ntmps60
 obtain⟨x1,ke,ee,eke,hbe,hke,HBe⟩:=newV w #[.slice eo en ec] 72;replace HX:=Lib.hid (HX.out.below hbe.out);replace HE:=Lib.hid (HE.out.below hbe.out);replace HW:=Lib.hid (HW.out.trans (hbe.out.mono HW.out.size));obtain⟨x2,kf,ef,ekf,hbf,hkf,HBf⟩:=newV x1 #[.int .i64 20,.bool b,.slice ao l c,.string nm,.slice ko 2 kc] 29;replace HBe:=kBV hbf.out HBe;replace HX:=Lib.hid (HX.out.below hbf.out);replace HE:=Lib.hid (HE.out.below hbf.out);replace HW:=Lib.hid (HW.out.trans (hbf.out.mono HW.out.size));have e0:=cell_at (v:=.slice eo en ec) HBe.out 0 rfl;have fe0:=froz_at HBe.out 0;have c0:=cell_at (v:=.int .i64 20) HBf.out 0 rfl;have fc0:=froz_at HBf.out 0;have c1:=cell_at (v:=.bool b) HBf.out 1 rfl;have fc1:=froz_at HBf.out 1;have c2:=cell_at (v:=.slice ao l c) HBf.out 2 rfl;have fc2:=froz_at HBf.out 2
 have c3:=cell_at (v:=.string nm) HBf.out 3 rfl;have fc3:=froz_at HBf.out 3;have c4:=cell_at (v:=.slice ko 2 kc) HBf.out 4 rfl;have fc4:=froz_at HBf.out 4;obtain⟨a,bp,op,lp,cp,kop,klp,kcp,hkop,⟨p0,p1,p2,p3,p4⟩,hfp⟩:=HX.out.first;subst hkop;obtain⟨opp,hopp⟩:∃ x,x=p.op:=⟨_,rfl⟩
 obtain⟨nmp,hnmp⟩:∃ x,x=p.name:=⟨_,rfl⟩
 rw[<-hopp] at p0 hfp;rw[<-hnmp] at p3 hfp;have HFP:=Lib.hid hfp;have HPC:Hid (At5 x2 a opp bp op lp cp nmp kop klp kcp):=Lib.hid ⟨p0,p1,p2,p3,p4⟩;clear hopp hnmp hfp p0 p1 p2 p3 p4;obtain⟨a2,bq,oq,lq,cq,koq,klq,kcq,hkoq,⟨q0,q1,q2,q3,q4⟩,hfq⟩:=HX.out.second;injection hkoq with ha2;subst ha2;obtain⟨opq,hopq⟩:∃ x,x=q.op:=⟨_,rfl⟩
 obtain⟨nmq,hnmq⟩:∃ x,x=q.name:=⟨_,rfl⟩
 rw[<-hopq] at q0 hfq;rw[<-hnmq] at q3 hfq;have HFQ:=Lib.hid hfq;have HQC:Hid (At5 x2 ⟨a.block,a.off+5,none⟩ opq bq oq lq cq nmq koq klq kcq):=Lib.hid ⟨q0,q1,q2,q3,q4⟩;clear hopq hnmq hfq q0 q1 q2 q3 q4;go_upto_region 11 with fail
 clear e0 fe0 c0 fc0 c1 fc1 c2 fc2 c3 fc3 c4 fc4;have hlt_e:=lt_of_block HBe.out;have hlt_f:=lt_of_block HBf.out;have hog:Hid (∀ q,q<0->(fun q=>0) q<x2.heap.size):=Lib.hid (fun q h=>absurd h (Nat.not_lt_zero _));refine R7.region (by kernel_rfl) [[],[],[1],[1,2],[1,2,3],[0,1,2,3,4],[],[],[7],[7,8],[7,8,9],[0,1,2,3,4,5,6,7,8,9,10],[0,1,2,3,4,5,6,7,8,9,10,11],[0,1,2,3,4,5,6,7,8,9,10,11,12]] [] [] (fun q=>0) 0 14 (by kernel_rfl) (by kernel_rfl) (by rfl) hog.out (fun q q' h h' hn=>absurd hn (by omega)) ?_;refine R7.Chain.det ?_ (by rfl) (fun T xs wr hA=>?_) ?_
 rotate_left 1
 ·have e2:=hA.pre 2 (by kernel_rfl);simp only[gsa,gsc,gsz] at e2;have hBq:wr.heap[ke]?=_:=(hA.bl _ hlt_e (fun q h=>absurd h (Nat.not_lt_zero _))).trans HBe.out;have q0:=cell_at (v:=.slice eo en ec) hBq 0 rfl;clear hBq;clear hA;refine⟨(by rfl),?_⟩;go_simp<;>(try with_reducible rfl)
 refine R7.Chain.det ?_ (by rfl) (fun T xs wr hA=>?_) ?_
 rotate_left 1
 ·have e3:=hA.pre 3 (by kernel_rfl);simp only[gsa,gsc,gsz] at e3;clear hA;refine⟨(by rfl),?_⟩;go_simp<;>(try with_reducible rfl)
 refine R7.Chain.det ?_ (by rfl) (fun T xs wr hA=>?_) ?_
 rotate_left 1
 ·have e50:=hA.tm 1 50 (by rfl) (by rfl);have f50:xs 1=_:=hA.fa 1 (by rfl)
  (try simp (disch:=first | rfl | decide) only [R7.mask_in] at f50)
  rw[f50] at e50;clear f50;have hBq:wr.heap[kf]?=_:=(hA.bl _ hlt_f (fun q h=>absurd h (Nat.not_lt_zero _))).trans HBf.out;have q0:=cell_at (v:=.int .i64 20) hBq 0 rfl;have q1:=cell_at (v:=.bool b) hBq 1 rfl;have q2:=cell_at (v:=.slice ao l c) hBq 2 rfl;have q3:=cell_at (v:=.string nm) hBq 3 rfl;have q4:=cell_at (v:=.slice (some a) 2 kc) hBq 4 rfl;clear hBq;clear hA;refine⟨(by rfl),?_⟩;go_simp<;>(try with_reducible rfl)
 refine R7.Chain.det ?_ (by rfl) (fun T xs wr hA=>?_) ?_
 rotate_left 1
 ·have e51:=hA.tm 2 51 (by rfl) (by rfl);have f51:xs 2=_:=hA.fa 2 (by rfl)
  (try simp (disch:=first | rfl | decide) only [R7.mask_in] at f51)
  rw[f51] at e51;clear f51;clear hA;refine⟨(by rfl),?_⟩;go_simp<;>(try with_reducible rfl)
 refine R7.Chain.det ?_ (by rfl) (fun T xs wr hA=>?_) ?_
 rotate_left 1
 ·have e52:=hA.tm 3 52 (by rfl) (by rfl);have f52:xs 3=_:=hA.fa 3 (by rfl)
  (try simp (disch:=first | rfl | decide) only [R7.mask_in] at f52)
  rw[f52] at e52;clear f52;have hbw:=undrew (hA.be x2.heap.size (Nat.le_refl _) (fun q h=>absurd h (Nat.not_lt_zero q)));obtain⟨q0,q1,q2,q3,q4⟩:=HPC.out.below hbw
  try simp only at q0 q1 q2 q3 q4
  clear hA;refine⟨(by rfl),?_⟩;go_simp<;>(try with_reducible rfl)
 refine R7.Chain.call (fun xs v w=>v=.bool (asB (ev (rho env) p))) (fun _ _ _ _ h _=>h) (fun _ _ _ _ _ h _ _=>h) (by rfl) (fun T xs wr hA=>?_) ?_
 ·have hsw:=(hA.be 0 (Nat.zero_le _) (fun _ _=>Nat.zero_le _)).size;have e49:=hA.tm 0 49 (by rfl) (by rfl);have f49:xs 0=_:=hA.fa 0 (by rfl)
  (try simp (disch:=first | rfl | decide) only [R7.mask_in] at f49)
  rw[f49] at e49;clear f49;have e53:=hA.tm 4 53 (by rfl) (by rfl);have f53:xs 4=_:=hA.fa 4 (by rfl)
  (try simp (disch:=first | rfl | decide) only [R7.mask_in] at f53)
  rw[f53] at e53;clear f53;have hbw:=undrew (hA.be x2.heap.size (Nat.le_refl _) (fun q h=>absurd h (Nat.not_lt_zero q)));have hfq:=HFP.out.below hbw;clear hA;refine⟨(by rfl),fun K hK=>?_⟩;go_simp
  refine (IT _ _ env p S _ hfq (HE.out.below hbw) HRP.out HP.out HSP.out).mono ?_;rintro e w' ⟨rfl,hb'⟩;exact hK.out _ _ rfl hb'
 refine R7.Chain.det ?_ (by rfl) (fun T xs wr hA=>?_) ?_
 rotate_left 1
 ·have e2:=hA.pre 2 (by kernel_rfl);simp only[gsa,gsc,gsz] at e2;have hBq:wr.heap[ke]?=_:=(hA.bl _ hlt_e (fun q h=>absurd h (Nat.not_lt_zero _))).trans HBe.out;have q0:=cell_at (v:=.slice eo en ec) hBq 0 rfl;clear hBq;clear hA;refine⟨(by rfl),?_⟩;go_simp<;>(try with_reducible rfl)
 refine R7.Chain.det ?_ (by rfl) (fun T xs wr hA=>?_) ?_
 rotate_left 1
 ·have e3:=hA.pre 3 (by kernel_rfl);simp only[gsa,gsc,gsz] at e3;clear hA;refine⟨(by rfl),?_⟩;go_simp<;>(try with_reducible rfl)
 refine R7.Chain.det ?_ (by rfl) (fun T xs wr hA=>?_) ?_
 rotate_left 1
 ·have e56:=hA.tm 7 56 (by rfl) (by rfl);have f56:xs 7=_:=hA.fa 7 (by rfl)
  (try simp (disch:=first | rfl | decide) only [R7.mask_in] at f56)
  rw[f56] at e56;clear f56;have hBq:wr.heap[kf]?=_:=(hA.bl _ hlt_f (fun q h=>absurd h (Nat.not_lt_zero _))).trans HBf.out;have q0:=cell_at (v:=.int .i64 20) hBq 0 rfl;have q1:=cell_at (v:=.bool b) hBq 1 rfl;have q2:=cell_at (v:=.slice ao l c) hBq 2 rfl;have q3:=cell_at (v:=.string nm) hBq 3 rfl;have q4:=cell_at (v:=.slice (some a) 2 kc) hBq 4 rfl;clear hBq;clear hA;refine⟨(by rfl),?_⟩;go_simp<;>(try with_reducible rfl)
 refine R7.Chain.det ?_ (by rfl) (fun T xs wr hA=>?_) ?_
 rotate_left 1
 ·have e57:=hA.tm 8 57 (by rfl) (by rfl);have f57:xs 8=_:=hA.fa 8 (by rfl)
  (try simp (disch:=first | rfl | decide) only [R7.mask_in] at f57)
  rw[f57] at e57;clear f57;clear hA;refine⟨(by rfl),?_⟩;go_simp<;>(try with_reducible rfl)
 refine R7.Chain.det ?_ (by rfl) (fun T xs wr hA=>?_) ?_
 rotate_left 1
 ·have e58:=hA.tm 9 58 (by rfl) (by rfl);have f58:xs 9=_:=hA.fa 9 (by rfl)
  (try simp (disch:=first | rfl | decide) only [R7.mask_in] at f58)
  rw[f58] at e58;clear f58;have hbw:=undrew (hA.be x2.heap.size (Nat.le_refl _) (fun q h=>absurd h (Nat.not_lt_zero q)));obtain⟨q0,q1,q2,q3,q4⟩:=HQC.out.below hbw
  try simp only at q0 q1 q2 q3 q4
  clear hA;refine⟨(by rfl),?_⟩;go_simp<;>(try with_reducible rfl)
 refine R7.Chain.call (fun xs v w=>v=.bool (asB (ev (rho env) q))) (fun _ _ _ _ h _=>h) (fun _ _ _ _ _ h _ _=>h) (by rfl) (fun T xs wr hA=>?_) ?_
 ·have hsw:=(hA.be 0 (Nat.zero_le _) (fun _ _=>Nat.zero_le _)).size;have e55:=hA.tm 6 55 (by rfl) (by rfl);have f55:xs 6=_:=hA.fa 6 (by rfl)
  (try simp (disch:=first | rfl | decide) only [R7.mask_in] at f55)
  rw[f55] at e55;clear f55;have e59:=hA.tm 10 59 (by rfl) (by rfl);have f59:xs 10=_:=hA.fa 10 (by rfl)
  (try simp (disch:=first | rfl | decide) only [R7.mask_in] at f59)
  rw[f59] at e59;clear f59;have hbw:=undrew (hA.be x2.heap.size (Nat.le_refl _) (fun q h=>absurd h (Nat.not_lt_zero q)));have hfq:=HFQ.out.below hbw;clear hA;refine⟨(by rfl),fun K hK=>?_⟩;go_simp
  refine (IT _ _ env q S _ hfq (HE.out.below hbw) HRQ.out HQ.out HSQ.out).mono ?_;rintro e w' ⟨rfl,hb'⟩;exact hK.out _ _ rfl hb'
 refine R7.Chain.det ?_ (by rfl) (fun T xs wr hA=>?_) ?_
 rotate_left 1
 ·have e54:=hA.tm 5 54 (by rfl) (by rfl);have f54:xs 5=(.bool (asB (ev (rho env) p))):=hA.fa 5 (by rfl);rw[f54] at e54;clear f54;have e60:=hA.tm 11 60 (by rfl) (by rfl);have f60:xs 11=(.bool (asB (ev (rho env) q))):=hA.fa 11 (by rfl);rw[f60] at e60;clear f60;clear hA;refine⟨(by rfl),?_⟩;go_simp<;>(try with_reducible rfl)
 refine R7.Chain.det ?_ (by rfl) (fun T xs wr hA=>?_) ?_
 rotate_left 1
 ·have e61:=hA.tm 12 61 (by rfl) (by rfl);have f61:xs 12=_:=hA.fa 12 (by rfl)
  (try simp (disch:=first | rfl | decide) only [R7.mask_in] at f61)
  rw[f61] at e61;clear f61;clear hA;refine⟨(by rfl),?_⟩;go_simp<;>(try with_reducible rfl)
 refine R7.Chain.done (fun xs x3 hL=>?_);obtain⟨⟨hbe,hbl⟩,hf,-,-⟩:=hL;have f0:xs 0=_:=hf 0 (by decide)
 (try simp (disch:=first | rfl | decide) only [R7.mask_in] at f0)
 have f1:xs 1=_:=hf 1 (by decide)
 (try simp (disch:=first | rfl | decide) only [R7.mask_in] at f1)
 have f2:xs 2=_:=hf 2 (by decide)
 (try simp (disch:=first | rfl | decide) only [R7.mask_in] at f2)
 have f3:xs 3=_:=hf 3 (by decide)
 (try simp (disch:=first | rfl | decide) only [R7.mask_in] at f3)
 have f4:xs 4=_:=hf 4 (by decide)
 (try simp (disch:=first | rfl | decide) only [R7.mask_in] at f4)
 have f5:xs 5=(.bool (asB (ev (rho env) p))):=hf 5 (by decide);have f6:xs 6=_:=hf 6 (by decide)
 (try simp (disch:=first | rfl | decide) only [R7.mask_in] at f6)
 have f7:xs 7=_:=hf 7 (by decide)
 (try simp (disch:=first | rfl | decide) only [R7.mask_in] at f7)
 have f8:xs 8=_:=hf 8 (by decide)
 (try simp (disch:=first | rfl | decide) only [R7.mask_in] at f8)
 have f9:xs 9=_:=hf 9 (by decide)
 (try simp (disch:=first | rfl | decide) only [R7.mask_in] at f9)
 have f10:xs 10=_:=hf 10 (by decide)
 (try simp (disch:=first | rfl | decide) only [R7.mask_in] at f10)
 have f11:xs 11=(.bool (asB (ev (rho env) q))):=hf 11 (by decide);have f12:xs 12=_:=hf 12 (by decide)
 (try simp (disch:=first | rfl | decide) only [R7.mask_in] at f12)
 have f13:xs 13=_:=hf 13 (by decide)
 (try simp (disch:=first | rfl | decide) only [R7.mask_in] at f13)
 have hb0:Below 0 x2 x3:=undrew (hbe 0 (Nat.zero_le _) (fun _ _=>Nat.zero_le _));have hgr:∀ j,j<x2.heap.size->(∀ q,q<0->(fun q=>0) q≠j)->x3.heap[j]?=x2.heap[j]?:=hbl;clear hbe hbl hf;have hb:Below x2.heap.size x2 x3:=⟨hb0.os,hb0.tape,hb0.output,hb0.size,fun q hq=>hgr q hq (fun q h=>absurd h (Nat.not_lt_zero _))⟩
 refine R7.rest_done ?_;simp only[R7.fill,t5_,t6_,t7_,f0,f1,f2,f3,f4,f5,f6,f7,f8,f9,f10,f11,f12,f13];clear hb0 hgr hog hlt_e hlt_f f0 f1 f2 f3 f4 f5 f6 f7 f8 f9 f10 f11 f12 f13;replace HBe:=kBV hb HBe;replace HBf:=kBV hb HBf;replace HX:=Lib.hid (HX.out.below hb);replace HE:=Lib.hid (HE.out.below hb);replace HW:=Lib.hid (HW.out.trans (hb.mono HW.out.size));replace HFP:=Lib.hid (HFP.out.below hb);replace HPC:=Lib.hid (HPC.out.below hb);replace HFQ:=Lib.hid (HFQ.out.below hb);replace HQC:=Lib.hid (HQC.out.below hb);replace hb:=Lib.hid hb;go_wp2_with fail
 go_ret
 refine⟨?_,HW.out⟩;rw[HEV.out];rfl
attribute [local go_sem] fieldV0 fieldV1 fieldV2 fieldV3
theorem val_step (d:Nat) (IN:NumC d) (IL:LstC d) (IT:TruC d):ValC d:=by
 intro ve v env t S w h he hr hsm;obtain⟨eo,en,ec,rfl⟩:=he.shape
 have hso:srt t.op=0\/srt t.op=1\/srt t.op=2:=by
  unfold srt
  split
  ·exact .inr (.inr rfl)
  split
  ·exact .inr (.inl rfl)
  exact .inl rfl
 rcases hso with hs | hs | hs
 ·have HS:=Lib.hid hs;clear hs;have HT:=Lib.hid h;obtain⟨b,ao,l,c,ko,kl,kc,rfl,-,-,-⟩:=h.open;obtain⟨o,hoo⟩:∃ o,o=t.op:=⟨_,rfl⟩
  obtain⟨nm,hnm⟩:∃ o,o=t.name:=⟨_,rfl⟩
  rw[<-hoo] at HT ⊢;rw[<-hnm] at HT ⊢;have HOO:=Lib.hid hoo;have HE:=Lib.hid he;have HR:=Lib.hid hr;have HSM:=Lib.hid hsm;clear h he hr hsm hoo hnm;have HW:=Lib.hid (Below.refl w.heap.size w);go_enter Try.func39,Try.ntmps39
  obtain⟨x1,kf,ef,ekf,hbf,hkf,HBf⟩:=newV w #[.int .i64 o,.bool b,.slice ao l c,.string nm,.slice ko kl kc] 29;replace HT:=Lib.hid (HT.out.below hbf.out);replace HE:=Lib.hid (HE.out.below hbf.out);replace HW:=Lib.hid (HW.out.trans (hbf.out.mono HW.out.size));obtain⟨x2,kr,er,ekr,hbr,hkr,HBr⟩:=newV x1 #[.int .i64 0,.bool false,.slice none 0 0,.bool false,.slice none 0 0] 41;replace HBf:=kBV hbr.out HBf;replace HT:=Lib.hid (HT.out.below hbr.out);replace HE:=Lib.hid (HE.out.below hbr.out);replace HW:=Lib.hid (HW.out.trans (hbr.out.mono HW.out.size));have HKr:Hid (w.heap.size<=kr):=Lib.hid (Nat.le_trans hbf.out.size hkr.out);have c0:=cell_at (v:=.int .i64 o) HBf.out 0 rfl;have fc0:=froz_at HBf.out 0;have c1:=cell_at (v:=.bool b) HBf.out 1 rfl;have fc1:=froz_at HBf.out 1;have c2:=cell_at (v:=.slice ao l c) HBf.out 2 rfl
  have fc2:=froz_at HBf.out 2;have c3:=cell_at (v:=.string nm) HBf.out 3 rfl;have fc3:=froz_at HBf.out 3;have c4:=cell_at (v:=.slice ko kl kc) HBf.out 4 rfl;have fc4:=froz_at HBf.out 4;go_wp2_with fail
  refine (sort_p o b ao l c nm ko kl kc x2).mono ?_;rintro e x3 ⟨rfl,hb⟩;clear c0 fc0 c1 fc1 c2 fc2 c3 fc3 c4 fc4;replace HBf:=kBV hb HBf;replace HBr:=kBV hb HBr;replace HT:=Lib.hid (HT.out.below hb);replace HE:=Lib.hid (HE.out.below hb);replace HW:=Lib.hid (HW.out.trans (hb.mono HW.out.size));rw[show srt o=0 from (by rw[HOO.out];exact HS.out)];have c0:=cell_at (v:=.int .i64 o) HBf.out 0 rfl;have fc0:=froz_at HBf.out 0;have c1:=cell_at (v:=.bool b) HBf.out 1 rfl;have fc1:=froz_at HBf.out 1;have c2:=cell_at (v:=.slice ao l c) HBf.out 2 rfl;have fc2:=froz_at HBf.out 2;have c3:=cell_at (v:=.string nm) HBf.out 3 rfl;have fc3:=froz_at HBf.out 3;have c4:=cell_at (v:=.slice ko kl kc) HBf.out 4 rfl;have fc4:=froz_at HBf.out 4;go_wp2_with fail
  refine (IN _ _ env t S x3 HT.out HE.out HR.out HS.out HSM.out).mono ?_;rintro e x4 ⟨x,rfl,hx,hb⟩;clear c0 fc0 c1 fc1 c2 fc2 c3 fc3 c4 fc4;replace HBf:=kBV hb HBf;replace HBr:=kBV hb HBr;replace HT:=Lib.hid (HT.out.below hb);replace HE:=Lib.hid (HE.out.below hb);replace HW:=Lib.hid (HW.out.trans (hb.mono HW.out.size));obtain⟨xb,xo,xl,xc,rfl⟩:=hx.shape;have HC:=Lib.hid hx;clear hx;go_wp2_with fail
  refine (ofInt_p _ _ 600 x4 HC.out.gi (by decide)).mono ?_;rintro e x5 ⟨v,rfl,hv,hb⟩;replace HBf:=kBV hb HBf;replace HBr:=kBV hb HBr;replace HT:=Lib.hid (HT.out.below hb);replace HE:=Lib.hid (HE.out.below hb);replace HW:=Lib.hid (HW.out.trans (hb.mono HW.out.size));obtain⟨o2,l2,c2,rfl,hn⟩:=hv.int;have HV:=Lib.hid hv;clear hv hn;obtain⟨⟨r0,r1,r2,r3,r4⟩,fr0,fr1,fr2,fr3,fr4⟩:=cells5V HBr.out;go_wp2_with fail
  obtain⟨s1,s2⟩:=res5V HW.out HBr.out n32_5 HKr.out (.int .i64 0) (.bool (decide (asI (ev (rho env) t)<0))) (.slice o2 l2 c2) (.bool false) (.slice none 0 0)
  (try simp only[Exit.inBlock,Exit.then])
  exact bodyPost_ret (v:=.agg #[.int .i64 0,.bool (decide (asI (ev (rho env) t)<0)),.slice o2 l2 c2,.bool false,.slice none 0 0]) (by simp[results,Try.results39,go_sem,r0,r1,r2,r3,r4]) rfl ⟨_,rfl,(show VC _ _ (ev (rho env) t) from by rw[ev_int HS.out];exact HV.out).fr (by decide) s1,s2⟩
 ·have HS:=Lib.hid hs;clear hs;have HT:=Lib.hid h;obtain⟨b,ao,l,c,ko,kl,kc,rfl,-,-,-⟩:=h.open;obtain⟨o,hoo⟩:∃ o,o=t.op:=⟨_,rfl⟩
  obtain⟨nm,hnm⟩:∃ o,o=t.name:=⟨_,rfl⟩
  rw[<-hoo] at HT ⊢;rw[<-hnm] at HT ⊢;have HOO:=Lib.hid hoo;have HE:=Lib.hid he;have HR:=Lib.hid hr;have HSM:=Lib.hid hsm;clear h he hr hsm hoo hnm;have HW:=Lib.hid (Below.refl w.heap.size w);go_enter Try.func39,Try.ntmps39
  obtain⟨x1,kf,ef,ekf,hbf,hkf,HBf⟩:=newV w #[.int .i64 o,.bool b,.slice ao l c,.string nm,.slice ko kl kc] 29;replace HT:=Lib.hid (HT.out.below hbf.out);replace HE:=Lib.hid (HE.out.below hbf.out);replace HW:=Lib.hid (HW.out.trans (hbf.out.mono HW.out.size));obtain⟨x2,kr,er,ekr,hbr,hkr,HBr⟩:=newV x1 #[.int .i64 0,.bool false,.slice none 0 0,.bool false,.slice none 0 0] 41;replace HBf:=kBV hbr.out HBf;replace HT:=Lib.hid (HT.out.below hbr.out);replace HE:=Lib.hid (HE.out.below hbr.out);replace HW:=Lib.hid (HW.out.trans (hbr.out.mono HW.out.size));have HKr:Hid (w.heap.size<=kr):=Lib.hid (Nat.le_trans hbf.out.size hkr.out);have c0:=cell_at (v:=.int .i64 o) HBf.out 0 rfl;have fc0:=froz_at HBf.out 0;have c1:=cell_at (v:=.bool b) HBf.out 1 rfl;have fc1:=froz_at HBf.out 1;have c2:=cell_at (v:=.slice ao l c) HBf.out 2 rfl
  have fc2:=froz_at HBf.out 2;have c3:=cell_at (v:=.string nm) HBf.out 3 rfl;have fc3:=froz_at HBf.out 3;have c4:=cell_at (v:=.slice ko kl kc) HBf.out 4 rfl;have fc4:=froz_at HBf.out 4;go_wp2_with fail
  refine (sort_p o b ao l c nm ko kl kc x2).mono ?_;rintro e x3 ⟨rfl,hb⟩;clear c0 fc0 c1 fc1 c2 fc2 c3 fc3 c4 fc4;replace HBf:=kBV hb HBf;replace HBr:=kBV hb HBr;replace HT:=Lib.hid (HT.out.below hb);replace HE:=Lib.hid (HE.out.below hb);replace HW:=Lib.hid (HW.out.trans (hb.mono HW.out.size));rw[show srt o=1 from (by rw[HOO.out];exact HS.out)];have c0:=cell_at (v:=.int .i64 o) HBf.out 0 rfl;have fc0:=froz_at HBf.out 0;have c1:=cell_at (v:=.bool b) HBf.out 1 rfl;have fc1:=froz_at HBf.out 1;have c2:=cell_at (v:=.slice ao l c) HBf.out 2 rfl;have fc2:=froz_at HBf.out 2;have c3:=cell_at (v:=.string nm) HBf.out 3 rfl;have fc3:=froz_at HBf.out 3;have c4:=cell_at (v:=.slice ko kl kc) HBf.out 4 rfl;have fc4:=froz_at HBf.out 4;go_wp2_with fail
  refine (IT _ _ env t S x3 HT.out HE.out HR.out HS.out HSM.out).mono ?_;rintro e x4 ⟨rfl,hb⟩;clear c0 fc0 c1 fc1 c2 fc2 c3 fc3 c4 fc4;replace HBf:=kBV hb HBf;replace HBr:=kBV hb HBr;replace HT:=Lib.hid (HT.out.below hb);replace HE:=Lib.hid (HE.out.below hb);replace HW:=Lib.hid (HW.out.trans (hb.mono HW.out.size));go_wp2_with fail
  refine (ofBool_p _ x4).mono ?_;rintro e x5 ⟨v,rfl,hv,hb⟩;replace HBf:=kBV hb HBf;replace HBr:=kBV hb HBr;replace HT:=Lib.hid (HT.out.below hb);replace HE:=Lib.hid (HE.out.below hb);replace HW:=Lib.hid (HW.out.trans (hb.mono HW.out.size));have hv1:=hv.bool;subst hv1;have HV:=Lib.hid hv;clear hv;obtain⟨⟨r0,r1,r2,r3,r4⟩,fr0,fr1,fr2,fr3,fr4⟩:=cells5V HBr.out;go_wp2_with fail
  obtain⟨s1,s2⟩:=res5V HW.out HBr.out n32_5 HKr.out (.int .i64 1) (.bool false) (.slice none 0 0) (.bool (asB (ev (rho env) t))) (.slice none 0 0)
  (try simp only[Exit.inBlock,Exit.then])
  exact bodyPost_ret (v:=.agg #[.int .i64 1,.bool false,.slice none 0 0,.bool (asB (ev (rho env) t)),.slice none 0 0]) (by simp[results,Try.results39,go_sem,r0,r1,r2,r3,r4]) rfl ⟨_,rfl,(show VC _ _ (ev (rho env) t) from by rw[ev_bool HS.out];exact HV.out).fr (by decide) s1,s2⟩
 have HS:=Lib.hid hs;clear hs;have HT:=Lib.hid h;obtain⟨b,ao,l,c,ko,kl,kc,rfl,-,-,-⟩:=h.open;obtain⟨o,hoo⟩:∃ o,o=t.op:=⟨_,rfl⟩
 obtain⟨nm,hnm⟩:∃ o,o=t.name:=⟨_,rfl⟩
 rw[<-hoo] at HT ⊢;rw[<-hnm] at HT ⊢;have HOO:=Lib.hid hoo;have HE:=Lib.hid he;have HR:=Lib.hid hr;have HSM:=Lib.hid hsm;clear h he hr hsm hoo hnm;have HW:=Lib.hid (Below.refl w.heap.size w);go_enter Try.func39,Try.ntmps39
 obtain⟨x1,kf,ef,ekf,hbf,hkf,HBf⟩:=newV w #[.int .i64 o,.bool b,.slice ao l c,.string nm,.slice ko kl kc] 29;replace HT:=Lib.hid (HT.out.below hbf.out);replace HE:=Lib.hid (HE.out.below hbf.out);replace HW:=Lib.hid (HW.out.trans (hbf.out.mono HW.out.size));obtain⟨x2,kr,er,ekr,hbr,hkr,HBr⟩:=newV x1 #[.int .i64 0,.bool false,.slice none 0 0,.bool false,.slice none 0 0] 41;replace HBf:=kBV hbr.out HBf;replace HT:=Lib.hid (HT.out.below hbr.out);replace HE:=Lib.hid (HE.out.below hbr.out);replace HW:=Lib.hid (HW.out.trans (hbr.out.mono HW.out.size));have HKr:Hid (w.heap.size<=kr):=Lib.hid (Nat.le_trans hbf.out.size hkr.out);have c0:=cell_at (v:=.int .i64 o) HBf.out 0 rfl;have fc0:=froz_at HBf.out 0;have c1:=cell_at (v:=.bool b) HBf.out 1 rfl;have fc1:=froz_at HBf.out 1;have c2:=cell_at (v:=.slice ao l c) HBf.out 2 rfl
 have fc2:=froz_at HBf.out 2;have c3:=cell_at (v:=.string nm) HBf.out 3 rfl;have fc3:=froz_at HBf.out 3;have c4:=cell_at (v:=.slice ko kl kc) HBf.out 4 rfl;have fc4:=froz_at HBf.out 4;go_wp2_with fail
 refine (sort_p o b ao l c nm ko kl kc x2).mono ?_;rintro e x3 ⟨rfl,hb⟩;clear c0 fc0 c1 fc1 c2 fc2 c3 fc3 c4 fc4;replace HBf:=kBV hb HBf;replace HBr:=kBV hb HBr;replace HT:=Lib.hid (HT.out.below hb);replace HE:=Lib.hid (HE.out.below hb);replace HW:=Lib.hid (HW.out.trans (hb.mono HW.out.size));rw[show srt o=2 from (by rw[HOO.out];exact HS.out)];have c0:=cell_at (v:=.int .i64 o) HBf.out 0 rfl;have fc0:=froz_at HBf.out 0;have c1:=cell_at (v:=.bool b) HBf.out 1 rfl;have fc1:=froz_at HBf.out 1;have c2:=cell_at (v:=.slice ao l c) HBf.out 2 rfl;have fc2:=froz_at HBf.out 2;have c3:=cell_at (v:=.string nm) HBf.out 3 rfl;have fc3:=froz_at HBf.out 3;have c4:=cell_at (v:=.slice ko kl kc) HBf.out 4 rfl;have fc4:=froz_at HBf.out 4;go_wp2_with fail
 refine (IL _ _ env t S x3 HT.out HE.out HR.out HS.out HSM.out).mono ?_;rintro e x4 ⟨x,rfl,hx,hb⟩;clear c0 fc0 c1 fc1 c2 fc2 c3 fc3 c4 fc4;replace HBf:=kBV hb HBf;replace HBr:=kBV hb HBr;replace HT:=Lib.hid (HT.out.below hb);replace HE:=Lib.hid (HE.out.below hb);replace HW:=Lib.hid (HW.out.trans (hb.mono HW.out.size));have HNL:=Lib.hid hx;clear hx;obtain⟨xo,xc,rfl,-,-⟩:=HNL.out.form;go_wp2_with fail
 refine (ofList_p _ _ x4 HNL.out (by have:=(sm_list HS.out HSM.out).1;omega)).mono ?_;rintro e x5 ⟨v,rfl,hv,hb⟩;replace HBf:=kBV hb HBf;replace HBr:=kBV hb HBr;replace HT:=Lib.hid (HT.out.below hb);replace HE:=Lib.hid (HE.out.below hb);replace HW:=Lib.hid (HW.out.trans (hb.mono HW.out.size));obtain⟨o2,l2,c2,rfl,hn⟩:=hv.list;have HV:=Lib.hid hv;clear hv hn;obtain⟨⟨r0,r1,r2,r3,r4⟩,fr0,fr1,fr2,fr3,fr4⟩:=cells5V HBr.out;go_wp2_with fail
 obtain⟨s1,s2⟩:=res5V HW.out HBr.out n32_5 HKr.out (.int .i64 2) (.bool false) (.slice none 0 0) (.bool false) (.slice o2 l2 c2)
 (try simp only[Exit.inBlock,Exit.then])
 exact bodyPost_ret (v:=.agg #[.int .i64 2,.bool false,.slice none 0 0,.bool false,.slice o2 l2 c2]) (by simp[results,Try.results39,go_sem,r0,r1,r2,r3,r4]) rfl ⟨_,rfl,(show VC _ _ (ev (rho env) t) from by rw[ev_list HS.out];exact HV.out).fr (by decide) s1,s2⟩
theorem eval_all (d:Nat):NumC d/\LstC d/\TruC d/\ValC d:=by
 induction d with
 | zero =>
  have no:∀ {v:Value} {t:F} {S:Nat->Prop} {w:World},FC w S 0 v t->False:=fun h=>by obtain⟨_,_,_,_,_,_,_,_,_,h0,_⟩:=h.open;omega
  exact⟨fun _ _ _ _ _ _ h=>absurd h no,fun _ _ _ _ _ _ h=>absurd h no,fun _ _ _ _ _ _ h=>absurd h no,fun _ _ _ _ _ _ h=>absurd h no⟩
 | succ d ih =>
  obtain⟨h1,h2,h3,h4⟩:=ih;have n:=num_step d h1 h2;have l:=lst_step d h1 h2;have t:=tru_step d h1 h3 h4;exact⟨n,l,t,val_step (d+1) n l t⟩
theorem VC.shape {w:World} {v:Value} {x:V} (h:VC w v x):∃ k b o l c p m q,v=.agg #[.int .i64 k,.bool b,.slice o l c,.bool (asB x),.slice p m q]:=by
 cases x with
 | I z=>obtain⟨o,l,c,rfl,-⟩:=h.int;exact⟨_,_,_,_,_,_,_,_,rfl⟩
 | B b=>have:=h.bool;subst this;exact⟨_,_,_,_,_,_,_,_,rfl⟩
 | L l=>obtain⟨o,l',c,rfl,-⟩:=h.list;exact⟨_,_,_,_,_,_,_,_,rfl⟩
theorem eval_p (d:Nat) (ve v:Value) (env:List (ByteArray × V)) (t:F) (S:Nat->Prop) (w:World) (h:FC w S d v t) (he:EL w ve env) (hr:rt t=true) (hsm:Sm (rho env) t) :
  Calls Try.prog 12 #[v,ve] w fun e w'=>∃ x,e=.returned x/\VC w' x (ev (rho env) t)/\Below w.heap.size w w':=by
 obtain⟨eo,en,ec,rfl⟩:=he.shape;have HT:=Lib.hid h;obtain⟨b,ao,l,c,ko,kl,kc,rfl,-,-,-⟩:=h.open;obtain⟨o,hoo⟩:∃ o,o=t.op:=⟨_,rfl⟩
 obtain⟨nm,hnm⟩:∃ o,o=t.name:=⟨_,rfl⟩
 rw[<-hoo] at HT ⊢;rw[<-hnm] at HT ⊢;have HOO:=Lib.hid hoo;have HE:=Lib.hid he;have HR:=Lib.hid hr;have HSM:=Lib.hid hsm;clear h he hr hsm hoo hnm;have HW:=Lib.hid (Below.refl w.heap.size w);go_enter Try.func12,Try.ntmps12
 obtain⟨x1,kf,ef,ekf,hbf,hkf,HBf⟩:=newV w #[.int .i64 o,.bool b,.slice ao l c,.string nm,.slice ko kl kc] 29;replace HT:=Lib.hid (HT.out.below hbf.out);replace HE:=Lib.hid (HE.out.below hbf.out);replace HW:=Lib.hid (HW.out.trans (hbf.out.mono HW.out.size));obtain⟨x2,kr,er,ekr,hbr,hkr,HBr⟩:=newV x1 #[.int .i64 0,.bool false,.slice none 0 0,.bool false,.slice none 0 0] 41;replace HBf:=kBV hbr.out HBf;replace HT:=Lib.hid (HT.out.below hbr.out);replace HE:=Lib.hid (HE.out.below hbr.out);replace HW:=Lib.hid (HW.out.trans (hbr.out.mono HW.out.size));have HKr:Hid (w.heap.size<=kr):=Lib.hid (Nat.le_trans hbf.out.size hkr.out);have c0:=cell_at (v:=.int .i64 o) HBf.out 0 rfl;have fc0:=froz_at HBf.out 0;have c1:=cell_at (v:=.bool b) HBf.out 1 rfl;have fc1:=froz_at HBf.out 1;have c2:=cell_at (v:=.slice ao l c) HBf.out 2 rfl
 have fc2:=froz_at HBf.out 2;have c3:=cell_at (v:=.string nm) HBf.out 3 rfl;have fc3:=froz_at HBf.out 3;have c4:=cell_at (v:=.slice ko kl kc) HBf.out 4 rfl;have fc4:=froz_at HBf.out 4;go_wp2_with fail
 refine (right_p d _ t S x2 HT.out).mono ?_;rintro e x3 ⟨rfl,hb⟩;clear c0 fc0 c1 fc1 c2 fc2 c3 fc3 c4 fc4;replace HBf:=kBV hb HBf;replace HBr:=kBV hb HBr;replace HT:=Lib.hid (HT.out.below hb);replace HE:=Lib.hid (HE.out.below hb);replace HW:=Lib.hid (HW.out.trans (hb.mono HW.out.size));rw[HR.out];have c0:=cell_at (v:=.int .i64 o) HBf.out 0 rfl;have fc0:=froz_at HBf.out 0;have c1:=cell_at (v:=.bool b) HBf.out 1 rfl;have fc1:=froz_at HBf.out 1;have c2:=cell_at (v:=.slice ao l c) HBf.out 2 rfl;have fc2:=froz_at HBf.out 2;have c3:=cell_at (v:=.string nm) HBf.out 3 rfl;have fc3:=froz_at HBf.out 3;have c4:=cell_at (v:=.slice ko kl kc) HBf.out 4 rfl;have fc4:=froz_at HBf.out 4;go_wp2_with fail
 refine ((eval_all d).2.2.2 _ _ env t S x3 HT.out HE.out HR.out HSM.out).mono ?_;rintro e x4 ⟨x,rfl,hx,hb⟩;clear c0 fc0 c1 fc1 c2 fc2 c3 fc3 c4 fc4;replace HBf:=kBV hb HBf;replace HBr:=kBV hb HBr;replace HT:=Lib.hid (HT.out.below hb);replace HE:=Lib.hid (HE.out.below hb);replace HW:=Lib.hid (HW.out.trans (hb.mono HW.out.size));obtain⟨k1,b1,o1,l1,c1,p1,m1,q1,rfl⟩:=hx.shape;have HV:=Lib.hid hx;clear hx;obtain⟨⟨r0,r1,r2,r3,r4⟩,fr0,fr1,fr2,fr3,fr4⟩:=cells5V HBr.out;go_wp2_with fail
 obtain⟨s1,s2⟩:=res5V HW.out HBr.out n32_5 HKr.out (.int .i64 k1) (.bool b1) (.slice o1 l1 c1) (.bool (asB (ev (rho env) t))) (.slice p1 m1 q1)
 (try simp only[Exit.inBlock,Exit.then])
 exact bodyPost_ret (v:=.agg #[.int .i64 k1,.bool b1,.slice o1 l1 c1,.bool (asB (ev (rho env) t)),.slice p1 m1 q1]) (by simp[results,Try.results12,go_sem,r0,r1,r2,r3,r4]) rfl ⟨_,rfl,(HV.out).fr (by decide) s1,s2⟩
theorem holds_p (d:Nat) (ve v:Value) (env:List (ByteArray × V)) (t:F) (S:Nat->Prop) (w:World) (h:FC w S d v t) (he:EL w ve env) (hr:rt t=true) (hsm:Sm (rho env) t) :
  Calls Try.prog 14 #[v,ve] w fun e w'=>e=.returned (.bool (asB (ev (rho env) t)))/\Below w.heap.size w w':=by
 obtain⟨eo,en,ec,rfl⟩:=he.shape;have HT:=Lib.hid h;obtain⟨b,ao,l,c,ko,kl,kc,rfl,-,-,-⟩:=h.open;obtain⟨o,hoo⟩:∃ o,o=t.op:=⟨_,rfl⟩
 obtain⟨nm,hnm⟩:∃ o,o=t.name:=⟨_,rfl⟩
 rw[<-hoo] at HT ⊢;rw[<-hnm] at HT ⊢;have HOO:=Lib.hid hoo;have HE:=Lib.hid he;have HR:=Lib.hid hr;have HSM:=Lib.hid hsm;clear h he hr hsm hoo hnm;have HW:=Lib.hid (Below.refl w.heap.size w);go_enter Try.func14,Try.ntmps14
 obtain⟨x1,kf,ef,ekf,hbf,hkf,HBf⟩:=newV w #[.int .i64 o,.bool b,.slice ao l c,.string nm,.slice ko kl kc] 29;replace HT:=Lib.hid (HT.out.below hbf.out);replace HE:=Lib.hid (HE.out.below hbf.out);replace HW:=Lib.hid (HW.out.trans (hbf.out.mono HW.out.size));have c0:=cell_at (v:=.int .i64 o) HBf.out 0 rfl;have fc0:=froz_at HBf.out 0;have c1:=cell_at (v:=.bool b) HBf.out 1 rfl;have fc1:=froz_at HBf.out 1;have c2:=cell_at (v:=.slice ao l c) HBf.out 2 rfl;have fc2:=froz_at HBf.out 2;have c3:=cell_at (v:=.string nm) HBf.out 3 rfl;have fc3:=froz_at HBf.out 3;have c4:=cell_at (v:=.slice ko kl kc) HBf.out 4 rfl;have fc4:=froz_at HBf.out 4;go_wp2_with fail
 refine (eval_p d _ _ env t S x1 HT.out HE.out HR.out HSM.out).mono ?_;rintro e x2 ⟨x,rfl,hx,hb⟩;clear c0 fc0 c1 fc1 c2 fc2 c3 fc3 c4 fc4;replace HBf:=kBV hb HBf;replace HT:=Lib.hid (HT.out.below hb);replace HE:=Lib.hid (HE.out.below hb);replace HW:=Lib.hid (HW.out.trans (hb.mono HW.out.size));obtain⟨k1,b1,o1,l1,c1,p1,m1,q1,rfl⟩:=hx.shape;clear hx;go_wp2_with fail
 go_ret
 exact⟨rfl,HW.out⟩
attribute [local go_sem] fieldV0 fieldV1 fieldV2 fieldV3
def tS:Nat->Prop:=fun _=>True
theorem FC.t {w:World} {S:Nat->Prop} {d:Nat} {v:Value} {t:F} (h:FC w S d v t):FC w tS d v t:=h.mono fun _ _=>trivial
theorem FC.lt {w:World} {S:Nat->Prop} {d:Nat} {v:Value} {t:F} (h:FC w S d v t):FC w (fun b=>b<w.heap.size) d v t:=by
 obtain⟨u,h1,h2⟩:=h;exact⟨u,h1,h2.lt.mono fun _ h=>h.2⟩
theorem FC.put {w w':World} {d k:Nat} {v:Value} {t:F} (h:FC w (fun b=>b≠k) d v t) (hg:w.grownBy w' (some k)) {e:TypeId} (hf:Fr e w w'):FC w' (fun b=>b≠k) d v t:=
 h.grown hg (KN.of_fr hf) (fun b hb e=>hb (by injection e with e;exact e.symm))
theorem FC.unit5 {w:World} {S:Nat->Prop} {d:Nat} {v0 v1 v2 v3 v4:Value} {t:F} (h:FC w S d (.agg #[v0,v1,v2,v3,v4]) t):∃ u:FU,fC u=[v0,v1,v2,v3,v4]/\FT w S d u t:=by
 obtain⟨u,e,h⟩:=h;refine⟨u,?_,h⟩;unfold fV at e;injection e with e;unfold fC;have:=congrArg Array.toList e
 simpa using this.symm
theorem FL.one {w:World} {S:Nat->Prop} {d g:Nat} {v0 v1 v2 v3 v4:Value} {t:F} (hB:w.heap[g]?=some (.cells #[v0,v1,v2,v3,v4] 29 (0,0))) (hS:S g) (h:FC w S d (.agg #[v0,v1,v2,v3,v4]) t):FL w S d (.slice (some ⟨g,0,none⟩) 1 1) [t]:=by
 obtain⟨u,hu,hT⟩:=h.unit5;refine⟨[(u,t)],⟨_,_,rfl,⟨Nat.le_refl _,by decide,fun h=>by cases h⟩,fun _ a ha=>by injection ha with ha;subst ha;exact hS,fun i hi=>?_⟩,rfl⟩;obtain rfl:i=0:=by simp at hi;omega
 refine⟨⟨_,rfl,fun j v hj=>?_⟩,hT⟩;have hj2:(fC u)[j]?=some v:=hj;rw[hu] at hj2;rw[add_litV,add_litV,show 0+0*(fE d).n+j=j by omega,cell_of_row w g _ _ _ _ hB]
 simpa using hj2
theorem FL.two {w:World} {S:Nat->Prop} {d g:Nat} {v0 v1 v2 v3 v4 u0 u1 u2 u3 u4:Value} {t s:F} (hB:w.heap[g]?=some (.cells #[v0,v1,v2,v3,v4,u0,u1,u2,u3,u4] 29 (0,0))) (hS:S g) (h:FC w S d (.agg #[v0,v1,v2,v3,v4]) t) (k:FC w S d (.agg #[u0,u1,u2,u3,u4]) s):FL w S d (.slice (some ⟨g,0,none⟩) 2 2) [t,s]:=by
 obtain⟨u,hu,hT⟩:=h.unit5;obtain⟨x,hx,hX⟩:=k.unit5;refine⟨[(u,t),(x,s)],⟨_,_,rfl,⟨Nat.le_refl _,by decide,fun h=>by cases h⟩,fun _ a ha=>by injection ha with ha;subst ha;exact hS,fun i hi=>?_⟩,rfl⟩;have hi2:i=0\/i=1:=by simp at hi;omega
 rcases hi2 with rfl | rfl
 ·refine⟨⟨_,rfl,fun j v hj=>?_⟩,hT⟩;have hj2:(fC u)[j]?=some v:=hj;rw[hu] at hj2;rw[add_litV,add_litV,show 0+0*(fE d).n+j=j by omega,cell_of_row w g _ _ _ _ hB];have hlt:j<5:=by have:=(List.getElem?_eq_some_iff.1 hj2).1;simpa using this
  have:([v0,v1,v2,v3,v4]++[u0,u1,u2,u3,u4])[j]?=some v:=by rw[List.getElem?_append_left (by simpa using hlt)];exact hj2
  simpa using this
 refine⟨⟨_,rfl,fun j v hj=>?_⟩,hX⟩;have hj2:(fC x)[j]?=some v:=hj;rw[hx] at hj2;rw[add_litV,add_litV,show 0+1*(fE d).n+j=5+j from by show 0+1*5+j=5+j;omega,cell_of_row w g _ _ _ _ hB];have:([v0,v1,v2,v3,v4]++[u0,u1,u2,u3,u4])[5+j]?=some v:=by rw[List.getElem?_append_right (by simp)];simpa using hj2
 simpa using this
theorem res5F {w0 w:World} {k:Nat} {c:Array Value} (hb:Below w0.heap.size w0 w) (hB:w.heap[k]?=some (.cells c 29 (0,0))) (h32:N32 c.toList) (hk:w0.heap.size<=k) (v0 v1 v2 v3 v4:Value) :
  Fr 29 w (((((w.setCell ⟨k,0,none⟩ v0).setCell ⟨k,1,none⟩ v1).setCell ⟨k,2,none⟩ v2).setCell ⟨k,3,none⟩ v3).setCell ⟨k,4,none⟩ v4)/\Below w0.heap.size w0 (((((w.setCell ⟨k,0,none⟩ v0).setCell ⟨k,1,none⟩ v1).setCell ⟨k,2,none⟩ v2).setCell ⟨k,3,none⟩ v3).setCell ⟨k,4,none⟩ v4):=
 ⟨.of_grown (grown5V v0 v1 v2 v3 v4) (fun g hg=>by injection hg with hg;subst hg;exact⟨_,hB,h32⟩),hb.trans ((grown_belowV (grown5V v0 v1 v2 v3 v4) (Nat.le_of_lt (by have:=lt_of_block hB;omega)) hk).mono (Nat.le_refl _))⟩
def opVar (b:Int):Int:=if b=1 then 14 else if b=2 then 8 else 1
theorem var_p (nm:ByteArray) (b:Int) (w:World) :
  Calls Try.prog 20 #[.string nm,.int .i64 b] w fun e w'=>e=.returned (.agg #[.int .i64 (opVar b),.bool false,.slice none 0 0,.string nm,.slice none 0 0])/\Below w.heap.size w w':=by
 have hb:b=1\/b=2\/(b≠1/\b≠2):=by omega
 rcases hb with rfl | rfl | ⟨h1,h2⟩
 ·have HW:=Lib.hid (Below.refl w.heap.size w);go_enter Try.func20,Try.ntmps20
  obtain⟨x1,kr,er,ekr,hbr,hkr,HBr⟩:=newV w #[.int .i64 0,.bool false,.slice none 0 0,.string ⟨#[]⟩,.slice none 0 0] 29;replace HW:=Lib.hid (HW.out.trans (hbr.out.mono HW.out.size));have HKr:Hid (w.heap.size<=kr):=hkr;obtain⟨⟨r0,r1,r2,r3,r4⟩,fr0,fr1,fr2,fr3,fr4⟩:=cells5V HBr.out;go_wp2_with fail
  obtain⟨s1,s2⟩:=res5F HW.out HBr.out n32_F HKr.out (.int .i64 14) (.bool false) (.slice none 0 0) (.string nm) (.slice none 0 0)
  (try simp only[Exit.inBlock,Exit.then])
  exact bodyPost_ret (v:=.agg #[.int .i64 14,.bool false,.slice none 0 0,.string nm,.slice none 0 0]) (by simp[results,Try.results20,go_sem,r0,r1,r2,r3,r4]) rfl ⟨rfl,s2⟩
 ·have HW:=Lib.hid (Below.refl w.heap.size w);go_enter Try.func20,Try.ntmps20
  obtain⟨x1,kr,er,ekr,hbr,hkr,HBr⟩:=newV w #[.int .i64 0,.bool false,.slice none 0 0,.string ⟨#[]⟩,.slice none 0 0] 29;replace HW:=Lib.hid (HW.out.trans (hbr.out.mono HW.out.size));have HKr:Hid (w.heap.size<=kr):=hkr;obtain⟨⟨r0,r1,r2,r3,r4⟩,fr0,fr1,fr2,fr3,fr4⟩:=cells5V HBr.out;go_wp2_with fail
  obtain⟨s1,s2⟩:=res5F HW.out HBr.out n32_F HKr.out (.int .i64 8) (.bool false) (.slice none 0 0) (.string nm) (.slice none 0 0)
  (try simp only[Exit.inBlock,Exit.then])
  exact bodyPost_ret (v:=.agg #[.int .i64 8,.bool false,.slice none 0 0,.string nm,.slice none 0 0]) (by simp[results,Try.results20,go_sem,r0,r1,r2,r3,r4]) rfl ⟨rfl,s2⟩
 have HW:=Lib.hid (Below.refl w.heap.size w);have n1:(b==1)=false:=beq_eq_false_iff_ne.2 h1;have n2:(b==2)=false:=beq_eq_false_iff_ne.2 h2;have ho:opVar b=1:=by unfold opVar;rw[if_neg h1,if_neg h2]
 rw[ho];clear h1 h2 ho;go_enter Try.func20,Try.ntmps20
 obtain⟨x1,kr,er,ekr,hbr,hkr,HBr⟩:=newV w #[.int .i64 0,.bool false,.slice none 0 0,.string ⟨#[]⟩,.slice none 0 0] 29;replace HW:=Lib.hid (HW.out.trans (hbr.out.mono HW.out.size));have HKr:Hid (w.heap.size<=kr):=hkr;obtain⟨⟨r0,r1,r2,r3,r4⟩,fr0,fr1,fr2,fr3,fr4⟩:=cells5V HBr.out;go_wp2_with fail
 obtain⟨s1,s2⟩:=res5F HW.out HBr.out n32_F HKr.out (.int .i64 1) (.bool false) (.slice none 0 0) (.string nm) (.slice none 0 0)
 (try simp only[Exit.inBlock,Exit.then])
 exact bodyPost_ret (v:=.agg #[.int .i64 1,.bool false,.slice none 0 0,.string nm,.slice none 0 0]) (by simp[results,Try.results20,go_sem,r0,r1,r2,r3,r4]) rfl ⟨rfl,s2⟩
theorem int_p (n:Int) (w:World) (h1 : -9223372036854775808<=n) (h2:n<=9223372036854775807) :
  Calls Try.prog 27 #[.int .i64 n] w fun e w'=>∃ b o l c,e=.returned (.agg #[.int .i64 0,.bool b,.slice o l c,.string ⟨#[]⟩,.slice none 0 0])/\CI w' (.agg #[.bool b,.slice o l c]) n 600/\Below w.heap.size w w':=by
 have HW:=Lib.hid (Below.refl w.heap.size w);go_enter Try.func27,Try.ntmps27
 obtain⟨x1,kr,er,ekr,hbr,hkr,HBr⟩:=newV w #[.int .i64 0,.bool false,.slice none 0 0,.string ⟨#[]⟩,.slice none 0 0] 29;replace HW:=Lib.hid (HW.out.trans (hbr.out.mono HW.out.size));have HKr:Hid (w.heap.size<=kr):=hkr;go_wp2_with fail
 refine (wof_any n x1 h1 h2).mono ?_;rintro e x2 ⟨x,rfl,hx,hb⟩;replace HBr:=kBV hb HBr;replace HW:=Lib.hid (HW.out.trans (hb.mono HW.out.size));obtain⟨b1,o1,l1,c1,rfl⟩:=hx.shape;have HV:=Lib.hid (hx.mono (k':=600) (by decide));clear hx;obtain⟨⟨r0,r1,r2,r3,r4⟩,fr0,fr1,fr2,fr3,fr4⟩:=cells5V HBr.out;go_wp2_with fail
 obtain⟨s1,s2⟩:=res5F HW.out HBr.out n32_F HKr.out (.int .i64 0) (.bool b1) (.slice o1 l1 c1) (.string ⟨#[]⟩) (.slice none 0 0)
 (try simp only[Exit.inBlock,Exit.then])
 exact bodyPost_ret (v:=.agg #[.int .i64 0,.bool b1,.slice o1 l1 c1,.string ⟨#[]⟩,.slice none 0 0]) (by simp[results,Try.results27,go_sem,r0,r1,r2,r3,r4]) rfl ⟨_,_,_,_,rfl,HV.out.fr s1,s2⟩
theorem of_p (o:Int) (ko:Option Addr) (kl kc:Nat) (w:World) :
  Calls Try.prog 46 #[.int .i64 o,.slice ko kl kc] w fun e w'=>e=.returned (.agg #[.int .i64 o,.bool false,.slice none 0 0,.string ⟨#[]⟩,.slice ko kl kc])/\Below w.heap.size w w':=by
 have HW:=Lib.hid (Below.refl w.heap.size w);go_enter Try.func46,Try.ntmps46
 obtain⟨x1,kr,er,ekr,hbr,hkr,HBr⟩:=newV w #[.int .i64 0,.bool false,.slice none 0 0,.string ⟨#[]⟩,.slice none 0 0] 29;replace HW:=Lib.hid (HW.out.trans (hbr.out.mono HW.out.size));have HKr:Hid (w.heap.size<=kr):=hkr;obtain⟨⟨r0,r1,r2,r3,r4⟩,fr0,fr1,fr2,fr3,fr4⟩:=cells5V HBr.out;go_wp2_with fail
 obtain⟨s1,s2⟩:=res5F HW.out HBr.out n32_F HKr.out (.int .i64 o) (.bool false) (.slice none 0 0) (.string ⟨#[]⟩) (.slice ko kl kc)
 (try simp only[Exit.inBlock,Exit.then])
 exact bodyPost_ret (v:=.agg #[.int .i64 o,.bool false,.slice none 0 0,.string ⟨#[]⟩,.slice ko kl kc]) (by simp[results,Try.results46,go_sem,r0,r1,r2,r3,r4]) rfl ⟨rfl,s2⟩
attribute [local go_sem] fieldV0 fieldV1 fieldV2 fieldV3
theorem size_p (d:Nat):∀ (v:Value) (t:F) (S:Nat->Prop) (w:World),FC w S d v t->szF t<=1000000 ->
  Calls Try.prog 30 #[v] w fun e w'=>e=.returned (.int .i64 (szF t:Nat))/\Below w.heap.size w w':=by
 induction d with
 | zero=>intro v t S w h;obtain⟨_,_,_,_,_,_,_,_,_,h0,_⟩:=h.open;omega
 | succ d ih =>
  intro v t S w h hsz;obtain⟨b,ao,l,c,ko,kl,kc,rfl,⟨hr,hz,hkl,hkc,hkm⟩,-,hk⟩:=h.open;obtain⟨o,z,nm,ks⟩:=t;simp only[F.op,F.num,F.name,F.kids] at hr hz hk hkl ⊢;obtain⟨n,hn⟩:∃ n,n=ks.length:=⟨_,rfl⟩
  rw[<-hn] at hkl;subst hkl;have HN:=Lib.hid hn;have HSZ:=Lib.hid hsz;clear hn hr hz h hsz;have HX:=Lib.hid hk;have IH:=Lib.hid ih;clear hk ih;have HW:=Lib.hid (Below.refl w.heap.size w);have hkm':kc<=9223372036854775807:=hkm;go_enter Try.func30,Try.ntmps30
  obtain⟨x1,kf,ef,ekf,hbf,hkf,HBf⟩:=newV w #[.int .i64 o,.bool b,.slice ao l c,.string nm,.slice ko kl kc] 29;replace HX:=Lib.hid (HX.out.below hbf.out);replace HW:=Lib.hid (HW.out.trans (hbf.out.mono HW.out.size));have c0:=cell_at (v:=.int .i64 o) HBf.out 0 rfl;have fc0:=froz_at HBf.out 0;have c1:=cell_at (v:=.bool b) HBf.out 1 rfl;have fc1:=froz_at HBf.out 1;have c2:=cell_at (v:=.slice ao l c) HBf.out 2 rfl;have fc2:=froz_at HBf.out 2;have c3:=cell_at (v:=.string nm) HBf.out 3 rfl;have fc3:=froz_at HBf.out 3;have c4:=cell_at (v:=.slice ko kl kc) HBf.out 4 rfl;have fc4:=froz_at HBf.out 4;go_wp2_with fail
  clear c0 fc0 c1 fc1 c2 fc2 c3 fc3 c4 fc4
  go_loopw [3,9] (fun m i wr=>∃ j:Nat,m=.int .i64 ((1+szsF (ks.take j):Nat):Int)/\i=.int .i64 (j:Nat)/\j<=kl/\Hid (Below x1.heap.size x1 wr)) (fun _ i _=>kl - (intOf i).toNat)
  case atStart=>exact⟨0,rfl,rfl,Nat.zero_le _,Lib.hid (Below.refl _ _)⟩
  case round =>
   obtain⟨j,rfl,rfl,hj,HB⟩:=hrel;replace HX:=Lib.hid (HX.out.below HB.out);replace HW:=Lib.hid (HW.out.trans (HB.out.mono HW.out.size))
   by_cases hlt:j<kl
   ·have hz:j<ks.length:=by rw[<-HN.out];exact hlt
    obtain⟨a,bb,qo,ql,qc,po,pl,pc,rfl,⟨c0,c1,c2,c3,c4⟩,hf⟩:=HX.out.cells j hz;have HFC:=Lib.hid hf;clear hf;obtain⟨x,hxx⟩:∃ x,x=ks[j].op:=⟨_,rfl⟩
    obtain⟨ym,hnm⟩:∃ x,x=ks[j].name:=⟨_,rfl⟩
    rw[<-hxx] at c0 HFC;rw[<-hnm] at c3 HFC;clear hxx hnm;have hst:=szsF_take ks j hz;have hle:=szsF_take_le ks (j+1);have hs1:szsF ks+1<=1000000:=by have:=HSZ.out;rw[szF] at this;omega
    have HST:=Lib.hid hst;have hb1:szsF (ks.take j)<=1000000:=by omega
    have hb2:szF ks[j]<=1000000:=by omega
    have hb3:szsF (ks.take j)+szF ks[j]<=1000000:=by omega
    clear hst hle hs1;obtain⟨x2,k8,e8,ek8,hb8,hk8,HB8⟩:=newV wr #[.int .i64 x,.bool bb,.slice qo ql qc,.string ym,.slice po pl pc] 29;replace HW:=Lib.hid (HW.out.trans (hb8.out.mono HW.out.size));replace HB:=Lib.hid (HB.out.trans (hb8.out.mono HB.out.size));replace HFC:=Lib.hid (HFC.out.below hb8.out);have g0:=cell_at (v:=.int .i64 x) HB8.out 0 rfl;have fg0:=froz_at HB8.out 0;have g1:=cell_at (v:=.bool bb) HB8.out 1 rfl;have fg1:=froz_at HB8.out 1;have g2:=cell_at (v:=.slice qo ql qc) HB8.out 2 rfl;have fg2:=froz_at HB8.out 2;have g3:=cell_at (v:=.string ym) HB8.out 3 rfl;have fg3:=froz_at HB8.out 3;have g4:=cell_at (v:=.slice po pl pc) HB8.out 4 rfl;have fg4:=froz_at HB8.out 4;go_wp2_with fail
    refine (IH.out _ ks[j] S x2 HFC.out hb2).mono ?_;rintro e x3 ⟨rfl,hb⟩;clear g0 fg0 g1 fg1 g2 fg2 g3 fg3 g4 fg4;replace HB8:=kBV hb HB8;replace HW:=Lib.hid (HW.out.trans (hb.mono HW.out.size));replace HB:=Lib.hid (HB.out.trans (hb.mono HB.out.size));replace HFC:=Lib.hid (HFC.out.below hb);clear hb HFC;obtain⟨X,hX⟩:∃ X,X=szF ks[j]:=⟨_,rfl⟩
    obtain⟨Y,hY⟩:∃ Y,Y=szsF (ks.take j):=⟨_,rfl⟩
    rw[<-hX] at HST hb2 hb3 ⊢;rw[<-hY] at HST hb1 hb3 ⊢;clear hX hY;go_wp2_with fail
    go_roundw
    case rel=>exact⟨j+1,by rw[HST.out];go_num,by go_num,hlt,HB⟩
    case measure=>simp[intOf];omega
   go_wp2_with fail
   go_ret
   refine⟨?_,HW.out⟩;rw[show j=kl by omega,HN.out,List.take_length,szF];rfl
theorem less_p (va vb:Value) (p q:F) (d:Nat) (w:World) (hd:1<=d) (hp:FC w tS d va p) (hq:FC w tS (d+1) vb q) :
  Calls Try.prog 22 #[va,vb] w fun e w'=>∃ v,e=.returned v/\FC w' tS (d+2) v (.node 15 0 ⟨#[]⟩ [.node 2 0 ⟨#[]⟩ [p,.node 0 1 ⟨#[]⟩ []],q])/\Below w.heap.size w w':=by
 have HP:=Lib.hid hp;have HQ:=Lib.hid hq;obtain⟨pb,po,pl,pc,pko,pkl,pkc,rfl,-,-,-⟩:=hp.open;obtain⟨qb,qo,ql,qc,qko,qkl,qkc,rfl,-,-,-⟩:=hq.open;obtain⟨p0,hp0⟩:∃ x,x=p.op:=⟨_,rfl⟩
 obtain⟨pn,hpn⟩:∃ x,x=p.name:=⟨_,rfl⟩
 obtain⟨q0,hq0⟩:∃ x,x=q.op:=⟨_,rfl⟩
 obtain⟨qn,hqn⟩:∃ x,x=q.name:=⟨_,rfl⟩
 rw[<-hp0,<-hpn] at HP ⊢;rw[<-hq0,<-hqn] at HQ ⊢;clear hp hq hp0 hpn hq0 hqn;have HW:=Lib.hid (Below.refl w.heap.size w);have HP0:=Lib.hid HP.out.lt;have HQ0:=Lib.hid HQ.out.lt;go_enter Try.func22,Try.ntmps22
 obtain⟨x1,ka,ea,eka,hba,hka,HBa⟩:=newV w #[.int .i64 p0,.bool pb,.slice po pl pc,.string pn,.slice pko pkl pkc] 29;replace HW:=Lib.hid (HW.out.trans (hba.out.mono HW.out.size));replace HP:=Lib.hid (HP.out.below hba.out);replace HQ:=Lib.hid (HQ.out.below hba.out);obtain⟨x2,kq,eq,ekq,hbq,hkq,HBq⟩:=newV x1 #[.int .i64 q0,.bool qb,.slice qo ql qc,.string qn,.slice qko qkl qkc] 29;replace HBa:=kBV hbq.out HBa;replace HW:=Lib.hid (HW.out.trans (hbq.out.mono HW.out.size));replace HP:=Lib.hid (HP.out.below hbq.out);replace HQ:=Lib.hid (HQ.out.below hbq.out);have HWq:=HW;obtain⟨x3,kr,er,ekr,hbr,hkr,HBr⟩:=newV x2 #[.int .i64 0,.bool false,.slice none 0 0,.string ⟨#[]⟩,.slice none 0 0] 29;replace HBa:=kBV hbr.out HBa;replace HBq:=kBV hbr.out HBq;replace HW:=Lib.hid (HW.out.trans (hbr.out.mono HW.out.size))
 replace HP:=Lib.hid (HP.out.below hbr.out);replace HQ:=Lib.hid (HQ.out.below hbr.out);have HKr:Hid (w.heap.size<=kr):=Lib.hid (Nat.le_trans HWq.out.size hkr.out);replace HP:=Lib.hid ((HP0.out.below HW.out).mono (S':=fun b=>b≠kr) (fun b hb=>by have:=HKr.out;omega));replace HQ:=Lib.hid ((HQ0.out.below HW.out).mono (S':=fun b=>b≠kr) (fun b hb=>by have:=HKr.out;omega));go_upto_region 1 with fail
 have hlt_a:=lt_of_block HBa.out;have hlt_q:=lt_of_block HBq.out;have hog:Hid (∀ q,q<0->(fun q=>0) q<x3.heap.size):=Lib.hid (fun q h=>absurd h (Nat.not_lt_zero _));refine R7.region (by kernel_rfl) [[],[],[0,1],[0,1,2],[],[0,1,2,3,4],[0,1,2,3,4,5],[0,1,2,3,4,5,6]] [] [] (fun q=>0) 0 7 (by kernel_rfl) (by kernel_rfl) (by rfl) hog.out (fun q q' h h' hn=>absurd hn (by omega)) ?_;refine R7.Chain.det ?_ (by rfl) (fun T xs wr hA=>?_) ?_
 rotate_left 1
 ·have e2:=hA.pre 2 (by kernel_rfl);simp only[gsa,gsc,gsz] at e2;have hBq:wr.heap[ka]?=_:=(hA.bl _ hlt_a (fun q h=>absurd h (Nat.not_lt_zero _))).trans HBa.out;have q0:=cell_at (v:=.int .i64 p0) hBq 0 rfl;have q1:=cell_at (v:=.bool pb) hBq 1 rfl;have q2:=cell_at (v:=.slice po pl pc) hBq 2 rfl;have q3:=cell_at (v:=.string pn) hBq 3 rfl;have q4:=cell_at (v:=.slice pko pkl pkc) hBq 4 rfl;clear hBq;clear hA;refine⟨(by rfl),?_⟩;go_simp<;>(try with_reducible rfl)
 refine R7.Chain.call (fun xs v w=>∃ b o l c,v=.agg #[.int .i64 0,.bool b,.slice o l c,.string ⟨#[]⟩,.slice none 0 0]/\FC w (fun b=>b≠kr) 1 (.agg #[.int .i64 0,.bool b,.slice o l c,.string ⟨#[]⟩,.slice none 0 0]) (.node 0 1 ⟨#[]⟩ [])) (fun _ _ _ _ h hb=>by obtain⟨b,o,l,c,h1,h2⟩:=h;exact⟨b,o,l,c,h1,h2.below hb⟩) (fun _ _ _ _ _ _ h _=>by obtain⟨q,hq,_⟩:=h;exact absurd hq (Nat.not_lt_zero _)) (by rfl) (fun T xs wr hA=>?_) ?_
 ·have hsw:=(hA.be 0 (Nat.zero_le _) (fun _ _=>Nat.zero_le _)).size;have hbw:=undrew (hA.be x3.heap.size (Nat.le_refl _) (fun q h=>absurd h (Nat.not_lt_zero q)));clear hA;refine⟨(by rfl),fun K hK=>?_⟩;go_simp
  refine (int_p 1 _ (by decide) (by decide)).mono ?_;rintro e w' ⟨b,o,l,c,rfl,hc,hb'⟩;exact hK.out _ _ ⟨b,o,l,c,rfl,FC.mk (by unfold IR;decide) hc (FL.nil _ _ _)⟩ hb'
 refine R7.Chain.call (fun xs v w=>∃ g,v=.slice (some ⟨g,0,none⟩) 2 2/\FL w (fun b=>b≠kr) d (.slice (some ⟨g,0,none⟩) 2 2) [p,.node 0 1 ⟨#[]⟩ []]) (fun _ _ _ _ h hb=>by obtain⟨g,h1,h2⟩:=h;exact⟨g,h1,h2.below hb⟩) (fun _ _ _ _ _ _ h _=>by obtain⟨q,hq,_⟩:=h;exact absurd hq (Nat.not_lt_zero _)) (by rfl) (fun T xs wr hA=>?_) ?_
 ·have hsw:=(hA.be 0 (Nat.zero_le _) (fun _ _=>Nat.zero_le _)).size;have e5:=hA.tm 0 5 (by rfl) (by rfl);have f5:xs 0=_:=hA.fa 0 (by rfl)
  (try simp (disch:=first | rfl | decide) only [R7.mask_in] at f5)
  rw[f5] at e5;clear f5;have e6:=hA.tm 1 6 (by rfl) (by rfl);have hbw:=undrew (hA.be x3.heap.size (Nat.le_refl _) (fun q h=>absurd h (Nat.not_lt_zero q)));have hF1:∃ b o l c,(xs 1)=.agg #[.int .i64 0,.bool b,.slice o l c,.string ⟨#[]⟩,.slice none 0 0]/\FC wr (fun b=>b≠kr) 1 (.agg #[.int .i64 0,.bool b,.slice o l c,.string ⟨#[]⟩,.slice none 0 0]) (.node 0 1 ⟨#[]⟩ []):=hA.fa 1 (by rfl);obtain⟨b1,o1,l1,c1,e1,hc1⟩:=hF1;have hpw:=HP.out.below hbw;clear hA;refine⟨(by rfl),fun K hK=>?_⟩;go_simp
  exact hK.out _ _ ⟨_,rfl,FL.two (made_at _ _ _ rfl) (by have h1:=lt_of_block HBr.out;have h2:=hbw.size;show _≠kr;omega) (hpw.below ((Below.refl _ _).alloc (Nat.le_refl _) _)) ((hc1.up hd).below ((Below.refl _ _).alloc (Nat.le_refl _) _))⟩ ((Below.refl _ _).alloc (Nat.le_refl _) _)
 refine R7.Chain.call (fun xs v w=>∃ g,v=.agg #[.int .i64 2,.bool false,.slice none 0 0,.string ⟨#[]⟩,.slice (some ⟨g,0,none⟩) 2 2]/\FC w (fun b=>b≠kr) (d+1) (.agg #[.int .i64 2,.bool false,.slice none 0 0,.string ⟨#[]⟩,.slice (some ⟨g,0,none⟩) 2 2]) (.node 2 0 ⟨#[]⟩ [p,.node 0 1 ⟨#[]⟩ []])) (fun _ _ _ _ h hb=>by obtain⟨g,h1,h2⟩:=h;exact⟨g,h1,h2.below hb⟩) (fun _ _ _ _ _ _ h _=>by obtain⟨q,hq,_⟩:=h;exact absurd hq (Nat.not_lt_zero _)) (by rfl) (fun T xs wr hA=>?_) ?_
 ·have hsw:=(hA.be 0 (Nat.zero_le _) (fun _ _=>Nat.zero_le _)).size;have e7:=hA.tm 2 7 (by rfl) (by rfl);have hbw:=undrew (hA.be x3.heap.size (Nat.le_refl _) (fun q h=>absurd h (Nat.not_lt_zero q)));have hF2:∃ g,(xs 2)=.slice (some ⟨g,0,none⟩) 2 2/\FL wr (fun b=>b≠kr) d (.slice (some ⟨g,0,none⟩) 2 2) [p,.node 0 1 ⟨#[]⟩ []]:=hA.fa 2 (by rfl);obtain⟨g2,e2,hl2⟩:=hF2;clear hA;refine⟨(by rfl),fun K hK=>?_⟩;go_simp
  refine (of_p 2 _ _ _ _).mono ?_;rintro e w' ⟨rfl,hb'⟩;exact hK.out _ _ ⟨_,rfl,FC.mk (by unfold IR;decide) (nr0 _) (hl2.below hb')⟩ hb'
 refine R7.Chain.det ?_ (by rfl) (fun T xs wr hA=>?_) ?_
 rotate_left 1
 ·have e3:=hA.pre 3 (by kernel_rfl);simp only[gsa,gsc,gsz] at e3;have hBq:wr.heap[kq]?=_:=(hA.bl _ hlt_q (fun q h=>absurd h (Nat.not_lt_zero _))).trans HBq.out;have q0:=cell_at (v:=.int .i64 q0) hBq 0 rfl;have q1:=cell_at (v:=.bool qb) hBq 1 rfl;have q2:=cell_at (v:=.slice qo ql qc) hBq 2 rfl;have q3:=cell_at (v:=.string qn) hBq 3 rfl;have q4:=cell_at (v:=.slice qko qkl qkc) hBq 4 rfl;clear hBq;clear hA;refine⟨(by rfl),?_⟩;go_simp<;>(try with_reducible rfl)
 refine R7.Chain.call (fun xs v w=>∃ g,v=.slice (some ⟨g,0,none⟩) 2 2/\FL w (fun b=>b≠kr) (d+1) (.slice (some ⟨g,0,none⟩) 2 2) [(.node 2 0 ⟨#[]⟩ [p,.node 0 1 ⟨#[]⟩ []]),q]) (fun _ _ _ _ h hb=>by obtain⟨g,h1,h2⟩:=h;exact⟨g,h1,h2.below hb⟩) (fun _ _ _ _ _ _ h _=>by obtain⟨q,hq,_⟩:=h;exact absurd hq (Nat.not_lt_zero _)) (by rfl) (fun T xs wr hA=>?_) ?_
 ·have hsw:=(hA.be 0 (Nat.zero_le _) (fun _ _=>Nat.zero_le _)).size;have e8:=hA.tm 3 8 (by rfl) (by rfl);have e9:=hA.tm 4 9 (by rfl) (by rfl);have f9:xs 4=_:=hA.fa 4 (by rfl)
  (try simp (disch:=first | rfl | decide) only [R7.mask_in] at f9)
  rw[f9] at e9;clear f9;have hbw:=undrew (hA.be x3.heap.size (Nat.le_refl _) (fun q h=>absurd h (Nat.not_lt_zero q)));have hF3:∃ g,(xs 3)=.agg #[.int .i64 2,.bool false,.slice none 0 0,.string ⟨#[]⟩,.slice (some ⟨g,0,none⟩) 2 2]/\FC wr (fun b=>b≠kr) (d+1) (.agg #[.int .i64 2,.bool false,.slice none 0 0,.string ⟨#[]⟩,.slice (some ⟨g,0,none⟩) 2 2]) (.node 2 0 ⟨#[]⟩ [p,.node 0 1 ⟨#[]⟩ []]):=hA.fa 3 (by rfl);obtain⟨g3,e3,hc3⟩:=hF3;have hqw:=HQ.out.below hbw;clear hA;refine⟨(by rfl),fun K hK=>?_⟩;go_simp
  exact hK.out _ _ ⟨_,rfl,FL.two (made_at _ _ _ rfl) (by have h1:=lt_of_block HBr.out;have h2:=hbw.size;show _≠kr;omega) (hc3.below ((Below.refl _ _).alloc (Nat.le_refl _) _)) (hqw.below ((Below.refl _ _).alloc (Nat.le_refl _) _))⟩ ((Below.refl _ _).alloc (Nat.le_refl _) _)
 refine R7.Chain.call (fun xs v w=>∃ g,v=.agg #[.int .i64 15,.bool false,.slice none 0 0,.string ⟨#[]⟩,.slice (some ⟨g,0,none⟩) 2 2]/\FC w (fun b=>b≠kr) (d+2) (.agg #[.int .i64 15,.bool false,.slice none 0 0,.string ⟨#[]⟩,.slice (some ⟨g,0,none⟩) 2 2]) (.node 15 0 ⟨#[]⟩ [(.node 2 0 ⟨#[]⟩ [p,.node 0 1 ⟨#[]⟩ []]),q])) (fun _ _ _ _ h hb=>by obtain⟨g,h1,h2⟩:=h;exact⟨g,h1,h2.below hb⟩) (fun _ _ _ _ _ _ h _=>by obtain⟨q,hq,_⟩:=h;exact absurd hq (Nat.not_lt_zero _)) (by rfl) (fun T xs wr hA=>?_) ?_
 ·have hsw:=(hA.be 0 (Nat.zero_le _) (fun _ _=>Nat.zero_le _)).size;have e10:=hA.tm 5 10 (by rfl) (by rfl);have hbw:=undrew (hA.be x3.heap.size (Nat.le_refl _) (fun q h=>absurd h (Nat.not_lt_zero q)));have hF5:∃ g,(xs 5)=.slice (some ⟨g,0,none⟩) 2 2/\FL wr (fun b=>b≠kr) (d+1) (.slice (some ⟨g,0,none⟩) 2 2) [(.node 2 0 ⟨#[]⟩ [p,.node 0 1 ⟨#[]⟩ []]),q]:=hA.fa 5 (by rfl);obtain⟨g5,e5,hl5⟩:=hF5;clear hA;refine⟨(by rfl),fun K hK=>?_⟩;go_simp
  refine (of_p 15 _ _ _ _).mono ?_;rintro e w' ⟨rfl,hb'⟩;exact hK.out _ _ ⟨_,rfl,FC.mk (by unfold IR;decide) (nr0 _) (hl5.below hb')⟩ hb'
 refine R7.Chain.done (fun xs x4 hL=>?_);obtain⟨⟨hbe,hbl⟩,hf,-,-⟩:=hL;have f0:xs 0=_:=hf 0 (by decide)
 (try simp (disch:=first | rfl | decide) only [R7.mask_in] at f0)
 have F1:∃ b o l c,(xs 1)=.agg #[.int .i64 0,.bool b,.slice o l c,.string ⟨#[]⟩,.slice none 0 0]/\FC x4 (fun b=>b≠kr) 1 (.agg #[.int .i64 0,.bool b,.slice o l c,.string ⟨#[]⟩,.slice none 0 0]) (.node 0 1 ⟨#[]⟩ []):=hf 1 (by decide);have F2:∃ g,(xs 2)=.slice (some ⟨g,0,none⟩) 2 2/\FL x4 (fun b=>b≠kr) d (.slice (some ⟨g,0,none⟩) 2 2) [p,.node 0 1 ⟨#[]⟩ []]:=hf 2 (by decide);have F3:∃ g,(xs 3)=.agg #[.int .i64 2,.bool false,.slice none 0 0,.string ⟨#[]⟩,.slice (some ⟨g,0,none⟩) 2 2]/\FC x4 (fun b=>b≠kr) (d+1) (.agg #[.int .i64 2,.bool false,.slice none 0 0,.string ⟨#[]⟩,.slice (some ⟨g,0,none⟩) 2 2]) (.node 2 0 ⟨#[]⟩ [p,.node 0 1 ⟨#[]⟩ []]):=hf 3 (by decide);have f4:xs 4=_:=hf 4 (by decide)
 (try simp (disch:=first | rfl | decide) only [R7.mask_in] at f4)
 have F5:∃ g,(xs 5)=.slice (some ⟨g,0,none⟩) 2 2/\FL x4 (fun b=>b≠kr) (d+1) (.slice (some ⟨g,0,none⟩) 2 2) [(.node 2 0 ⟨#[]⟩ [p,.node 0 1 ⟨#[]⟩ []]),q]:=hf 5 (by decide);have F6:∃ g,(xs 6)=.agg #[.int .i64 15,.bool false,.slice none 0 0,.string ⟨#[]⟩,.slice (some ⟨g,0,none⟩) 2 2]/\FC x4 (fun b=>b≠kr) (d+2) (.agg #[.int .i64 15,.bool false,.slice none 0 0,.string ⟨#[]⟩,.slice (some ⟨g,0,none⟩) 2 2]) (.node 15 0 ⟨#[]⟩ [(.node 2 0 ⟨#[]⟩ [p,.node 0 1 ⟨#[]⟩ []]),q]):=hf 6 (by decide);have hb0:Below 0 x3 x4:=undrew (hbe 0 (Nat.zero_le _) (fun _ _=>Nat.zero_le _));have hgr:∀ j,j<x3.heap.size->(∀ q,q<0->(fun q=>0) q≠j)->x4.heap[j]?=x3.heap[j]?:=hbl;clear hbe hbl hf;have hb:Below x3.heap.size x3 x4:=⟨hb0.os,hb0.tape,hb0.output,hb0.size,fun q hq=>hgr q hq (fun q h=>absurd h (Nat.not_lt_zero _))⟩
 refine R7.rest_list (by decide) (by kernel_rfl) ?_;simp only[R7.fill,t1_,t2_,t3_,t4_,t5_,t6_,t7_,f0,f4];clear hb0 hgr hog hlt_a hlt_q f0 f4;replace HBa:=kBV hb HBa;replace HBq:=kBV hb HBq;replace HBr:=kBV hb HBr;replace HW:=Lib.hid (HW.out.trans (hb.mono HW.out.size));replace HP:=Lib.hid (HP.out.below hb);replace HQ:=Lib.hid (HQ.out.below hb);replace hb:=Lib.hid hb;obtain⟨g,hy1,hy2⟩:=F6;have HV:=Lib.hid hy2;obtain⟨⟨r0,r1,r2,r3,r4⟩,fr0,fr1,fr2,fr3,fr4⟩:=cells5V HBr.out;go_wp2_with fail
 obtain⟨s1,s2⟩:=res5F HW.out HBr.out n32_F HKr.out (.int .i64 15) (.bool false) (.slice none 0 0) (.string ⟨#[]⟩) (.slice (some ⟨g,0,none⟩) 2 2)
 (try simp only[Exit.inBlock,Exit.then])
 exact bodyPost_ret (v:=.agg #[.int .i64 15,.bool false,.slice none 0 0,.string ⟨#[]⟩,.slice (some ⟨g,0,none⟩) 2 2]) (by simp[results,Try.results22,go_sem,r0,r1,r2,r3,r4]) rfl ⟨_,rfl,(HV.out.put (grown5V _ _ _ _ _) s1).t,s2⟩
attribute [local go_sem] fieldV0 fieldV1 fieldV2 fieldV3
theorem EL.one {w:World} {g:Nat} {nm:ByteArray} {k:Int} {b d:Bool} {o p:Option Addr} {l c m q:Nat} {x:V} (hB:w.heap[g]?=some (.cells #[.string nm,.int .i64 k,.bool b,.slice o l c,.bool d,.slice p m q] 59 (0,0))) (hv:VC w (.agg #[.int .i64 k,.bool b,.slice o l c,.bool d,.slice p m q]) x):EL w (.slice (some ⟨g,0,none⟩) 1 1) [(nm,x)]:=by
 obtain⟨u,_,_,_,_,_,_,_,_,_,e,hu,hx,hR⟩:=hv.unit;injection e with e;have e2:=congrArg Array.toList e;refine⟨[⟨nm,u⟩],El.At.block (E:=bE) (el:=[⟨nm,u⟩]) ?_ (show 1<=maxLen by decide) (fun a ha=>by rw[List.mem_singleton] at ha;subst ha;exact hR),by unfold envOf;simp[hx]⟩;rw[hB];have:bE.f ⟨nm,u⟩=.string nm::vC u:=rfl;simp only[List.flatMap_cons,List.flatMap_nil,List.append_nil,this,hu];simp only[List.cons.injEq] at e2;obtain⟨h1,h2,h3,h4,h5,-⟩:=e2;rw[h1,h2,h3,h4,h5];rfl
def FX:F:=.node 15 0 ⟨#[]⟩ [.node 2 0 ⟨#[]⟩ [.node 1 0 ⟨#[120]⟩ [],.node 0 1 ⟨#[]⟩ []],.node 0 3 ⟨#[]⟩ []]
theorem rtFX:rt FX=true:=by decide
theorem szFX:szF FX=5:=by decide
theorem evFX (r:ByteArray->V):ev r FX=.B (decide (asI (r ⟨#[120]⟩)+1<=3)):=by
 simp only[FX,ev,evs,opV,at0,at1];rfl
theorem small600 {n:Nat} (h:n<1000):n<L32 ^ 600:=lt_pow_more (k:=1) (k':=600) (Nat.lt_of_lt_of_le h (by decide)) (by decide)
theorem smFX (r:ByteArray->V) (h:(asI (r ⟨#[120]⟩)).natAbs<=10):Sm r FX:=by
 simp only[FX,Sm,Sms,and_true,true_and,opV,evs,ev,at0,at1];exact⟨trivial,⟨small600 (by show (asI (r ⟨#[120]⟩)+1).natAbs<1000;omega),small600 (by show (asI (r ⟨#[120]⟩)).natAbs<1000;omega),small600 (by decide)⟩,small600 (by decide)⟩
theorem rho_x (z:Int):rho [((⟨#[120]⟩:ByteArray),V.I z)] ⟨#[120]⟩=.I z:=by
 rw[show [((⟨#[120]⟩:ByteArray),V.I z)]=[]++[((⟨#[120]⟩:ByteArray),V.I z)] from rfl,rho_app,if_pos rfl]
theorem fit_p (w:World):Calls Try.prog 6 #[] w fun e w'=>e=.returned (.bool true)/\Below w.heap.size w w':=by
 have HW:=Lib.hid (Below.refl w.heap.size w);go_enter Try.func6,Try.ntmps6
 go_wp2_with fail
 refine (var_p ⟨#[120]⟩ 0 w).mono ?_;rintro e x1 ⟨rfl,hb⟩;replace HW:=Lib.hid (HW.out.trans (hb.mono HW.out.size));go_wp2_with fail
 refine (int_p 3 x1 (by decide) (by decide)).mono ?_;rintro e x2 ⟨b1,o1,l1,c1,rfl,hc,hb⟩;replace HW:=Lib.hid (HW.out.trans (hb.mono HW.out.size));have HC:=Lib.hid hc;clear hc;go_wp2_with fail
 refine (less_p _ _ (.node 1 0 ⟨#[120]⟩ []) (.node 0 3 ⟨#[]⟩ []) 1 x2 (Nat.le_refl _) (FC.mk (d:=0) (by unfold IR;decide) (nr0 _) (FL.nil _ _ _)) ((FC.mk (d:=0) (by unfold IR;decide) HC.out (FL.nil _ _ _)).up (by decide))).mono ?_;rintro e x3 ⟨v,rfl,hf,hb⟩;replace HW:=Lib.hid (HW.out.trans (hb.mono HW.out.size));replace HC:=Lib.hid (HC.out.below hb);obtain⟨b,ao,l,c,ko,kl,kc,rfl,-,-,-⟩:=hf.open;have HF:Hid (FC x3 tS 3 (.agg #[.int .i64 15,.bool b,.slice ao l c,.string ⟨#[]⟩,.slice ko kl kc]) FX):=Lib.hid hf;clear hf HC;simp only[F.op,F.name];obtain⟨x4,kf,ef,ekf,hbf,hkf,HBf⟩:=newV x3 #[.int .i64 15,.bool b,.slice ao l c,.string ⟨#[]⟩,.slice ko kl kc] 29;replace HW:=Lib.hid (HW.out.trans (hbf.out.mono HW.out.size));replace HF:=Lib.hid (HF.out.below hbf.out);go_wp2_with fail
 refine (wof_any 2 x4 (by decide) (by decide)).mono ?_;rintro e x5 ⟨x,rfl,hx,hb⟩;replace HBf:=kBV hb HBf;replace HW:=Lib.hid (HW.out.trans (hb.mono HW.out.size));replace HF:=Lib.hid (HF.out.below hb);have HX:=Lib.hid hx;clear hx;obtain⟨xb,xo,xl,xc,rfl⟩:=HX.out.shape;go_wp2_with fail
 refine (ofInt_p _ _ 2 x5 HX.out.gi (by decide)).mono ?_;rintro e x6 ⟨v,rfl,hv,hb⟩;replace HBf:=kBV hb HBf;replace HW:=Lib.hid (HW.out.trans (hb.mono HW.out.size));replace HF:=Lib.hid (HF.out.below hb);obtain⟨o2,l2,c2,rfl,hn⟩:=hv.int;have hd2:decide ((2:Int)<0)=false:=rfl;rw[hd2] at hv ⊢;clear hd2;have HV:=Lib.hid hv;clear hv hn HX;obtain⟨x7,ky,ey,eky,hby,hky,HBy⟩:=newV x6 #[.string ⟨#[120]⟩,.int .i64 0,.bool false,.slice o2 l2 c2,.bool false,.slice none 0 0] 59;replace HBf:=kBV hby.out HBf;replace HW:=Lib.hid (HW.out.trans (hby.out.mono HW.out.size));replace HF:=Lib.hid (HF.out.below hby.out);replace HV:=Lib.hid (HV.out.below hby.out);have HEL:=Lib.hid (EL.one HBy.out HV.out);clear HV;go_upto_region 3 with fail
 have hlt_f:=lt_of_block HBf.out;have hog:Hid (∀ q,q<0->(fun q=>0) q<x7.heap.size):=Lib.hid (fun q h=>absurd h (Nat.not_lt_zero _))
 refine R7.region (by kernel_rfl) [[],[0],[0,1],[0,1,2],[0,1,2],[0,1,2,3,4],[0,1,2,3,4,5],[0,1,2,3,4,5,6],[0,1,2,3,4,5,6,7],[0,1,2,3,4,5,6,7],[0,1,2,3,4,5,6,7,9],[0,1,2,3,4,5,6,7,9,10],[0,1,2,3,4,5,6,7,9,10,11],[0,1,2,3,4,5,6,7,8,9,10,11,12],[0,1,2,3,4,5,6,7,8,9,10,11,12,13],[0,1,2,3,4,5,6,7,8,9,10,11,12,13,14],[0,1,2,3,4,5,6,7,8,9,10,11,12,13,14,15],[0,1,2,3,4,5,6,7,8,9,10,11,12,13,14,15,16],[0,1,2,3,4,5,6,7,8,9,10,11,12,13,14,15,16,17],[0,1,2,3,4,5,6,7,8,9,10,11,12,13,14,15,16,17,18],[0,1,2,3,4,5,6,7,8,9,10,11,12,13,14,15,16,17,18,19],[0,1,2,3,4,5,6,7,8,9,10,11,12,13,14,15,16,17,18,19,20]] [] [] (fun q=>0) 0 22 (by kernel_rfl) (by kernel_rfl) (by rfl) hog.out (fun q q' h h' hn=>absurd hn (by omega)) ?_
 refine R7.Chain.det ?_ (by rfl) (fun T xs wr hA=>?_) ?_
 rotate_left 1
 ·have e1:=hA.pre 1 (by kernel_rfl);simp only[gsa,gsc,gsz] at e1;have hBq:wr.heap[kf]?=_:=(hA.bl _ hlt_f (fun q h=>absurd h (Nat.not_lt_zero _))).trans HBf.out;have q0:=cell_at (v:=.int .i64 15) hBq 0 rfl;have q1:=cell_at (v:=.bool b) hBq 1 rfl;have q2:=cell_at (v:=.slice ao l c) hBq 2 rfl;have q3:=cell_at (v:=.string ⟨#[]⟩) hBq 3 rfl;have q4:=cell_at (v:=.slice ko kl kc) hBq 4 rfl;clear hBq;clear hA;refine⟨(by rfl),?_⟩;go_simp<;>(try with_reducible rfl)
 refine R7.Chain.call (fun xs v w=>v=.bool true) (fun _ _ _ _ h _=>h) (fun _ _ _ _ _ h _ _=>h) (by rfl) (fun T xs wr hA=>?_) ?_
 ·have hsw:=(hA.be 0 (Nat.zero_le _) (fun _ _=>Nat.zero_le _)).size;have e10:=hA.tm 0 10 (by rfl) (by rfl);have f10:xs 0=_:=hA.fa 0 (by rfl)
  (try simp (disch:=first | rfl | decide) only [R7.mask_in] at f10)
  rw[f10] at e10;clear f10;have hbw:=undrew (hA.be x7.heap.size (Nat.le_refl _) (fun q h=>absurd h (Nat.not_lt_zero q)));have hfw:=HF.out.below hbw;clear hA;refine⟨(by rfl),fun K hK=>?_⟩;go_simp
  refine (right_p 3 _ FX tS _ hfw).mono ?_;rintro e w' ⟨rfl,hb'⟩;exact hK.out _ _ (by rw[rtFX]) hb'
 refine R7.Chain.det ?_ (by rfl) (fun T xs wr hA=>?_) ?_
 rotate_left 1
 ·have e11:=hA.tm 1 11 (by rfl) (by rfl);have f11:xs 1=(.bool true):=hA.fa 1 (by rfl);rw[f11] at e11;clear f11;clear hA;refine⟨(by rfl),?_⟩;go_simp<;>(try with_reducible rfl)
 refine R7.Chain.det ?_ (by rfl) (fun T xs wr hA=>?_) ?_
 rotate_left 1
 ·have e12:=hA.tm 2 12 (by rfl) (by rfl);have f12:xs 2=_:=hA.fa 2 (by rfl)
  (try simp (disch:=first | rfl | decide) only [R7.mask_in] at f12)
  rw[f12] at e12;clear f12;have e1:=hA.pre 1 (by kernel_rfl);simp only[gsa,gsc,gsz] at e1;have hBq:wr.heap[kf]?=_:=(hA.bl _ hlt_f (fun q h=>absurd h (Nat.not_lt_zero _))).trans HBf.out;have q0:=cell_at (v:=.int .i64 15) hBq 0 rfl;have q1:=cell_at (v:=.bool b) hBq 1 rfl;have q2:=cell_at (v:=.slice ao l c) hBq 2 rfl;have q3:=cell_at (v:=.string ⟨#[]⟩) hBq 3 rfl;have q4:=cell_at (v:=.slice ko kl kc) hBq 4 rfl;clear hBq;clear hA;refine⟨((Rely.wanted_at rfl (by rfl) e12).trans (by rfl)),?_⟩;go_simp<;>(try with_reducible rfl)
 refine R7.Chain.det ?_ (by rfl) (fun T xs wr hA=>?_) ?_
 rotate_left 1
 ·have e12:=hA.tm 2 12 (by rfl) (by rfl);have f12:xs 2=_:=hA.fa 2 (by rfl)
  (try simp (disch:=first | rfl | decide) only [R7.mask_in] at f12)
  rw[f12] at e12;clear f12;have e2:=hA.pre 2 (by kernel_rfl);simp only[gsa,gsc,gsz] at e2;clear hA;refine⟨((Rely.wanted_at rfl (by rfl) e12).trans (by rfl)),?_⟩;go_simp<;>(try with_reducible rfl)
 refine R7.Chain.call (fun xs v w=>v=.bool true) (fun _ _ _ _ h _=>h) (fun _ _ _ _ _ h _ _=>h) (by rfl) (fun T xs wr hA=>?_) ?_
 ·have e12:=hA.tm 2 12 (by rfl) (by rfl);have f12:xs 2=_:=hA.fa 2 (by rfl)
  (try simp (disch:=first | rfl | decide) only [R7.mask_in] at f12)
  rw[f12] at e12;clear f12;have hsw:=(hA.be 0 (Nat.zero_le _) (fun _ _=>Nat.zero_le _)).size;have e13:=hA.tm 3 13 (by rfl) (by rfl);have f13:xs 3=_:=hA.fa 3 (by rfl)
  (try simp (disch:=first | rfl | decide) only [R7.mask_in] at f13)
  rw[f13] at e13;clear f13;have e14:=hA.tm 4 14 (by rfl) (by rfl);have f14:xs 4=_:=hA.fa 4 (by rfl)
  (try simp (disch:=first | rfl | decide) only [R7.mask_in] at f14)
  rw[f14] at e14;clear f14;have hbw:=undrew (hA.be x7.heap.size (Nat.le_refl _) (fun q h=>absurd h (Nat.not_lt_zero q)));have hfw:=HF.out.below hbw;clear hA;refine⟨((Rely.wanted_at rfl (by rfl) e12).trans (by rfl)),fun K hK=>?_⟩;go_simp
  refine (holds_p 3 _ _ [(⟨#[120]⟩,.I 2)] FX tS _ hfw (HEL.out.below hbw) rtFX (smFX _ (by rw[rho_x];decide))).mono ?_;rintro e w' ⟨rfl,hb'⟩;exact hK.out _ _ (by rw[evFX,rho_x];rfl) hb'
 refine R7.Chain.det ?_ (by rfl) (fun T xs wr hA=>?_) ?_
 rotate_left 1
 ·have e12:=hA.tm 2 12 (by rfl) (by rfl);have f12:xs 2=_:=hA.fa 2 (by rfl)
  (try simp (disch:=first | rfl | decide) only [R7.mask_in] at f12)
  rw[f12] at e12;clear f12;have e15:=hA.tm 5 15 (by rfl) (by rfl);have f15:xs 5=(.bool true):=hA.fa 5 (by rfl);rw[f15] at e15;clear f15;clear hA;refine⟨(by rfl),?_⟩;go_simp<;>(try with_reducible rfl)
 refine R7.Chain.det ?_ (by rfl) (fun T xs wr hA=>?_) ?_
 rotate_left 1
 ·have e16:=hA.tm 6 16 (by rfl) (by rfl);have f16:xs 6=_:=hA.fa 6 (by rfl)
  (try simp (disch:=first | rfl | decide) only [R7.mask_in] at f16)
  rw[f16] at e16;clear f16;clear hA;refine⟨(by rfl),?_⟩;go_simp<;>(try with_reducible rfl)
 refine R7.Chain.det ?_ (by rfl) (fun T xs wr hA=>?_) ?_
 rotate_left 1
 ·have e17:=hA.tm 7 17 (by rfl) (by rfl);have f17:xs 7=_:=hA.fa 7 (by rfl)
  (try simp (disch:=first | rfl | decide) only [R7.mask_in] at f17)
  rw[f17] at e17;clear f17;have e1:=hA.pre 1 (by kernel_rfl);simp only[gsa,gsc,gsz] at e1;have hBq:wr.heap[kf]?=_:=(hA.bl _ hlt_f (fun q h=>absurd h (Nat.not_lt_zero _))).trans HBf.out;have q0:=cell_at (v:=.int .i64 15) hBq 0 rfl;have q1:=cell_at (v:=.bool b) hBq 1 rfl;have q2:=cell_at (v:=.slice ao l c) hBq 2 rfl;have q3:=cell_at (v:=.string ⟨#[]⟩) hBq 3 rfl;have q4:=cell_at (v:=.slice ko kl kc) hBq 4 rfl;clear hBq;clear hA;refine⟨((Rely.wanted_at rfl (by rfl) e17).trans (by rfl)),?_⟩;go_simp<;>(try with_reducible rfl)
 refine R7.Chain.call (fun xs v w=>∃ b o l c,v=.agg #[.bool b,.slice o l c]/\CI w (.agg #[.bool b,.slice o l c]) 3 2) (fun _ _ _ _ h hb=>by obtain⟨b,o,l,c,h1,h2⟩:=h;exact⟨b,o,l,c,h1,h2.below hb⟩) (fun _ _ _ _ _ _ h _=>by obtain⟨q,hq,_⟩:=h;exact absurd hq (Nat.not_lt_zero _)) (by rfl) (fun T xs wr hA=>?_) ?_
 ·have e17:=hA.tm 7 17 (by rfl) (by rfl);have f17:xs 7=_:=hA.fa 7 (by rfl)
  (try simp (disch:=first | rfl | decide) only [R7.mask_in] at f17)
  rw[f17] at e17;clear f17;have hsw:=(hA.be 0 (Nat.zero_le _) (fun _ _=>Nat.zero_le _)).size;have hbw:=undrew (hA.be x7.heap.size (Nat.le_refl _) (fun q h=>absurd h (Nat.not_lt_zero q)));clear hA;refine⟨((Rely.wanted_at rfl (by rfl) e17).trans (by rfl)),fun K hK=>?_⟩;go_simp
  refine (wof_any 3 _ (by decide) (by decide)).mono ?_;rintro e w' ⟨x,rfl,hx,hb'⟩;obtain⟨b,o,l,c,rfl⟩:=hx.shape;exact hK.out _ _ ⟨b,o,l,c,rfl,hx⟩ hb'
 refine R7.Chain.call (fun xs v w=>∃ o l c,v=.agg #[.int .i64 0,.bool false,.slice o l c,.bool false,.slice none 0 0]/\VC w (.agg #[.int .i64 0,.bool false,.slice o l c,.bool false,.slice none 0 0]) (.I 3)) (fun _ _ _ _ h hb=>by obtain⟨o,l,c,h1,h2⟩:=h;exact⟨o,l,c,h1,h2.below hb⟩) (fun _ _ _ _ _ _ h _=>by obtain⟨q,hq,_⟩:=h;exact absurd hq (Nat.not_lt_zero _)) (by rfl) (fun T xs wr hA=>?_) ?_
 ·have e17:=hA.tm 7 17 (by rfl) (by rfl);have f17:xs 7=_:=hA.fa 7 (by rfl)
  (try simp (disch:=first | rfl | decide) only [R7.mask_in] at f17)
  rw[f17] at e17;clear f17;have hsw:=(hA.be 0 (Nat.zero_le _) (fun _ _=>Nat.zero_le _)).size;have e19:=hA.tm 9 19 (by rfl) (by rfl);have hbw:=undrew (hA.be x7.heap.size (Nat.le_refl _) (fun q h=>absurd h (Nat.not_lt_zero q)));have hF9:∃ b o l c,(xs 9)=.agg #[.bool b,.slice o l c]/\CI wr (.agg #[.bool b,.slice o l c]) 3 2:=hA.fa 9 (by rfl);obtain⟨b9,o9,l9,c9,e9,hc9⟩:=hF9;clear hA;refine⟨((Rely.wanted_at rfl (by rfl) e17).trans (by rfl)),fun K hK=>?_⟩;go_simp
  refine (ofInt_p _ 3 2 _ hc9.gi (by decide)).mono ?_;rintro e w' ⟨x,rfl,hx,hb'⟩;obtain⟨o,l,c,rfl,-⟩:=hx.int;exact hK.out _ _ ⟨o,l,c,rfl,hx⟩ hb'
 refine R7.Chain.call (fun xs v w=>∃ o l c,v=.agg #[.string ⟨#[120]⟩,.int .i64 0,.bool false,.slice o l c,.bool false,.slice none 0 0]/\VC w (.agg #[.int .i64 0,.bool false,.slice o l c,.bool false,.slice none 0 0]) (.I 3)) (fun _ _ _ _ h hb=>by obtain⟨o,l,c,h1,h2⟩:=h;exact⟨o,l,c,h1,h2.below hb⟩) (fun _ _ _ _ _ _ h _=>by obtain⟨q,hq,_⟩:=h;exact absurd hq (Nat.not_lt_zero _)) (by rfl) (fun T xs wr hA=>?_) ?_
 ·have e17:=hA.tm 7 17 (by rfl) (by rfl);have f17:xs 7=_:=hA.fa 7 (by rfl)
  (try simp (disch:=first | rfl | decide) only [R7.mask_in] at f17)
  rw[f17] at e17;clear f17;have hsw:=(hA.be 0 (Nat.zero_le _) (fun _ _=>Nat.zero_le _)).size;have e20:=hA.tm 10 20 (by rfl) (by rfl);have hF10:∃ o l c,(xs 10)=.agg #[.int .i64 0,.bool false,.slice o l c,.bool false,.slice none 0 0]/\VC wr (.agg #[.int .i64 0,.bool false,.slice o l c,.bool false,.slice none 0 0]) (.I 3):=hA.fa 10 (by rfl);obtain⟨o10,l10,c10,e10,hc10⟩:=hF10;clear hA;refine⟨((Rely.wanted_at rfl (by rfl) e17).trans (by rfl)),fun K hK=>?_⟩;go_simp
  exact hK.out _ _ ⟨_,_,_,rfl,hc10⟩ (Below.refl _ _)
 refine R7.Chain.call (fun xs v w=>∃ g,v=.slice (some ⟨g,0,none⟩) 1 1/\EL w (.slice (some ⟨g,0,none⟩) 1 1) [(⟨#[120]⟩,.I 3)]) (fun _ _ _ _ h hb=>by obtain⟨g,h1,h2⟩:=h;exact⟨g,h1,h2.below hb⟩) (fun _ _ _ _ _ _ h _=>by obtain⟨q,hq,_⟩:=h;exact absurd hq (Nat.not_lt_zero _)) (by rfl) (fun T xs wr hA=>?_) ?_
 ·have e17:=hA.tm 7 17 (by rfl) (by rfl);have f17:xs 7=_:=hA.fa 7 (by rfl)
  (try simp (disch:=first | rfl | decide) only [R7.mask_in] at f17)
  rw[f17] at e17;clear f17;have hsw:=(hA.be 0 (Nat.zero_le _) (fun _ _=>Nat.zero_le _)).size;have e21:=hA.tm 11 21 (by rfl) (by rfl);have hF11:∃ o l c,(xs 11)=.agg #[.string ⟨#[120]⟩,.int .i64 0,.bool false,.slice o l c,.bool false,.slice none 0 0]/\VC wr (.agg #[.int .i64 0,.bool false,.slice o l c,.bool false,.slice none 0 0]) (.I 3):=hA.fa 11 (by rfl);obtain⟨o11,l11,c11,e11,hc11⟩:=hF11;clear hA;refine⟨((Rely.wanted_at rfl (by rfl) e17).trans (by rfl)),fun K hK=>?_⟩;go_simp
  exact hK.out _ _ ⟨_,rfl,EL.one (made_at _ _ _ rfl) (hc11.below ((Below.refl _ _).alloc (Nat.le_refl _) _))⟩ ((Below.refl _ _).alloc (Nat.le_refl _) _)
 refine R7.Chain.call (fun xs v w=>v=.bool false) (fun _ _ _ _ h _=>h) (fun _ _ _ _ _ h _ _=>h) (by rfl) (fun T xs wr hA=>?_) ?_
 ·have e17:=hA.tm 7 17 (by rfl) (by rfl);have f17:xs 7=_:=hA.fa 7 (by rfl)
  (try simp (disch:=first | rfl | decide) only [R7.mask_in] at f17)
  rw[f17] at e17;clear f17;have hsw:=(hA.be 0 (Nat.zero_le _) (fun _ _=>Nat.zero_le _)).size;have e18:=hA.tm 8 18 (by rfl) (by rfl);have f18:xs 8=_:=hA.fa 8 (by rfl)
  (try simp (disch:=first | rfl | decide) only [R7.mask_in] at f18)
  rw[f18] at e18;clear f18;have e22:=hA.tm 12 22 (by rfl) (by rfl);have hbw:=undrew (hA.be x7.heap.size (Nat.le_refl _) (fun q h=>absurd h (Nat.not_lt_zero q)));have hfw:=HF.out.below hbw;have hF12:∃ g,(xs 12)=.slice (some ⟨g,0,none⟩) 1 1/\EL wr (.slice (some ⟨g,0,none⟩) 1 1) [(⟨#[120]⟩,.I 3)]:=hA.fa 12 (by rfl);obtain⟨g12,e12,hc12⟩:=hF12;clear hA;refine⟨((Rely.wanted_at rfl (by rfl) e17).trans (by rfl)),fun K hK=>?_⟩;go_simp
  refine (holds_p 3 _ _ [(⟨#[120]⟩,.I 3)] FX tS _ hfw hc12 rtFX (smFX _ (by rw[rho_x];decide))).mono ?_;rintro e w' ⟨rfl,hb'⟩;exact hK.out _ _ (by rw[evFX,rho_x];rfl) hb'
 refine R7.Chain.det ?_ (by rfl) (fun T xs wr hA=>?_) ?_
 rotate_left 1
 ·have e17:=hA.tm 7 17 (by rfl) (by rfl);have f17:xs 7=_:=hA.fa 7 (by rfl)
  (try simp (disch:=first | rfl | decide) only [R7.mask_in] at f17)
  rw[f17] at e17;clear f17;have e23:=hA.tm 13 23 (by rfl) (by rfl);have f23:xs 13=(.bool false):=hA.fa 13 (by rfl);rw[f23] at e23;clear f23;clear hA;refine⟨((Rely.wanted_at rfl (by rfl) e17).trans (by rfl)),?_⟩;go_simp<;>(try with_reducible rfl)
 refine R7.Chain.det ?_ (by rfl) (fun T xs wr hA=>?_) ?_
 rotate_left 1
 ·have e17:=hA.tm 7 17 (by rfl) (by rfl);have f17:xs 7=_:=hA.fa 7 (by rfl)
  (try simp (disch:=first | rfl | decide) only [R7.mask_in] at f17)
  rw[f17] at e17;clear f17;have e24:=hA.tm 14 24 (by rfl) (by rfl);have f24:xs 14=_:=hA.fa 14 (by rfl)
  (try simp (disch:=first | rfl | decide) only [R7.mask_in] at f24)
  rw[f24] at e24;clear f24;clear hA;refine⟨(by rfl),?_⟩;go_simp<;>(try with_reducible rfl)
 refine R7.Chain.det ?_ (by rfl) (fun T xs wr hA=>?_) ?_
 rotate_left 1
 ·have e25:=hA.tm 15 25 (by rfl) (by rfl);have f25:xs 15=_:=hA.fa 15 (by rfl)
  (try simp (disch:=first | rfl | decide) only [R7.mask_in] at f25)
  rw[f25] at e25;clear f25;clear hA;refine⟨(by rfl),?_⟩;go_simp<;>(try with_reducible rfl)
 refine R7.Chain.det ?_ (by rfl) (fun T xs wr hA=>?_) ?_
 rotate_left 1
 ·have e26:=hA.tm 16 26 (by rfl) (by rfl);have f26:xs 16=_:=hA.fa 16 (by rfl)
  (try simp (disch:=first | rfl | decide) only [R7.mask_in] at f26)
  rw[f26] at e26;clear f26;have e1:=hA.pre 1 (by kernel_rfl);simp only[gsa,gsc,gsz] at e1;have hBq:wr.heap[kf]?=_:=(hA.bl _ hlt_f (fun q h=>absurd h (Nat.not_lt_zero _))).trans HBf.out;have q0:=cell_at (v:=.int .i64 15) hBq 0 rfl;have q1:=cell_at (v:=.bool b) hBq 1 rfl;have q2:=cell_at (v:=.slice ao l c) hBq 2 rfl;have q3:=cell_at (v:=.string ⟨#[]⟩) hBq 3 rfl;have q4:=cell_at (v:=.slice ko kl kc) hBq 4 rfl;clear hBq;clear hA;refine⟨((Rely.wanted_at rfl (by rfl) e26).trans (by rfl)),?_⟩;go_simp<;>(try with_reducible rfl)
 refine R7.Chain.call (fun xs v w=>v=.int .i64 5) (fun _ _ _ _ h _=>h) (fun _ _ _ _ _ h _ _=>h) (by rfl) (fun T xs wr hA=>?_) ?_
 ·have e26:=hA.tm 16 26 (by rfl) (by rfl);have f26:xs 16=_:=hA.fa 16 (by rfl)
  (try simp (disch:=first | rfl | decide) only [R7.mask_in] at f26)
  rw[f26] at e26;clear f26;have hsw:=(hA.be 0 (Nat.zero_le _) (fun _ _=>Nat.zero_le _)).size;have e27:=hA.tm 17 27 (by rfl) (by rfl);have f27:xs 17=_:=hA.fa 17 (by rfl)
  (try simp (disch:=first | rfl | decide) only [R7.mask_in] at f27)
  rw[f27] at e27;clear f27;have hbw:=undrew (hA.be x7.heap.size (Nat.le_refl _) (fun q h=>absurd h (Nat.not_lt_zero q)));have hfw:=HF.out.below hbw;clear hA;refine⟨((Rely.wanted_at rfl (by rfl) e26).trans (by rfl)),fun K hK=>?_⟩;go_simp
  refine (size_p 3 _ FX tS _ hfw (by rw[szFX];decide)).mono ?_;rintro e w' ⟨rfl,hb'⟩;exact hK.out _ _ (by rw[szFX];rfl) hb'
 refine R7.Chain.det ?_ (by rfl) (fun T xs wr hA=>?_) ?_
 rotate_left 1
 ·have e26:=hA.tm 16 26 (by rfl) (by rfl);have f26:xs 16=_:=hA.fa 16 (by rfl)
  (try simp (disch:=first | rfl | decide) only [R7.mask_in] at f26)
  rw[f26] at e26;clear f26;have e28:=hA.tm 18 28 (by rfl) (by rfl);have f28:xs 18=(.int .i64 5):=hA.fa 18 (by rfl);rw[f28] at e28;clear f28;clear hA;refine⟨((Rely.wanted_at rfl (by rfl) e26).trans (by rfl)),?_⟩;go_simp<;>(try with_reducible rfl)
 refine R7.Chain.det ?_ (by rfl) (fun T xs wr hA=>?_) ?_
 rotate_left 1
 ·have e26:=hA.tm 16 26 (by rfl) (by rfl);have f26:xs 16=_:=hA.fa 16 (by rfl)
  (try simp (disch:=first | rfl | decide) only [R7.mask_in] at f26)
  rw[f26] at e26;clear f26;have e29:=hA.tm 19 29 (by rfl) (by rfl);have f29:xs 19=_:=hA.fa 19 (by rfl)
  (try simp (disch:=first | rfl | decide) only [R7.mask_in] at f29)
  rw[f29] at e29;clear f29;clear hA;refine⟨(by rfl),?_⟩;go_simp<;>(try with_reducible rfl)
 refine R7.Chain.det ?_ (by rfl) (fun T xs wr hA=>?_) ?_
 rotate_left 1
 ·have e30:=hA.tm 20 30 (by rfl) (by rfl);have f30:xs 20=_:=hA.fa 20 (by rfl)
  (try simp (disch:=first | rfl | decide) only [R7.mask_in] at f30)
  rw[f30] at e30;clear f30;clear hA;refine⟨(by rfl),?_⟩;go_simp<;>(try with_reducible rfl)
 refine R7.Chain.done (fun xs x8 hL=>?_);obtain⟨⟨hbe,hbl⟩,hf,-,-⟩:=hL;have f0:xs 0=_:=hf 0 (by decide)
 (try simp (disch:=first | rfl | decide) only [R7.mask_in] at f0)
 have f1:xs 1=(.bool true):=hf 1 (by decide);have f2:xs 2=_:=hf 2 (by decide)
 (try simp (disch:=first | rfl | decide) only [R7.mask_in] at f2)
 have f3:xs 3=_:=hf 3 (by decide)
 (try simp (disch:=first | rfl | decide) only [R7.mask_in] at f3)
 have f4:xs 4=_:=hf 4 (by decide)
 (try simp (disch:=first | rfl | decide) only [R7.mask_in] at f4)
 have f5:xs 5=(.bool true):=hf 5 (by decide);have f6:xs 6=_:=hf 6 (by decide)
 (try simp (disch:=first | rfl | decide) only [R7.mask_in] at f6)
 have f7:xs 7=_:=hf 7 (by decide)
 (try simp (disch:=first | rfl | decide) only [R7.mask_in] at f7)
 have f8:xs 8=_:=hf 8 (by decide)
 (try simp (disch:=first | rfl | decide) only [R7.mask_in] at f8)
 have F9:∃ b o l c,(xs 9)=.agg #[.bool b,.slice o l c]/\CI x8 (.agg #[.bool b,.slice o l c]) 3 2:=hf 9 (by decide);have F10:∃ o l c,(xs 10)=.agg #[.int .i64 0,.bool false,.slice o l c,.bool false,.slice none 0 0]/\VC x8 (.agg #[.int .i64 0,.bool false,.slice o l c,.bool false,.slice none 0 0]) (.I 3):=hf 10 (by decide);have F11:∃ o l c,(xs 11)=.agg #[.string ⟨#[120]⟩,.int .i64 0,.bool false,.slice o l c,.bool false,.slice none 0 0]/\VC x8 (.agg #[.int .i64 0,.bool false,.slice o l c,.bool false,.slice none 0 0]) (.I 3):=hf 11 (by decide);have F12:∃ g,(xs 12)=.slice (some ⟨g,0,none⟩) 1 1/\EL x8 (.slice (some ⟨g,0,none⟩) 1 1) [(⟨#[120]⟩,.I 3)]:=hf 12 (by decide);have f13:xs 13=(.bool false):=hf 13 (by decide);have f14:xs 14=_:=hf 14 (by decide)
 (try simp (disch:=first | rfl | decide) only [R7.mask_in] at f14)
 have f15:xs 15=_:=hf 15 (by decide)
 (try simp (disch:=first | rfl | decide) only [R7.mask_in] at f15)
 have f16:xs 16=_:=hf 16 (by decide)
 (try simp (disch:=first | rfl | decide) only [R7.mask_in] at f16)
 have f17:xs 17=_:=hf 17 (by decide)
 (try simp (disch:=first | rfl | decide) only [R7.mask_in] at f17)
 have f18:xs 18=(.int .i64 5):=hf 18 (by decide);have f19:xs 19=_:=hf 19 (by decide)
 (try simp (disch:=first | rfl | decide) only [R7.mask_in] at f19)
 have f20:xs 20=_:=hf 20 (by decide)
 (try simp (disch:=first | rfl | decide) only [R7.mask_in] at f20)
 have f21:xs 21=_:=hf 21 (by decide)
 (try simp (disch:=first | rfl | decide) only [R7.mask_in] at f21)
 have hb0:Below 0 x7 x8:=undrew (hbe 0 (Nat.zero_le _) (fun _ _=>Nat.zero_le _));have hgr:∀ j,j<x7.heap.size->(∀ q,q<0->(fun q=>0) q≠j)->x8.heap[j]?=x7.heap[j]?:=hbl;clear hbe hbl hf;have hb:Below x7.heap.size x7 x8:=⟨hb0.os,hb0.tape,hb0.output,hb0.size,fun q hq=>hgr q hq (fun q h=>absurd h (Nat.not_lt_zero _))⟩
 refine R7.rest_done ?_;simp only[R7.fill,t5_,t6_,t7_,f0,f1,f2,f3,f4,f5,f6,f7,f8,f13,f14,f15,f16,f17,f18,f19,f20,f21];clear hb0 hgr hog hlt_f f0 f1 f2 f3 f4 f5 f6 f7 f8 f13 f14 f15 f16 f17 f18 f19 f20 f21;replace HBf:=kBV hb HBf;replace HBy:=kBV hb HBy;replace HW:=Lib.hid (HW.out.trans (hb.mono HW.out.size));replace HF:=Lib.hid (HF.out.below hb);replace HEL:=Lib.hid (HEL.out.below hb);replace hb:=Lib.hid hb;go_wp2_with fail
 go_ret
 exact⟨rfl,HW.out⟩
attribute [local go_sem] fieldV0 fieldV1 fieldV2 fieldV3
theorem find_p (ve:Value) (env:List (ByteArray × V)) (nm:ByteArray) (w:World) (h:EL w ve env) :
  Calls Try.prog 21 #[ve,.string nm] w fun e w'=>∃ v,e=.returned v/\VC w' v (rho env nm)/\Below w.heap.size w w':=by
 obtain⟨us,hu,rfl⟩:=h;obtain⟨ko,kc,rfl,hk1,hk2,-⟩:=bAt_cells hu;have hkm:kc<=9223372036854775807:=hk2;obtain⟨N,hN⟩:∃ N,N=us.length:=⟨_,rfl⟩
 rw[<-hN] at hu hk1 ⊢;have HN:=Lib.hid hN;have HU:=Lib.hid hu;clear hN hu hk2;have HW:=Lib.hid (Below.refl w.heap.size w);go_enter Try.func21,Try.ntmps21
 obtain⟨x1,kr,er,ekr,hbr,hkr,HBr⟩:=newV w #[.int .i64 0,.bool false,.slice none 0 0,.bool false,.slice none 0 0] 41;replace HW:=Lib.hid (HW.out.trans (hbr.out.mono HW.out.size));have HKr:Hid (w.heap.size<=kr):=hkr;go_wp2_with fail
 obtain⟨x2,kq,eq,ekq,hbq,hkq,HBq⟩:=newV x1 #[.int .i64 0,.bool false,.slice none 0 0,.bool false,.slice none 0 0] 41;replace HBr:=kBV hbq.out HBr;replace HW:=Lib.hid (HW.out.trans (hbq.out.mono HW.out.size));rw[eq,ekq];have HKq:Hid (w.heap.size<=kq):=Lib.hid (Nat.le_trans hbr.out.size hkq.out);have HQR:Hid (kr<kq):=Lib.hid (by rw[<-ekq];exact lt_of_block (show x1.heap[kr]?=_ from by have:=heap_alloc_new w (.cells #[.int .i64 0,.bool false,.slice none 0 0,.bool false,.slice none 0 0] 41);rw[er,ekr] at this;exact this))
 go_loopw [11] (fun i wr=>∃ (j:Nat) (u:VU),i=.int .i64 (j:Nat)/\j<=N/\Hid (wr.heap[kq]?=some (.cells #[.int .i64 u.k,.bool (decide (u.n.z<0)),.slice u.n.o u.n.l u.n.c,.bool u.b,.slice u.lo u.ll u.lc] 41 (0,0)))/\Hid (wr.heap[kr]?=some (.cells #[.int .i64 0,.bool false,.slice none 0 0,.bool false,.slice none 0 0] 41 (0,0)))/\Hid (VR w u)/\Hid (u.x=rho ((envOf us).take j) nm)/\Hid (Below w.heap.size w wr)) (fun i _=>N - (intOf i).toNat)
 case atStart=>exact⟨0,v0,rfl,Nat.zero_le _,HBq,HBr,Lib.hid (vr0 _),Lib.hid rfl,HW⟩
 case round =>
  obtain⟨wl,hwl⟩:∃ q,q=wr:=⟨_,rfl⟩
  subst hwl;clear HW HBq HBr;obtain⟨j,u,rfl,hj,HBq,HBr,HVR,HUX,HW⟩:=hrel
  by_cases hlt:j<N
  ·have hz:j<us.length:=by rw[<-HN.out];exact hlt
   obtain⟨ko2,kc2,e,-,-,hcs⟩:=bAt_cells (HU.out.below HW.out);injection e with e1 e2 e3;subst e1;obtain⟨a,rfl,d0,d1,d2,d3,d4,d5,-⟩:=hcs j hz;obtain⟨_,_,-,-,-,hcw⟩:=bAt_cells HU.out;obtain⟨_,-,-,-,-,-,-,-,hvr⟩:=hcw j hz;obtain⟨y,hyy⟩:∃ y,y=us[j]:=⟨_,rfl⟩
   rw[<-hyy] at d0 d1 d2 d3 d4 d5 hvr;have HYV:=Lib.hid hvr;have hje:j<(envOf us).length:=by unfold envOf;simpa using hz
   have HRT:Hid (rho ((envOf us).take (j+1)) nm=if y.nm=nm then y.u.x else rho ((envOf us).take j) nm):=Lib.hid (by rw[rho_take _ _ _ hje,show (envOf us)[j]=(y.nm,y.u.x) from by rw[hyy];exact List.getElem_map (fun b:BU=>(b.nm,b.u.x))]);clear hcs hcw e2 e3 hyy hvr hje;obtain⟨x3,k8,e8,ek8,hb8,hk8,HB8⟩:=newV wl #[.string y.nm,.int .i64 y.u.k,.bool (decide (y.u.n.z<0)),.slice y.u.n.o y.u.n.l y.u.n.c,.bool y.u.b,.slice y.u.lo y.u.ll y.u.lc] 59;replace HBq:=kBV hb8.out HBq;replace HBr:=kBV hb8.out HBr;replace HW:=Lib.hid (HW.out.trans (hb8.out.mono HW.out.size));have g0:=cell_at (v:=.string y.nm) HB8.out 0 rfl;have fg0:=froz_at HB8.out 0;have g1:=cell_at (v:=.int .i64 y.u.k) HB8.out 1 rfl;have fg1:=froz_at HB8.out 1;have g2:=cell_at (v:=.bool (decide (y.u.n.z<0))) HB8.out 2 rfl;have fg2:=froz_at HB8.out 2
   have g3:=cell_at (v:=.slice y.u.n.o y.u.n.l y.u.n.c) HB8.out 3 rfl;have fg3:=froz_at HB8.out 3;have g4:=cell_at (v:=.bool y.u.b) HB8.out 4 rfl;have fg4:=froz_at HB8.out 4;have g5:=cell_at (v:=.slice y.u.lo y.u.ll y.u.lc) HB8.out 5 rfl;have fg5:=froz_at HB8.out 5
   by_cases hnm:y.nm=nm
   ·have hne:(y.nm.toList==nm.toList)=true:=bs_yes hnm;have HNM:=Lib.hid hnm;clear hnm;have f0:=froz_at HBq.out 0;have r0:=cell_at (v:=.int .i64 u.k) HBq.out 0 rfl;have f1:=froz_at HBq.out 1;have r1:=cell_at (v:=.bool (decide (u.n.z<0))) HBq.out 1 rfl;have f2:=froz_at HBq.out 2;have r2:=cell_at (v:=.slice u.n.o u.n.l u.n.c) HBq.out 2 rfl;have f3:=froz_at HBq.out 3;have r3:=cell_at (v:=.bool u.b) HBq.out 3 rfl;have f4:=froz_at HBq.out 4;have r4:=cell_at (v:=.slice u.lo u.ll u.lc) HBq.out 4 rfl;go_wp2_with fail
    have hg:=grown5V (w:=x3) (k:=kq) (.int .i64 y.u.k) (.bool (decide (y.u.n.z<0))) (.slice y.u.n.o y.u.n.l y.u.n.c) (.bool y.u.b) (.slice y.u.lo y.u.ll y.u.lc);go_roundw
    case rel=>exact⟨j+1,y.u,by go_num,hlt,Lib.hid (set5_same HBq.out _ _ _ _ _),Lib.hid ((hg.block kr (lt_of_block HBr.out) (fun e=>by injection e with e;have:=HQR.out;omega)).trans HBr.out),HYV,Lib.hid (by rw[HRT.out,if_pos HNM.out]),Lib.hid (ext_below HW.out hg HKq.out)⟩
    case measure=>simp[intOf];omega
   have hne:(y.nm.toList==nm.toList)=false:=bs_no hnm;have HNM:=Lib.hid hnm;clear hnm;go_wp2_with fail
   go_roundw
   case rel=>exact⟨j+1,u,by go_num,hlt,HBq,HBr,HVR,Lib.hid (by rw[HRT.out,if_neg HNM.out];exact HUX.out),HW⟩
   case measure=>simp[intOf];omega
  have HUX2:Hid (u.x=rho (envOf us) nm):=Lib.hid (by have:=HUX.out;rw[show j=N by omega,HN.out,show us.length=(envOf us).length by unfold envOf;simp,List.take_length] at this;exact this);have q0:=cell_at (v:=.int .i64 u.k) HBq.out 0 rfl;have fq0:=froz_at HBq.out 0;have q1:=cell_at (v:=.bool (decide (u.n.z<0))) HBq.out 1 rfl;have fq1:=froz_at HBq.out 1;have q2:=cell_at (v:=.slice u.n.o u.n.l u.n.c) HBq.out 2 rfl;have fq2:=froz_at HBq.out 2;have q3:=cell_at (v:=.bool u.b) HBq.out 3 rfl;have fq3:=froz_at HBq.out 3;have q4:=cell_at (v:=.slice u.lo u.ll u.lc) HBq.out 4 rfl;have fq4:=froz_at HBq.out 4;obtain⟨⟨r0,r1,r2,r3,r4⟩,fr0,fr1,fr2,fr3,fr4⟩:=cells5V HBr.out;go_wp2_with fail
  clear q0 fq0 q1 fq1 q2 fq2 q3 fq3 q4 fq4;obtain⟨s1,s2⟩:=res5V HW.out HBr.out n32_5 HKr.out (.int .i64 u.k) (.bool (decide (u.n.z<0))) (.slice u.n.o u.n.l u.n.c) (.bool u.b) (.slice u.lo u.ll u.lc)
  (try simp only[Exit.inBlock,Exit.then])
  exact bodyPost_ret (v:=vV u) (by simp[results,Try.results21,go_sem,r0,r1,r2,r3,r4,vV]) rfl ⟨_,rfl,⟨u,rfl,HUX2.out,(HVR.out.below HW.out).fr (by decide) s1⟩,s2⟩
end Go.Proofs.Ytdkfnbbebpbhaaa
